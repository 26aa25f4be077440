/-
  A heap kept in a slice: the first item taken out.
-/
import Derived.Test.YtcfghnffacdekabSf
namespace Go.Proofs.Ytcfghnffacdekab
open Go.RowKit Va Vh
set_option linter.unusedVariables false

theorem HP.shrink {W : World} {H gi cap : Nat} {f : Value} {l : List Int} (h : HP W H f gi cap l) {m : Nat} (hm : m ≤ l.length) : HP (W.setCell ⟨H, 0, none⟩ (.slice (some ⟨gi, 0, none⟩) m cap)) H f gi cap (l.take m) := by
  obtain ⟨fa, fb⟩ := farS (show gi ≠ H from fun e => h.ne e.symm)
  have e : (l.take m).length = m := by rw [List.length_take]; omega
  obtain ⟨cur, q1, q2, q3, q4⟩ := h.blk
  refine ⟨by rw [e]; exact World.cell?_setCell_same _ _ _ h.c0, by rw [World.cell?_setCell_other (h := by simp)]; exact h.c1, by rw [World.frozen?_setCell]; exact h.f0, ⟨cur, (Below.heap_setCell _ _ _ _ (by simpa using fun e => h.ne e.symm)).trans q1, q2, by omega, fun i hi => ?_⟩, h.ne⟩
  rw [e] at hi
  rw [take_g hi]
  exact q4 i (by omega)
theorem Fr.setH {H : Nat} {ob : Option Nat} {x y : World} (h : Fr H ob x y) (o : Nat) (u : Value) : Fr H ob x (y.setCell ⟨H, o, none⟩ u) :=
  ⟨h.os, h.tape, h.output, by have := h.size; simpa [World.setCell] using this, fun j hj h1 h2 => (Below.heap_setCell _ _ _ _ (by simpa using h1)).trans (h.block j hj h1 h2)⟩
theorem Fr.refl (H : Nat) (ob : Option Nat) (w : World) : Fr H ob w w := ⟨rfl, rfl, rfl, Nat.le_refl _, fun _ _ _ _ => rfl⟩
theorem HS.shrink {W : World} {H gi cap : Nat} {l : List Int} {ao : Option Addr} {n cq : Nat} {q : List Wt} {t : Int} (h : HS W H gi cap l ao n cq q t) {m : Nat} (hm : m ≤ l.length) : HS (W.setCell ⟨H, 0, none⟩ (.slice (some ⟨gi, 0, none⟩) m cap)) H gi cap (l.take m) ao n cq q t :=
  ⟨h.hp.shrink hm, rw_fr h.rq ((Fr.refl H none W).setH 0 _) (fun b off e => ⟨by simp, (h.nq b off e).2⟩), h.nq, h.ok, h.tt, fun x hx => h.pl x (List.mem_of_mem_take hx)⟩

set_option maxRecDepth 20000 in
set_option maxHeartbeats 8000000 in
theorem pop_any (H gi cap : Nat) (l : List Int) (ao : Option Addr) (n cq : Nat) (q : List Wt) (t : Int) (m : Nat) (w : World) (h : HS w H gi cap l ao n cq q t) (hm : l.length = m + 1) (hl : m ≤ 900) (hhp : Heap (bfW q t) l) :
    Calls Try.prog 66 #[.pointer (some ⟨H, 0, none⟩)] w fun e w' => e = .returned (.int .i64 (g l 0)) ∧ ∃ l', HS w' H gi cap l' ao n cq q t ∧ (g l 0 :: l').Perm l ∧ Heap (bfW q t) l' ∧ Fr H (some gi) w w' := by
  have c0 := h.hp.c0
  rw [hm] at c0
  obtain ⟨x0, -⟩ := h.hp.at (i := 0) (by omega)
  have HH := hidden h
  have HM := hidden hm
  have SW := hidden (fun W (hW : Below w.heap.size w W) => swap_any H gi cap (fnS ao n cq t) l 0 m W (h.hp.below hW) (by omega) (by omega) (by omega))
  have HD := hidden (pop_dn hhp hm)
  have HPP := hidden (pop_perm hm)
  have hne := h.hp.ne
  have hcap : ((m : Nat) : Int) ≤ (cap : Int) := by
    obtain ⟨cur, _, _, q3, _⟩ := h.hp.blk
    omega
  clear h hm hhp
  generalize g l 0 = v0 at *
  go_enter Try.func66, Try.ntmps66
  go_wp2_with fail
  go_quiet (fail)
  go_wp2_with fail
  refine (SW.out _ (by repeat (first | exact Below.refl _ _ | refine st_drew ?_ | refine st_drewN ?_ _ | refine Below.setCell ?_ (by first | omega | (simp; done) | (simp; omega)) _ | refine Below.alloc ?_ (by first | omega | (simp; done) | (simp; omega)) _))).mono ?_
  rintro e w2 ⟨rfl, hp2, hk2⟩
  have hs2 := (HH.out.below (by repeat (first | exact Below.refl _ _ | refine st_drew ?_ | refine st_drewN ?_ _ | refine Below.setCell ?_ (by first | omega | (simp; done) | (simp; omega)) _ | refine Below.alloc ?_ (by first | omega | (simp; done) | (simp; omega)) _))).swp (by have := HM.out; omega) (by have := HM.out; omega) hp2 hk2
  have fr2 : Fr H (some gi) w w2 := ((Fr.refl H (some gi) w).below (by repeat (first | exact Below.refl _ _ | refine st_drew ?_ | refine st_drewN ?_ _ | refine Below.setCell ?_ (by first | omega | (simp; done) | (simp; omega)) _ | refine Below.alloc ?_ (by first | omega | (simp; done) | (simp; omega)) _))).kp (Or.inl rfl) hk2
  have d0 := hs2.hp.c0
  rw [swp_len, HM.out] at d0
  have f0 := hs2.hp.f0
  have hs3 := hs2.shrink (m := m) (by rw [swp_len]; have := HM.out; omega)
  have fr3 := fr2.setH 0 (.slice (some ⟨gi, 0, none⟩) m cap)
  have hlt3 : ((Vh.swp l 0 m).take m).length = m := by rw [List.length_take, swp_len]; have := HM.out; omega
  have HS3 := hidden hs3
  have HF3 := hidden fr3
  have HL3 := hidden hlt3
  clear hs2 fr2 hs3 fr3 hlt3 hp2 hk2 c0 x0
  generalize (Vh.swp l 0 m).take m = l0 at *
  go_wp2_with fail
  refine (firstof_any H gi cap l0 ao n cq q t 0 _ HS3.out (by omega) (by have := HL3.out; omega)).mono ?_
  rintro e w4 ⟨rfl, hb4⟩
  have H4 := hidden (HS3.out.below hb4)
  have F4 := hidden (HF3.out.below hb4)
  clear hb4 HS3 HF3 d0 f0
  go_wp2_with fail
  go_loopw [5, 6] (fun av nv wr => ∃ (a : Nat) (l2 : List Int), av = .int .i64 a ∧ nv = .int .i64 (fo (bfW q t) l2 a : Nat) ∧ (a < l2.length ∨ l2.length = 0) ∧ a ≤ 900 ∧ HS wr H gi cap l2 ao n cq q t ∧ Hid (Dn (bfW q t) l2 a) ∧ Hid ((v0 :: l2).Perm l) ∧ Fr H (some gi) w wr) (fun av _ _ => 1000 - (intOf av).toNat)
  case atStart => exact ⟨0, l0, rfl, rfl, by have := HL3.out; omega, by omega, H4.out, HD.out, HPP.out, F4.out⟩
  case round =>
    clear H4 F4 HD HPP HL3
    obtain ⟨a, l2, rfl, rfl, hal, ha9, hs, hdn, hperm, hfr⟩ := hrel
    have hlen2 : l2.length = m := by have := hperm.out.length_eq; have := HM.out; simp at *; omega
    have HL2 := hidden hlen2
    clear hlen2
    obtain ⟨s1, -, -⟩ := fo_spec (ord_W q t) l2 a
    by_cases hne2 : fo (bfW q t) l2 a = a
    · have HE := hidden (dn_end (ord_W q t) hdn.out hne2)
      rw [hne2]
      clear s1 hne2 hdn
      go_wp2_with fail
      go_ret
      exact ⟨rfl, l2, hs, hperm.out, HE.out, hfr⟩
    · rcases s1 with e | ⟨-, x0, xl, kx, -⟩
      · exact absurd e hne2
      have al : a < l2.length := by omega
      have x9 : fo (bfW q t) l2 a ≤ 900 := by have := HL2.out; omega
      have SWc := hidden (swap_any H gi cap (fnS ao n cq t) l2 a (fo (bfW q t) l2 a) wr hs.hp al xl (by have := HL2.out; omega))
      have FOc := hidden (fun W (h5 : HS W H gi cap (Vh.swp l2 a (fo (bfW q t) l2 a)) ao n cq q t) => firstof_any H gi cap _ ao n cq q t (fo (bfW q t) l2 a) W h5 (by omega) (by rw [swp_len]; have := HL2.out; omega))
      have HDS := hidden (dn_step (ord_W q t) hdn.out al hne2)
      have HS0 := hidden hs
      have hq1 : ¬ ((fo (bfW q t) l2 a : Nat) : Int) = (a : Int) := by omega
      have hq2 : (((fo (bfW q t) l2 a : Nat) : Int) == (a : Int)) = false := by simp; omega
      clear hdn hs hne2
      generalize fo (bfW q t) l2 a = x at *
      go_wp2_with fail
      refine SWc.out.mono ?_
      rintro e w5 ⟨rfl, hp5, hk5⟩
      have hs5 := hidden (HS0.out.swp al xl hp5 hk5)
      have fr5 := hfr.kp (Or.inl rfl) hk5
      clear hp5 hk5
      go_wp2_with fail
      refine (FOc.out _ hs5.out).mono ?_
      rintro e w6 ⟨rfl, hb6⟩
      go_wp2_with fail
      go_roundw
      case rel => exact ⟨x, Vh.swp l2 a x, rfl, rfl, Or.inl (by rw [swp_len]; exact xl), x9, hs5.out.below hb6, HDS.out, ((swp_perm al xl).cons v0).trans hperm.out, fr5.below hb6⟩
      case measure => simp [intOf]; omega
end Go.Proofs.Ytcfghnffacdekab
