/-
  What the specification's TrayDo answers.
-/
import Derived.Test.YtklgadaefngnnaaWn
namespace Go.Proofs.Ytklgadaefngnnaa
open Go.RowKit Va Wa Go.Maps
set_option linter.unusedVariables false

theorem ownW_nil {w : World} {b e s n cc : Nat} {ca : Option Addr} {xs : List Value} (h : w.ownsRow b e s (.slice ca n cc) n xs) : ca = none → n = 0 ∧ cc = 0 := by
  obtain ⟨_, ⟨q1, q2⟩ | ⟨g, cap, cur, q1, _⟩⟩ := h
  · intro _
    simp only [Value.slice.injEq] at q1
    exact ⟨q1.2.1, q1.2.2⟩
  · intro e
    simp only [Value.slice.injEq] at q1
    rw [e] at q1; cases q1.1
theorem ownW_some {w : World} {b e n cc : Nat} {ca : Option Addr} {xs : List Value} (h : w.ownsRow b e 1 (.slice ca n cc) n xs) (hn : 0 < n) : ∃ g, ca = some ⟨g, 0, none⟩ ∧ g < w.heap.size ∧ ∀ (j : Nat) (u : Value), xs[j]? = some u → w.cell? ((⟨g, 0, none⟩ : Addr).add j) = some u := by
  obtain ⟨hl, ⟨q1, q2⟩ | ⟨g, cap, cur, q1, hg, hh, h5, h6, h7, h8⟩⟩ := h
  · omega
  · simp only [Value.slice.injEq] at q1
    refine ⟨g, q1.1, (Array.getElem?_eq_some_iff.1 hh).1, fun j u hu => ?_⟩
    rw [Addr.add_lit, Nat.zero_add]
    have hj : j < xs.length := (List.getElem?_eq_some_iff.1 hu).1
    rw [← h8, List.getElem?_take] at hu
    split at hu
    · simp only [World.cell?, hh]
      rw [← Array.getElem?_toList]; exact hu
    · cases hu
theorem intsW_one (L : List Int) : ∀ u ∈ (L.map fun z => Value.int .i64 z), u.oneCell' = true := by
  intro u hu
  obtain ⟨z, -, rfl⟩ := List.mem_map.1 hu
  rfl

set_option maxRecDepth 20000 in
set_option maxHeartbeats 4000000 in
theorem straydo_any (ao : Option Addr) (n cap : Nat) (l : List Stp) (w : World) (h : Rw 4 csT w (.slice ao n cap) l) (hn : l.length ≤ 1048576) :
    Calls Try.prog 25 #[.slice ao n cap] w fun e w' => ∃ v, e = .returned v ∧ w'.ownsRow w.heap.size 2 1 v (trayDo l).length ((trayDo l).map fun z => Value.int .i64 z) ∧ Below w.heap.size w w' := by
  obtain rfl := h.len
  have k1 := fun W hW => ssteps_any ao l.length cap l W hW hn
  have HW := hidden (fun W (hW : Below w.heap.size w W) => h.below hW)
  obtain ⟨i0, hi0, hv0, hv1, hv2⟩ := info_partsW infoW64
  clear h
  cases hs : ssB l with
  | false =>
    rw [hs] at k1
    have HN : Hid (trayDo l = []) := by rw [Hid, trayDo, hs]; rfl
    clear hs
    go_enter Try.func25, Try.ntmps25
    go_wp2_with (go_at_call 30; refine (k1 _ (HW.out _ (by repeat (first | exact Below.refl _ _ | assumption | refine st_drew ?_ | refine st_drewN ?_ _ | refine Below.setCell ?_ (by first | omega | (simp; done) | (simp; omega)) _ | refine Below.alloc ?_ (by first | omega | (simp; done) | (simp; omega)) _)))).mono ?_; rintro e w1 ⟨rfl, hb1⟩)
    go_ret
    rw [HN.out]
    have hsz1 := hb1.size
    exact ⟨_, rfl, ownW_base (ownW_new w1 2 1) hsz1, hb1.alloc hsz1 _⟩
  | true =>
  rw [hs] at k1
  have hok := of_ssB hs
  have hl2 := hok.1
  have HN : Hid (trayDo l = codesF rm0 l) := by rw [Hid, trayDo, hs]; rfl
  have HLn : Hid ((codesF rm0 l).length = l.length) := codesF_len l rm0
  have k2 := fun W hW => srun_any ao l.length cap l W hW hok
  have hfl := fld0
  clear hs hok
  by_cases hl0 : l.length = 0
  · have HL0 := hidden hl0
    clear hl0
    go_enter Try.func25, Try.ntmps25
    go_wp2_with (first
      | (go_at_call 30; refine (k1 _ (HW.out _ (by repeat (first | exact Below.refl _ _ | assumption | refine st_drew ?_ | refine st_drewN ?_ _ | refine Below.setCell ?_ (by first | omega | (simp; done) | (simp; omega)) _ | refine Below.alloc ?_ (by first | omega | (simp; done) | (simp; omega)) _)))).mono ?_; rintro e w1 ⟨rfl, hb1⟩; have hsz1 := hb1.size)
      | (go_at_call 67; refine (k2 _ (HW.out _ (by repeat (first | exact Below.refl _ _ | assumption | refine st_drew ?_ | refine st_drewN ?_ _ | refine Below.setCell ?_ (by first | omega | (simp; done) | (simp; omega)) _ | refine Below.alloc ?_ (by first | omega | (simp; done) | (simp; omega)) _)))).mono ?_; rintro e w3 ⟨cv, bv, S, C, rfl, ho1, ho2, hT, hb3⟩; obtain ⟨ca, cc, rfl⟩ := ownW_slice ho1; have hd := hidden (ownW_base (ownW_below (ownW_new w1 2 1) hb3) hsz1); have b3 := onto (show Below w.heap.size w _ from by repeat (first | exact Below.refl _ _ | assumption | refine st_drew ?_ | refine st_drewN ?_ _ | refine Below.setCell ?_ (by first | omega | (simp; done) | (simp; omega)) _ | refine Below.alloc ?_ (by first | omega | (simp; done) | (simp; omega)) _)) hb3; have z3 := b3.size; have HC := hidden ho1; clear ho1 ho2 hT hb3)
      | (at_builtin; refine wpList_append_fits_any _ rfl (.tmp 7) (.tmp 10) 40 rfl w.heap.size 2 i0 1 Try.underlying40 hi0 hv1 w1.heap.size 0 0 [] rfl hd.out ca l.length cc [] rfl (by rw [HL0.out]; rfl) (fun e => ownW_nil HC.out e) (fun ad _ j u hu => by cases hu) (fun u hu => by cases hu) (by rw [HL0.out]; exact Nat.le_refl _) ?_; intro w5 ho5 hg5))
    go_ret
    have b5 := b3.grown hg5 z3 (fun k hk => by have := Option.some.inj hk; omega)
    have e0 : trayDo l = [] := by rw [HN.out]; exact List.length_eq_zero_iff.1 (by rw [HLn.out, HL0.out])
    refine ⟨_, rfl, ?_, b5⟩
    rw [e0]
    simp only [HL0.out] at ho5 ⊢
    exact ho5
  · have hl1 : 0 < l.length := by omega
    clear hl0
    go_enter Try.func25, Try.ntmps25
    go_wp2_with (first
      | (go_at_call 30; refine (k1 _ (HW.out _ (by repeat (first | exact Below.refl _ _ | assumption | refine st_drew ?_ | refine st_drewN ?_ _ | refine Below.setCell ?_ (by first | omega | (simp; done) | (simp; omega)) _ | refine Below.alloc ?_ (by first | omega | (simp; done) | (simp; omega)) _)))).mono ?_; rintro e w1 ⟨rfl, hb1⟩; have hsz1 := hb1.size)
      | (go_at_call 67; refine (k2 _ (HW.out _ (by repeat (first | exact Below.refl _ _ | assumption | refine st_drew ?_ | refine st_drewN ?_ _ | refine Below.setCell ?_ (by first | omega | (simp; done) | (simp; omega)) _ | refine Below.alloc ?_ (by first | omega | (simp; done) | (simp; omega)) _)))).mono ?_; rintro e w3 ⟨cv, bv, S, C, rfl, ho1, ho2, hT, hb3⟩; obtain ⟨ca, cc, rfl⟩ := ownW_slice ho1; have hd := hidden (ownW_base (ownW_below (ownW_new w1 2 1) hb3) hsz1); have b3 := onto (show Below w.heap.size w _ from by repeat (first | exact Below.refl _ _ | assumption | refine st_drew ?_ | refine st_drewN ?_ _ | refine Below.setCell ?_ (by first | omega | (simp; done) | (simp; omega)) _ | refine Below.alloc ?_ (by first | omega | (simp; done) | (simp; omega)) _)) hb3; have z3 := b3.size; obtain ⟨g, rfl, hgl, hcl⟩ := ownW_some ho1 hl1; have HC := hidden hcl; clear ho1 ho2 hT hb3 hcl)
      | (at_builtin; refine wpList_append_own _ rfl (.tmp 7) (.tmp 10) 40 rfl w.heap.size 2 i0 (.int .i64 0) 1 8 Try.underlying40 hi0 hv0 hv1 hv2 rfl (by decide) _ 0 [] rfl hd.out ⟨g, 0, none⟩ l.length cc ((codesF rm0 l).map fun z => Value.int .i64 z) rfl (by rw [List.length_map, HLn.out]; omega) HC.out (intsW_one _) (by unfold maxLen; omega) (by omega) z3 ?_; intro v5 w5 ho5 hg5 hn5; obtain ⟨ad5, c5, rfl⟩ := ownW_slice ho5))
    go_ret
    have b5 := b3.grown hg5 z3 (fun k hk => by have := (ownW_lt hd.out k hk).1; omega)
    refine ⟨_, rfl, ?_, b5⟩
    rw [HN.out, HLn.out]
    simp only [Nat.zero_add, List.nil_append] at ho5 ⊢
    exact ho5
end Go.Proofs.Ytklgadaefngnnaa
