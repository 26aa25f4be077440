/-
  BedsFree, the program's.
-/
import Derived.Test.YtklgadaefngnnaaHj
import Derived.Test.YtklgadaefngnnaaHk
namespace Go.Proofs.Ytklgadaefngnnaa
open Go.RowKit Hm
set_option linter.unusedVariables false

def csI (x : Int) (k : Nat) : Int := x
theorem cells_int (l : List Int) (x : Int) : cellsL 1 csI (l ++ [x]) = cellsL 1 csI l ++ [.int .i64 x] := by rw [cellsL_app]; rfl
theorem infoInt : (Try.prog.info? 2).map (fun i => (i.zero, i.size, i.bytes)) = some (some (.int .i64 0), 1, 8) := by kernel_rfl
theorem ownsRow_empty1 (w : World) : (w.alloc (.cells #[] 2)).ownsRow w.heap.size 2 1 (.slice (some ⟨w.heap.size, 0, none⟩) 0 0) 0 [] :=
  ⟨rfl, Or.inr ⟨w.heap.size, 0, #[], rfl, Nat.le_refl _, heap_alloc_new _ _, Nat.le_refl _, Nat.zero_le _, rfl, rfl⟩⟩
theorem cell_one_new' (w : World) (a : Value) (t : TypeId) : ∀ (j : Nat) (u : Value), [a][j]? = some u → (w.alloc (.cells #[a] t)).cell? ((⟨w.heap.size, 0, none⟩ : Addr).add j) = some u := fun j u hu => by
  have e0 := heap_alloc_new w (Obj.cells #[a] t)
  have e1 : (w.alloc (.cells #[a] t)).cell? ((⟨w.heap.size, 0, none⟩ : Addr).add j) = [a][j]? := by
    rw [Addr.add_lit, Nat.zero_add]
    simp only [World.cell?, e0]
    simp
  rw [e1, hu]

set_option maxRecDepth 20000 in
set_option maxHeartbeats 4000000 in
theorem ifree_any (ao ao2 : Option Addr) (n cap m cap2 : Nat) (B : List Bd) (S : List St) (sex need : Int) (w : World) (h : HRw w (.slice ao n cap) (.slice ao2 m cap2) B S) :
    Calls Try.prog 16 #[.agg #[.slice ao n cap, .slice ao2 m cap2], .int .i64 sex, .int .i64 need] w fun e w' => ∃ v', e = .returned v' ∧ Own 1 csI w' w.heap.size v' (bedsFree B S sex need) ∧ Below w.heap.size w w' := by
  have HH := hidden h
  obtain rfl := h.1.len
  obtain rfl := h.2.len
  have hOK := hidden (fun W (hW : Below w.heap.size w W) => iok_any ao ao2 B.length cap S.length cap2 B S W (HH.out.below hW))
  have hS := isex_any sex
  have hN := ikind_any need
  have hb0 : Below w.heap.size w ((w.alloc (.cells #[.slice ao B.length cap, .slice ao2 S.length cap2] 27)).alloc (.cells #[] 2)) := ((Below.refl _ _).alloc (Nat.le_refl _) _).alloc (by simp) _
  cases hk : okB B S && sx sex && kd need with
  | false =>
    have HR : Hid (bedsFree B S sex need = []) := by unfold bedsFree; rw [Hid, hk]; rfl
    generalize okB B S = t1 at *
    generalize sx sex = t2 at *
    generalize kd need = t3 at *
    go_enter Try.func16, Try.ntmps16
    go_wp2_with (first | (go_at_call 14; refine (hOK.out _ hb0).mono ?_; rintro e w1 ⟨rfl, hb1⟩; have b1 := onto hb0 hb1) | (go_at_call 51; refine (hS _).mono ?_; rintro e w2 ⟨rfl, rfl⟩) | (go_at_call 52; refine (hN _).mono ?_; rintro e w2 ⟨rfl, rfl⟩))
    all_goals first
      | (exfalso; simp_all; done)
      | (go_ret; exact ⟨_, rfl, by rw [HR.out]; exact Own.nil _ _ _ _, by assumption⟩)
  | true =>
    have HR : Hid (bedsFree B S sex need = freeL B S sex need) := by unfold bedsFree; rw [Hid, hk]; rfl
    simp only [Bool.and_eq_true] at hk
    obtain ⟨⟨k1, k2⟩, k3⟩ := hk
    have hok := ok_of k1
    have hl1 := hok.1
    have hl2 := hok.2.1
    have HFI := hidden (fits_of hok.2.2.2.1)
    have q1 := (sx_iff.1 k2).1
    have q2 := (sx_iff.1 k2).2
    rw [k1] at hOK
    rw [k2] at hS
    rw [k3] at hN
    have hF := hidden (fun (kb : Nat) (hkb : kb < B.length) W (hW : Below w.heap.size w W) => isfree_any ao ao2 B.length cap S.length cap2 B S kb sex need W (HH.out.below hW) (by omega) HFI.out hkb q1 q2)
    obtain ⟨i0, hi0, hy0, hy1, hy2⟩ := info_parts infoInt
    clear hok k1 k2 k3
    go_enter Try.func16, Try.ntmps16
    go_wp2_with (first | (go_at_call 14; refine (hOK.out _ hb0).mono ?_; rintro e w1 ⟨rfl, hb1⟩; have b1 := onto hb0 hb1; have c0 : w1.cell? ⟨w.heap.size, 0, none⟩ = some (.slice ao B.length cap) := ((bcell hb1).1 _ _ (by first | omega | (simp; done) | (simp; omega))).trans (by simp [go_sem]); have c1 : w1.cell? ⟨w.heap.size, 1, none⟩ = some (.slice ao2 S.length cap2) := ((bcell hb1).1 _ _ (by first | omega | (simp; done) | (simp; omega))).trans (by simp [go_sem])) | (go_at_call 51; refine (hS _).mono ?_; rintro e w2 ⟨rfl, rfl⟩) | (go_at_call 52; refine (hN _).mono ?_; rintro e w2 ⟨rfl, rfl⟩))
    have z1 := hb1.size
    simp only [World.size_alloc] at z1
    have ho1 : w1.ownsRow (w.heap.size + 1) 2 1 (.slice (some ⟨w.heap.size + 1, 0, none⟩) 0 0) 0 [] := by
      have := own_below (ownsRow_empty1 (w.alloc (.cells #[.slice ao B.length cap, .slice ao2 S.length cap2] 27))) hb1
      simpa using this
    clear hb1
    go_loopw [7, 27] (fun fv iv wr => ∃ (i : Nat) (fl : List Int), i ≤ B.length ∧ iv = .int .i64 i ∧ fl.length ≤ i ∧ (∃ ad c0, fv = .slice ad fl.length c0 ∧ wr.ownsRow (w.heap.size + 1) 2 1 (.slice ad fl.length c0) fl.length (cellsL 1 csI fl)) ∧ Below w.heap.size w wr ∧ w.heap.size + 1 < wr.heap.size ∧ wr.cell? ⟨w.heap.size, 0, none⟩ = some (.slice ao B.length cap) ∧ wr.cell? ⟨w.heap.size, 1, none⟩ = some (.slice ao2 S.length cap2) ∧ Hid (fl = freeTo B S sex need i)) (fun _ iv _ => B.length - (intOf iv).toNat)
    case atStart => exact ⟨0, [], Nat.zero_le _, rfl, Nat.le_refl _, ⟨_, _, rfl, ho1⟩, b1, by omega, c0, c1, rfl⟩
    case round =>
      clear ho1 b1 z1 c0 c1
      obtain ⟨i, fl, hi, rfl, hfl, ⟨ad, c0, rfl, ho⟩, hb, hz, d0, d1, HF⟩ := hrel
      have hsz := hb.size
      by_cases hlt : i < B.length
      · have hlti : (i : Int) < (B.length : Int) := by omega
        have hC := hidden (hF.out i hlt)
        have HT := hidden (freeTo_succ B S sex need i)
        cases hq : isFr B S sex need i with
        | true =>
          rw [hq] at hC
          have HF2 : Hid (fl ++ [(i : Int)] = freeTo B S sex need (i + 1)) := by rw [Hid, HT.out, hq, HF.out]; rfl
          clear hq HT HF
          go_wp2_with (first | (go_at_call 53; refine (hC.out _ hb).mono ?_; rintro e w3 ⟨rfl, hb3⟩; have b3 := onto hb hb3; have ho3 := own_below ho hb3; have z3 := hb3.size; have f0 := ((bcell hb3).1 w.heap.size 0 (by omega)).trans d0; have f1 := ((bcell hb3).1 w.heap.size 1 (by omega)).trans d1) | (at_builtin; refine wpList_append_own _ rfl (.tmp 35) (.tmp 37) 40 rfl (w.heap.size + 1) 2 i0 (.int .i64 0) 1 8 Try.underlying40 hi0 hy0 hy1 hy2 rfl (by decide) _ fl.length (cellsL 1 csI fl) rfl (ho3.alloc _) ⟨w3.heap.size, 0, none⟩ 1 1 [.int .i64 i] rfl rfl (cell_one_new' _ _ _) (by simp [Value.oneCell']) (by unfold maxLen; omega) (by omega) (by simp; omega) ?_; intro v4 w4 ho4 hg4 hnn4; obtain ⟨ad4, c4, rfl⟩ := own_slice ho4))
          have b4 := (b3.alloc (by omega) _).grown hg4 (by simp; omega) (fun k hk => by have := own_lt ho3 k hk; omega)
          have z4 := hg4.size
          simp at z4
          have k0 : w4.cell? ⟨w.heap.size, 0, none⟩ = some (.slice ao B.length cap) := by
            rw [World.cell?_of_block (hg4.block w.heap.size (by simp; omega) (fun e => by have := own_lt ho3 _ e.symm; omega)), old_cell (by omega)]; exact f0
          have k1 : w4.cell? ⟨w.heap.size, 1, none⟩ = some (.slice ao2 S.length cap2) := by
            rw [World.cell?_of_block (hg4.block w.heap.size (by simp; omega) (fun e => by have := own_lt ho3 _ e.symm; omega)), old_cell (by omega)]; exact f1
          go_roundw
          case rel => exact ⟨i + 1, fl ++ [(i : Int)], by omega, rfl, by simp; omega, ⟨ad4, c4, by rw [List.length_append]; rfl, by rw [cells_int, List.length_append]; exact ho4⟩, b4, by omega, k0, k1, HF2⟩
          case measure => simp [intOf]; omega
        | false =>
          rw [hq] at hC
          have HF2 : Hid (fl = freeTo B S sex need (i + 1)) := by rw [Hid, HT.out, hq, HF.out]; rfl
          clear hq HT HF
          go_wp2_with (go_at_call 53; refine (hC.out _ hb).mono ?_; rintro e w3 ⟨rfl, hb3⟩; have b3 := onto hb hb3; have ho3 := own_below ho hb3; have z3 := hb3.size; have f0 := ((bcell hb3).1 w.heap.size 0 (by omega)).trans d0; have f1 := ((bcell hb3).1 w.heap.size 1 (by omega)).trans d1)
          go_roundw
          case rel => exact ⟨i + 1, fl, by omega, rfl, by omega, ⟨_, _, rfl, ho3⟩, b3, by omega, f0, f1, HF2⟩
          case measure => simp [intOf]; omega
      · have hlti : ¬ (i : Int) < (B.length : Int) := by omega
        have hil : i = B.length := by omega
        subst hil
        have HO : Hid (Own 1 csI wr w.heap.size (.slice ad fl.length c0) (bedsFree B S sex need)) := by
          rw [Hid, HR.out]; unfold freeL; rw [← HF.out]
          exact (own_of rfl ho).base_le (by omega)
        clear HF ho
        go_wp2_with fail
        go_ret
        exact ⟨_, rfl, HO.out, hb⟩

end Go.Proofs.Ytklgadaefngnnaa
