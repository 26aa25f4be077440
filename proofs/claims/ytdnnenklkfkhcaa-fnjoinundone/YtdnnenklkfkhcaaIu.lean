/-
  JoinUndo, the program's.
-/
import Derived.Test.YtdnnenklkfkhcaaTd
namespace Go.Proofs.Ytdnnenklkfkhcaa
open Go.RowKit Jn Go.Maps

theorem Bk.del {w' : World} {B n : Nat} {f : Int → Option (Int × Int)} {D : DataW Unit} (hf : ∀ x, wfI x → Maps.has D (.int .i64 x) = (f x).isSome ∧ D.atKey (.int .i64 x) (pr 0 0) = two (f x))
    (k : Int) (h : w'.ownsMap Try.prog 2 pairE B n (D.del (.int .i64 k))) : Bk w' B n (fun x => if x = k then none else f x) := by
  refine ⟨_, h, fun x hx => ?_⟩
  by_cases e : x = k
  · subst e
    simp only [if_true]
    exact ⟨has_del_same, atKey_del_same _⟩
  · simp only [if_neg e]
    have hne : (Lit.int .i64 x) ≠ .int .i64 k := fun q => e (by injection q)
    rw [has_del_other hne, atKey_del_other hne]
    exact hf x hx

set_option maxRecDepth 20000 in
set_option maxHeartbeats 2000000 in
theorem iundo_any (v : Value) (l : List J) (g : Int) (w : World) (h : JRow w v l) (hg : wfI g) :
    Calls Try.prog 26 #[v, .int .i64 g] w fun e w' => ∃ v', e = .returned (.tuple #[v', .int .i64 (undoC l g)]) ∧ Own w' w.heap.size v' (undoL l g) ∧ Below w.heap.size w w' := by
  go_enter Try.func26, Try.ntmps26
  go_wp2_with fail
  refine (bookof_any v l w h).mono ?_
  rintro e w1 ⟨b1, ⟨hno, rfl⟩ | ⟨hyes, B, hB, rfl, hbk⟩⟩
  · have HC : Hid (undoC l g = 1) := by unfold undoC; rw [Hid, okB_false hno]; rfl
    have HL : Hid (undoL l g = []) := by unfold undoL; rw [Hid, okB_false hno]; rfl
    clear hno h
    go_wp2_with fail
    exact bodyPost_ret (v := .tuple #[.slice (some ⟨w1.heap.size, 0, none⟩) 0 0, .int .i64 1]) (by simp [results, Try.results26, go_sem]) rfl ⟨_, by rw [HC.out], by rw [HL.out]; exact ⟨_, 0, rfl, Or.inl rfl⟩, b1.alloc b1.size _⟩
  · have hll := hyes.1
    have HOK := hidden hyes
    have HC : Hid (undoC l g = if isG l g then 0 else 5) := by unfold undoC; rw [Hid, okB_true hyes]; rfl
    have HL : Hid (undoL l g = l.filter (fun j => !decide (j.2 = g))) := by unfold undoL; rw [Hid, okB_true hyes]; rfl
    have HT := hidden (says_tells l hyes.2)
    have HBK := hidden hbk
    have hIG := isgone_any B l.length (says l) g w1 hbk hg
    rw [says_isSome] at hIG
    have hN := b1.size
    clear h hyes hbk
    cases hgG : isG l g with
    | false =>
      rw [hgG] at hIG
      have HC2 : Hid (undoC l g = 5) := by rw [Hid, HC.out, hgG]; rfl
      have HL2 : Hid (undoL l g = l) := by rw [Hid, HL.out, filter_all l g hgG]
      go_wp2_with fail
      refine hIG.mono ?_
      rintro e w2 ⟨rfl, hb2⟩
      have hTD := told_any B l.length (says l) l w2 (HBK.out.below hb2) HT.out (by omega)
      have b2 := onto b1 hb2
      have hN2 := hb2.size
      clear hIG hb2
      go_wp2_with fail
      refine hTD.mono ?_
      rintro e w3 ⟨v3, rfl, ho3, hb3⟩
      have b3 := onto b2 hb3
      go_wp2_with fail
      exact bodyPost_ret (v := .tuple #[v3, .int .i64 5]) (by simp [results, Try.results26, go_sem]) rfl ⟨_, by rw [HC2.out], by rw [HL2.out]; exact ho3.base_le (by omega), b3⟩
    | true =>
      rw [hgG] at hIG
      have HC2 : Hid (undoC l g = 0) := by rw [Hid, HC.out, hgG]; rfl
      go_wp2_with fail
      refine hIG.mono ?_
      rintro e w2 ⟨rfl, hb2⟩
      obtain ⟨D, hD, hfD⟩ := HBK.out.below hb2
      have HFD := hidden hfD
      have b2 := onto b1 hb2
      have hN2 := hb2.size
      clear hIG hb2 hfD
      go_wp2_with (at_delete; refine wpList_delete_own _ rfl _ _ 85 2 rfl 91 key2 map56 _ B l.length D rfl hD _ _ rfl (keyOf_int_mk Try.underlying2 hg) ?_; intro w3 ho3 ht3)
      have b3 : Below w.heap.size w w3 := b2.grown ht3.grown b2.size (fun j hj => by cases hj; exact hB)
      have hbk3 := Bk.del HFD.out g ho3
      have hTD := told_any B l.length _ _ w3 hbk3 (HT.out.out g) (by have := filter_less l g hgG; omega)
      have hN3 := b3.size
      clear ho3 ht3 hD hbk3
      go_wp2_with fail
      refine hTD.mono ?_
      rintro e w4 ⟨v4, rfl, ho4, hb4⟩
      have b4 := onto b3 hb4
      go_wp2_with fail
      exact bodyPost_ret (v := .tuple #[v4, .int .i64 0]) (by simp [results, Try.results26, go_sem]) rfl ⟨_, by rw [HC2.out], by rw [HL.out]; exact ho4.base_le (by omega), b4⟩
end Go.Proofs.Ytdnnenklkfkhcaa
