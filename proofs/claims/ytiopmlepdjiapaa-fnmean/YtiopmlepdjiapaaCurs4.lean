/-
  A list of floats that is drawn of a cursor.
-/
import Derived.Test.YtiopmlepdjiapaaCurs3
namespace Go.Proofs.Ytiopmlepdjiapaa
open Go.RowKit Fl

theorem owns_keep {w w' : World} {base e : Nat} {v : Value} {n g : Nat} {xs : List Value} (h : w.ownsRow base e 1 v n xs) (hk : Keep g w w') (hg : g < base) : w'.ownsRow base e 1 v n xs := by
  obtain ⟨h1, h2⟩ := h
  refine ⟨h1, ?_⟩
  rcases h2 with h2 | ⟨b, cap, cur, h2, h3, h4, h5⟩
  · exact Or.inl h2
  · have hb := (Array.getElem?_eq_some_iff.1 h4).1
    exact Or.inr ⟨b, cap, cur, h2, h3, (hk.block b hb (by omega)).trans h4, h5⟩
theorem owns_alloc {w : World} {base e : Nat} {v : Value} {n : Nat} {xs : List Value} (h : w.ownsRow base e 1 v n xs) (o : Obj) : (w.alloc o).ownsRow base e 1 v n xs := by
  obtain ⟨h1, h2⟩ := h
  refine ⟨h1, ?_⟩
  rcases h2 with h2 | ⟨b, cap, cur, h2, h3, h4, h5⟩
  · exact Or.inl h2
  · have hb := (Array.getElem?_eq_some_iff.1 h4).1
    exact Or.inr ⟨b, cap, cur, h2, h3, (Below.heap_alloc w o b hb).trans h4, h5⟩
theorem keep_grown {w w1 w2 : World} {g base e n : Nat} {v : Value} {xs : List Value} (h : Keep g w w1) (hg : w1.grownBy w2 v.ownBlock) (ho : w1.ownsRow base e 1 v n xs) (hb : w.heap.size ≤ base) : Keep g w w2 := by
  refine ⟨hg.os.trans h.os, hg.tape.trans h.tape, hg.output.trans h.output, Nat.le_trans h.size hg.size, fun j hj hjg => ?_⟩
  refine (hg.block j (Nat.lt_of_lt_of_le hj h.size) ?_).trans (h.block j hj hjg)
  rcases ho.2 with ⟨rfl, _⟩ | ⟨b, cap, cur, rfl, h3, _⟩
  · simp [Value.ownBlock]
  · simp [Value.ownBlock]; omega
theorem cur_grown {w1 w2 : World} {g base e n cap : Nat} {ao : Option Addr} {bs : List Int} {v : Value} {xs : List Value} (h : Cur w1 g ao cap bs) (hg : w1.grownBy w2 v.ownBlock) (ho : w1.ownsRow base e 1 v n xs) (hb : g < base) : Cur w2 g ao cap bs := by
  refine h.below ⟨hg.os, hg.tape, hg.output, hg.size, fun j hj => hg.block j (by have := h.1; omega) ?_⟩
  rcases ho.2 with ⟨rfl, _⟩ | ⟨b, cap, cur, rfl, h3, _⟩
  · simp [Value.ownBlock]
  · simp [Value.ownBlock]; omega

set_option maxHeartbeats 1000000 in
theorem floats_any (g : Nat) (ao : Option Addr) (cap : Nat) (bs : List Int) (n : Nat) (w : World) (hc : Cur w g ao cap bs) (hn : n < 16) :
    Calls Try.prog 35 #[.pointer (some ⟨g, 0, none⟩), .int .i64 n] w fun e w' => ∃ (v : Value) (xs : List Nat), e = .returned v ∧ w'.ownsRow w.heap.size 37 1 v n (xs.map fl) ∧ v ≠ .slice none 0 0 ∧ Cur w' g ao cap bs ∧ Keep g w w' := by
  obtain ⟨i0, hi, hz0, hz1, hz2⟩ := info_parts info37
  go_enter Try.func35, Try.ntmps35
  go_wp2_with fail
  have hg := hc.1
  have hown0 : (w.alloc (Obj.cells #[] 37)).ownsRow w.heap.size 37 1 (.slice (some ⟨w.heap.size, 0, none⟩) 0 0) 0 (([] : List Nat).map fl) :=
    ⟨rfl, .inr ⟨w.heap.size, 0, #[], rfl, Nat.le_refl _, heap_alloc_new w _, Nat.le_refl _, Nat.zero_le _, rfl, rfl⟩⟩
  go_loopw [5, 6] (fun v iv wr => ∃ k : Nat, k ≤ n ∧ iv = .int .i64 k ∧ Cur wr g ao cap bs ∧ Keep g w wr ∧ v ≠ .slice none 0 0 ∧ ∃ xs : List Nat, wr.ownsRow w.heap.size 37 1 v k (xs.map fl)) (fun _ iv _ => n - (intOf iv).toNat)
  case atStart => exact ⟨0, Nat.zero_le _, rfl, hc.alloc _, (Keep.refl g w).alloc _, by simp, [], hown0⟩
  case round =>
    obtain ⟨k, hk, rfl, hcr, hkr, hnn, xs, ho⟩ := hrel
    have HN : Hid (¬ _ = Value.slice none 0 0) := hnn
    clear hnn
    by_cases hlt : k < n
    · have hlt1 : (k : Int) < (n : Int) := by omega
      go_wp2_with fail
      refine (float_any g ao cap bs _ hcr).mono ?_
      rintro e w1 ⟨x, rfl, hc1, hk1⟩
      have ho1 := owns_alloc (owns_keep ho hk1 hg) (Obj.cells #[.float .f64 x] 37)
      have hc2 := hc1.alloc (Obj.cells #[.float .f64 x] 37)
      have hk2 := (hkr.trans hk1).alloc (Obj.cells #[.float .f64 x] 37)
      have hnew : ∀ (j : Nat) (u : Value), [fl x][j]? = some u → (w1.alloc (Obj.cells #[.float .f64 x] 37)).cell? ((⟨w1.heap.size, 0, none⟩ : Addr).add j) = some u := by
        intro j u hj
        have hj0 : j = 0 := by
          have := (List.getElem?_eq_some_iff.1 hj).1
          simpa using this
        subst hj0
        simp at hj
        subst hj
        have e := heap_alloc_new w1 (Obj.cells #[.float .f64 x] 37)
        simp only [World.cell?, Addr.add, if_true, e]
        rfl
      have hone : ∀ u ∈ [fl x], u.oneCell' = true := by intro u hu; simp at hu; subst hu; rfl
      go_wp2_with (refine wpList_append_own _ rfl (.tmp 13) (.tmp 16) 35 rfl w.heap.size 37 i0 (.float .f64 0) 1 8 Try.underlying35 hi hz0 hz1 hz2 rfl (by decide) _ k (xs.map fl) rfl ho1 ⟨w1.heap.size, 0, none⟩ 1 1 [fl x] rfl rfl hnew hone (by unfold maxLen; omega) (by omega) (by have := hk2.size; omega) ?_; intro v2 w2 ho2 hgr hnn2; have HN2 : Hid (¬ v2 = .slice none 0 0) := fun h => HN.out (hnn2.1 h).1; clear hnn2; have hk3 := keep_grown hk2 hgr ho1 (Nat.le_refl _); have hc3 := cur_grown hc2 hgr ho1 hg; clear hgr)
      go_roundw
      case rel => exact ⟨k + 1, by omega, by go_num, hc3, hk3, HN2.out, xs ++ [x], by simpa using ho2⟩
      case measure => simp [intOf]; omega
    · have hkn : k = n := by omega
      subst hkn
      have hlt1 : ¬ (k : Int) < (k : Int) := by omega
      go_wp2_with fail
      go_ret
      exact ⟨_, rfl, ⟨xs, ho⟩, HN.out, hcr, hkr⟩
end Go.Proofs.Ytiopmlepdjiapaa
