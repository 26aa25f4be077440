/-
  A cursor that is made of bytes, and the list that is drawn of them.
-/
import Derived.Test.YtiopmlepdjiapaaCurs4
namespace Go.Proofs.Ytiopmlepdjiapaa
open Go.RowKit Fl

theorem owns_base {w : World} {b b' e n : Nat} {v : Value} {xs : List Value} (h : w.ownsRow b e 1 v n xs) (hb : b' ≤ b) : w.ownsRow b' e 1 v n xs := by
  obtain ⟨h1, h2⟩ := h
  refine ⟨h1, ?_⟩
  rcases h2 with h2 | ⟨g, cap, cur, h2, h3, h4⟩
  · exact Or.inl h2
  · exact Or.inr ⟨g, cap, cur, h2, Nat.le_trans hb h3, h4⟩

set_option maxHeartbeats 1000000 in
theorem new_any (ao : Option Addr) (cap : Nat) (bs : List Int) (w : World) (hb : Bytes w w.heap.size ao bs) (hl : bs.length ≤ 1048576) :
    Calls Try.prog 18 #[.slice ao bs.length cap] w fun e w' => e = .returned (.pointer (some ⟨w.heap.size, 0, none⟩)) ∧ Cur w' w.heap.size ao cap bs ∧ Below w.heap.size w w' := by
  go_enter Try.func18, Try.ntmps18
  go_wp2_with fail
  go_loopw [3, 4] (fun hv iv wr => wr = w ∧ ∃ (k : Nat) (h : Int), k ≤ bs.length ∧ iv = .int .i64 k ∧ hv = .int .i64 h) (fun _ iv _ => bs.length - (intOf iv).toNat)
  case atStart => exact ⟨rfl, 0, _, Nat.zero_le _, rfl, rfl⟩
  case round =>
    obtain ⟨rfl, k, h, hk, rfl, rfl⟩ := hrel
    by_cases hlt : k < bs.length
    · have hlt1 : (k : Int) < (bs.length : Int) := by omega
      rcases hb.2 with h2 | ⟨b, off, rfl, hbg0, hcell⟩
      · omega
      have hcb := hcell k hlt
      have hr : 0 ≤ bs.getD k 0 ∧ bs.getD k 0 ≤ 255 := hb.1 _ (by rw [List.getD_eq_getElem?_getD, List.getElem?_eq_getElem hlt]; simp)
      generalize bs.getD k 0 = y at *
      obtain ⟨r1, r2⟩ := hr
      clear hcell
      go_wp2_with fail
      go_roundw
      case rel => exact ⟨trivial, k + 1, _, by omega, by go_num, rfl⟩
      case measure => simp [intOf]; omega
    · have hlt1 : ¬ (k : Int) < (bs.length : Int) := by omega
      have hbb := hb
      clear hb
      go_wp2_with fail
      go_ret
      have e := heap_alloc_new wr (Obj.cells #[.slice ao bs.length cap, .int .i64 0, .int .i64 h] 63)
      have hB : Below wr.heap.size wr (wr.alloc (Obj.cells #[.slice ao bs.length cap, .int .i64 0, .int .i64 h] 63)) := (Keep.refl wr.heap.size wr).alloc _ |>.below (Nat.le_refl _) (Nat.le_refl _)
      refine ⟨rfl, ⟨by simp, hbb.below hB, hl, 0, h, Nat.zero_le _, ?_, ?_, ?_, ?_, ?_⟩, hB⟩
      · simp only [World.cell?, e]; rfl
      · simp only [World.cell?, e]; rfl
      · simp only [World.cell?, e]; rfl
      · simp only [World.frozen?, e]; rfl
      · simp only [World.frozen?, e]; rfl

theorem big_any (ao : Option Addr) (cap n : Nat) (w : World) :
    Calls Try.prog 5 #[.slice ao n cap] w fun e w' => e = .returned (.bool (decide (4096 < (n : Int)))) ∧ w' = w := by
  go_enter Try.func5, Try.ntmps5
  go_wp2_with fail
  go_ret
  exact ⟨rfl, rfl⟩

set_option maxHeartbeats 1000000 in
theorem pick_any (ao : Option Addr) (cap : Nat) (bs : List Int) (n : Nat) (w : World) (hb : Bytes w w.heap.size ao bs) (hl : bs.length ≤ 4096) (hn : 0 < n) (hn2 : n ≤ 5000) :
    Calls Try.prog 17 #[.slice ao bs.length cap, .int .i64 n] w fun e w' => (∃ m : Nat, e = .returned (.int .i64 m) ∧ m < n) ∧ w' = w := by
  go_enter Try.func17, Try.ntmps17
  go_wp2_with fail
  go_loopw [5, 6] (fun hv iv wr => wr = w ∧ ∃ (k h : Nat), k ≤ bs.length ∧ h ≤ 1000003 ∧ iv = .int .i64 k ∧ hv = .int .i64 h) (fun _ iv _ => bs.length - (intOf iv).toNat)
  case atStart => exact ⟨rfl, 0, bs.length, Nat.zero_le _, by omega, rfl, rfl⟩
  case round =>
    obtain ⟨rfl, k, h, hk, hh, rfl, rfl⟩ := hrel
    by_cases hlt : k < bs.length
    · have hlt1 : (k : Int) < (bs.length : Int) := by omega
      rcases hb.2 with h2 | ⟨b, off, rfl, hbg0, hcell⟩
      · omega
      have hcb := hcell k hlt
      have hr : 0 ≤ bs.getD k 0 ∧ bs.getD k 0 ≤ 255 := hb.1 _ (by rw [List.getD_eq_getElem?_getD, List.getElem?_eq_getElem hlt]; simp)
      generalize bs.getD k 0 = y at *
      obtain ⟨r1, r2⟩ := hr
      obtain ⟨z, rfl⟩ := Int.eq_ofNat_of_zero_le r1
      clear hcell
      go_wp2_with fail
      go_roundw
      case rel => exact ⟨trivial, k + 1, (h * 41 + z) % 1000003, by omega, by omega, by go_num, by go_num⟩
      case measure => simp [intOf]; omega
    · have hlt1 : ¬ (k : Int) < (bs.length : Int) := by omega
      have hn0 : (0 : Int) < (n : Int) := by omega
      go_wp2_with fail
      go_ret
      exact ⟨⟨h % n, by rfl, Nat.mod_lt _ hn⟩, rfl⟩

set_option maxHeartbeats 1000000 in
theorem draw_any (ao : Option Addr) (cap : Nat) (bs : List Int) (w : World) (hb : Bytes w w.heap.size ao bs) (hl : bs.length ≤ 1048576) :
    Calls Try.prog 14 #[.slice ao bs.length cap] w fun e w' => ∃ (v : Value) (xs : List Nat), e = .returned v ∧ w'.ownsRow w.heap.size 37 1 v xs.length (xs.map fl) ∧ v ≠ .slice none 0 0 ∧ xs.length ≤ 4097 ∧ Below w.heap.size w w' := by
  obtain ⟨i0, hi, hz0, hz1, hz2⟩ := info_parts info37
  go_enter Try.func14, Try.ntmps14
  go_wp2_with fail
  refine (new_any ao cap bs _ hb hl).mono ?_
  rintro e w1 ⟨rfl, hc1, hb1⟩
  go_wp2_with fail
  refine (below_any w.heap.size ao cap bs 16 _ hc1 (by decide)).mono ?_
  rintro e w2 ⟨m, rfl, hm0, hm1, hc2, hk2⟩
  obtain ⟨n, rfl⟩ := Int.eq_ofNat_of_zero_le hm0
  go_wp2_with fail
  refine (floats_any w.heap.size ao cap bs n _ hc2 (by omega)).mono ?_
  rintro e w3 ⟨v, xs, rfl, ho3, hnn, hc3, hk3⟩
  have HN : Hid (¬ v = Value.slice none 0 0) := hnn
  clear hnn
  go_wp2_with fail
  refine (once_any w.heap.size ao cap bs 60 _ hc3 (by decide)).mono ?_
  rintro e w4 ⟨t, rfl, hc4, hk4⟩
  have ho4 := owns_keep ho3 hk4 (by have := hc2.1; omega)
  have hbel := hb1.trans ((hk2.trans (hk3.trans hk4)).below (Nat.le_refl _) hb1.size)
  have hlen : xs.length = n := by have := ho3.1; simpa using this
  cases t
  · go_wp2_with fail
    go_ret
    exact ⟨_, xs, rfl, by rw [hlen]; exact owns_base ho4 (Nat.le_trans hb1.size hk2.size), HN.out, by omega, hbel⟩
  · go_wp2_with fail
    refine (below_any w.heap.size ao cap bs 2 _ hc4 (by decide)).mono ?_
    rintro e w5 ⟨m, rfl, hm0, hm1, hc5, hk5⟩
    obtain ⟨j, rfl⟩ := Int.eq_ofNat_of_zero_le hm0
    have hbel5 := hbel.trans (hk5.below (Nat.le_refl _) hbel.size)
    clear hbel ho4 ho3
    go_wp2_with (refine wpList_make_full _ rfl (.tmp 15) (.tmp 15) 35 rfl w5.heap.size 37 i0 (.float .f64 0) 1 Try.underlying35 hi hz0 hz1 .i64 .i64 _ _ (4096 + j) rfl rfl (by omega) (by omega) (by rw [hz2]; omega) (by unfold maxLen; omega) (Nat.le_refl _) ?_; intro w6 hown hgrow)
    have hbel6 : Below w.heap.size w w6 := hbel5.grown hgrow hbel5.size (by simp)
    have hown' : w6.ownsRow w5.heap.size 37 1 (.slice (some ⟨w5.heap.size, 0, none⟩) (4096 + j) (4096 + j)) (4096 + j) ((List.replicate (4096 + j) 0).map fl) := by
      have e : (madeCells (Value.float FloatKind.f64 0).cells ((4096 + j) * 1)).toList = (List.replicate (4096 + j) 0).map fl := by
        rw [Nat.mul_one, List.map_replicate]; exact toList_madeCells_one (fl 0) (4096 + j)
      rw [← e]; exact hown
    go_ret
    exact ⟨_, List.replicate (4096 + j) 0, rfl, by rw [List.length_replicate]; exact owns_base hown' hbel5.size, by simp, by rw [List.length_replicate]; omega, hbel6⟩
end Go.Proofs.Ytiopmlepdjiapaa
