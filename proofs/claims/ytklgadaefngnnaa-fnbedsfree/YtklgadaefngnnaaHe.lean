/-
  The program's look at all beds.
-/
import Derived.Test.YtklgadaefngnnaaHd
namespace Go.Proofs.Ytklgadaefngnnaa
open Go.RowKit Hm
set_option linter.unusedVariables false

theorem takes_any {B : List Bd} {i : Nat} {x : Bd} : ((B.take i).any (fun y => excl y x)) = true ↔ ∃ k y, k < i ∧ B[k]? = some y ∧ excl y x = true := by
  rw [List.any_eq_true]
  constructor
  · rintro ⟨y, hy, he⟩
    obtain ⟨k, hk⟩ := List.getElem?_of_mem hy
    rw [List.getElem?_take] at hk
    split at hk
    · exact ⟨k, y, ‹_›, hk, he⟩
    · cases hk
  · rintro ⟨k, y, hk, hy, he⟩
    refine ⟨y, List.mem_of_getElem? (i := k) ?_, he⟩
    rw [List.getElem?_take, if_pos hk, hy]

set_option maxRecDepth 20000 in
set_option maxHeartbeats 2000000 in
theorem idxbed_any (ao : Option Addr) (n cap : Nat) (l : List Bd) (x : Bd) (w : World) (h : Rw 2 csB w (.slice ao n cap) l) (hn : l.length ≤ 1048576) :
    Calls Try.prog 111 #[.slice ao n cap, .func (.func 84) #[aB x] #[]] w fun e w' => (∃ r : Int, e = .returned (.int .i64 r) ∧ (decide (0 ≤ r) = l.any (fun y => excl y x))) ∧ Below w.heap.size w w' := by
  obtain rfl := h.len
  have HH := hidden h
  clear h
  go_enter Try.func111, Try.ntmps111
  go_wp2_with fail
  go_loopw [5, 8] (fun _ iv wr => ∃ i : Nat, i ≤ l.length ∧ iv = .int .i64 i ∧ Below w.heap.size w wr ∧ Hid ((l.take i).any (fun y => excl y x) = false)) (fun _ iv _ => l.length - (intOf iv).toNat)
  case atStart => exact ⟨0, Nat.zero_le _, rfl, Below.refl _ _, rfl⟩
  case round =>
    obtain ⟨i, hi, rfl, hb, hok⟩ := hrel
    by_cases hlt : i < l.length
    · have hlti : (i : Int) < (l.length : Int) := by omega
      obtain ⟨y, hy⟩ := some_at l i hlt
      obtain ⟨g, off, rfl, hg, c0, c1⟩ := bed_cells (HH.out.below hb) hy
      have HX := hidden hy
      have hcall := fun W => excl_any y x W
      have HT := hidden (take_snoc hy)
      clear hy
      cases hq : excl y x with
      | true =>
        rw [hq] at hcall
        have HY : Hid (l.any (fun y => excl y x) = true) := List.any_eq_true.2 ⟨y, List.mem_of_getElem? HX.out, hq⟩
        go_wp2_with (go_at_call 84; refine (hcall _).mono ?_; rintro e w1 ⟨rfl, hb1⟩; have bA := onto hb hb1)
        go_ret
        exact ⟨⟨i, rfl, by rw [HY.out]; simp⟩, bA⟩
      | false =>
        rw [hq] at hcall
        have HN : Hid ((l.take (i + 1)).any (fun y => excl y x) = false) := by rw [Hid, HT.out, List.any_append, hok.out]; simp [hq]
        go_wp2_with (go_at_call 84; refine (hcall _).mono ?_; rintro e w1 ⟨rfl, hb1⟩; have bA := onto hb hb1)
        go_roundw
        case rel => exact ⟨i + 1, by omega, rfl, bA, HN⟩
        case measure => simp [intOf]; omega
    · have hlti : ¬ (i : Int) < (l.length : Int) := by omega
      have hil : i = l.length := by omega
      subst hil
      go_wp2_with fail
      go_ret
      exact ⟨⟨-1, rfl, by have := hok.out; rw [List.take_length] at this; rw [this]; rfl⟩, hb⟩

set_option maxRecDepth 20000 in
set_option maxHeartbeats 400000 in
theorem hasbeds_any (ao : Option Addr) (n cap : Nat) (l : List Bd) (x : Bd) (w : World) (h : Rw 2 csB w (.slice ao n cap) l) (hn : l.length ≤ 1048576) :
    Calls Try.prog 83 #[.slice ao n cap, .func (.func 84) #[aB x] #[]] w fun e w' => e = .returned (.bool (l.any (fun y => excl y x))) ∧ Below w.heap.size w w' := by
  have hcall := idxbed_any ao n cap l x w h hn
  clear h
  go_enter Try.func83, Try.ntmps83
  go_wp2_with (go_at_call 111; refine hcall.mono ?_; rintro e w1 ⟨⟨r, rfl, hr⟩, hb1⟩; have HR := hidden hr; clear hr)
  go_ret
  exact ⟨ret_bool (by rw [← HR.out]), hb1⟩

end Go.Proofs.Ytklgadaefngnnaa
