/-
  Slices of floats: compared.
-/
import Derived.Test.YtiopmlepdjiapakFloW
namespace Go.Proofs.Ytiopmlepdjiapak
open Go.RowKit Fl

attribute [local go_sem] run_store_fl

set_option maxHeartbeats 2000000 in
theorem eqfs_any (a b : Value) (n : Nat) (xs ys : List Nat) (w : World) (ha : Row w a n (xs.map fl)) (hb : Row w b n (ys.map fl)) (hn : n ≤ 1048576) (hc : xs.map cls = ys.map cls) :
    Calls Try.prog 9 #[a, b] w fun e w' => e = .returned (.bool true) ∧ ∃ m, w' = w.drewN m := by
  obtain ⟨hl, ao, cap, rfl, hrow⟩ := ha
  obtain ⟨hl', bo, cap', rfl, hrow'⟩ := hb
  simp only [List.length_map] at hl hl'
  have HC : Hid (xs.map cls = ys.map cls) := hc
  clear hc
  go_enter Try.func9, Try.ntmps9
  go_wp2
  go_loopw [5] (fun i wr => (∃ m, wr = w.drewN m) ∧ ∃ k : Nat, k ≤ n ∧ i = .int .i64 k) (fun i _ => n - (intOf i).toNat)
  case atStart => exact ⟨⟨0, rfl⟩, 0, Nat.zero_le _, rfl⟩
  case round =>
    obtain ⟨⟨m, hwr⟩, k, hk, rfl⟩ := hrel
    have HW : Hid (wr = w.drewN m) := hwr
    clear hwr
    by_cases hlt : k < n
    · rcases hrow with rfl | ⟨b1, o1, rfl, hb1, hc1⟩
      · omega
      rcases hrow' with rfl | ⟨b2, o2, rfl, hb2, hc2⟩
      · omega
      obtain ⟨x, hx⟩ : ∃ x, xs[k]? = some x := ⟨_, List.getElem?_eq_getElem (by omega)⟩
      obtain ⟨y, hy⟩ : ∃ y, ys[k]? = some y := ⟨_, List.getElem?_eq_getElem (by omega)⟩
      have d1 : wr.cell? ⟨b1, o1 + k, none⟩ = some (.float .f64 x) := by rw [HW.out]; refine Eq.trans ?_ ((hc1 k hlt).trans (by rw [List.getElem?_map, hx]; rfl)); simp
      have d2 : wr.cell? ⟨b2, o2 + k, none⟩ = some (.float .f64 y) := by rw [HW.out]; refine Eq.trans ?_ ((hc2 k hlt).trans (by rw [List.getElem?_map, hy]; rfl)); simp
      have hxy : Hid (cls x = cls y) := by
        have := congrArg (fun l => l[k]?) HC.out
        simp only [List.getElem?_map, hx, hy] at this
        unfold Hid; simpa using this
      have hlt1 : (k : Int) < (n : Int) := by omega
      have hge1 : (0 : Int) ≤ (k : Int) := by omega
      clear hc1 hc2 hx hy
      go_wp2_with fail
      go_quiet ((go_at_call 8; exact Calls.quiet_of (same_any _ _ _ hxy.out)))
      go_wp2
      go_roundw
      case rel => exact ⟨⟨_, by rw [HW.out, World.drewN_drewN]⟩, k + 1, by omega, by go_num⟩
      case measure => simp [intOf]; omega
    · go_wp2
      go_ret
      exact ⟨rfl, m, HW.out⟩

end Go.Proofs.Ytiopmlepdjiapak
