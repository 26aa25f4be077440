/-
  Two records compared by their places in a book.
-/
import Derived.Test.YtdnnenklkfkhcaaPj
import Derived.Test.YtdnnenklkfkhcaaTp
namespace Go.Proofs.Ytdnnenklkfkhcaa
open Go.RowKit Jn Go.Maps

/-- -1, 0, 1. -/
def cmpI (x y : Int) : Int := if x < y then -1 else if y < x then 1 else 0
theorem fld1 (z q : Int) (w : World) : (Instr.field 91 (.agg #[.int .i64 z, .int .i64 q]) 1).run Try.prog w = .ok (.int .i64 q) w := by kernel_rfl

set_option maxRecDepth 20000 in
theorem nan_any (x : Int) (w : World) : Calls Try.prog 89 #[.int .i64 x] w fun e w' => e = .returned (.bool false) ∧ w' = w := by
  go_enter Try.func89, Try.ntmps89
  go_wp2
  go_ret
  exact ⟨rfl, rfl⟩

set_option maxRecDepth 20000 in
set_option maxHeartbeats 1000000 in
theorem cmp_any (x y : Int) (w : World) : Calls Try.prog 82 #[.int .i64 x, .int .i64 y] w fun e w' => e = .returned (.int .i64 (cmpI x y)) ∧ w' = w := by
  have h1 := fun w => nan_any x w
  have h2 := fun w => nan_any y w
  unfold cmpI
  by_cases hxy : x < y
  · rw [if_pos hxy]
    go_enter Try.func82, Try.ntmps82
    go_wp2_with fail
    refine (h1 _).mono ?_
    rintro e w1 ⟨rfl, hw1⟩
    have hw2 := hw1.symm
    clear hw1
    subst hw2
    go_wp2_with fail
    refine (h2 _).mono ?_
    rintro e w1 ⟨rfl, hw1⟩
    have hw2 := hw1.symm
    clear hw1
    subst hw2
    go_wp2_with fail
    go_ret
    exact ⟨rfl, rfl⟩
  · by_cases hyx : y < x
    · rw [if_neg hxy, if_pos hyx]
      go_enter Try.func82, Try.ntmps82
      go_wp2_with fail
      refine (h1 _).mono ?_
      rintro e w1 ⟨rfl, hw1⟩
      have hw2 := hw1.symm
      clear hw1
      subst hw2
      go_wp2_with fail
      refine (h2 _).mono ?_
      rintro e w1 ⟨rfl, hw1⟩
      have hw2 := hw1.symm
      clear hw1
      subst hw2
      go_wp2_with fail
      go_ret
      exact ⟨rfl, rfl⟩
    · rw [if_neg hxy, if_neg hyx]
      go_enter Try.func82, Try.ntmps82
      go_wp2_with fail
      refine (h1 _).mono ?_
      rintro e w1 ⟨rfl, hw1⟩
      have hw2 := hw1.symm
      clear hw1
      subst hw2
      go_wp2_with fail
      refine (h2 _).mono ?_
      rintro e w1 ⟨rfl, hw1⟩
      have hw2 := hw1.symm
      clear hw1
      subst hw2
      go_wp2_with fail
      go_ret
      exact ⟨rfl, rfl⟩

set_option maxRecDepth 20000 in
set_option maxHeartbeats 1000000 in
theorem clos_any (B n Q : Nat) (f : Int → Option (Int × Int)) (x y : Int) (w : World) (h : Bk w B n f) (hbox : w.cell? ⟨Q, 0, none⟩ = some (.map (some B))) (hx : wfI x) (hy : wfI y) (hfx : (f x).isSome = true) (hfy : (f y).isSome = true) :
    Calls Try.prog 81 #[.int .i64 x, .int .i64 y, .pointer (some ⟨Q, 0, none⟩)] w fun e w' => e = .returned (.int .i64 (cmpI (plc f x) (plc f y))) ∧ w' = w := by
  have h1 := h.look x hx _ (some_of hfx)
  have h2 := h.look y hy _ (some_of hfy)
  have h3 := fld1 (kep f x) (plc f x) w
  have h4 := fld1 (kep f y) (plc f y) w
  have hc := cmp_any (plc f x) (plc f y) w
  clear h hfx hfy
  generalize plc f x = px at *
  generalize plc f y = py at *
  generalize kep f x = kx at *
  generalize kep f y = ky at *
  generalize cmpI px py = r at *
  go_enter Try.func81, Try.ntmps81
  go_wp2_with fail
  refine hc.mono ?_
  rintro e w1 ⟨rfl, hw1⟩
  have hw2 := hw1.symm
  clear hw1
  subst hw2
  go_wp2_with fail
  go_ret
  exact ⟨rfl, rfl⟩
end Go.Proofs.Ytdnnenklkfkhcaa
