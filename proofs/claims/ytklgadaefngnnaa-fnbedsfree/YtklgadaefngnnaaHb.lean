/-
  Beds and stays: the small functions, the specification's and the program's.
-/
import Derived.Test.YtklgadaefngnnaaRows
import Derived.Test.YtklgadaefngnnaaHm
import Derived.Test.YtklgadaefngnnaaRw
import Derived.BigQuiet
import Derived.Deep.QuietTactic
import Derived.Deep.DeepCutAuto
import Derived.Deep.RegionHeld3
namespace Go.Proofs.Ytklgadaefngnnaa
open Go.RowKit Hm
set_option linter.unusedVariables false

def csB (b : Bd) (k : Nat) : Int := match k with | 0 => b.room | _ => b.kind
def csS (s : St) (k : Nat) : Int := match k with | 0 => s.person | 1 => s.sex | 2 => s.need | 3 => s.bed | 4 => s.frm | _ => s.til
def aB (b : Bd) : Value := .agg #[.int .i64 b.room, .int .i64 b.kind]
def aS (s : St) : Value := .agg #[.int .i64 s.person, .int .i64 s.sex, .int .i64 s.need, .int .i64 s.bed, .int .i64 s.frm, .int .i64 s.til]
/-- Beds and stays at the two slices of a house. -/
def HRw (w : World) (vb vs : Value) (B : List Bd) (S : List St) : Prop := Rw 2 csB w vb B ∧ Rw 6 csS w vs S
theorem HRw.below {w w' : World} {vb vs : Value} {B : List Bd} {S : List St} (h : HRw w vb vs B S) (hb : Below w.heap.size w w') : HRw w' vb vs B S := ⟨h.1.below hb, h.2.below hb⟩
theorem ret_bool {a b : Bool} (h : a = b) : Ending.returned (.bool a) = .returned (.bool b) := by rw [h]
theorem ret_int {k : IntKind} {a b : Int} (h : a = b) : Ending.returned (.int k a) = .returned (.int k b) := by rw [h]
theorem val_bool {a b : Bool} (h : a = b) : Value.bool a = .bool b := by rw [h]

set_option maxHeartbeats 400000 in
theorem lin_any (n lo hi : Int) (w : World) : Calls Try.prog 41 #[.int .i64 n, .int .i64 lo, .int .i64 hi] w fun e w' => e = .returned (.bool (decide (lo ≤ n) && decide (n ≤ hi))) ∧ w = w' := by
  go_enter Try.func41, Try.ntmps41
  go_wp2
  all_goals (go_ret; exact ⟨ret_bool (by first | (simp; done) | (simp; omega) | (simp_all; done) | (simp_all; omega) | (rw [Bool.eq_iff_iff]; simp; omega) | (rw [Bool.eq_iff_iff]; simp_all; omega)), rfl⟩)

set_option maxHeartbeats 400000 in
theorem skind_any (x : Int) (w : World) : Calls Try.prog 42 #[.int .i64 x] w fun e w' => e = .returned (.bool (kd x)) ∧ w = w' := by
  have h := lin_any x 1 3
  rw [show (decide (1 ≤ x) && decide (x ≤ 3)) = kd x from rfl] at h
  generalize kd x = t at *
  go_enter Try.func42, Try.ntmps42
  go_wp2_with (go_at_call 41; refine (h _).mono ?_; rintro e w1 ⟨rfl, rfl⟩)
  go_ret
  exact ⟨rfl, rfl⟩

set_option maxHeartbeats 400000 in
theorem sper_any (x : Int) (w : World) : Calls Try.prog 43 #[.int .i64 x] w fun e w' => e = .returned (.bool (pers x)) ∧ w = w' := by
  have h := lin_any x 0 999
  rw [show (decide (0 ≤ x) && decide (x ≤ 999)) = pers x from rfl] at h
  generalize pers x = t at *
  go_enter Try.func43, Try.ntmps43
  go_wp2_with (go_at_call 41; refine (h _).mono ?_; rintro e w1 ⟨rfl, rfl⟩)
  go_ret
  exact ⟨rfl, rfl⟩

set_option maxHeartbeats 400000 in
theorem stime_any (x : Int) (w : World) : Calls Try.prog 44 #[.int .i64 x] w fun e w' => e = .returned (.bool (tm x)) ∧ w = w' := by
  have h := lin_any x 0 10000000
  rw [show (decide (0 ≤ x) && decide (x ≤ 10000000)) = tm x from rfl] at h
  generalize tm x = t at *
  go_enter Try.func44, Try.ntmps44
  go_wp2_with (go_at_call 41; refine (h _).mono ?_; rintro e w1 ⟨rfl, rfl⟩)
  go_ret
  exact ⟨rfl, rfl⟩

set_option maxHeartbeats 400000 in
theorem sdoes_any (b n : Int) (w : World) : Calls Try.prog 45 #[.int .i64 b, .int .i64 n] w fun e w' => e = .returned (.bool (does b n)) ∧ w = w' := by
  unfold does
  go_enter Try.func45, Try.ntmps45
  go_wp2
  all_goals (go_ret; exact ⟨ret_bool (by first | (simp; done) | (simp; omega) | (simp_all; done) | (simp_all; omega) | (rw [Bool.eq_iff_iff]; simp; omega) | (rw [Bool.eq_iff_iff]; simp_all; omega)), rfl⟩)

set_option maxHeartbeats 400000 in
theorem idoes_any (b n : Int) (w : World) : Calls Try.prog 86 #[.int .i64 b, .int .i64 n] w fun e w' => e = .returned (.bool (does b n)) ∧ w = w' := by
  unfold does
  go_enter Try.func86, Try.ntmps86
  go_wp2
  all_goals (go_ret; exact ⟨ret_bool (by first | (simp; done) | (simp; omega) | (simp_all; done) | (simp_all; omega) | (rw [Bool.eq_iff_iff]; simp; omega) | (rw [Bool.eq_iff_iff]; simp_all; omega)), rfl⟩)

set_option maxHeartbeats 400000 in
theorem isex_any (x : Int) (w : World) : Calls Try.prog 51 #[.int .i64 x] w fun e w' => e = .returned (.bool (sx x)) ∧ w = w' := by
  unfold sx
  go_enter Try.func51, Try.ntmps51
  go_wp2
  all_goals (go_ret; exact ⟨ret_bool (by first | (simp; done) | (simp; omega) | (simp_all; done) | (simp_all; omega) | (rw [Bool.eq_iff_iff]; simp; omega) | (rw [Bool.eq_iff_iff]; simp_all; omega)), rfl⟩)

set_option maxHeartbeats 400000 in
theorem ikind_any (x : Int) (w : World) : Calls Try.prog 52 #[.int .i64 x] w fun e w' => e = .returned (.bool (kd x)) ∧ w = w' := by
  unfold kd
  go_enter Try.func52, Try.ntmps52
  go_wp2
  all_goals (go_ret; exact ⟨ret_bool (by first | (simp; done) | (simp; omega) | (simp_all; done) | (simp_all; omega) | (rw [Bool.eq_iff_iff]; simp; omega) | (rw [Bool.eq_iff_iff]; simp_all; omega)), rfl⟩)

set_option maxHeartbeats 400000 in
theorem itime_any (x : Int) (w : World) : Calls Try.prog 108 #[.int .i64 x] w fun e w' => e = .returned (.bool (tm x)) ∧ w = w' := by
  unfold tm
  go_enter Try.func108, Try.ntmps108
  go_wp2
  all_goals (go_ret; exact ⟨ret_bool (by first | (simp; done) | (simp; omega) | (simp_all; done) | (simp_all; omega) | (rw [Bool.eq_iff_iff]; simp; omega) | (rw [Bool.eq_iff_iff]; simp_all; omega)), rfl⟩)

set_option maxHeartbeats 400000 in
theorem iper_any (x : Int) (w : World) : Calls Try.prog 107 #[.int .i64 x] w fun e w' => e = .returned (.bool (pers x)) ∧ w = w' := by
  unfold pers
  go_enter Try.func107, Try.ntmps107
  go_wp2
  all_goals (go_ret; exact ⟨ret_bool (by first | (simp; done) | (simp; omega) | (simp_all; done) | (simp_all; omega) | (rw [Bool.eq_iff_iff]; simp; omega) | (rw [Bool.eq_iff_iff]; simp_all; omega)), rfl⟩)

set_option maxHeartbeats 400000 in
theorem excl_any (a b : Bd) (w : World) :
    Calls Try.prog 84 #[aB b, aB a] w fun e w' => e = .returned (.bool (excl a b)) ∧ Below w.heap.size w w' := by
  unfold aB excl
  obtain ⟨ar, ak⟩ := a
  obtain ⟨br, bk⟩ := b
  go_enter Try.func84, Try.ntmps84
  go_wp2
  all_goals (go_ret; exact ⟨ret_bool (by first | (simp; done) | (simp; omega) | (simp_all; done) | (simp_all; omega) | (rw [Bool.eq_iff_iff]; simp; omega) | (rw [Bool.eq_iff_iff]; simp_all; omega)), by repeat (first | exact Below.refl _ _ | refine Below.setCell ?_ (by first | (simp; done) | (simp; omega)) _ | refine Below.alloc ?_ (by first | (simp; done) | (simp; omega)) _)⟩)

set_option maxHeartbeats 400000 in
theorem hasbed_any (ao ao2 : Option Addr) (n cap m cap2 : Nat) (x : Int) (w : World) :
    Calls Try.prog 106 #[.agg #[.slice ao n cap, .slice ao2 m cap2], .int .i64 x] w fun e w' => e = .returned (.bool (inB n x)) ∧ Below w.heap.size w w' := by
  unfold inB
  go_enter Try.func106, Try.ntmps106
  go_wp2
  all_goals (go_ret; exact ⟨ret_bool (by first | (simp; done) | (simp; omega) | (simp_all; done) | (simp_all; omega) | (rw [Bool.eq_iff_iff]; simp; omega) | (rw [Bool.eq_iff_iff]; simp_all; omega)), by repeat (first | exact Below.refl _ _ | refine Below.setCell ?_ (by first | (simp; done) | (simp; omega)) _ | refine Below.alloc ?_ (by first | (simp; done) | (simp; omega)) _)⟩)

set_option maxHeartbeats 400000 in
theorem other_any (n s : Int) (w : World) (h1 : 1 ≤ s) (h2 : s ≤ 2) :
    Calls Try.prog 89 #[.agg #[.int .i64 n, .int .i64 s]] w fun e w' => e = .returned (.agg #[.int .i64 n, .int .i64 (3 - s)]) ∧ Below w.heap.size w w' := by
  go_enter Try.func89, Try.ntmps89
  go_wp2
  exact bodyPost_ret (v := .agg #[.int .i64 n, .int .i64 (3 - s)]) (by simp [results, Try.results89, go_sem]) rfl ⟨rfl, by repeat (first | exact Below.refl _ _ | refine Below.setCell ?_ (by first | (simp; done) | (simp; omega)) _ | refine Below.alloc ?_ (by first | (simp; done) | (simp; omega)) _)⟩

end Go.Proofs.Ytklgadaefngnnaa
