/-
  Groups fit: the walk of the law.
-/
import Derived.Test.YtaidhcbchpcemaaQ10
import Derived.Test.YtaidhcbchpcemaaCuC
namespace Go.Proofs.Ytaidhcbchpcemaa
open Go.RowKit Va Bl
set_option linter.unusedVariables false

theorem groups_all {u p : Int} (hu : rng u 0 7 = true) (hp : rng p 0 7 = true) : ((u / 4 == p / 4) = true → redB u p = plaB p u) ∧ (redB u p = true → redB p u = true → u = p) ∧ redB 0 u = true ∧ redB u 7 = true := by
  obtain ⟨a, rfl⟩ := fin8 hu
  obtain ⟨b, rfl⟩ := fin8 hp
  revert a b
  decide +kernel
theorem groups_out {a : Int} (h : 8 ≤ a) : redB a 7 = false ∧ plaB 0 a = false ∧ redB (-1) 7 = false := by
  have e : rng a 0 7 = false := by simp [rng]; omega
  refine ⟨by rw [redB, e]; rfl, by rw [plaB, e]; rfl, by decide⟩

set_option maxRecDepth 20000 in
set_option maxHeartbeats 8000000 in
theorem fgr_walk (ao : Option Addr) (cap : Nat) (bs : List Int) (w : World) (hb : Bytes w w.heap.size ao bs) :
    Calls Try.prog 3 #[.slice ao bs.length cap] w fun e w' => e = .returned (.bool true) ∧ Below w.heap.size w w' := by
  have hB := big_any ao cap bs.length
  clear hb
  by_cases hbig : (4096 : Int) < (bs.length : Int)
  · rw [decide_eq_true hbig] at hB
    go_enter Try.func3, Try.ntmps3
    go_wp2_with fail
    refine (hB _).mono ?_
    rintro e w1 ⟨rfl, rfl⟩
    go_wp2_with fail
    go_ret
    exact ⟨rfl, Below.refl _ _⟩
  rw [decide_eq_false hbig] at hB
  have hl : bs.length ≤ 4096 := by omega
  go_enter Try.func3, Try.ntmps3
  go_wp2_with fail
  refine (hB w).mono ?_
  rintro e w1 ⟨rfl, hw1⟩
  obtain rfl := hw1.symm
  clear hB hw1
  go_wp2_with fail
  go_loopw [3, 4, 5] (fun uv _ _ wr => wr = w ∧ ∃ u : Int, uv = .int .i64 u ∧ 0 ≤ u ∧ u ≤ 8) (fun uv _ _ _ => (8 - intOf uv).toNat)
  case atStart => exact ⟨rfl, 0, rfl, by omega, by omega⟩
  case round =>
    obtain ⟨rfl, u, rfl, hu0, hu8⟩ := hrel
    by_cases hu : u < 8
    · go_wp2_with fail
      go_loopw [4, 5] (fun pv _ wx => wx = wr ∧ ∃ p : Int, pv = .int .i64 p ∧ 0 ≤ p ∧ p ≤ 8) (fun pv _ _ => (8 - intOf pv).toNat)
      case atStart => exact ⟨rfl, 0, rfl, by omega, by omega⟩
      case round =>
        obtain ⟨hw, p, rfl, hp0, hp8⟩ := hrel
        obtain rfl := hw
        have hru : Hid (rng u 0 7 = true) := by rw [Hid, rng_iff]; omega
        by_cases hp : p < 8
        · have hrp : Hid (rng p 0 7 = true) := by rw [Hid, rng_iff]; omega
          obtain ⟨F1, F2, -, -⟩ := groups_all hru.out hrp.out
          have k1 := ired_any u p
          have k2 := sred_any u p
          have k3 := ipla_any p u
          have k4 := ired_any p u
          by_cases hup : u = p
          · subst hup
            have F3 := F1 (by simp)
            rw [← F3] at k3
            clear F1 F2 F3 k4
            generalize redB u u = r1 at *
            cases r1
            all_goals go_wp2_with (with_reducible (first | refine (k1 _).mono ?_ | refine (k2 _).mono ?_ | refine (k3 _).mono ?_); rintro e w1 ⟨rfl, hw1⟩; obtain rfl := hw1.symm; clear hw1)
            all_goals go_roundw
            all_goals (first | exact ⟨by trivial, u + 1, rfl, by omega, by omega⟩ | (simp [intOf]; omega))
          · have F4 : ¬ (redB u p = true ∧ redB p u = true) := fun h => hup (F2 h.1 h.2)
            clear F2
            generalize redB u p = r1 at *
            generalize redB p u = r3 at *
            generalize plaB p u = r2 at *
            cases hq : (u / 4 == p / 4) <;> cases r1 <;> cases r2 <;> cases r3 <;> first
              | (exfalso; simp_all; done)
              | (clear F1 F4; go_wp2_with (with_reducible (first | refine (k1 _).mono ?_ | refine (k2 _).mono ?_ | refine (k3 _).mono ?_ | refine (k4 _).mono ?_); rintro e w1 ⟨rfl, hw1⟩; obtain rfl := hw1.symm; clear hw1); go_roundw; all_goals (first | exact ⟨by trivial, p + 1, rfl, by omega, by omega⟩ | (simp [intOf]; omega)))
        · obtain ⟨-, -, F1, F2⟩ := groups_all hru.out hru.out
          have k5 := ired_any 0 u
          have k6 := ired_any u 7
          rw [F1] at k5
          rw [F2] at k6
          clear F1 F2
          go_wp2_with (with_reducible (first | refine (k5 _).mono ?_ | refine (k6 _).mono ?_); rintro e w1 ⟨rfl, hw1⟩; obtain rfl := hw1.symm; clear hw1)
          go_roundw
          all_goals (first | exact ⟨by trivial, u + 1, rfl, by omega, by omega⟩ | (simp [intOf]; omega))
    · obtain ⟨F1, F2, F3⟩ := groups_out (a := 8 + (bs.length : Int)) (by omega)
      have k1 := ired_any (8 + (bs.length : Int)) 7
      have k2 := ipla_any 0 (8 + (bs.length : Int))
      have k3 := ired_any (-1) 7
      rw [F1] at k1
      rw [F2] at k2
      rw [F3] at k3
      clear F1 F2 F3
      go_wp2_with (with_reducible (first | refine (k1 _).mono ?_ | refine (k2 _).mono ?_ | refine (k3 _).mono ?_); rintro e w1 ⟨rfl, hw1⟩; obtain rfl := hw1.symm; clear hw1)
      go_ret
      exact ⟨rfl, by repeat (first | exact Below.refl _ _ | assumption | refine st_drew ?_ | refine st_drewN ?_ _ | refine Below.setCell ?_ (by first | omega | (simp; done) | (simp; omega)) _ | refine Below.alloc ?_ (by first | omega | (simp; done) | (simp; omega)) _)⟩
end Go.Proofs.Ytaidhcbchpcemaa
