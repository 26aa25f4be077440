/-
  Groups: red cells and plasma, as the specification says.
-/
import Derived.Test.YtaidhcbchpcemaaQ9
namespace Go.Proofs.Ytaidhcbchpcemaa
open Go.RowKit Va Bl
set_option linter.unusedVariables false

theorem red_iff {u p : Int} (hu : rng u 0 7 = true) (hp : rng p 0 7 = true) : redB u p = true ↔ ∀ k ∈ ([1, 2, 4] : List Int), ¬ (u / k % 2 = 1 ∧ p / k % 2 = 0) := by
  obtain ⟨a, rfl⟩ := fin8 hu
  obtain ⟨b, rfl⟩ := fin8 hp
  revert a b
  decide +kernel
theorem red_no {u p k : Int} (hu : rng u 0 7 = true) (hp : rng p 0 7 = true) (hk : k ∈ ([1, 2, 4] : List Int)) (h1 : u / k % 2 = 1) (h2 : p / k % 2 = 0) : redB u p = false := by
  cases q : redB u p with
  | false => rfl
  | true => exact absurd ⟨h1, h2⟩ ((red_iff hu hp).1 q k hk)
def redTo (u p : Int) (l : List Int) : Prop := ∀ k ∈ l, ¬ (u / k % 2 = 1 ∧ p / k % 2 = 0)
theorem redTo_nil (u p : Int) : redTo u p [] := fun k hk => by cases hk
theorem redTo_snoc {u p k : Int} {l : List Int} (h : redTo u p l) (hk : ¬ (u / k % 2 = 1 ∧ p / k % 2 = 0)) : redTo u p (l ++ [k]) := fun j hj => by
  rcases List.mem_append.1 hj with q | q
  · exact h j q
  · rw [List.mem_singleton.1 q]; exact hk

set_option maxRecDepth 20000 in
set_option maxHeartbeats 2000000 in
theorem sred_any (u p : Int) (w : World) : Calls Try.prog 11 #[.int .i64 u, .int .i64 p] w fun e w' => e = .returned (.bool (redB u p)) ∧ w' = w := by
  have k1 := sgroup_any u
  have k2 := sgroup_any p
  cases hu : rng u 0 7 with
  | false =>
    rw [hu] at k1
    have hno : Hid (redB u p = false) := by rw [Hid, redB, hu]; rfl
    clear hu
    go_enter Try.func11, Try.ntmps11
    go_wp2_with (go_at_call 30; with_reducible (first | refine (k1 _).mono ?_ | refine (k2 _).mono ?_); rintro e w1 ⟨rfl, rfl⟩)
    go_ret
    exact ⟨ret_boolQ hno.out.symm, rfl⟩
  | true =>
    cases hp : rng p 0 7 with
    | false =>
      rw [hu] at k1
      rw [hp] at k2
      have hno : Hid (redB u p = false) := by rw [Hid, redB, hu, hp]; rfl
      clear hu hp
      go_enter Try.func11, Try.ntmps11
      go_wp2_with (go_at_call 30; with_reducible (first | refine (k1 _).mono ?_ | refine (k2 _).mono ?_); rintro e w1 ⟨rfl, rfl⟩)
      go_ret
      exact ⟨ret_boolQ hno.out.symm, rfl⟩
    | true =>
      have HU := hidden hu
      have HP := hidden hp
      have bu := rng_iff.1 hu
      have bp := rng_iff.1 hp
      rw [hu] at k1
      rw [hp] at k2
      clear hu hp
      go_enter Try.func11, Try.ntmps11
      go_wp2_with (go_at_call 30; with_reducible (first | refine (k1 _).mono ?_ | refine (k2 _).mono ?_); rintro e w1 ⟨rfl, hw1⟩; obtain rfl := hw1.symm; clear hw1)
      go_loopw [5] (fun kv wr => wr = w ∧ (kv = .int .i64 1 ∧ Hid (redTo u p []) ∨ kv = .int .i64 2 ∧ Hid (redTo u p [1]) ∨ kv = .int .i64 4 ∧ Hid (redTo u p [1, 2]) ∨ kv = .int .i64 8 ∧ Hid (redTo u p [1, 2, 4]))) (fun kv _ => (8 - intOf kv).toNat)
      case atStart => exact ⟨rfl, Or.inl ⟨rfl, redTo_nil _ _⟩⟩
      case round =>
        obtain ⟨rfl, hrel⟩ := hrel
        rcases hrel with ⟨rfl, hT⟩ | ⟨rfl, hT⟩ | ⟨rfl, hT⟩ | ⟨rfl, hT⟩
        · cases q1 : (u % 2 == 1) with
          | true =>
            have r1 : u % 2 = 1 := by simpa using q1
            cases q2 : (p % 2 == 0) with
            | true =>
              have r2 : p % 2 = 0 := by simpa using q2
              have hno : Hid (redB u p = false) := red_no HU.out HP.out (.head _) (by simpa using r1) (by simpa using r2)
              go_wp2_with fail
              go_ret
              exact ⟨ret_boolQ hno.out.symm, rfl⟩
            | false =>
              have r2 : ¬ p % 2 = 0 := by simpa using q2
              have hS : Hid (redTo u p [1]) := redTo_snoc (l := []) hT.out (fun h => r2 (by simpa using h.2))
              go_wp2_with fail
              go_roundw
              case rel => exact ⟨by trivial, Or.inr (Or.inl ⟨rfl, hS⟩)⟩
              case measure => simp [intOf]
          | false =>
            have r1 : ¬ u % 2 = 1 := by simpa using q1
            have hS : Hid (redTo u p [1]) := redTo_snoc (l := []) hT.out (fun h => r1 (by simpa using h.1))
            go_wp2_with fail
            go_roundw
            case rel => exact ⟨by trivial, Or.inr (Or.inl ⟨rfl, hS⟩)⟩
            case measure => simp [intOf]
        · cases q1 : (u / 2 % 2 == 1) with
          | true =>
            have r1 : u / 2 % 2 = 1 := by simpa using q1
            cases q2 : (p / 2 % 2 == 0) with
            | true =>
              have r2 : p / 2 % 2 = 0 := by simpa using q2
              have hno : Hid (redB u p = false) := red_no HU.out HP.out (.tail _ (.head _)) (by simpa using r1) (by simpa using r2)
              go_wp2_with fail
              go_ret
              exact ⟨ret_boolQ hno.out.symm, rfl⟩
            | false =>
              have r2 : ¬ p / 2 % 2 = 0 := by simpa using q2
              have hS : Hid (redTo u p [1, 2]) := redTo_snoc (l := [1]) hT.out (fun h => r2 (by simpa using h.2))
              go_wp2_with fail
              go_roundw
              case rel => exact ⟨by trivial, Or.inr (Or.inr (Or.inl ⟨rfl, hS⟩))⟩
              case measure => simp [intOf]
          | false =>
            have r1 : ¬ u / 2 % 2 = 1 := by simpa using q1
            have hS : Hid (redTo u p [1, 2]) := redTo_snoc (l := [1]) hT.out (fun h => r1 (by simpa using h.1))
            go_wp2_with fail
            go_roundw
            case rel => exact ⟨by trivial, Or.inr (Or.inr (Or.inl ⟨rfl, hS⟩))⟩
            case measure => simp [intOf]
        · cases q1 : (u / 4 % 2 == 1) with
          | true =>
            have r1 : u / 4 % 2 = 1 := by simpa using q1
            cases q2 : (p / 4 % 2 == 0) with
            | true =>
              have r2 : p / 4 % 2 = 0 := by simpa using q2
              have hno : Hid (redB u p = false) := red_no HU.out HP.out (.tail _ (.tail _ (.head _))) (by simpa using r1) (by simpa using r2)
              go_wp2_with fail
              go_ret
              exact ⟨ret_boolQ hno.out.symm, rfl⟩
            | false =>
              have r2 : ¬ p / 4 % 2 = 0 := by simpa using q2
              have hS : Hid (redTo u p [1, 2, 4]) := redTo_snoc (l := [1, 2]) hT.out (fun h => r2 (by simpa using h.2))
              go_wp2_with fail
              go_roundw
              case rel => exact ⟨by trivial, Or.inr (Or.inr (Or.inr (⟨rfl, hS⟩)))⟩
              case measure => simp [intOf]
          | false =>
            have r1 : ¬ u / 4 % 2 = 1 := by simpa using q1
            have hS : Hid (redTo u p [1, 2, 4]) := redTo_snoc (l := [1, 2]) hT.out (fun h => r1 (by simpa using h.1))
            go_wp2_with fail
            go_roundw
            case rel => exact ⟨by trivial, Or.inr (Or.inr (Or.inr (⟨rfl, hS⟩)))⟩
            case measure => simp [intOf]
        · have hyes : Hid (redB u p = true) := (red_iff HU.out HP.out).2 hT.out
          go_wp2_with fail
          go_ret
          exact ⟨ret_boolQ hyes.out.symm, rfl⟩

theorem pla_iff {u p : Int} (hu : rng u 0 7 = true) (hp : rng p 0 7 = true) : plaB u p = true ↔ ∀ k ∈ ([1, 2] : List Int), ¬ (p / k % 2 = 1 ∧ u / k % 2 = 0) := by
  obtain ⟨a, rfl⟩ := fin8 hu
  obtain ⟨b, rfl⟩ := fin8 hp
  revert a b
  decide +kernel
theorem pla_no {u p k : Int} (hu : rng u 0 7 = true) (hp : rng p 0 7 = true) (hk : k ∈ ([1, 2] : List Int)) (h1 : p / k % 2 = 1) (h2 : u / k % 2 = 0) : plaB u p = false := by
  cases q : plaB u p with
  | false => rfl
  | true => exact absurd ⟨h1, h2⟩ ((pla_iff hu hp).1 q k hk)
def plaTo (u p : Int) (l : List Int) : Prop := ∀ k ∈ l, ¬ (p / k % 2 = 1 ∧ u / k % 2 = 0)
theorem plaTo_nil (u p : Int) : plaTo u p [] := fun k hk => by cases hk
theorem plaTo_snoc {u p k : Int} {l : List Int} (h : plaTo u p l) (hk : ¬ (p / k % 2 = 1 ∧ u / k % 2 = 0)) : plaTo u p (l ++ [k]) := fun j hj => by
  rcases List.mem_append.1 hj with q | q
  · exact h j q
  · rw [List.mem_singleton.1 q]; exact hk

set_option maxRecDepth 20000 in
set_option maxHeartbeats 2000000 in
theorem spla_any (u p : Int) (w : World) : Calls Try.prog 24 #[.int .i64 u, .int .i64 p] w fun e w' => e = .returned (.bool (plaB u p)) ∧ w' = w := by
  have k1 := sgroup_any u
  have k2 := sgroup_any p
  cases hu : rng u 0 7 with
  | false =>
    rw [hu] at k1
    have hno : Hid (plaB u p = false) := by rw [Hid, plaB, hu]; rfl
    clear hu
    go_enter Try.func24, Try.ntmps24
    go_wp2_with (go_at_call 30; with_reducible (first | refine (k1 _).mono ?_ | refine (k2 _).mono ?_); rintro e w1 ⟨rfl, rfl⟩)
    go_ret
    exact ⟨ret_boolQ hno.out.symm, rfl⟩
  | true =>
    cases hp : rng p 0 7 with
    | false =>
      rw [hu] at k1
      rw [hp] at k2
      have hno : Hid (plaB u p = false) := by rw [Hid, plaB, hu, hp]; rfl
      clear hu hp
      go_enter Try.func24, Try.ntmps24
      go_wp2_with (go_at_call 30; with_reducible (first | refine (k1 _).mono ?_ | refine (k2 _).mono ?_); rintro e w1 ⟨rfl, rfl⟩)
      go_ret
      exact ⟨ret_boolQ hno.out.symm, rfl⟩
    | true =>
      have HU := hidden hu
      have HP := hidden hp
      have bu := rng_iff.1 hu
      have bp := rng_iff.1 hp
      rw [hu] at k1
      rw [hp] at k2
      clear hu hp
      go_enter Try.func24, Try.ntmps24
      go_wp2_with (go_at_call 30; with_reducible (first | refine (k1 _).mono ?_ | refine (k2 _).mono ?_); rintro e w1 ⟨rfl, hw1⟩; obtain rfl := hw1.symm; clear hw1)
      go_loopw [5] (fun kv wr => wr = w ∧ (kv = .int .i64 1 ∧ Hid (plaTo u p []) ∨ kv = .int .i64 2 ∧ Hid (plaTo u p [1]) ∨ kv = .int .i64 4 ∧ Hid (plaTo u p [1, 2]))) (fun kv _ => (4 - intOf kv).toNat)
      case atStart => exact ⟨rfl, Or.inl ⟨rfl, plaTo_nil _ _⟩⟩
      case round =>
        obtain ⟨rfl, hrel⟩ := hrel
        rcases hrel with ⟨rfl, hT⟩ | ⟨rfl, hT⟩ | ⟨rfl, hT⟩
        · cases q1 : (p % 2 == 1) with
          | true =>
            have r1 : p % 2 = 1 := by simpa using q1
            cases q2 : (u % 2 == 0) with
            | true =>
              have r2 : u % 2 = 0 := by simpa using q2
              have hno : Hid (plaB u p = false) := pla_no HU.out HP.out (.head _) (by simpa using r1) (by simpa using r2)
              go_wp2_with fail
              go_ret
              exact ⟨ret_boolQ hno.out.symm, rfl⟩
            | false =>
              have r2 : ¬ u % 2 = 0 := by simpa using q2
              have hS : Hid (plaTo u p [1]) := plaTo_snoc (l := []) hT.out (fun h => r2 (by simpa using h.2))
              go_wp2_with fail
              go_roundw
              case rel => exact ⟨by trivial, Or.inr (Or.inl ⟨rfl, hS⟩)⟩
              case measure => simp [intOf]
          | false =>
            have r1 : ¬ p % 2 = 1 := by simpa using q1
            have hS : Hid (plaTo u p [1]) := plaTo_snoc (l := []) hT.out (fun h => r1 (by simpa using h.1))
            go_wp2_with fail
            go_roundw
            case rel => exact ⟨by trivial, Or.inr (Or.inl ⟨rfl, hS⟩)⟩
            case measure => simp [intOf]
        · cases q1 : (p / 2 % 2 == 1) with
          | true =>
            have r1 : p / 2 % 2 = 1 := by simpa using q1
            cases q2 : (u / 2 % 2 == 0) with
            | true =>
              have r2 : u / 2 % 2 = 0 := by simpa using q2
              have hno : Hid (plaB u p = false) := pla_no HU.out HP.out (.tail _ (.head _)) (by simpa using r1) (by simpa using r2)
              go_wp2_with fail
              go_ret
              exact ⟨ret_boolQ hno.out.symm, rfl⟩
            | false =>
              have r2 : ¬ u / 2 % 2 = 0 := by simpa using q2
              have hS : Hid (plaTo u p [1, 2]) := plaTo_snoc (l := [1]) hT.out (fun h => r2 (by simpa using h.2))
              go_wp2_with fail
              go_roundw
              case rel => exact ⟨by trivial, Or.inr (Or.inr (⟨rfl, hS⟩))⟩
              case measure => simp [intOf]
          | false =>
            have r1 : ¬ p / 2 % 2 = 1 := by simpa using q1
            have hS : Hid (plaTo u p [1, 2]) := plaTo_snoc (l := [1]) hT.out (fun h => r1 (by simpa using h.1))
            go_wp2_with fail
            go_roundw
            case rel => exact ⟨by trivial, Or.inr (Or.inr (⟨rfl, hS⟩))⟩
            case measure => simp [intOf]
        · have hyes : Hid (plaB u p = true) := (pla_iff HU.out HP.out).2 hT.out
          go_wp2_with fail
          go_ret
          exact ⟨ret_boolQ hyes.out.symm, rfl⟩

end Go.Proofs.Ytaidhcbchpcemaa
