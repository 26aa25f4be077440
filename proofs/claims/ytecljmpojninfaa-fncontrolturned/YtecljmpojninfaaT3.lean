/-
  Trusted: the specification and the program.
-/
import Derived.Test.YtecljmpojninfaaT2
namespace Go.Proofs.Ytecljmpojninfaa
open Go.RowKit Va Lb
set_option linter.all false

theorem trStep_f {s : Bool × Int} {c : Int} (h : 1 ≤ c ∧ c ≤ 5) : trStep s c = (true, 0) := by unfold trStep; rw [if_pos h]
theorem trStep_z2 {b : Bool} {r : Int} (h : 2 ≤ r + 1) : trStep (b, r) 0 = (false, r + 1) := by unfold trStep; rw [if_neg (by omega), if_pos rfl, if_pos h]
theorem trStep_z1 {b : Bool} {r : Int} (h : ¬ 2 ≤ r + 1) : trStep (b, r) 0 = (b, r + 1) := by unfold trStep; rw [if_neg (by omega), if_pos rfl, if_neg h]
theorem trStep_o {b : Bool} {r c : Int} (h : ¬ (1 ≤ c ∧ c ≤ 5)) (h0 : c ≠ 0) : trStep (b, r) c = (b, 0) := by unfold trStep; rw [if_neg h, if_neg h0]

set_option maxRecDepth 20000 in
set_option maxHeartbeats 4000000 in
theorem strusted_any (ao : Option Addr) (n cap : Nat) (l : List Int) (a : Int) (w : World) (h : VRw 1 cvI w (.slice ao n cap) l) (hn : l.length ≤ 1048576) :
    Calls Try.prog 16 #[.slice ao n cap, .int .i64 a] w fun e w' => e = .returned (.bool (trusted l a)) ∧ w = w' := by
  obtain rfl := h.len
  have HR := hidden h
  clear h
  have HV : Hid (trusted l a = if l.length ≤ 2000 ∧ 0 ≤ a ∧ a < (l.length : Int) then !(trOf (l.take (a.toNat + 1))).1 else false) := rfl
  generalize trusted l a = R at *
  by_cases g1 : (2000 : Int) < (l.length : Int)
  · have HN : Hid (R = false) := by rw [Hid, HV.out, if_neg (by omega)]
    clear HV
    go_enter Try.func16, Try.ntmps16
    go_wp2_with fail
    go_ret
    exact ⟨ret_boolT HN.out.symm, rfl⟩
  by_cases g2 : a < 0
  · have HN : Hid (R = false) := by rw [Hid, HV.out, if_neg (by omega)]
    clear HV
    go_enter Try.func16, Try.ntmps16
    go_wp2_with fail
    go_ret
    exact ⟨ret_boolT HN.out.symm, rfl⟩
  by_cases g3 : (l.length : Int) ≤ a
  · have HN : Hid (R = false) := by rw [Hid, HV.out, if_neg (by omega)]
    clear HV
    go_enter Try.func16, Try.ntmps16
    go_wp2_with fail
    go_ret
    exact ⟨ret_boolT HN.out.symm, rfl⟩
  have HN : Hid (R = !(trOf (l.take (a.toNat + 1))).1) := by rw [Hid, HV.out, if_pos ⟨by omega, by omega, by omega⟩]
  clear HV
  go_enter Try.func16, Try.ntmps16
  go_wp2_with fail
  go_loopw [5, 6, 7] (fun bv rv iv wr => ∃ (i : Nat) (b : Bool) (r : Int), (i : Int) ≤ a + 1 ∧ iv = .int .i64 i ∧ bv = .bool b ∧ rv = .int .i64 r ∧ Hid (trOf (l.take i) = (b, r)) ∧ wr = w) (fun _ _ iv _ => a.toNat + 1 - (intOf iv).toNat)
  case atStart => exact ⟨0, false, 0, by omega, rfl, rfl, rfl, rfl, rfl⟩
  case round =>
    obtain ⟨i, b, r, hi, rfl, rfl, rfl, HS, rfl⟩ := hrel
    have hbd := trOf_bd l i
    rw [HS.out] at hbd
    obtain ⟨r0, r1⟩ : 0 ≤ r ∧ r ≤ i := hbd
    by_cases hlt : (i : Int) ≤ a
    · obtain ⟨x, hx⟩ := some_of l i (by omega)
      obtain ⟨g, off, rfl, hg, c0⟩ := vint_cell HR.out hx
      have hcall := lin_any x 1 5
      have HX : Hid (trOf (l.take (i + 1)) = trStep (b, r) x) := by rw [Hid, trOf_take hx, HS.out]
      have hlti : (i : Int) < (l.length : Int) := by omega
      clear hx HS
      by_cases q1 : 1 ≤ x ∧ x ≤ 5
      · have HY : Hid (trOf (l.take (i + 1)) = (true, 0)) := HX.out.trans (trStep_f q1)
        rw [rng_iff.2 q1] at hcall
        clear HX
        go_wp2_with (go_at_call 42; refine (hcall _).mono ?_; rintro e w1 ⟨rfl, rfl⟩)
        go_roundw
        case rel => exact ⟨i + 1, true, 0, by omega, rfl, rfl, rfl, HY, by simp⟩
        case measure => simp [intOf]; omega
      rw [show rng x 1 5 = false from by cases hc : rng x 1 5 with | false => rfl | true => exact absurd (rng_iff.1 hc) q1] at hcall
      by_cases q2 : x = 0
      · subst q2
        by_cases q3 : 2 ≤ r + 1
        · have HY : Hid (trOf (l.take (i + 1)) = (false, r + 1)) := HX.out.trans (trStep_z2 q3)
          clear HX
          go_wp2_with (go_at_call 42; refine (hcall _).mono ?_; rintro e w1 ⟨rfl, rfl⟩)
          go_roundw
          case rel => exact ⟨i + 1, false, r + 1, by omega, rfl, rfl, rfl, HY, by simp⟩
          case measure => simp [intOf]; omega
        · have HY : Hid (trOf (l.take (i + 1)) = (b, r + 1)) := HX.out.trans (trStep_z1 q3)
          clear HX
          go_wp2_with (go_at_call 42; refine (hcall _).mono ?_; rintro e w1 ⟨rfl, rfl⟩)
          go_roundw
          case rel => exact ⟨i + 1, b, r + 1, by omega, rfl, rfl, rfl, HY, by simp⟩
          case measure => simp [intOf]; omega
      · have HY : Hid (trOf (l.take (i + 1)) = (b, 0)) := HX.out.trans (trStep_o q1 q2)
        have q4 : (x == 0) = false := by simpa using q2
        clear HX
        go_wp2_with (go_at_call 42; refine (hcall _).mono ?_; rintro e w1 ⟨rfl, rfl⟩)
        go_roundw
        case rel => exact ⟨i + 1, b, 0, by omega, rfl, rfl, rfl, HY, by simp⟩
        case measure => simp [intOf]; omega
    · have hia : i = a.toNat + 1 := by omega
      have HN2 : Hid (R = !b) := by rw [Hid, HN.out, ← hia, HS.out]
      clear HN HS hia
      go_wp2_with fail
      go_ret
      exact ⟨ret_boolT HN2.out.symm, rfl⟩

set_option maxRecDepth 20000 in
set_option maxHeartbeats 4000000 in
theorem itrusted_any (ao : Option Addr) (n cap : Nat) (l : List Int) (a : Int) (w : World) (h : VRw 1 cvI w (.slice ao n cap) l) (hn : l.length ≤ 1048576) :
    Calls Try.prog 15 #[.slice ao n cap, .int .i64 a] w fun e w' => e = .returned (.bool (trusted l a)) ∧ w = w' := by
  obtain rfl := h.len
  have hcap := h.cap
  have HR := hidden h
  clear h
  have HV : Hid (trusted l a = if l.length ≤ 2000 ∧ 0 ≤ a ∧ a < (l.length : Int) then !(trOf (l.take (a.toNat + 1))).1 else false) := rfl
  generalize trusted l a = R at *
  by_cases g1 : (2000 : Int) < (l.length : Int)
  · have HN : Hid (R = false) := by rw [Hid, HV.out, if_neg (by omega)]
    clear HV
    go_enter Try.func15, Try.ntmps15
    go_wp2_with fail
    go_ret
    exact ⟨ret_boolT HN.out.symm, rfl⟩
  by_cases g2 : a < 0
  · have HN : Hid (R = false) := by rw [Hid, HV.out, if_neg (by omega)]
    clear HV
    go_enter Try.func15, Try.ntmps15
    go_wp2_with fail
    go_ret
    exact ⟨ret_boolT HN.out.symm, rfl⟩
  by_cases g3 : (l.length : Int) ≤ a
  · have HN : Hid (R = false) := by rw [Hid, HV.out, if_neg (by omega)]
    clear HV
    go_enter Try.func15, Try.ntmps15
    go_wp2_with fail
    go_ret
    exact ⟨ret_boolT HN.out.symm, rfl⟩
  obtain ⟨A, rfl⟩ : ∃ A : Nat, a = (A : Int) := ⟨a.toNat, by omega⟩
  have HN : Hid (R = !(trOf (l.take (A + 1))).1) := by rw [Hid, HV.out, if_pos ⟨by omega, by omega, by omega⟩]; rfl
  clear HV
  obtain ⟨x0, hx0⟩ := some_of l 0 (by omega)
  obtain ⟨g, off, rfl, hg, -⟩ := vint_cell HR.out hx0
  clear hx0 x0
  go_enter Try.func15, Try.ntmps15
  go_wp2_with fail
  go_loopw [5, 6, 8, 9, 28] (fun bv rv _ _ iv wr => ∃ (i : Nat) (b : Bool) (r : Int), (i : Int) ≤ A + 1 ∧ iv = .int .i64 i ∧ bv = .bool (!b) ∧ rv = .int .i64 r ∧ Hid (trOf (l.take i) = (b, r)) ∧ wr = w) (fun _ _ _ _ iv _ => A + 1 - (intOf iv).toNat)
  case atStart => exact ⟨0, false, 0, by omega, rfl, rfl, rfl, rfl, rfl⟩
  case round =>
    obtain ⟨i, b, r, hi, rfl, rfl, rfl, HS, rfl⟩ := hrel
    have hbd := trOf_bd l i
    rw [HS.out] at hbd
    obtain ⟨r0, r1⟩ : 0 ≤ r ∧ r ≤ i := hbd
    by_cases hlt : (i : Int) < A + 1
    · obtain ⟨x, hx⟩ := some_of l i (by omega)
      obtain ⟨g', off', hgg, hg', c0⟩ := vint_cell HR.out hx
      simp only [Option.some.injEq, Addr.mk.injEq, and_true] at hgg
      obtain ⟨rfl, rfl⟩ := hgg
      have HX : Hid (trOf (l.take (i + 1)) = trStep (b, r) x) := by rw [Hid, trOf_take hx, HS.out]
      have hlti : (i : Int) < (l.length : Int) := by omega
      clear hx HS
      by_cases q1 : 1 ≤ x ∧ x ≤ 5
      · have HY : Hid (trOf (l.take (i + 1)) = (true, 0)) := HX.out.trans (trStep_f q1)
        obtain ⟨q5, q6⟩ := q1
        have q4 : (x == 0) = false := by rw [beq_eq_false_iff_ne]; omega
        clear HX
        go_wp2_with fail
        go_roundw
        case rel => exact ⟨i + 1, true, 0, by omega, rfl, rfl, rfl, HY, by simp⟩
        case measure => simp [intOf]; omega
      by_cases q2 : x = 0
      · subst q2
        by_cases q3 : 2 ≤ r + 1
        · have HY : Hid (trOf (l.take (i + 1)) = (false, r + 1)) := HX.out.trans (trStep_z2 q3)
          clear HX q1
          cases b
          · go_wp2_with fail
            go_roundw
            case rel => exact ⟨i + 1, false, r + 1, by omega, rfl, rfl, rfl, HY, by simp⟩
            case measure => simp [intOf]; omega
          · go_wp2_with fail
            go_roundw
            case rel => exact ⟨i + 1, false, r + 1, by omega, rfl, rfl, rfl, HY, by simp⟩
            case measure => simp [intOf]; omega
        · have HY : Hid (trOf (l.take (i + 1)) = (b, r + 1)) := HX.out.trans (trStep_z1 q3)
          clear HX q1
          cases b
          · go_wp2_with fail
            go_roundw
            case rel => exact ⟨i + 1, false, r + 1, by omega, rfl, rfl, rfl, HY, by simp⟩
            case measure => simp [intOf]; omega
          · go_wp2_with fail
            go_roundw
            case rel => exact ⟨i + 1, true, r + 1, by omega, rfl, rfl, rfl, HY, by simp⟩
            case measure => simp [intOf]; omega
      · have HY : Hid (trOf (l.take (i + 1)) = (b, 0)) := HX.out.trans (trStep_o q1 q2)
        have q4 : (x == 0) = false := by simpa using q2
        clear HX
        by_cases q7 : 1 ≤ x
        · have q8 : ¬ x ≤ 5 := fun q => q1 ⟨q7, q⟩
          clear q1
          cases b
          · go_wp2_with fail
            go_roundw
            case rel => exact ⟨i + 1, false, 0, by omega, rfl, rfl, rfl, HY, by simp⟩
            case measure => simp [intOf]; omega
          · go_wp2_with fail
            go_roundw
            case rel => exact ⟨i + 1, true, 0, by omega, rfl, rfl, rfl, HY, by simp⟩
            case measure => simp [intOf]; omega
        · clear q1
          cases b
          · go_wp2_with fail
            go_roundw
            case rel => exact ⟨i + 1, false, 0, by omega, rfl, rfl, rfl, HY, by simp⟩
            case measure => simp [intOf]; omega
          · go_wp2_with fail
            go_roundw
            case rel => exact ⟨i + 1, true, 0, by omega, rfl, rfl, rfl, HY, by simp⟩
            case measure => simp [intOf]; omega
    · have hia : i = A + 1 := by omega
      have HN2 : Hid (R = !b) := by rw [Hid, HN.out, ← hia, HS.out]
      clear HN HS hia
      go_wp2_with fail
      go_ret
      exact ⟨ret_boolT HN2.out.symm, rfl⟩

theorem strustedB_any (ao : Option Addr) (n cap : Nat) (l : List Int) (a : Int) (w : World) (h : VRw 1 cvI w (.slice ao n cap) l) (hn : l.length ≤ 1048576) :
    Calls Try.prog 16 #[.slice ao n cap, .int .i64 a] w fun e w' => e = .returned (.bool (trusted l a)) ∧ Below w.heap.size w w' :=
  (strusted_any ao n cap l a w h hn).mono fun e w' ⟨h1, h2⟩ => ⟨h1, by rw [h2]; exact Below.refl _ _⟩

theorem itrustedB_any (ao : Option Addr) (n cap : Nat) (l : List Int) (a : Int) (w : World) (h : VRw 1 cvI w (.slice ao n cap) l) (hn : l.length ≤ 1048576) :
    Calls Try.prog 15 #[.slice ao n cap, .int .i64 a] w fun e w' => e = .returned (.bool (trusted l a)) ∧ Below w.heap.size w w' :=
  (itrusted_any ao n cap l a w h hn).mono fun e w' ⟨h1, h2⟩ => ⟨h1, by rw [h2]; exact Below.refl _ _⟩
end Go.Proofs.Ytecljmpojninfaa
