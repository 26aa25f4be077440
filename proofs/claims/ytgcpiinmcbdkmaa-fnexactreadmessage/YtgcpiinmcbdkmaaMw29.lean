/-
  Merged: Rm18.
-/
import Derived.Test.YtgcpiinmcbdkmaaMw28
namespace Go.Proofs.Ytgcpiinmcbdkmaa
open Go.RowKit Va Ms
set_option linter.all false
theorem esc_spec : ∀ x, x < 256 → (x < 32 ∨ 126 < x) → x ≠ 13 → x ≠ 10 → ((⟨#[92, 88]⟩ : ByteArray) ++ (⟨#[48, 49, 50, 51, 52, 53, 54, 55, 56, 57, 65, 66, 67, 68, 69, 70]⟩ : ByteArray).extract (x / 16) (x / 16 + 1) ++ (⟨#[48, 49, 50, 51, 52, 53, 54, 55, 56, 57, 65, 66, 67, 68, 69, 70]⟩ : ByteArray).extract (x % 16) (x % 16 + 1) ++ (⟨#[92]⟩ : ByteArray)) = bsOf (escL x) := by decide +kernel
set_option maxRecDepth 20000 in
set_option maxHeartbeats 16000000 in
theorem sesc_any (x : Nat) (hx : x < 256) (w : World) : Calls Try.prog 106 #[.int .u8 (x : Int)] w fun e w' => e = .returned (.string (bsOf (escL x))) ∧ Below w.heap.size w w' := by
  by_cases h124 : x = 124
  · skip
    have e124 : (((x : Nat) : Int) == 124) = true := by rw [beq_iff_eq]; omega
    have e92 : (((x : Nat) : Int) == 92) = false := by rw [beq_eq_false_iff_ne]; omega
    have e13 : (((x : Nat) : Int) == 13) = false := by rw [beq_eq_false_iff_ne]; omega
    have e10 : (((x : Nat) : Int) == 10) = false := by rw [beq_eq_false_iff_ne]; omega
    have HX : Hid (bsOf (escL x) = bsOf (escL 124)) := by show bsOf (escL x) = bsOf (escL 124); rw [h124]
    clear h124
    go_enter Try.func106, Try.ntmps106
    go_wp2_with fail
    go_ret
    exact ⟨by rw [HX.out]; rfl, Below.refl _ _⟩
  by_cases h92 : x = 92
  · skip
    have e124 : (((x : Nat) : Int) == 124) = false := by rw [beq_eq_false_iff_ne]; omega
    have e92 : (((x : Nat) : Int) == 92) = true := by rw [beq_iff_eq]; omega
    have e13 : (((x : Nat) : Int) == 13) = false := by rw [beq_eq_false_iff_ne]; omega
    have e10 : (((x : Nat) : Int) == 10) = false := by rw [beq_eq_false_iff_ne]; omega
    have HX : Hid (bsOf (escL x) = bsOf (escL 92)) := by show bsOf (escL x) = bsOf (escL 92); rw [h92]
    clear h124 h92
    go_enter Try.func106, Try.ntmps106
    go_wp2_with fail
    go_ret
    exact ⟨by rw [HX.out]; rfl, Below.refl _ _⟩
  by_cases h13 : x = 13
  · skip
    have e124 : (((x : Nat) : Int) == 124) = false := by rw [beq_eq_false_iff_ne]; omega
    have e92 : (((x : Nat) : Int) == 92) = false := by rw [beq_eq_false_iff_ne]; omega
    have e13 : (((x : Nat) : Int) == 13) = true := by rw [beq_iff_eq]; omega
    have e10 : (((x : Nat) : Int) == 10) = false := by rw [beq_eq_false_iff_ne]; omega
    have HX : Hid (bsOf (escL x) = bsOf (escL 13)) := by show bsOf (escL x) = bsOf (escL 13); rw [h13]
    clear h124 h92 h13
    go_enter Try.func106, Try.ntmps106
    go_wp2_with fail
    go_ret
    exact ⟨by rw [HX.out]; rfl, Below.refl _ _⟩
  by_cases h10 : x = 10
  · skip
    have e124 : (((x : Nat) : Int) == 124) = false := by rw [beq_eq_false_iff_ne]; omega
    have e92 : (((x : Nat) : Int) == 92) = false := by rw [beq_eq_false_iff_ne]; omega
    have e13 : (((x : Nat) : Int) == 13) = false := by rw [beq_eq_false_iff_ne]; omega
    have e10 : (((x : Nat) : Int) == 10) = true := by rw [beq_iff_eq]; omega
    have HX : Hid (bsOf (escL x) = bsOf (escL 10)) := by show bsOf (escL x) = bsOf (escL 10); rw [h10]
    clear h124 h92 h13 h10
    go_enter Try.func106, Try.ntmps106
    go_wp2_with fail
    go_ret
    exact ⟨by rw [HX.out]; rfl, Below.refl _ _⟩
  have e124 : (((x : Nat) : Int) == 124) = false := by rw [beq_eq_false_iff_ne]; omega
  have e92 : (((x : Nat) : Int) == 92) = false := by rw [beq_eq_false_iff_ne]; omega
  have e13 : (((x : Nat) : Int) == 13) = false := by rw [beq_eq_false_iff_ne]; omega
  have e10 : (((x : Nat) : Int) == 10) = false := by rw [beq_eq_false_iff_ne]; omega
  by_cases h32 : x < 32 ∨ 126 < x
  · have HP := hidden (esc_spec x hx h32 h13 h10)
    clear h124 h92 h13 h10
    go_enter Try.func106, Try.ntmps106
    by_cases h3 : x < 32
    · have h3i : (x : Int) < 32 := by omega
      clear h3 h32
      go_upto_region 11 with fail
      go_quiet (fail)
      go_wp2_with fail
      go_ret
      exact ⟨by rw [← HP.out]; rfl, st_drewN (Below.refl _ _) _⟩
    · have h3i : ¬ (x : Int) < 32 := by omega
      have h4i : (126 : Int) < (x : Int) := by omega
      clear h3 h32
      go_upto_region 11 with fail
      go_quiet (fail)
      go_wp2_with fail
      go_ret
      exact ⟨by rw [← HP.out]; rfl, st_drewN (Below.refl _ _) _⟩
  · have h3i : ¬ (x : Int) < 32 := by omega
    have h4i : ¬ (126 : Int) < (x : Int) := by omega
    have HP : Hid (escL x = [x]) := by
      show escL x = _
      unfold escL plainN
      rw [if_neg h124, if_neg h92, if_neg h13, if_neg h10, if_pos]
      rw [Bool.and_eq_true, decide_eq_true_eq, decide_eq_true_eq]; omega
    clear h124 h92 h13 h10 h32
    go_enter Try.func106, Try.ntmps106
    have hcv : (convert 22 9 (.slice (some ⟨w.heap.size, 0, none⟩) 1 1)).run Try.prog (w.alloc (.cells #[.int .u8 (x : Int)] 5)) = .ok (.string (bsOf [x])) (w.alloc (.cells #[.int .u8 (x : Int)] 5)) :=
      conv_own (bs := w.heap.size) (fd := [x]) ⟨rfl, Or.inr ⟨w.heap.size, 1, #[.int .u8 (x : Int)], rfl, Nat.le_refl _, PB.new w #[.int .u8 (x : Int)] 5, Nat.le_refl _, by decide, rfl, rfl⟩⟩ (fun y hy => by obtain rfl := List.mem_singleton.1 hy; exact hx)
    go_wp2_with fail
    go_ret
    exact ⟨by rw [HP.out]; rfl, Below.alloc (Below.refl _ _) (Nat.le_refl _) _⟩
end Go.Proofs.Ytgcpiinmcbdkmaa
