/-
  The program's look at all stays.
-/
import Derived.Test.YtklgadaefngnnaaHc
namespace Go.Proofs.Ytklgadaefngnnaa
open Go.RowKit Hm
set_option linter.unusedVariables false

noncomputable def pB (p : Prop) : Bool := by classical exact decide p
theorem pB_true {p : Prop} (h : p) : pB p = true := by simp [pB, h]
theorem pB_false {p : Prop} (h : ¬ p) : pB p = false := by simp [pB, h]
theorem of_pB {p : Prop} (h : pB p = true) : p := by
  rcases Classical.em p with k | k
  · exact k
  · rw [pB_false k] at h; cases h
theorem of_pBf {p : Prop} (h : pB p = false) : ¬ p := fun k => by rw [pB_true k] at h; cases h
/-- The From ahead of place i. -/
def ahead (S : List St) (i : Nat) : Int := match i with | 0 => 0 | i + 1 => (S.getD i default).frm
theorem ahead_succ {S : List St} {i : Nat} {x : St} (h : S[i]? = some x) : ahead S (i + 1) = x.frm := by
  show (S.getD i default).frm = _
  rw [List.getD_eq_getElem?_getD, h]; rfl
theorem stOk_frm {n : Nat} {x : St} (h : stOk n x = true) : 0 ≤ x.frm := by
  unfold stOk tm at h
  simp only [Bool.and_eq_true, decide_eq_true_eq] at h
  exact h.1.2.1
theorem not_ahead {nb : Nat} {S : List St} {i : Nat} {x : St} (hx : S[i]? = some x) (h0 : 0 ≤ x.frm) (h : x.frm < ahead S i) : ¬ staysTo nb S S.length := fun q => by
  cases i with
  | zero => exact absurd h (by show ¬ x.frm < 0; omega)
  | succ i =>
    obtain ⟨y, hy⟩ := some_at S i (by have := get_lt hx; omega)
    rw [ahead_succ hy] at h
    have := (q (i + 1) x (get_lt hx) hx).2 i y rfl hy
    omega
theorem ahead_le {S : List St} {i : Nat} {x : St} (h : ¬ x.frm < ahead S i) : ∀ k y, k + 1 = i → S[k]? = some y → y.frm ≤ x.frm := by
  intro k y hk hy
  subst hk
  rw [ahead_succ hy] at h
  omega

set_option maxRecDepth 20000 in
set_option maxHeartbeats 2000000 in
theorem istays_any (ao ao2 : Option Addr) (n cap m cap2 : Nat) (S : List St) (w : World) (h : Rw 6 csS w (.slice ao2 m cap2) S) (hn : S.length ≤ 1048576) :
    Calls Try.prog 47 #[.agg #[.slice ao n cap, .slice ao2 m cap2]] w fun e w' => e = .returned (.bool (pB (staysTo n S S.length))) ∧ Below w.heap.size w w' := by
  obtain rfl := h.len
  have HH := hidden h
  clear h
  go_enter Try.func47, Try.ntmps47
  go_wp2_with fail
  go_loopw [3, 9] (fun av iv wr => ∃ i : Nat, i ≤ S.length ∧ iv = .int .i64 i ∧ av = .int .i64 (ahead S i) ∧ Below w.heap.size w wr ∧ w.heap.size < wr.heap.size ∧ wr.cell? ⟨w.heap.size, 0, none⟩ = some (.slice ao n cap) ∧ wr.cell? ⟨w.heap.size, 1, none⟩ = some (.slice ao2 S.length cap2) ∧ Hid (staysTo n S i)) (fun _ iv _ => S.length - (intOf iv).toNat)
  case atStart => exact ⟨0, Nat.zero_le _, rfl, rfl, (Below.refl _ _).alloc (Nat.le_refl _) _, by simp, by simp, by simp, staysTo_zero _ _⟩
  case round =>
    obtain ⟨i, hi, rfl, rfl, hb, hz, hh0, hh1, hok⟩ := hrel
    by_cases hlt : i < S.length
    · have hlti : (i : Int) < (S.length : Int) := by omega
      obtain ⟨x, hx⟩ := some_at S i hlt
      obtain ⟨g, off, rfl, hg, c0, c1, c2, c3, c4, c5⟩ := stay_cells (HH.out.below hb) hx
      have HX := hidden hx
      have hcall := fun W => stayok_any ao (some ⟨g, off, none⟩) n S.length cap cap2 x W
      have HA := hidden (ahead_succ hx)
      unfold aS at hcall
      clear hx
      cases ht : stOk n x with
      | false =>
        have hno : Hid (pB (staysTo n S S.length) = false) := pB_false fun q => by have := (q i x hlt HX.out).1; rw [ht] at this; cases this
        rw [ht] at hcall
        clear hok
        go_wp2_with (go_at_call 85; refine (hcall _).mono ?_; rintro e w1 ⟨rfl, hb1⟩; obtain ⟨hc, hf⟩ := bcell hb1; have bA := onto (hb.alloc hb.size _) hb1)
        go_ret
        exact ⟨by rw [hno.out]; rfl, bA⟩
      | true =>
        rw [ht] at hcall
        have h0 := stOk_frm ht
        by_cases hq : x.frm < ahead S i
        · have hno : Hid (pB (staysTo n S S.length) = false) := pB_false (not_ahead HX.out h0 hq)
          clear hok
          go_wp2_with (go_at_call 85; refine (hcall _).mono ?_; rintro e w1 ⟨rfl, hb1⟩; obtain ⟨hc, hf⟩ := bcell hb1; have bA := onto (hb.alloc hb.size _) hb1)
          go_ret
          exact ⟨by rw [hno.out]; rfl, bA⟩
        · have hok2 : Hid (staysTo n S (i + 1)) := staysTo_succ hok.out HX.out ht (ahead_le hq)
          clear hok
          go_wp2_with (go_at_call 85; refine (hcall _).mono ?_; rintro e w1 ⟨rfl, hb1⟩; obtain ⟨hc, hf⟩ := bcell hb1; have bA := onto (hb.alloc hb.size _) hb1)
          have hs1 := hb1.size
          simp at hs1
          have d0 : w1.cell? ⟨w.heap.size, 0, none⟩ = some (.slice ao n cap) := (hc _ _ (by simp; omega)).trans (by rw [old_cell hz]; exact hh0)
          have d1 : w1.cell? ⟨w.heap.size, 1, none⟩ = some (.slice (some ⟨g, off, none⟩) S.length cap2) := (hc _ _ (by simp; omega)).trans (by rw [old_cell hz]; exact hh1)
          go_roundw
          case rel => exact ⟨i + 1, by omega, rfl, by rw [HA.out], bA, by omega, d0, d1, hok2⟩
          case measure => simp [intOf]; omega
    · have hlti : ¬ (i : Int) < (S.length : Int) := by omega
      have hil : i = S.length := by omega
      subst hil
      have hyes : Hid (pB (staysTo n S S.length) = true) := pB_true hok.out
      go_wp2_with fail
      go_ret
      exact ⟨by rw [hyes.out]; rfl, hb⟩

end Go.Proofs.Ytklgadaefngnnaa
