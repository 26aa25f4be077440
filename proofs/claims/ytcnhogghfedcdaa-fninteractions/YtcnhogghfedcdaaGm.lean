/-
  Allergies: the program and the specification.
-/
import Derived.Test.YtcnhogghfedcdaaGl
import Derived.Test.YtcnhogghfedcdaaGf
import Derived.Test.YtcnhogghfedcdaaGx
namespace Go.Proofs.Ytcnhogghfedcdaa
open Go.RowKit Va Ga
set_option linter.unusedVariables false

theorem hasB_true {l : List Int} {i : Nat} {x : Int} (h : l[i]? = some x) : hasB l x = true := by
  simp only [hasB, List.any_eq_true]
  exact ⟨x, List.mem_of_getElem? h, by simp⟩
theorem hasB_take {l : List Int} {i : Nat} {x y : Int} (h : hasB (l.take i) x = false) (hy : l[i]? = some y) (hq : ¬ x = y) : hasB (l.take (i + 1)) x = false := by
  rw [take_snocG hy, hasB_snoc, h]
  simp
  exact fun e => hq e.symm

set_option maxRecDepth 20000 in
set_option maxHeartbeats 1000000 in
theorem shas_any (ao : Option Addr) (n cap : Nat) (l : List Int) (x : Int) (w : World) (h : IRw w (.slice ao n cap) l) (hn : l.length ≤ 1048576) :
    Calls Try.prog 42 #[.slice ao n cap, .int .i64 x] w fun e w' => e = .returned (.bool (hasB l x)) ∧ w' = w := by
  obtain rfl := h.len
  have HH := hidden h
  clear h
  go_enter Try.func42, Try.ntmps42
  go_wp2_with fail
  go_loopw [5] (fun iv wr => ∃ i : Nat, i ≤ l.length ∧ iv = .int .i64 i ∧ wr = w ∧ Hid (hasB (l.take i) x = false)) (fun iv _ => l.length - (intOf iv).toNat)
  case atStart => exact ⟨0, Nat.zero_le _, rfl, rfl, rfl⟩
  case round =>
    obtain ⟨i, hi, rfl, rfl, hok⟩ := hrel
    by_cases hlt : i < l.length
    · have hlti : (i : Int) < (l.length : Int) := by omega
      obtain ⟨y, hy⟩ := some_of l i hlt
      obtain ⟨g, off, rfl, hg, hc⟩ := HH.out.at hy
      have c0 := hc i y hy
      have HX := hidden hy
      clear hy hc
      by_cases hq : x = y
      · have HY : Hid (hasB l x = true) := by rw [hq]; exact hasB_true HX.out
        subst hq
        go_wp2_with fail
        go_ret
        exact ⟨by rw [HY.out]; rfl, rfl⟩
      · have HN : Hid (hasB (l.take (i + 1)) x = false) := hasB_take hok.out HX.out hq
        have hq2 : ¬ y = x := fun e => hq e.symm
        go_wp2_with fail
        go_roundw
        case rel => exact ⟨i + 1, by omega, rfl, by simp, HN⟩
        case measure => simp [intOf]; omega
    · have hlti : ¬ (i : Int) < (l.length : Int) := by omega
      have hil : i = l.length := by omega
      subst hil
      go_wp2_with fail
      go_ret
      exact ⟨by have := hok.out; rw [List.take_length] at this; rw [this]; rfl, rfl⟩


theorem any_true {l : List Int} {i : Nat} {x : Int} {p : Int → Bool} (h : l[i]? = some x) (hp : p x = true) : l.any p = true := by
  simp only [List.any_eq_true]
  exact ⟨x, List.mem_of_getElem? h, hp⟩
theorem any_take {l : List Int} {i : Nat} {x : Int} {p : Int → Bool} (h : (l.take i).any p = false) (hx : l[i]? = some x) (hp : p x = false) : (l.take (i + 1)).any p = false := by
  rw [take_snocG hx, List.any_append, h]
  simp [hp]
theorem cls_each {l : List Int} (h : clsB l = true) : ∀ x ∈ l, rng x 0 63 = true := fun x hx => by
  obtain ⟨i, hi⟩ := List.getElem?_of_mem hx
  have := clsB_iff.1 h i (List.getElem?_eq_some_iff.1 hi).1
  unfold okAt at this
  rw [getD_of hi] at this
  simp only [Bool.and_eq_true] at this
  exact this.1

set_option maxRecDepth 20000 in
set_option maxHeartbeats 2000000 in
theorem iallergic_any (x : Dg) (ta : Option Addr) (n tc : Nat) (ao : Option Addr) (len cap : Nat) (l : List Int) (w : World) (h : IRw w (.slice ta n tc) x.cls) (hn : x.cls.length ≤ 1048576) (h' : IRw w (.slice ao len cap) l) (hl : l.length ≤ 1048576) :
    Calls Try.prog 16 #[aD x (.slice ta n tc), .slice ao len cap] w fun e w' => e = .returned (.bool (allergic x l)) ∧ Below w.heap.size w w' := by
  have hb0 : Below w.heap.size w (w.alloc (.cells #[.int .i64 x.id, .slice ta n tc, .int .i64 x.pk, .int .i64 x.most, .int .i64 x.day, .int .i64 x.kid] 26)) := (Below.refl _ _).alloc (Nat.le_refl _) _
  have k1 := fun W hW => idrugok_any x ta n tc W hW hn
  have k2 := fun W hW => iclassesof_any ta n tc x.cls W hW hn
  have k3 := fun W hW => iclassesof_any ao len cap l W hW hl
  have HP := hidden (PB.new w #[.int .i64 x.id, .slice ta n tc, .int .i64 x.pk, .int .i64 x.most, .int .i64 x.day, .int .i64 x.kid] 26)
  have HH := hidden (h.below hb0)
  have HL := hidden (h'.below hb0)
  have HB := hidden hb0
  clear h h' hb0
  unfold allergic
  have HM : Hid (drugB x = true → ∀ y ∈ x.cls, rng y 0 63 = true) := fun hh => cls_each (by simp only [drugB, Bool.and_eq_true] at hh; exact hh.2)
  unfold aD at *
  generalize drugB x = t at *
  rcases t with _ | _
  · go_enter Try.func16, Try.ntmps16
    go_upto_region 1 with fail
    generalize w.alloc (.cells #[.int .i64 x.id, .slice ta n tc, .int .i64 x.pk, .int .i64 x.most, .int .i64 x.day, .int .i64 x.kid] 26) = wA at *
    obtain ⟨c0, c1, c2, c3, c4, c5⟩ := HP.out.six
    go_wp2_with (go_at_call 27; refine (k1 _ HH.out).mono ?_; rintro e w1 ⟨rfl, hb1⟩; have bA := onto HB.out hb1; clear hb1)
    go_ret
    exact ⟨rfl, bA⟩
  · have HMM := hidden (HM.out rfl)
    clear HM
    go_enter Try.func16, Try.ntmps16
    go_upto_region 1 with fail
    generalize w.alloc (.cells #[.int .i64 x.id, .slice ta n tc, .int .i64 x.pk, .int .i64 x.most, .int .i64 x.day, .int .i64 x.kid] 26) = wA at *
    obtain ⟨c0, c1, c2, c3, c4, c5⟩ := HP.out.six
    go_wp2_with (first | (go_at_call 27; refine (k1 _ HH.out).mono ?_; rintro e w1 ⟨rfl, hb1⟩; have bA := onto HB.out hb1; obtain ⟨d0, d1, d2, d3, d4, d5⟩ := (HP.out.below hb1).six; have R1 := hidden (HH.out.below hb1); have R2 := hidden (HL.out.below hb1); clear hb1) | (with_reducible refine (k2 _ R1.out).mono ?_; rintro e w2 ⟨⟨s, rfl, hs⟩, rfl⟩; have HS := hidden hs; clear hs) | fail)
    refine (k3 _ R2.out).mono ?_
    rintro e w3 ⟨⟨u, rfl, hu⟩, rfl⟩
    have HU := hidden hu
    have HX := hidden (bits_and_u64_nat s u HS.out.1 hu.1)
    clear hu
    go_wp2_with fail
    go_ret
    refine ⟨?_, bA⟩
    refine ret_boolG ?_
    have e0 := HS.out.meet HU.out HMM.out
    rw [← e0, HX.out]
    rw [Bool.eq_iff_iff]
    simp
end Go.Proofs.Ytcnhogghfedcdaa
