/-
  Right antigens: the program and the specification.
-/
import Derived.Test.YtaidhcbchpcemaaQ11a
import Derived.Test.YtaidhcbchpcemaaQ10
namespace Go.Proofs.Ytaidhcbchpcemaa
open Go.RowKit Va Bl
set_option linter.all false

theorem nx_bad {α : Type} {ok : α → Bool} {key : α → Int} {l : List α} {i : Nat} {x : α} {y : Int} (hx : l[i]? = some x) (hy : ∀ z, 0 < i → l[i - 1]? = some z → y = key z)
    (h : ((!(ok x)) || ((decide ((0 : Int) < (i : Int))) && (decide (key x ≤ y)))) = true) : risB ok key l = false := by
  cases q : ok x with
  | false => exact ris_no hx q
  | true =>
    rw [q] at h
    simp only [Bool.not_true, Bool.false_or, Bool.and_eq_true, decide_eq_true_eq] at h
    have hlt := get_lt' hx
    obtain ⟨z, hz⟩ : ∃ z, l[i - 1]? = some z := ⟨_, List.getElem?_eq_getElem (show i - 1 < l.length by omega)⟩
    exact ris_no2 hx (by omega) hz (by rw [← hy z (by omega) hz]; exact h.2)
theorem nx_good {α : Type} {ok : α → Bool} {key : α → Int} {l : List α} {i : Nat} {x : α} {y : Int} (ht : RTo ok key l i) (hx : l[i]? = some x) (hy : ∀ z, 0 < i → l[i - 1]? = some z → y = key z)
    (h : ((!(ok x)) || ((decide ((0 : Int) < (i : Int))) && (decide (key x ≤ y)))) = false) : RTo ok key l (i + 1) := by
  simp only [Bool.or_eq_false_iff, Bool.not_eq_false', Bool.and_eq_false_iff, decide_eq_false_iff_not] at h
  exact ht.succ hx h.1 (fun z h0 hz => by have := hy z h0 hz; rcases h.2 with q | q <;> omega)
def keyAt {α : Type} (key : α → Int) (l : List α) (i : Nat) : Int := ((l[i]?).map key).getD 0
theorem keyAt_get {α : Type} {key : α → Int} {l : List α} {i : Nat} {x : α} (h : l[i]? = some x) : keyAt key l i = key x := by simp [keyAt, h]

set_option maxRecDepth 20000 in
set_option maxHeartbeats 4000000 in
theorem iants_any (ao : Option Addr) (n cap : Nat) (l : List Int) (w : World) (h : IRw w (.slice ao n cap) l) (hn : l.length ≤ 1048576) :
    Calls Try.prog 73 #[.slice ao n cap] w fun e w' => e = .returned (.bool (antB l)) ∧ w' = w := by
  obtain rfl := h.len
  have HH := hidden h
  clear h
  unfold antB
  go_enter Try.func73, Try.ntmps73
  go_wp2_with fail
  go_loopw [3, 4, 7] (fun _ _ iv wr => ∃ i : Nat, i ≤ l.length ∧ iv = .int .i64 i ∧ wr = w ∧ Hid (RTo (fun x => rng x 0 19) (fun x => x) l i)) (fun _ _ iv _ => l.length - (intOf iv).toNat)
  case atStart => exact ⟨0, Nat.zero_le _, rfl, rfl, RTo.zero _⟩
  case round =>
    obtain ⟨i, hi, rfl, rfl, hok⟩ := hrel
    by_cases hlt : i < l.length
    · have hlti : (i : Int) < (l.length : Int) := by omega
      obtain ⟨x, hx⟩ := some_of l i hlt
      obtain ⟨g, off, rfl, hg, hc⟩ := HH.out.at hx
      have c0 := hc i x hx
      by_cases q1 : x < 0
      · have hno : Hid (risB (fun x => rng x 0 19) (fun x => x) l = false) := ris_no hx (by simp [rng]; omega)
        clear hx hc hok
        go_wp2_with fail
        go_ret
        exact ⟨ret_boolQ hno.out.symm, rfl⟩
      by_cases q2 : 19 < x
      · have hno : Hid (risB (fun x => rng x 0 19) (fun x => x) l = false) := ris_no hx (by simp [rng]; omega)
        clear hx hc hok
        go_wp2_with fail
        go_ret
        exact ⟨ret_boolQ hno.out.symm, rfl⟩
      have hp : Hid (rng x 0 19 = true) := by rw [Hid, rng_iff]; omega
      by_cases h0 : (0 : Int) < (i : Int)
      · obtain ⟨y, hy⟩ := some_of l (i - 1) (by omega)
        have c1 := hc (i - 1) y hy
        have i1 : ((i : Int) - 1).toNat = i - 1 := by omega
        have i2 : (0 : Int) ≤ (i : Int) - 1 := by omega
        have i3 : (i : Int) - 1 < (l.length : Int) := by omega
        by_cases hxy : x ≤ y
        · have hno : Hid (risB (fun x => rng x 0 19) (fun x => x) l = false) := ris_no2 hx (by omega) hy hxy
          clear hx hc hok hy
          go_wp2_with fail
          go_ret
          exact ⟨ret_boolQ hno.out.symm, rfl⟩
        · have hok2 : Hid (RTo (fun x => rng x 0 19) (fun x => x) l (i + 1)) := RTo.succ hok.out hx hp.out (fun z _ hz => by rw [hy] at hz; cases hz; omega)
          clear hx hc hok hy
          go_wp2_with fail
          go_roundw
          case rel => exact ⟨i + 1, by omega, rfl, by simp, hok2⟩
          case measure => simp [intOf]; omega
      · have hok2 : Hid (RTo (fun x => rng x 0 19) (fun x => x) l (i + 1)) := RTo.succ hok.out hx hp.out (fun z hz _ => by omega)
        clear hx hc hok
        go_wp2_with fail
        go_roundw
        case rel => exact ⟨i + 1, by omega, rfl, by simp, hok2⟩
        case measure => simp [intOf]; omega
    · have hlti : ¬ (i : Int) < (l.length : Int) := by omega
      have hil : i = l.length := by omega
      subst hil
      have hyes : Hid (risB (fun x => rng x 0 19) (fun x => x) l = true) := ris_true hok.out
      go_wp2_with fail
      go_ret
      exact ⟨ret_boolQ hyes.out.symm, rfl⟩

set_option maxRecDepth 20000 in
set_option maxHeartbeats 8000000 in
theorem sants_any (ao : Option Addr) (n cap : Nat) (l : List Int) (w : World) (h : IRw w (.slice ao n cap) l) (hn : l.length ≤ 1048576) :
    Calls Try.prog 70 #[.slice ao n cap] w fun e w' => e = .returned (.bool (antB l)) ∧ Below w.heap.size w w' := by
  obtain rfl := h.len
  have HR := hidden h
  clear h
  unfold antB
  go_enter Try.func70, Try.ntmps70
  go_wp2_with fail
  go_loopw [3] (fun iv wr => ∃ i : Nat, i ≤ l.length ∧ iv = .int .i64 i ∧ Hid (RTo (fun x => rng x 0 19) (fun x => x) l i) ∧ Below w.heap.size w wr) (fun iv _ => l.length - (intOf iv).toNat)
  case atStart => exact ⟨0, Nat.zero_le _, rfl, RTo.zero _, Below.refl _ _⟩
  case round =>
    obtain ⟨i, hi, rfl, hok, hb⟩ := hrel
    by_cases hlt : i < l.length
    · have hlti : (i : Int) < (l.length : Int) := by omega
      obtain ⟨x, hx⟩ := some_of l i hlt
      obtain ⟨g, off, rfl, hg, hcs⟩ := (HR.out.below hb).at hx
      have c0 := hidden (hcs i x hx)
      obtain ⟨y, hyt⟩ : ∃ y : Int, y = keyAt (fun x => x) l (i - 1) := ⟨_, rfl⟩
      have hy0 : Hid (0 < i → wr.cell? ⟨g, off + (i - 1), none⟩ = some (.int .i64 y)) := fun q => by
        obtain ⟨z, hz⟩ := some_of l (i - 1) (by omega)
        rw [hyt, keyAt_get hz]
        exact hcs (i - 1) z hz
      have hyz : Hid (∀ z, 0 < i → l[i - 1]? = some z → y = z) := fun z _ hz => by rw [hyt, keyAt_get hz]
      have HX := hidden hx
      have hK := fun W => (lin_any x 0 19 W).mono (fun e w' (h : _ ∧ _) => (⟨h.1, h.2.symm⟩ : _ ∧ w' = W))
      clear hx hcs hyt
      go_upto_region 4 with fail
      refine regAn4 (x := x) (y := y) rfl rfl rfl hlt (by omega) hg c0.out hy0.out hK ?_
      intro b' w3 hf hb3 hv
      rw [layAn4 hf, hv]
      clear hv hf c0 hy0 hK
      generalize Rg.out (Rg.opsOf Try.f70 4) b' 0 = y0
      generalize Rg.out (Rg.opsOf Try.f70 4) b' 1 = y1
      generalize Rg.out (Rg.opsOf Try.f70 4) b' 2 = y2
      generalize Rg.out (Rg.opsOf Try.f70 4) b' 3 = y3
      generalize Rg.out (Rg.opsOf Try.f70 4) b' 4 = y4
      generalize Rg.out (Rg.opsOf Try.f70 4) b' 5 = y5
      generalize Rg.out (Rg.opsOf Try.f70 4) b' 6 = y6
      generalize Rg.out (Rg.opsOf Try.f70 4) b' 7 = y7
      generalize Rg.out (Rg.opsOf Try.f70 4) b' 8 = y8
      generalize Rg.out (Rg.opsOf Try.f70 4) b' 9 = y9
      generalize Rg.out (Rg.opsOf Try.f70 4) b' 10 = y10
      generalize Rg.out (Rg.opsOf Try.f70 4) b' 11 = y11
      generalize Rg.out (Rg.opsOf Try.f70 4) b' 12 = y12
      generalize Rg.out (Rg.opsOf Try.f70 4) b' 13 = y13
      generalize Rg.out (Rg.opsOf Try.f70 4) b' 14 = y14
      generalize Rg.out (Rg.opsOf Try.f70 4) b' 15 = y15
      generalize Rg.out (Rg.opsOf Try.f70 4) b' 16 = y16
      generalize Rg.out (Rg.opsOf Try.f70 4) b' 17 = y17
      generalize Rg.out (Rg.opsOf Try.f70 4) b' 18 = y18
      generalize Rg.out (Rg.opsOf Try.f70 4) b' 19 = y19
      generalize Rg.out (Rg.opsOf Try.f70 4) b' 20 = y20
      have HB3 := hidden (hb.trans (hb3.mono hb.size))
      clear hb3 hb
      generalize hBq : ((!(rng x 0 19)) || ((decide ((0 : Int) < (i : Int))) && (decide (x ≤ y)))) = Bq at *
      go_frame
      cases Bq with
      | true =>
        have HY : Hid (risB (fun x => rng x 0 19) (fun x => x) l = false) := nx_bad (key := fun x => x) HX.out hyz.out hBq
        clear hBq
        go_wp2_with fail
        go_ret
        exact ⟨ret_boolQ HY.out.symm, HB3.out⟩
      | false =>
        have HN : Hid (RTo (fun x => rng x 0 19) (fun x => x) l (i + 1)) := nx_good (key := fun x => x) hok.out HX.out hyz.out hBq
        clear hBq
        go_wp2_with fail
        go_roundw
        case rel => exact ⟨i + 1, by omega, rfl, HN, HB3.out⟩
        case measure => simp [intOf]; omega
    · have hlti : ¬ (i : Int) < (l.length : Int) := by omega
      have hil : i = l.length := by omega
      subst hil
      have HY : Hid (risB (fun x => rng x 0 19) (fun x => x) l = true) := ris_true hok.out
      go_wp2_with fail
      go_ret
      exact ⟨ret_boolQ HY.out.symm, hb⟩

set_option maxHeartbeats 400000 in
theorem iunit_any (x : Int) (w : World) : Calls Try.prog 72 #[.int .i64 x] w fun e w' => e = .returned (.bool (rng x 1 1000000)) ∧ w' = w := by
  unfold rng
  go_enter Try.func72, Try.ntmps72
  go_wp2
  all_goals (go_ret; exact ⟨ret_boolQ (by first | (simp; done) | (simp; omega) | (simp_all; done) | (simp_all; omega) | (rw [Bool.eq_iff_iff]; simp; omega) | (rw [Bool.eq_iff_iff]; simp_all; omega)), rfl⟩)

set_option maxHeartbeats 400000 in
theorem itime_any (x : Int) (w : World) : Calls Try.prog 52 #[.int .i64 x] w fun e w' => e = .returned (.bool (tmv x)) ∧ w' = w := by
  unfold tmv
  go_enter Try.func52, Try.ntmps52
  go_wp2
  all_goals (go_ret; exact ⟨ret_boolQ (by first | (simp; done) | (simp; omega) | (simp_all; done) | (simp_all; omega) | (rw [Bool.eq_iff_iff]; simp; omega) | (rw [Bool.eq_iff_iff]; simp_all; omega)), rfl⟩)

set_option maxHeartbeats 400000 in
theorem stime_any (x : Int) (w : World) : Calls Try.prog 42 #[.int .i64 x] w fun e w' => e = .returned (.bool (tmv x)) ∧ w' = w := by
  have k := lin_any x 0 10000000
  go_enter Try.func42, Try.ntmps42
  go_wp2_with (go_at_call 41; refine (k _).mono ?_; rintro e w1 ⟨rfl, rfl⟩)
  go_ret
  exact ⟨rfl, rfl⟩

set_option maxHeartbeats 400000 in
theorem sper_any (x : Int) (w : World) : Calls Try.prog 69 #[.int .i64 x] w fun e w' => e = .returned (.bool (perB x)) ∧ w' = w := by
  have k := lin_any x 0 999
  go_enter Try.func69, Try.ntmps69
  go_wp2_with (go_at_call 41; refine (k _).mono ?_; rintro e w1 ⟨rfl, rfl⟩)
  go_ret
  exact ⟨rfl, rfl⟩

set_option maxHeartbeats 400000 in
theorem iper_any (x : Int) (w : World) : Calls Try.prog 75 #[.int .i64 x] w fun e w' => e = .returned (.bool (perB x)) ∧ w' = w := by
  unfold perB rng
  go_enter Try.func75, Try.ntmps75
  go_wp2
  all_goals (go_ret; exact ⟨ret_boolQ (by first | (simp; done) | (simp; omega) | (simp_all; done) | (simp_all; omega) | (rw [Bool.eq_iff_iff]; simp; omega) | (rw [Bool.eq_iff_iff]; simp_all; omega)), rfl⟩)

end Go.Proofs.Ytaidhcbchpcemaa
