/-
  Results that are right: the specification and the program.
-/
import Derived.Test.YtecljmpojninfaaT8a
namespace Go.Proofs.Ytecljmpojninfaa
open Go.RowKit Va Lb
set_option linter.all false

def tOf (l : List Rs) (i : Nat) : Int := ((l[i]?).map (·.t)).getD 0
theorem tOf_get {l : List Rs} {i : Nat} {x : Rs} (h : l[i]? = some x) : tOf l i = x.t := by simp [tOf, h]
def ResTo (l : List Rs) (i : Nat) : Prop := ∀ j r, j < i → l[j]? = some r → resB r = true ∧ ∀ p, 0 < j → l[j - 1]? = some p → p.t ≤ r.t
theorem resB_not (x : Rs) (b : Bool) : ((((!(vlB x.v)) || ((!x.k) && (x.v != 0))) || (!(tmv x.t))) || b) = ((!(resB x)) || b) := by
  unfold resB
  cases vlB x.v <;> cases x.k <;> cases tmv x.t <;> by_cases h : x.v = 0 <;> simp [h]
theorem res_bad {l : List Rs} {i : Nat} {x : Rs} (hx : l[i]? = some x) (h : ((!(resB x)) || ((decide ((0 : Int) < (i : Int))) && (decide (x.t < tOf l (i - 1))))) = true) : ¬ ResOk l := by
  intro q
  obtain ⟨q1, q2⟩ := q.2 i x hx
  rw [q1] at h
  simp only [Bool.not_true, Bool.false_or, Bool.and_eq_true, decide_eq_true_eq] at h
  have hlt := get_ltL hx
  obtain ⟨y, hy⟩ : ∃ y, l[i - 1]? = some y := ⟨_, List.getElem?_eq_getElem (show i - 1 < l.length by omega)⟩
  have := q2 y (by omega) hy
  rw [tOf_get hy] at h
  omega
theorem res_good {l : List Rs} {i : Nat} {x : Rs} (ht : ResTo l i) (hx : l[i]? = some x) (h : ((!(resB x)) || ((decide ((0 : Int) < (i : Int))) && (decide (x.t < tOf l (i - 1))))) = false) : ResTo l (i + 1) := by
  intro j r hj hr
  by_cases e : j = i
  · subst e
    obtain rfl : x = r := Option.some.inj (hx.symm.trans hr)
    simp only [Bool.or_eq_false_iff, Bool.not_eq_false', Bool.and_eq_false_iff, decide_eq_false_iff_not] at h
    refine ⟨h.1, fun p hp hpp => ?_⟩
    rw [tOf_get hpp] at h
    omega
  · exact ht j r (by omega) hr

set_option maxHeartbeats 400000 in
theorem svalue_any (x : Int) (w : World) : Calls Try.prog 41 #[.int .i64 x] w fun e w' => e = .returned (.bool (vlB x)) ∧ w' = w := by
  have k := lin_any x (-100000) 100000
  go_enter Try.func41, Try.ntmps41
  go_wp2_with (go_at_call 42; refine (k _).mono ?_; rintro e w1 ⟨rfl, rfl⟩)
  go_ret
  exact ⟨rfl, rfl⟩

set_option maxHeartbeats 400000 in
theorem stime_any (x : Int) (w : World) : Calls Try.prog 70 #[.int .i64 x] w fun e w' => e = .returned (.bool (tmv x)) ∧ w' = w := by
  have k := lin_any x 0 10000000
  go_enter Try.func70, Try.ntmps70
  go_wp2_with (go_at_call 42; refine (k _).mono ?_; rintro e w1 ⟨rfl, rfl⟩)
  go_ret
  exact ⟨rfl, rfl⟩

set_option maxHeartbeats 400000 in
theorem ivalue_any (x : Int) (w : World) : Calls Try.prog 37 #[.int .i64 x] w fun e w' => e = .returned (.bool (vlB x)) ∧ w' = w := by
  unfold vlB rng
  go_enter Try.func37, Try.ntmps37
  go_wp2
  all_goals (go_ret; exact ⟨ret_boolT (by first | (simp; done) | (simp; omega) | (simp_all; done) | (simp_all; omega) | (rw [Bool.eq_iff_iff]; simp; omega) | (rw [Bool.eq_iff_iff]; simp_all; omega)), rfl⟩)

set_option maxHeartbeats 400000 in
theorem itime_any (x : Int) (w : World) : Calls Try.prog 76 #[.int .i64 x] w fun e w' => e = .returned (.bool (tmv x)) ∧ w' = w := by
  unfold tmv
  go_enter Try.func76, Try.ntmps76
  go_wp2
  all_goals (go_ret; exact ⟨ret_boolT (by first | (simp; done) | (simp; omega) | (simp_all; done) | (simp_all; omega) | (rw [Bool.eq_iff_iff]; simp; omega) | (rw [Bool.eq_iff_iff]; simp_all; omega)), rfl⟩)

set_option maxRecDepth 20000 in
set_option maxHeartbeats 2000000 in
theorem iright_any (x : Rs) (w : World) : Calls Try.prog 68 #[.agg #[.int .i64 x.v, .int .i64 x.t, .bool x.k]] w fun e w' => e = .returned (.bool (resB x)) ∧ Below w.heap.size w w' := by
  obtain ⟨v, t, k⟩ := x
  dsimp only
  have k1 := ivalue_any v
  have k2 := itime_any t
  have HV : Hid (resB ⟨v, t, k⟩ = (vlB v && ((k || decide (v = 0)) && tmv t))) := rfl
  have HZ : Hid (v = 0 → vlB v = true) := fun e => by rw [e]; rfl
  generalize resB ⟨v, t, k⟩ = R at *
  generalize vlB v = a at *
  generalize tmv t = b at *
  have bx : Below w.heap.size w (w.alloc (.cells #[.int .i64 v, .int .i64 t, .bool k] 46)) := (Below.refl _ _).alloc (Nat.le_refl _) _
  by_cases hv : v = 0
  · subst hv
    have ha := HZ.out rfl
    subst ha
    cases k <;> cases b <;>
    · go_enter Try.func68, Try.ntmps68
      go_wp2_with (with_reducible (first | refine (k1 _).mono ?_ | refine (k2 _).mono ?_); rintro e w1 ⟨rfl, hw1⟩; obtain rfl := hw1)
      go_ret
      exact ⟨by rw [HV.out]; rfl, bx⟩
  · have hv2 : (v == 0) = false := by simpa using hv
    cases k <;> cases a <;> cases b <;>
    · go_enter Try.func68, Try.ntmps68
      go_wp2_with (with_reducible (first | refine (k1 _).mono ?_ | refine (k2 _).mono ?_); rintro e w1 ⟨rfl, hw1⟩; obtain rfl := hw1)
      go_ret
      exact ⟨by rw [HV.out]; simp [hv], bx⟩

set_option maxRecDepth 20000 in
set_option maxHeartbeats 8000000 in
theorem sres_any (ao : Option Addr) (n cap : Nat) (l : List Rs) (w : World) (h : VRw 3 cvRs w (.slice ao n cap) l) (hn : l.length ≤ 1048576) :
    Calls Try.prog 55 #[.slice ao n cap] w fun e w' => e = .returned (.bool (decide (ResOk l))) ∧ Below w.heap.size w w' := by
  obtain rfl := h.len
  have HR := hidden h
  clear h
  by_cases g1 : (2000 : Int) < (l.length : Int)
  · have HY : Hid (decide (ResOk l) = false) := decide_eq_false (fun q => by have := q.1; omega)
    go_enter Try.func55, Try.ntmps55
    go_wp2_with fail
    go_ret
    exact ⟨ret_boolT HY.out.symm, Below.refl _ _⟩
  go_enter Try.func55, Try.ntmps55
  go_wp2_with fail
  go_loopw [3, 4] (fun iv _ wr => ∃ i : Nat, i ≤ l.length ∧ iv = .int .i64 i ∧ Hid (ResTo l i) ∧ Below w.heap.size w wr) (fun iv _ _ => l.length - (intOf iv).toNat)
  case atStart => exact ⟨0, Nat.zero_le _, rfl, (fun j r hj => absurd hj (by omega)), Below.refl _ _⟩
  case round =>
    obtain ⟨i, hi, rfl, hok, hb⟩ := hrel
    by_cases hlt : i < l.length
    · have hlti : (i : Int) < (l.length : Int) := by omega
      obtain ⟨x, hx⟩ := some_of l i hlt
      obtain ⟨g, off, rfl, hg, hcs⟩ := (HR.out.below hb).at hx
      have c0 : wr.cell? ⟨g, off + i * 3, none⟩ = some (.int .i64 x.v) := hcs 0 (by omega)
      have c1 : wr.cell? ⟨g, off + i * 3 + 1, none⟩ = some (.int .i64 x.t) := hcs 1 (by omega)
      have c2 : wr.cell? ⟨g, off + i * 3 + 2, none⟩ = some (.bool x.k) := hcs 2 (by omega)
      obtain ⟨yt, hyt⟩ : ∃ yt : Int, yt = tOf l (i - 1) := ⟨_, rfl⟩
      have hy0 : 0 < i → wr.cell? ⟨g, off + (i - 1) * 3 + 1, none⟩ = some (.int .i64 yt) := fun q => by
        obtain ⟨y, hy⟩ := some_of l (i - 1) (by omega)
        obtain ⟨g', off', he, _, hcs'⟩ := (HR.out.below hb).at hy
        obtain ⟨rfl, rfl⟩ : g = g' ∧ off = off' := by simpa using he
        rw [hyt, tOf_get hy]
        exact hcs' 1 (by omega)
      have HX := hidden hx
      have HT := hidden hyt
      have hPX := PB.new wr #[.int .i64 x.v, .int .i64 x.t, .bool x.k] 46
      have bx : Below wr.heap.size wr (wr.alloc (.cells #[.int .i64 x.v, .int .i64 x.t, .bool x.k] 46)) := (Below.refl _ _).alloc (Nat.le_refl _) _
      have hy1 : 0 < i → (wr.alloc (.cells #[.int .i64 x.v, .int .i64 x.t, .bool x.k] 46)).cell? ⟨g, off + (i - 1) * 3 + 1, none⟩ = some (.int .i64 yt) := fun q => (bx.cell (p := ⟨g, off + (i - 1) * 3 + 1, none⟩) hg).trans (hy0 q)
      have hg1 := Nat.lt_of_lt_of_le hg bx.size
      have b1 := hb.trans (bx.mono hb.size)
      clear hx hyt hcs hy0 bx
      have HPX := hidden hPX
      have HY1 := hidden hy1
      clear hPX hy1
      go_upto_region 7 with fail
      refine regRr7 (x := x) (yt := yt) rfl rfl rfl rfl HPX.out hlt (by omega) hg1 HY1.out (svalue_any x.v) (stime_any x.t) ?_
      intro b' w3 hf hb3 hv
      rw [layRr7 hf, hv]
      clear hv hf c0 c1 c2 HPX HY1
      generalize Rg.out (Rg.opsOf Try.f55 7) b' 0 = y0
      generalize Rg.out (Rg.opsOf Try.f55 7) b' 1 = y1
      generalize Rg.out (Rg.opsOf Try.f55 7) b' 2 = y2
      generalize Rg.out (Rg.opsOf Try.f55 7) b' 3 = y3
      generalize Rg.out (Rg.opsOf Try.f55 7) b' 4 = y4
      generalize Rg.out (Rg.opsOf Try.f55 7) b' 5 = y5
      generalize Rg.out (Rg.opsOf Try.f55 7) b' 6 = y6
      generalize Rg.out (Rg.opsOf Try.f55 7) b' 7 = y7
      generalize Rg.out (Rg.opsOf Try.f55 7) b' 8 = y8
      generalize Rg.out (Rg.opsOf Try.f55 7) b' 9 = y9
      generalize Rg.out (Rg.opsOf Try.f55 7) b' 10 = y10
      generalize Rg.out (Rg.opsOf Try.f55 7) b' 11 = y11
      generalize Rg.out (Rg.opsOf Try.f55 7) b' 12 = y12
      generalize Rg.out (Rg.opsOf Try.f55 7) b' 13 = y13
      generalize Rg.out (Rg.opsOf Try.f55 7) b' 14 = y14
      generalize Rg.out (Rg.opsOf Try.f55 7) b' 15 = y15
      generalize Rg.out (Rg.opsOf Try.f55 7) b' 16 = y16
      generalize Rg.out (Rg.opsOf Try.f55 7) b' 17 = y17
      generalize Rg.out (Rg.opsOf Try.f55 7) b' 18 = y18
      generalize Rg.out (Rg.opsOf Try.f55 7) b' 19 = y19
      generalize Rg.out (Rg.opsOf Try.f55 7) b' 20 = y20
      generalize Rg.out (Rg.opsOf Try.f55 7) b' 21 = y21
      generalize Rg.out (Rg.opsOf Try.f55 7) b' 22 = y22
      generalize Rg.out (Rg.opsOf Try.f55 7) b' 23 = y23
      generalize Rg.out (Rg.opsOf Try.f55 7) b' 24 = y24
      generalize Rg.out (Rg.opsOf Try.f55 7) b' 25 = y25
      generalize Rg.out (Rg.opsOf Try.f55 7) b' 26 = y26
      generalize Rg.out (Rg.opsOf Try.f55 7) b' 27 = y27
      generalize Rg.out (Rg.opsOf Try.f55 7) b' 28 = y28
      generalize Rg.out (Rg.opsOf Try.f55 7) b' 29 = y29
      generalize Rg.out (Rg.opsOf Try.f55 7) b' 30 = y30
      generalize Rg.out (Rg.opsOf Try.f55 7) b' 31 = y31
      generalize Rg.out (Rg.opsOf Try.f55 7) b' 32 = y32
      generalize Rg.out (Rg.opsOf Try.f55 7) b' 33 = y33
      have HB3 := hidden (b1.trans (hb3.mono b1.size))
      clear hb3 hb b1
      rw [resB_not]
      generalize hBq : ((!(resB x)) || ((decide ((0 : Int) < (i : Int))) && (decide (x.t < yt)))) = Bq at *
      go_frame
      cases Bq with
      | true =>
        have HY : Hid (decide (ResOk l) = false) := decide_eq_false (res_bad HX.out (by rw [← HT.out]; exact hBq))
        clear hBq
        go_wp2_with fail
        go_ret
        exact ⟨ret_boolT HY.out.symm, HB3.out⟩
      | false =>
        have HN : Hid (ResTo l (i + 1)) := res_good hok.out HX.out (by rw [← HT.out]; exact hBq)
        clear hBq
        go_wp2_with fail
        go_roundw
        case rel => exact ⟨i + 1, by omega, rfl, HN, HB3.out⟩
        case measure => simp [intOf]; omega
    · have hlti : ¬ (i : Int) < (l.length : Int) := by omega
      have hil : i = l.length := by omega
      subst hil
      have HY : Hid (decide (ResOk l) = true) := decide_eq_true ⟨by omega, fun j r hr => hok.out j r (get_ltL hr) hr⟩
      go_wp2_with fail
      go_ret
      exact ⟨ret_boolT HY.out.symm, hb⟩

set_option maxRecDepth 20000 in
set_option maxHeartbeats 8000000 in
theorem ires_any (ao : Option Addr) (n cap : Nat) (l : List Rs) (w : World) (h : VRw 3 cvRs w (.slice ao n cap) l) (hn : l.length ≤ 1048576) :
    Calls Try.prog 53 #[.slice ao n cap] w fun e w' => e = .returned (.bool (decide (ResOk l))) ∧ Below w.heap.size w w' := by
  obtain rfl := h.len
  have HR := hidden h
  clear h
  by_cases g1 : (2000 : Int) < (l.length : Int)
  · have HY : Hid (decide (ResOk l) = false) := decide_eq_false (fun q => by have := q.1; omega)
    go_enter Try.func53, Try.ntmps53
    go_wp2_with fail
    go_ret
    exact ⟨ret_boolT HY.out.symm, Below.refl _ _⟩
  go_enter Try.func53, Try.ntmps53
  go_wp2_with fail
  go_loopw [3, 4, 10] (fun _ _ iv wr => ∃ i : Nat, i ≤ l.length ∧ iv = .int .i64 i ∧ Hid (ResTo l i) ∧ Below w.heap.size w wr) (fun _ _ iv _ => l.length - (intOf iv).toNat)
  case atStart => exact ⟨0, Nat.zero_le _, rfl, (fun j r hj => absurd hj (by omega)), Below.refl _ _⟩
  case round =>
    obtain ⟨i, hi, rfl, hok, hb⟩ := hrel
    by_cases hlt : i < l.length
    · have hlti : (i : Int) < (l.length : Int) := by omega
      obtain ⟨x, hx⟩ := some_of l i hlt
      obtain ⟨g, off, rfl, hg, hcs⟩ := (HR.out.below hb).at hx
      have c0 : wr.cell? ⟨g, off + i * 3, none⟩ = some (.int .i64 x.v) := hcs 0 (by omega)
      have c1 : wr.cell? ⟨g, off + i * 3 + 1, none⟩ = some (.int .i64 x.t) := hcs 1 (by omega)
      have c2 : wr.cell? ⟨g, off + i * 3 + 2, none⟩ = some (.bool x.k) := hcs 2 (by omega)
      obtain ⟨yt, hyt⟩ : ∃ yt : Int, yt = tOf l (i - 1) := ⟨_, rfl⟩
      have hy0 : 0 < i → wr.cell? ⟨g, off + (i - 1) * 3 + 1, none⟩ = some (.int .i64 yt) := fun q => by
        obtain ⟨y, hy⟩ := some_of l (i - 1) (by omega)
        obtain ⟨g', off', he, _, hcs'⟩ := (HR.out.below hb).at hy
        obtain ⟨rfl, rfl⟩ : g = g' ∧ off = off' := by simpa using he
        rw [hyt, tOf_get hy]
        exact hcs' 1 (by omega)
      have HX := hidden hx
      have HT := hidden hyt
      have hPX := PB.new wr #[.int .i64 x.v, .int .i64 x.t, .bool x.k] 46
      have bx : Below wr.heap.size wr (wr.alloc (.cells #[.int .i64 x.v, .int .i64 x.t, .bool x.k] 46)) := (Below.refl _ _).alloc (Nat.le_refl _) _
      have hy1 : 0 < i → (wr.alloc (.cells #[.int .i64 x.v, .int .i64 x.t, .bool x.k] 46)).cell? ⟨g, off + (i - 1) * 3 + 1, none⟩ = some (.int .i64 yt) := fun q => (bx.cell (p := ⟨g, off + (i - 1) * 3 + 1, none⟩) hg).trans (hy0 q)
      have hg1 := Nat.lt_of_lt_of_le hg bx.size
      have b1 := hb.trans (bx.mono hb.size)
      clear hx hyt hcs hy0 bx
      have HPX := hidden hPX
      have HY1 := hidden hy1
      clear hPX hy1
      go_upto_region 6 with fail
      refine regRi6 (x := x) (yt := yt) rfl rfl rfl rfl HPX.out hlt (by omega) hg1 HY1.out (iright_any x) ?_
      intro b' w3 hf hb3 hv
      rw [layRi6 hf, hv]
      clear hv hf c0 c1 c2 HPX HY1 
      generalize Rg.out (Rg.opsOf Try.f53 6) b' 0 = y0
      generalize Rg.out (Rg.opsOf Try.f53 6) b' 1 = y1
      generalize Rg.out (Rg.opsOf Try.f53 6) b' 2 = y2
      generalize Rg.out (Rg.opsOf Try.f53 6) b' 3 = y3
      generalize Rg.out (Rg.opsOf Try.f53 6) b' 4 = y4
      generalize Rg.out (Rg.opsOf Try.f53 6) b' 5 = y5
      generalize Rg.out (Rg.opsOf Try.f53 6) b' 6 = y6
      generalize Rg.out (Rg.opsOf Try.f53 6) b' 7 = y7
      generalize Rg.out (Rg.opsOf Try.f53 6) b' 8 = y8
      generalize Rg.out (Rg.opsOf Try.f53 6) b' 9 = y9
      generalize Rg.out (Rg.opsOf Try.f53 6) b' 10 = y10
      generalize Rg.out (Rg.opsOf Try.f53 6) b' 11 = y11
      generalize Rg.out (Rg.opsOf Try.f53 6) b' 12 = y12
      generalize Rg.out (Rg.opsOf Try.f53 6) b' 13 = y13
      generalize Rg.out (Rg.opsOf Try.f53 6) b' 14 = y14
      generalize Rg.out (Rg.opsOf Try.f53 6) b' 15 = y15
      generalize Rg.out (Rg.opsOf Try.f53 6) b' 16 = y16
      have HB3 := hidden (b1.trans (hb3.mono b1.size))
      clear hb3 hb b1
      skip
      generalize hBq : ((!(resB x)) || ((decide ((0 : Int) < (i : Int))) && (decide (x.t < yt)))) = Bq at *
      go_frame
      cases Bq with
      | true =>
        have HY : Hid (decide (ResOk l) = false) := decide_eq_false (res_bad HX.out (by rw [← HT.out]; exact hBq))
        clear hBq
        go_wp2_with fail
        go_ret
        exact ⟨ret_boolT HY.out.symm, HB3.out⟩
      | false =>
        have HN : Hid (ResTo l (i + 1)) := res_good hok.out HX.out (by rw [← HT.out]; exact hBq)
        clear hBq
        go_wp2_with fail
        go_roundw
        case rel => exact ⟨i + 1, by omega, rfl, HN, HB3.out⟩
        case measure => simp [intOf]; omega
    · have hlti : ¬ (i : Int) < (l.length : Int) := by omega
      have hil : i = l.length := by omega
      subst hil
      have HY : Hid (decide (ResOk l) = true) := decide_eq_true ⟨by omega, fun j r hr => hok.out j r (get_ltL hr) hr⟩
      go_wp2_with fail
      go_ret
      exact ⟨ret_boolT HY.out.symm, hb⟩
end Go.Proofs.Ytecljmpojninfaa
