/-
  What an order may have; the place of an order: the program.
-/
import Derived.Test.YtkejjlgeiaeicaaU5
import Derived.Deep.LoopGhost
import Derived.WalkMore
namespace Go.Proofs.Ytkejjlgeiaeicaa
open Go.RowKit Va Uo
set_option linter.all false

set_option maxRecDepth 20000 in
set_option maxHeartbeats 4000000 in
theorem ihave_any (x : Od) (y : Ds) (w : World) : Calls Try.prog 58 #[aOd x, aDs y] w fun e w' => e = .returned (.bool (haveB x y)) ∧ Below w.heap.size w w' := by
  have k1 := itimO_any y.m
  have k2 := itakes_any x y.b y.a
  have HV : Hid (haveB x y = ((decide (0 ≤ y.t) && decide (y.t < x.c)) && (!decide (x.s = 1) && (rng y.m 0 10000000 && takesB x.two y.b y.a)))) := rfl
  generalize haveB x y = R at *
  generalize rng y.m 0 10000000 = t1 at *
  generalize takesB x.two y.b y.a = t2 at *
  obtain ⟨id, p, d, n, f, e, c, s, two⟩ := x
  obtain ⟨yo, yt, ym, yb, ya⟩ := y
  unfold aOd aDs at *
  dsimp only at *
  have hb0 : Below w.heap.size w ((w.alloc (.cells #[.int .i64 id, .int .i64 p, .int .i64 d, .int .i64 n, .int .i64 f, .int .i64 e, .int .i64 c, .int .i64 s, .bool two] 62)).alloc (.cells #[.int .i64 yo, .int .i64 yt, .int .i64 ym, .int .i64 yb, .int .i64 ya] 64)) := ((Below.refl _ _).alloc (Nat.le_refl _) _).alloc (by simp) _
  by_cases h1 : 0 ≤ yt
  · by_cases h2 : yt < c
    · by_cases h3 : s = 1
      · subst h3
        go_enter Try.func58, Try.ntmps58
        go_wp2_with (with_reducible (first | (refine (k1 _).mono ?_; rintro e w1 ⟨rfl, rfl⟩) | (refine (k2 _).mono ?_; rintro e w2 ⟨rfl, hb2⟩)))
        go_ret
        exact ⟨ret_boolU (by rw [HV.out]; simp), by first | exact onto hb0 hb2 | exact hb0⟩

      · rcases t1 with _ | _
        · go_enter Try.func58, Try.ntmps58
          go_wp2_with (with_reducible (first | (refine (k1 _).mono ?_; rintro e w1 ⟨rfl, rfl⟩) | (refine (k2 _).mono ?_; rintro e w2 ⟨rfl, hb2⟩)))
          go_ret
          exact ⟨ret_boolU (by rw [HV.out]; simp), by first | exact onto hb0 hb2 | exact hb0⟩

        · go_enter Try.func58, Try.ntmps58
          go_wp2_with (with_reducible (first | (refine (k1 _).mono ?_; rintro e w1 ⟨rfl, rfl⟩) | (refine (k2 _).mono ?_; rintro e w2 ⟨rfl, hb2⟩)))
          go_ret
          exact ⟨ret_boolU (by rw [HV.out]; simp [h1, h2, h3]), by first | exact onto hb0 hb2 | exact hb0⟩

    · have HD : Hid (decide (yt < c) = false) := decide_eq_false h2
      go_enter Try.func58, Try.ntmps58
      go_wp2_with (with_reducible (first | (refine (k1 _).mono ?_; rintro e w1 ⟨rfl, rfl⟩) | (refine (k2 _).mono ?_; rintro e w2 ⟨rfl, hb2⟩)))
      go_ret
      exact ⟨ret_boolU (by rw [HV.out, HD.out]; simp), by first | exact onto hb0 hb2 | exact hb0⟩

  · have HD : Hid (decide (0 ≤ yt) = false) := decide_eq_false h1
    go_enter Try.func58, Try.ntmps58
    go_wp2_with (with_reducible (first | (refine (k1 _).mono ?_; rintro e w1 ⟨rfl, rfl⟩) | (refine (k2 _).mono ?_; rintro e w2 ⟨rfl, hb2⟩)))
    go_ret
    exact ⟨ret_boolU (by rw [HV.out, HD.out]; simp), by first | exact onto hb0 hb2 | exact hb0⟩


set_option maxRecDepth 20000 in
set_option maxHeartbeats 2000000 in
theorem iclo_any (x : Od) (id : Int) (w : World) : Calls Try.prog 70 #[aOd x, .int .i64 id] w fun e w' => e = .returned (.int .i64 (if x.id < id then -1 else if id < x.id then 1 else 0)) ∧ Below w.heap.size w w' := by
  have k1 := icmp_any x.id id
  unfold aOd
  have hb0 : Below w.heap.size w (w.alloc (.cells #[.int .i64 x.id, .int .i64 x.p, .int .i64 x.d, .int .i64 x.n, .int .i64 x.f, .int .i64 x.e, .int .i64 x.c, .int .i64 x.s, .bool x.two] 62)) := (Below.refl _ _).alloc (Nat.le_refl _) _
  generalize (if x.id < id then (-1 : Int) else if id < x.id then 1 else 0) = R at *
  go_enter Try.func70, Try.ntmps70
  go_wp2_with (with_reducible (refine (k1 _).mono ?_); rintro e w1 ⟨rfl, rfl⟩)
  go_ret
  exact ⟨rfl, hb0⟩

theorem cut_of {os : List Od} {id : Int} {k : Nat} (hk : k ≤ os.length) (h1 : ∀ (j : Nat) (x : Od), j < k → os[j]? = some x → x.id < id) (h2 : ∀ (j : Nat) (x : Od), k ≤ j → os[j]? = some x → id ≤ x.id) : Cut os id k := ⟨hk, h1, h2⟩

set_option maxRecDepth 20000 in
set_option maxHeartbeats 4000000 in
theorem isearch_any (ao : Option Addr) (n cap : Nat) (os : List Od) (id : Int) (w : World) (h : VRw 9 cvOd w (.slice ao n cap) os) (hn : os.length ≤ 1048576) (hr : Ris os) :
    Calls Try.prog 69 #[.slice ao n cap, .int .i64 id, .func (.func 70) #[] #[]] w fun e w' => ∃ k : Nat, Cut os id k ∧ e = .returned (.tuple #[.int .i64 k, .bool (isAt os id k)]) ∧ Below w.heap.size w w' := by
  obtain rfl := h.len
  have HH := hidden h
  have HR := hidden hr
  have HC := hidden (fun x W => iclo_any x id W)
  clear h hr
  go_enter Try.func69, Try.ntmps69
  go_wp2_with fail
  go_loopg [9, 10, 11] os.length (fun kx s9 s10 _ wr => ∃ lo hi : Nat, s9 = .int .i64 lo ∧ s10 = .int .i64 hi ∧ lo ≤ hi ∧ hi ≤ os.length ∧ hi - lo ≤ kx ∧ Below w.heap.size w wr ∧ Hid ((∀ (j : Nat) (x : Od), j < lo → os[j]? = some x → x.id < id) ∧ ∀ (j : Nat) (x : Od), hi ≤ j → os[j]? = some x → id ≤ x.id))
  case atStart => exact ⟨0, os.length, rfl, rfl, Nat.zero_le _, Nat.le_refl _, by omega, Below.refl _ _, ⟨fun j x hj => absurd hj (Nat.not_lt_zero _), fun j x hj hx => by have := (List.getElem?_eq_some_iff.1 hx).1; omega⟩⟩
  case round =>
    obtain ⟨lo, hi, rfl, rfl, hlh, hin, hg, hb, I⟩ := hrel
    by_cases hlt : lo < hi
    · obtain ⟨x, hx⟩ := some_of os ((lo + hi) / 2) (by omega)
      obtain ⟨g, off, rfl, hgl, hcs⟩ := (HH.out.below hb).at hx
      have c0 : wr.cell? ⟨g, off + (lo + hi) / 2 * 9, none⟩ = some (.int .i64 x.id) := hcs 0 (by omega)
      have c1 : wr.cell? ⟨g, off + (lo + hi) / 2 * 9 + 1, none⟩ = some (.int .i64 x.p) := hcs 1 (by omega)
      have c2 : wr.cell? ⟨g, off + (lo + hi) / 2 * 9 + 2, none⟩ = some (.int .i64 x.d) := hcs 2 (by omega)
      have c3 : wr.cell? ⟨g, off + (lo + hi) / 2 * 9 + 3, none⟩ = some (.int .i64 x.n) := hcs 3 (by omega)
      have c4 : wr.cell? ⟨g, off + (lo + hi) / 2 * 9 + 4, none⟩ = some (.int .i64 x.f) := hcs 4 (by omega)
      have c5 : wr.cell? ⟨g, off + (lo + hi) / 2 * 9 + 5, none⟩ = some (.int .i64 x.e) := hcs 5 (by omega)
      have c6 : wr.cell? ⟨g, off + (lo + hi) / 2 * 9 + 6, none⟩ = some (.int .i64 x.c) := hcs 6 (by omega)
      have c7 : wr.cell? ⟨g, off + (lo + hi) / 2 * 9 + 7, none⟩ = some (.int .i64 x.s) := hcs 7 (by omega)
      have c8 : wr.cell? ⟨g, off + (lo + hi) / 2 * 9 + 8, none⟩ = some (.bool x.two) := hcs 8 (by omega)
      have hK := HC.out x
      unfold aOd at hK
      have HX := hidden hx
      clear hcs hx
      by_cases q : x.id < id
      · rw [if_pos q] at hK
        go_wp2_with (go_at_call 70; refine (hK _).mono ?_; rintro e w' ⟨rfl, hb1⟩)
        go_roundg (hi - ((lo + hi) / 2 + 1))
        case measure => omega
        case rel =>
          refine ⟨(lo + hi) / 2 + 1, hi, by rw [show ((lo : Int) + (hi : Int)) / 2 + 1 = (((lo + hi) / 2 + 1 : Nat) : Int) by omega], rfl, by omega, hin, Nat.le_refl _, onto hb hb1, ⟨fun j y hj hy => ?_, I.out.2⟩⟩
          by_cases e : j = (lo + hi) / 2
          · subst e; rw [HX.out] at hy; cases hy; exact q
          · have := HR.out j _ y x (by omega) hy HX.out; omega
      · rw [if_neg q] at hK
        have hz : ¬ (if id < x.id then (1 : Int) else 0) < 0 := by split <;> omega
        generalize (if id < x.id then (1 : Int) else 0) = z at *
        go_wp2_with (go_at_call 70; refine (hK _).mono ?_; rintro e w' ⟨rfl, hb1⟩)
        go_roundg ((lo + hi) / 2 - lo)
        case measure => omega
        case rel =>
          refine ⟨lo, (lo + hi) / 2, rfl, by rw [show ((lo : Int) + (hi : Int)) / 2 = (((lo + hi) / 2 : Nat) : Int) by omega], by omega, by omega, Nat.le_refl _, onto hb hb1, ⟨I.out.1, fun j y hj hy => ?_⟩⟩
          by_cases e : j = (lo + hi) / 2
          · subst e; rw [HX.out] at hy; cases hy; omega
          · have := HR.out _ j x y (by omega) HX.out hy; omega
    · obtain rfl : hi = lo := by omega
      have HCut : Hid (Cut os id hi) := ⟨hin, I.out.1, I.out.2⟩
      by_cases hle : hi < os.length
      · obtain ⟨x, hx⟩ := some_of os hi hle
        obtain ⟨g, off, rfl, hgl, hcs⟩ := (HH.out.below hb).at hx
        have c0 : wr.cell? ⟨g, off + hi * 9, none⟩ = some (.int .i64 x.id) := hcs 0 (by omega)
        have c1 : wr.cell? ⟨g, off + hi * 9 + 1, none⟩ = some (.int .i64 x.p) := hcs 1 (by omega)
        have c2 : wr.cell? ⟨g, off + hi * 9 + 2, none⟩ = some (.int .i64 x.d) := hcs 2 (by omega)
        have c3 : wr.cell? ⟨g, off + hi * 9 + 3, none⟩ = some (.int .i64 x.n) := hcs 3 (by omega)
        have c4 : wr.cell? ⟨g, off + hi * 9 + 4, none⟩ = some (.int .i64 x.f) := hcs 4 (by omega)
        have c5 : wr.cell? ⟨g, off + hi * 9 + 5, none⟩ = some (.int .i64 x.e) := hcs 5 (by omega)
        have c6 : wr.cell? ⟨g, off + hi * 9 + 6, none⟩ = some (.int .i64 x.c) := hcs 6 (by omega)
        have c7 : wr.cell? ⟨g, off + hi * 9 + 7, none⟩ = some (.int .i64 x.s) := hcs 7 (by omega)
        have c8 : wr.cell? ⟨g, off + hi * 9 + 8, none⟩ = some (.bool x.two) := hcs 8 (by omega)
        have hK := HC.out x
        unfold aOd at hK
        have HA : Hid (isAt os id hi = decide (x.id = id)) := by rw [Hid, isAt, decide_eq_true hle, od_getD hx, Bool.true_and]
        clear hcs hx
        by_cases q : x.id = id
        · have HA2 : Hid (isAt os id hi = true) := by rw [Hid, HA.out, decide_eq_true q]
          clear HA
          subst q
          rw [if_neg (by omega), if_neg (by omega)] at hK
          go_wp2_with (go_at_call 70; refine (hK _).mono ?_; rintro e w' ⟨rfl, hb1⟩)
          go_ret2
          exact ⟨hi, HCut.out, by rw [HA2.out]; rfl, onto hb hb1⟩
        · have hz : ¬ (if x.id < id then (-1 : Int) else if id < x.id then 1 else 0) = 0 := by split; omega; split <;> omega
          generalize (if x.id < id then (-1 : Int) else if id < x.id then 1 else 0) = z at *
          go_wp2_with (go_at_call 70; refine (hK _).mono ?_; rintro e w' ⟨rfl, hb1⟩)
          go_ret2
          exact ⟨hi, HCut.out, by rw [HA.out, decide_eq_false q]; simp [hz], onto hb hb1⟩
      · have HA : Hid (isAt os id hi = false) := by rw [Hid, isAt, decide_eq_false hle]; rfl
        go_wp2_with fail
        go_ret2
        exact ⟨hi, HCut.out, by rw [HA.out]; rfl, hb⟩

set_option maxRecDepth 20000 in
set_option maxHeartbeats 2000000 in
theorem iplace_any (ao : Option Addr) (n cap : Nat) (sd : Value) (os : List Od) (id : Int) (w : World) (h : VRw 9 cvOd w (.slice ao n cap) os) (hn : os.length ≤ 1048576) (hr : Ris os) (hsd : ∃ a n c, sd = .slice a n c) :
    Calls Try.prog 57 #[.agg #[.slice ao n cap, sd], .int .i64 id] w fun e w' => ∃ k : Nat, Cut os id k ∧ e = .returned (.tuple #[.int .i64 k, .bool (isAt os id k)]) ∧ Below w.heap.size w w' := by
  obtain ⟨sa, sn, sc, rfl⟩ := hsd
  have hb0 : Below w.heap.size w (w.alloc (.cells #[.slice ao n cap, .slice sa sn sc] 40)) := (Below.refl _ _).alloc (Nat.le_refl _) _
  have HK := hidden (fun W hW => isearch_any ao n cap os id W hW hn hr)
  have HH := hidden (h.below hb0)
  clear h hr
  go_enter Try.func57, Try.ntmps57
  go_wp2_with (go_at_call 69; refine (HK.out _ HH.out).mono ?_; rintro e w1 ⟨k, hc, rfl, hb1⟩)
  go_ret2
  exact ⟨k, hc, rfl, onto hb0 hb1⟩
end Go.Proofs.Ytkejjlgeiaeicaa
