/-
  Right doses given; how many are ahead; sums: the program and the specification.
-/
import Derived.Test.YtcnhogghfedcdaaGe
import Derived.Test.YtcnhogghfedcdaaGq
import Derived.Test.YtcnhogghfedcdaaGx
import Derived.Test.YtcnhogghfedcdaaMa
namespace Go.Proofs.Ytcnhogghfedcdaa
open Go.RowKit Va Ga
set_option linter.unusedVariables false

set_option maxHeartbeats 400000 in
theorem itime_any (x : Int) (w : World) : Calls Try.prog 62 #[.int .i64 x] w fun e w' => e = .returned (.bool (rng x 0 10000000)) ∧ w' = w := by
  unfold rng
  go_enter Try.func62, Try.ntmps62
  go_wp2
  all_goals (go_ret; exact ⟨ret_boolG (by first | (simp; done) | (simp; omega) | (simp_all; done) | (simp_all; omega) | (rw [Bool.eq_iff_iff]; simp; omega) | (rw [Bool.eq_iff_iff]; simp_all; omega)), rfl⟩)

set_option maxHeartbeats 400000 in
theorem stime_any (x : Int) (w : World) : Calls Try.prog 49 #[.int .i64 x] w fun e w' => e = .returned (.bool (rng x 0 10000000)) ∧ w' = w := by
  have h := lin_any x 0 10000000
  go_enter Try.func49, Try.ntmps49
  go_wp2_with (refine (h _).mono ?_; rintro e w1 ⟨rfl, rfl⟩)
  go_ret
  exact ⟨rfl, rfl⟩

set_option maxRecDepth 20000 in
set_option maxHeartbeats 2000000 in
theorem igv_any (x : Gv) (w : World) : Calls Try.prog 46 #[aGv x] w fun e w' => e = .returned (.bool (gvB x)) ∧ Below w.heap.size w w' := by
  have k1 := idrug_any x.d
  have k2 := itime_any x.t
  have k3 := imic_any x.n
  unfold gvB aGv
  generalize rng x.d 1 1000 = t1 at *
  generalize rng x.t 0 10000000 = t2 at *
  generalize rng x.n 1 1000000000 = t3 at *
  rcases t1 with _ | _
  · go_enter Try.func46, Try.ntmps46
    go_wp2_with (with_reducible (first | refine (k1 _).mono ?_ | refine (k2 _).mono ?_ | refine (k3 _).mono ?_); rintro e w1 ⟨rfl, rfl⟩)
    all_goals go_ret
    all_goals exact ⟨by simp, by repeat (first | exact Below.refl _ _ | assumption | refine st_drew ?_ | refine st_drewN ?_ _ | refine Below.setCell ?_ (by first | omega | (simp; done) | (simp; omega)) _ | refine Below.alloc ?_ (by first | omega | (simp; done) | (simp; omega)) _)⟩
  rcases t2 with _ | _
  · go_enter Try.func46, Try.ntmps46
    go_wp2_with (with_reducible (first | refine (k1 _).mono ?_ | refine (k2 _).mono ?_ | refine (k3 _).mono ?_); rintro e w1 ⟨rfl, rfl⟩)
    all_goals go_ret
    all_goals exact ⟨by simp, by repeat (first | exact Below.refl _ _ | assumption | refine st_drew ?_ | refine st_drewN ?_ _ | refine Below.setCell ?_ (by first | omega | (simp; done) | (simp; omega)) _ | refine Below.alloc ?_ (by first | omega | (simp; done) | (simp; omega)) _)⟩
  rcases t3 with _ | _
  · go_enter Try.func46, Try.ntmps46
    go_wp2_with (with_reducible (first | refine (k1 _).mono ?_ | refine (k2 _).mono ?_ | refine (k3 _).mono ?_); rintro e w1 ⟨rfl, rfl⟩)
    all_goals go_ret
    all_goals exact ⟨by simp, by repeat (first | exact Below.refl _ _ | assumption | refine st_drew ?_ | refine st_drewN ?_ _ | refine Below.setCell ?_ (by first | omega | (simp; done) | (simp; omega)) _ | refine Below.alloc ?_ (by first | omega | (simp; done) | (simp; omega)) _)⟩
  go_enter Try.func46, Try.ntmps46
  go_wp2_with (with_reducible (first | refine (k1 _).mono ?_ | refine (k2 _).mono ?_ | refine (k3 _).mono ?_); rintro e w1 ⟨rfl, rfl⟩)
  go_ret
  exact ⟨rfl, by repeat (first | exact Below.refl _ _ | assumption | refine st_drew ?_ | refine st_drewN ?_ _ | refine Below.setCell ?_ (by first | omega | (simp; done) | (simp; omega)) _ | refine Below.alloc ?_ (by first | omega | (simp; done) | (simp; omega)) _)⟩

set_option maxRecDepth 20000 in
set_option maxHeartbeats 2000000 in
theorem sgv_any (x : Gv) (w : World) : Calls Try.prog 50 #[aGv x] w fun e w' => e = .returned (.bool (gvB x)) ∧ Below w.heap.size w w' := by
  have k1 := lin_any x.d 1 1000
  have k2 := stime_any x.t
  have k3 := lin_any x.n 1 1000000000
  unfold gvB aGv
  generalize rng x.d 1 1000 = t1 at *
  generalize rng x.t 0 10000000 = t2 at *
  generalize rng x.n 1 1000000000 = t3 at *
  rcases t1 with _ | _
  · go_enter Try.func50, Try.ntmps50
    go_wp2_with (with_reducible (first | refine (k1 _).mono ?_ | refine (k2 _).mono ?_ | refine (k3 _).mono ?_); rintro e w1 ⟨rfl, rfl⟩)
    all_goals go_ret
    all_goals exact ⟨by simp, by repeat (first | exact Below.refl _ _ | assumption | refine st_drew ?_ | refine st_drewN ?_ _ | refine Below.setCell ?_ (by first | omega | (simp; done) | (simp; omega)) _ | refine Below.alloc ?_ (by first | omega | (simp; done) | (simp; omega)) _)⟩
  rcases t2 with _ | _
  · go_enter Try.func50, Try.ntmps50
    go_wp2_with (with_reducible (first | refine (k1 _).mono ?_ | refine (k2 _).mono ?_ | refine (k3 _).mono ?_); rintro e w1 ⟨rfl, rfl⟩)
    all_goals go_ret
    all_goals exact ⟨by simp, by repeat (first | exact Below.refl _ _ | assumption | refine st_drew ?_ | refine st_drewN ?_ _ | refine Below.setCell ?_ (by first | omega | (simp; done) | (simp; omega)) _ | refine Below.alloc ?_ (by first | omega | (simp; done) | (simp; omega)) _)⟩
  rcases t3 with _ | _
  · go_enter Try.func50, Try.ntmps50
    go_wp2_with (with_reducible (first | refine (k1 _).mono ?_ | refine (k2 _).mono ?_ | refine (k3 _).mono ?_); rintro e w1 ⟨rfl, rfl⟩)
    all_goals go_ret
    all_goals exact ⟨by simp, by repeat (first | exact Below.refl _ _ | assumption | refine st_drew ?_ | refine st_drewN ?_ _ | refine Below.setCell ?_ (by first | omega | (simp; done) | (simp; omega)) _ | refine Below.alloc ?_ (by first | omega | (simp; done) | (simp; omega)) _)⟩
  go_enter Try.func50, Try.ntmps50
  go_wp2_with (with_reducible (first | refine (k1 _).mono ?_ | refine (k2 _).mono ?_ | refine (k3 _).mono ?_); rintro e w1 ⟨rfl, rfl⟩)
  go_ret
  exact ⟨rfl, by repeat (first | exact Below.refl _ _ | assumption | refine st_drew ?_ | refine st_drewN ?_ _ | refine Below.setCell ?_ (by first | omega | (simp; done) | (simp; omega)) _ | refine Below.alloc ?_ (by first | omega | (simp; done) | (simp; omega)) _)⟩

set_option maxRecDepth 20000 in
set_option maxHeartbeats 2000000 in
theorem igvs_any (ao : Option Addr) (n cap : Nat) (l : List Gv) (w : World) (h : Rw 3 csGv w (.slice ao n cap) l) (hn : l.length ≤ 1048576) :
    Calls Try.prog 45 #[.slice ao n cap] w fun e w' => e = .returned (.bool (gsB l)) ∧ Below w.heap.size w w' := by
  obtain rfl := h.len
  have HH := hidden h
  clear h
  unfold gsB
  by_cases h8 : (500 : Int) < (l.length : Int)
  · have hno : Hid (decide (l.length ≤ 500) = false) := by rw [Hid]; simp; omega
    go_enter Try.func45, Try.ntmps45
    go_wp2_with fail
    go_ret
    exact ⟨by rw [hno.out]; rfl, Below.refl _ _⟩
  have hyes0 : Hid (decide (l.length ≤ 500) = true) := by rw [Hid]; simp; omega
  go_enter Try.func45, Try.ntmps45
  go_wp2_with fail
  go_loopw [4, 10] (fun _ iv wr => ∃ i : Nat, i ≤ l.length ∧ iv = .int .i64 i ∧ Below w.heap.size w wr ∧ Hid (∀ j x, j < i → l[j]? = some x → gvB x = true)) (fun _ iv _ => l.length - (intOf iv).toNat)
  case atStart => exact ⟨0, Nat.zero_le _, rfl, Below.refl _ _, fun j x hj => absurd hj (Nat.not_lt_zero _)⟩
  case round =>
    obtain ⟨i, hi, rfl, hb, hok⟩ := hrel
    have hsz := hb.size
    by_cases hlt : i < l.length
    · have hlti : (i : Int) < (l.length : Int) := by omega
      obtain ⟨x, hx⟩ := some_of l i hlt
      obtain ⟨g, off, rfl, hg, hcs⟩ := (HH.out.below hb).at hx
      have c0 : wr.cell? ⟨g, off + i * 3, none⟩ = some (.int .i64 x.d) := hcs 0 (by omega)
      have c1 : wr.cell? ⟨g, off + i * 3 + 1, none⟩ = some (.int .i64 x.t) := hcs 1 (by omega)
      have c2 : wr.cell? ⟨g, off + i * 3 + 2, none⟩ = some (.int .i64 x.n) := hcs 2 (by omega)
      have HX := hidden hx
      have hK := igv_any x
      unfold aGv at hK
      cases hp : gvB x with
      | false =>
        rw [hp] at hK
        have hno : Hid (l.all gvB = false) := by rw [Hid, List.all_eq_false]; exact ⟨x, List.mem_of_getElem? HX.out, by rw [hp]; simp⟩
        clear hx hcs hok hp
        go_wp2_with (go_at_call 46; refine (hK _).mono ?_; rintro e w1 ⟨rfl, hb1⟩; have bA := onto (show Below w.heap.size w _ from by repeat (first | exact Below.refl _ _ | assumption | refine st_drew ?_ | refine st_drewN ?_ _ | refine Below.setCell ?_ (by first | omega | (simp; done) | (simp; omega)) _ | refine Below.alloc ?_ (by first | omega | (simp; done) | (simp; omega)) _)) hb1; clear hb1)
        go_ret
        exact ⟨by rw [hno.out]; simp, bA⟩
      | true =>
        rw [hp] at hK
        have hok2 : Hid (∀ j y, j < i + 1 → l[j]? = some y → gvB y = true) := fun j y hj hy => by
          rcases Nat.lt_succ_iff_lt_or_eq.1 hj with k | rfl
          · exact hok.out j y k hy
          · rw [HX.out] at hy; cases hy; exact hp
        clear hx hcs hok hp
        go_wp2_with (go_at_call 46; refine (hK _).mono ?_; rintro e w1 ⟨rfl, hb1⟩; have bA := onto (show Below w.heap.size w _ from by repeat (first | exact Below.refl _ _ | assumption | refine st_drew ?_ | refine st_drewN ?_ _ | refine Below.setCell ?_ (by first | omega | (simp; done) | (simp; omega)) _ | refine Below.alloc ?_ (by first | omega | (simp; done) | (simp; omega)) _)) hb1; clear hb1)
        go_roundw
        case rel => exact ⟨i + 1, by omega, rfl, bA, hok2⟩
        case measure => simp [intOf]; omega
    · have hlti : ¬ (i : Int) < (l.length : Int) := by omega
      have hil : i = l.length := by omega
      have hyes : Hid (l.all gvB = true) := by
        rw [Hid, List.all_eq_true]
        intro x hx
        obtain ⟨j, hj⟩ := List.getElem?_of_mem hx
        exact hok.out j x (by have := get_lt' hj; omega) hj
      go_wp2_with fail
      go_ret
      exact ⟨by rw [hyes.out, hyes0.out]; rfl, hb⟩

set_option maxRecDepth 20000 in
set_option maxHeartbeats 2000000 in
theorem icount_any (ao : Option Addr) (n cap : Nat) (l : List Gv) (z : Int) (w : World) (h : Rw 3 csGv w (.slice ao n cap) l) (hn : l.length ≤ 1048576) :
    Calls Try.prog 71 #[.slice ao n cap, .int .i64 z] w fun e w' => e = .returned (.int .i64 (aheadN l z)) ∧ w' = w := by
  obtain rfl := h.len
  have HH := hidden h
  clear h
  go_enter Try.func71, Try.ntmps71
  go_wp2_with fail
  go_loopw [5] (fun iv wr => ∃ i : Nat, i ≤ l.length ∧ iv = .int .i64 i ∧ wr = w ∧ Hid (aheadN l z = i + aheadN (l.drop i) z)) (fun iv _ => l.length - (intOf iv).toNat)
  case atStart => exact ⟨0, Nat.zero_le _, rfl, rfl, by rw [Hid]; simp⟩
  case round =>
    obtain ⟨i, hi, rfl, rfl, hok⟩ := hrel
    by_cases hlt : i < l.length
    · have hlti : (i : Int) < (l.length : Int) := by omega
      obtain ⟨x, hx⟩ := some_of l i hlt
      obtain ⟨g, off, rfl, hg, hcs⟩ := HH.out.at hx
      have c0 : wr.cell? ⟨g, off + i * 3, none⟩ = some (.int .i64 x.d) := hcs 0 (by omega)
      have c1 : wr.cell? ⟨g, off + i * 3 + 1, none⟩ = some (.int .i64 x.t) := hcs 1 (by omega)
      have c2 : wr.cell? ⟨g, off + i * 3 + 2, none⟩ = some (.int .i64 x.n) := hcs 2 (by omega)
      have HD : Hid (l.drop i = x :: l.drop (i + 1)) := by rw [Hid, List.drop_eq_getElem_cons hlt, show l[i] = x from by rw [List.getElem?_eq_getElem hlt] at hx; exact Option.some.inj hx]
      by_cases hp : x.t < z
      · have HN : Hid (aheadN l z = i + 1 + aheadN (l.drop (i + 1)) z) := by
          rw [Hid, hok.out, HD.out]; unfold aheadN; rw [List.takeWhile_cons, if_pos (by simpa using hp), List.length_cons]; omega
        clear hx hcs hok HD
        go_wp2_with fail
        go_roundw
        case rel => exact ⟨i + 1, by omega, rfl, by simp, HN⟩
        case measure => simp [intOf]; omega
      · have HN : Hid (aheadN l z = i) := by
          rw [Hid, hok.out, HD.out]; unfold aheadN; rw [List.takeWhile_cons, if_neg (by simpa using hp)]; rfl
        clear hx hcs hok HD
        go_wp2_with fail
        go_ret
        exact ⟨by rw [HN.out]; rfl, rfl⟩
    · have hlti : ¬ (i : Int) < (l.length : Int) := by omega
      have hil : i = l.length := by omega
      have HN : Hid (aheadN l z = i) := by rw [Hid, hok.out, hil, List.drop_length]; rfl
      go_wp2_with fail
      go_ret
      exact ⟨by rw [HN.out, hil]; rfl, rfl⟩

theorem sumN_take {l : List Gv} {i : Nat} {x : Gv} (h : l[i]? = some x) : sumN (l.take (i + 1)) = sumN (l.take i) + x.n := by
  rw [show l.take (i + 1) = l.take i ++ [x] from by rw [List.take_add_one, h]; rfl, sumN_snoc]

set_option maxRecDepth 20000 in
set_option maxHeartbeats 2000000 in
theorem isum_any (ao : Option Addr) (n cap : Nat) (l : List Gv) (w : World) (h : Rw 3 csGv w (.slice ao n cap) l) (hn : l.length ≤ 501) (hr : ∀ x ∈ l, 0 ≤ x.n ∧ x.n ≤ 1000000000) :
    Calls Try.prog 64 #[.slice ao n cap] w fun e w' => e = .returned (.int .i64 (sumN l)) ∧ Below w.heap.size w w' := by
  obtain rfl := h.len
  have HH := hidden h
  have HR := hidden hr
  clear h hr
  go_enter Try.func64, Try.ntmps64
  go_wp2_with fail
  go_loopw [3, 5, 8] (fun sv _ iv wr => ∃ (i : Nat) (s : Int), i ≤ l.length ∧ iv = .int .i64 i ∧ sv = .int .i64 s ∧ 0 ≤ s ∧ s ≤ 1000000000 * (i : Int) ∧ Below w.heap.size w wr ∧ Hid (s = sumN (l.take i))) (fun _ _ iv _ => l.length - (intOf iv).toNat)
  case atStart => exact ⟨0, 0, Nat.zero_le _, rfl, rfl, by omega, by omega, Below.refl _ _, rfl⟩
  case round =>
    obtain ⟨i, s, hi, rfl, rfl, hs0, hs1, hb, hok⟩ := hrel
    have hsz := hb.size
    by_cases hlt : i < l.length
    · have hlti : (i : Int) < (l.length : Int) := by omega
      obtain ⟨x, hx⟩ := some_of l i hlt
      obtain ⟨g, off, rfl, hg, hcs⟩ := (HH.out.below hb).at hx
      have c0 : wr.cell? ⟨g, off + i * 3, none⟩ = some (.int .i64 x.d) := hcs 0 (by omega)
      have c1 : wr.cell? ⟨g, off + i * 3 + 1, none⟩ = some (.int .i64 x.t) := hcs 1 (by omega)
      have c2 : wr.cell? ⟨g, off + i * 3 + 2, none⟩ = some (.int .i64 x.n) := hcs 2 (by omega)
      obtain ⟨x0, x1⟩ := HR.out x (List.mem_of_getElem? hx)
      have HN : Hid (s + x.n = sumN (l.take (i + 1))) := by rw [Hid, sumN_take hx, hok.out]
      clear hx hcs hok
      go_wp2_with fail
      go_roundw
      case rel => exact ⟨i + 1, s + x.n, by omega, rfl, rfl, by omega, by omega, by repeat (first | exact Below.refl _ _ | assumption | refine st_drew ?_ | refine st_drewN ?_ _ | refine Below.setCell ?_ (by first | omega | (simp; done) | (simp; omega)) _ | refine Below.alloc ?_ (by first | omega | (simp; done) | (simp; omega)) _), HN⟩
      case measure => simp [intOf]; omega
    · have hlti : ¬ (i : Int) < (l.length : Int) := by omega
      have hil : i = l.length := by omega
      have HN : Hid (s = sumN l) := by have := hok.out; rw [hil, List.take_length] at this; exact this
      go_wp2_with fail
      go_ret
      exact ⟨by rw [← HN.out]; rfl, hb⟩
end Go.Proofs.Ytcnhogghfedcdaa
