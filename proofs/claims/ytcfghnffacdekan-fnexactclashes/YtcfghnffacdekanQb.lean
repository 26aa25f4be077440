/-
  Queues: the small functions, and whether somebody stands in a queue already.
-/
import Derived.Test.YtcfghnffacdekanVb
import Derived.Test.YtcfghnffacdekanQa
import Derived.Deep.RegionWith
namespace Go.Proofs.Ytcfghnffacdekan
open Go.RowKit Va
set_option linter.unusedVariables false

def csW (x : Wt) (k : Nat) : Int := match k with | 0 => x.person | 1 => x.urg | _ => x.since
def aW (x : Wt) : Value := .agg #[.int .i64 x.person, .int .i64 x.urg, .int .i64 x.since]
theorem some_of {α : Type} (l : List α) (i : Nat) (h : i < l.length) : ∃ x, l[i]? = some x := ⟨_, List.getElem?_eq_getElem h⟩
theorem take_snocW {α : Type} {l : List α} {i : Nat} {x : α} (h : l[i]? = some x) : l.take (i + 1) = l.take i ++ [x] := by
  rw [List.take_add_one, h]; rfl
/-- The three cells of who waits. -/
theorem wait_cells {w : World} {ao : Option Addr} {n cap : Nat} {l : List Wt} {k : Nat} {s : Wt} (h : Rw 3 csW w (.slice ao n cap) l) (hk : l[k]? = some s) :
    ∃ g off, ao = some ⟨g, off, none⟩ ∧ g < w.heap.size ∧ w.cell? ⟨g, off + k * 3, none⟩ = some (.int .i64 s.person) ∧ w.cell? ⟨g, off + k * 3 + 1, none⟩ = some (.int .i64 s.urg) ∧ w.cell? ⟨g, off + k * 3 + 2, none⟩ = some (.int .i64 s.since) := by
  obtain ⟨g, off, h1, h2, h3⟩ := h.at hk
  exact ⟨g, off, h1, h2, h3 0 (by omega), h3 1 (by omega), h3 2 (by omega)⟩

set_option maxHeartbeats 400000 in
theorem sprs_any (x : Int) (w : World) : Calls Try.prog 45 #[.int .i64 x] w fun e w' => e = .returned (.bool (prs x)) ∧ w = w' := by
  have h := lin_any x 0 999
  rw [show rng x 0 999 = prs x from rfl] at h
  generalize prs x = t at *
  go_enter Try.func45, Try.ntmps45
  go_wp2_with (go_at_call 46; refine (h _).mono ?_; rintro e w1 ⟨rfl, rfl⟩)
  go_ret
  exact ⟨rfl, rfl⟩

set_option maxHeartbeats 400000 in
theorem stmq_any (x : Int) (w : World) : Calls Try.prog 40 #[.int .i64 x] w fun e w' => e = .returned (.bool (tmv x)) ∧ w = w' := by
  have h := lin_any x 0 10000000
  rw [show rng x 0 10000000 = tmv x from rfl] at h
  generalize tmv x = t at *
  go_enter Try.func40, Try.ntmps40
  go_wp2_with (go_at_call 46; refine (h _).mono ?_; rintro e w1 ⟨rfl, rfl⟩)
  go_ret
  exact ⟨rfl, rfl⟩

set_option maxHeartbeats 400000 in
theorem itmq_any (x : Int) (w : World) : Calls Try.prog 42 #[.int .i64 x] w fun e w' => e = .returned (.bool (tmv x)) ∧ w = w' := by
  unfold tmv
  go_enter Try.func42, Try.ntmps42
  go_wp2
  all_goals (go_ret; exact ⟨ret_bool (by first | (simp; done) | (simp; omega) | (simp_all; done) | (simp_all; omega) | (rw [Bool.eq_iff_iff]; simp; omega) | (rw [Bool.eq_iff_iff]; simp_all; omega)), rfl⟩)

set_option maxHeartbeats 400000 in
theorem iprs_any (x : Int) (w : World) : Calls Try.prog 71 #[.int .i64 x] w fun e w' => e = .returned (.bool (prs x)) ∧ w = w' := by
  by_cases h0 : 0 ≤ x
  · by_cases h1 : x ≤ 999
    · have e : Hid (prs x = true) := prs_iff.2 ⟨h0, h1⟩
      have h2 : x < 1000 := by omega
      go_enter Try.func71, Try.ntmps71
      go_wp2
      go_ret
      exact ⟨ret_bool e.out.symm, rfl⟩
    · have e : Hid (prs x = false) := by unfold prs; simp; rw [Hid]; omega
      have h2 : ¬ x < 1000 := by omega
      go_enter Try.func71, Try.ntmps71
      go_wp2
      go_ret
      exact ⟨ret_bool e.out.symm, rfl⟩
  · have e : Hid (prs x = false) := by unfold prs; simp; rw [Hid]; omega
    go_enter Try.func71, Try.ntmps71
    go_wp2
    go_ret
    exact ⟨ret_bool e.out.symm, rfl⟩

set_option maxHeartbeats 1000000 in
theorem isof_any (x y : Wt) (w : World) : Calls Try.prog 50 #[aW x, aW y] w fun e w' => e = .returned (.bool (sameP x y)) ∧ Below w.heap.size w w' := by
  unfold aW sameP
  go_enter Try.func50, Try.ntmps50
  go_wp2
  all_goals go_ret
  all_goals exact ⟨ret_bool (by first | (simp; done) | (rw [Bool.eq_iff_iff]; simp; done) | (rw [Bool.eq_iff_iff]; simp_all; done)), by repeat (first | exact Below.refl _ _ | assumption | refine st_drew ?_ | refine st_drewN ?_ _ | refine Below.setCell ?_ (by first | omega | (simp; done) | (simp; omega)) _ | refine Below.alloc ?_ (by first | omega | (simp; done) | (simp; omega)) _)⟩

set_option maxHeartbeats 2000000 in
theorem isright_any (x : Wt) (w : World) : Calls Try.prog 48 #[aW x] w fun e w' => e = .returned (.bool (wOk x)) ∧ Below w.heap.size w w' := by
  have h1 := iprs_any x.person
  have h2 := itmq_any x.since
  unfold wOk aW rng
  generalize prs x.person = t1 at *
  generalize tmv x.since = t2 at *
  rcases t1 with _ | _
  · go_enter Try.func48, Try.ntmps48
    go_wp2_with (first | (go_at_call 71; refine (h1 _).mono ?_; rintro e w1 ⟨rfl, rfl⟩))
    go_ret
    exact ⟨rfl, by repeat (first | exact Below.refl _ _ | assumption | refine st_drew ?_ | refine st_drewN ?_ _ | refine Below.setCell ?_ (by first | omega | (simp; done) | (simp; omega)) _ | refine Below.alloc ?_ (by first | omega | (simp; done) | (simp; omega)) _)⟩
  by_cases q1 : 1 ≤ x.urg
  · by_cases q2 : x.urg ≤ 5
    · go_enter Try.func48, Try.ntmps48
      go_wp2_with (first | (go_at_call 71; refine (h1 _).mono ?_; rintro e w1 ⟨rfl, rfl⟩) | (go_at_call 42; refine (h2 _).mono ?_; rintro e w1 ⟨rfl, rfl⟩))
      go_ret
      exact ⟨ret_bool (by first | (simp; done) | (simp; omega) | (simp_all; done) | (simp_all; omega) | (rw [Bool.eq_iff_iff]; simp; omega) | (rw [Bool.eq_iff_iff]; simp_all; omega)), by repeat (first | exact Below.refl _ _ | assumption | refine st_drew ?_ | refine st_drewN ?_ _ | refine Below.setCell ?_ (by first | omega | (simp; done) | (simp; omega)) _ | refine Below.alloc ?_ (by first | omega | (simp; done) | (simp; omega)) _)⟩
    · go_enter Try.func48, Try.ntmps48
      go_wp2_with (first | (go_at_call 71; refine (h1 _).mono ?_; rintro e w1 ⟨rfl, rfl⟩))
      go_ret
      exact ⟨ret_bool (by first | (simp; done) | (simp; omega) | (simp_all; done) | (simp_all; omega) | (rw [Bool.eq_iff_iff]; simp; omega) | (rw [Bool.eq_iff_iff]; simp_all; omega)), by repeat (first | exact Below.refl _ _ | assumption | refine st_drew ?_ | refine st_drewN ?_ _ | refine Below.setCell ?_ (by first | omega | (simp; done) | (simp; omega)) _ | refine Below.alloc ?_ (by first | omega | (simp; done) | (simp; omega)) _)⟩
  · go_enter Try.func48, Try.ntmps48
    go_wp2_with (first | (go_at_call 71; refine (h1 _).mono ?_; rintro e w1 ⟨rfl, rfl⟩))
    go_ret
    exact ⟨ret_bool (by first | (simp; done) | (simp; omega) | (simp_all; done) | (simp_all; omega) | (rw [Bool.eq_iff_iff]; simp; omega) | (rw [Bool.eq_iff_iff]; simp_all; omega)), by repeat (first | exact Below.refl _ _ | assumption | refine st_drew ?_ | refine st_drewN ?_ _ | refine Below.setCell ?_ (by first | omega | (simp; done) | (simp; omega)) _ | refine Below.alloc ?_ (by first | omega | (simp; done) | (simp; omega)) _)⟩

set_option maxRecDepth 20000 in
set_option maxHeartbeats 2000000 in
theorem idxw_any (ao : Option Addr) (n cap : Nat) (l : List Wt) (x : Wt) (w : World) (h : Rw 3 csW w (.slice ao n cap) l) (hn : l.length ≤ 1048576) :
    Calls Try.prog 72 #[.slice ao n cap, .func (.func 50) #[aW x] #[]] w fun e w' => (∃ r : Int, e = .returned (.int .i64 r) ∧ (decide (0 ≤ r) = l.any (fun y => sameP x y))) ∧ Below w.heap.size w w' := by
  obtain rfl := h.len
  have HH := hidden h
  clear h
  go_enter Try.func72, Try.ntmps72
  go_wp2_with fail
  go_loopw [5, 8] (fun _ iv wr => ∃ i : Nat, i ≤ l.length ∧ iv = .int .i64 i ∧ Below w.heap.size w wr ∧ Hid ((l.take i).any (fun y => sameP x y) = false)) (fun _ iv _ => l.length - (intOf iv).toNat)
  case atStart => exact ⟨0, Nat.zero_le _, rfl, Below.refl _ _, rfl⟩
  case round =>
    obtain ⟨i, hi, rfl, hb, hok⟩ := hrel
    by_cases hlt : i < l.length
    · have hlti : (i : Int) < (l.length : Int) := by omega
      obtain ⟨y, hy⟩ := some_of l i hlt
      obtain ⟨g, off, rfl, hg, c0, c1, c2⟩ := wait_cells (HH.out.below hb) hy
      have HX := hidden hy
      have hcall := fun W => isof_any x y W
      have HT := hidden (take_snocW hy)
      clear hy
      cases hq : sameP x y with
      | true =>
        rw [hq] at hcall
        have HY : Hid (l.any (fun y => sameP x y) = true) := List.any_eq_true.2 ⟨y, List.mem_of_getElem? HX.out, hq⟩
        go_wp2_with (go_at_call 50; refine (hcall _).mono ?_; rintro e w1 ⟨rfl, hb1⟩; have bA := onto hb hb1)
        go_ret
        exact ⟨⟨i, rfl, by rw [HY.out]; simp⟩, bA⟩
      | false =>
        rw [hq] at hcall
        have HN : Hid ((l.take (i + 1)).any (fun y => sameP x y) = false) := by rw [Hid, HT.out, List.any_append, hok.out]; simp [hq]
        go_wp2_with (go_at_call 50; refine (hcall _).mono ?_; rintro e w1 ⟨rfl, hb1⟩; have bA := onto hb hb1)
        go_roundw
        case rel => exact ⟨i + 1, by omega, rfl, bA, HN⟩
        case measure => simp [intOf]; omega
    · have hlti : ¬ (i : Int) < (l.length : Int) := by omega
      have hil : i = l.length := by omega
      subst hil
      go_wp2_with fail
      go_ret
      exact ⟨⟨-1, rfl, by have := hok.out; rw [List.take_length] at this; rw [this]; rfl⟩, hb⟩

set_option maxRecDepth 20000 in
set_option maxHeartbeats 400000 in
theorem hasw_any (ao : Option Addr) (n cap : Nat) (l : List Wt) (x : Wt) (w : World) (h : Rw 3 csW w (.slice ao n cap) l) (hn : l.length ≤ 1048576) :
    Calls Try.prog 49 #[.slice ao n cap, .func (.func 50) #[aW x] #[]] w fun e w' => e = .returned (.bool (l.any (fun y => sameP x y))) ∧ Below w.heap.size w w' := by
  have hcall := idxw_any ao n cap l x w h hn
  clear h
  go_enter Try.func49, Try.ntmps49
  go_wp2_with (go_at_call 72; refine hcall.mono ?_; rintro e w1 ⟨⟨r, rfl, hr⟩, hb1⟩; have HR := hidden hr; clear hr)
  go_ret
  exact ⟨ret_bool (by rw [← HR.out]), hb1⟩

set_option maxRecDepth 20000 in
set_option maxHeartbeats 2000000 in
theorem iqueue_any (ao : Option Addr) (n cap : Nat) (l : List Wt) (w : World) (h : Rw 3 csW w (.slice ao n cap) l) (hn : l.length ≤ 1048576) :
    Calls Try.prog 15 #[.slice ao n cap] w fun e w' => e = .returned (.bool (qB l)) ∧ Below w.heap.size w w' := by
  obtain rfl := h.len
  have hcap := h.cap
  have HH := hidden h
  clear h
  by_cases hl : (200 : Int) < (l.length : Int)
  · have hno : Hid (qB l = false) := qB_false fun q => by have := q.1; omega
    go_enter Try.func15, Try.ntmps15
    go_wp2_with fail
    go_ret
    exact ⟨by rw [hno.out]; rfl, Below.refl _ _⟩
  have hlen : l.length ≤ 200 := by omega
  go_enter Try.func15, Try.ntmps15
  go_wp2_with fail
  go_loopw [10] (fun iv wr => ∃ i : Nat, i ≤ l.length ∧ iv = .int .i64 i ∧ Below w.heap.size w wr ∧ Hid (qTo l i)) (fun iv _ => l.length - (intOf iv).toNat)
  case atStart => exact ⟨0, Nat.zero_le _, rfl, Below.refl _ _, qTo_zero _⟩
  case round =>
    obtain ⟨i, hi, rfl, hb, hok⟩ := hrel
    have hsz := hb.size
    by_cases hlt : i < l.length
    · have hlti : (i : Int) < (l.length : Int) := by omega
      obtain ⟨x, hx⟩ := some_of l i hlt
      obtain ⟨g, off, rfl, hg, c0, c1, c2⟩ := wait_cells (HH.out.below hb) hx
      have HX := hidden hx
      have hcapi : (i : Int) ≤ (cap : Int) := by omega
      clear hx
      have hK := isright_any x
      unfold aW at hK
      cases hk : wOk x with
      | false =>
        have hno : Hid (qB l = false) := qB_false (q_not HX.out hk)
        rw [hk] at hK
        clear hok
        go_wp2_with fail
        first | go_region_with (go_at_call 48; refine (hK _).mono ?_; rintro e w1 ⟨rfl, hb1⟩; have bA := onto (show Below w.heap.size w _ from by repeat (first | exact Below.refl _ _ | assumption | refine st_drew ?_ | refine st_drewN ?_ _ | refine Below.setCell ?_ (by first | omega | (simp; done) | (simp; omega)) _ | refine Below.alloc ?_ (by first | omega | (simp; done) | (simp; omega)) _)) hb1) | fail
        all_goals go_wp2_with fail
        all_goals go_ret
        all_goals exact ⟨by rw [hno.out]; rfl, by repeat (first | exact Below.refl _ _ | assumption | refine st_drew ?_ | refine st_drewN ?_ _ | refine Below.setCell ?_ (by first | omega | (simp; done) | (simp; omega)) _ | refine Below.alloc ?_ (by first | omega | (simp; done) | (simp; omega)) _)⟩
      | true =>
        rw [hk] at hK
        have hcall := fun W hW => hasw_any (some ⟨g, off, none⟩) i cap (l.take i) x W hW (by rw [List.length_take]; omega)
        have HT := hidden (fun W (hW : Below w.heap.size w W) => (HH.out.below hW).take i cap (by omega) (by omega))
        unfold aW at hcall
        cases hq : (l.take i).any (fun y => sameP x y) with
        | true =>
          obtain ⟨k, y, hk1, hk2, hk3⟩ := takes_same.1 hq
          have hno : Hid (qB l = false) := qB_false (q_not2 HX.out hk2 hk1 hk3)
          rw [hq] at hcall
          clear hok hk1 hk2 hk3 hq
          go_wp2_with fail
          first | go_region_with (first | (go_at_call 48; refine (hK _).mono ?_; rintro e w1 ⟨rfl, hb1⟩; have d0 : w1.cell? ⟨wr.heap.size, 0, none⟩ = some (.int .i64 x.person) := ((bcell hb1).1 _ _ (by first | omega | (simp; done) | (simp; omega))).trans (by simp); have d1 : w1.cell? ⟨wr.heap.size, 1, none⟩ = some (.int .i64 x.urg) := ((bcell hb1).1 _ _ (by first | omega | (simp; done) | (simp; omega))).trans (by simp); have d2 : w1.cell? ⟨wr.heap.size, 2, none⟩ = some (.int .i64 x.since) := ((bcell hb1).1 _ _ (by first | omega | (simp; done) | (simp; omega))).trans (by simp); have bA := onto (show Below w.heap.size w _ from by repeat (first | exact Below.refl _ _ | assumption | refine st_drew ?_ | refine st_drewN ?_ _ | refine Below.setCell ?_ (by first | omega | (simp; done) | (simp; omega)) _ | refine Below.alloc ?_ (by first | omega | (simp; done) | (simp; omega)) _)) hb1) | (go_at_call 49; refine (hcall _ (HT.out _ (by repeat (first | exact Below.refl _ _ | assumption | refine st_drew ?_ | refine st_drewN ?_ _ | refine Below.setCell ?_ (by first | omega | (simp; done) | (simp; omega)) _ | refine Below.alloc ?_ (by first | omega | (simp; done) | (simp; omega)) _)))).mono ?_; rintro e w2 ⟨rfl, hb2⟩; have bB := onto (show Below w.heap.size w _ from by repeat (first | exact Below.refl _ _ | assumption | refine st_drew ?_ | refine st_drewN ?_ _ | refine Below.setCell ?_ (by first | omega | (simp; done) | (simp; omega)) _ | refine Below.alloc ?_ (by first | omega | (simp; done) | (simp; omega)) _)) hb2)) | fail
          all_goals go_wp2_with fail
          all_goals go_ret
          all_goals exact ⟨by rw [hno.out]; rfl, by repeat (first | exact Below.refl _ _ | assumption | refine st_drew ?_ | refine st_drewN ?_ _ | refine Below.setCell ?_ (by first | omega | (simp; done) | (simp; omega)) _ | refine Below.alloc ?_ (by first | omega | (simp; done) | (simp; omega)) _)⟩
        | false =>
          have hok2 : Hid (qTo l (i + 1)) := qTo_succ hok.out HX.out hk fun k y hk1 hk2 => by
            cases he : sameP x y with
            | false => rfl
            | true => rw [takes_same.2 ⟨k, y, hk1, hk2, he⟩] at hq; cases hq
          rw [hq] at hcall
          clear hok hq
          go_wp2_with fail
          first | go_region_with (first | (go_at_call 48; refine (hK _).mono ?_; rintro e w1 ⟨rfl, hb1⟩; have d0 : w1.cell? ⟨wr.heap.size, 0, none⟩ = some (.int .i64 x.person) := ((bcell hb1).1 _ _ (by first | omega | (simp; done) | (simp; omega))).trans (by simp); have d1 : w1.cell? ⟨wr.heap.size, 1, none⟩ = some (.int .i64 x.urg) := ((bcell hb1).1 _ _ (by first | omega | (simp; done) | (simp; omega))).trans (by simp); have d2 : w1.cell? ⟨wr.heap.size, 2, none⟩ = some (.int .i64 x.since) := ((bcell hb1).1 _ _ (by first | omega | (simp; done) | (simp; omega))).trans (by simp); have bA := onto (show Below w.heap.size w _ from by repeat (first | exact Below.refl _ _ | assumption | refine st_drew ?_ | refine st_drewN ?_ _ | refine Below.setCell ?_ (by first | omega | (simp; done) | (simp; omega)) _ | refine Below.alloc ?_ (by first | omega | (simp; done) | (simp; omega)) _)) hb1) | (go_at_call 49; refine (hcall _ (HT.out _ (by repeat (first | exact Below.refl _ _ | assumption | refine st_drew ?_ | refine st_drewN ?_ _ | refine Below.setCell ?_ (by first | omega | (simp; done) | (simp; omega)) _ | refine Below.alloc ?_ (by first | omega | (simp; done) | (simp; omega)) _)))).mono ?_; rintro e w2 ⟨rfl, hb2⟩; have bB := onto (show Below w.heap.size w _ from by repeat (first | exact Below.refl _ _ | assumption | refine st_drew ?_ | refine st_drewN ?_ _ | refine Below.setCell ?_ (by first | omega | (simp; done) | (simp; omega)) _ | refine Below.alloc ?_ (by first | omega | (simp; done) | (simp; omega)) _)) hb2)) | fail
          all_goals go_wp2_with fail
          all_goals go_roundw
          all_goals first
            | exact ⟨i + 1, by omega, rfl, by repeat (first | exact Below.refl _ _ | assumption | refine st_drew ?_ | refine st_drewN ?_ _ | refine Below.setCell ?_ (by first | omega | (simp; done) | (simp; omega)) _ | refine Below.alloc ?_ (by first | omega | (simp; done) | (simp; omega)) _), hok2⟩
            | (simp [intOf]; omega)
    · have hlti : ¬ (i : Int) < (l.length : Int) := by omega
      have hil : i = l.length := by omega
      subst hil
      have hyes : Hid (qB l = true) := qB_true ⟨hlen, hok.out⟩
      go_wp2_with fail
      go_ret
      exact ⟨by rw [hyes.out]; rfl, hb⟩
end Go.Proofs.Ytcfghnffacdekan
