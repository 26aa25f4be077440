/-
  Queues: the specification's look at a queue.
-/
import Derived.Test.YtcfghnffacdekabQb
namespace Go.Proofs.Ytcfghnffacdekab
open Go.RowKit Va
set_option linter.unusedVariables false

set_option maxRecDepth 20000 in
set_option maxHeartbeats 4000000 in
theorem squeue_any (ao : Option Addr) (n cap : Nat) (l : List Wt) (w : World) (h : Rw 3 csW w (.slice ao n cap) l) (hn : l.length ≤ 1048576) :
    Calls Try.prog 67 #[.slice ao n cap] w fun e w' => e = .returned (.bool (qB l)) ∧ Below w.heap.size w w' := by
  obtain rfl := h.len
  have HH := hidden h
  clear h
  by_cases hl : (200 : Int) < (l.length : Int)
  · have hno : Hid (qB l = false) := qB_false fun q => by have := q.1; omega
    go_enter Try.func67, Try.ntmps67
    go_wp2_with fail
    go_ret
    exact ⟨by rw [hno.out]; rfl, Below.refl _ _⟩
  have hlen : l.length ≤ 200 := by omega
  go_enter Try.func67, Try.ntmps67
  go_wp2_with fail
  go_loopw [3, 4] (fun iv _ wr => ∃ i : Nat, i ≤ l.length ∧ iv = .int .i64 i ∧ Below w.heap.size w wr ∧ Hid (qTo l i)) (fun iv _ _ => l.length - (intOf iv).toNat)
  case atStart => exact ⟨0, Nat.zero_le _, rfl, Below.refl _ _, qTo_zero _⟩
  case round =>
    obtain ⟨i, hi, rfl, hb, hok⟩ := hrel
    have hsz := hb.size
    by_cases hlt : i < l.length
    · have hlti : (i : Int) < (l.length : Int) := by omega
      obtain ⟨x, hx⟩ := some_of l i hlt
      obtain ⟨g, off, rfl, hg, c0, c1, c2⟩ := wait_cells (HH.out.below hb) hx
      have HX := hidden hx
      clear hx
      have k1 := sprs_any x.person
      have k2 := lin_any x.urg 1 5
      have k3 := stmq_any x.since
      have HW := hidden (show wOk x = (prs x.person && (rng x.urg 1 5 && tmv x.since)) from rfl)
      generalize prs x.person = t1 at *
      generalize rng x.urg 1 5 = t2 at *
      generalize tmv x.since = t3 at *
      cases hk : (t1 && (t2 && t3)) with
      | false =>
        have hno : Hid (qB l = false) := qB_false (q_not HX.out (HW.out.trans hk))
        clear hok
        rcases t1 with _ | _
        · go_wp2_with (first | (go_at_call 43; refine (k1 _).mono ?_; rintro e w1 ⟨rfl, rfl⟩))
          go_ret
          exact ⟨by rw [hno.out]; rfl, hb⟩
        rcases t2 with _ | _
        · go_wp2_with (first | (go_at_call 43; refine (k1 _).mono ?_; rintro e w1 ⟨rfl, rfl⟩) | (go_at_call 41; refine (k2 _).mono ?_; rintro e w1 ⟨rfl, rfl⟩))
          go_ret
          exact ⟨by rw [hno.out]; rfl, hb⟩
        rcases t3 with _ | _
        · go_wp2_with (first | (go_at_call 43; refine (k1 _).mono ?_; rintro e w1 ⟨rfl, rfl⟩) | (go_at_call 41; refine (k2 _).mono ?_; rintro e w1 ⟨rfl, rfl⟩) | (go_at_call 44; refine (k3 _).mono ?_; rintro e w1 ⟨rfl, rfl⟩))
          go_ret
          exact ⟨by rw [hno.out]; rfl, hb⟩
        cases hk
      | true =>
        have hw := HW.out.trans hk
        simp only [Bool.and_eq_true] at hk
        obtain ⟨rfl, rfl, rfl⟩ := hk
        have HW2 := hidden hw
        clear hw HW
        go_wp2_with (first | (go_at_call 43; refine (k1 _).mono ?_; rintro e w1 ⟨rfl, rfl⟩) | (go_at_call 41; refine (k2 _).mono ?_; rintro e w1 ⟨rfl, rfl⟩) | (go_at_call 44; refine (k3 _).mono ?_; rintro e w1 ⟨rfl, rfl⟩))
        go_loopw [4] (fun kv wk => ∃ k : Nat, k ≤ i ∧ kv = .int .i64 k ∧ Below w.heap.size w wk ∧ Hid (∀ j y, j < k → l[j]? = some y → sameP x y = false)) (fun kv _ => i - (intOf kv).toNat)
        case atStart => exact ⟨0, Nat.zero_le _, rfl, hb, fun j y hj => absurd hj (Nat.not_lt_zero _)⟩
        case round =>
          clear hb hg c0 c1 c2 k1 k2 k3 hsz
          obtain ⟨k, hki, rfl, hb, hks⟩ := hrel
          by_cases hkl : k < i
          · have hkli : (k : Int) < (i : Int) := by omega
            have hkl2 : (k : Int) < (l.length : Int) := by omega
            obtain ⟨y, hy⟩ := some_of l k (by omega)
            obtain ⟨g', off', hgo, hg, c0, c1, c2⟩ := wait_cells (HH.out.below hb) HX.out
            obtain ⟨rfl, rfl⟩ : g = g' ∧ off = off' := by simpa using hgo
            obtain ⟨g', off', hgo', -, f0, f1, f2⟩ := wait_cells (HH.out.below hb) hy
            obtain ⟨rfl, rfl⟩ : g = g' ∧ off = off' := by simpa using hgo'
            have HY := hidden hy
            clear hy hgo hgo'
            by_cases hq : x.person = y.person
            · have hno : Hid (qB l = false) := qB_false (q_not2 HX.out HY.out hkl (by unfold sameP; simp [hq]))
              have he : (y.person == x.person) = true := by simp [hq]
              clear hq hok hks
              go_wp2_with fail
              go_quiet (fail)
              go_wp2_with fail
              go_ret
              exact ⟨by rw [hno.out]; rfl, by repeat (first | exact Below.refl _ _ | assumption | refine st_drew ?_ | refine st_drewN ?_ _ | refine Below.setCell ?_ (by first | omega | (simp; done) | (simp; omega)) _ | refine Below.alloc ?_ (by first | omega | (simp; done) | (simp; omega)) _)⟩
            · have he : (y.person == x.person) = false := by simp; omega
              have hks2 : Hid (∀ j z, j < k + 1 → l[j]? = some z → sameP x z = false) := fun j z hj hz => by
                rcases Nat.lt_succ_iff_lt_or_eq.1 hj with q | rfl
                · exact hks.out j z q hz
                · rw [HY.out] at hz; cases hz; unfold sameP; simp [hq]
              have hq2 : ¬ y.person = x.person := fun q => hq q.symm
              clear hks
              go_wp2_with fail
              go_quiet (fail)
              go_wp2_with fail
              go_roundw
              case rel => exact ⟨k + 1, by omega, rfl, by repeat (first | exact Below.refl _ _ | assumption | refine st_drew ?_ | refine st_drewN ?_ _ | refine Below.setCell ?_ (by first | omega | (simp; done) | (simp; omega)) _ | refine Below.alloc ?_ (by first | omega | (simp; done) | (simp; omega)) _), hks2⟩
              case measure => simp [intOf]; omega
          · have hkli : ¬ (k : Int) < (i : Int) := by omega
            have hke : k = i := by omega
            subst hke
            have hok2 : Hid (qTo l (k + 1)) := qTo_succ hok.out HX.out HW2.out hks.out
            go_wp2_with fail
            go_roundw
            case rel => exact ⟨k + 1, by omega, rfl, hb, hok2⟩
            case measure => simp [intOf]; omega
    · have hlti : ¬ (i : Int) < (l.length : Int) := by omega
      have hil : i = l.length := by omega
      subst hil
      have hyes : Hid (qB l = true) := qB_true ⟨hlen, hok.out⟩
      go_wp2_with fail
      go_ret
      exact ⟨by rw [hyes.out]; rfl, hb⟩
end Go.Proofs.Ytcfghnffacdekab
