/-
  The minutes of somebody: the program and the specification.
-/
import Derived.Test.YtcfghnffacdekaoOf
import Derived.Test.YtcfghnffacdekaoOk
namespace Go.Proofs.Ytcfghnffacdekao
open Go.RowKit Va Oa
set_option linter.unusedVariables false

theorem has_one (l : List Int) (x : Int) : shr [x] l = has l x := by simp [shr]

theorem one_irw {W : World} {g c : Nat} {x : Int} (h : W.cell? ⟨g, 0, none⟩ = some (.int .i64 x)) (hg : g < W.heap.size) (hc : 1 ≤ c) : IRw W (.slice (some ⟨g, 0, none⟩) 1 c) [x] :=
  ⟨_, c, rfl, by simpa using hc, Or.inr ⟨g, 0, rfl, hg, fun i y hy => by
    have hi : i < 1 := by simpa using get_lt' hy
    obtain rfl : i = 0 := by omega
    obtain rfl : x = y := by simpa using hy
    simpa using h⟩⟩

set_option maxRecDepth 20000 in
set_option maxHeartbeats 2000000 in
theorem sbusy_any (who : Int) (ao : Option Addr) (n cap : Nat) (l : List Opn) (w : World) (h : ORw w (.slice ao n cap) l) (hn : l.length ≤ 1048576) (ht : ∀ x ∈ l, x.team.length ≤ 1048576) :
    Calls Try.prog 19 #[.slice ao n cap, .int .i64 who] w fun e w' => e = .returned (.int .i64 (busy l who)) ∧ Below w.heap.size w w' := by
  obtain rfl := h.len
  have k1 := fun W hW => sops_any ao l.length cap l W hW hn ht
  have HH := hidden h
  have HT := hidden ht
  have HW := hidden (fun W (hW : Below w.heap.size w W) => h.below hW)
  clear h ht
  cases hs : osB l with
  | false =>
    rw [hs] at k1
    have HN : Hid (busy l who = -1) := busy_no (fun z => by rw [osB_true z] at hs; cases hs)
    clear hs
    go_enter Try.func19, Try.ntmps19
    go_wp2_with (go_at_call 22; refine (k1 _ (HW.out _ (by repeat (first | exact Below.refl _ _ | assumption | refine st_drew ?_ | refine st_drewN ?_ _ | refine Below.setCell ?_ (by first | omega | (simp; done) | (simp; omega)) _ | refine Below.alloc ?_ (by first | omega | (simp; done) | (simp; omega)) _)))).mono ?_; rintro e w1 ⟨rfl, hb1⟩)
    go_ret
    exact ⟨by rw [HN.out]; rfl, hb1⟩
  | true =>
    rw [hs] at k1
    have hok := of_osB hs
    have HOK := hidden hok
    have hl2 := hok.1
    have HN : Hid (busy l who = busyTo l who l.length) := busy_yes hok
    clear hs hok
    go_enter Try.func19, Try.ntmps19
    go_wp2_with (go_at_call 22; refine (k1 _ (HW.out _ (by repeat (first | exact Below.refl _ _ | assumption | refine st_drew ?_ | refine st_drewN ?_ _ | refine Below.setCell ?_ (by first | omega | (simp; done) | (simp; omega)) _ | refine Below.alloc ?_ (by first | omega | (simp; done) | (simp; omega)) _)))).mono ?_; rintro e w1 ⟨rfl, hb1⟩)
    go_loopw [5, 6] (fun sv iv wr => ∃ i : Nat, i ≤ l.length ∧ iv = .int .i64 i ∧ sv = .int .i64 (busyTo l who i) ∧ Below w.heap.size w wr) (fun _ iv _ => l.length - (intOf iv).toNat)
    case atStart => exact ⟨0, Nat.zero_le _, rfl, rfl, hb1⟩
    case round =>
      clear hb1
      obtain ⟨i, hi, rfl, rfl, hb⟩ := hrel
      have hsz := hb.size
      have hbd := busyTo_bd (x := who) HOK.out i hi
      by_cases hlt : i < l.length
      · have hlti : (i : Int) < (l.length : Int) := by omega
        obtain ⟨x, hx⟩ := some_of l i hlt
        obtain ⟨g, off, ta, tc, rfl, hg, hrow, c0, c1, c2, c3⟩ := (HH.out.below hb).at hx
        have hxo := HOK.out.at hx
        obtain ⟨-, hx1, hx2, hx3, hx4⟩ := of_opB hxo
        have hB := busyTo_succ (x := who) hx
        have HR := hidden (fun W (hW : Below wr.heap.size wr W) => hrow.below hW)
        have hlx := hx4.2.1
        have hK := fun W hW => shas_any ta x.team.length tc x.team who W hW (by omega)
        clear hx hrow hx4 hxo
        generalize busyTo l who i = s at *
        cases hq : has x.team who with
        | true =>
          rw [hq] at hK hB
          simp only [if_true] at hB
          have HB := hidden hB
          clear hB hq
          go_wp2_with (go_at_call 43; refine (hK _ (HR.out _ (by repeat (first | exact Below.refl _ _ | assumption | refine st_drew ?_ | refine st_drewN ?_ _ | refine Below.setCell ?_ (by first | omega | (simp; done) | (simp; omega)) _ | refine Below.alloc ?_ (by first | omega | (simp; done) | (simp; omega)) _)))).mono ?_; rintro e w1 ⟨rfl, rfl⟩)
          go_quiet (fail)
          all_goals go_wp2_with fail
          all_goals go_roundw
          all_goals first
            | exact ⟨i + 1, by omega, rfl, by first | (rw [HB.out]; done) | (rw [HB.out]; rfl) | (rw [HB.out]; congr 1; omega), by repeat (first | exact Below.refl _ _ | assumption | refine st_drew ?_ | refine st_drewN ?_ _ | refine Below.setCell ?_ (by first | omega | (simp; done) | (simp; omega)) _ | refine Below.alloc ?_ (by first | omega | (simp; done) | (simp; omega)) _)⟩
            | (simp [intOf]; omega)
        | false =>
          rw [hq] at hK hB
          simp only [Bool.false_eq_true, if_false] at hB
          have HB := hidden hB
          clear hB hq
          go_wp2_with (go_at_call 43; refine (hK _ (HR.out _ (by repeat (first | exact Below.refl _ _ | assumption | refine st_drew ?_ | refine st_drewN ?_ _ | refine Below.setCell ?_ (by first | omega | (simp; done) | (simp; omega)) _ | refine Below.alloc ?_ (by first | omega | (simp; done) | (simp; omega)) _)))).mono ?_; rintro e w1 ⟨rfl, rfl⟩)
          all_goals go_wp2_with fail
          all_goals go_roundw
          all_goals first
            | exact ⟨i + 1, by omega, rfl, by first | (rw [HB.out]; done) | (rw [HB.out]; rfl) | (rw [HB.out]; congr 1; omega), by repeat (first | exact Below.refl _ _ | assumption | refine st_drew ?_ | refine st_drewN ?_ _ | refine Below.setCell ?_ (by first | omega | (simp; done) | (simp; omega)) _ | refine Below.alloc ?_ (by first | omega | (simp; done) | (simp; omega)) _)⟩
            | (simp [intOf]; omega)
      · have hlti : ¬ (i : Int) < (l.length : Int) := by omega
        have hil : i = l.length := by omega
        subst hil
        go_wp2_with fail
        go_ret
        exact ⟨by rw [HN.out]; rfl, hb⟩

set_option maxRecDepth 20000 in
set_option maxHeartbeats 2000000 in
theorem ibusy_any (who : Int) (ao : Option Addr) (n cap : Nat) (l : List Opn) (w : World) (h : ORw w (.slice ao n cap) l) (hn : l.length ≤ 1048576) (ht : ∀ x ∈ l, x.team.length ≤ 1048576) :
    Calls Try.prog 20 #[.slice ao n cap, .int .i64 who] w fun e w' => e = .returned (.int .i64 (busy l who)) ∧ Below w.heap.size w w' := by
  obtain rfl := h.len
  have k1 := fun W hW => iops_any ao l.length cap l W hW hn ht
  have HH := hidden h
  have HT := hidden ht
  have HW := hidden (fun W (hW : Below w.heap.size w W) => h.below hW)
  clear h ht
  cases hs : osB l with
  | false =>
    rw [hs] at k1
    have HN : Hid (busy l who = -1) := busy_no (fun z => by rw [osB_true z] at hs; cases hs)
    clear hs
    go_enter Try.func20, Try.ntmps20
    go_wp2_with (go_at_call 27; refine (k1 _ (HW.out _ (by repeat (first | exact Below.refl _ _ | assumption | refine st_drew ?_ | refine st_drewN ?_ _ | refine Below.setCell ?_ (by first | omega | (simp; done) | (simp; omega)) _ | refine Below.alloc ?_ (by first | omega | (simp; done) | (simp; omega)) _)))).mono ?_; rintro e w1 ⟨rfl, hb1⟩)
    go_ret
    exact ⟨by rw [HN.out]; rfl, hb1⟩
  | true =>
    rw [hs] at k1
    have hok := of_osB hs
    have HOK := hidden hok
    have hl2 := hok.1
    have HN : Hid (busy l who = busyTo l who l.length) := busy_yes hok
    clear hs hok
    go_enter Try.func20, Try.ntmps20
    go_wp2_with (go_at_call 27; refine (k1 _ (HW.out _ (by repeat (first | exact Below.refl _ _ | assumption | refine st_drew ?_ | refine st_drewN ?_ _ | refine Below.setCell ?_ (by first | omega | (simp; done) | (simp; omega)) _ | refine Below.alloc ?_ (by first | omega | (simp; done) | (simp; omega)) _)))).mono ?_; rintro e w1 ⟨rfl, hb1⟩)
    go_loopw [5, 7, 13] (fun sv _ iv wr => ∃ i : Nat, i ≤ l.length ∧ iv = .int .i64 i ∧ sv = .int .i64 (busyTo l who i) ∧ Below w.heap.size w wr) (fun _ _ iv _ => l.length - (intOf iv).toNat)
    case atStart => exact ⟨0, Nat.zero_le _, rfl, rfl, hb1⟩
    case round =>
      clear hb1
      obtain ⟨i, hi, rfl, rfl, hb⟩ := hrel
      have hsz := hb.size
      have hbd := busyTo_bd (x := who) HOK.out i hi
      by_cases hlt : i < l.length
      · have hlti : (i : Int) < (l.length : Int) := by omega
        obtain ⟨x, hx⟩ := some_of l i hlt
        obtain ⟨g, off, ta, tc, rfl, hg, hrow, c0, c1, c2, c3⟩ := (HH.out.below hb).at hx
        have hxo := HOK.out.at hx
        obtain ⟨-, hx1, hx2, hx3, hx4⟩ := of_opB hxo
        have hB := busyTo_succ (x := who) hx
        have HR := hidden (fun W (hW : Below wr.heap.size wr W) => hrow.below hW)
        have hlx := hx4.2.1
        have hK := fun W g1 c1 g2 c2 q1 q0 hc1 q2 q3 => sbia_any (some ⟨g1, 0, none⟩) 1 c1 [who] g2 c2 ta x.team.length tc x.team W (one_irw q1 q0 hc1) (by simp) q2 (by omega) q3
        simp only [has_one] at hK
        have z3 := three_box (Below.refl (((wr.alloc (.cells #[.int .i64 x.room, .int .i64 x.fr, .int .i64 x.to, .slice ta x.team.length tc] 31)).alloc (.cells #[.int .i64 who] 2)).alloc (.cells #[.slice ta x.team.length tc] 23)).heap.size _)
        have z1 := hidden (z3.1 0 _ rfl)
        have z2 := hidden (z3.2.1 0 _ rfl)
        clear z3
        clear hx hrow hx4 hxo
        generalize busyTo l who i = s at *
        cases hq : has x.team who with
        | true =>
          rw [hq] at hK hB
          simp only [if_true] at hB
          have HB := hidden hB
          clear hB hq
          go_wp2_with (go_at_call 44; refine (hK _ _ _ _ _ z1.out (by simp only [World.size_alloc]; omega) (Nat.le_refl _) (HR.out _ (by repeat (first | exact Below.refl _ _ | assumption | refine st_drew ?_ | refine st_drewN ?_ _ | refine Below.setCell ?_ (by first | omega | (simp; done) | (simp; omega)) _ | refine Below.alloc ?_ (by first | omega | (simp; done) | (simp; omega)) _))) z2.out).mono ?_; rintro e w1 ⟨rfl, rfl⟩)
          all_goals go_wp2_with fail
          all_goals go_roundw
          all_goals first
            | exact ⟨i + 1, by omega, rfl, by first | (rw [HB.out]; done) | (rw [HB.out]; rfl) | (rw [HB.out]; congr 1; omega), by repeat (first | exact Below.refl _ _ | assumption | refine st_drew ?_ | refine st_drewN ?_ _ | refine Below.setCell ?_ (by first | omega | (simp; done) | (simp; omega)) _ | refine Below.alloc ?_ (by first | omega | (simp; done) | (simp; omega)) _)⟩
            | (simp [intOf]; omega)
        | false =>
          rw [hq] at hK hB
          simp only [Bool.false_eq_true, if_false] at hB
          have HB := hidden hB
          clear hB hq
          go_wp2_with (go_at_call 44; refine (hK _ _ _ _ _ z1.out (by simp only [World.size_alloc]; omega) (Nat.le_refl _) (HR.out _ (by repeat (first | exact Below.refl _ _ | assumption | refine st_drew ?_ | refine st_drewN ?_ _ | refine Below.setCell ?_ (by first | omega | (simp; done) | (simp; omega)) _ | refine Below.alloc ?_ (by first | omega | (simp; done) | (simp; omega)) _))) z2.out).mono ?_; rintro e w1 ⟨rfl, rfl⟩)
          all_goals go_wp2_with fail
          all_goals go_roundw
          all_goals first
            | exact ⟨i + 1, by omega, rfl, by first | (rw [HB.out]; done) | (rw [HB.out]; rfl) | (rw [HB.out]; congr 1; omega), by repeat (first | exact Below.refl _ _ | assumption | refine st_drew ?_ | refine st_drewN ?_ _ | refine Below.setCell ?_ (by first | omega | (simp; done) | (simp; omega)) _ | refine Below.alloc ?_ (by first | omega | (simp; done) | (simp; omega)) _)⟩
            | (simp [intOf]; omega)
      · have hlti : ¬ (i : Int) < (l.length : Int) := by omega
        have hil : i = l.length := by omega
        subst hil
        go_wp2_with fail
        go_ret
        exact ⟨by rw [HN.out]; rfl, hb⟩
end Go.Proofs.Ytcfghnffacdekao
