/-
  The program's look whether a stay clashes with one of some.
-/
import Derived.Test.YtklgadaefngnnaaHd
import Derived.Deep.RegionWith
namespace Go.Proofs.Ytklgadaefngnnaa
open Go.RowKit Hm
set_option linter.unusedVariables false

/-- A stay whose bed and sex are right. -/
def fitS (nb : Nat) (s : St) : Prop := inB nb s.bed = true ∧ 1 ≤ s.sex ∧ s.sex ≤ 2
theorem fit_of {nb : Nat} {s : St} (h : stOk nb s = true) : fitS nb s := by
  unfold stOk at h
  simp only [Bool.and_eq_true] at h
  exact ⟨h.1.1.2, (sx_iff.1 h.1.1.1.1.2).1, (sx_iff.1 h.1.1.1.1.2).2⟩

set_option maxRecDepth 20000 in
set_option maxHeartbeats 2000000 in
theorem clashes_any (ao ao2 ao3 : Option Addr) (n cap m cap2 k cap3 : Nat) (B : List Bd) (s : St) (T : List St) (w : World) (h : Rw 2 csB w (.slice ao n cap) B) (hT : Rw 6 csS w (.slice ao3 k cap3) T) (hn : T.length ≤ 1048576) (hs : fitS B.length s) (hall : ∀ y ∈ T, fitS B.length y) :
    Calls Try.prog 87 #[.agg #[.slice ao n cap, .slice ao2 m cap2], aS s, .slice ao3 k cap3] w fun e w' => e = .returned (.bool (T.any (fun y => clash B y s))) ∧ Below w.heap.size w w' := by
  obtain rfl := hT.len
  obtain rfl := h.len
  have HH := hidden h
  have HT := hidden hT
  have HA := hidden hall
  obtain ⟨hs1, hs2, hs3⟩ := hs
  have hR := hidden (fun W hW => roomof_any ao ao2 B.length m cap cap2 B s W hW hs1)
  have hO := other_any (roomAt B s.bed) s.sex
  unfold aS at hR
  clear h hT hall hs1
  show Calls Try.prog _ #[_, .agg #[_, _, _, _, _, _], _] w _
  go_enter Try.func87, Try.ntmps87
  go_wp2_with (first | (go_at_call 90; refine (hR.out _ (HH.out.below (((Below.refl w.heap.size w).alloc (Nat.le_refl _) _).alloc (by simp) _))).mono ?_; rintro e w1 ⟨rfl, hb1⟩) | (go_at_call 89; refine (hO _ hs2 hs3).mono ?_; rintro e w2 ⟨rfl, hb2⟩))
  have z1 := hb1.size
  have z2 := hb2.size
  simp only [World.size_alloc] at z1
  have b0 : Below w.heap.size w w2 := ((((Below.refl w.heap.size w).alloc (Nat.le_refl _) _).alloc (by simp) _).trans (hb1.mono (by simp; omega))).trans (hb2.mono (by omega))
  have e0 : ∀ b o, b < w.heap.size + 1 + 1 → (w2.alloc (.cells #[.int .i64 (roomAt B s.bed), .int .i64 (3 - s.sex)] 124)).cell? ⟨b, o, none⟩ = ((w.alloc (.cells #[.slice ao B.length cap, .slice ao2 m cap2] 27)).alloc (.cells #[.int .i64 s.person, .int .i64 s.sex, .int .i64 s.need, .int .i64 s.bed, .int .i64 s.frm, .int .i64 s.til] 36)).cell? ⟨b, o, none⟩ := fun b o hbo => by
    rw [old_cell (by omega), (bcell hb2).1 b o (by omega), (bcell hb1).1 b o (by simp; omega)]
  have E0 := hidden e0
  have B0 := hidden b0
  clear e0 b0 hb1 hb2 hR hO
  have hz2 : w.heap.size + 1 < w2.heap.size := by omega
  clear z1 z2
  go_loopw [16] (fun iv wr => ∃ i : Nat, i ≤ T.length ∧ iv = .int .i64 i ∧ Below w.heap.size w wr ∧ w2.heap.size < wr.heap.size ∧ wr.cell? ⟨w.heap.size, 0, none⟩ = some (.slice ao B.length cap) ∧ wr.cell? ⟨w.heap.size, 1, none⟩ = some (.slice ao2 m cap2) ∧ wr.cell? ⟨w.heap.size + 1, 0, none⟩ = some (.int .i64 s.person) ∧ wr.cell? ⟨w.heap.size + 1, 3, none⟩ = some (.int .i64 s.bed) ∧ wr.cell? ⟨w2.heap.size, 0, none⟩ = some (.int .i64 (roomAt B s.bed)) ∧ wr.cell? ⟨w2.heap.size, 1, none⟩ = some (.int .i64 (3 - s.sex)) ∧ Hid ((T.take i).any (fun y => clash B y s) = false)) (fun iv _ => T.length - (intOf iv).toNat)
  case atStart => exact ⟨0, Nat.zero_le _, rfl, B0.out.alloc B0.out.size _, by simp, by rw [E0.out _ _ (by omega)]; simp [go_sem], by rw [E0.out _ _ (by omega)]; simp [go_sem], by rw [E0.out _ _ (by omega)]; simp [go_sem], by rw [E0.out _ _ (by omega)]; simp [go_sem], by simp, by simp, rfl⟩
  case round =>
    clear E0 B0
    obtain ⟨i, hi, rfl, hb, hz, f0, f1, f2, f3, f4, f5, hok⟩ := hrel
    have hsz := hb.size
    have s0 : w.heap.size < wr.heap.size := by omega
    have s1 : w.heap.size + 1 < wr.heap.size := by omega
    have s2 : w.heap.size < wr.heap.size + 1 := by omega
    have s3 : w2.heap.size < wr.heap.size + 1 := by omega
    by_cases hlt : i < T.length
    · have hlti : (i : Int) < (T.length : Int) := by omega
      obtain ⟨y, hy⟩ := some_at T i hlt
      obtain ⟨g, off, rfl, hg, c0, c1, c2, c3, c4, c5⟩ := stay_cells (HT.out.below hb) hy
      have HY := hidden (List.mem_of_getElem? hy)
      have HS := hidden (take_snoc hy)
      clear hy
      by_cases hq1 : y.bed = s.bed
      · have HR : Hid (T.any (fun y => clash B y s) = true) := List.any_eq_true.2 ⟨y, HY.out, by unfold clash; simp [hq1]⟩
        rw [hq1] at c3
        clear hq1
        go_wp2_with fail
        go_quiet (fail)
        go_wp2_with fail
        go_ret
        exact ⟨by rw [HR.out]; rfl, by repeat (first | exact Below.refl _ _ | assumption | refine st_drew ?_ | refine st_drewN ?_ _ | refine Below.setCell ?_ (by first | omega | (simp; done) | (simp; omega)) _ | refine Below.alloc ?_ (by first | omega | (simp; done) | (simp; omega)) _)⟩
      have hd1 : decide (y.bed = s.bed) = false := decide_eq_false hq1
      have he1 : (y.bed == s.bed) = false := by simpa using hq1
      by_cases hq2 : y.person = s.person
      · have HR : Hid (T.any (fun y => clash B y s) = true) := List.any_eq_true.2 ⟨y, HY.out, by unfold clash; simp [hq2]⟩
        rw [hq2] at c0
        clear hq2
        go_wp2_with fail
        go_quiet (fail)
        go_wp2_with fail
        go_ret
        exact ⟨by rw [HR.out]; rfl, by repeat (first | exact Below.refl _ _ | assumption | refine st_drew ?_ | refine st_drewN ?_ _ | refine Below.setCell ?_ (by first | omega | (simp; done) | (simp; omega)) _ | refine Below.alloc ?_ (by first | omega | (simp; done) | (simp; omega)) _)⟩
      have hd2 : decide (y.person = s.person) = false := decide_eq_false hq2
      have he2 : (y.person == s.person) = false := by simpa using hq2
      obtain ⟨q1, q2, q3⟩ := HA.out y HY.out
      have hR := hidden (fun W hW => roomof_any ao ao2 B.length m cap cap2 B y W hW q1)
      have HB := hidden (fun W (hW : Below w.heap.size w W) => HH.out.below hW)
      unfold aS at hR
      have HQ : Hid (clash B y s = (decide (roomAt B y.bed = roomAt B s.bed) && !decide (y.sex = s.sex))) := by unfold clash; rw [Hid, hd1, hd2]; rfl
      clear hq1 hq2 hd1 hd2 q1
      generalize roomAt B y.bed = ry at *
      generalize roomAt B s.bed = rs at *
      by_cases hq3 : ry = rs
      · by_cases hq4 : y.sex = 3 - s.sex
        · have HR : Hid (T.any (fun y => clash B y s) = true) := List.any_eq_true.2 ⟨y, HY.out, by rw [HQ.out, decide_eq_true hq3, decide_eq_false (by omega)]; rfl⟩
          have he3 : (ry == rs) = true := by simpa using hq3
          have he4 : (y.sex == 3 - s.sex) = true := by simpa using hq4
          clear hq3 hq4
          go_wp2_with fail
          first
            | go_region_held3 (fun w' => w'.cell? ⟨w.heap.size, 0, none⟩ = some (.slice ao B.length cap) ∧ w'.cell? ⟨w.heap.size, 1, none⟩ = some (.slice ao2 m cap2) ∧ w'.cell? ⟨w.heap.size + 1, 0, none⟩ = some (.int .i64 s.person) ∧ w'.cell? ⟨w.heap.size + 1, 3, none⟩ = some (.int .i64 s.bed) ∧ w'.cell? ⟨w2.heap.size, 0, none⟩ = some (.int .i64 rs) ∧ w'.cell? ⟨w2.heap.size, 1, none⟩ = some (.int .i64 (3 - s.sex)) ∧ w'.cell? ⟨wr.heap.size, 0, none⟩ = some (.int .i64 y.person) ∧ w'.cell? ⟨wr.heap.size, 1, none⟩ = some (.int .i64 y.sex) ∧ w'.cell? ⟨wr.heap.size, 2, none⟩ = some (.int .i64 y.need) ∧ w'.cell? ⟨wr.heap.size, 3, none⟩ = some (.int .i64 y.bed) ∧ w'.cell? ⟨wr.heap.size, 4, none⟩ = some (.int .i64 y.frm) ∧ w'.cell? ⟨wr.heap.size, 5, none⟩ = some (.int .i64 y.til)) (go_keep) ((go_at_call 90; refine (hR.out _ (HB.out _ (by repeat (first | exact Below.refl _ _ | assumption | refine st_drew ?_ | refine st_drewN ?_ _ | refine Below.setCell ?_ (by first | omega | (simp; done) | (simp; omega)) _ | refine Below.alloc ?_ (by first | omega | (simp; done) | (simp; omega)) _)))).mono ?_; rintro e w3 ⟨rfl, hb3⟩; obtain ⟨hc3, hf3⟩ := bcell hb3; have bA := onto (show Below w.heap.size w _ from by repeat (first | exact Below.refl _ _ | assumption | refine st_drew ?_ | refine st_drewN ?_ _ | refine Below.setCell ?_ (by first | omega | (simp; done) | (simp; omega)) _ | refine Below.alloc ?_ (by first | omega | (simp; done) | (simp; omega)) _)) hb3))
            | fail
          all_goals go_wp2_with fail
          all_goals go_ret
          all_goals exact ⟨by rw [HR.out]; rfl, by repeat (first | exact Below.refl _ _ | assumption | refine st_drew ?_ | refine st_drewN ?_ _ | refine Below.setCell ?_ (by first | omega | (simp; done) | (simp; omega)) _ | refine Below.alloc ?_ (by first | omega | (simp; done) | (simp; omega)) _)⟩
        · have HN : Hid ((T.take (i + 1)).any (fun y => clash B y s) = false) := by rw [Hid, HS.out, List.any_append, hok.out]; simp [HQ.out]; omega
          have he3 : (ry == rs) = true := by simpa using hq3
          have he4 : (y.sex == 3 - s.sex) = false := by simpa using hq4
          clear hq3 hq4
          go_wp2_with fail
          first
            | go_region_held3 (fun w' => w'.cell? ⟨w.heap.size, 0, none⟩ = some (.slice ao B.length cap) ∧ w'.cell? ⟨w.heap.size, 1, none⟩ = some (.slice ao2 m cap2) ∧ w'.cell? ⟨w.heap.size + 1, 0, none⟩ = some (.int .i64 s.person) ∧ w'.cell? ⟨w.heap.size + 1, 3, none⟩ = some (.int .i64 s.bed) ∧ w'.cell? ⟨w2.heap.size, 0, none⟩ = some (.int .i64 rs) ∧ w'.cell? ⟨w2.heap.size, 1, none⟩ = some (.int .i64 (3 - s.sex)) ∧ w'.cell? ⟨wr.heap.size, 0, none⟩ = some (.int .i64 y.person) ∧ w'.cell? ⟨wr.heap.size, 1, none⟩ = some (.int .i64 y.sex) ∧ w'.cell? ⟨wr.heap.size, 2, none⟩ = some (.int .i64 y.need) ∧ w'.cell? ⟨wr.heap.size, 3, none⟩ = some (.int .i64 y.bed) ∧ w'.cell? ⟨wr.heap.size, 4, none⟩ = some (.int .i64 y.frm) ∧ w'.cell? ⟨wr.heap.size, 5, none⟩ = some (.int .i64 y.til)) (go_keep) ((go_at_call 90; refine (hR.out _ (HB.out _ (by repeat (first | exact Below.refl _ _ | assumption | refine st_drew ?_ | refine st_drewN ?_ _ | refine Below.setCell ?_ (by first | omega | (simp; done) | (simp; omega)) _ | refine Below.alloc ?_ (by first | omega | (simp; done) | (simp; omega)) _)))).mono ?_; rintro e w3 ⟨rfl, hb3⟩; obtain ⟨hc3, hf3⟩ := bcell hb3; have bA := onto (show Below w.heap.size w _ from by repeat (first | exact Below.refl _ _ | assumption | refine st_drew ?_ | refine st_drewN ?_ _ | refine Below.setCell ?_ (by first | omega | (simp; done) | (simp; omega)) _ | refine Below.alloc ?_ (by first | omega | (simp; done) | (simp; omega)) _)) hb3))
            | fail
          all_goals go_wp2_with fail
          all_goals (have z3 := hb3.size; simp at z3)
          all_goals go_roundw
          all_goals first
            | (simp [intOf]; omega)
            | exact ⟨i + 1, by omega, rfl, by repeat (first | exact Below.refl _ _ | assumption | refine st_drew ?_ | refine st_drewN ?_ _ | refine Below.setCell ?_ (by first | omega | (simp; done) | (simp; omega)) _ | refine Below.alloc ?_ (by first | omega | (simp; done) | (simp; omega)) _), by first | omega | (simp; omega), (hc3 _ _ (by simp; omega)).trans ((old_cell s0 _ _).trans f0), (hc3 _ _ (by simp; omega)).trans ((old_cell s0 _ _).trans f1), (hc3 _ _ (by simp; omega)).trans ((old_cell s1 _ _).trans f2), (hc3 _ _ (by simp; omega)).trans ((old_cell s1 _ _).trans f3), (hc3 _ _ (by simp; omega)).trans ((old_cell hz _ _).trans f4), (hc3 _ _ (by simp; omega)).trans ((old_cell hz _ _).trans f5), HN⟩
      · have HN : Hid ((T.take (i + 1)).any (fun y => clash B y s) = false) := by rw [Hid, HS.out, List.any_append, hok.out]; simp [HQ.out, hq3]
        have he3 : (ry == rs) = false := by simpa using hq3
        clear hq3
        go_wp2_with fail
        first
          | go_region_held3 (fun w' => w'.cell? ⟨w.heap.size, 0, none⟩ = some (.slice ao B.length cap) ∧ w'.cell? ⟨w.heap.size, 1, none⟩ = some (.slice ao2 m cap2) ∧ w'.cell? ⟨w.heap.size + 1, 0, none⟩ = some (.int .i64 s.person) ∧ w'.cell? ⟨w.heap.size + 1, 3, none⟩ = some (.int .i64 s.bed) ∧ w'.cell? ⟨w2.heap.size, 0, none⟩ = some (.int .i64 rs) ∧ w'.cell? ⟨w2.heap.size, 1, none⟩ = some (.int .i64 (3 - s.sex)) ∧ w'.cell? ⟨wr.heap.size, 0, none⟩ = some (.int .i64 y.person) ∧ w'.cell? ⟨wr.heap.size, 1, none⟩ = some (.int .i64 y.sex) ∧ w'.cell? ⟨wr.heap.size, 2, none⟩ = some (.int .i64 y.need) ∧ w'.cell? ⟨wr.heap.size, 3, none⟩ = some (.int .i64 y.bed) ∧ w'.cell? ⟨wr.heap.size, 4, none⟩ = some (.int .i64 y.frm) ∧ w'.cell? ⟨wr.heap.size, 5, none⟩ = some (.int .i64 y.til)) (go_keep) ((go_at_call 90; refine (hR.out _ (HB.out _ (by repeat (first | exact Below.refl _ _ | assumption | refine st_drew ?_ | refine st_drewN ?_ _ | refine Below.setCell ?_ (by first | omega | (simp; done) | (simp; omega)) _ | refine Below.alloc ?_ (by first | omega | (simp; done) | (simp; omega)) _)))).mono ?_; rintro e w3 ⟨rfl, hb3⟩; obtain ⟨hc3, hf3⟩ := bcell hb3; have bA := onto (show Below w.heap.size w _ from by repeat (first | exact Below.refl _ _ | assumption | refine st_drew ?_ | refine st_drewN ?_ _ | refine Below.setCell ?_ (by first | omega | (simp; done) | (simp; omega)) _ | refine Below.alloc ?_ (by first | omega | (simp; done) | (simp; omega)) _)) hb3))
          | fail
        all_goals go_wp2_with fail
        all_goals (have z3 := hb3.size; simp at z3)
        all_goals go_roundw
        all_goals first
          | (simp [intOf]; omega)
          | exact ⟨i + 1, by omega, rfl, by repeat (first | exact Below.refl _ _ | assumption | refine st_drew ?_ | refine st_drewN ?_ _ | refine Below.setCell ?_ (by first | omega | (simp; done) | (simp; omega)) _ | refine Below.alloc ?_ (by first | omega | (simp; done) | (simp; omega)) _), by first | omega | (simp; omega), (hc3 _ _ (by simp; omega)).trans ((old_cell s0 _ _).trans f0), (hc3 _ _ (by simp; omega)).trans ((old_cell s0 _ _).trans f1), (hc3 _ _ (by simp; omega)).trans ((old_cell s1 _ _).trans f2), (hc3 _ _ (by simp; omega)).trans ((old_cell s1 _ _).trans f3), (hc3 _ _ (by simp; omega)).trans ((old_cell hz _ _).trans f4), (hc3 _ _ (by simp; omega)).trans ((old_cell hz _ _).trans f5), HN⟩
    · have hlti : ¬ (i : Int) < (T.length : Int) := by omega
      have hil : i = T.length := by omega
      subst hil
      have HR : Hid (T.any (fun y => clash B y s) = false) := by have := hok.out; rw [List.take_length] at this; exact this
      go_wp2_with fail
      go_ret
      exact ⟨by rw [HR.out]; rfl, hb⟩

end Go.Proofs.Ytklgadaefngnnaa
