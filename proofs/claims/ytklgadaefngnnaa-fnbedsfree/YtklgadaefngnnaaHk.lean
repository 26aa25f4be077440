/-
  A bed that is free, the program's.
-/
import Derived.Test.YtklgadaefngnnaaHi
import Derived.Test.YtklgadaefngnnaaHn
namespace Go.Proofs.Ytklgadaefngnnaa
open Go.RowKit Hm
set_option linter.unusedVariables false

theorem fitS_of {nb : Nat} {S : List St} (h : fits nb S) {y : St} (hy : y ∈ S) (hh : here y = true) : fitS nb y := by
  obtain ⟨h1, h2, h3⟩ := h y hy hh
  exact ⟨inB_iff.2 h1, h2, h3⟩

set_option maxRecDepth 20000 in
set_option maxHeartbeats 4000000 in
theorem isfree_any (ao ao2 : Option Addr) (n cap m cap2 : Nat) (B : List Bd) (S : List St) (kb : Nat) (sex need : Int) (w : World) (h : HRw w (.slice ao n cap) (.slice ao2 m cap2) B S) (hm : S.length ≤ 1048576) (hf : fits B.length S) (hkb : kb < B.length) (hs1 : 1 ≤ sex) (hs2 : sex ≤ 2) :
    Calls Try.prog 53 #[.agg #[.slice ao n cap, .slice ao2 m cap2], .int .i64 kb, .int .i64 sex, .int .i64 need] w fun e w' => e = .returned (.bool (isFr B S sex need kb)) ∧ Below w.heap.size w w' := by
  obtain ⟨hB, hS⟩ := h
  obtain rfl := hB.len
  obtain rfl := hS.len
  have HB := hidden hB
  have HS := hidden hS
  have HF := hidden hf
  obtain ⟨b, hbk⟩ := some_at B kb hkb
  obtain ⟨g2, off2, rfl, hg2, e0, e1⟩ := bed_cells hB hbk
  have HR := hidden (roomAt_nat hbk)
  have HK := hidden (kindAt_nat hbk)
  have hklt : (kb : Int) < (B.length : Int) := by omega
  have hO := fun W => other_any b.room sex W hs1 hs2
  have hD := idoes_any b.kind need
  obtain ⟨o1, o2, o3⟩ := old_cells hg2
  clear hB hS hf hbk
  go_enter Try.func53, Try.ntmps53
  go_wp2_with (go_at_call 89; refine (hO _).mono ?_; rintro e w1 ⟨rfl, hb1⟩; obtain ⟨hc1, hf1⟩ := bcell hb1; have z1 := hb1.size; simp only [World.size_alloc] at z1; have z1' : w.heap.size < w1.heap.size := by omega)
  have b0 : Below w.heap.size w w1 := ((Below.refl w.heap.size w).alloc (Nat.le_refl _) _).trans (hb1.mono (by simp))
  have B0 := hidden b0
  have e00 : (w1.alloc (.cells #[.int .i64 b.room, .int .i64 (3 - sex)] 124)).cell? ⟨w.heap.size, 0, none⟩ = some (.slice (some ⟨g2, off2, none⟩) B.length cap) := by rw [old_cell z1', hc1 _ _ (by simp)]; simp
  have e01 : (w1.alloc (.cells #[.int .i64 b.room, .int .i64 (3 - sex)] 124)).cell? ⟨w.heap.size, 1, none⟩ = some (.slice ao2 S.length cap2) := by rw [old_cell z1', hc1 _ _ (by simp)]; simp
  have E0 := hidden e00
  have E1 := hidden e01
  clear b0 e00 e01 hc1 hf1 hb1 hO o1 o2 o3 z1
  go_loopw [24] (fun iv wr => ∃ i : Nat, i ≤ S.length ∧ iv = .int .i64 i ∧ Below w.heap.size w wr ∧ w1.heap.size < wr.heap.size ∧ wr.cell? ⟨w.heap.size, 0, none⟩ = some (.slice (some ⟨g2, off2, none⟩) B.length cap) ∧ wr.cell? ⟨w.heap.size, 1, none⟩ = some (.slice ao2 S.length cap2) ∧ wr.cell? ⟨w1.heap.size, 0, none⟩ = some (.int .i64 b.room) ∧ wr.cell? ⟨w1.heap.size, 1, none⟩ = some (.int .i64 (3 - sex)) ∧ Hid ((S.take i).any (taken B kb sex) = false)) (fun iv _ => S.length - (intOf iv).toNat)
  case atStart => exact ⟨0, Nat.zero_le _, rfl, B0.out.alloc B0.out.size _, by simp, E0.out, E1.out, by simp, by simp, rfl⟩
  case round =>
    clear E0 E1 B0
    obtain ⟨i, hi, rfl, hb, hz, f0, f1, f4, f5, hok⟩ := hrel
    have hsz := hb.size
    have s0 : w.heap.size < wr.heap.size := by omega
    have s2 : w.heap.size < wr.heap.size + 1 := by omega
    have s3 : w1.heap.size < wr.heap.size + 1 := by omega
    have hg2r : g2 < wr.heap.size := by omega
    have e0r := (hb.cell (p := ⟨g2, off2 + kb * 2, none⟩) hg2).trans e0
    have e1r := (hb.cell (p := ⟨g2, off2 + kb * 2 + 1, none⟩) hg2).trans e1
    by_cases hlt : i < S.length
    · have hlti : (i : Int) < (S.length : Int) := by omega
      obtain ⟨y, hy⟩ := some_at S i hlt
      obtain ⟨g, off, rfl, hg, c0, c1, c2, c3, c4, c5⟩ := stay_cells (HS.out.below hb) hy
      have HY := hidden (List.mem_of_getElem? hy)
      have HT := hidden (take_snoc hy)
      have HNO : Hid (taken B kb sex y = true → isFr B S sex need kb = false) := fun q => by unfold isFr; rw [List.any_eq_true.2 ⟨y, HY.out, q⟩]; simp
      have HGO : Hid (taken B kb sex y = false → (S.take (i + 1)).any (taken B kb sex) = false) := fun q => by rw [HT.out, List.any_append, hok.out]; simp [q]
      clear hy hok
      by_cases q0 : y.til = -1
      · have HH : Hid (here y = true) := by unfold here Hid; simpa using q0
        have hfy := fitS_of HF.out HY.out HH.out
        by_cases q1 : y.bed = (kb : Int)
        · have hno : Hid (isFr B S sex need kb = false) := HNO.out (by unfold taken; rw [HH.out, decide_eq_true q1]; rfl)
          rw [q1] at c3
          rw [q0] at c5
          clear q1 q0 hfy
          go_wp2_with fail
          go_quiet (fail)
          go_wp2_with fail
          go_ret
          exact ⟨by rw [hno.out]; rfl, by repeat (first | exact Below.refl _ _ | assumption | refine st_drew ?_ | refine st_drewN ?_ _ | refine Below.setCell ?_ (by first | omega | (simp; done) | (simp; omega)) _ | refine Below.alloc ?_ (by first | omega | (simp; done) | (simp; omega)) _)⟩
        have n1 : (y.bed == (kb : Int)) = false := by simpa using q1
        have hR := hidden (fun W hW => roomof_any (some ⟨g2, off2, none⟩) (some ⟨g, off, none⟩) B.length S.length cap cap2 B y W hW hfy.1)
        have HBW := hidden (fun W (hW : Below w.heap.size w W) => HB.out.below hW)
        have HQ : Hid (taken B kb sex y = (decide (roomAt B y.bed = b.room) && !decide (y.sex = sex))) := by unfold taken; rw [Hid, HH.out, decide_eq_false q1, HR.out]; rfl
        have y1 := hfy.2.1
        have y2 := hfy.2.2
        unfold aS at hR
        rw [q0] at hR c5
        clear q1 q0 hfy
        generalize roomAt B y.bed = ry at *
        by_cases q3 : ry = b.room
        · have n3 : (ry == b.room) = true := by simpa using q3
          by_cases q4 : y.sex = 3 - sex
          · have hno : Hid (isFr B S sex need kb = false) := HNO.out (by rw [HQ.out, decide_eq_true q3, decide_eq_false (by omega)]; rfl)
            have n4 : (y.sex == 3 - sex) = true := by simpa using q4
            clear q3 q4
            go_wp2_with fail
            first
              | go_region_held3 (fun w' => w'.cell? ⟨w.heap.size, 0, none⟩ = some (.slice (some ⟨g2, off2, none⟩) B.length cap) ∧ w'.cell? ⟨w.heap.size, 1, none⟩ = some (.slice (some ⟨g, off, none⟩) S.length cap2) ∧ w'.cell? ⟨w1.heap.size, 0, none⟩ = some (.int .i64 b.room) ∧ w'.cell? ⟨w1.heap.size, 1, none⟩ = some (.int .i64 (3 - sex)) ∧ w'.cell? ⟨wr.heap.size, 0, none⟩ = some (.int .i64 y.person) ∧ w'.cell? ⟨wr.heap.size, 1, none⟩ = some (.int .i64 y.sex) ∧ w'.cell? ⟨wr.heap.size, 2, none⟩ = some (.int .i64 y.need) ∧ w'.cell? ⟨wr.heap.size, 3, none⟩ = some (.int .i64 y.bed) ∧ w'.cell? ⟨wr.heap.size, 4, none⟩ = some (.int .i64 y.frm) ∧ w'.cell? ⟨wr.heap.size, 5, none⟩ = some (.int .i64 (-1))) (go_keep) ((go_at_call 90; refine (hR.out _ (HBW.out _ (by repeat (first | exact Below.refl _ _ | assumption | refine st_drew ?_ | refine st_drewN ?_ _ | refine Below.setCell ?_ (by first | omega | (simp; done) | (simp; omega)) _ | refine Below.alloc ?_ (by first | omega | (simp; done) | (simp; omega)) _)))).mono ?_; rintro e w3 ⟨rfl, hb3⟩; obtain ⟨hc3, hf3⟩ := bcell hb3; have bA := onto (show Below w.heap.size w _ from by repeat (first | exact Below.refl _ _ | assumption | refine st_drew ?_ | refine st_drewN ?_ _ | refine Below.setCell ?_ (by first | omega | (simp; done) | (simp; omega)) _ | refine Below.alloc ?_ (by first | omega | (simp; done) | (simp; omega)) _)) hb3))
              | fail
            all_goals go_wp2_with fail
            all_goals go_ret
            all_goals exact ⟨by rw [hno.out]; rfl, by repeat (first | exact Below.refl _ _ | assumption | refine st_drew ?_ | refine st_drewN ?_ _ | refine Below.setCell ?_ (by first | omega | (simp; done) | (simp; omega)) _ | refine Below.alloc ?_ (by first | omega | (simp; done) | (simp; omega)) _)⟩
          · have HN := hidden (HGO.out (by rw [HQ.out, decide_eq_true (show y.sex = sex by omega)]; simp))
            have n4 : (y.sex == 3 - sex) = false := by simpa using q4
            clear q3 q4
            go_wp2_with fail
            first
              | go_region_held3 (fun w' => w'.cell? ⟨w.heap.size, 0, none⟩ = some (.slice (some ⟨g2, off2, none⟩) B.length cap) ∧ w'.cell? ⟨w.heap.size, 1, none⟩ = some (.slice (some ⟨g, off, none⟩) S.length cap2) ∧ w'.cell? ⟨w1.heap.size, 0, none⟩ = some (.int .i64 b.room) ∧ w'.cell? ⟨w1.heap.size, 1, none⟩ = some (.int .i64 (3 - sex)) ∧ w'.cell? ⟨wr.heap.size, 0, none⟩ = some (.int .i64 y.person) ∧ w'.cell? ⟨wr.heap.size, 1, none⟩ = some (.int .i64 y.sex) ∧ w'.cell? ⟨wr.heap.size, 2, none⟩ = some (.int .i64 y.need) ∧ w'.cell? ⟨wr.heap.size, 3, none⟩ = some (.int .i64 y.bed) ∧ w'.cell? ⟨wr.heap.size, 4, none⟩ = some (.int .i64 y.frm) ∧ w'.cell? ⟨wr.heap.size, 5, none⟩ = some (.int .i64 (-1))) (go_keep) ((go_at_call 90; refine (hR.out _ (HBW.out _ (by repeat (first | exact Below.refl _ _ | assumption | refine st_drew ?_ | refine st_drewN ?_ _ | refine Below.setCell ?_ (by first | omega | (simp; done) | (simp; omega)) _ | refine Below.alloc ?_ (by first | omega | (simp; done) | (simp; omega)) _)))).mono ?_; rintro e w3 ⟨rfl, hb3⟩; obtain ⟨hc3, hf3⟩ := bcell hb3; have bA := onto (show Below w.heap.size w _ from by repeat (first | exact Below.refl _ _ | assumption | refine st_drew ?_ | refine st_drewN ?_ _ | refine Below.setCell ?_ (by first | omega | (simp; done) | (simp; omega)) _ | refine Below.alloc ?_ (by first | omega | (simp; done) | (simp; omega)) _)) hb3))
              | fail
            all_goals go_wp2_with fail
            all_goals (have z3 := hb3.size; simp at z3)
            all_goals go_roundw
            all_goals first
              | (simp [intOf]; omega)
              | exact ⟨i + 1, by omega, rfl, by repeat (first | exact Below.refl _ _ | assumption | refine st_drew ?_ | refine st_drewN ?_ _ | refine Below.setCell ?_ (by first | omega | (simp; done) | (simp; omega)) _ | refine Below.alloc ?_ (by first | omega | (simp; done) | (simp; omega)) _), by first | omega | (simp; omega), (hc3 _ _ (by simp; omega)).trans ((old_cell s0 _ _).trans f0), (hc3 _ _ (by simp; omega)).trans ((old_cell s0 _ _).trans f1), (hc3 _ _ (by simp; omega)).trans ((old_cell hz _ _).trans f4), (hc3 _ _ (by simp; omega)).trans ((old_cell hz _ _).trans f5), HN⟩
        · have HN := hidden (HGO.out (by rw [HQ.out, decide_eq_false q3]; rfl))
          have n3 : (ry == b.room) = false := by simpa using q3
          clear q3
          go_wp2_with fail
          first
            | go_region_held3 (fun w' => w'.cell? ⟨w.heap.size, 0, none⟩ = some (.slice (some ⟨g2, off2, none⟩) B.length cap) ∧ w'.cell? ⟨w.heap.size, 1, none⟩ = some (.slice (some ⟨g, off, none⟩) S.length cap2) ∧ w'.cell? ⟨w1.heap.size, 0, none⟩ = some (.int .i64 b.room) ∧ w'.cell? ⟨w1.heap.size, 1, none⟩ = some (.int .i64 (3 - sex)) ∧ w'.cell? ⟨wr.heap.size, 0, none⟩ = some (.int .i64 y.person) ∧ w'.cell? ⟨wr.heap.size, 1, none⟩ = some (.int .i64 y.sex) ∧ w'.cell? ⟨wr.heap.size, 2, none⟩ = some (.int .i64 y.need) ∧ w'.cell? ⟨wr.heap.size, 3, none⟩ = some (.int .i64 y.bed) ∧ w'.cell? ⟨wr.heap.size, 4, none⟩ = some (.int .i64 y.frm) ∧ w'.cell? ⟨wr.heap.size, 5, none⟩ = some (.int .i64 (-1))) (go_keep) ((go_at_call 90; refine (hR.out _ (HBW.out _ (by repeat (first | exact Below.refl _ _ | assumption | refine st_drew ?_ | refine st_drewN ?_ _ | refine Below.setCell ?_ (by first | omega | (simp; done) | (simp; omega)) _ | refine Below.alloc ?_ (by first | omega | (simp; done) | (simp; omega)) _)))).mono ?_; rintro e w3 ⟨rfl, hb3⟩; obtain ⟨hc3, hf3⟩ := bcell hb3; have bA := onto (show Below w.heap.size w _ from by repeat (first | exact Below.refl _ _ | assumption | refine st_drew ?_ | refine st_drewN ?_ _ | refine Below.setCell ?_ (by first | omega | (simp; done) | (simp; omega)) _ | refine Below.alloc ?_ (by first | omega | (simp; done) | (simp; omega)) _)) hb3))
            | fail
          all_goals go_wp2_with fail
          all_goals (have z3 := hb3.size; simp at z3)
          all_goals go_roundw
          all_goals first
            | (simp [intOf]; omega)
            | exact ⟨i + 1, by omega, rfl, by repeat (first | exact Below.refl _ _ | assumption | refine st_drew ?_ | refine st_drewN ?_ _ | refine Below.setCell ?_ (by first | omega | (simp; done) | (simp; omega)) _ | refine Below.alloc ?_ (by first | omega | (simp; done) | (simp; omega)) _), by first | omega | (simp; omega), (hc3 _ _ (by simp; omega)).trans ((old_cell s0 _ _).trans f0), (hc3 _ _ (by simp; omega)).trans ((old_cell s0 _ _).trans f1), (hc3 _ _ (by simp; omega)).trans ((old_cell hz _ _).trans f4), (hc3 _ _ (by simp; omega)).trans ((old_cell hz _ _).trans f5), HN⟩
      · have HN := hidden (HGO.out (by unfold taken here; rw [decide_eq_false q0]; rfl))
        have n0 : (y.til == -1) = false := by simpa using q0
        go_wp2_with fail
        go_quiet (fail)
        go_wp2_with fail
        go_roundw
        case rel => exact ⟨i + 1, by omega, rfl, by repeat (first | exact Below.refl _ _ | assumption | refine st_drew ?_ | refine st_drewN ?_ _ | refine Below.setCell ?_ (by first | omega | (simp; done) | (simp; omega)) _ | refine Below.alloc ?_ (by first | omega | (simp; done) | (simp; omega)) _), by show w1.heap.size < (wr.alloc _).heap.size; simp; omega, (old_cell s0 _ _).trans f0, (old_cell s0 _ _).trans f1, (old_cell hz _ _).trans f4, (old_cell hz _ _).trans f5, HN⟩
        case measure => simp [intOf]; omega
    · have hlti : ¬ (i : Int) < (S.length : Int) := by omega
      have hil : i = S.length := by omega
      subst hil
      have HRES : Hid (isFr B S sex need kb = does b.kind need) := by
        have := hok.out
        rw [List.take_length] at this
        unfold isFr
        rw [Hid, this, HK.out]
        simp
      generalize does b.kind need = t at *
      go_wp2_with (go_at_call 86; refine (hD _).mono ?_; rintro e w3 ⟨rfl, rfl⟩)
      go_ret
      exact ⟨ret_bool (by rw [HRES.out]), hb⟩

end Go.Proofs.Ytklgadaefngnnaa
