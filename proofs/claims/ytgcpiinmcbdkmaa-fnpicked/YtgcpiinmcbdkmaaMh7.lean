/-
  Merged: Q14.
-/
import Derived.Test.YtgcpiinmcbdkmaaMh6
namespace Go.Proofs.Ytgcpiinmcbdkmaa
open Go.RowKit Va Bl
set_option linter.all false
theorem forB_alone {st fr : Int} (h : st = 1 ∨ st = 4) : forB st fr = decide (fr = -1) := by
  rcases h with rfl | rfl <;> simp [forB, rng]
theorem forB_per {st fr : Int} (h : st = 2 ∨ st = 3) : forB st fr = perB fr := by
  rcases h with rfl | rfl <;> simp [forB, rng]
theorem forB_no {st fr : Int} (h1 : ¬ st = 1) (h2 : ¬ st = 2) (h3 : ¬ st = 3) (h4 : ¬ st = 4) : forB st fr = false := by
  have : rng st 1 4 = false := by simp [rng]; omega
  rw [forB, this]; rfl
set_option maxRecDepth 20000 in
set_option maxHeartbeats 2000000 in
theorem ifor_any (x : Ut) (tv : Value) (w : World) : Calls Try.prog 119 #[aU x tv] w fun e w' => e = .returned (.bool (forB x.st x.fr)) ∧ Below w.heap.size w w' := by
  have k := iper_any x.fr
  unfold aU
  obtain ⟨id, grp, ant, til, st, fr⟩ := x
  dsimp only at *
  by_cases h1 : st = 1
  · subst h1
    have HE := hidden (forB_alone (st := 1) (fr := fr) (Or.inl rfl))
    go_enter Try.func119, Try.ntmps119
    go_wp2_with fail
    all_goals go_ret
    all_goals exact ⟨ret_boolQ (by rw [HE.out]; first | rfl | exact (by first | (simp; done) | (simp; omega) | (simp_all; done) | (simp_all; omega) | (rw [Bool.eq_iff_iff]; simp; omega) | (rw [Bool.eq_iff_iff]; simp_all; omega))), by repeat (first | exact Below.refl _ _ | assumption | refine st_drew ?_ | refine st_drewN ?_ _ | refine Below.setCell ?_ (by first | omega | (simp; done) | (simp; omega)) _ | refine Below.alloc ?_ (by first | omega | (simp; done) | (simp; omega)) _)⟩
  by_cases h4 : st = 4
  · subst h4
    have HE := hidden (forB_alone (st := 4) (fr := fr) (Or.inr rfl))
    go_enter Try.func119, Try.ntmps119
    go_wp2_with fail
    all_goals go_ret
    all_goals exact ⟨ret_boolQ (by rw [HE.out]; first | rfl | exact (by first | (simp; done) | (simp; omega) | (simp_all; done) | (simp_all; omega) | (rw [Bool.eq_iff_iff]; simp; omega) | (rw [Bool.eq_iff_iff]; simp_all; omega))), by repeat (first | exact Below.refl _ _ | assumption | refine st_drew ?_ | refine st_drewN ?_ _ | refine Below.setCell ?_ (by first | omega | (simp; done) | (simp; omega)) _ | refine Below.alloc ?_ (by first | omega | (simp; done) | (simp; omega)) _)⟩
  by_cases h2 : st = 2
  · subst h2
    have HE := hidden (forB_per (st := 2) (fr := fr) (Or.inl rfl))
    go_enter Try.func119, Try.ntmps119
    go_wp2_with (go_at_call 79; refine (k _).mono ?_; rintro e w1 ⟨rfl, rfl⟩)
    all_goals go_ret
    all_goals exact ⟨ret_boolQ HE.out.symm, by repeat (first | exact Below.refl _ _ | assumption | refine st_drew ?_ | refine st_drewN ?_ _ | refine Below.setCell ?_ (by first | omega | (simp; done) | (simp; omega)) _ | refine Below.alloc ?_ (by first | omega | (simp; done) | (simp; omega)) _)⟩
  by_cases h3 : st = 3
  · subst h3
    have HE := hidden (forB_per (st := 3) (fr := fr) (Or.inr rfl))
    go_enter Try.func119, Try.ntmps119
    go_wp2_with (go_at_call 79; refine (k _).mono ?_; rintro e w1 ⟨rfl, rfl⟩)
    all_goals go_ret
    all_goals exact ⟨ret_boolQ HE.out.symm, by repeat (first | exact Below.refl _ _ | assumption | refine st_drew ?_ | refine st_drewN ?_ _ | refine Below.setCell ?_ (by first | omega | (simp; done) | (simp; omega)) _ | refine Below.alloc ?_ (by first | omega | (simp; done) | (simp; omega)) _)⟩
  have HE := hidden (forB_no (fr := fr) h1 h2 h3 h4)
  go_enter Try.func119, Try.ntmps119
  go_wp2_with fail
  all_goals go_ret
  all_goals exact ⟨ret_boolQ HE.out.symm, by repeat (first | exact Below.refl _ _ | assumption | refine st_drew ?_ | refine st_drewN ?_ _ | refine Below.setCell ?_ (by first | omega | (simp; done) | (simp; omega)) _ | refine Below.alloc ?_ (by first | omega | (simp; done) | (simp; omega)) _)⟩
set_option maxRecDepth 20000 in
set_option maxHeartbeats 4000000 in
theorem iright_any (x : Ut) (ta : Option Addr) (n tc : Nat) (w : World) (h : IRw w (.slice ta n tc) x.ant) (hn : x.ant.length ≤ 1048576) :
    Calls Try.prog 78 #[aU x (.slice ta n tc)] w fun e w' => e = .returned (.bool (unitB x)) ∧ Below w.heap.size w w' := by
  have k1 := iunit_any x.id
  have k2 := igroup_any x.grp
  have k3 := fun W hW => iants_any ta n tc x.ant W hW hn
  have k4 := itime_any x.til
  have k5 := ifor_any x (.slice ta n tc)
  have HH := hidden (fun W (hW : Below w.heap.size w W) => h.below hW)
  clear h
  unfold unitB aU at *
  generalize rng x.id 1 1000000 = t1 at *
  generalize rng x.grp 0 7 = t2 at *
  generalize antB x.ant = t3 at *
  generalize tmv x.til = t4 at *
  generalize forB x.st x.fr = t5 at *
  rcases t1 with _ | _
  · go_enter Try.func78, Try.ntmps78
    go_wp2_with (with_reducible (first | (refine (k1 _).mono ?_; rintro e w1 ⟨rfl, rfl⟩) | (refine (k2 _).mono ?_; rintro e w1 ⟨rfl, rfl⟩) | (refine (k3 _ (HH.out _ (by repeat (first | exact Below.refl _ _ | assumption | refine st_drew ?_ | refine st_drewN ?_ _ | refine Below.setCell ?_ (by first | omega | (simp; done) | (simp; omega)) _ | refine Below.alloc ?_ (by first | omega | (simp; done) | (simp; omega)) _)))).mono ?_; rintro e w1 ⟨rfl, rfl⟩) | (refine (k4 _).mono ?_; rintro e w1 ⟨rfl, rfl⟩) | (refine (k5 _).mono ?_; rintro e w1 ⟨rfl, hb1⟩; have bA := onto (show Below w.heap.size w _ from by repeat (first | exact Below.refl _ _ | assumption | refine st_drew ?_ | refine st_drewN ?_ _ | refine Below.setCell ?_ (by first | omega | (simp; done) | (simp; omega)) _ | refine Below.alloc ?_ (by first | omega | (simp; done) | (simp; omega)) _)) hb1; clear hb1)))
    all_goals go_ret
    all_goals exact ⟨ret_boolQ (by simp), by first | exact bA | exact (by repeat (first | exact Below.refl _ _ | assumption | refine st_drew ?_ | refine st_drewN ?_ _ | refine Below.setCell ?_ (by first | omega | (simp; done) | (simp; omega)) _ | refine Below.alloc ?_ (by first | omega | (simp; done) | (simp; omega)) _))⟩
  rcases t2 with _ | _
  · go_enter Try.func78, Try.ntmps78
    go_wp2_with (with_reducible (first | (refine (k1 _).mono ?_; rintro e w1 ⟨rfl, rfl⟩) | (refine (k2 _).mono ?_; rintro e w1 ⟨rfl, rfl⟩) | (refine (k3 _ (HH.out _ (by repeat (first | exact Below.refl _ _ | assumption | refine st_drew ?_ | refine st_drewN ?_ _ | refine Below.setCell ?_ (by first | omega | (simp; done) | (simp; omega)) _ | refine Below.alloc ?_ (by first | omega | (simp; done) | (simp; omega)) _)))).mono ?_; rintro e w1 ⟨rfl, rfl⟩) | (refine (k4 _).mono ?_; rintro e w1 ⟨rfl, rfl⟩) | (refine (k5 _).mono ?_; rintro e w1 ⟨rfl, hb1⟩; have bA := onto (show Below w.heap.size w _ from by repeat (first | exact Below.refl _ _ | assumption | refine st_drew ?_ | refine st_drewN ?_ _ | refine Below.setCell ?_ (by first | omega | (simp; done) | (simp; omega)) _ | refine Below.alloc ?_ (by first | omega | (simp; done) | (simp; omega)) _)) hb1; clear hb1)))
    all_goals go_ret
    all_goals exact ⟨ret_boolQ (by simp), by first | exact bA | exact (by repeat (first | exact Below.refl _ _ | assumption | refine st_drew ?_ | refine st_drewN ?_ _ | refine Below.setCell ?_ (by first | omega | (simp; done) | (simp; omega)) _ | refine Below.alloc ?_ (by first | omega | (simp; done) | (simp; omega)) _))⟩
  rcases t3 with _ | _
  · go_enter Try.func78, Try.ntmps78
    go_wp2_with (with_reducible (first | (refine (k1 _).mono ?_; rintro e w1 ⟨rfl, rfl⟩) | (refine (k2 _).mono ?_; rintro e w1 ⟨rfl, rfl⟩) | (refine (k3 _ (HH.out _ (by repeat (first | exact Below.refl _ _ | assumption | refine st_drew ?_ | refine st_drewN ?_ _ | refine Below.setCell ?_ (by first | omega | (simp; done) | (simp; omega)) _ | refine Below.alloc ?_ (by first | omega | (simp; done) | (simp; omega)) _)))).mono ?_; rintro e w1 ⟨rfl, rfl⟩) | (refine (k4 _).mono ?_; rintro e w1 ⟨rfl, rfl⟩) | (refine (k5 _).mono ?_; rintro e w1 ⟨rfl, hb1⟩; have bA := onto (show Below w.heap.size w _ from by repeat (first | exact Below.refl _ _ | assumption | refine st_drew ?_ | refine st_drewN ?_ _ | refine Below.setCell ?_ (by first | omega | (simp; done) | (simp; omega)) _ | refine Below.alloc ?_ (by first | omega | (simp; done) | (simp; omega)) _)) hb1; clear hb1)))
    all_goals go_ret
    all_goals exact ⟨ret_boolQ (by simp), by first | exact bA | exact (by repeat (first | exact Below.refl _ _ | assumption | refine st_drew ?_ | refine st_drewN ?_ _ | refine Below.setCell ?_ (by first | omega | (simp; done) | (simp; omega)) _ | refine Below.alloc ?_ (by first | omega | (simp; done) | (simp; omega)) _))⟩
  rcases t4 with _ | _
  · go_enter Try.func78, Try.ntmps78
    go_wp2_with (with_reducible (first | (refine (k1 _).mono ?_; rintro e w1 ⟨rfl, rfl⟩) | (refine (k2 _).mono ?_; rintro e w1 ⟨rfl, rfl⟩) | (refine (k3 _ (HH.out _ (by repeat (first | exact Below.refl _ _ | assumption | refine st_drew ?_ | refine st_drewN ?_ _ | refine Below.setCell ?_ (by first | omega | (simp; done) | (simp; omega)) _ | refine Below.alloc ?_ (by first | omega | (simp; done) | (simp; omega)) _)))).mono ?_; rintro e w1 ⟨rfl, rfl⟩) | (refine (k4 _).mono ?_; rintro e w1 ⟨rfl, rfl⟩) | (refine (k5 _).mono ?_; rintro e w1 ⟨rfl, hb1⟩; have bA := onto (show Below w.heap.size w _ from by repeat (first | exact Below.refl _ _ | assumption | refine st_drew ?_ | refine st_drewN ?_ _ | refine Below.setCell ?_ (by first | omega | (simp; done) | (simp; omega)) _ | refine Below.alloc ?_ (by first | omega | (simp; done) | (simp; omega)) _)) hb1; clear hb1)))
    all_goals go_ret
    all_goals exact ⟨ret_boolQ (by simp), by first | exact bA | exact (by repeat (first | exact Below.refl _ _ | assumption | refine st_drew ?_ | refine st_drewN ?_ _ | refine Below.setCell ?_ (by first | omega | (simp; done) | (simp; omega)) _ | refine Below.alloc ?_ (by first | omega | (simp; done) | (simp; omega)) _))⟩
  go_enter Try.func78, Try.ntmps78
  go_wp2_with (with_reducible (first | (refine (k1 _).mono ?_; rintro e w1 ⟨rfl, rfl⟩) | (refine (k2 _).mono ?_; rintro e w1 ⟨rfl, rfl⟩) | (refine (k3 _ (HH.out _ (by repeat (first | exact Below.refl _ _ | assumption | refine st_drew ?_ | refine st_drewN ?_ _ | refine Below.setCell ?_ (by first | omega | (simp; done) | (simp; omega)) _ | refine Below.alloc ?_ (by first | omega | (simp; done) | (simp; omega)) _)))).mono ?_; rintro e w1 ⟨rfl, rfl⟩) | (refine (k4 _).mono ?_; rintro e w1 ⟨rfl, rfl⟩) | (refine (k5 _).mono ?_; rintro e w1 ⟨rfl, hb1⟩; have bA := onto (show Below w.heap.size w _ from by repeat (first | exact Below.refl _ _ | assumption | refine st_drew ?_ | refine st_drewN ?_ _ | refine Below.setCell ?_ (by first | omega | (simp; done) | (simp; omega)) _ | refine Below.alloc ?_ (by first | omega | (simp; done) | (simp; omega)) _)) hb1; clear hb1)))
  all_goals go_ret
  all_goals exact ⟨ret_boolQ (by simp), by first | exact bA | exact (by repeat (first | exact Below.refl _ _ | assumption | refine st_drew ?_ | refine st_drewN ?_ _ | refine Below.setCell ?_ (by first | omega | (simp; done) | (simp; omega)) _ | refine Below.alloc ?_ (by first | omega | (simp; done) | (simp; omega)) _))⟩
def aN (n : Nd) (tv : Value) : Value := .agg #[.int .i64 n.p, .int .i64 n.g, tv]
set_option maxRecDepth 20000 in
set_option maxHeartbeats 4000000 in
theorem ineed_any (x : Nd) (ta : Option Addr) (n tc : Nat) (w : World) (h : IRw w (.slice ta n tc) x.ag) (hn : x.ag.length ≤ 1048576) :
    Calls Try.prog 42 #[aN x (.slice ta n tc)] w fun e w' => e = .returned (.bool (needB x)) ∧ Below w.heap.size w w' := by
  have k1 := iper_any x.p
  have k2 := igroup_any x.g
  have k3 := fun W hW => iants_any ta n tc x.ag W hW hn
  have HH := hidden (fun W (hW : Below w.heap.size w W) => h.below hW)
  clear h
  unfold needB aN at *
  generalize perB x.p = t1 at *
  generalize rng x.g 0 7 = t2 at *
  generalize antB x.ag = t3 at *
  rcases t1 with _ | _
  · go_enter Try.func42, Try.ntmps42
    go_wp2_with (with_reducible (first | (refine (k1 _).mono ?_; rintro e w1 ⟨rfl, rfl⟩) | (refine (k2 _).mono ?_; rintro e w1 ⟨rfl, rfl⟩) | (refine (k3 _ (HH.out _ (by repeat (first | exact Below.refl _ _ | assumption | refine st_drew ?_ | refine st_drewN ?_ _ | refine Below.setCell ?_ (by first | omega | (simp; done) | (simp; omega)) _ | refine Below.alloc ?_ (by first | omega | (simp; done) | (simp; omega)) _)))).mono ?_; rintro e w1 ⟨rfl, rfl⟩)))
    all_goals go_ret
    all_goals exact ⟨ret_boolQ (by simp), by repeat (first | exact Below.refl _ _ | assumption | refine st_drew ?_ | refine st_drewN ?_ _ | refine Below.setCell ?_ (by first | omega | (simp; done) | (simp; omega)) _ | refine Below.alloc ?_ (by first | omega | (simp; done) | (simp; omega)) _)⟩
  rcases t2 with _ | _
  · go_enter Try.func42, Try.ntmps42
    go_wp2_with (with_reducible (first | (refine (k1 _).mono ?_; rintro e w1 ⟨rfl, rfl⟩) | (refine (k2 _).mono ?_; rintro e w1 ⟨rfl, rfl⟩) | (refine (k3 _ (HH.out _ (by repeat (first | exact Below.refl _ _ | assumption | refine st_drew ?_ | refine st_drewN ?_ _ | refine Below.setCell ?_ (by first | omega | (simp; done) | (simp; omega)) _ | refine Below.alloc ?_ (by first | omega | (simp; done) | (simp; omega)) _)))).mono ?_; rintro e w1 ⟨rfl, rfl⟩)))
    all_goals go_ret
    all_goals exact ⟨ret_boolQ (by simp), by repeat (first | exact Below.refl _ _ | assumption | refine st_drew ?_ | refine st_drewN ?_ _ | refine Below.setCell ?_ (by first | omega | (simp; done) | (simp; omega)) _ | refine Below.alloc ?_ (by first | omega | (simp; done) | (simp; omega)) _)⟩
  go_enter Try.func42, Try.ntmps42
  go_wp2_with (with_reducible (first | (refine (k1 _).mono ?_; rintro e w1 ⟨rfl, rfl⟩) | (refine (k2 _).mono ?_; rintro e w1 ⟨rfl, rfl⟩) | (refine (k3 _ (HH.out _ (by repeat (first | exact Below.refl _ _ | assumption | refine st_drew ?_ | refine st_drewN ?_ _ | refine Below.setCell ?_ (by first | omega | (simp; done) | (simp; omega)) _ | refine Below.alloc ?_ (by first | omega | (simp; done) | (simp; omega)) _)))).mono ?_; rintro e w1 ⟨rfl, rfl⟩)))
  all_goals go_ret
  all_goals exact ⟨ret_boolQ (by simp), by repeat (first | exact Below.refl _ _ | assumption | refine st_drew ?_ | refine st_drewN ?_ _ | refine Below.setCell ?_ (by first | omega | (simp; done) | (simp; omega)) _ | refine Below.alloc ?_ (by first | omega | (simp; done) | (simp; omega)) _)⟩
set_option maxRecDepth 20000 in
set_option maxHeartbeats 4000000 in
theorem sneed_any (x : Nd) (ta : Option Addr) (n tc : Nat) (w : World) (h : IRw w (.slice ta n tc) x.ag) (hn : x.ag.length ≤ 1048576) :
    Calls Try.prog 50 #[aN x (.slice ta n tc)] w fun e w' => e = .returned (.bool (needB x)) ∧ Below w.heap.size w w' := by
  have k1 := sper_any x.p
  have k2 := sgroup_any x.g
  have k3 := fun W hW => sants_any ta n tc x.ag W hW hn
  have HH := hidden (fun W (hW : Below w.heap.size w W) => h.below hW)
  clear h
  unfold needB aN at *
  generalize perB x.p = t1 at *
  generalize rng x.g 0 7 = t2 at *
  generalize antB x.ag = t3 at *
  rcases t1 with _ | _
  · go_enter Try.func50, Try.ntmps50
    go_wp2_with (with_reducible (first | (refine (k1 _).mono ?_; rintro e w1 ⟨rfl, rfl⟩) | (refine (k2 _).mono ?_; rintro e w1 ⟨rfl, rfl⟩) | (refine (k3 _ (HH.out _ (by repeat (first | exact Below.refl _ _ | assumption | refine st_drew ?_ | refine st_drewN ?_ _ | refine Below.setCell ?_ (by first | omega | (simp; done) | (simp; omega)) _ | refine Below.alloc ?_ (by first | omega | (simp; done) | (simp; omega)) _)))).mono ?_; rintro e w1 ⟨rfl, hb1⟩; have bA := onto (show Below w.heap.size w _ from by repeat (first | exact Below.refl _ _ | assumption | refine st_drew ?_ | refine st_drewN ?_ _ | refine Below.setCell ?_ (by first | omega | (simp; done) | (simp; omega)) _ | refine Below.alloc ?_ (by first | omega | (simp; done) | (simp; omega)) _)) hb1; clear hb1)))
    all_goals go_ret
    all_goals exact ⟨ret_boolQ (by simp), by first | exact bA | exact (by repeat (first | exact Below.refl _ _ | assumption | refine st_drew ?_ | refine st_drewN ?_ _ | refine Below.setCell ?_ (by first | omega | (simp; done) | (simp; omega)) _ | refine Below.alloc ?_ (by first | omega | (simp; done) | (simp; omega)) _))⟩
  rcases t2 with _ | _
  · go_enter Try.func50, Try.ntmps50
    go_wp2_with (with_reducible (first | (refine (k1 _).mono ?_; rintro e w1 ⟨rfl, rfl⟩) | (refine (k2 _).mono ?_; rintro e w1 ⟨rfl, rfl⟩) | (refine (k3 _ (HH.out _ (by repeat (first | exact Below.refl _ _ | assumption | refine st_drew ?_ | refine st_drewN ?_ _ | refine Below.setCell ?_ (by first | omega | (simp; done) | (simp; omega)) _ | refine Below.alloc ?_ (by first | omega | (simp; done) | (simp; omega)) _)))).mono ?_; rintro e w1 ⟨rfl, hb1⟩; have bA := onto (show Below w.heap.size w _ from by repeat (first | exact Below.refl _ _ | assumption | refine st_drew ?_ | refine st_drewN ?_ _ | refine Below.setCell ?_ (by first | omega | (simp; done) | (simp; omega)) _ | refine Below.alloc ?_ (by first | omega | (simp; done) | (simp; omega)) _)) hb1; clear hb1)))
    all_goals go_ret
    all_goals exact ⟨ret_boolQ (by simp), by first | exact bA | exact (by repeat (first | exact Below.refl _ _ | assumption | refine st_drew ?_ | refine st_drewN ?_ _ | refine Below.setCell ?_ (by first | omega | (simp; done) | (simp; omega)) _ | refine Below.alloc ?_ (by first | omega | (simp; done) | (simp; omega)) _))⟩
  go_enter Try.func50, Try.ntmps50
  go_wp2_with (with_reducible (first | (refine (k1 _).mono ?_; rintro e w1 ⟨rfl, rfl⟩) | (refine (k2 _).mono ?_; rintro e w1 ⟨rfl, rfl⟩) | (refine (k3 _ (HH.out _ (by repeat (first | exact Below.refl _ _ | assumption | refine st_drew ?_ | refine st_drewN ?_ _ | refine Below.setCell ?_ (by first | omega | (simp; done) | (simp; omega)) _ | refine Below.alloc ?_ (by first | omega | (simp; done) | (simp; omega)) _)))).mono ?_; rintro e w1 ⟨rfl, hb1⟩; have bA := onto (show Below w.heap.size w _ from by repeat (first | exact Below.refl _ _ | assumption | refine st_drew ?_ | refine st_drewN ?_ _ | refine Below.setCell ?_ (by first | omega | (simp; done) | (simp; omega)) _ | refine Below.alloc ?_ (by first | omega | (simp; done) | (simp; omega)) _)) hb1; clear hb1)))
  all_goals go_ret
  all_goals exact ⟨ret_boolQ (by simp), by first | exact bA | exact (by repeat (first | exact Below.refl _ _ | assumption | refine st_drew ?_ | refine st_drewN ?_ _ | refine Below.setCell ?_ (by first | omega | (simp; done) | (simp; omega)) _ | refine Below.alloc ?_ (by first | omega | (simp; done) | (simp; omega)) _))⟩
set_option maxRecDepth 20000 in
set_option maxHeartbeats 4000000 in
theorem sunit_any (x : Ut) (ta : Option Addr) (n tc : Nat) (w : World) (h : IRw w (.slice ta n tc) x.ant) (hn : x.ant.length ≤ 1048576) :
    Calls Try.prog 91 #[aU x (.slice ta n tc)] w fun e w' => e = .returned (.bool (unitB x)) ∧ Below w.heap.size w w' := by
  obtain ⟨id, grp, ant, til, st, fr⟩ := x
  dsimp only at *
  have k1 := lin_any id 1 1000000
  have k2 := sgroup_any grp
  have k3 := fun W hW => sants_any ta n tc ant W hW hn
  have k4 := stime_any til
  have k5 := lin_any st 1 4
  have k6 := sper_any fr
  have HH := hidden (fun W (hW : Below w.heap.size w W) => h.below hW)
  have P0 := hidden (PB.new w #[.int .i64 id, .int .i64 grp, .slice ta n tc, .int .i64 til, .int .i64 st, .int .i64 fr] 81)
  clear h
  unfold unitB aU at *
  dsimp only at *
  generalize rng id 1 1000000 = t1 at *
  generalize rng grp 0 7 = t2 at *
  generalize antB ant = t3 at *
  generalize tmv til = t4 at *
  rcases t1 with _ | _
  · go_enter Try.func91, Try.ntmps91
    go_wp2_with (with_reducible (first | (refine (k1 _).mono ?_; rintro e w1 ⟨rfl, rfl⟩) | (refine (k2 _).mono ?_; rintro e w1 ⟨rfl, rfl⟩) | (refine (k3 _ (HH.out _ (by repeat (first | exact Below.refl _ _ | assumption | refine st_drew ?_ | refine st_drewN ?_ _ | refine Below.setCell ?_ (by first | omega | (simp; done) | (simp; omega)) _ | refine Below.alloc ?_ (by first | omega | (simp; done) | (simp; omega)) _)))).mono ?_; rintro e w1 ⟨rfl, hb1⟩; obtain ⟨p0, p1, p2, p3, p4, p5⟩ := (P0.out.below hb1).six; have bA := onto (show Below w.heap.size w _ from by repeat (first | exact Below.refl _ _ | assumption | refine st_drew ?_ | refine st_drewN ?_ _ | refine Below.setCell ?_ (by first | omega | (simp; done) | (simp; omega)) _ | refine Below.alloc ?_ (by first | omega | (simp; done) | (simp; omega)) _)) hb1; clear hb1) | (refine (k4 _).mono ?_; rintro e w1 ⟨rfl, rfl⟩) | (refine (k5 _).mono ?_; rintro e w1 ⟨rfl, rfl⟩) | (refine (k6 _).mono ?_; rintro e w1 ⟨rfl, rfl⟩)))
    all_goals go_ret
    all_goals exact ⟨ret_boolQ (by simp), by first | exact bA | exact (by repeat (first | exact Below.refl _ _ | assumption | refine st_drew ?_ | refine st_drewN ?_ _ | refine Below.setCell ?_ (by first | omega | (simp; done) | (simp; omega)) _ | refine Below.alloc ?_ (by first | omega | (simp; done) | (simp; omega)) _))⟩
  rcases t2 with _ | _
  · go_enter Try.func91, Try.ntmps91
    go_wp2_with (with_reducible (first | (refine (k1 _).mono ?_; rintro e w1 ⟨rfl, rfl⟩) | (refine (k2 _).mono ?_; rintro e w1 ⟨rfl, rfl⟩) | (refine (k3 _ (HH.out _ (by repeat (first | exact Below.refl _ _ | assumption | refine st_drew ?_ | refine st_drewN ?_ _ | refine Below.setCell ?_ (by first | omega | (simp; done) | (simp; omega)) _ | refine Below.alloc ?_ (by first | omega | (simp; done) | (simp; omega)) _)))).mono ?_; rintro e w1 ⟨rfl, hb1⟩; obtain ⟨p0, p1, p2, p3, p4, p5⟩ := (P0.out.below hb1).six; have bA := onto (show Below w.heap.size w _ from by repeat (first | exact Below.refl _ _ | assumption | refine st_drew ?_ | refine st_drewN ?_ _ | refine Below.setCell ?_ (by first | omega | (simp; done) | (simp; omega)) _ | refine Below.alloc ?_ (by first | omega | (simp; done) | (simp; omega)) _)) hb1; clear hb1) | (refine (k4 _).mono ?_; rintro e w1 ⟨rfl, rfl⟩) | (refine (k5 _).mono ?_; rintro e w1 ⟨rfl, rfl⟩) | (refine (k6 _).mono ?_; rintro e w1 ⟨rfl, rfl⟩)))
    all_goals go_ret
    all_goals exact ⟨ret_boolQ (by simp), by first | exact bA | exact (by repeat (first | exact Below.refl _ _ | assumption | refine st_drew ?_ | refine st_drewN ?_ _ | refine Below.setCell ?_ (by first | omega | (simp; done) | (simp; omega)) _ | refine Below.alloc ?_ (by first | omega | (simp; done) | (simp; omega)) _))⟩
  rcases t3 with _ | _
  · go_enter Try.func91, Try.ntmps91
    go_wp2_with (with_reducible (first | (refine (k1 _).mono ?_; rintro e w1 ⟨rfl, rfl⟩) | (refine (k2 _).mono ?_; rintro e w1 ⟨rfl, rfl⟩) | (refine (k3 _ (HH.out _ (by repeat (first | exact Below.refl _ _ | assumption | refine st_drew ?_ | refine st_drewN ?_ _ | refine Below.setCell ?_ (by first | omega | (simp; done) | (simp; omega)) _ | refine Below.alloc ?_ (by first | omega | (simp; done) | (simp; omega)) _)))).mono ?_; rintro e w1 ⟨rfl, hb1⟩; obtain ⟨p0, p1, p2, p3, p4, p5⟩ := (P0.out.below hb1).six; have bA := onto (show Below w.heap.size w _ from by repeat (first | exact Below.refl _ _ | assumption | refine st_drew ?_ | refine st_drewN ?_ _ | refine Below.setCell ?_ (by first | omega | (simp; done) | (simp; omega)) _ | refine Below.alloc ?_ (by first | omega | (simp; done) | (simp; omega)) _)) hb1; clear hb1) | (refine (k4 _).mono ?_; rintro e w1 ⟨rfl, rfl⟩) | (refine (k5 _).mono ?_; rintro e w1 ⟨rfl, rfl⟩) | (refine (k6 _).mono ?_; rintro e w1 ⟨rfl, rfl⟩)))
    all_goals go_ret
    all_goals exact ⟨ret_boolQ (by simp), by first | exact bA | exact (by repeat (first | exact Below.refl _ _ | assumption | refine st_drew ?_ | refine st_drewN ?_ _ | refine Below.setCell ?_ (by first | omega | (simp; done) | (simp; omega)) _ | refine Below.alloc ?_ (by first | omega | (simp; done) | (simp; omega)) _))⟩
  rcases t4 with _ | _
  · go_enter Try.func91, Try.ntmps91
    go_wp2_with (with_reducible (first | (refine (k1 _).mono ?_; rintro e w1 ⟨rfl, rfl⟩) | (refine (k2 _).mono ?_; rintro e w1 ⟨rfl, rfl⟩) | (refine (k3 _ (HH.out _ (by repeat (first | exact Below.refl _ _ | assumption | refine st_drew ?_ | refine st_drewN ?_ _ | refine Below.setCell ?_ (by first | omega | (simp; done) | (simp; omega)) _ | refine Below.alloc ?_ (by first | omega | (simp; done) | (simp; omega)) _)))).mono ?_; rintro e w1 ⟨rfl, hb1⟩; obtain ⟨p0, p1, p2, p3, p4, p5⟩ := (P0.out.below hb1).six; have bA := onto (show Below w.heap.size w _ from by repeat (first | exact Below.refl _ _ | assumption | refine st_drew ?_ | refine st_drewN ?_ _ | refine Below.setCell ?_ (by first | omega | (simp; done) | (simp; omega)) _ | refine Below.alloc ?_ (by first | omega | (simp; done) | (simp; omega)) _)) hb1; clear hb1) | (refine (k4 _).mono ?_; rintro e w1 ⟨rfl, rfl⟩) | (refine (k5 _).mono ?_; rintro e w1 ⟨rfl, rfl⟩) | (refine (k6 _).mono ?_; rintro e w1 ⟨rfl, rfl⟩)))
    all_goals go_ret
    all_goals exact ⟨ret_boolQ (by simp), by first | exact bA | exact (by repeat (first | exact Below.refl _ _ | assumption | refine st_drew ?_ | refine st_drewN ?_ _ | refine Below.setCell ?_ (by first | omega | (simp; done) | (simp; omega)) _ | refine Below.alloc ?_ (by first | omega | (simp; done) | (simp; omega)) _))⟩
  by_cases s2 : st = 2
  · subst s2
    have HE := hidden (forB_per (st := 2) (fr := fr) (Or.inl rfl))
    rw [show rng 2 1 4 = true by decide] at k5
    generalize forB 2 fr = t6 at *
    go_enter Try.func91, Try.ntmps91
    go_wp2_with (with_reducible (first | (refine (k1 _).mono ?_; rintro e w1 ⟨rfl, rfl⟩) | (refine (k2 _).mono ?_; rintro e w1 ⟨rfl, rfl⟩) | (refine (k3 _ (HH.out _ (by repeat (first | exact Below.refl _ _ | assumption | refine st_drew ?_ | refine st_drewN ?_ _ | refine Below.setCell ?_ (by first | omega | (simp; done) | (simp; omega)) _ | refine Below.alloc ?_ (by first | omega | (simp; done) | (simp; omega)) _)))).mono ?_; rintro e w1 ⟨rfl, hb1⟩; obtain ⟨p0, p1, p2, p3, p4, p5⟩ := (P0.out.below hb1).six; have bA := onto (show Below w.heap.size w _ from by repeat (first | exact Below.refl _ _ | assumption | refine st_drew ?_ | refine st_drewN ?_ _ | refine Below.setCell ?_ (by first | omega | (simp; done) | (simp; omega)) _ | refine Below.alloc ?_ (by first | omega | (simp; done) | (simp; omega)) _)) hb1; clear hb1) | (refine (k4 _).mono ?_; rintro e w1 ⟨rfl, rfl⟩) | (refine (k5 _).mono ?_; rintro e w1 ⟨rfl, rfl⟩) | (refine (k6 _).mono ?_; rintro e w1 ⟨rfl, rfl⟩)))
    all_goals go_ret
    all_goals exact ⟨ret_boolQ (by rw [HE.out]; simp), by first | exact bA | exact (by repeat (first | exact Below.refl _ _ | assumption | refine st_drew ?_ | refine st_drewN ?_ _ | refine Below.setCell ?_ (by first | omega | (simp; done) | (simp; omega)) _ | refine Below.alloc ?_ (by first | omega | (simp; done) | (simp; omega)) _))⟩
  by_cases s3 : st = 3
  · subst s3
    have HE := hidden (forB_per (st := 3) (fr := fr) (Or.inr rfl))
    rw [show rng 3 1 4 = true by decide] at k5
    generalize forB 3 fr = t6 at *
    go_enter Try.func91, Try.ntmps91
    go_wp2_with (with_reducible (first | (refine (k1 _).mono ?_; rintro e w1 ⟨rfl, rfl⟩) | (refine (k2 _).mono ?_; rintro e w1 ⟨rfl, rfl⟩) | (refine (k3 _ (HH.out _ (by repeat (first | exact Below.refl _ _ | assumption | refine st_drew ?_ | refine st_drewN ?_ _ | refine Below.setCell ?_ (by first | omega | (simp; done) | (simp; omega)) _ | refine Below.alloc ?_ (by first | omega | (simp; done) | (simp; omega)) _)))).mono ?_; rintro e w1 ⟨rfl, hb1⟩; obtain ⟨p0, p1, p2, p3, p4, p5⟩ := (P0.out.below hb1).six; have bA := onto (show Below w.heap.size w _ from by repeat (first | exact Below.refl _ _ | assumption | refine st_drew ?_ | refine st_drewN ?_ _ | refine Below.setCell ?_ (by first | omega | (simp; done) | (simp; omega)) _ | refine Below.alloc ?_ (by first | omega | (simp; done) | (simp; omega)) _)) hb1; clear hb1) | (refine (k4 _).mono ?_; rintro e w1 ⟨rfl, rfl⟩) | (refine (k5 _).mono ?_; rintro e w1 ⟨rfl, rfl⟩) | (refine (k6 _).mono ?_; rintro e w1 ⟨rfl, rfl⟩)))
    all_goals go_ret
    all_goals exact ⟨ret_boolQ (by rw [HE.out]; simp), by first | exact bA | exact (by repeat (first | exact Below.refl _ _ | assumption | refine st_drew ?_ | refine st_drewN ?_ _ | refine Below.setCell ?_ (by first | omega | (simp; done) | (simp; omega)) _ | refine Below.alloc ?_ (by first | omega | (simp; done) | (simp; omega)) _))⟩
  by_cases s1 : st = 1
  · subst s1
    have HE := hidden (forB_alone (st := 1) (fr := fr) (Or.inl rfl))
    rw [show rng 1 1 4 = true by decide] at k5
    generalize forB 1 fr = t6 at *
    go_enter Try.func91, Try.ntmps91
    go_wp2_with (with_reducible (first | (refine (k1 _).mono ?_; rintro e w1 ⟨rfl, rfl⟩) | (refine (k2 _).mono ?_; rintro e w1 ⟨rfl, rfl⟩) | (refine (k3 _ (HH.out _ (by repeat (first | exact Below.refl _ _ | assumption | refine st_drew ?_ | refine st_drewN ?_ _ | refine Below.setCell ?_ (by first | omega | (simp; done) | (simp; omega)) _ | refine Below.alloc ?_ (by first | omega | (simp; done) | (simp; omega)) _)))).mono ?_; rintro e w1 ⟨rfl, hb1⟩; obtain ⟨p0, p1, p2, p3, p4, p5⟩ := (P0.out.below hb1).six; have bA := onto (show Below w.heap.size w _ from by repeat (first | exact Below.refl _ _ | assumption | refine st_drew ?_ | refine st_drewN ?_ _ | refine Below.setCell ?_ (by first | omega | (simp; done) | (simp; omega)) _ | refine Below.alloc ?_ (by first | omega | (simp; done) | (simp; omega)) _)) hb1; clear hb1) | (refine (k4 _).mono ?_; rintro e w1 ⟨rfl, rfl⟩) | (refine (k5 _).mono ?_; rintro e w1 ⟨rfl, rfl⟩) | (refine (k6 _).mono ?_; rintro e w1 ⟨rfl, rfl⟩)))
    all_goals go_ret
    all_goals exact ⟨ret_boolQ (by rw [HE.out]; first | rfl | (simp; done) | exact (by first | (simp; done) | (simp; omega) | (simp_all; done) | (simp_all; omega) | (rw [Bool.eq_iff_iff]; simp; omega) | (rw [Bool.eq_iff_iff]; simp_all; omega))), by first | exact bA | exact (by repeat (first | exact Below.refl _ _ | assumption | refine st_drew ?_ | refine st_drewN ?_ _ | refine Below.setCell ?_ (by first | omega | (simp; done) | (simp; omega)) _ | refine Below.alloc ?_ (by first | omega | (simp; done) | (simp; omega)) _))⟩
  by_cases s4 : st = 4
  · subst s4
    have HE := hidden (forB_alone (st := 4) (fr := fr) (Or.inr rfl))
    rw [show rng 4 1 4 = true by decide] at k5
    generalize forB 4 fr = t6 at *
    go_enter Try.func91, Try.ntmps91
    go_wp2_with (with_reducible (first | (refine (k1 _).mono ?_; rintro e w1 ⟨rfl, rfl⟩) | (refine (k2 _).mono ?_; rintro e w1 ⟨rfl, rfl⟩) | (refine (k3 _ (HH.out _ (by repeat (first | exact Below.refl _ _ | assumption | refine st_drew ?_ | refine st_drewN ?_ _ | refine Below.setCell ?_ (by first | omega | (simp; done) | (simp; omega)) _ | refine Below.alloc ?_ (by first | omega | (simp; done) | (simp; omega)) _)))).mono ?_; rintro e w1 ⟨rfl, hb1⟩; obtain ⟨p0, p1, p2, p3, p4, p5⟩ := (P0.out.below hb1).six; have bA := onto (show Below w.heap.size w _ from by repeat (first | exact Below.refl _ _ | assumption | refine st_drew ?_ | refine st_drewN ?_ _ | refine Below.setCell ?_ (by first | omega | (simp; done) | (simp; omega)) _ | refine Below.alloc ?_ (by first | omega | (simp; done) | (simp; omega)) _)) hb1; clear hb1) | (refine (k4 _).mono ?_; rintro e w1 ⟨rfl, rfl⟩) | (refine (k5 _).mono ?_; rintro e w1 ⟨rfl, rfl⟩) | (refine (k6 _).mono ?_; rintro e w1 ⟨rfl, rfl⟩)))
    all_goals go_ret
    all_goals exact ⟨ret_boolQ (by rw [HE.out]; first | rfl | (simp; done) | exact (by first | (simp; done) | (simp; omega) | (simp_all; done) | (simp_all; omega) | (rw [Bool.eq_iff_iff]; simp; omega) | (rw [Bool.eq_iff_iff]; simp_all; omega))), by first | exact bA | exact (by repeat (first | exact Below.refl _ _ | assumption | refine st_drew ?_ | refine st_drewN ?_ _ | refine Below.setCell ?_ (by first | omega | (simp; done) | (simp; omega)) _ | refine Below.alloc ?_ (by first | omega | (simp; done) | (simp; omega)) _))⟩
  have HE := hidden (forB_no (fr := fr) s1 s2 s3 s4)
  rw [show rng st 1 4 = false by simp [rng]; omega] at k5
  generalize forB st fr = t6 at *
  go_enter Try.func91, Try.ntmps91
  go_wp2_with (with_reducible (first | (refine (k1 _).mono ?_; rintro e w1 ⟨rfl, rfl⟩) | (refine (k2 _).mono ?_; rintro e w1 ⟨rfl, rfl⟩) | (refine (k3 _ (HH.out _ (by repeat (first | exact Below.refl _ _ | assumption | refine st_drew ?_ | refine st_drewN ?_ _ | refine Below.setCell ?_ (by first | omega | (simp; done) | (simp; omega)) _ | refine Below.alloc ?_ (by first | omega | (simp; done) | (simp; omega)) _)))).mono ?_; rintro e w1 ⟨rfl, hb1⟩; obtain ⟨p0, p1, p2, p3, p4, p5⟩ := (P0.out.below hb1).six; have bA := onto (show Below w.heap.size w _ from by repeat (first | exact Below.refl _ _ | assumption | refine st_drew ?_ | refine st_drewN ?_ _ | refine Below.setCell ?_ (by first | omega | (simp; done) | (simp; omega)) _ | refine Below.alloc ?_ (by first | omega | (simp; done) | (simp; omega)) _)) hb1; clear hb1) | (refine (k4 _).mono ?_; rintro e w1 ⟨rfl, rfl⟩) | (refine (k5 _).mono ?_; rintro e w1 ⟨rfl, rfl⟩) | (refine (k6 _).mono ?_; rintro e w1 ⟨rfl, rfl⟩)))
  all_goals go_ret
  all_goals exact ⟨ret_boolQ (by rw [HE.out]; simp), by first | exact bA | exact (by repeat (first | exact Below.refl _ _ | assumption | refine st_drew ?_ | refine st_drewN ?_ _ | refine Below.setCell ?_ (by first | omega | (simp; done) | (simp; omega)) _ | refine Below.alloc ?_ (by first | omega | (simp; done) | (simp; omega)) _))⟩
end Go.Proofs.Ytgcpiinmcbdkmaa
