/-
  An emergency, as the program makes room for it.
-/
import Derived.Test.YtcapmobhgffnhaaOy
import Derived.Deep.CutRange
namespace Go.Proofs.Ytcapmobhgffnhaa
open Go.RowKit Va Oa
set_option linter.unusedVariables false

/-- What both answer: the list, in memory of its own, the minutes, and whether. -/
def Told3 (w : World) (l : List Opn) (u : Opn) (r : Int) (e : Ending) (w' : World) : Prop :=
  ∃ (L : List (Opn × Value)) (v : Value) (h : Int) (t : Bool), e = .returned (.tuple #[v, .int .i64 h, .bool t]) ∧ (L.map Prod.fst, h, t) = Oa.insert l u r ∧ w'.ownsRow w.heap.size 31 4 v L.length (cellsO L) ∧ Teams w' w.heap.size L ∧ Below w.heap.size w w'
theorem told_none {w w1 : World} {l : List Opn} {u : Opn} {r : Int} (hN : Oa.insert l u r = ([], 0, false)) (hb : Below w.heap.size w w1) : Told3 w l u r (.returned (.tuple #[.slice (some ⟨w1.heap.size, 0, none⟩) 0 0, .int .i64 0, .bool false])) (w1.alloc (.cells #[] 31)) :=
  ⟨[], _, 0, false, rfl, by rw [hN]; rfl, own_base (ownO_new w1 31 4) hb.size, Teams.nil _ _, hb.alloc hb.size _⟩

set_option maxRecDepth 20000 in
set_option maxHeartbeats 8000000 in
theorem iinsert_any (u : Opn) (ua : Option Addr) (un uc : Nat) (ao : Option Addr) (n cap : Nat) (l : List Opn) (r : Int) (w : World) (h : ORw w (.slice ao n cap) l) (hn : l.length ≤ 1048576) (ht : ∀ x ∈ l, x.team.length ≤ 1048576)
    (hR : IRw w (.slice ua un uc) u.team) (hu : u.team.length ≤ 1048576) :
    Calls Try.prog 17 #[.slice ao n cap, aO u (.slice ua un uc), .int .i64 r] w (Told3 w l u r) := by
  obtain rfl := h.len
  have k1 := fun W hW => iops_any ao l.length cap l W hW hn ht
  have k2 := fun W hW => iright_any u ua un uc W hW hu
  have k3 := irest_any r
  have k4 := fun W hW => iclash_any ao l.length cap l r W hW hn ht
  have HH := hidden (fun W (hW : Below w.heap.size w W) => h.below hW)
  have HT := hidden (fun W (hW : Below w.heap.size w W) => hR.below hW)
  have HJ := hidden h
  have HU := hidden hR
  clear h hR
  unfold aO at *
  cases hs1 : osB l with
  | false =>
    rw [hs1] at k1
    have HN : Hid (Oa.insert l u r = ([], 0, false)) := insert_no (fun z => by rw [osB_true z.1] at hs1; cases hs1)
    clear hs1
    go_enter Try.func17, Try.ntmps17
    go_wp2_with (first | (go_at_call 35; refine (k1 _ (HH.out _ (by repeat (first | exact Below.refl _ _ | assumption | refine st_drew ?_ | refine st_drewN ?_ _ | refine Below.setCell ?_ (by first | omega | (simp; done) | (simp; omega)) _ | refine Below.alloc ?_ (by first | omega | (simp; done) | (simp; omega)) _)))).mono ?_; rintro e w1 ⟨rfl, hb1⟩; have B1 := hidden (box_in hb1); have d0 := B1.out.1 0 _ rfl; have d1 := B1.out.1 1 _ rfl; have d2 := B1.out.1 2 _ rfl; have d3 := B1.out.1 3 _ rfl; have z1 := hb1.size; simp only [World.size_alloc] at z1; have bA := onto (show Below w.heap.size w _ from by repeat (first | exact Below.refl _ _ | assumption | refine st_drew ?_ | refine st_drewN ?_ _ | refine Below.setCell ?_ (by first | omega | (simp; done) | (simp; omega)) _ | refine Below.alloc ?_ (by first | omega | (simp; done) | (simp; omega)) _)) hb1; have T1 := hidden (TBox.below (W := w.alloc (.cells #[.int .i64 u.room, .int .i64 u.fr, .int .i64 u.to, .slice ua un uc] 31)) (heap_alloc_new w _) hb1); clear hb1) | (go_at_call 42; refine (k2 _ (HT.out _ (by repeat (first | exact Below.refl _ _ | assumption | refine st_drew ?_ | refine st_drewN ?_ _ | refine Below.setCell ?_ (by first | omega | (simp; done) | (simp; omega)) _ | refine Below.alloc ?_ (by first | omega | (simp; done) | (simp; omega)) _)))).mono ?_; rintro e w2 ⟨rfl, hb2⟩; have T2 := hidden (T1.out.below hb2); have bB := onto bA hb2; clear hb2) | (go_at_call 36; refine (k3 _).mono ?_; rintro e w3 ⟨rfl, rfl⟩) | (go_at_call 11; refine (k4 _ (HH.out _ (by repeat (first | exact Below.refl _ _ | assumption | refine st_drew ?_ | refine st_drewN ?_ _ | refine Below.setCell ?_ (by first | omega | (simp; done) | (simp; omega)) _ | refine Below.alloc ?_ (by first | omega | (simp; done) | (simp; omega)) _)))).mono ?_; rintro e w4 ⟨ad4, c4, rfl, -, hb4⟩; have T4 := hidden (T2.out.below hb4); have bC := onto bB hb4; clear hb4))
    exact bodyPost_ret (v := .tuple #[.slice (some ⟨_, 0, none⟩) 0 0, .int .i64 0, .bool false]) (by simp [results, Try.results17]) rfl (told_none HN.out (by first | exact bC | exact bB | exact bA))
  | true =>
  rw [hs1] at k1
  cases hs2 : opB u with
  | false =>
    rw [hs2] at k2
    have HN : Hid (Oa.insert l u r = ([], 0, false)) := insert_no (fun z => by rw [z.2.1] at hs2; cases hs2)
    clear hs1 hs2
    go_enter Try.func17, Try.ntmps17
    go_wp2_with (first | (go_at_call 35; refine (k1 _ (HH.out _ (by repeat (first | exact Below.refl _ _ | assumption | refine st_drew ?_ | refine st_drewN ?_ _ | refine Below.setCell ?_ (by first | omega | (simp; done) | (simp; omega)) _ | refine Below.alloc ?_ (by first | omega | (simp; done) | (simp; omega)) _)))).mono ?_; rintro e w1 ⟨rfl, hb1⟩; have B1 := hidden (box_in hb1); have d0 := B1.out.1 0 _ rfl; have d1 := B1.out.1 1 _ rfl; have d2 := B1.out.1 2 _ rfl; have d3 := B1.out.1 3 _ rfl; have z1 := hb1.size; simp only [World.size_alloc] at z1; have bA := onto (show Below w.heap.size w _ from by repeat (first | exact Below.refl _ _ | assumption | refine st_drew ?_ | refine st_drewN ?_ _ | refine Below.setCell ?_ (by first | omega | (simp; done) | (simp; omega)) _ | refine Below.alloc ?_ (by first | omega | (simp; done) | (simp; omega)) _)) hb1; have T1 := hidden (TBox.below (W := w.alloc (.cells #[.int .i64 u.room, .int .i64 u.fr, .int .i64 u.to, .slice ua un uc] 31)) (heap_alloc_new w _) hb1); clear hb1) | (go_at_call 42; refine (k2 _ (HT.out _ (by repeat (first | exact Below.refl _ _ | assumption | refine st_drew ?_ | refine st_drewN ?_ _ | refine Below.setCell ?_ (by first | omega | (simp; done) | (simp; omega)) _ | refine Below.alloc ?_ (by first | omega | (simp; done) | (simp; omega)) _)))).mono ?_; rintro e w2 ⟨rfl, hb2⟩; have T2 := hidden (T1.out.below hb2); have bB := onto bA hb2; clear hb2) | (go_at_call 36; refine (k3 _).mono ?_; rintro e w3 ⟨rfl, rfl⟩) | (go_at_call 11; refine (k4 _ (HH.out _ (by repeat (first | exact Below.refl _ _ | assumption | refine st_drew ?_ | refine st_drewN ?_ _ | refine Below.setCell ?_ (by first | omega | (simp; done) | (simp; omega)) _ | refine Below.alloc ?_ (by first | omega | (simp; done) | (simp; omega)) _)))).mono ?_; rintro e w4 ⟨ad4, c4, rfl, -, hb4⟩; have T4 := hidden (T2.out.below hb4); have bC := onto bB hb4; clear hb4))
    exact bodyPost_ret (v := .tuple #[.slice (some ⟨_, 0, none⟩) 0 0, .int .i64 0, .bool false]) (by simp [results, Try.results17]) rfl (told_none HN.out (by first | exact bC | exact bB | exact bA))
  | true =>
  rw [hs2] at k2
  cases hs3 : rng r 0 1440 with
  | false =>
    rw [hs3] at k3
    have HN : Hid (Oa.insert l u r = ([], 0, false)) := insert_no (fun z => by have := rng_iff.2 z.2.2.1; rw [hs3] at this; cases this)
    clear hs1 hs2 hs3
    go_enter Try.func17, Try.ntmps17
    go_wp2_with (first | (go_at_call 35; refine (k1 _ (HH.out _ (by repeat (first | exact Below.refl _ _ | assumption | refine st_drew ?_ | refine st_drewN ?_ _ | refine Below.setCell ?_ (by first | omega | (simp; done) | (simp; omega)) _ | refine Below.alloc ?_ (by first | omega | (simp; done) | (simp; omega)) _)))).mono ?_; rintro e w1 ⟨rfl, hb1⟩; have B1 := hidden (box_in hb1); have d0 := B1.out.1 0 _ rfl; have d1 := B1.out.1 1 _ rfl; have d2 := B1.out.1 2 _ rfl; have d3 := B1.out.1 3 _ rfl; have z1 := hb1.size; simp only [World.size_alloc] at z1; have bA := onto (show Below w.heap.size w _ from by repeat (first | exact Below.refl _ _ | assumption | refine st_drew ?_ | refine st_drewN ?_ _ | refine Below.setCell ?_ (by first | omega | (simp; done) | (simp; omega)) _ | refine Below.alloc ?_ (by first | omega | (simp; done) | (simp; omega)) _)) hb1; have T1 := hidden (TBox.below (W := w.alloc (.cells #[.int .i64 u.room, .int .i64 u.fr, .int .i64 u.to, .slice ua un uc] 31)) (heap_alloc_new w _) hb1); clear hb1) | (go_at_call 42; refine (k2 _ (HT.out _ (by repeat (first | exact Below.refl _ _ | assumption | refine st_drew ?_ | refine st_drewN ?_ _ | refine Below.setCell ?_ (by first | omega | (simp; done) | (simp; omega)) _ | refine Below.alloc ?_ (by first | omega | (simp; done) | (simp; omega)) _)))).mono ?_; rintro e w2 ⟨rfl, hb2⟩; have T2 := hidden (T1.out.below hb2); have bB := onto bA hb2; clear hb2) | (go_at_call 36; refine (k3 _).mono ?_; rintro e w3 ⟨rfl, rfl⟩) | (go_at_call 11; refine (k4 _ (HH.out _ (by repeat (first | exact Below.refl _ _ | assumption | refine st_drew ?_ | refine st_drewN ?_ _ | refine Below.setCell ?_ (by first | omega | (simp; done) | (simp; omega)) _ | refine Below.alloc ?_ (by first | omega | (simp; done) | (simp; omega)) _)))).mono ?_; rintro e w4 ⟨ad4, c4, rfl, -, hb4⟩; have T4 := hidden (T2.out.below hb4); have bC := onto bB hb4; clear hb4))
    exact bodyPost_ret (v := .tuple #[.slice (some ⟨_, 0, none⟩) 0 0, .int .i64 0, .bool false]) (by simp [results, Try.results17]) rfl (told_none HN.out (by first | exact bC | exact bB | exact bA))
  | true =>
  rw [hs3] at k3
  have hok := of_osB hs1
  have hrr := rng_iff.1 hs3
  clear hs1 hs3
  by_cases h200 : l.length = 200
  · have HN : Hid (Oa.insert l u r = ([], 0, false)) := insert_no (fun z => z.2.2.2.1 h200)
    have h200i : ((l.length : Int) == 200) = true := by simp; omega
    have h200n : (l.length == 200) = true := by simpa using h200
    clear h200
    go_enter Try.func17, Try.ntmps17
    go_wp2_with (first | (go_at_call 35; refine (k1 _ (HH.out _ (by repeat (first | exact Below.refl _ _ | assumption | refine st_drew ?_ | refine st_drewN ?_ _ | refine Below.setCell ?_ (by first | omega | (simp; done) | (simp; omega)) _ | refine Below.alloc ?_ (by first | omega | (simp; done) | (simp; omega)) _)))).mono ?_; rintro e w1 ⟨rfl, hb1⟩; have B1 := hidden (box_in hb1); have d0 := B1.out.1 0 _ rfl; have d1 := B1.out.1 1 _ rfl; have d2 := B1.out.1 2 _ rfl; have d3 := B1.out.1 3 _ rfl; have z1 := hb1.size; simp only [World.size_alloc] at z1; have bA := onto (show Below w.heap.size w _ from by repeat (first | exact Below.refl _ _ | assumption | refine st_drew ?_ | refine st_drewN ?_ _ | refine Below.setCell ?_ (by first | omega | (simp; done) | (simp; omega)) _ | refine Below.alloc ?_ (by first | omega | (simp; done) | (simp; omega)) _)) hb1; have T1 := hidden (TBox.below (W := w.alloc (.cells #[.int .i64 u.room, .int .i64 u.fr, .int .i64 u.to, .slice ua un uc] 31)) (heap_alloc_new w _) hb1); clear hb1) | (go_at_call 42; refine (k2 _ (HT.out _ (by repeat (first | exact Below.refl _ _ | assumption | refine st_drew ?_ | refine st_drewN ?_ _ | refine Below.setCell ?_ (by first | omega | (simp; done) | (simp; omega)) _ | refine Below.alloc ?_ (by first | omega | (simp; done) | (simp; omega)) _)))).mono ?_; rintro e w2 ⟨rfl, hb2⟩; have T2 := hidden (T1.out.below hb2); have bB := onto bA hb2; clear hb2) | (go_at_call 36; refine (k3 _).mono ?_; rintro e w3 ⟨rfl, rfl⟩) | (go_at_call 11; refine (k4 _ (HH.out _ (by repeat (first | exact Below.refl _ _ | assumption | refine st_drew ?_ | refine st_drewN ?_ _ | refine Below.setCell ?_ (by first | omega | (simp; done) | (simp; omega)) _ | refine Below.alloc ?_ (by first | omega | (simp; done) | (simp; omega)) _)))).mono ?_; rintro e w4 ⟨ad4, c4, rfl, -, hb4⟩; have T4 := hidden (T2.out.below hb4); have bC := onto bB hb4; clear hb4))
    exact bodyPost_ret (v := .tuple #[.slice (some ⟨_, 0, none⟩) 0 0, .int .i64 0, .bool false]) (by simp [results, Try.results17]) rfl (told_none HN.out (by first | exact bC | exact bB | exact bA))
  have h200i : ((l.length : Int) == 200) = false := by simp; omega
  have h200n : (l.length == 200) = false := by simpa using h200
  by_cases hcl : (clash l r).length = 0
  case neg =>
    have HN : Hid (Oa.insert l u r = ([], 0, false)) := insert_no (fun z => hcl z.2.2.2.2)
    have hcl2 : (0 : Int) < ((clash l r).length : Int) := by omega
    generalize (clash l r).length = cn at *
    go_enter Try.func17, Try.ntmps17
    go_wp2_with (first | (go_at_call 35; refine (k1 _ (HH.out _ (by repeat (first | exact Below.refl _ _ | assumption | refine st_drew ?_ | refine st_drewN ?_ _ | refine Below.setCell ?_ (by first | omega | (simp; done) | (simp; omega)) _ | refine Below.alloc ?_ (by first | omega | (simp; done) | (simp; omega)) _)))).mono ?_; rintro e w1 ⟨rfl, hb1⟩; have B1 := hidden (box_in hb1); have d0 := B1.out.1 0 _ rfl; have d1 := B1.out.1 1 _ rfl; have d2 := B1.out.1 2 _ rfl; have d3 := B1.out.1 3 _ rfl; have z1 := hb1.size; simp only [World.size_alloc] at z1; have bA := onto (show Below w.heap.size w _ from by repeat (first | exact Below.refl _ _ | assumption | refine st_drew ?_ | refine st_drewN ?_ _ | refine Below.setCell ?_ (by first | omega | (simp; done) | (simp; omega)) _ | refine Below.alloc ?_ (by first | omega | (simp; done) | (simp; omega)) _)) hb1; have T1 := hidden (TBox.below (W := w.alloc (.cells #[.int .i64 u.room, .int .i64 u.fr, .int .i64 u.to, .slice ua un uc] 31)) (heap_alloc_new w _) hb1); clear hb1) | (go_at_call 42; refine (k2 _ (HT.out _ (by repeat (first | exact Below.refl _ _ | assumption | refine st_drew ?_ | refine st_drewN ?_ _ | refine Below.setCell ?_ (by first | omega | (simp; done) | (simp; omega)) _ | refine Below.alloc ?_ (by first | omega | (simp; done) | (simp; omega)) _)))).mono ?_; rintro e w2 ⟨rfl, hb2⟩; have T2 := hidden (T1.out.below hb2); have bB := onto bA hb2; clear hb2) | (go_at_call 36; refine (k3 _).mono ?_; rintro e w3 ⟨rfl, rfl⟩) | (go_at_call 11; refine (k4 _ (HH.out _ (by repeat (first | exact Below.refl _ _ | assumption | refine st_drew ?_ | refine st_drewN ?_ _ | refine Below.setCell ?_ (by first | omega | (simp; done) | (simp; omega)) _ | refine Below.alloc ?_ (by first | omega | (simp; done) | (simp; omega)) _)))).mono ?_; rintro e w4 ⟨ad4, c4, rfl, -, hb4⟩; have T4 := hidden (T2.out.below hb4); have bC := onto bB hb4; clear hb4))
    exact bodyPost_ret (v := .tuple #[.slice (some ⟨_, 0, none⟩) 0 0, .int .i64 0, .bool false]) (by simp [results, Try.results17]) rfl (told_none HN.out (by first | exact bC | exact bB | exact bA))
  have HC : Hid (OpsOk l ∧ opB u = true ∧ isR r ∧ l.length ≠ 200 ∧ (clash l r).length = 0) := ⟨hok, hs2, hrr, h200, hcl⟩
  simp only [hcl] at k4
  have hl2 := hok.1
  have HOK := hidden hok
  have HUO := hidden hs2
  clear hs2 hok hcl
  go_enter Try.func17, Try.ntmps17
  go_upto_region 3 with (first | (go_at_call 35; refine (k1 _ (HH.out _ (by repeat (first | exact Below.refl _ _ | assumption | refine st_drew ?_ | refine st_drewN ?_ _ | refine Below.setCell ?_ (by first | omega | (simp; done) | (simp; omega)) _ | refine Below.alloc ?_ (by first | omega | (simp; done) | (simp; omega)) _)))).mono ?_; rintro e w1 ⟨rfl, hb1⟩; have B1 := hidden (box_in hb1); have d0 := B1.out.1 0 _ rfl; have d1 := B1.out.1 1 _ rfl; have d2 := B1.out.1 2 _ rfl; have d3 := B1.out.1 3 _ rfl; have z1 := hb1.size; simp only [World.size_alloc] at z1; have bA := onto (show Below w.heap.size w _ from by repeat (first | exact Below.refl _ _ | assumption | refine st_drew ?_ | refine st_drewN ?_ _ | refine Below.setCell ?_ (by first | omega | (simp; done) | (simp; omega)) _ | refine Below.alloc ?_ (by first | omega | (simp; done) | (simp; omega)) _)) hb1; have T1 := hidden (TBox.below (W := w.alloc (.cells #[.int .i64 u.room, .int .i64 u.fr, .int .i64 u.to, .slice ua un uc] 31)) (heap_alloc_new w _) hb1); clear hb1) | (go_at_call 42; refine (k2 _ (HT.out _ (by repeat (first | exact Below.refl _ _ | assumption | refine st_drew ?_ | refine st_drewN ?_ _ | refine Below.setCell ?_ (by first | omega | (simp; done) | (simp; omega)) _ | refine Below.alloc ?_ (by first | omega | (simp; done) | (simp; omega)) _)))).mono ?_; rintro e w2 ⟨rfl, hb2⟩; have T2 := hidden (T1.out.below hb2); have bB := onto bA hb2; clear hb2) | (go_at_call 36; refine (k3 _).mono ?_; rintro e w3 ⟨rfl, rfl⟩) | (go_at_call 11; refine (k4 _ (HH.out _ (by repeat (first | exact Below.refl _ _ | assumption | refine st_drew ?_ | refine st_drewN ?_ _ | refine Below.setCell ?_ (by first | omega | (simp; done) | (simp; omega)) _ | refine Below.alloc ?_ (by first | omega | (simp; done) | (simp; omega)) _)))).mono ?_; rintro e w4 ⟨ad4, c4, rfl, -, hb4⟩; have T4 := hidden (T2.out.below hb4); have bC := onto bB hb4; clear hb4))
  have hall : ∀ x ∈ l, opB x = true := fun x hx => HOK.out.mem hx
  have hteam : ∀ x ∈ l, x.team.length ≤ 8 ∧ 1 ≤ x.team.length := fun x hx => by have := (of_opB (hall x hx)).2.2.2.2; exact ⟨this.2.1, this.1⟩
  have HAL := hidden hall
  have HTE := hidden hteam
  have zC := bC.size
  obtain ⟨i0, hv0, hv1, hv2, hv3⟩ := info_partsO infoOp
  obtain ⟨⟨t0, t1, t2, t3⟩, -⟩ := T4.out.four
  have tl := T4.out.lt
  clear hall hteam
  go_cut [9, 10, 11] from 41 to 46 (fun lv sv zv wx => ∃ (L0 S0 : List (Opn × Value)) (w3 : World) (adL : Option Addr) (cL : Nat) (adS : Option Addr) (cS : Nat), lv = .slice adL l.length cL ∧ sv = .slice adS S0.length cS ∧ zv = .int .i64 0 ∧ L0.map Prod.fst = l ∧ w3.ownsRow w4.heap.size 31 4 (.slice adL l.length cL) l.length (cellsO L0) ∧ Teams w3 w4.heap.size L0 ∧ Below w4.heap.size w4 w3 ∧ S0.map Prod.fst = stay l u r l.length ∧ wx.ownsRow w3.heap.size 31 4 (.slice adS S0.length cS) S0.length (cellsO S0) ∧ (∀ p ∈ S0, IRw w p.2 p.1.team) ∧ Below w3.heap.size w3 wx)
  case first =>
    first | go_region_with (first
      | (go_at_call 46; refine (opsanew_any ao l.length cap l _ (HH.out _ (by repeat (first | exact Below.refl _ _ | assumption | refine st_drew ?_ | refine st_drewN ?_ _ | refine Below.setCell ?_ (by first | omega | (simp; done) | (simp; omega)) _ | refine Below.alloc ?_ (by first | omega | (simp; done) | (simp; omega)) _))) (by omega) HTE.out).mono ?_; rintro e w5 ⟨L, vL, rfl, hL1, hL2, hL3, hb5⟩; have hLl : L.length = l.length := by rw [← hL1, List.length_map]
         rw [hLl] at hL2; obtain ⟨aL, cL, rfl⟩ := ownO_slice hL2; have b5 := onto (show Below w4.heap.size w4 _ from by repeat (first | exact Below.refl _ _ | assumption | refine st_drew ?_ | refine st_drewN ?_ _ | refine Below.setCell ?_ (by first | omega | (simp; done) | (simp; omega)) _ | refine Below.alloc ?_ (by first | omega | (simp; done) | (simp; omega)) _)) hb5; obtain ⟨⟨s0, s1, s2, s3⟩, -⟩ := (T4.out.below b5).four; have b5w := onto bC b5; have z5 := b5.size; have z5w := b5w.size; have L1 := hidden hL1; have L2 := hidden hL2; have L3 := hidden hL3; clear hL1 hL2 hL3 hb5 hLl)
      | (go_at_call 47; refine (staying_any u ua un uc ao l.length cap l r w _ (by repeat (first | exact Below.refl _ _ | assumption | refine st_drew ?_ | refine st_drewN ?_ _ | refine Below.setCell ?_ (by first | omega | (simp; done) | (simp; omega)) _ | refine Below.alloc ?_ (by first | omega | (simp; done) | (simp; omega)) _)) HJ.out HU.out HUO.out (by omega) HAL.out hrr).mono ?_; rintro e w6 ⟨S, vS, rfl, hS1, hS2, hS3, hb6⟩; obtain ⟨aS, cS, rfl⟩ := ownO_slice hS2)) | fail
    all_goals go_wp2_with fail
    all_goals go_meet
    all_goals exact ⟨L, S, w5, aL, cL, aS, cS, rfl, rfl, rfl, L1.out, L2.out, L3.out, b5, hS1, hS2, hS3, hb6⟩
  case rest =>
    obtain ⟨L0, S0, w3, adL, cL, adS, cS, rfl, rfl, rfl, hL1, hL2, hL3, hb3, hS1, hS2, hS3, hbS⟩ := hcut
    have T3 := T4.out.below hb3
    have hw3 := onto bC hb3
    have z3 := hb3.size
    have zw := hw3.size
    have hLl : L0.length = l.length := by rw [← hL1, List.length_map]
    have hSl : S0.length ≤ l.length + 1 := by have := stay_len l u r l.length; rw [← hS1, List.length_map] at this; exact this
    obtain ⟨GL, hG1, hG2, hG3⟩ : ∃ GL, w4.heap.size ≤ GL ∧ (∀ k, (Value.slice adL l.length cL).ownBlock = some k → k = GL ∧ k < w3.heap.size) ∧ (0 < l.length → adL = some ⟨GL, 0, none⟩) := by
      rcases hL2.2 with ⟨h1, h2⟩ | ⟨g, c, cur, h1, h2, h3, -⟩
      · refine ⟨w4.heap.size, Nat.le_refl _, fun k hk => ?_, fun h => by omega⟩
        rw [h1] at hk; cases hk
      · simp only [Value.slice.injEq] at h1
        refine ⟨g, h2, fun k hk => ?_, fun _ => h1.1⟩
        rw [h1.1] at hk
        obtain rfl : g = k := Option.some.inj hk
        exact ⟨rfl, (Array.getElem?_eq_some_iff.1 h3).1⟩
    have HG2 := hidden hG2
    have HG3 := hidden hG3
    have hGu : w.heap.size ≠ GL := by omega
    have HI0 : Hid (∀ p ∈ S0, opB p.1 = true ∧ IRw w3 p.2 p.1.team ∧ ∀ k, p.2.ownBlock = some k → k ≠ GL) := by
      intro p hp
      have hpo : opB p.1 = true := by
        have hm : p.1 ∈ stay l u r l.length := by rw [← hS1]; exact List.mem_map_of_mem hp
        rcases stay_mem _ _ hm with e | e
        · rw [e]; exact HUO.out
        · exact HAL.out _ e
      refine ⟨hpo, (hS3 p hp).below hw3, fun k hk => ?_⟩
      obtain ⟨ta, tc, e⟩ := (hS3 p hp).form
      obtain ⟨y, hy⟩ := some_of p.1.team 0 (by have := (of_opB hpo).2.2.2.2.1; omega)
      have hr1 := hS3 p hp
      rw [e] at hr1 hk
      obtain ⟨b, off, rfl, hb, -⟩ := hr1.at hy
      obtain rfl : b = k := Option.some.inj hk
      omega
    have hst := (Stdy.refl w3 GL).step hbS
    have hsL := ownO_below hL2 hbS
    have HL3 := hidden hL3
    have HB3 := hidden hw3
    have HT3 := hidden T3
    have HL2 := hidden hL2
    have HI1 : Hid (ins l u r 0 = some ([], S0.map Prod.fst, 0)) := by rw [Hid, hS1]; rfl
    have HM0 : Hid (L0.map Prod.fst = [] ++ l.drop 0) := by rw [Hid, hL1]; rfl
    clear hS3 hL2 hL1 hb3 hbS T3 hw3 hG2 hG3 hS1
    clear t0 t1 t2 t3 tl
    go_wp2_with fail
    go_loopw [10, 11, 12, 13, 14, 49] (fun sv hv _ _ _ iv wr => ∃ (i : Nat) (P : List Opn) (L S : List (Opn × Value)) (hm : Int), i ≤ l.length ∧ iv = .int .i64 i ∧ hv = .int .i64 hm ∧ Hid (ins l u r i = some (P, S.map Prod.fst, hm)) ∧ Hid (L.map Prod.fst = P ++ l.drop i) ∧ L.length = l.length ∧ 0 ≤ hm ∧ hm ≤ i * 10000000 ∧ S.length ≤ l.length + 1 + i ∧ wr.ownsRow w4.heap.size 31 4 (.slice adL l.length cL) l.length (cellsO L) ∧ Teams w3 w4.heap.size L ∧ (∃ ad c, sv = .slice ad S.length c ∧ wr.ownsRow w3.heap.size 31 4 (.slice ad S.length c) S.length (cellsO S)) ∧ Hid (∀ p ∈ S, opB p.1 = true ∧ IRw w3 p.2 p.1.team ∧ ∀ k, p.2.ownBlock = some k → k ≠ GL) ∧ Stdy w3 GL wr) (fun _ _ _ _ _ iv _ => l.length - (intOf iv).toNat)
    case atStart => exact ⟨0, [], L0, S0, 0, Nat.zero_le _, rfl, rfl, HI1, HM0, hLl, by omega, by omega, by omega, hsL, hL3, ⟨_, _, rfl, hS2⟩, HI0, hst⟩
    case round =>
      clear hS2 hst hsL HI0 HI1 HM0 hL3 hSl hLl
      obtain ⟨i, P, L, S, hm, hi, rfl, rfl, HI, HM, hLl, hm0, hm1, hSl, hoL, hTm, ⟨ad, c, rfl, hoS⟩, HS, hst⟩ := hrel
      have zst := hst.size
      have bw := hst.below HB3.out (show w.heap.size ≤ GL by omega) (by omega)
      have zbw := bw.size
      obtain ⟨⟨t0, t1, t2, t3⟩, -⟩ := (hst.tbox HT3.out hGu).four
      have tl := (hst.tbox HT3.out hGu).lt
      have TU := hidden (hst.tbox HT3.out hGu)
      by_cases hlt : i < l.length
      · have hlti : (i : Int) < (l.length : Int) := by omega
        obtain ⟨x, hx⟩ := some_of l i hlt
        have hPl := ins_plen i _ _ _ hi HI.out
        obtain ⟨tv, hp⟩ := pair_at HM.out hPl hx
        have hxo := HAL.out x (List.mem_of_getElem? hx)
        obtain ⟨-, hx1, hx2, hx3, hx4⟩ := of_opB hxo
        have hxl := hx4.2.1
        have hxp := hx4.1
        have hTO := hTm.1 (x, tv) (List.mem_of_getElem? hp)
        have hTne : ∀ k, tv.ownBlock = some k → k ≠ GL := fun k hk => by
          have e := HG3.out (by omega)
          exact (own_apart hTO HL2.out (by decide)) k hk GL (by rw [e]; rfl)
        have hIR := own_irw hTO
        obtain ⟨at1, ct1, htv⟩ : ∃ a c, tv = .slice a x.team.length c := ownO_slice hTO
        subst htv
        have e := HG3.out (by omega)
        subst e
        have hGlt : GL < w3.heap.size := (HG2.out GL rfl).2
        have hIRw := hst.irw hIR hTne
        obtain ⟨⟨c0, c1, c2, c3⟩, cf, gl⟩ := own_cells4 hoL hp hLl
        have hK := fun W hW1 hW2 => iwhy_any x u at1 x.team.length ct1 ua un uc r W (tms_of hxo) (tms_of HUO.out) hrr hW1 hW2 (by omega) hu
        unfold aO at hK
        have HR1 := hidden (fun W (hW : Below wr.heap.size wr W) => hIRw.below hW)
        have HX := hidden hx
        have HP := hidden hp
        have HTm := hidden hTm
        have HOL := hidden hoL
        have HOS := hidden hoS
        have HST := hidden hst
        have HXO := hidden hxo
        have HIR := hidden hIR
        have HNE := hidden hTne
        clear hx hp hTm hoL hoS hst hxo hIR hTne hIRw hTO hx4
        by_cases q : why x u r = 0
        · have HI2 := hidden (ins_stay HI.out HX.out q)
          have HM2 := hidden (pair_keep HM.out HX.out)
          rw [q] at hK
          clear HI HM q
          go_wp2_with (go_at_call 37; refine (hK _ (HR1.out _ (by repeat (first | exact Below.refl _ _ | assumption | refine st_drew ?_ | refine st_drewN ?_ _ | refine Below.setCell ?_ (by first | omega | (simp; done) | (simp; omega)) _ | refine Below.alloc ?_ (by first | omega | (simp; done) | (simp; omega)) _))) (HT.out _ (by repeat (first | exact Below.refl _ _ | assumption | refine st_drew ?_ | refine st_drewN ?_ _ | refine Below.setCell ?_ (by first | omega | (simp; done) | (simp; omega)) _ | refine Below.alloc ?_ (by first | omega | (simp; done) | (simp; omega)) _)))).mono ?_; rintro e w5 ⟨rfl, hb5⟩; have bD := onto (show Below wr.heap.size wr _ from by repeat (first | exact Below.refl _ _ | assumption | refine st_drew ?_ | refine st_drewN ?_ _ | refine Below.setCell ?_ (by first | omega | (simp; done) | (simp; omega)) _ | refine Below.alloc ?_ (by first | omega | (simp; done) | (simp; omega)) _)) hb5; clear hb5)
          go_roundw
          case rel => exact ⟨i + 1, _, L, S, hm, by omega, rfl, rfl, HI2, HM2, hLl, by omega, by omega, by omega, ownO_below HOL.out bD, HTm.out, ⟨_, _, rfl, ownO_below HOS.out bD⟩, HS, HST.out.step bD⟩
          case measure => simp [intOf]; omega
        · have hwn : (why x u r == 0) = false := by simpa using q
          have HIW := hidden q
          have hSo := HST.out
          have hE := fun W (hb : Below wr.heap.size wr W) => among_any x at1 x.team.length ct1 ad S.length c (S.map Prod.fst) r W (by
              have := own_orw (ownO_below HOS.out hb) (fun p hp => ((hSo.step hb).irw (HS.out p hp).2.1 (HS.out p hp).2.2))
              exact this) (by rw [List.length_map]; omega) (HR1.out W hb) HXO.out (fun y hy => by
              obtain ⟨p, hp, rfl⟩ := List.mem_map.1 hy
              exact (HS.out p hp).1) hrr
          unfold aO at hE
          have hEb := (earl_early (S.map Prod.fst) x r).bd HXO.out
          have HNO := hidden (fun (he : earl (S.map Prod.fst) x r < 0) => insert_dead HC.out (ins_none HI.out HX.out HIW.out he) (by omega))
          have HMV := hidden (fun (he : ¬ earl (S.map Prod.fst) x r < 0) => ins_move HI.out HX.out HIW.out he)
          generalize earl (S.map Prod.fst) x r = t at *
          generalize why x u r = wy at *
          obtain ⟨hE1, hE2, hE3, hE4⟩ := hEb
          clear hSo
          by_cases ht : t < 0
          · go_wp2_with (first | (go_at_call 37; refine (hK _ (HR1.out _ (by repeat (first | exact Below.refl _ _ | assumption | refine st_drew ?_ | refine st_drewN ?_ _ | refine Below.setCell ?_ (by first | omega | (simp; done) | (simp; omega)) _ | refine Below.alloc ?_ (by first | omega | (simp; done) | (simp; omega)) _))) (HT.out _ (by repeat (first | exact Below.refl _ _ | assumption | refine st_drew ?_ | refine st_drewN ?_ _ | refine Below.setCell ?_ (by first | omega | (simp; done) | (simp; omega)) _ | refine Below.alloc ?_ (by first | omega | (simp; done) | (simp; omega)) _)))).mono ?_; rintro e w5 ⟨rfl, hb5⟩; obtain ⟨e0, e1, e2, e3, z5⟩ := one_box hb5; have bD := onto (show Below wr.heap.size wr _ from by repeat (first | exact Below.refl _ _ | assumption | refine st_drew ?_ | refine st_drewN ?_ _ | refine Below.setCell ?_ (by first | omega | (simp; done) | (simp; omega)) _ | refine Below.alloc ?_ (by first | omega | (simp; done) | (simp; omega)) _)) hb5; clear hb5) | (go_at_call 43; refine (hE _ bD).mono ?_; rintro e w6 ⟨rfl, hb6⟩; have f0 := (hb6.cell (p := ⟨wr.heap.size, 0, none⟩) (by show wr.heap.size < _; omega)).trans e0; have f1 := (hb6.cell (p := ⟨wr.heap.size, 1, none⟩) (by show wr.heap.size < _; omega)).trans e1; have f2 := (hb6.cell (p := ⟨wr.heap.size, 2, none⟩) (by show wr.heap.size < _; omega)).trans e2; have f3 := (hb6.cell (p := ⟨wr.heap.size, 3, none⟩) (by show wr.heap.size < _; omega)).trans e3; have bE := onto bD hb6; have bEw := onto bw bE; have zE := bE.size; clear hb6))
            exact bodyPost_ret (v := .tuple #[.slice (some ⟨_, 0, none⟩) 0 0, .int .i64 0, .bool false]) (by simp [results, Try.results17]) rfl (told_none (HNO.out ht) bEw)
          · obtain ⟨hE5, hE6⟩ := hE4 (by omega)
            have hB := fun W => begin_any x at1 x.team.length ct1 t W (tms_of HXO.out) (by omega)
            unfold aO at hB
            simp only [mv] at hB
            have HI2 := hidden (HMV.out ht)
            have HM2 := hidden (pair_set (y := mv x t) (tv := .slice at1 x.team.length ct1) HM.out hPl HX.out)
            have HS2 : Hid (∀ p ∈ S ++ [(mv x t, Value.slice at1 x.team.length ct1)], opB p.1 = true ∧ IRw w3 p.2 p.1.team ∧ ∀ k, p.2.ownBlock = some k → k ≠ GL) := fun p hp => by
              rcases List.mem_append.1 hp with hp | hp
              · exact HS.out p hp
              · rw [List.mem_singleton.1 hp]; exact ⟨opB_mv HXO.out (by omega) hE6, HIR.out, HNE.out⟩
            have HTm2 := hidden (HTm.out.set (y := mv x t) HP.out rfl)
            clear HNO HMV hE4 HI HM
            go_upto_region 13 with (first | (go_at_call 37; refine (hK _ (HR1.out _ (by repeat (first | exact Below.refl _ _ | assumption | refine st_drew ?_ | refine st_drewN ?_ _ | refine Below.setCell ?_ (by first | omega | (simp; done) | (simp; omega)) _ | refine Below.alloc ?_ (by first | omega | (simp; done) | (simp; omega)) _))) (HT.out _ (by repeat (first | exact Below.refl _ _ | assumption | refine st_drew ?_ | refine st_drewN ?_ _ | refine Below.setCell ?_ (by first | omega | (simp; done) | (simp; omega)) _ | refine Below.alloc ?_ (by first | omega | (simp; done) | (simp; omega)) _)))).mono ?_; rintro e w5 ⟨rfl, hb5⟩; obtain ⟨e0, e1, e2, e3, z5⟩ := one_box hb5; have bD := onto (show Below wr.heap.size wr _ from by repeat (first | exact Below.refl _ _ | assumption | refine st_drew ?_ | refine st_drewN ?_ _ | refine Below.setCell ?_ (by first | omega | (simp; done) | (simp; omega)) _ | refine Below.alloc ?_ (by first | omega | (simp; done) | (simp; omega)) _)) hb5; clear hb5) | (go_at_call 43; refine (hE _ bD).mono ?_; rintro e w6 ⟨rfl, hb6⟩; have f0 := (hb6.cell (p := ⟨wr.heap.size, 0, none⟩) (by show wr.heap.size < _; omega)).trans e0; have f1 := (hb6.cell (p := ⟨wr.heap.size, 1, none⟩) (by show wr.heap.size < _; omega)).trans e1; have f2 := (hb6.cell (p := ⟨wr.heap.size, 2, none⟩) (by show wr.heap.size < _; omega)).trans e2; have f3 := (hb6.cell (p := ⟨wr.heap.size, 3, none⟩) (by show wr.heap.size < _; omega)).trans e3; have bE := onto bD hb6; have bEw := onto bw bE; have zE := bE.size; clear hb6) | (go_at_call 48; refine (hB _).mono ?_; rintro e w7 ⟨rfl, hb7⟩; have bF := onto bE hb7; have zF := bF.size; have O7 := hidden (ownO_below HOL.out bF); obtain ⟨⟨l0, l1, l2, l3⟩, lf, lg⟩ := own_cells4 O7.out HP.out hLl; clear hb7))
            have OS8 := own_set (own_set (own_set (own_set (b := GL) (o := i * 4) (ownO_below HOS.out bF) (by omega) (.int .i64 x.room)) (b := GL) (o := i * 4 + 1) (by omega) (.int .i64 t)) (b := GL) (o := i * 4 + 2) (by omega) (.int .i64 (t + (x.to - x.fr)))) (b := GL) (o := i * 4 + 3) (by omega) (.slice at1 x.team.length ct1)
            have OL8 := own_put4 O7.out (show i < L.length by omega) hLl ⟨x.room, t, t + (x.to - x.fr), x.team⟩ (.slice at1 x.team.length ct1)
            have ST8 := ((((HST.out.step bF).set (i * 4) (.int .i64 x.room)).set (i * 4 + 1) (.int .i64 t)).set (i * 4 + 2) (.int .i64 (t + (x.to - x.fr)))).set (i * 4 + 3) (.slice at1 x.team.length ct1)
            dsimp only at OL8
            generalize ((((w7.setCell ⟨GL, i * 4, none⟩ (.int .i64 x.room)).setCell ⟨GL, i * 4 + 1, none⟩ (.int .i64 t)).setCell ⟨GL, i * 4 + 2, none⟩ (.int .i64 (t + (x.to - x.fr)))).setCell ⟨GL, i * 4 + 3, none⟩ (.slice at1 x.team.length ct1)) = W8 at *
            obtain ⟨⟨y0, y1, y2, y3⟩, -, yl⟩ := own_cells4 (i := i) (x := ⟨x.room, t, t + (x.to - x.fr), x.team⟩) (tv := .slice at1 x.team.length ct1) OL8 (by rw [List.getElem?_set_self (by omega)]) (by rw [List.length_set]; exact hLl)
            dsimp only at y0 y1 y2
            have OL9 := hidden OL8
            have OS9 := hidden OS8
            have ST9 := hidden ST8
            have z8 := ST8.size
            clear OL8 OS8 ST8 l0 l1 l2 l3 lf lg O7 bF bE bD bEw
            go_wp2_with (at_builtin; refine wpList_append_own _ rfl (.tmp 78) (.tmp 83) 24 rfl w3.heap.size 31 i0 (.agg #[.int .i64 0, .int .i64 0, .int .i64 0, .slice none 0 0]) 4 48 Try.underlying24 hv0 hv1 hv2 hv3 rfl (by decide) _ S.length (cellsO S) rfl (OS9.out.alloc _) ⟨W8.heap.size, 0, none⟩ 1 1 [.int .i64 x.room, .int .i64 t, .int .i64 (t + (x.to - x.fr)), .slice at1 x.team.length ct1] rfl rfl (cell4O _ _ _ _ _ _) (four_oneO _ _ _ _ _ _) (by unfold maxLen; omega) (by omega) (by simp; omega) ?_; intro v9 w9 ho9 hg9 hnn9; have hO9 := hidden ho9; have hG9 := hidden hg9; obtain ⟨ad9, c9, rfl⟩ := ownO_slice ho9; clear ho9 hg9 hnn9)
            have st9 := (ST9.out.step (show Below W8.heap.size W8 (W8.alloc (.cells #[.int .i64 x.room, .int .i64 t, .int .i64 (t + (x.to - x.fr)), .slice at1 x.team.length ct1] 31)) from (Below.refl _ _).alloc (Nat.le_refl _) _)).grown hG9.out (fun k hk => (ownO_lt HOS.out k hk).1)
            have O9L := own_grownO (OL9.out.alloc _) hG9.out (fun k hk hk2 => by have z1 := (HG2.out k hk).2; have z2 := (ownO_lt HOS.out k hk2).1; omega)
            go_roundw
            case rel => exact ⟨i + 1, _, L.set i (mv x t, .slice at1 x.team.length ct1), S ++ [(mv x t, .slice at1 x.team.length ct1)], hm + (t - x.fr), by omega, rfl, rfl, by rw [Hid, List.map_append]; exact HI2.out, HM2, by rw [List.length_set]; exact hLl, by omega, by omega, by rw [List.length_append]; simp; omega, O9L, HTm2.out, ⟨ad9, c9, by rw [List.length_append]; rfl, by rw [cellsO_app, List.length_append]; exact hO9.out⟩, HS2, st9⟩
            case measure => simp [intOf]; omega
      · have hlti : ¬ (i : Int) < (l.length : Int) := by omega
        have hil : i = l.length := by omega
        have hPL : Hid (L.map Prod.fst = P) := by rw [Hid, HM.out, hil, List.drop_length, List.append_nil]
        have HF : Hid (Oa.insert l u r = (P ++ [u], hm, true)) := insert_yes HC.out (by rw [← hil]; exact HI.out)
        have hul := (of_opB HUO.out).2.2.2.2
        have hA := fun W hW => anew_any u ua un uc W hW hu hul.1
        unfold aO at hA
        have TW := hidden (hTm.stdy hst HL2.out (fun hpos => by rw [HG3.out (by omega)]; rfl))
        clear hil HI HM
        go_wp2_with (first | (go_at_call 49; refine (hA _ (HT.out _ (by repeat (first | exact Below.refl _ _ | assumption | refine st_drew ?_ | refine st_drewN ?_ _ | refine Below.setCell ?_ (by first | omega | (simp; done) | (simp; omega)) _ | refine Below.alloc ?_ (by first | omega | (simp; done) | (simp; omega)) _)))).mono ?_; rintro e w5 ⟨a5, c5, rfl, ho5, hb5⟩; have O5 := hidden (ownO_below hoL hb5); have T5 := hidden ho5; have B5 := hidden hb5; have z5 := hb5.size; clear ho5 hb5) | (at_builtin; refine wpList_append_own _ rfl (.tmp 86) (.tmp 89) 24 rfl w4.heap.size 31 i0 (.agg #[.int .i64 0, .int .i64 0, .int .i64 0, .slice none 0 0]) 4 48 Try.underlying24 hv0 hv1 hv2 hv3 rfl (by decide) _ l.length (cellsO L) rfl (O5.out.alloc _) ⟨w5.heap.size, 0, none⟩ 1 1 [.int .i64 u.room, .int .i64 u.fr, .int .i64 u.to, .slice a5 u.team.length c5] rfl rfl (cell4O _ _ _ _ _ _) (four_oneO _ _ _ _ _ _) (by unfold maxLen; omega) (by omega) (by simp; omega) ?_; intro v9 w9 ho9 hg9 hnn9; have hO9 := hidden ho9; have hG9 := hidden hg9; obtain ⟨ad9, c9, rfl⟩ := ownO_slice ho9; clear ho9 hg9 hnn9))
        have T9 := (((TW.out.below B5.out).below (show Below w5.heap.size w5 (w5.alloc (.cells #[.int .i64 u.room, .int .i64 u.fr, .int .i64 u.to, .slice a5 u.team.length c5] 31)) from (Below.refl _ _).alloc (Nat.le_refl _) _)).snoc (p := (u, .slice a5 u.team.length c5)) (ownO_below T5.out ((Below.refl _ _).alloc (Nat.le_refl _) _)) (by omega) (fun q hq k hk => ((TW.out.lt q hq k hk).2))).grown (O5.out.alloc _) hG9.out
        have b9 := grown_belowO ((onto bw B5.out).alloc (by omega) _) (by simp; omega) hG9.out (fun k hk => by have := (HG2.out k hk).1; omega)
        exact bodyPost_ret (v := .tuple #[.slice ad9 (l.length + 1) c9, .int .i64 hm, .bool true]) (by simp [results, Try.results17]) rfl ⟨L ++ [(u, .slice a5 u.team.length c5)], _, hm, true, rfl, by rw [HF.out, List.map_append, hPL.out]; rfl, by rw [cellsO_app, List.length_append, hLl]; exact own_base hO9.out (by omega), T9.base (by omega), b9⟩
end Go.Proofs.Ytcapmobhgffnhaa
