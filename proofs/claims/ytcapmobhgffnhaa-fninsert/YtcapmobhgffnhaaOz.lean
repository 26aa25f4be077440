/-
  An emergency, as the specification makes room for it.
-/
import Derived.Test.YtcapmobhgffnhaaOw
import Derived.Test.YtcapmobhgffnhaaOyb
import Derived.Test.YtcapmobhgffnhaaOj
import Derived.Test.YtcapmobhgffnhaaOt
import Derived.Maps.AppendAt
namespace Go.Proofs.Ytcapmobhgffnhaa
open Go.RowKit Va Oa
set_option linter.unusedVariables false

theorem TBox.off {W : World} {B b2 e s n : Nat} {vs : Array Value} {t : TypeId} {v : Value} {xs : List Value} (h : TBox W B vs t) (ho : W.ownsRow b2 e s v n xs) (hlt : B < b2) : ∀ k, v.ownBlock = some k → k ≠ B := fun k hk => by have := (ownO_lt ho k hk).1; omega

set_option maxRecDepth 20000 in
set_option maxHeartbeats 8000000 in
theorem sinsert_any (u : Opn) (ua : Option Addr) (un uc : Nat) (ao : Option Addr) (n cap : Nat) (l : List Opn) (r : Int) (w : World) (h : ORw w (.slice ao n cap) l) (hn : l.length ≤ 1048576) (ht : ∀ x ∈ l, x.team.length ≤ 1048576)
    (hR : IRw w (.slice ua un uc) u.team) (hu : u.team.length ≤ 1048576) :
    Calls Try.prog 18 #[.slice ao n cap, aO u (.slice ua un uc), .int .i64 r] w (Told3 w l u r) := by
  obtain rfl := h.len
  have k1 := fun W hW => sops_any ao l.length cap l W hW hn ht
  have k2 := fun W hW => sright_any u ua un uc W hW hu
  have k3 := fun W => (lin_any r 0 1440 W).mono (fun e w' (h : _ ∧ _) => (⟨h.1, h.2.symm⟩ : _ ∧ w' = W))
  have k4 := fun W hW => sclash_any ao l.length cap l r W hW hn ht
  have HH := hidden (fun W (hW : Below w.heap.size w W) => h.below hW)
  have HT := hidden (fun W (hW : Below w.heap.size w W) => hR.below hW)
  have HJ := hidden h
  have HU := hidden hR
  clear h hR
  unfold aO at *
  cases hs1 : osB l with
  | false =>
    rw [hs1] at k1
    have HN : Hid (Oa.insert l u r = ([], 0, false)) := insert_no (fun z => by rw [osB_true z.1] at hs1; cases hs1)
    clear hs1
    go_enter Try.func18, Try.ntmps18
    go_wp2_with (first | (go_at_call 38; refine (k1 _ (HH.out _ (by repeat (first | exact Below.refl _ _ | assumption | refine st_drew ?_ | refine st_drewN ?_ _ | refine Below.setCell ?_ (by first | omega | (simp; done) | (simp; omega)) _ | refine Below.alloc ?_ (by first | omega | (simp; done) | (simp; omega)) _)))).mono ?_; rintro e w1 ⟨rfl, hb1⟩; have B1 := hidden (box_in hb1); have d0 := B1.out.1 0 _ rfl; have d1 := B1.out.1 1 _ rfl; have d2 := B1.out.1 2 _ rfl; have d3 := B1.out.1 3 _ rfl; have z1 := hb1.size; simp only [World.size_alloc] at z1; have bA := onto (show Below w.heap.size w _ from by repeat (first | exact Below.refl _ _ | assumption | refine st_drew ?_ | refine st_drewN ?_ _ | refine Below.setCell ?_ (by first | omega | (simp; done) | (simp; omega)) _ | refine Below.alloc ?_ (by first | omega | (simp; done) | (simp; omega)) _)) hb1; have T1 := hidden (TBox.below (W := w.alloc (.cells #[.int .i64 u.room, .int .i64 u.fr, .int .i64 u.to, .slice ua un uc] 31)) (heap_alloc_new w _) hb1); clear hb1) | (go_at_call 44; refine (k2 _ (HT.out _ (by repeat (first | exact Below.refl _ _ | assumption | refine st_drew ?_ | refine st_drewN ?_ _ | refine Below.setCell ?_ (by first | omega | (simp; done) | (simp; omega)) _ | refine Below.alloc ?_ (by first | omega | (simp; done) | (simp; omega)) _)))).mono ?_; rintro e w2 ⟨rfl, hb2⟩; have T2 := hidden (T1.out.below hb2); have bB := onto bA hb2; clear hb2) | (go_at_call 39; refine (k3 _).mono ?_; rintro e w3 ⟨rfl, rfl⟩) | (go_at_call 12; refine (k4 _ (HH.out _ (by repeat (first | exact Below.refl _ _ | assumption | refine st_drew ?_ | refine st_drewN ?_ _ | refine Below.setCell ?_ (by first | omega | (simp; done) | (simp; omega)) _ | refine Below.alloc ?_ (by first | omega | (simp; done) | (simp; omega)) _)))).mono ?_; rintro e w4 ⟨ad4, c4, rfl, -, hb4⟩; have T4 := hidden (T2.out.below hb4); have bC := onto bB hb4; obtain ⟨⟨t0, t1, t2, t3⟩, -⟩ := T4.out.four; have tl0 := T4.out.lt; clear hb4))
    exact bodyPost_ret (v := .tuple #[.slice (some ⟨_, 0, none⟩) 0 0, .int .i64 0, .bool false]) (by simp [results, Try.results18]) rfl (told_none HN.out (by first | exact bC | exact bB | exact bA))
  | true =>
  rw [hs1] at k1
  cases hs2 : opB u with
  | false =>
    rw [hs2] at k2
    have HN : Hid (Oa.insert l u r = ([], 0, false)) := insert_no (fun z => by rw [z.2.1] at hs2; cases hs2)
    clear hs1 hs2
    go_enter Try.func18, Try.ntmps18
    go_wp2_with (first | (go_at_call 38; refine (k1 _ (HH.out _ (by repeat (first | exact Below.refl _ _ | assumption | refine st_drew ?_ | refine st_drewN ?_ _ | refine Below.setCell ?_ (by first | omega | (simp; done) | (simp; omega)) _ | refine Below.alloc ?_ (by first | omega | (simp; done) | (simp; omega)) _)))).mono ?_; rintro e w1 ⟨rfl, hb1⟩; have B1 := hidden (box_in hb1); have d0 := B1.out.1 0 _ rfl; have d1 := B1.out.1 1 _ rfl; have d2 := B1.out.1 2 _ rfl; have d3 := B1.out.1 3 _ rfl; have z1 := hb1.size; simp only [World.size_alloc] at z1; have bA := onto (show Below w.heap.size w _ from by repeat (first | exact Below.refl _ _ | assumption | refine st_drew ?_ | refine st_drewN ?_ _ | refine Below.setCell ?_ (by first | omega | (simp; done) | (simp; omega)) _ | refine Below.alloc ?_ (by first | omega | (simp; done) | (simp; omega)) _)) hb1; have T1 := hidden (TBox.below (W := w.alloc (.cells #[.int .i64 u.room, .int .i64 u.fr, .int .i64 u.to, .slice ua un uc] 31)) (heap_alloc_new w _) hb1); clear hb1) | (go_at_call 44; refine (k2 _ (HT.out _ (by repeat (first | exact Below.refl _ _ | assumption | refine st_drew ?_ | refine st_drewN ?_ _ | refine Below.setCell ?_ (by first | omega | (simp; done) | (simp; omega)) _ | refine Below.alloc ?_ (by first | omega | (simp; done) | (simp; omega)) _)))).mono ?_; rintro e w2 ⟨rfl, hb2⟩; have T2 := hidden (T1.out.below hb2); have bB := onto bA hb2; clear hb2) | (go_at_call 39; refine (k3 _).mono ?_; rintro e w3 ⟨rfl, rfl⟩) | (go_at_call 12; refine (k4 _ (HH.out _ (by repeat (first | exact Below.refl _ _ | assumption | refine st_drew ?_ | refine st_drewN ?_ _ | refine Below.setCell ?_ (by first | omega | (simp; done) | (simp; omega)) _ | refine Below.alloc ?_ (by first | omega | (simp; done) | (simp; omega)) _)))).mono ?_; rintro e w4 ⟨ad4, c4, rfl, -, hb4⟩; have T4 := hidden (T2.out.below hb4); have bC := onto bB hb4; obtain ⟨⟨t0, t1, t2, t3⟩, -⟩ := T4.out.four; have tl0 := T4.out.lt; clear hb4))
    exact bodyPost_ret (v := .tuple #[.slice (some ⟨_, 0, none⟩) 0 0, .int .i64 0, .bool false]) (by simp [results, Try.results18]) rfl (told_none HN.out (by first | exact bC | exact bB | exact bA))
  | true =>
  rw [hs2] at k2
  cases hs3 : rng r 0 1440 with
  | false =>
    rw [hs3] at k3
    have HN : Hid (Oa.insert l u r = ([], 0, false)) := insert_no (fun z => by have := rng_iff.2 z.2.2.1; rw [hs3] at this; cases this)
    clear hs1 hs2 hs3
    go_enter Try.func18, Try.ntmps18
    go_wp2_with (first | (go_at_call 38; refine (k1 _ (HH.out _ (by repeat (first | exact Below.refl _ _ | assumption | refine st_drew ?_ | refine st_drewN ?_ _ | refine Below.setCell ?_ (by first | omega | (simp; done) | (simp; omega)) _ | refine Below.alloc ?_ (by first | omega | (simp; done) | (simp; omega)) _)))).mono ?_; rintro e w1 ⟨rfl, hb1⟩; have B1 := hidden (box_in hb1); have d0 := B1.out.1 0 _ rfl; have d1 := B1.out.1 1 _ rfl; have d2 := B1.out.1 2 _ rfl; have d3 := B1.out.1 3 _ rfl; have z1 := hb1.size; simp only [World.size_alloc] at z1; have bA := onto (show Below w.heap.size w _ from by repeat (first | exact Below.refl _ _ | assumption | refine st_drew ?_ | refine st_drewN ?_ _ | refine Below.setCell ?_ (by first | omega | (simp; done) | (simp; omega)) _ | refine Below.alloc ?_ (by first | omega | (simp; done) | (simp; omega)) _)) hb1; have T1 := hidden (TBox.below (W := w.alloc (.cells #[.int .i64 u.room, .int .i64 u.fr, .int .i64 u.to, .slice ua un uc] 31)) (heap_alloc_new w _) hb1); clear hb1) | (go_at_call 44; refine (k2 _ (HT.out _ (by repeat (first | exact Below.refl _ _ | assumption | refine st_drew ?_ | refine st_drewN ?_ _ | refine Below.setCell ?_ (by first | omega | (simp; done) | (simp; omega)) _ | refine Below.alloc ?_ (by first | omega | (simp; done) | (simp; omega)) _)))).mono ?_; rintro e w2 ⟨rfl, hb2⟩; have T2 := hidden (T1.out.below hb2); have bB := onto bA hb2; clear hb2) | (go_at_call 39; refine (k3 _).mono ?_; rintro e w3 ⟨rfl, rfl⟩) | (go_at_call 12; refine (k4 _ (HH.out _ (by repeat (first | exact Below.refl _ _ | assumption | refine st_drew ?_ | refine st_drewN ?_ _ | refine Below.setCell ?_ (by first | omega | (simp; done) | (simp; omega)) _ | refine Below.alloc ?_ (by first | omega | (simp; done) | (simp; omega)) _)))).mono ?_; rintro e w4 ⟨ad4, c4, rfl, -, hb4⟩; have T4 := hidden (T2.out.below hb4); have bC := onto bB hb4; obtain ⟨⟨t0, t1, t2, t3⟩, -⟩ := T4.out.four; have tl0 := T4.out.lt; clear hb4))
    exact bodyPost_ret (v := .tuple #[.slice (some ⟨_, 0, none⟩) 0 0, .int .i64 0, .bool false]) (by simp [results, Try.results18]) rfl (told_none HN.out (by first | exact bC | exact bB | exact bA))
  | true =>
  rw [hs3] at k3
  have hok := of_osB hs1
  have hrr := rng_iff.1 hs3
  clear hs1 hs3
  by_cases h200 : l.length = 200
  · have HN : Hid (Oa.insert l u r = ([], 0, false)) := insert_no (fun z => z.2.2.2.1 h200)
    have h200i : ((l.length : Int) == 200) = true := by simp; omega
    have h200n : (l.length == 200) = true := by simpa using h200
    clear h200
    go_enter Try.func18, Try.ntmps18
    go_wp2_with (first | (go_at_call 38; refine (k1 _ (HH.out _ (by repeat (first | exact Below.refl _ _ | assumption | refine st_drew ?_ | refine st_drewN ?_ _ | refine Below.setCell ?_ (by first | omega | (simp; done) | (simp; omega)) _ | refine Below.alloc ?_ (by first | omega | (simp; done) | (simp; omega)) _)))).mono ?_; rintro e w1 ⟨rfl, hb1⟩; have B1 := hidden (box_in hb1); have d0 := B1.out.1 0 _ rfl; have d1 := B1.out.1 1 _ rfl; have d2 := B1.out.1 2 _ rfl; have d3 := B1.out.1 3 _ rfl; have z1 := hb1.size; simp only [World.size_alloc] at z1; have bA := onto (show Below w.heap.size w _ from by repeat (first | exact Below.refl _ _ | assumption | refine st_drew ?_ | refine st_drewN ?_ _ | refine Below.setCell ?_ (by first | omega | (simp; done) | (simp; omega)) _ | refine Below.alloc ?_ (by first | omega | (simp; done) | (simp; omega)) _)) hb1; have T1 := hidden (TBox.below (W := w.alloc (.cells #[.int .i64 u.room, .int .i64 u.fr, .int .i64 u.to, .slice ua un uc] 31)) (heap_alloc_new w _) hb1); clear hb1) | (go_at_call 44; refine (k2 _ (HT.out _ (by repeat (first | exact Below.refl _ _ | assumption | refine st_drew ?_ | refine st_drewN ?_ _ | refine Below.setCell ?_ (by first | omega | (simp; done) | (simp; omega)) _ | refine Below.alloc ?_ (by first | omega | (simp; done) | (simp; omega)) _)))).mono ?_; rintro e w2 ⟨rfl, hb2⟩; have T2 := hidden (T1.out.below hb2); have bB := onto bA hb2; clear hb2) | (go_at_call 39; refine (k3 _).mono ?_; rintro e w3 ⟨rfl, rfl⟩) | (go_at_call 12; refine (k4 _ (HH.out _ (by repeat (first | exact Below.refl _ _ | assumption | refine st_drew ?_ | refine st_drewN ?_ _ | refine Below.setCell ?_ (by first | omega | (simp; done) | (simp; omega)) _ | refine Below.alloc ?_ (by first | omega | (simp; done) | (simp; omega)) _)))).mono ?_; rintro e w4 ⟨ad4, c4, rfl, -, hb4⟩; have T4 := hidden (T2.out.below hb4); have bC := onto bB hb4; obtain ⟨⟨t0, t1, t2, t3⟩, -⟩ := T4.out.four; have tl0 := T4.out.lt; clear hb4))
    exact bodyPost_ret (v := .tuple #[.slice (some ⟨_, 0, none⟩) 0 0, .int .i64 0, .bool false]) (by simp [results, Try.results18]) rfl (told_none HN.out (by first | exact bC | exact bB | exact bA))
  have h200i : ((l.length : Int) == 200) = false := by simp; omega
  have h200n : (l.length == 200) = false := by simpa using h200
  by_cases hcl : (clash l r).length = 0
  case neg =>
    have HN : Hid (Oa.insert l u r = ([], 0, false)) := insert_no (fun z => hcl z.2.2.2.2)
    have hcl2 : (0 : Int) < ((clash l r).length : Int) := by omega
    generalize (clash l r).length = cn at *
    go_enter Try.func18, Try.ntmps18
    go_wp2_with (first | (go_at_call 38; refine (k1 _ (HH.out _ (by repeat (first | exact Below.refl _ _ | assumption | refine st_drew ?_ | refine st_drewN ?_ _ | refine Below.setCell ?_ (by first | omega | (simp; done) | (simp; omega)) _ | refine Below.alloc ?_ (by first | omega | (simp; done) | (simp; omega)) _)))).mono ?_; rintro e w1 ⟨rfl, hb1⟩; have B1 := hidden (box_in hb1); have d0 := B1.out.1 0 _ rfl; have d1 := B1.out.1 1 _ rfl; have d2 := B1.out.1 2 _ rfl; have d3 := B1.out.1 3 _ rfl; have z1 := hb1.size; simp only [World.size_alloc] at z1; have bA := onto (show Below w.heap.size w _ from by repeat (first | exact Below.refl _ _ | assumption | refine st_drew ?_ | refine st_drewN ?_ _ | refine Below.setCell ?_ (by first | omega | (simp; done) | (simp; omega)) _ | refine Below.alloc ?_ (by first | omega | (simp; done) | (simp; omega)) _)) hb1; have T1 := hidden (TBox.below (W := w.alloc (.cells #[.int .i64 u.room, .int .i64 u.fr, .int .i64 u.to, .slice ua un uc] 31)) (heap_alloc_new w _) hb1); clear hb1) | (go_at_call 44; refine (k2 _ (HT.out _ (by repeat (first | exact Below.refl _ _ | assumption | refine st_drew ?_ | refine st_drewN ?_ _ | refine Below.setCell ?_ (by first | omega | (simp; done) | (simp; omega)) _ | refine Below.alloc ?_ (by first | omega | (simp; done) | (simp; omega)) _)))).mono ?_; rintro e w2 ⟨rfl, hb2⟩; have T2 := hidden (T1.out.below hb2); have bB := onto bA hb2; clear hb2) | (go_at_call 39; refine (k3 _).mono ?_; rintro e w3 ⟨rfl, rfl⟩) | (go_at_call 12; refine (k4 _ (HH.out _ (by repeat (first | exact Below.refl _ _ | assumption | refine st_drew ?_ | refine st_drewN ?_ _ | refine Below.setCell ?_ (by first | omega | (simp; done) | (simp; omega)) _ | refine Below.alloc ?_ (by first | omega | (simp; done) | (simp; omega)) _)))).mono ?_; rintro e w4 ⟨ad4, c4, rfl, -, hb4⟩; have T4 := hidden (T2.out.below hb4); have bC := onto bB hb4; obtain ⟨⟨t0, t1, t2, t3⟩, -⟩ := T4.out.four; have tl0 := T4.out.lt; clear hb4))
    exact bodyPost_ret (v := .tuple #[.slice (some ⟨_, 0, none⟩) 0 0, .int .i64 0, .bool false]) (by simp [results, Try.results18]) rfl (told_none HN.out (by first | exact bC | exact bB | exact bA))
  have HC : Hid (OpsOk l ∧ opB u = true ∧ isR r ∧ l.length ≠ 200 ∧ (clash l r).length = 0) := ⟨hok, hs2, hrr, h200, hcl⟩
  simp only [hcl] at k4
  have hl2 := hok.1
  have HOK := hidden hok
  have HUO := hidden hs2
  clear hs2 hok hcl
  go_enter Try.func18, Try.ntmps18
  go_wp2_with (first | (go_at_call 38; refine (k1 _ (HH.out _ (by repeat (first | exact Below.refl _ _ | assumption | refine st_drew ?_ | refine st_drewN ?_ _ | refine Below.setCell ?_ (by first | omega | (simp; done) | (simp; omega)) _ | refine Below.alloc ?_ (by first | omega | (simp; done) | (simp; omega)) _)))).mono ?_; rintro e w1 ⟨rfl, hb1⟩; have B1 := hidden (box_in hb1); have d0 := B1.out.1 0 _ rfl; have d1 := B1.out.1 1 _ rfl; have d2 := B1.out.1 2 _ rfl; have d3 := B1.out.1 3 _ rfl; have z1 := hb1.size; simp only [World.size_alloc] at z1; have bA := onto (show Below w.heap.size w _ from by repeat (first | exact Below.refl _ _ | assumption | refine st_drew ?_ | refine st_drewN ?_ _ | refine Below.setCell ?_ (by first | omega | (simp; done) | (simp; omega)) _ | refine Below.alloc ?_ (by first | omega | (simp; done) | (simp; omega)) _)) hb1; have T1 := hidden (TBox.below (W := w.alloc (.cells #[.int .i64 u.room, .int .i64 u.fr, .int .i64 u.to, .slice ua un uc] 31)) (heap_alloc_new w _) hb1); clear hb1) | (go_at_call 44; refine (k2 _ (HT.out _ (by repeat (first | exact Below.refl _ _ | assumption | refine st_drew ?_ | refine st_drewN ?_ _ | refine Below.setCell ?_ (by first | omega | (simp; done) | (simp; omega)) _ | refine Below.alloc ?_ (by first | omega | (simp; done) | (simp; omega)) _)))).mono ?_; rintro e w2 ⟨rfl, hb2⟩; have T2 := hidden (T1.out.below hb2); have bB := onto bA hb2; clear hb2) | (go_at_call 39; refine (k3 _).mono ?_; rintro e w3 ⟨rfl, rfl⟩) | (go_at_call 12; refine (k4 _ (HH.out _ (by repeat (first | exact Below.refl _ _ | assumption | refine st_drew ?_ | refine st_drewN ?_ _ | refine Below.setCell ?_ (by first | omega | (simp; done) | (simp; omega)) _ | refine Below.alloc ?_ (by first | omega | (simp; done) | (simp; omega)) _)))).mono ?_; rintro e w4 ⟨ad4, c4, rfl, -, hb4⟩; have T4 := hidden (T2.out.below hb4); have bC := onto bB hb4; obtain ⟨⟨t0, t1, t2, t3⟩, -⟩ := T4.out.four; have tl0 := T4.out.lt; clear hb4))
  have hall : ∀ x ∈ l, opB x = true := fun x hx => HOK.out.mem hx
  have HAL := hidden hall
  have zC := bC.size
  have tl := T4.out.lt
  obtain ⟨i0, hv0, hv1, hv2, hv3⟩ := info_partsO infoOp
  have tb := two_boxesU w4 #[] #[.int .i64 u.room, .int .i64 u.fr, .int .i64 u.to, .slice ua un uc] 31 31
  have hbW : Below w4.heap.size w4 ((w4.alloc (.cells #[] 31)).alloc (.cells #[.int .i64 u.room, .int .i64 u.fr, .int .i64 u.to, .slice ua un uc] 31)) := ((Below.refl _ _).alloc (Nat.le_refl _) _).alloc (by simp) _
  have ho0 : ((w4.alloc (.cells #[] 31)).alloc (.cells #[.int .i64 u.room, .int .i64 u.fr, .int .i64 u.to, .slice ua un uc] 31)).ownsRow w4.heap.size 31 4 (.slice (some ⟨w4.heap.size, 0, none⟩) 0 0) 0 (cellsO []) := ⟨rfl, .inr ⟨w4.heap.size, 0, _, rfl, Nat.le_refl _, tb.1, Nat.le_refl _, by decide, rfl, rfl⟩⟩
  have hs0 : ((w4.alloc (.cells #[] 31)).alloc (.cells #[.int .i64 u.room, .int .i64 u.fr, .int .i64 u.to, .slice ua un uc] 31)).ownsRow w4.heap.size 31 4 (.slice (some ⟨w4.heap.size + 1, 0, none⟩) 1 1) 1 (cellsO [(u, .slice ua un uc)]) := ⟨rfl, .inr ⟨w4.heap.size + 1, 1, _, rfl, Nat.le_succ _, tb.2, Nat.le_refl _, by decide, rfl, rfl⟩⟩
  have hI0 : ∀ p ∈ [(u, Value.slice ua un uc)], opB p.1 = true ∧ IRw w p.2 p.1.team := fun p hp => by rw [List.mem_singleton.1 hp]; exact ⟨HUO.out, HU.out⟩
  have hTU := T4.out.below hbW
  have hbw0 := onto bC hbW
  clear hall
  go_loopw [9, 10, 11] (fun ov sv iv wr => ∃ (L S : List (Opn × Value)) (a1 : Option Addr) (c1 : Nat) (a2 : Option Addr) (c2 : Nat), L.length ≤ l.length ∧ iv = .int .i64 L.length ∧ ov = .slice a1 L.length c1 ∧ sv = .slice a2 S.length c2 ∧ Hid (L.map Prod.fst = l.take L.length) ∧ Hid (S.map Prod.fst = stay l u r L.length) ∧ S.length ≤ L.length + 1 ∧ wr.ownsRow w4.heap.size 31 4 (.slice a1 L.length c1) L.length (cellsO L) ∧ wr.ownsRow w4.heap.size 31 4 (.slice a2 S.length c2) S.length (cellsO S) ∧ Hid (∀ k, (Value.slice a1 L.length c1).ownBlock = some k → (Value.slice a2 S.length c2).ownBlock ≠ some k) ∧ Teams wr w4.heap.size L ∧ Hid (∀ p ∈ S, opB p.1 = true ∧ IRw w p.2 p.1.team) ∧ Below w.heap.size w wr ∧ TBox wr w.heap.size #[.int .i64 u.room, .int .i64 u.fr, .int .i64 u.to, .slice ua un uc] 31 ∧ w4.heap.size ≤ wr.heap.size) (fun _ _ iv _ => l.length - (intOf iv).toNat)
  case atStart => exact ⟨[], [(u, .slice ua un uc)], _, _, _, _, Nat.zero_le _, rfl, rfl, rfl, rfl, rfl, by simp, ho0, hs0, (fun k hk hk2 => by have e1 := Option.some.inj hk; have e2 := Option.some.inj hk2; simp only at e1 e2; omega), Teams.nil _ _, hI0, hbw0, hTU, by simp; omega⟩
  case round =>
    clear ho0 hs0 hI0 hTU hbw0 tb hbW
    obtain ⟨L, S, a1, c1, a2, c2, hLl, rfl, rfl, rfl, HM, HS, hSl, hoL, hoS, HA, hTm, HI, hb, hTU, hz4⟩ := hrel
    have hsz := hb.size
    by_cases hlt : L.length < l.length
    · have hlti : (L.length : Int) < (l.length : Int) := by omega
      obtain ⟨x, hx⟩ := some_of l L.length hlt
      obtain ⟨g, off, ta, tc, rfl, hg, hrow, m0, m1, m2, m3⟩ := HJ.out.at hx
      have d0 := (hb.cell (p := ⟨g, off + L.length * 4, none⟩) hg).trans m0
      have d1 := (hb.cell (p := ⟨g, off + L.length * 4 + 1, none⟩) hg).trans m1
      have d2 := (hb.cell (p := ⟨g, off + L.length * 4 + 2, none⟩) hg).trans m2
      have d3 := (hb.cell (p := ⟨g, off + L.length * 4 + 3, none⟩) hg).trans m3
      have hgr : g < wr.heap.size := Nat.lt_of_lt_of_le hg hsz
      have hxo := HAL.out x (List.mem_of_getElem? hx)
      have hxl := (of_opB hxo).2.2.2.2.2.1
      have hxp := (of_opB hxo).2.2.2.2.1
      have hC := fun W hW => copy_any x ta x.team.length tc W hW (by omega) (by omega)
      have hK := fun W hW1 hW2 => swhy_any x u ta x.team.length tc ua un uc r W (tms_of hxo) (tms_of HUO.out) hrr hW1 hW2 (by omega) hu
      unfold aO at hC hK
      have HR := hidden (fun W (hW : Below w.heap.size w W) => hrow.below hW)
      have HX := hidden hrow
      have HN := hidden (take_snocW hx)
      have HNS := hidden (stay_succ (u := u) (r := r) hx)
      have HXO := hidden hxo
      have M0 := hidden m0
      have M1 := hidden m1
      have M2 := hidden m2
      have M3 := hidden m3
      have HOL := hidden hoL
      have HOS := hidden hoS
      have HTm := hidden hTm
      have HTU := hidden hTU
      clear hx hrow m0 m1 m2 m3 hoL hoS hTm hTU hxo
      go_upto_region 9 with (first
        | (go_at_call 50; refine (hC _ (HR.out _ (by repeat (first | exact Below.refl _ _ | assumption | refine st_drew ?_ | refine st_drewN ?_ _ | refine Below.setCell ?_ (by first | omega | (simp; done) | (simp; omega)) _ | refine Below.alloc ?_ (by first | omega | (simp; done) | (simp; omega)) _)))).mono ?_; rintro e w5 ⟨a5, c5, rfl, ho5, hb5⟩; have O5 := hidden (ownO_below HOL.out hb5); have OS5 := hidden (ownO_below HOS.out hb5); have TM5 := hidden (HTm.out.below hb5); have TO5 := hidden ho5; have TU5 := hidden (HTU.out.below hb5); have z5 := hb5.size; have b5 := onto hb hb5; clear ho5 hb5)
        | (at_builtin; refine wpList_append_own_at _ rfl (.tmp 50) (.tmp 56) 24 rfl w4.heap.size 31 i0 (.agg #[.int .i64 0, .int .i64 0, .int .i64 0, .slice none 0 0]) 4 48 Try.underlying24 hv0 hv1 hv2 hv3 rfl (by decide) _ L.length (cellsO L) rfl (O5.out.alloc _) ⟨w5.heap.size, 0, none⟩ 1 1 [.int .i64 x.room, .int .i64 x.fr, .int .i64 x.to, .slice a5 x.team.length c5] rfl rfl (cell4O _ _ _ _ _ _) (four_oneO _ _ _ _ _ _) (by unfold maxLen; omega) (by omega) (by simp; omega) ?_; intro v6 w6 ho6 hg6 hnn6 hat6; have O6 := hidden ho6; have G6 := hidden hg6; have A6 := hidden hat6; obtain ⟨a6, c6, rfl⟩ := ownO_slice ho6; clear ho6 hg6 hnn6 hat6))
      have hAl : Below w5.heap.size w5 (w5.alloc (.cells #[.int .i64 x.room, .int .i64 x.fr, .int .i64 x.to, .slice a5 x.team.length c5] 31)) := (Below.refl _ _).alloc (Nat.le_refl _) _
      have TM6 := ((TM5.out.below hAl).snoc (p := (x, .slice a5 x.team.length c5)) (ownO_below TO5.out hAl) hz4 (fun q hq k hk => (HTm.out.lt q hq k hk).2)).grown (O5.out.alloc _) G6.out
      have OS6 := own_grownO (OS5.out.alloc _) G6.out (fun k hk hk2 => HA.out k hk2 hk)
      have TU6 := (TU5.out.below hAl).grown G6.out (fun k hk => by have := (ownO_lt HOL.out k hk).1; omega)
      have b6 := grown_belowO (b5.alloc (by omega) _) (by simp; omega) G6.out (fun k hk => by have := (ownO_lt HOL.out k hk).1; omega)
      have HA6 : Hid (∀ k, (Value.slice a6 (L.length + 1) c6).ownBlock = some k → (Value.slice a2 S.length c2).ownBlock ≠ some k) := fun k hk hk2 => by
        rcases A6.out with e | e
        · rw [e] at hk; exact HA.out k hk hk2
        · rw [e] at hk
          have e2 := Option.some.inj hk
          have := (ownO_lt HOS.out k hk2).2
          simp only [World.size_alloc] at e2
          omega
      have z6 := G6.out.size
      simp only [World.size_alloc] at z6
      have g0 := (b6.cell (p := ⟨g, off + L.length * 4, none⟩) hg).trans M0.out
      have g1 := (b6.cell (p := ⟨g, off + L.length * 4 + 1, none⟩) hg).trans M1.out
      have g2 := (b6.cell (p := ⟨g, off + L.length * 4 + 2, none⟩) hg).trans M2.out
      have g3 := (b6.cell (p := ⟨g, off + L.length * 4 + 3, none⟩) hg).trans M3.out
      obtain ⟨⟨u0, u1', u2', u3'⟩, -⟩ := TU6.four
      have ul := TU6.lt
      have hg6l : g < w6.heap.size := by omega
      have HM6 : Hid ((L ++ [(x, Value.slice a5 x.team.length c5)]).map Prod.fst = l.take (L ++ [(x, Value.slice a5 x.team.length c5)]).length) := by rw [Hid, List.map_append, HM.out, List.length_append]; exact HN.out.symm
      have O6' := hidden O6.out
      have TMh := hidden TM6
      have OSh := hidden OS6
      have TUh := hidden TU6
      have b6h := hidden b6
      clear TM6 OS6 TU6 hAl O5 OS5 TM5 TO5 TU5 b5 d0 d1 d2 d3 G6 A6
      by_cases q : why x u r = 0
      · rw [q] at hK
        have HS6 : Hid ((S ++ [(x, Value.slice ta x.team.length tc)]).map Prod.fst = stay l u r (L ++ [(x, Value.slice a5 x.team.length c5)]).length) := by
          rw [Hid, List.length_append]
          show _ = stay l u r (L.length + 1)
          rw [HNS.out, if_pos q, List.map_append, HS.out]; rfl
        have HI6 : Hid (∀ p ∈ S ++ [(x, Value.slice ta x.team.length tc)], opB p.1 = true ∧ IRw w p.2 p.1.team) := fun p hp => by
          rcases List.mem_append.1 hp with hp | hp
          · exact HI.out p hp
          · rw [List.mem_singleton.1 hp]; exact ⟨HXO.out, HX.out⟩
        go_cut [65] from 44 to 72 (fun bv wx => bv = .bool true ∧ Below w6.heap.size w6 wx)
        case first =>
          first | go_region_with (go_at_call 40; refine (hK _ (HR.out _ (by repeat (first | exact Below.refl _ _ | assumption | refine st_drew ?_ | refine st_drewN ?_ _ | refine Below.setCell ?_ (by first | omega | (simp; done) | (simp; omega)) _ | refine Below.alloc ?_ (by first | omega | (simp; done) | (simp; omega)) _))) (HT.out _ (by repeat (first | exact Below.refl _ _ | assumption | refine st_drew ?_ | refine st_drewN ?_ _ | refine Below.setCell ?_ (by first | omega | (simp; done) | (simp; omega)) _ | refine Below.alloc ?_ (by first | omega | (simp; done) | (simp; omega)) _)))).mono ?_; rintro e w7 ⟨rfl, hb7⟩; have bD := onto (show Below w6.heap.size w6 _ from by repeat (first | exact Below.refl _ _ | assumption | refine st_drew ?_ | refine st_drewN ?_ _ | refine Below.setCell ?_ (by first | omega | (simp; done) | (simp; omega)) _ | refine Below.alloc ?_ (by first | omega | (simp; done) | (simp; omega)) _)) hb7; clear hb7) | fail
          all_goals go_wp2_with fail
          all_goals go_meet
          all_goals exact ⟨rfl, by repeat (first | exact Below.refl _ _ | assumption | refine st_drew ?_ | refine st_drewN ?_ _ | refine Below.setCell ?_ (by first | omega | (simp; done) | (simp; omega)) _ | refine Below.alloc ?_ (by first | omega | (simp; done) | (simp; omega)) _)⟩
        case rest =>
          obtain ⟨rfl, bX⟩ := hcut
          have zX := bX.size
          have h0 := (bX.cell (p := ⟨g, off + L.length * 4, none⟩) hg6l).trans g0
          have h1 := (bX.cell (p := ⟨g, off + L.length * 4 + 1, none⟩) hg6l).trans g1
          have h2 := (bX.cell (p := ⟨g, off + L.length * 4 + 2, none⟩) hg6l).trans g2
          have h3 := (bX.cell (p := ⟨g, off + L.length * 4 + 3, none⟩) hg6l).trans g3
          have hgc : g < wc.heap.size := by omega
          have OS7 := hidden (ownO_below OSh.out bX)
          have O7 := hidden (ownO_below O6'.out bX)
          have TM7 := hidden (TMh.out.below bX)
          have TU7 := hidden (TUh.out.below bX)
          have b7 := hidden (onto b6h.out bX)
          go_wp2_with (at_builtin; refine wpList_append_own_at _ rfl (.tmp 66) (.tmp 71) 24 rfl w4.heap.size 31 i0 (.agg #[.int .i64 0, .int .i64 0, .int .i64 0, .slice none 0 0]) 4 48 Try.underlying24 hv0 hv1 hv2 hv3 rfl (by decide) _ S.length (cellsO S) rfl (OS7.out.alloc _) ⟨wc.heap.size, 0, none⟩ 1 1 [.int .i64 x.room, .int .i64 x.fr, .int .i64 x.to, .slice ta x.team.length tc] rfl rfl (cell4O _ _ _ _ _ _) (four_oneO _ _ _ _ _ _) (by unfold maxLen; omega) (by omega) (by simp; omega) ?_; intro v8 w8 ho8 hg8 hnn8 hat8; have O8 := hidden ho8; have G8 := hidden hg8; have A8 := hidden hat8; obtain ⟨a8, c8, rfl⟩ := ownO_slice ho8; clear ho8 hg8 hnn8 hat8)
          have hAl : Below wc.heap.size wc (wc.alloc (.cells #[.int .i64 x.room, .int .i64 x.fr, .int .i64 x.to, .slice ta x.team.length tc] 31)) := (Below.refl _ _).alloc (Nat.le_refl _) _
          have OL8 := own_grownO (O7.out.alloc _) G8.out (fun k hk => HA6.out k hk)
          have TM8 := (TM7.out.below hAl).grown (OS7.out.alloc _) G8.out
          have TU8 := (TU7.out.below hAl).grown G8.out (fun k hk => by have := (ownO_lt HOS.out k hk).1; omega)
          have b8 := grown_belowO (b7.out.alloc (by have := b7.out.size; omega) _) (by have := b7.out.size; simp; omega) G8.out (fun k hk => by have := (ownO_lt HOS.out k hk).1; omega)
          have z8 := G8.out.size
          simp only [World.size_alloc] at z8
          have HA8 : Hid (∀ k, (Value.slice a6 (L.length + 1) c6).ownBlock = some k → (Value.slice a8 (S.length + 1) c8).ownBlock ≠ some k) := fun k hk hk2 => by
            rcases A8.out with e | e
            · rw [e] at hk2; exact HA6.out k hk hk2
            · rw [e] at hk2
              have e2 := Option.some.inj hk2
              have := (ownO_lt O7.out k hk).2
              simp only [World.size_alloc] at e2
              omega
          go_roundw
          case rel => exact ⟨L ++ [(x, .slice a5 x.team.length c5)], S ++ [(x, .slice ta x.team.length tc)], a6, c6, a8, c8, by rw [List.length_append]; simp; omega, by rw [List.length_append]; rfl, by rw [List.length_append]; rfl, by rw [List.length_append]; rfl, HM6, HS6, by rw [List.length_append, List.length_append]; simp; omega, by rw [cellsO_app, List.length_append]; exact OL8, by rw [cellsO_app, List.length_append]; exact O8.out, by rw [List.length_append, List.length_append]; exact HA8, TM8, HI6, b8, TU8, by omega⟩
          case measure => simp [intOf]; omega
      · have hwn : (why x u r == 0) = false := by simpa using q
        have HS6 : Hid (S.map Prod.fst = stay l u r (L ++ [(x, Value.slice a5 x.team.length c5)]).length) := by
          rw [Hid, List.length_append]
          show _ = stay l u r (L.length + 1)
          rw [HNS.out, if_neg q, List.append_nil]; exact HS.out
        generalize why x u r = wy at *
        go_cut [65] from 44 to 72 (fun bv wx => bv = .bool false ∧ Below w6.heap.size w6 wx)
        case first =>
          first | go_region_with (go_at_call 40; refine (hK _ (HR.out _ (by repeat (first | exact Below.refl _ _ | assumption | refine st_drew ?_ | refine st_drewN ?_ _ | refine Below.setCell ?_ (by first | omega | (simp; done) | (simp; omega)) _ | refine Below.alloc ?_ (by first | omega | (simp; done) | (simp; omega)) _))) (HT.out _ (by repeat (first | exact Below.refl _ _ | assumption | refine st_drew ?_ | refine st_drewN ?_ _ | refine Below.setCell ?_ (by first | omega | (simp; done) | (simp; omega)) _ | refine Below.alloc ?_ (by first | omega | (simp; done) | (simp; omega)) _)))).mono ?_; rintro e w7 ⟨rfl, hb7⟩; have bD := onto (show Below w6.heap.size w6 _ from by repeat (first | exact Below.refl _ _ | assumption | refine st_drew ?_ | refine st_drewN ?_ _ | refine Below.setCell ?_ (by first | omega | (simp; done) | (simp; omega)) _ | refine Below.alloc ?_ (by first | omega | (simp; done) | (simp; omega)) _)) hb7; clear hb7) | fail
          all_goals go_wp2_with fail
          all_goals go_meet
          all_goals exact ⟨by first | rfl | (rw [hwn]), by repeat (first | exact Below.refl _ _ | assumption | refine st_drew ?_ | refine st_drewN ?_ _ | refine Below.setCell ?_ (by first | omega | (simp; done) | (simp; omega)) _ | refine Below.alloc ?_ (by first | omega | (simp; done) | (simp; omega)) _)⟩
        case rest =>
          obtain ⟨rfl, bX⟩ := hcut
          have zX := bX.size
          go_wp2_with fail
          go_roundw
          case rel => exact ⟨L ++ [(x, .slice a5 x.team.length c5)], S, a6, c6, a2, c2, by rw [List.length_append]; simp; omega, by rw [List.length_append]; rfl, by rw [List.length_append]; rfl, rfl, HM6, HS6, by rw [List.length_append]; simp; omega, by rw [cellsO_app, List.length_append]; exact ownO_below O6'.out bX, ownO_below OSh.out bX, by rw [List.length_append]; exact HA6, TMh.out.below bX, HI, onto b6h.out bX, TUh.out.below bX, by omega⟩
          case measure => simp [intOf]; omega
    · have hlti : ¬ (L.length : Int) < (l.length : Int) := by omega
      have hil : L.length = l.length := by omega
      have HL1 : Hid (L.map Prod.fst = [] ++ l.drop 0) := by rw [Hid, HM.out, hil, List.take_length]; rfl
      have HI1 : Hid (ins l u r 0 = some ([], S.map Prod.fst, 0)) := by rw [Hid, HS.out, hil]; rfl
      have hS2 : S.length ≤ l.length + 1 := by omega
      obtain ⟨GL, hG1, hG2, hG3⟩ : ∃ GL, w4.heap.size ≤ GL ∧ (∀ k, (Value.slice a1 L.length c1).ownBlock = some k → k = GL ∧ k < wr.heap.size) ∧ (0 < L.length → a1 = some ⟨GL, 0, none⟩) := by
        rcases hoL.2 with ⟨h1, h2⟩ | ⟨g, c, cur, h1, h2, h3, -⟩
        · refine ⟨w4.heap.size, Nat.le_refl _, fun k hk => ?_, fun h => by omega⟩
          rw [h1] at hk; cases hk
        · simp only [Value.slice.injEq] at h1
          refine ⟨g, h2, fun k hk => ?_, fun _ => h1.1⟩
          rw [h1.1] at hk
          obtain rfl : g = k := Option.some.inj hk
          exact ⟨rfl, (Array.getElem?_eq_some_iff.1 h3).1⟩
      have hul := (of_opB HUO.out).2.2.2.2
      have hX1 : ∀ k, (k = GL ∨ (Value.slice a2 S.length c2).ownBlock = some k) → w4.heap.size ≤ k := fun k hk => by
        rcases hk with e | e
        · omega
        · exact (ownO_lt hoS k e).1
      have HI2 : Hid (∀ p ∈ S, opB p.1 = true ∧ IRw wr p.2 p.1.team ∧ ∀ k, p.2.ownBlock = some k → ¬ (k = GL ∨ (Value.slice a2 S.length c2).ownBlock = some k)) := by
        intro p hp
        obtain ⟨hpo, hr1⟩ := HI.out p hp
        refine ⟨hpo, hr1.below hb, fun k hk hk2 => ?_⟩
        obtain ⟨ta, tc, e⟩ := hr1.form
        obtain ⟨y, hy⟩ := some_of p.1.team 0 (by have := (of_opB hpo).2.2.2.2.1; omega)
        rw [e] at hr1 hk
        obtain ⟨b, off, rfl, hb', -⟩ := hr1.at hy
        obtain rfl : b = k := Option.some.inj hk
        have := hX1 b hk2
        omega
      have hTX : ∀ p ∈ L, ∀ k, p.2.ownBlock = some k → ¬ (k = GL ∨ (Value.slice a2 S.length c2).ownBlock = some k) := fun p hp k hk hk2 => by
        have hTO := hTm.1 p hp
        rcases hk2 with e | e
        · have e3 := hG3 (List.length_pos_of_mem hp)
          exact (own_apart hTO hoL (by decide)) k hk GL (by rw [e3]; rfl) e
        · exact (own_apart hTO hoS (by decide)) k hk k e rfl
      have hGS : ∀ k, (Value.slice a2 S.length c2).ownBlock = some k → 0 < L.length → k ≠ GL := fun k hk hpos e => by
        have e3 := hG3 hpos
        exact HA.out GL (by rw [e3]; rfl) (by rw [← e]; exact hk)
      have hst0 := Stdx.refl wr (fun k => k = GL ∨ (Value.slice a2 S.length c2).ownBlock = some k)
      have hTX2 := hidden (show ∀ j x tv, L[j]? = some (x, tv) → ∀ k, tv.ownBlock = some k → ¬ (k = GL ∨ (Value.slice a2 S.length c2).ownBlock = some k) from fun j x tv hj k hk => hTX (x, tv) (List.mem_of_getElem? hj) k hk)
      obtain ⟨w3, hw3⟩ : ∃ z, z = wr := ⟨_, rfl⟩
      subst hw3
      have HIL := hidden hil
      have HG2 := hidden hG2
      have HG3 := hidden hG3
      have HX1 := hidden hX1
      have HGS := hidden hGS
      have HB3 := hidden hb
      have HTU := hidden hTU
      have HTm0 := hidden hTm
      have hLi : L.length ≤ 200 := by omega
      clear hG2 hG3 hX1 HM HS hil hTX
      go_wp2_with fail
      go_loopw [10, 12, 13, 14] (fun sv hv iv _ wr => ∃ (i : Nat) (P : List Opn) (L2 S2 : List (Opn × Value)) (hm : Int) (a : Option Addr) (c : Nat), i ≤ l.length ∧ iv = .int .i64 i ∧ hv = .int .i64 hm ∧ sv = .slice a S2.length c ∧ Hid (ins l u r i = some (P, S2.map Prod.fst, hm)) ∧ Hid (L2.map Prod.fst = P ++ l.drop i) ∧ L2.length = L.length ∧ 0 ≤ hm ∧ hm ≤ i * 10000000 ∧ S2.length ≤ l.length + 1 + i ∧ wr.ownsRow w4.heap.size 31 4 (.slice a1 L.length c1) L.length (cellsO L2) ∧ Teams w3 w4.heap.size L2 ∧ Hid (L2.map Prod.snd = L.map Prod.snd) ∧ wr.ownsRow w4.heap.size 31 4 (.slice a S2.length c) S2.length (cellsO S2) ∧ Hid (∀ k, (Value.slice a S2.length c).ownBlock = some k → ((Value.slice a2 S.length c2).ownBlock = some k ∨ w3.heap.size ≤ k)) ∧ Hid (∀ p ∈ S2, opB p.1 = true ∧ IRw w3 p.2 p.1.team ∧ ∀ k, p.2.ownBlock = some k → ¬ (k = GL ∨ (Value.slice a2 S.length c2).ownBlock = some k)) ∧ Stdx w3 (fun k => k = GL ∨ (Value.slice a2 S.length c2).ownBlock = some k) wr) (fun _ _ iv _ _ => l.length - (intOf iv).toNat)
      case atStart => exact ⟨0, [], L, S, 0, _, _, Nat.zero_le _, rfl, rfl, rfl, HI1, HL1, rfl, by omega, by omega, by omega, hoL, hTm, rfl, hoS, (fun k hk => Or.inl hk), HI2, hst0⟩
      case round =>
        clear hoL hoS hst0 HI2 HI1 HL1 hTm HI hsz hb hTU
        obtain ⟨i, P, L2, S2, hm, a, c, hi, rfl, rfl, rfl, HI, HM, hL2, hm0, hm1, hS2, hoL, hTm, HSN, hoS, HAS, HS, hst⟩ := hrel
        have zst := hst.size
        have zB3 := HB3.out.size
        have bw := hst.below HB3.out (fun k hk => by have := HX1.out k hk; omega) (by omega)
        have zbw := bw.size
        have hnu : ¬ (w.heap.size = GL ∨ (Value.slice a2 S.length c2).ownBlock = some w.heap.size) := fun e => by have := HX1.out _ e; omega
        have TUr := hst.tbox HTU.out hnu
        obtain ⟨⟨s0, s1, s2, s3⟩, -⟩ := TUr.four
        have sl := TUr.lt
        by_cases hlt : i < l.length
        · have hlti : (i : Int) < (l.length : Int) := by omega
          have hpos : 0 < L.length := by have := HIL.out; omega
          obtain ⟨x, hx⟩ := some_of l i hlt
          obtain ⟨g, off, ta, tc, rfl, hg, hrow, m0, m1, m2, m3⟩ := HJ.out.at hx
          have d0 := (bw.cell (p := ⟨g, off + i * 4, none⟩) hg).trans m0
          have d1 := (bw.cell (p := ⟨g, off + i * 4 + 1, none⟩) hg).trans m1
          have d2 := (bw.cell (p := ⟨g, off + i * 4 + 2, none⟩) hg).trans m2
          have d3 := (bw.cell (p := ⟨g, off + i * 4 + 3, none⟩) hg).trans m3
          have hgr : g < wr.heap.size := Nat.lt_of_lt_of_le hg zbw
          have hxo := HAL.out x (List.mem_of_getElem? hx)
          obtain ⟨-, hx1, hx2, hx3, hx4⟩ := of_opB hxo
          have hxl := hx4.2.1
          have hPl := ins_plen i _ _ _ hi HI.out
          obtain ⟨tv, hp⟩ := pair_at HM.out hPl hx
          have hTne : ∀ k, tv.ownBlock = some k → ¬ (k = GL ∨ (Value.slice a2 S.length c2).ownBlock = some k) := by
            have e : (L.map Prod.snd)[i]? = some tv := by rw [← HSN.out, List.getElem?_map, hp]; rfl
            rw [List.getElem?_map] at e
            obtain ⟨⟨y, tv'⟩, h1, h2⟩ := Option.map_eq_some_iff.1 e
            simp only at h2
            subst h2
            exact hTX2.out i y _ h1
          have hTO := hTm.1 (x, tv) (List.mem_of_getElem? hp)
          obtain ⟨at1, ct1, htv⟩ : ∃ a c, tv = .slice a x.team.length c := ownO_slice hTO
          subst htv
          have hIR := own_irw hTO
          have e := HG3.out hpos
          subst e
          have hGlt : GL < w3.heap.size := (HG2.out GL rfl).2
          obtain ⟨⟨p0, p1, p2, p3⟩, pf, pl⟩ := own_cells4 hoL hp hL2
          have hK := fun W hW1 hW2 => swhy_any x u ta x.team.length tc ua un uc r W (tms_of hxo) (tms_of HUO.out) hrr hW1 hW2 (by omega) hu
          unfold aO at hK
          have HR := hidden (fun W (hW : Below w.heap.size w W) => hrow.below hW)
          have HX := hidden hx
          have HP := hidden hp
          have HTm := hidden hTm
          have HOL := hidden hoL
          have HOS := hidden hoS
          have HST := hidden hst
          have HXO := hidden hxo
          have HIR := hidden hIR
          have HNE := hidden hTne
          have M1 := hidden m1
          have M2 := hidden m2
          have M0 := hidden m0
          have M3 := hidden m3
          clear hx hp hTm hoL hoS hst hxo hIR hTne hTO hx4 hrow m0 m1 m2 m3 TUr
          by_cases q : why x u r = 0
          · have HI2 := hidden (ins_stay HI.out HX.out q)
            have HM2 := hidden (pair_keep HM.out HX.out)
            rw [q] at hK
            clear HI HM q
            go_upto_region 15 with fail
            go_cut [86] from 73 to 134 (fun bv wx => bv = .bool true ∧ Below wr.heap.size wr wx)
            case first =>
              first | go_region_with (go_at_call 40; refine (hK _ (HR.out _ (by repeat (first | exact Below.refl _ _ | assumption | refine st_drew ?_ | refine st_drewN ?_ _ | refine Below.setCell ?_ (by first | omega | (simp; done) | (simp; omega)) _ | refine Below.alloc ?_ (by first | omega | (simp; done) | (simp; omega)) _))) (HT.out _ (by repeat (first | exact Below.refl _ _ | assumption | refine st_drew ?_ | refine st_drewN ?_ _ | refine Below.setCell ?_ (by first | omega | (simp; done) | (simp; omega)) _ | refine Below.alloc ?_ (by first | omega | (simp; done) | (simp; omega)) _)))).mono ?_; rintro e w7 ⟨rfl, hb7⟩; have bD := onto (show Below wr.heap.size wr _ from by repeat (first | exact Below.refl _ _ | assumption | refine st_drew ?_ | refine st_drewN ?_ _ | refine Below.setCell ?_ (by first | omega | (simp; done) | (simp; omega)) _ | refine Below.alloc ?_ (by first | omega | (simp; done) | (simp; omega)) _)) hb7; clear hb7) | fail
              all_goals go_wp2_with fail
              all_goals go_meet
              all_goals exact ⟨rfl, by repeat (first | exact Below.refl _ _ | assumption | refine st_drew ?_ | refine st_drewN ?_ _ | refine Below.setCell ?_ (by first | omega | (simp; done) | (simp; omega)) _ | refine Below.alloc ?_ (by first | omega | (simp; done) | (simp; omega)) _)⟩
            case rest =>
              obtain ⟨rfl, bX⟩ := hcut
              go_wp2_with fail
              go_roundw
              case rel => exact ⟨i + 1, _, L2, S2, hm, a, c, by omega, rfl, rfl, rfl, HI2, HM2, hL2, by omega, by omega, by omega, ownO_below HOL.out bX, HTm.out, HSN, ownO_below HOS.out bX, HAS, HS, HST.out.step bX⟩
              case measure => simp [intOf]; omega
          · have hwn : (why x u r == 0) = false := by simpa using q
            have HIW := hidden q
            have hSo := HST.out
            have HEA := hidden (fun W (hb : Below wr.heap.size wr W) => searl_any x ta x.team.length tc a S2.length c (S2.map Prod.fst) r W (own_orw (ownO_below HOS.out hb) (fun p hp => ((hSo.step hb).irw (HS.out p hp).2.1 (HS.out p hp).2.2))) (by rw [List.length_map]; omega) (HR.out W (onto bw hb)) HXO.out (fun y hy => by
                obtain ⟨p, hp, rfl⟩ := List.mem_map.1 hy
                exact (HS.out p hp).1) hrr)
            unfold aO at HEA
            have hEb := (earl_early (S2.map Prod.fst) x r).bd HXO.out
            have HNO := hidden (fun (he : earl (S2.map Prod.fst) x r < 0) => insert_dead HC.out (ins_none HI.out HX.out HIW.out he) (by omega))
            have HMV := hidden (fun (he : ¬ earl (S2.map Prod.fst) x r < 0) => ins_move HI.out HX.out HIW.out he)
            generalize earl (S2.map Prod.fst) x r = t at *
            generalize why x u r = wy at *
            obtain ⟨hE1, hE2, hE3, hE4⟩ := hEb
            clear hSo
            go_upto_region 15 with fail
            go_cut [86] from 73 to 134 (fun bv wx => bv = .bool false ∧ Below wr.heap.size wr wx)
            case first =>
              first | go_region_with (go_at_call 40; refine (hK _ (HR.out _ (by repeat (first | exact Below.refl _ _ | assumption | refine st_drew ?_ | refine st_drewN ?_ _ | refine Below.setCell ?_ (by first | omega | (simp; done) | (simp; omega)) _ | refine Below.alloc ?_ (by first | omega | (simp; done) | (simp; omega)) _))) (HT.out _ (by repeat (first | exact Below.refl _ _ | assumption | refine st_drew ?_ | refine st_drewN ?_ _ | refine Below.setCell ?_ (by first | omega | (simp; done) | (simp; omega)) _ | refine Below.alloc ?_ (by first | omega | (simp; done) | (simp; omega)) _)))).mono ?_; rintro e w7 ⟨rfl, hb7⟩; have bD := onto (show Below wr.heap.size wr _ from by repeat (first | exact Below.refl _ _ | assumption | refine st_drew ?_ | refine st_drewN ?_ _ | refine Below.setCell ?_ (by first | omega | (simp; done) | (simp; omega)) _ | refine Below.alloc ?_ (by first | omega | (simp; done) | (simp; omega)) _)) hb7; clear hb7) | fail
              all_goals go_wp2_with fail
              all_goals go_meet
              all_goals exact ⟨by first | rfl | (rw [hwn]), by repeat (first | exact Below.refl _ _ | assumption | refine st_drew ?_ | refine st_drewN ?_ _ | refine Below.setCell ?_ (by first | omega | (simp; done) | (simp; omega)) _ | refine Below.alloc ?_ (by first | omega | (simp; done) | (simp; omega)) _)⟩
            case rest =>
              obtain ⟨rfl, bX⟩ := hcut
              have zX := bX.size
              have bXw := onto bw bX
              have f0 := (bXw.cell (p := ⟨g, off + i * 4, none⟩) hg).trans M0.out
              have f1 := (bXw.cell (p := ⟨g, off + i * 4 + 1, none⟩) hg).trans M1.out
              have f2 := (bXw.cell (p := ⟨g, off + i * 4 + 2, none⟩) hg).trans M2.out
              have f3 := (bXw.cell (p := ⟨g, off + i * 4 + 3, none⟩) hg).trans M3.out
              have hgc : g < wc.heap.size := by omega
              clear d0 d1 d2 d3 p0 p1 p2 p3 pf pl s0 s1 s2 s3
              by_cases ht : t < 0
              · go_wp2_with (go_at_call 45; refine (HEA.out _ bX).mono ?_; rintro e w5 ⟨rfl, hb5⟩; have b5 := onto bXw hb5; clear hb5)
                exact bodyPost_ret (v := .tuple #[.slice (some ⟨_, 0, none⟩) 0 0, .int .i64 0, .bool false]) (by simp [results, Try.results18]) rfl (told_none (HNO.out ht) b5)
              · obtain ⟨hE5, hE6⟩ := hE4 (by omega)
                have emv : mv x t = ⟨x.room, t, t + x.to - x.fr, x.team⟩ := by unfold mv; congr 1; omega
                have HI2 := hidden (HMV.out ht)
                have HM2 := hidden (pair_set (y := mv x t) (tv := .slice at1 x.team.length ct1) HM.out hPl HX.out)
                have HS2 : Hid (∀ p ∈ S2 ++ [(mv x t, Value.slice at1 x.team.length ct1)], opB p.1 = true ∧ IRw w3 p.2 p.1.team ∧ ∀ k, p.2.ownBlock = some k → ¬ (k = GL ∨ (Value.slice a2 S.length c2).ownBlock = some k)) := fun p hp => by
                  rcases List.mem_append.1 hp with hp | hp
                  · exact HS.out p hp
                  · rw [List.mem_singleton.1 hp]; exact ⟨opB_mv HXO.out (by omega) hE6, HIR.out, HNE.out⟩
                have HTm2 := hidden (HTm.out.set (y := mv x t) HP.out rfl)
                have HSN2 : Hid ((L2.set i (mv x t, Value.slice at1 x.team.length ct1)).map Prod.snd = L.map Prod.snd) := by
                  rw [Hid, ← HSN.out, List.map_set]
                  refine List.ext_getElem? fun k => ?_
                  rw [List.getElem?_set]
                  split
                  · rename_i hk
                    subst hk
                    rw [List.length_map, if_pos (by omega), List.getElem?_map, HP.out]; rfl
                  · rfl
                have HEM := hidden emv
                clear HNO HMV hE4 HI HM emv
                go_upto_region 20 with (go_at_call 45; refine (HEA.out _ bX).mono ?_; rintro e w5 ⟨rfl, hb5⟩; have b5 := onto bX hb5; have b5w := onto bw b5; have z5 := b5.size; have g0 := (b5w.cell (p := ⟨g, off + i * 4, none⟩) hg).trans M0.out; have g1 := (b5w.cell (p := ⟨g, off + i * 4 + 1, none⟩) hg).trans M1.out; have g2 := (b5w.cell (p := ⟨g, off + i * 4 + 2, none⟩) hg).trans M2.out; have g3 := (b5w.cell (p := ⟨g, off + i * 4 + 3, none⟩) hg).trans M3.out; have O5 := hidden (ownO_below HOL.out b5); have OS5 := hidden (ownO_below HOS.out b5); have ST5 := hidden (HST.out.step b5); obtain ⟨⟨p0, p1, p2, p3⟩, pf, pl⟩ := own_cells4 O5.out HP.out hL2; clear hb5)
                have hii : (i : Int) < (L.length : Int) := by have := HIL.out; omega
                have hWR : IntKind.i64.wrap (IntKind.i64.wrap (t + x.to) - x.fr) = t + x.to - x.fr := by rw [wrapO (n := t + x.to) (by omega) (by omega), wrapO (by omega) (by omega)]
                have hne6 : ∀ k, (Value.slice a S2.length c).ownBlock = some k → k ≠ GL := fun k hk => by
                  rcases HAS.out k hk with e | e
                  · exact HGS.out k e hpos
                  · omega
                have O6 := own_cell O5.out (i * 4 + 1) (by omega) (.int .i64 t)
                have OS6 := own_set_at (b := GL) (o := i * 4 + 1) OS5.out hne6 (.int .i64 t)
                have ST6 := ST5.out.set (G := GL) (Or.inl rfl) (i * 4 + 1) (.int .i64 t)
                have hgG : GL ≠ g := by omega
                have h1 := (World.cell?_setCell_far w5 ⟨GL, i * 4 + 1, none⟩ ⟨g, off + i * 4 + 1, none⟩ (.int .i64 t) hgG).trans g1
                have h2 := (World.cell?_setCell_far w5 ⟨GL, i * 4 + 1, none⟩ ⟨g, off + i * 4 + 2, none⟩ (.int .i64 t) hgG).trans g2
                have hz6 : (w5.setCell ⟨GL, i * 4 + 1, none⟩ (.int .i64 t)).heap.size = w5.heap.size := by simp [World.setCell]
                go_upto_region 21 with fail
                clear p0 p1 p2 p3 pf pl g0 g1 g2 g3 f0 f1 f2 f3
                generalize w5.setCell ⟨GL, i * 4 + 1, none⟩ (.int .i64 t) = W5 at *
                obtain ⟨⟨y2, hy2⟩, hyf, hyl⟩ := own_any O6 (j := i * 4 + 2) (by omega)
                have hg5 : g < W5.heap.size := by omega
                have O6h := hidden O6
                have OS6h := hidden OS6
                have ST6h := hidden ST6
                have hne6h := hidden hne6
                clear O6 OS6 ST6 hne6 b5 b5w bX bXw
                go_cut [14] from 73 to 134 (fun zv wx => zv = .int .i64 t ∧ wx.ownsRow w4.heap.size 31 4 (.slice (some ⟨GL, 0, none⟩) L.length c1) L.length (cellsO (L2.set i (mv x t, Value.slice at1 x.team.length ct1))) ∧ wx.ownsRow w4.heap.size 31 4 (.slice a S2.length c) S2.length (cellsO S2) ∧ Stdx w3 (fun k => k = GL ∨ (Value.slice a2 S.length c2).ownBlock = some k) wx)
                case first =>
                  go_region_held3 (fun w' => w'.cell? ⟨g, off + i * 4 + 1, none⟩ = some (.int .i64 x.fr) ∧ w'.cell? ⟨g, off + i * 4 + 2, none⟩ = some (.int .i64 x.to)) (go_keep) (fail)
                  all_goals go_wp2_with fail
                  all_goals go_meet
                  all_goals (try rw [hWR])
                  all_goals exact ⟨rfl, by rw [HEM.out, ← cellsO_set2 L2 i x (.slice at1 x.team.length ct1) t (t + x.to - x.fr) HP.out]; exact ownO_below (own_cell O6h.out (i * 4 + 2) (by omega) (.int .i64 (t + x.to - x.fr))) (by repeat (first | exact Below.refl _ _ | assumption | refine st_drew ?_ | refine st_drewN ?_ _ | refine Below.setCell ?_ (by first | omega | (simp; done) | (simp; omega)) _ | refine Below.alloc ?_ (by first | omega | (simp; done) | (simp; omega)) _)), ownO_below (own_set_at (b := GL) (o := i * 4 + 2) OS6h.out hne6h.out (.int .i64 (t + x.to - x.fr))) (by repeat (first | exact Below.refl _ _ | assumption | refine st_drew ?_ | refine st_drewN ?_ _ | refine Below.setCell ?_ (by first | omega | (simp; done) | (simp; omega)) _ | refine Below.alloc ?_ (by first | omega | (simp; done) | (simp; omega)) _)), (ST6h.out.set (G := GL) (Or.inl rfl) (i * 4 + 2) (.int .i64 (t + x.to - x.fr))).step (by repeat (first | exact Below.refl _ _ | assumption | refine st_drew ?_ | refine st_drewN ?_ _ | refine Below.setCell ?_ (by first | omega | (simp; done) | (simp; omega)) _ | refine Below.alloc ?_ (by first | omega | (simp; done) | (simp; omega)) _))⟩
                case rest =>
                  obtain ⟨rfl, O7, OS7, ST7⟩ := hcut
                  obtain ⟨⟨y0, y1, y2', y3⟩, -, yl⟩ := own_cells4 (i := i) (x := mv x t) (tv := .slice at1 x.team.length ct1) O7 (by rw [List.getElem?_set_self (by omega)]) (by rw [List.length_set]; exact hL2)
                  simp only [mv] at y0 y1 y2'
                  have z7 := ST7.size
                  have O7h := hidden O7
                  have OS7h := hidden OS7
                  have ST7h := hidden ST7
                  clear O7 OS7 ST7 hy2 hyf hyl h1 h2
                  go_wp2_with (at_builtin; refine wpList_append_own_at _ rfl (.tmp 128) (.tmp 133) 24 rfl w4.heap.size 31 i0 (.agg #[.int .i64 0, .int .i64 0, .int .i64 0, .slice none 0 0]) 4 48 Try.underlying24 hv0 hv1 hv2 hv3 rfl (by decide) _ S2.length (cellsO S2) rfl (OS7h.out.alloc _) ⟨wc.heap.size, 0, none⟩ 1 1 [.int .i64 x.room, .int .i64 t, .int .i64 (t + (x.to - x.fr)), .slice at1 x.team.length ct1] rfl rfl (cell4O _ _ _ _ _ _) (four_oneO _ _ _ _ _ _) (by unfold maxLen; omega) (by omega) (by simp; omega) ?_; intro v9 w9 ho9 hg9 hnn9 hat9; have O9 := hidden ho9; have G9 := hidden hg9; have A9 := hidden hat9; obtain ⟨a9, c9, rfl⟩ := ownO_slice ho9; clear ho9 hg9 hnn9 hat9)
                  have hAl : Below wc.heap.size wc (wc.alloc (.cells #[.int .i64 x.room, .int .i64 t, .int .i64 (t + (x.to - x.fr)), .slice at1 x.team.length ct1] 31)) := (Below.refl _ _).alloc (Nat.le_refl _) _
                  have OL9 := own_grownO (O7h.out.alloc _) G9.out (fun k hk hk2 => by have e1 := Option.some.inj hk; have := hne6h.out k hk2; simp only at e1; omega)
                  have ST9 := (ST7h.out.step hAl).grown G9.out (fun k hk => by
                    rcases HAS.out k hk with e | e
                    · exact Or.inl (Or.inr e)
                    · exact Or.inr e)
                  have HAS9 : Hid (∀ k, (Value.slice a9 (S2.length + 1) c9).ownBlock = some k → ((Value.slice a2 S.length c2).ownBlock = some k ∨ w3.heap.size ≤ k)) := fun k hk => by
                    rcases A9.out with e | e
                    · rw [e] at hk; exact HAS.out k hk
                    · rw [e] at hk
                      have e2 := Option.some.inj hk
                      simp only [World.size_alloc] at e2
                      right; omega
                  go_roundw
                  case rel => exact ⟨i + 1, _, L2.set i (mv x t, .slice at1 x.team.length ct1), S2 ++ [(mv x t, .slice at1 x.team.length ct1)], hm + (t - x.fr), a9, c9, by omega, rfl, by congr 1; omega, by rw [List.length_append]; rfl, by rw [Hid, List.map_append]; exact HI2.out, HM2, by rw [List.length_set]; exact hL2, by omega, by omega, by rw [List.length_append]; simp; omega, OL9, HTm2.out, HSN2, by rw [cellsO_app, List.length_append]; exact O9.out, by rw [List.length_append]; exact HAS9, HS2, ST9⟩
                  case measure => simp [intOf]; omega
        · have hlti : ¬ (i : Int) < (l.length : Int) := by omega
          have hil : i = l.length := by omega
          have hPL : Hid (L2.map Prod.fst = P) := by rw [Hid, HM.out, hil, List.drop_length, List.append_nil]
          have HF : Hid (Oa.insert l u r = (P ++ [u], hm, true)) := insert_yes HC.out (by rw [← hil]; exact HI.out)
          have hA := fun W hW => copy_any u ua un uc W hW hu hul.1
          unfold aO at hA
          have TW := hidden (hTm.stdx hst (fun p hp k hk => by
            have hm2 : p.2 ∈ L.map Prod.snd := by rw [← HSN.out]; exact List.mem_map_of_mem hp
            obtain ⟨q, hq, e⟩ := List.mem_map.1 hm2
            obtain ⟨j, hj⟩ := List.getElem?_of_mem hq
            rw [← e] at hk
            exact hTX2.out j q.1 q.2 hj k hk))
          clear hil HI HM
          go_wp2_with (first
            | (go_at_call 50; refine (hA _ (HT.out _ (by repeat (first | exact Below.refl _ _ | assumption | refine st_drew ?_ | refine st_drewN ?_ _ | refine Below.setCell ?_ (by first | omega | (simp; done) | (simp; omega)) _ | refine Below.alloc ?_ (by first | omega | (simp; done) | (simp; omega)) _)))).mono ?_; rintro e w5 ⟨a5, c5, rfl, ho5, hb5⟩; have O5 := hidden (ownO_below hoL hb5); have T5 := hidden ho5; have B5 := hidden hb5; have z5 := hb5.size; clear ho5 hb5)
            | (at_builtin; refine wpList_append_own _ rfl (.tmp 135) (.tmp 138) 24 rfl w4.heap.size 31 i0 (.agg #[.int .i64 0, .int .i64 0, .int .i64 0, .slice none 0 0]) 4 48 Try.underlying24 hv0 hv1 hv2 hv3 rfl (by decide) _ L.length (cellsO L2) rfl (O5.out.alloc _) ⟨w5.heap.size, 0, none⟩ 1 1 [.int .i64 u.room, .int .i64 u.fr, .int .i64 u.to, .slice a5 u.team.length c5] rfl rfl (cell4O _ _ _ _ _ _) (four_oneO _ _ _ _ _ _) (by unfold maxLen; omega) (by omega) (by simp; omega) ?_; intro v9 w9 ho9 hg9 hnn9; have hO9 := hidden ho9; have hG9 := hidden hg9; obtain ⟨ad9, c9, rfl⟩ := ownO_slice ho9; clear ho9 hg9 hnn9))
          have T9 := (((TW.out.below B5.out).below (show Below w5.heap.size w5 (w5.alloc (.cells #[.int .i64 u.room, .int .i64 u.fr, .int .i64 u.to, .slice a5 u.team.length c5] 31)) from (Below.refl _ _).alloc (Nat.le_refl _) _)).snoc (p := (u, .slice a5 u.team.length c5)) (ownO_below T5.out ((Below.refl _ _).alloc (Nat.le_refl _) _)) (by omega) (fun q hq k hk => ((TW.out.lt q hq k hk).2))).grown (O5.out.alloc _) hG9.out
          have b9 := grown_belowO ((onto bw B5.out).alloc (by omega) _) (by simp; omega) hG9.out (fun k hk => by have := (ownO_lt hoL k hk).1; omega)
          exact bodyPost_ret (v := .tuple #[.slice ad9 (L.length + 1) c9, .int .i64 hm, .bool true]) (by simp [results, Try.results18]) rfl ⟨L2 ++ [(u, .slice a5 u.team.length c5)], _, hm, true, rfl, by rw [HF.out, List.map_append, hPL.out]; rfl, by rw [cellsO_app, List.length_append, hL2]; exact own_base hO9.out (by omega), T9.base (by omega), b9⟩
end Go.Proofs.Ytcapmobhgffnhaa
