/-
  Proved: for every list of operations, every emergency and every rest, the program's Insert answers as the specification's, writes into no argument and keeps nothing of one, and its answer owns its memory (FnExactInsert returns true). No conditions.
-/
import Derived.Test.YtgedaobgomnflaaOn
import Derived.Test.YtgedaobgomnflaaOxc
import Derived.Test.YtgedaobgomnflaaOz
namespace Go.Proofs.Ytgedaobgomnflaa
open Go.RowKit Va Oa

namespace fnExactInsert
open Go.ChangeShapes Go.WideShapes Go.ChangeAt Go.Joins
set_option linter.all false

theorem own : ownKnob Try.prog.godebug = none := by kernel_rfl
theorem laidOut : laidOutB Try.prog = true := by kernel_rfl

theorem box_below {W W' : World} {b : Nat} {v0 v1 v2 v3 : Value} (h : OBox4 W b v0 v1 v2 v3) (hb : Below W.heap.size W W') (hl : b < W.heap.size) : OBox4 W' b v0 v1 v2 v3 :=
  ⟨((bcell hb).1 _ _ hl).trans h.1, ((bcell hb).1 _ _ hl).trans h.2.1, ((bcell hb).1 _ _ hl).trans h.2.2.1, ((bcell hb).1 _ _ hl).trans h.2.2.2⟩
theorem box_keep {W W' : World} {b : Nat} {v0 v1 v2 v3 : Value} (h : OBox4 W b v0 v1 v2 v3) (hb : W'.heap[b]? = W.heap[b]?) : OBox4 W' b v0 v1 v2 v3 :=
  ⟨(World.cell?_of_block hb).trans h.1, (World.cell?_of_block hb).trans h.2.1, (World.cell?_of_block hb).trans h.2.2.1, (World.cell?_of_block hb).trans h.2.2.2⟩
/-- What was handed in is as it was; the box of the emergency too. -/
structure INV (w : World) (v0 v1 v2 v3 : Value) (W : World) : Prop where
  b : Below w.heap.size w W
  x : OBox4 W w.heap.size v0 v1 v2 v3
  z : w.heap.size < W.heap.size
theorem INV.step {w W W' : World} {v0 v1 v2 v3 : Value} (h : INV w v0 v1 v2 v3 W) (hb : Below W.heap.size W W') : INV w v0 v1 v2 v3 W' := ⟨onto h.b hb, box_below h.x hb h.z, Nat.lt_of_lt_of_le h.z hb.size⟩
theorem INV.kp {w W W' : World} {v0 v1 v2 v3 : Value} {a c : Nat} (h : INV w v0 v1 v2 v3 W) (hk : Kp a c W W') (ha : w.heap.size < a) : INV w v0 v1 v2 v3 W' := ⟨hk.below h.b (by omega), box_keep h.x (hk.block _ (Or.inl ha)), by rw [hk.size]; exact h.z⟩
/-- The team of the copy may be written. -/
def NB (W : World) (T n : Nat) : Prop := T < W.heap.size ∧ ∀ m, m < n → (∃ u, W.cell? ⟨T, m, none⟩ = some u) ∧ W.frozen? ⟨T, m, none⟩ = false
theorem NB.below {W W' : World} {T n : Nat} (h : NB W T n) (hb : Below W.heap.size W W') : NB W' T n := ⟨Nat.lt_of_lt_of_le h.1 hb.size, fun m hm => by
  obtain ⟨⟨u, hu⟩, hf⟩ := h.2 m hm
  exact ⟨⟨u, ((bcell hb).1 _ _ h.1).trans hu⟩, ((bcell hb).2 _ _ h.1).trans hf⟩⟩
theorem NB.kp {W W' : World} {T n a c : Nat} (h : NB W T n) (hk : Kp a c W W') : NB W' T n := ⟨by rw [hk.size]; exact h.1, fun m hm => ⟨hk.cell _ _ (h.2 m hm).1, (hk.fro _ _).trans (h.2 m hm).2⟩⟩
theorem nb_of {W : World} {T : Nat} {l : List Int} (h : Out 1 csI W T l.length l l.length) : NB W T l.length := ⟨h.1, fun m hm => h.2.1 m (by omega)⟩
/-- What the call of Insert in a region leaves. -/
def Ans4 (w1 : World) (A : List Opn) (H : Int) (B : Bool) (sv hv tv : Value) (wx : World) : Prop := ∃ (L : List (Opn × Value)) (lo : Nat) (ad : Option Addr) (cp : Nat), sv = .slice ad A.length cp ∧ hv = .int .i64 H ∧ tv = .bool B ∧ L.map Prod.fst = A ∧ w1.heap.size ≤ lo ∧ LRB wx lo wx.heap.size (.slice ad A.length cp) L ∧ Below w1.heap.size w1 wx
theorem ans_of {w w' : World} {l : List Opn} {u : Opn} {r : Int} {e : Ending} {A : List Opn} {H : Int} {B : Bool} (h : Told3 w l u r e w') (hA : Oa.insert l u r = (A, H, B)) : ∃ (L : List (Opn × Value)) (ad : Option Addr) (cp : Nat), e = .returned (.tuple #[.slice ad A.length cp, .int .i64 H, .bool B]) ∧ L.map Prod.fst = A ∧ LRB w' w.heap.size w'.heap.size (.slice ad A.length cp) L ∧ Below w.heap.size w w' := by
  obtain ⟨L, v, h', t, rfl, hq, ho, hT, hb⟩ := h
  rw [hA] at hq
  simp only [Prod.mk.injEq] at hq
  obtain ⟨h1, rfl, rfl⟩ := hq
  have hL := lrb_of ho hT
  obtain ⟨ad, cp, rfl⟩ := hL.form
  have hl : L.length = A.length := by rw [← h1, List.length_map]
  rw [hl] at hL ⊢
  exact ⟨L, ad, cp, rfl, h1, hL, hb⟩
theorem orwA {w : World} {lo hi : Nat} {v : Value} {L : List (Opn × Value)} {A : List Opn} (h : LRB w lo hi v L) (hA : L.map Prod.fst = A) : ORw w v A := by rw [← hA]; exact h.orw
theorem markB_any (lo hi : Nat) (ad : Option Addr) (cp : Nat) (L : List (Opn × Value)) (A : List Opn) (w : World) (hA : L.map Prod.fst = A) (h : LRB w lo hi (.slice ad A.length cp) L) (hn : A.length ≤ 1048576) (ht : ∀ x ∈ A, x.team.length ≤ 1048576 ∧ 1 ≤ x.team.length) :
    Calls Try.prog 17 #[.slice ad A.length cp, .int .i64 1] w fun e w' => e = .returned (.int .i64 (1 + tot A)) ∧ (∃ M, LRB w' lo hi (.slice ad A.length cp) M ∧ M.map Prod.fst = marked 1 A) ∧ Kp lo w.heap.size w w' := by
  subst hA
  rw [List.length_map] at h hn ⊢
  refine (markA_any lo hi _ L w h hn (fun p hp => ht p.1 (List.mem_map.2 ⟨p, hp, rfl⟩))).mono ?_
  rintro e w' ⟨M, h1, h2, rfl, h4, h5⟩
  exact ⟨rfl, ⟨M, h4, h2⟩, h5⟩

set_option maxRecDepth 20000 in
set_option maxHeartbeats 8000000 in
theorem walk (ao : Option Addr) (len cap : Nat) (l : List Opn) (x : Opn) (ta : Option Addr) (tc : Nat) (r : Int) (w : World) (h : ORw w (.slice ao len cap) l) (hl : l.length = len) (hm : len ≤ maxLen) (htm : ∀ x ∈ l, x.team.length ≤ maxLen)
    (hxm : x.team.length ≤ maxLen) (hxr : IRw w (.slice ta x.team.length tc) x.team) :
    Calls Try.prog 3 #[.slice ao len cap, aO x (.slice ta x.team.length tc), .int .i64 r] w fun e w' => e = .returned (.bool true) ∧ Below w.heap.size w w' := by
  have hS := fun W hW => szops_any ao len cap l 1048576 W hW (by omega) htm (by omega) (by omega)
  have HJ := hidden (fun W (hW : Below w.heap.size w W) => h.below hW)
  have HX := hidden (fun W (hW : Below w.heap.size w W) => hxr.below hW)
  clear h htm hxr
  unfold aO
  go_enter Try.func3, Try.ntmps3
  go_wp2_with fail
  refine (hS _ (HJ.out _ (by repeat (first | exact Below.refl _ _ | assumption | refine st_drew ?_ | refine st_drewN ?_ _ | refine Below.setCell ?_ (by first | omega | (simp; done) | (simp; omega)) _ | refine Below.alloc ?_ (by first | omega | (simp; done) | (simp; omega)) _)))).mono ?_
  rintro e w0 ⟨q, rfl, hr, hb0⟩
  obtain ⟨d0, d1, d2, d3, z0⟩ := one_box hb0
  have b0 := onto (show Below w.heap.size w _ from by repeat (first | exact Below.refl _ _ | assumption | refine st_drew ?_ | refine st_drewN ?_ _ | refine Below.setCell ?_ (by first | omega | (simp; done) | (simp; omega)) _ | refine Below.alloc ?_ (by first | omega | (simp; done) | (simp; omega)) _)) hb0
  clear hS hb0
  rcases hr with hr | ⟨hr0, hr1, hll, hlt⟩
  · go_wp2_with fail
    go_ret
    exact ⟨rfl, b0⟩
  have hr2 : ¬ q < 0 := by omega
  have hZ := fun W => szop_any x ta x.team.length tc q W (by unfold maxLen at hxm; omega) hr0 (by omega)
  unfold aO at hZ
  go_wp2_with fail
  refine (hZ _).mono ?_
  rintro e w1 ⟨rfl, hb1⟩
  have I1 := hidden ((INV.mk b0 ⟨d0, d1, d2, d3⟩ (by omega)).step hb1)
  have b1 := onto b0 hb1
  clear hZ hb1 b0 d0 d1 d2 d3 z0
  by_cases hs : q < (x.team.length : Int)
  · rw [if_pos hs]
    go_wp2_with fail
    go_ret
    exact ⟨rfl, b1⟩
  rw [if_neg hs]
  have hs2 : ¬ q - x.team.length < 0 := by omega
  have hxl : x.team.length ≤ 1048576 := by omega
  have HT := hidden (fun W hW => toops_any ao len cap l W hW hll hlt)
  have HU := hidden (fun W hW => toop_any x ta x.team.length tc W hW hxl)
  have HSP := hidden (fun g T W hW1 hW2 => sinsert_any x (some ⟨T, 0, none⟩) x.team.length x.team.length (some ⟨g, 0, none⟩) l.length l.length l r W hW1 hll hlt hW2 hxl)
  have HIM := hidden (fun g T W hW1 hW2 => iinsert_any x (some ⟨T, 0, none⟩) x.team.length x.team.length (some ⟨g, 0, none⟩) l.length l.length l r W hW1 hll hlt hW2 hxl)
  have HQ := hidden (fun T1 T2 W hW1 hW2 => eqop_any x (some ⟨T1, 0, none⟩) x.team.length x.team.length (some ⟨T2, 0, none⟩) x.team.length x.team.length W hW1 hW2 hxl)
  have HL := hidden hll
  have HM := hidden hlt
  obtain ⟨A, H, B, hA⟩ : ∃ A H B, Oa.insert l x r = (A, H, B) := ⟨_, _, _, rfl⟩
  have hgood := insert_good l x r
  rw [hA] at hgood
  have HA := hidden hA
  have HG := hidden hgood
  have HEQ := hidden (fun (a1 a2 : Option Addr) (c1 c2 : Nat) (W : World) hW1 hW2 => eqops_any a1 A.length c1 a2 A.length c2 A W hW1 hW2 HG.out.1 (fun y hy => (HG.out.2 y hy).1))
  have HK := hidden (fun (T : Nat) (k0 : Int) (W : World) (hN : NB W T x.team.length) (h0 : 0 ≤ k0 ∧ k0 ≤ 1000000000000000) => markop_any x T x.team.length x.team.length k0 W hN.2 hN.1 hxl h0.1 h0.2)
  unfold aO at HU HSP HIM HQ HK
  clear hll hlt hl hA hgood b1 hxm hm hxl
  obtain ⟨d0, d1, d2, d3⟩ := I1.out.x
  have bN := I1.out.b
  go_upto_region 8 with fail
  go_cut [8, 9, 10] from 32 to 41 (fun sv hv tv wx => Ans4 w1 A H B sv hv tv wx)
  case first =>
    clear HEQ HK HQ HIM HG
    first | go_region_with (first
      | (go_at_call 12; refine (HT.out _ (HJ.out _ (by repeat (first | exact Below.refl _ _ | assumption | refine st_drew ?_ | refine st_drewN ?_ _ | refine Below.setCell ?_ (by first | omega | (simp; done) | (simp; omega)) _ | refine Below.alloc ?_ (by first | omega | (simp; done) | (simp; omega)) _)))).mono ?_; rintro e wp ⟨rfl, hjp, hbp⟩; have Ip := hidden ((I1.out.step (show Below w1.heap.size w1 _ from by repeat (first | exact Below.refl _ _ | assumption | refine st_drew ?_ | refine st_drewN ?_ _ | refine Below.setCell ?_ (by first | omega | (simp; done) | (simp; omega)) _ | refine Below.alloc ?_ (by first | omega | (simp; done) | (simp; omega)) _))).step hbp); obtain ⟨e0, e1, e2, e3⟩ := Ip.out.x; have bp := Ip.out.b; have cp := onto (show Below w1.heap.size w1 _ from by repeat (first | exact Below.refl _ _ | assumption | refine st_drew ?_ | refine st_drewN ?_ _ | refine Below.setCell ?_ (by first | omega | (simp; done) | (simp; omega)) _ | refine Below.alloc ?_ (by first | omega | (simp; done) | (simp; omega)) _)) hbp; have Rp := hidden (hjp.orw l.length (Nat.le_refl _)); clear hjp hbp)
      | (go_at_call 13; refine (HU.out _ (HX.out _ (by repeat (first | exact Below.refl _ _ | assumption | refine st_drew ?_ | refine st_drewN ?_ _ | refine Below.setCell ?_ (by first | omega | (simp; done) | (simp; omega)) _ | refine Below.alloc ?_ (by first | omega | (simp; done) | (simp; omega)) _)))).mono ?_; rintro e wq ⟨Tq, hTq, rfl, hoq, hbq⟩; have cq := onto (show Below w1.heap.size w1 _ from by repeat (first | exact Below.refl _ _ | assumption | refine st_drew ?_ | refine st_drewN ?_ _ | refine Below.setCell ?_ (by first | omega | (simp; done) | (simp; omega)) _ | refine Below.alloc ?_ (by first | omega | (simp; done) | (simp; omega)) _)) hbq; have Rq := hidden ((Rp.out.below (show Below wp.heap.size wp _ from by repeat (first | exact Below.refl _ _ | assumption | refine st_drew ?_ | refine st_drewN ?_ _ | refine Below.setCell ?_ (by first | omega | (simp; done) | (simp; omega)) _ | refine Below.alloc ?_ (by first | omega | (simp; done) | (simp; omega)) _))).below hbq); have Uq := hidden (out_irw hoq _ (Nat.le_refl _)); clear hoq hbq)
      | (go_at_call 11; refine (HSP.out _ _ _ (Rq.out.below (by repeat (first | exact Below.refl _ _ | assumption | refine st_drew ?_ | refine st_drewN ?_ _ | refine Below.setCell ?_ (by first | omega | (simp; done) | (simp; omega)) _ | refine Below.alloc ?_ (by first | omega | (simp; done) | (simp; omega)) _))) (Uq.out.below (by repeat (first | exact Below.refl _ _ | assumption | refine st_drew ?_ | refine st_drewN ?_ _ | refine Below.setCell ?_ (by first | omega | (simp; done) | (simp; omega)) _ | refine Below.alloc ?_ (by first | omega | (simp; done) | (simp; omega)) _)))).mono ?_; intro e ws hts; obtain ⟨Ls, ads, cps, rfl, hqs, hls, hbs⟩ := ans_of hts HA.out; have zs := cq.size; have cs := onto (show Below w1.heap.size w1 _ from by repeat (first | exact Below.refl _ _ | assumption | refine st_drew ?_ | refine st_drewN ?_ _ | refine Below.setCell ?_ (by first | omega | (simp; done) | (simp; omega)) _ | refine Below.alloc ?_ (by first | omega | (simp; done) | (simp; omega)) _)) hbs; clear hts hbs)) | fail
    all_goals go_wp2_with fail
    all_goals go_meet
    all_goals exact ⟨Ls, _, _, _, rfl, rfl, rfl, hqs, by first | exact zs | (simp only [World.size_drew]; exact zs), hls, cs⟩
  case rest =>
    obtain ⟨LS, loS, adS, cpS, rfl, rfl, rfl, hLS, hlS, hSB, hb4⟩ := hcut
    rename World => w4
    have I4 := hidden (I1.out.step hb4)
    have z4 := hb4.size
    have z1 := I1.out.z
    have HLS := hidden hLS
    have S4 := hidden hSB
    clear hLS hSB hb4 bN d0 d1 d2 d3 I1
    go_wp2_with fail
    refine (HT.out _ (HJ.out _ I4.out.b)).mono ?_
    rintro e w5 ⟨rfl, hj5, hb5⟩
    have I5 := hidden (I4.out.step hb5)
    have z5 := hb5.size
    have S5 := hidden (S4.out.below hb5 (Nat.le_refl _))
    have R5 := hidden (hj5.orw l.length (Nat.le_refl _))
    have M5 := hidden hj5.marked
    obtain ⟨d0, d1, d2, d3⟩ := I5.out.x
    clear hj5 hb5 S4 I4
    go_wp2_with fail
    refine (HU.out _ (HX.out _ I5.out.b)).mono ?_
    rintro e w6 ⟨T6, hT6, rfl, ho6, hb6⟩
    have I6 := hidden (I5.out.step hb6)
    have z6 := hb6.size
    have S6 := hidden (S5.out.below hb6 (by omega))
    have R6 := hidden (R5.out.below hb6)
    have M6 := hidden (M5.out.below (Nat.le_refl _) hb6)
    have U6 := hidden (out_irw ho6 _ (Nat.le_refl _))
    have N6 := hidden (nb_of ho6)
    have hT6l := ho6.1
    clear ho6 hb6 S5 R5 M5 I5 d0 d1 d2 d3
    go_wp2_with fail
    refine (HIM.out _ _ _ (R6.out.below (by repeat (first | exact Below.refl _ _ | assumption | refine st_drew ?_ | refine st_drewN ?_ _ | refine Below.setCell ?_ (by first | omega | (simp; done) | (simp; omega)) _ | refine Below.alloc ?_ (by first | omega | (simp; done) | (simp; omega)) _))) (U6.out.below (by repeat (first | exact Below.refl _ _ | assumption | refine st_drew ?_ | refine st_drewN ?_ _ | refine Below.setCell ?_ (by first | omega | (simp; done) | (simp; omega)) _ | refine Below.alloc ?_ (by first | omega | (simp; done) | (simp; omega)) _)))).mono ?_
    intro e w7 ht7
    obtain ⟨LG, adG, cpG, rfl, hLG, hGB, hb7⟩ := ans_of ht7 HA.out
    obtain ⟨g0, g1, g2, g3, z7'⟩ := one_box hb7
    have bA7 : Below w6.heap.size w6 (w6.alloc (.cells #[.int .i64 x.room, .int .i64 x.fr, .int .i64 x.to, .slice (some ⟨T6, 0, none⟩) x.team.length x.team.length] 32)) := (Below.refl _ w6).alloc (Nat.le_refl _) _
    have I7 := hidden ((I6.out.step bA7).step hb7)
    have Y7 := hidden (show OBox4 w7 w6.heap.size _ _ _ _ from ⟨g0, g1, g2, g3⟩)
    have S7 := hidden ((S6.out.below bA7 (by omega)).below hb7 (by simp only [World.size_alloc]; omega))
    have R7 := hidden ((R6.out.below bA7).below hb7)
    have M7 := hidden ((M6.out.below z6 bA7).below (by simp only [World.size_alloc]; omega) hb7)
    have U7 := hidden ((U6.out.below bA7).below hb7)
    have N7 := hidden ((N6.out.below bA7).below hb7)
    have HLG := hidden hLG
    have G7 := hidden hGB
    simp only [World.size_alloc] at G7
    clear ht7 hLG hGB hb7 bA7 S6 R6 M6 U6 N6 I6 g0 g1 g2 g3
    go_wp2_with fail
    refine (HEQ.out _ _ _ _ _ (orwA G7.out HLG.out) (orwA S7.out HLS.out)).mono ?_
    rintro e w8 ⟨rfl, hb8⟩
    have I8 := hidden (I7.out.step hb8)
    have z8 := hb8.size
    have Y8 := hidden (box_below Y7.out hb8 (by omega))
    have S8 := hidden (S7.out.below hb8 (by omega))
    have G8 := hidden (G7.out.below hb8 (Nat.le_refl _))
    have R8 := hidden (R7.out.below hb8)
    have M8 := hidden (M7.out.below (by omega) hb8)
    have U8 := hidden (U7.out.below hb8)
    have N8 := hidden (N7.out.below hb8)
    clear hb8 I7 Y7 S7 G7 R7 M7 U7 N7
    go_wp2_with fail
    refine (HT.out _ (HJ.out _ I8.out.b)).mono ?_
    rintro e w9 ⟨rfl, hj9, hb9⟩
    have I9 := hidden (I8.out.step hb9)
    have z9 := hb9.size
    have Y9 := hidden (box_below Y8.out hb9 (by omega))
    have S9 := hidden (S8.out.below hb9 (by omega))
    have G9 := hidden (G8.out.below hb9 (by omega))
    have R9 := hidden (R8.out.below hb9)
    have Q9 := hidden (hj9.orw l.length (Nat.le_refl _))
    have M9 := hidden (M8.out.below (by omega) hb9)
    have U9 := hidden (U8.out.below hb9)
    have N9 := hidden (N8.out.below hb9)
    clear hb9 hj9 I8 Y8 S8 G8 R8 M8 U8 N8
    go_wp2_with fail
    refine (eqops_any _ _ _ _ _ _ l _ R9.out Q9.out HL.out HM.out).mono ?_
    rintro e wA ⟨rfl, hbA⟩
    have IA := hidden (I9.out.step hbA)
    have zA := hbA.size
    have YA := hidden (box_below Y9.out hbA (by omega))
    have SA := hidden (S9.out.below hbA (by omega))
    have GA := hidden (G9.out.below hbA (by omega))
    have MA := hidden (M9.out.below (by omega) hbA)
    have UA := hidden (U9.out.below hbA)
    have NA := hidden (N9.out.below hbA)
    clear hbA I9 Y9 S9 G9 R9 Q9 M9 U9 N9
    obtain ⟨d0, d1, d2, d3⟩ := IA.out.x
    obtain ⟨j0, j1, j2, j3⟩ := YA.out
    have bN := IA.out.b
    have yA : w6.heap.size < wA.heap.size := by omega
    go_upto_region 16 with fail
    go_cut [77] from 73 to 77 (fun bv wx => bv = .bool false ∧ Below wA.heap.size wA wx)
    case first =>
      first | go_region_with (first
        | (go_at_call 13; refine (HU.out _ (HX.out _ (by repeat (first | exact Below.refl _ _ | assumption | refine st_drew ?_ | refine st_drewN ?_ _ | refine Below.setCell ?_ (by first | omega | (simp; done) | (simp; omega)) _ | refine Below.alloc ?_ (by first | omega | (simp; done) | (simp; omega)) _)))).mono ?_; rintro e wp ⟨Tp, hTp, rfl, hop, hbp⟩; obtain ⟨k0, k1, k2, k3⟩ := box_below (box_below YA.out (show Below wA.heap.size wA _ from by repeat (first | exact Below.refl _ _ | assumption | refine st_drew ?_ | refine st_drewN ?_ _ | refine Below.setCell ?_ (by first | omega | (simp; done) | (simp; omega)) _ | refine Below.alloc ?_ (by first | omega | (simp; done) | (simp; omega)) _)) yA) hbp (by first | exact yA | (simp; exact yA)); have cp := onto (show Below wA.heap.size wA _ from by repeat (first | exact Below.refl _ _ | assumption | refine st_drew ?_ | refine st_drewN ?_ _ | refine Below.setCell ?_ (by first | omega | (simp; done) | (simp; omega)) _ | refine Below.alloc ?_ (by first | omega | (simp; done) | (simp; omega)) _)) hbp; have Up := hidden ((UA.out.below (show Below wA.heap.size wA _ from by repeat (first | exact Below.refl _ _ | assumption | refine st_drew ?_ | refine st_drewN ?_ _ | refine Below.setCell ?_ (by first | omega | (simp; done) | (simp; omega)) _ | refine Below.alloc ?_ (by first | omega | (simp; done) | (simp; omega)) _))).below hbp); have Vp := hidden (out_irw hop _ (Nat.le_refl _)); clear hop hbp)
        | (go_at_call 16; refine (HQ.out _ _ _ (Up.out.below (by repeat (first | exact Below.refl _ _ | assumption | refine st_drew ?_ | refine st_drewN ?_ _ | refine Below.setCell ?_ (by first | omega | (simp; done) | (simp; omega)) _ | refine Below.alloc ?_ (by first | omega | (simp; done) | (simp; omega)) _))) (Vp.out.below (by repeat (first | exact Below.refl _ _ | assumption | refine st_drew ?_ | refine st_drewN ?_ _ | refine Below.setCell ?_ (by first | omega | (simp; done) | (simp; omega)) _ | refine Below.alloc ?_ (by first | omega | (simp; done) | (simp; omega)) _)))).mono ?_; rintro e wq ⟨rfl, hbq⟩; have cq := onto (show Below wA.heap.size wA _ from by repeat (first | exact Below.refl _ _ | assumption | refine st_drew ?_ | refine st_drewN ?_ _ | refine Below.setCell ?_ (by first | omega | (simp; done) | (simp; omega)) _ | refine Below.alloc ?_ (by first | omega | (simp; done) | (simp; omega)) _)) hbq; clear hbq)) | fail
      all_goals go_wp2_with fail
      all_goals go_meet
      all_goals exact ⟨rfl, cq⟩
    case rest =>
      obtain ⟨rfl, hbB⟩ := hcut
      rename World => wB
      have IB := hidden (IA.out.step hbB)
      have zB := hbB.size
      have YB := hidden (box_below YA.out hbB (by omega))
      have SB := hidden (SA.out.below hbB (by omega))
      have GB := hidden (GA.out.below hbB (by omega))
      have MB := hidden (MA.out.below (by omega) hbB)
      have NB' := hidden (NA.out.below hbB)
      clear hbB IA YA SA GA MA UA NA d0 d1 d2 d3 j0 j1 j2 j3 bN
      obtain ⟨j0, j1, j2, j3⟩ := YB.out
      go_wp2_with fail
      refine (markops_any _ _ _ _ l 1 _ MB.out HL.out HM.out (by omega) (by omega)).mono ?_
      rintro e wC ⟨k, rfl, hk0, kp⟩
      have IC := hidden (IB.out.kp kp (by omega))
      have zC := Nat.le_of_eq kp.size
      have zC' := Nat.le_of_eq kp.size.symm
      have YC := hidden (box_keep YB.out (kp.block _ (by omega)))
      have SC := hidden (SB.out.kp kp (by omega))
      have GC := hidden (GB.out.kp kp (by omega))
      have NC := hidden (NB'.out.kp kp)
      clear kp IB YB SB GB MB NB' j0 j1 j2 j3
      obtain ⟨j0, j1, j2, j3⟩ := YC.out
      go_wp2_with fail
      refine (HK.out T6 k _ NC.out hk0).mono ?_
      rintro e wE ⟨rfl, wD, hbD, kp⟩
      have zD := hbD.size
      have zE := Nat.le_of_eq kp.size
      have zE' := Nat.le_of_eq kp.size.symm
      have IE := hidden ((IC.out.step hbD).kp kp (by omega))
      have SE := hidden ((SC.out.below hbD (by omega)).kp kp (by omega))
      have GE := hidden ((GC.out.below hbD (by omega)).kp kp (by omega))
      clear hbD kp IC YC SC GC NC j0 j1 j2 j3
      have hk1 : ¬ k + (x.team.length : Int) < 0 := by omega
      go_wp2_with fail
      refine (HEQ.out _ _ _ _ _ (orwA GE.out HLG.out) (orwA SE.out HLS.out)).mono ?_
      rintro e wF ⟨rfl, hbF⟩
      have IF := hidden (IE.out.step hbF)
      have zF := hbF.size
      have SF := hidden (SE.out.below hbF (by omega))
      have GF := hidden (GE.out.below hbF (by omega))
      clear hbF IE SE GE hk1
      go_wp2_with fail
      refine (markB_any _ _ _ _ _ _ _ HLG.out GF.out HG.out.1 HG.out.2).mono ?_
      rintro e wG ⟨rfl, ⟨M, hM1, hM2⟩, kp⟩
      have zG := Nat.le_of_eq kp.size
      have zG' := Nat.le_of_eq kp.size.symm
      have IG := hidden (IF.out.kp kp (by omega))
      have SG := hidden (SF.out.kp kp (by omega))
      have GG := hidden (orwA hM1 hM2)
      have MG := hidden hM1
      have HM2 := hidden hM2
      clear kp IF SF GF hM1 hM2
      have htp := tot_bd (fun y hy => (HG.out.2 y hy).1) A.length
      rw [List.take_length] at htp
      generalize htot : tot A = tA at *
      have HTT := hidden htot
      clear htot
      go_wp2_with fail
      refine (heldops_any _ _ A 1 _ GG.out HG.out.1 (fun y hy => (HG.out.2 y hy).1) (by omega) (by omega)).mono ?_
      rintro e wH ⟨rfl, hwH⟩
      have hwH2 := hwH.symm
      clear hwH
      subst hwH2
      rw [HTT.out]
      have hk2 : ¬ 1 + tA < 0 := by omega
      obtain ⟨d0, d1, d2, d3⟩ := IG.out.x
      have bN := IG.out.b
      go_upto_region 31 with fail
      go_cut [19, 20, 21] from 113 to 122 (fun sv hv tv wx => Ans4 wG A H B sv hv tv wx)
      case first =>
        clear HEQ HK HQ HSP HG HLS HLG SG GG MG HM2 HTT hk2 htp z4 z1 z5 z6 z7' z8 z9 zA zB zC zC' zD zE zE' zF zG zG' hlS hT6 hT6l hk0 yA
        first | go_region_with (first
          | (go_at_call 12; refine (HT.out _ (HJ.out _ (by repeat (first | exact Below.refl _ _ | assumption | refine st_drew ?_ | refine st_drewN ?_ _ | refine Below.setCell ?_ (by first | omega | (simp; done) | (simp; omega)) _ | refine Below.alloc ?_ (by first | omega | (simp; done) | (simp; omega)) _)))).mono ?_; rintro e wp ⟨rfl, hjp, hbp⟩; have Ip := hidden ((IG.out.step (show Below wG.heap.size wG _ from by repeat (first | exact Below.refl _ _ | assumption | refine st_drew ?_ | refine st_drewN ?_ _ | refine Below.setCell ?_ (by first | omega | (simp; done) | (simp; omega)) _ | refine Below.alloc ?_ (by first | omega | (simp; done) | (simp; omega)) _))).step hbp); obtain ⟨e0, e1, e2, e3⟩ := Ip.out.x; have bp := Ip.out.b; have cp := onto (show Below wG.heap.size wG _ from by repeat (first | exact Below.refl _ _ | assumption | refine st_drew ?_ | refine st_drewN ?_ _ | refine Below.setCell ?_ (by first | omega | (simp; done) | (simp; omega)) _ | refine Below.alloc ?_ (by first | omega | (simp; done) | (simp; omega)) _)) hbp; have Rp := hidden (hjp.orw l.length (Nat.le_refl _)); clear hjp hbp)
          | (go_at_call 13; refine (HU.out _ (HX.out _ (by repeat (first | exact Below.refl _ _ | assumption | refine st_drew ?_ | refine st_drewN ?_ _ | refine Below.setCell ?_ (by first | omega | (simp; done) | (simp; omega)) _ | refine Below.alloc ?_ (by first | omega | (simp; done) | (simp; omega)) _)))).mono ?_; rintro e wq ⟨Tq, hTq, rfl, hoq, hbq⟩; have cq := onto (show Below wG.heap.size wG _ from by repeat (first | exact Below.refl _ _ | assumption | refine st_drew ?_ | refine st_drewN ?_ _ | refine Below.setCell ?_ (by first | omega | (simp; done) | (simp; omega)) _ | refine Below.alloc ?_ (by first | omega | (simp; done) | (simp; omega)) _)) hbq; have Rq := hidden ((Rp.out.below (show Below wp.heap.size wp _ from by repeat (first | exact Below.refl _ _ | assumption | refine st_drew ?_ | refine st_drewN ?_ _ | refine Below.setCell ?_ (by first | omega | (simp; done) | (simp; omega)) _ | refine Below.alloc ?_ (by first | omega | (simp; done) | (simp; omega)) _))).below hbq); have Uq := hidden (out_irw hoq _ (Nat.le_refl _)); clear hoq hbq)
          | (go_at_call 14; refine (HIM.out _ _ _ (Rq.out.below (by repeat (first | exact Below.refl _ _ | assumption | refine st_drew ?_ | refine st_drewN ?_ _ | refine Below.setCell ?_ (by first | omega | (simp; done) | (simp; omega)) _ | refine Below.alloc ?_ (by first | omega | (simp; done) | (simp; omega)) _))) (Uq.out.below (by repeat (first | exact Below.refl _ _ | assumption | refine st_drew ?_ | refine st_drewN ?_ _ | refine Below.setCell ?_ (by first | omega | (simp; done) | (simp; omega)) _ | refine Below.alloc ?_ (by first | omega | (simp; done) | (simp; omega)) _)))).mono ?_; intro e ws hts; obtain ⟨Ls, ads, cps, rfl, hqs, hls, hbs⟩ := ans_of hts HA.out; have zs := cq.size; have cs := onto (show Below wG.heap.size wG _ from by repeat (first | exact Below.refl _ _ | assumption | refine st_drew ?_ | refine st_drewN ?_ _ | refine Below.setCell ?_ (by first | omega | (simp; done) | (simp; omega)) _ | refine Below.alloc ?_ (by first | omega | (simp; done) | (simp; omega)) _)) hbs; clear hts hbs)) | fail
        all_goals go_wp2_with fail
        all_goals go_meet
        all_goals exact ⟨Ls, _, _, _, rfl, rfl, rfl, hqs, by first | exact zs | (simp only [World.size_drew]; exact zs), hls, cs⟩
      case rest =>
        obtain ⟨LH, loH, adH, cpH, rfl, rfl, rfl, hLH, hlH, hHB, hbI⟩ := hcut
        rename World => wI
        have II := hidden (IG.out.step hbI)
        have zI := hbI.size
        have SI := hidden (SG.out.below hbI (by omega))
        have GI := hidden (GG.out.below hbI)
        have HLH := hidden hLH
        have HI := hidden hHB
        clear hLH hHB hbI bN d0 d1 d2 d3 IG SG GG MG
        go_wp2_with fail
        refine (HEQ.out _ _ _ _ _ (orwA HI.out HLH.out) (orwA SI.out HLS.out)).mono ?_
        rintro e wJ ⟨rfl, hbJ⟩
        have IJ := hidden (II.out.step hbJ)
        have GJ := hidden (GI.out.below hbJ)
        clear hbJ II SI GI HI
        go_wp2_with fail
        refine (heldops_any _ _ A 1 _ GJ.out HG.out.1 (fun y hy => (HG.out.2 y hy).1) (by omega) (by omega)).mono ?_
        rintro e wK ⟨rfl, hwK⟩
        have hwK2 := hwK.symm
        clear hwK
        subst hwK2
        rw [HTT.out]
        go_wp2_with fail
        go_ret
        exact ⟨rfl, IJ.out.b⟩

set_option maxRecDepth 100000 in
theorem lifted (os : Os) (started : os.Started) (H : Type) (enc : TypeId × Value → H) :
    ReturnsInHanded {} Try.checked os 3 .any (Rows.fnExactInsertSpec.pre6 enc Try.prog Try.f3 Rows.fnExactInsertRow.domain false) (Rows.fnExactInsertSpec.post enc Try.prog Try.f3 false true false false) := by
  refine returnsInHanded_of_change (C := Try.checked) own started (by kernel_rfl) Try.func3
    (ChangeSpec.witness6 (enc := enc) (C := Try.checked) false ⟨#[], #[.slice none 0 0, .agg #[.int .i64 0, .int .i64 0, .int .i64 0, .slice none 0 0], .int .i64 0], []⟩ 8 (by kernel_rfl) (by kernel_rfl) (by kernel_rfl) (by kernel_rfl)) ?_
  intro W base args ds gs before hval0 hW hcnd _
  have hval : ∀ (j : Nat) t v, Try.f3.params[j]? = some t → args[j]? = some v → Value.okWide Try.prog W .any base t v := hval0
  have hW' := hW
  obtain ⟨p, q, hA0, hV, rfl, hfz, hnd⟩ := hW
  have hA : DataW.TrodAll enc Try.prog W 0 (fun _ => true) true Try.f3.params.toList args.toList ds p := hA0
  rw [Try.params3] at hA hval
  obtain ⟨v0, vs0, d0, ds0, p0, q0, hargs, rfl, rfl, h0, r0⟩ := trodAll_cons hA
  obtain ⟨v1, vs1, d1, ds1, p1, q1, rfl, rfl, rfl, h1, r1⟩ := trodAll_cons r0
  obtain ⟨v2, vs2, d2, ds2, p2, q2, rfl, rfl, rfl, h2, r2⟩ := trodAll_cons r1
  obtain ⟨rfl, rfl, rfl⟩ := trodAll_nil r2
  obtain rfl : args = #[v0, v1, v2] := by cases args; simp_all
  obtain ⟨rfl, rfl⟩ := trodVars_none hV
  have k0 := h0
  have lt0 : ∀ x ∈ p0, x.block < W.heap.size := by obtain ⟨m, hm⟩ := k0; exact DataW.trod_lt m _ _ _ hm
  obtain ⟨ao, len, cap, rfl⟩ := okWide_slice Try.underlying22 (hval 0 22 v0 rfl rfl)
  obtain ⟨l, hl, hm, hrow, htm⟩ := ops_of_read h0
  have k1 := h1
  have lt1 : ∀ x ∈ p1, x.block < W.heap.size := by obtain ⟨m, hm⟩ := k1; exact DataW.trod_lt m _ _ _ hm
  obtain ⟨x, ta, tc, rfl, hxm, hxr⟩ := op_of_read (hval 1 25 v1 rfl rfl) h1
  obtain ⟨x2, rfl, rfl, rfl, k2⟩ := open_int Try.underlying2 (hval 2 2 v2 rfl rfl) h2
  clear hA0 hval0
  refine (walk ao len cap l x ta tc x2 W hrow hl hm htm hxm hxr).mono fun e W' ⟨he, bel⟩ => ?_
  subst he
  exact ⟨_, rfl, _, _, _, [], _, [], hW', trodAll_mk1 (shut_bool Try.underlying4 _), (trodAll_cons_mk (Below.trod laidOut (by kernel_rfl) (of_decide_eq_true (by kernel_rfl)) k0 bel lt0) (trodAll_cons_mk (Below.trod laidOut (by kernel_rfl) (of_decide_eq_true (by kernel_rfl)) k1 bel lt1) (trodAll_cons_mk (shut_int Try.underlying2 k2) trodAll_mk0))), rfl, bel.frame _, fun h => by cases h⟩

theorem over : Rows.fnExactInsertRow.holds Try.pinned (OpenSpec.ofChange Rows.fnExactInsertSpec) :=
  OpenClaim.holds_of_wide 3 Try.f3 rfl rfl rfl rfl rfl rfl rfl ⟨rfl, rfl, rfl, rfl, rfl⟩ rfl rfl rfl rfl rfl (by kernel_rfl) Try.func3 (by kernel_rfl)
    (of_decide_eq_true (by kernel_rfl)) (by unfold Func.isWrapper; first | (rw [if_pos (by decide +kernel)]; kernel_rfl) | (rw [if_neg (by decide +kernel)]; exact ⟨rfl, rfl⟩))
    (fun os started H enc _ => lifted os started H enc)
end fnExactInsert
theorem fnExactInsert_holds : Rows.FnExactInsertSaid := fnExactInsert.over
end Go.Proofs.Ytgedaobgomnflaa
