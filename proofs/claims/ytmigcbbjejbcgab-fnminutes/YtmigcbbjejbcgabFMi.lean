/-
  Minutes in bed come together: the walk of the law.
-/
import Derived.Test.YtmigcbbjejbcgabMa
import Derived.Test.YtmigcbbjejbcgabMb
import Derived.Test.YtmigcbbjejbcgabHq
import Derived.Test.YtmigcbbjejbcgabHu
import Derived.Deep.RegionHeld3
import Derived.Deep.DeepCutAuto
namespace Go.Proofs.Ytmigcbbjejbcgab
open Go.RowKit Hm
set_option linter.unusedVariables false

def csMv (m : Mv) (k : Nat) : Int := match k with | 0 => m.kind | 1 => m.person | 2 => m.sex | 3 => m.need | 4 => m.bed | _ => m.time
theorem move_cells {w : World} {ao : Option Addr} {n cap : Nat} {l : List Mv} {k : Nat} {s : Mv} (h : Rw 6 csMv w (.slice ao n cap) l) (hk : l[k]? = some s) :
    ∃ g off, ao = some ⟨g, off, none⟩ ∧ g < w.heap.size ∧ w.cell? ⟨g, off + k * 6, none⟩ = some (.int .i64 s.kind) ∧ w.cell? ⟨g, off + k * 6 + 1, none⟩ = some (.int .i64 s.person) ∧
      w.cell? ⟨g, off + k * 6 + 2, none⟩ = some (.int .i64 s.sex) ∧ w.cell? ⟨g, off + k * 6 + 3, none⟩ = some (.int .i64 s.need) ∧
      w.cell? ⟨g, off + k * 6 + 4, none⟩ = some (.int .i64 s.bed) ∧ w.cell? ⟨g, off + k * 6 + 5, none⟩ = some (.int .i64 s.time) := by
  obtain ⟨g, off, h1, h2, h3⟩ := h.at hk
  exact ⟨g, off, h1, h2, h3 0 (by omega), h3 1 (by omega), h3 2 (by omega), h3 3 (by omega), h3 4 (by omega), h3 5 (by omega)⟩
/-- The house of the law in its variable at block X, and the moves. -/
structure HM (w0 W : World) (X M : Nat) (t a b : Int) (i : Nat) (v0 v1 : Value) : Prop where
  c0 : W.cell? ⟨X, 0, none⟩ = some v0
  c1 : W.cell? ⟨X, 1, none⟩ = some v1
  f0 : W.frozen? ⟨X, 0, none⟩ = false
  f1 : W.frozen? ⟨X, 1, none⟩ = false
  row : HRw W v0 v1 hB (stA t a b i)
  mv : Rw 6 csMv W (.slice (some ⟨M, 0, none⟩) 4 4) (mvs t a b)
  bel : Below w0.heap.size w0 W
  ne : M ≠ X
  lo : w0.heap.size ≤ X
theorem HM.xlt {w0 W : World} {X M : Nat} {t a b : Int} {i : Nat} {v0 v1 : Value} (h : HM w0 W X M t a b i v0 v1) : X < W.heap.size := World.block_lt_of_cell? W _ h.c0
theorem rw_set {α : Type} {s : Nat} {cs : α → Nat → Int} {w : World} {M off n cap : Nat} {l : List α} (h : Rw s cs w (.slice (some ⟨M, off, none⟩) n cap) l) {X : Nat} (hne : M ≠ X) (k : Nat) (u : Value) : Rw s cs (w.setCell ⟨X, k, none⟩ u) (.slice (some ⟨M, off, none⟩) n cap) l := by
  obtain ⟨ao, cap', e, hl, hh⟩ := h
  refine ⟨ao, cap', e, hl, ?_⟩
  rcases hh with q | ⟨b, o, q1, q2, q3⟩
  · exact Or.inl q
  · have eb : b = M := by
      injection e with e1 e2 e3
      rw [q1] at e1
      injection e1 with e4
      injection e4 with e5
      exact e5.symm
    refine Or.inr ⟨b, o, q1, by simpa [World.setCell] using q2, fun i x hx k' hk' => ?_⟩
    rw [World.cell?_setCell_other (h := by first | (simp; done) | (simp; omega))]
    exact q3 i x hx k' hk'
/-- The house is taken over: the next state. -/
theorem HM.next {w0 W W' : World} {X M : Nat} {t a b : Int} {i : Nat} {v0 v1 u0 u1 : Value} (h : HM w0 W X M t a b i v0 v1) (hb : Below W.heap.size W W') (hn : HNew W' W.heap.size u0 u1 hB (stA t a b (i + 1))) : HM w0 ((W'.setCell ⟨X, 0, none⟩ u0).setCell ⟨X, 1, none⟩ u1) X M t a b (i + 1) u0 u1 := by
  have hx := h.xlt
  have c0 := (hb.cell (p := ⟨X, 0, none⟩) hx).trans h.c0
  have c1 := (hb.cell (p := ⟨X, 1, none⟩) hx).trans h.c1
  have f0 := (hb.frozen (p := ⟨X, 0, none⟩) hx).trans h.f0
  have f1 := (hb.frozen (p := ⟨X, 1, none⟩) hx).trans h.f1
  have o1 := own_setCell (own_setCell hn.1 (p := ⟨X, 0, none⟩) hx u0) (p := ⟨X, 1, none⟩) hx u1
  have o2 := own_setCell (own_setCell hn.2 (p := ⟨X, 0, none⟩) hx u0) (p := ⟨X, 1, none⟩) hx u1
  have c1' : (W'.setCell ⟨X, 0, none⟩ u0).cell? ⟨X, 1, none⟩ = some v1 := by rw [World.cell?_setCell_other (h := by simp)]; exact c1
  refine ⟨?_, World.cell?_setCell_same _ _ _ c1', ?_, ?_, ⟨(own_of rfl o1).row, (own_of rfl o2).row⟩, rw_set (rw_set (h.mv.below hb) h.ne 0 u0) h.ne 1 u1, ((h.bel.trans (hb.mono (h.bel.size))).setCell (p := ⟨X, 0, none⟩) h.lo _).setCell (p := ⟨X, 1, none⟩) h.lo _, h.ne, h.lo⟩
  · rw [World.cell?_setCell_other (h := by simp)]
    exact World.cell?_setCell_same _ _ _ c0
  · rw [World.frozen?_setCell, World.frozen?_setCell]; exact f0
  · rw [World.frozen?_setCell, World.frozen?_setCell]; exact f1
theorem HM.below {w0 W W' : World} {X M : Nat} {t a b : Int} {i : Nat} {v0 v1 : Value} (h : HM w0 W X M t a b i v0 v1) (hb : Below W.heap.size W W') : HM w0 W' X M t a b i v0 v1 :=
  ⟨(hb.cell (p := ⟨X, 0, none⟩) h.xlt).trans h.c0, (hb.cell (p := ⟨X, 1, none⟩) h.xlt).trans h.c1, (hb.frozen (p := ⟨X, 0, none⟩) h.xlt).trans h.f0, (hb.frozen (p := ⟨X, 1, none⟩) h.xlt).trans h.f1, h.row.below hb, h.mv.below hb, onto h.bel hb, h.ne, h.lo⟩

theorem fin_a {wr wH : World} {bb : Nat} {vb vs : Value} {B : List Bd} {S : List St} (hN : HNew wH bb vb vs B S) (hb : wr.heap.size ≤ bb) (bel : Below wr.heap.size wr wH) :
    (wH.alloc (.cells #[vb, vs] 27)).cell? ⟨wH.heap.size, 0, none⟩ = some vb ∧ (wH.alloc (.cells #[vb, vs] 27)).cell? ⟨wH.heap.size, 1, none⟩ = some vs ∧ wr.heap.size ≤ wH.heap.size ∧ HNew (wH.alloc (.cells #[vb, vs] 27)) wr.heap.size vb vs B S ∧ Below wr.heap.size wr (wH.alloc (.cells #[vb, vs] 27)) :=
  ⟨by simp, by simp, bel.size, ⟨own_base (own_alloc hN.1 _) hb, own_base (own_alloc hN.2 _) hb⟩, bel.alloc bel.size _⟩
theorem fin_b {wr wH : World} {bb o : Nat} {vb vs u0 u1 : Value} {B : List Bd} {S : List St} (hN : HNew wH bb vb vs B S) (ho : o < bb) (lo : wr.heap.size ≤ o) (bel : Below wr.heap.size wr wH) (e0 : wH.cell? ⟨o, 0, none⟩ = some u0) (e1 : wH.cell? ⟨o, 1, none⟩ = some u1) :
    ((wH.setCell ⟨o, 0, none⟩ vb).setCell ⟨o, 1, none⟩ vs).cell? ⟨o, 0, none⟩ = some vb ∧ ((wH.setCell ⟨o, 0, none⟩ vb).setCell ⟨o, 1, none⟩ vs).cell? ⟨o, 1, none⟩ = some vs ∧ wr.heap.size ≤ o ∧ HNew ((wH.setCell ⟨o, 0, none⟩ vb).setCell ⟨o, 1, none⟩ vs) wr.heap.size vb vs B S ∧ Below wr.heap.size wr ((wH.setCell ⟨o, 0, none⟩ vb).setCell ⟨o, 1, none⟩ vs) := by
  refine ⟨?_, ?_, lo, ⟨own_base (own_setCell (own_setCell hN.1 (p := ⟨o, 0, none⟩) ho _) (p := ⟨o, 1, none⟩) ho _) (by omega), own_base (own_setCell (own_setCell hN.2 (p := ⟨o, 0, none⟩) ho _) (p := ⟨o, 1, none⟩) ho _) (by omega)⟩, (bel.setCell (p := ⟨o, 0, none⟩) lo _).setCell (p := ⟨o, 1, none⟩) lo _⟩
  · rw [World.cell?_setCell_other (h := by simp)]
    exact World.cell?_setCell_same _ _ _ e0
  · have e1' : (wH.setCell ⟨o, 0, none⟩ vb).cell? ⟨o, 1, none⟩ = some u1 := by rw [World.cell?_setCell_other (h := by simp)]; exact e1
    exact World.cell?_setCell_same _ _ _ e1'

theorem hm_start (w w3 : World) (b3 : Below w.heap.size w w3) (t a b : Int) : HM w (((w3.alloc (.cells #[.int .i64 1, .int .i64 1, .int .i64 2, .int .i64 2] 46)).alloc (.cells #[.slice (some ⟨w3.heap.size, 0, none⟩) 2 2, .slice none 0 0] 27)).alloc (.cells #[.int .i64 1, .int .i64 3, .int .i64 1, .int .i64 1, .int .i64 0, .int .i64 t, .int .i64 2, .int .i64 3, .int .i64 0, .int .i64 0, .int .i64 1, .int .i64 (t + a), .int .i64 3, .int .i64 3, .int .i64 0, .int .i64 0, .int .i64 0, .int .i64 (t + a + b), .int .i64 1, .int .i64 3, .int .i64 1, .int .i64 2, .int .i64 1, .int .i64 (t + a + b + 50)] 29)) (w3.heap.size + 1) (w3.heap.size + 1 + 1) t a b 0 (.slice (some ⟨w3.heap.size, 0, none⟩) 2 2) (.slice none 0 0) := by
  have z3 := b3.size
  have hbW : Below w.heap.size w (((w3.alloc (.cells #[.int .i64 1, .int .i64 1, .int .i64 2, .int .i64 2] 46)).alloc (.cells #[.slice (some ⟨w3.heap.size, 0, none⟩) 2 2, .slice none 0 0] 27)).alloc (.cells #[.int .i64 1, .int .i64 3, .int .i64 1, .int .i64 1, .int .i64 0, .int .i64 t, .int .i64 2, .int .i64 3, .int .i64 0, .int .i64 0, .int .i64 1, .int .i64 (t + a), .int .i64 3, .int .i64 3, .int .i64 0, .int .i64 0, .int .i64 0, .int .i64 (t + a + b), .int .i64 1, .int .i64 3, .int .i64 1, .int .i64 2, .int .i64 1, .int .i64 (t + a + b + 50)] 29)) := ((b3.alloc z3 _).alloc (by simp; omega) _).alloc (by simp; omega) _
  have e0 : (((w3.alloc (.cells #[.int .i64 1, .int .i64 1, .int .i64 2, .int .i64 2] 46)).alloc (.cells #[.slice (some ⟨w3.heap.size, 0, none⟩) 2 2, .slice none 0 0] 27)).alloc (.cells #[.int .i64 1, .int .i64 3, .int .i64 1, .int .i64 1, .int .i64 0, .int .i64 t, .int .i64 2, .int .i64 3, .int .i64 0, .int .i64 0, .int .i64 1, .int .i64 (t + a), .int .i64 3, .int .i64 3, .int .i64 0, .int .i64 0, .int .i64 0, .int .i64 (t + a + b), .int .i64 1, .int .i64 3, .int .i64 1, .int .i64 2, .int .i64 1, .int .i64 (t + a + b + 50)] 29)).heap[w3.heap.size]? = some (.cells #[.int .i64 1, .int .i64 1, .int .i64 2, .int .i64 2] 46) := blk_alloc (blk_alloc (heap_alloc_new _ _) _) _
  have e1 : (((w3.alloc (.cells #[.int .i64 1, .int .i64 1, .int .i64 2, .int .i64 2] 46)).alloc (.cells #[.slice (some ⟨w3.heap.size, 0, none⟩) 2 2, .slice none 0 0] 27)).alloc (.cells #[.int .i64 1, .int .i64 3, .int .i64 1, .int .i64 1, .int .i64 0, .int .i64 t, .int .i64 2, .int .i64 3, .int .i64 0, .int .i64 0, .int .i64 1, .int .i64 (t + a), .int .i64 3, .int .i64 3, .int .i64 0, .int .i64 0, .int .i64 0, .int .i64 (t + a + b), .int .i64 1, .int .i64 3, .int .i64 1, .int .i64 2, .int .i64 1, .int .i64 (t + a + b + 50)] 29)).heap[w3.heap.size + 1]? = some (.cells #[.slice (some ⟨w3.heap.size, 0, none⟩) 2 2, .slice none 0 0] 27) := blk_alloc (by have := heap_alloc_new (w3.alloc (.cells #[.int .i64 1, .int .i64 1, .int .i64 2, .int .i64 2] 46)) (.cells #[.slice (some ⟨w3.heap.size, 0, none⟩) 2 2, .slice none 0 0] 27); simpa using this) _
  have e2 : (((w3.alloc (.cells #[.int .i64 1, .int .i64 1, .int .i64 2, .int .i64 2] 46)).alloc (.cells #[.slice (some ⟨w3.heap.size, 0, none⟩) 2 2, .slice none 0 0] 27)).alloc (.cells #[.int .i64 1, .int .i64 3, .int .i64 1, .int .i64 1, .int .i64 0, .int .i64 t, .int .i64 2, .int .i64 3, .int .i64 0, .int .i64 0, .int .i64 1, .int .i64 (t + a), .int .i64 3, .int .i64 3, .int .i64 0, .int .i64 0, .int .i64 0, .int .i64 (t + a + b), .int .i64 1, .int .i64 3, .int .i64 1, .int .i64 2, .int .i64 1, .int .i64 (t + a + b + 50)] 29)).heap[w3.heap.size + 1 + 1]? = some (.cells #[.int .i64 1, .int .i64 3, .int .i64 1, .int .i64 1, .int .i64 0, .int .i64 t, .int .i64 2, .int .i64 3, .int .i64 0, .int .i64 0, .int .i64 1, .int .i64 (t + a), .int .i64 3, .int .i64 3, .int .i64 0, .int .i64 0, .int .i64 0, .int .i64 (t + a + b), .int .i64 1, .int .i64 3, .int .i64 1, .int .i64 2, .int .i64 1, .int .i64 (t + a + b + 50)] 29) := by
    have := heap_alloc_new ((w3.alloc (.cells #[.int .i64 1, .int .i64 1, .int .i64 2, .int .i64 2] 46)).alloc (.cells #[.slice (some ⟨w3.heap.size, 0, none⟩) 2 2, .slice none 0 0] 27)) (.cells #[.int .i64 1, .int .i64 3, .int .i64 1, .int .i64 1, .int .i64 0, .int .i64 t, .int .i64 2, .int .i64 3, .int .i64 0, .int .i64 0, .int .i64 1, .int .i64 (t + a), .int .i64 3, .int .i64 3, .int .i64 0, .int .i64 0, .int .i64 0, .int .i64 (t + a + b), .int .i64 1, .int .i64 3, .int .i64 1, .int .i64 2, .int .i64 1, .int .i64 (t + a + b + 50)] 29)
    simpa using this
  generalize (((w3.alloc (.cells #[.int .i64 1, .int .i64 1, .int .i64 2, .int .i64 2] 46)).alloc (.cells #[.slice (some ⟨w3.heap.size, 0, none⟩) 2 2, .slice none 0 0] 27)).alloc (.cells #[.int .i64 1, .int .i64 3, .int .i64 1, .int .i64 1, .int .i64 0, .int .i64 t, .int .i64 2, .int .i64 3, .int .i64 0, .int .i64 0, .int .i64 1, .int .i64 (t + a), .int .i64 3, .int .i64 3, .int .i64 0, .int .i64 0, .int .i64 0, .int .i64 (t + a + b), .int .i64 1, .int .i64 3, .int .i64 1, .int .i64 2, .int .i64 1, .int .i64 (t + a + b + 50)] 29)) = W at *
  refine ⟨(blk_cells e1 0).1, (blk_cells e1 1).1, (blk_cells e1 0).2, (blk_cells e1 1).2, ⟨⟨_, _, rfl, Nat.le_refl _, Or.inr ⟨w3.heap.size, 0, rfl, (Array.getElem?_eq_some_iff.1 e0).1, ?_⟩⟩, Rw.nil (cs := csS) _ none 0⟩, ⟨_, _, rfl, Nat.le_refl _, Or.inr ⟨w3.heap.size + 1 + 1, 0, rfl, (Array.getElem?_eq_some_iff.1 e2).1, ?_⟩⟩, hbW, by omega, by omega⟩
  · intro i x hx k hk
    have hi : i < 2 := (List.getElem?_eq_some_iff.1 hx).1
    rw [(blk_cells e0 _).1]
    rcases (show i = 0 ∨ i = 1 by omega) with rfl | rfl <;> rcases (show k = 0 ∨ k = 1 by omega) with rfl | rfl <;> (cases hx; rfl)
  · intro i x hx k hk
    have hi : i < 4 := (List.getElem?_eq_some_iff.1 hx).1
    rw [(blk_cells e2 _).1]
    rcases (show i = 0 ∨ i = 1 ∨ i = 2 ∨ i = 3 by omega) with rfl | rfl | rfl | rfl <;> rcases (show k = 0 ∨ k = 1 ∨ k = 2 ∨ k = 3 ∨ k = 4 ∨ k = 5 by omega) with rfl | rfl | rfl | rfl | rfl | rfl <;> (cases hx; rfl)

set_option maxRecDepth 20000 in
set_option maxHeartbeats 8000000 in
theorem fmi_walk (ao : Option Addr) (cap : Nat) (bs : List Int) (w : World) (hb : Bytes w w.heap.size ao bs) :
    Calls Try.prog 5 #[.slice ao bs.length cap] w fun e w' => e = .returned (.bool true) ∧ Below w.heap.size w w' := by
  have hBG := big_any ao cap bs.length
  have HBY := hidden hb
  clear hb
  by_cases hbig : (4096 : Int) < (bs.length : Int)
  · rw [decide_eq_true hbig] at hBG
    go_enter Try.func5, Try.ntmps5
    go_wp2_with fail
    refine (hBG _).mono ?_
    rintro e w1 ⟨rfl, rfl⟩
    go_wp2_with fail
    go_ret
    exact ⟨rfl, Below.refl _ _⟩
  rw [decide_eq_false hbig] at hBG
  have hl : bs.length ≤ 4096 := by omega
  have HL := hidden hl
  go_enter Try.func5, Try.ntmps5
  go_wp2_with fail
  refine (hBG w).mono ?_
  rintro e w1 ⟨rfl, hw1⟩
  have hw2 := hw1.symm
  clear hw1
  subst hw2
  clear hBG
  go_wp2_with fail
  refine (pick_any ao cap bs 1000 _ HBY.out (by omega) (by omega) (by omega)).mono ?_
  rintro e w1 ⟨⟨m1, rfl, hm1⟩, hw1⟩
  have hw2 := hw1.symm
  clear hw1
  subst hw2
  go_wp2_with (at_builtin; refine app_bytes (by rfl) (.tmp 16) (.tmp 17) (by rfl) w.heap.size 1 (by omega) (by omega) (by rfl) (heap_alloc_new _ _) ao cap bs (by rfl) (bytes_at (HBY.out.below ((Below.refl _ w).alloc (Nat.le_refl _) _)) (by simp)) HL.out ?_; intro a2 c2 w2 hy2 hb2)
  have b2 : Below w.heap.size w w2 := ((Below.refl _ w).alloc (Nat.le_refl _) _).trans hb2
  clear hb2
  have e2 : bs.length + 1 = (1 :: bs).length := rfl
  rw [e2]
  go_wp2_with fail
  refine (pick_any a2 c2 (1 :: bs) 200 _ hy2 (by simp; omega) (by omega) (by omega)).mono ?_
  rintro e w3 ⟨⟨m2, rfl, hm2⟩, hw3⟩
  have hw4 := hw3.symm
  clear hw3 hy2
  subst hw4
  clear e2
  have HB2 := hidden (HBY.out.below b2)
  have z2 := b2.size
  go_wp2_with (at_builtin; refine app_bytes (by rfl) (.tmp 21) (.tmp 22) (by rfl) w2.heap.size 2 (by omega) (by omega) (by rfl) (heap_alloc_new _ _) ao cap bs (by rfl) (bytes_at (HB2.out.below ((Below.refl _ w2).alloc z2 _)) (by simp; omega)) HL.out ?_; intro a3 c3 w3 hy3 hb3)
  have b3 : Below w.heap.size w w3 := (b2.alloc b2.size _).trans (hb3.mono z2)
  clear hb3
  have e2 : bs.length + 1 = (2 :: bs).length := rfl
  rw [e2]
  go_wp2_with fail
  refine (pick_any a3 c3 (2 :: bs) 200 _ hy3 (by simp; omega) (by omega) (by omega)).mono ?_
  rintro e w4 ⟨⟨m3, rfl, hm3⟩, hw4⟩
  have hw5 := hw4.symm
  clear hw4 hy3 HB2
  subst hw5
  clear e2
  go_upto_region 6 with fail
  generalize hT1 : (100 : Int) + (m1 : Int) = t
  generalize hT2 : (1 : Int) + (m2 : Int) = a
  generalize hT3 : (1 : Int) + (m3 : Int) = b
  have hT : Tab t a b := ⟨by omega, by omega, by omega, by omega, by omega, by omega⟩
  obtain ⟨y0, y1, y2, y3, y4, y5⟩ := hT
  have HTT : Hid (Tab t a b) := ⟨y0, y1, y2, y3, y4, y5⟩
  clear hT1 hT2 hT3 hm1 hm2 hm3
  have H0 := hidden (hm_start w w3 b3 t a b)
  clear b2 z2
  have zX : w.heap.size ≤ w3.heap.size := b3.size
  clear b3
  go_wp2_with fail
  go_loopw [8, 9, 10] (fun iv _ _ wr => ∃ i : Nat, i ≤ 4 ∧ iv = .int .i64 i ∧ ∃ p1 n1 q1 p2 n2 q2, HM w wr (w3.heap.size + 1) (w3.heap.size + 1 + 1) t a b i (.slice p1 n1 q1) (.slice p2 n2 q2)) (fun iv _ _ _ => 4 - (intOf iv).toNat)
  case atStart => exact ⟨0, by omega, rfl, _, _, _, _, _, _, H0.out⟩
  case round =>
    clear H0
    obtain ⟨i, hi, rfl, p1, n1, q1, p2, n2, q2, hm⟩ := hrel
    have c0 := hm.c0
    have c1 := hm.c1
    have f0 := hm.f0
    have f1 := hm.f1
    have hx := hm.xlt
    by_cases hlt : i < 4
    · have hlti : (i : Int) < 4 := by omega
      obtain ⟨m, hmv⟩ : ∃ m, (mvs t a b)[i]? = some m := ⟨_, List.getElem?_eq_getElem (by simp [mvs]; omega)⟩
      obtain ⟨g', off', hgo, hg', d0, d1, d2, d3, d4, d5⟩ := move_cells hm.mv hmv
      obtain ⟨rfl, rfl⟩ : w3.heap.size + 1 + 1 = g' ∧ 0 = off' := by simpa using hgo
      simp only [Nat.zero_add] at d0 d1 d2 d3 d4 d5
      obtain ⟨k1, k2, k3⟩ := do_at HTT.out i hlt m hmv
      have HD := hidden (fun W (hW : Below wr.heap.size wr W) => ido_any p1 p2 n1 q1 n2 q2 hB (stA t a b i) m W (hm.row.below hW))
      rw [k1, k2, k3] at HD
      have HMM := hidden hm
      clear k1 k2 k3 hmv hgo hm
      unfold aM at HD
      obtain ⟨fA, -⟩ := far (show w3.heap.size + 1 ≠ wr.heap.size by omega)
      obtain ⟨fB, -⟩ := far (show w3.heap.size + 1 + 1 ≠ wr.heap.size by omega)
      go_upto_region 11 with fail
      go_cut [9, 10] (fun p c wx => ∃ o u1 l1 e1 u2 l2 e2, p = .pointer (some ⟨o, 0, none⟩) ∧ c = .int .i64 0 ∧ (wx.cell? ⟨o, 0, none⟩ = some (.slice u1 l1 e1) ∧ wx.cell? ⟨o, 1, none⟩ = some (.slice u2 l2 e2) ∧ wr.heap.size ≤ o ∧ HNew wx wr.heap.size (.slice u1 l1 e1) (.slice u2 l2 e2) hB (stA t a b (i + 1)) ∧ Below wr.heap.size wr wx))
      case first =>
        go_region_held3 (fun w' => w'.cell? ⟨w3.heap.size + 1, 0, none⟩ = some (.slice p1 n1 q1) ∧ w'.cell? ⟨w3.heap.size + 1, 1, none⟩ = some (.slice p2 n2 q2) ∧ w'.cell? ⟨w3.heap.size + 1 + 1, i * 6, none⟩ = some (.int .i64 m.kind) ∧ w'.cell? ⟨w3.heap.size + 1 + 1, i * 6 + 1, none⟩ = some (.int .i64 m.person) ∧ w'.cell? ⟨w3.heap.size + 1 + 1, i * 6 + 2, none⟩ = some (.int .i64 m.sex) ∧ w'.cell? ⟨w3.heap.size + 1 + 1, i * 6 + 3, none⟩ = some (.int .i64 m.need) ∧ w'.cell? ⟨w3.heap.size + 1 + 1, i * 6 + 4, none⟩ = some (.int .i64 m.bed) ∧ w'.cell? ⟨w3.heap.size + 1 + 1, i * 6 + 5, none⟩ = some (.int .i64 m.time)) (go_keep) ((go_at_call 10; refine (HD.out _ (by repeat (first | exact Below.refl _ _ | refine st_drew ?_ | refine st_drewN ?_ _ | refine Below.setCell ?_ (by first | omega | (simp; done) | (simp; omega)) _ | refine Below.alloc ?_ (by first | omega | (simp; done) | (simp; omega)) _))).mono ?_; rintro e wH ⟨u1, l1, e1, u2, l2, e2, rfl, hN, hbH⟩; have zH := hbH.size; (try simp only [World.size_alloc, World.size_drew] at zH); obtain ⟨hcH, hfH⟩ := bcell hbH; have bsH := onto (show Below wr.heap.size wr _ from by repeat (first | exact Below.refl _ _ | refine st_drew ?_ | refine st_drewN ?_ _ | refine Below.setCell ?_ (by first | omega | (simp; done) | (simp; omega)) _ | refine Below.alloc ?_ (by first | omega | (simp; done) | (simp; omega)) _)) hbH; have h0x := (bsH.cell (p := ⟨w3.heap.size + 1, 0, none⟩) hx).trans c0; have h1x := (bsH.cell (p := ⟨w3.heap.size + 1, 1, none⟩) hx).trans c1; have m0x := (bsH.cell (p := ⟨w3.heap.size + 1 + 1, i * 6, none⟩) hg').trans d0; have m1x := (bsH.cell (p := ⟨w3.heap.size + 1 + 1, i * 6 + 1, none⟩) hg').trans d1; have m2x := (bsH.cell (p := ⟨w3.heap.size + 1 + 1, i * 6 + 2, none⟩) hg').trans d2; have m3x := (bsH.cell (p := ⟨w3.heap.size + 1 + 1, i * 6 + 3, none⟩) hg').trans d3; have m4x := (bsH.cell (p := ⟨w3.heap.size + 1 + 1, i * 6 + 4, none⟩) hg').trans d4; have m5x := (bsH.cell (p := ⟨w3.heap.size + 1 + 1, i * 6 + 5, none⟩) hg').trans d5))
        all_goals go_wp2_with fail
        all_goals go_meet
        all_goals first
          | exact ⟨_, u1, l1, e1, u2, l2, e2, rfl, rfl, fin_a hN (by first | omega | (simp; done) | (simp; omega)) bsH⟩
          | exact ⟨wr.heap.size, u1, l1, e1, u2, l2, e2, rfl, rfl, fin_b (u0 := .slice none 0 0) (u1 := .slice none 0 0) hN (by first | omega | (simp; done) | (simp; omega)) (Nat.le_refl _) bsH (by rw [hcH _ _ (by simp)]; simp [go_sem]) (by rw [hcH _ _ (by simp)]; simp [go_sem])⟩
      case rest =>
        obtain ⟨o, u1, l1, e1, u2, l2, e2, rfl, rfl, g0, g1, hlo, hN, hbx⟩ := hcut
        have hm2 := hidden (HMM.out.next hbx hN)
        have r0 := (hbx.cell (p := ⟨w3.heap.size + 1, 0, none⟩) hx).trans c0
        have r1 := (hbx.cell (p := ⟨w3.heap.size + 1, 1, none⟩) hx).trans c1
        have s0 := (hbx.frozen (p := ⟨w3.heap.size + 1, 0, none⟩) hx).trans f0
        have s1 := (hbx.frozen (p := ⟨w3.heap.size + 1, 1, none⟩) hx).trans f1
        have hne : o ≠ w3.heap.size + 1 := by omega
        go_wp2_with fail
        go_roundw
        case rel => exact ⟨i + 1, by omega, rfl, _, _, _, _, _, _, hm2.out⟩
        case measure => simp [intOf]; omega
    · have hi4 : i = 4 := by omega
      subst hi4
      have hlti : ¬ ((4 : Nat) : Int) < 4 := by omega
      obtain ⟨k1, k2, k3, k4, k5, k6, k7, k8⟩ := told_at HTT.out
      have M1 := hidden (fun W (hW : Below wr.heap.size wr W) => imin_any p1 p2 n1 q1 n2 q2 hB (stA t a b 4) 3 t W (hm.row.below hW))
      have M2 := hidden (fun W (hW : Below wr.heap.size wr W) => imin_any p1 p2 n1 q1 n2 q2 hB (stA t a b 4) 3 (t + a) W (hm.row.below hW))
      have M3 := hidden (fun W (hW : Below wr.heap.size wr W) => imin_any p1 p2 n1 q1 n2 q2 hB (stA t a b 4) 3 (t + a + b + 50) W (hm.row.below hW))
      have M4 := hidden (fun W (hW : Below wr.heap.size wr W) => imin_any p1 p2 n1 q1 n2 q2 hB (stA t a b 4) 3 (t + a + b + 57) W (hm.row.below hW))
      have P1 := hidden (fun W (hW : Below wr.heap.size wr W) => iwhere_any p1 p2 n1 q1 n2 q2 hB (stA t a b 4) 3 (t + a - 1) W (hm.row.below hW))
      have P2 := hidden (fun W (hW : Below wr.heap.size wr W) => iwhere_any p1 p2 n1 q1 n2 q2 hB (stA t a b 4) 3 (t + a) W (hm.row.below hW))
      have P3 := hidden (fun W (hW : Below wr.heap.size wr W) => iwhere_any p1 p2 n1 q1 n2 q2 hB (stA t a b 4) 3 (t + a + b) W (hm.row.below hW))
      have P4 := hidden (fun W (hW : Below wr.heap.size wr W) => iwhere_any p1 p2 n1 q1 n2 q2 hB (stA t a b 4) 4 t W (hm.row.below hW))
      rw [k1] at M1
      rw [k2] at M2
      rw [k3] at M3
      rw [k4] at M4
      rw [k5] at P1
      rw [k6] at P2
      rw [k7] at P3
      rw [k8] at P4
      have bel := hm.bel
      clear k1 k2 k3 k4 k5 k6 k7 k8 hm
      have hb0 := Below.refl wr.heap.size wr
      go_wp2_with fail
      refine (M1.out _ hb0).mono ?_
      rintro e x0 ⟨rfl, hbq0⟩
      have hb1 := onto hb0 hbq0
      have v00 := (hb1.cell (p := ⟨w3.heap.size + 1, 0, none⟩) hx).trans c0
      have v01 := (hb1.cell (p := ⟨w3.heap.size + 1, 1, none⟩) hx).trans c1
      clear hbq0
      go_wp2_with fail
      refine (M2.out _ hb1).mono ?_
      rintro e x1 ⟨rfl, hbq1⟩
      have hb2 := onto hb1 hbq1
      have v10 := (hb2.cell (p := ⟨w3.heap.size + 1, 0, none⟩) hx).trans c0
      have v11 := (hb2.cell (p := ⟨w3.heap.size + 1, 1, none⟩) hx).trans c1
      clear hbq1
      go_wp2_with fail
      refine (M3.out _ hb2).mono ?_
      rintro e x2 ⟨rfl, hbq2⟩
      have hb3 := onto hb2 hbq2
      have v20 := (hb3.cell (p := ⟨w3.heap.size + 1, 0, none⟩) hx).trans c0
      have v21 := (hb3.cell (p := ⟨w3.heap.size + 1, 1, none⟩) hx).trans c1
      clear hbq2
      go_wp2_with fail
      refine (M4.out _ hb3).mono ?_
      rintro e x3 ⟨rfl, hbq3⟩
      have hb4 := onto hb3 hbq3
      have v30 := (hb4.cell (p := ⟨w3.heap.size + 1, 0, none⟩) hx).trans c0
      have v31 := (hb4.cell (p := ⟨w3.heap.size + 1, 1, none⟩) hx).trans c1
      clear hbq3
      go_wp2_with fail
      refine (P1.out _ hb4).mono ?_
      rintro e x4 ⟨rfl, hbq4⟩
      have hb5 := onto hb4 hbq4
      have v40 := (hb5.cell (p := ⟨w3.heap.size + 1, 0, none⟩) hx).trans c0
      have v41 := (hb5.cell (p := ⟨w3.heap.size + 1, 1, none⟩) hx).trans c1
      clear hbq4
      go_wp2_with fail
      refine (P2.out _ hb5).mono ?_
      rintro e x5 ⟨rfl, hbq5⟩
      have hb6 := onto hb5 hbq5
      have v50 := (hb6.cell (p := ⟨w3.heap.size + 1, 0, none⟩) hx).trans c0
      have v51 := (hb6.cell (p := ⟨w3.heap.size + 1, 1, none⟩) hx).trans c1
      clear hbq5
      go_wp2_with fail
      refine (P3.out _ hb6).mono ?_
      rintro e x6 ⟨rfl, hbq6⟩
      have hb7 := onto hb6 hbq6
      have v60 := (hb7.cell (p := ⟨w3.heap.size + 1, 0, none⟩) hx).trans c0
      have v61 := (hb7.cell (p := ⟨w3.heap.size + 1, 1, none⟩) hx).trans c1
      clear hbq6
      go_wp2_with fail
      refine (P4.out _ hb7).mono ?_
      rintro e x7 ⟨rfl, hbq7⟩
      have hb8 := onto hb7 hbq7
      have v70 := (hb8.cell (p := ⟨w3.heap.size + 1, 0, none⟩) hx).trans c0
      have v71 := (hb8.cell (p := ⟨w3.heap.size + 1, 1, none⟩) hx).trans c1
      clear hbq7
      go_wp2_with fail
      go_ret
      exact ⟨rfl, onto bel hb8⟩
end Go.Proofs.Ytmigcbbjejbcgab
