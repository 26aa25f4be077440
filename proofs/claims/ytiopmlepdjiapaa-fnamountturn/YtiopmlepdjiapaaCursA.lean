/-
  A cursor that is made of bytes, and the amounts that are drawn of it.
-/
import Derived.Test.YtiopmlepdjiapaaCurs2
import Derived.Test.YtiopmlepdjiapaaSMk
import Derived.Deep.RegionHeld3
namespace Go.Proofs.Ytiopmlepdjiapaa
open Go.RowKit

theorem Cur.alloc {w : World} {g cap : Nat} {ao : Option Addr} {bs : List Int} (h : Cur w g ao cap bs) (o : Obj) : Cur (w.alloc o) g ao cap bs :=
  h.below (((Keep.refl w.heap.size w).alloc o).below (by have := h.1; omega) (by have := h.1; omega))
theorem Cur.whole {w w' : World} {g cap : Nat} {ao : Option Addr} {bs : List Int} (h : Cur w g ao cap bs) (hb : Below w.heap.size w w') : Cur w' g ao cap bs :=
  h.below (hb.mono (by have := h.1; omega))

set_option maxHeartbeats 1000000 in
theorem new_any (ao : Option Addr) (cap : Nat) (bs : List Int) (w : World) (hb : Bytes w w.heap.size ao bs) (hl : bs.length ≤ 1048576) :
    Calls Try.prog 18 #[.slice ao bs.length cap] w fun e w' => e = .returned (.pointer (some ⟨w.heap.size, 0, none⟩)) ∧ Cur w' w.heap.size ao cap bs ∧ Below w.heap.size w w' := by
  go_enter Try.func18, Try.ntmps18
  go_wp2_with fail
  go_loopw [3, 4] (fun hv iv wr => wr = w ∧ ∃ (k : Nat) (h : Int), k ≤ bs.length ∧ iv = .int .i64 k ∧ hv = .int .i64 h) (fun _ iv _ => bs.length - (intOf iv).toNat)
  case atStart => exact ⟨rfl, 0, _, Nat.zero_le _, rfl, rfl⟩
  case round =>
    obtain ⟨rfl, k, h, hk, rfl, rfl⟩ := hrel
    by_cases hlt : k < bs.length
    · have hlt1 : (k : Int) < (bs.length : Int) := by omega
      rcases hb.2 with h2 | ⟨b, off, rfl, hbg0, hcell⟩
      · omega
      have hcb := hcell k hlt
      have hr : 0 ≤ bs.getD k 0 ∧ bs.getD k 0 ≤ 255 := hb.1 _ (by rw [List.getD_eq_getElem?_getD, List.getElem?_eq_getElem hlt]; simp)
      generalize bs.getD k 0 = y at *
      obtain ⟨r1, r2⟩ := hr
      clear hcell
      go_wp2_with fail
      go_roundw
      case rel => exact ⟨trivial, k + 1, _, by omega, by go_num, rfl⟩
      case measure => simp [intOf]; omega
    · have hlt1 : ¬ (k : Int) < (bs.length : Int) := by omega
      have hbb := hb
      clear hb
      go_wp2_with fail
      go_ret
      have e := heap_alloc_new wr (Obj.cells #[.slice ao bs.length cap, .int .i64 0, .int .i64 h] 63)
      have hB : Below wr.heap.size wr (wr.alloc (Obj.cells #[.slice ao bs.length cap, .int .i64 0, .int .i64 h] 63)) := (Keep.refl wr.heap.size wr).alloc _ |>.below (Nat.le_refl _) (Nat.le_refl _)
      refine ⟨rfl, ⟨by simp, hbb.below hB, hl, 0, h, Nat.zero_le _, ?_, ?_, ?_, ?_, ?_⟩, hB⟩
      · simp only [World.cell?, e]; rfl
      · simp only [World.cell?, e]; rfl
      · simp only [World.cell?, e]; rfl
      · simp only [World.frozen?, e]; rfl
      · simp only [World.frozen?, e]; rfl

theorem big_any (ao : Option Addr) (cap n : Nat) (w : World) :
    Calls Try.prog 5 #[.slice ao n cap] w fun e w' => e = .returned (.bool (decide (4096 < (n : Int)))) ∧ w' = w := by
  go_enter Try.func5, Try.ntmps5
  go_wp2_with fail
  go_ret
  exact ⟨rfl, rfl⟩


/-- An amount's three cells at block A. -/
def Amt (W : World) (A : Nat) (n d u : Int) : Prop :=
  A < W.heap.size ∧ W.cell? ⟨A, 0, none⟩ = some (.int .i64 n) ∧ W.cell? ⟨A, 1, none⟩ = some (.int .i64 d) ∧ W.cell? ⟨A, 2, none⟩ = some (.int .i64 u) ∧ W.frozen? ⟨A, 0, none⟩ = false ∧ W.frozen? ⟨A, 1, none⟩ = false ∧ W.frozen? ⟨A, 2, none⟩ = false
theorem Amt.same {W W' : World} {A : Nat} {n d u : Int} (h : Amt W A n d u) (hs : W.heap.size ≤ W'.heap.size) (hb : W'.heap[A]? = W.heap[A]?) : Amt W' A n d u := by
  obtain ⟨h0, h1, h2, h3, h4, h5, h6⟩ := h
  have hc : ∀ o, W'.cell? ⟨A, o, none⟩ = W.cell? ⟨A, o, none⟩ := fun o => World.cell?_of_block (w := W) hb
  have hf : ∀ o, W'.frozen? ⟨A, o, none⟩ = W.frozen? ⟨A, o, none⟩ := fun o => by simp only [World.frozen?, hb]
  exact ⟨Nat.lt_of_lt_of_le h0 hs, (hc 0).trans h1, (hc 1).trans h2, (hc 2).trans h3, (hf 0).trans h4, (hf 1).trans h5, (hf 2).trans h6⟩
theorem Amt.keep {W W' : World} {A g : Nat} {n d u : Int} (h : Amt W A n d u) (hk : Keep g W W') (hg : A ≠ g) : Amt W' A n d u := h.same hk.size (hk.block A h.1 hg)
theorem Amt.below {W W' : World} {A : Nat} {n d u : Int} (h : Amt W A n d u) (hk : Below W.heap.size W W') : Amt W' A n d u := h.same hk.size (hk.block A h.1)
theorem Amt.new (W : World) (n d u : Int) : Amt (W.alloc (.cells #[.int .i64 n, .int .i64 d, .int .i64 u] 25)) W.heap.size n d u := by
  have e := heap_alloc_new W (Obj.cells #[.int .i64 n, .int .i64 d, .int .i64 u] 25)
  refine ⟨by simp, ?_, ?_, ?_, ?_, ?_, ?_⟩
  · simp only [World.cell?, e]; rfl
  · simp only [World.cell?, e]; rfl
  · simp only [World.cell?, e]; rfl
  · simp only [World.frozen?, e]; rfl
  · simp only [World.frozen?, e]; rfl
  · simp only [World.frozen?, e]; rfl

theorem Keep.setNew {g j o : Nat} {a b : World} (h : Keep g a b) (hj : a.heap.size ≤ j) (u : Value) : Keep g a (b.setCell ⟨j, o, none⟩ u) :=
  ⟨h.os, h.tape, h.output, by simpa [World.setCell] using h.size, fun i hi hg => (heap_setCell_other b ⟨j, o, none⟩ i u (by show i ≠ j; omega)).trans (h.block i hi hg)⟩
/-- What holds between the draws of an amount. -/
def Inv (g : Nat) (ao : Option Addr) (cap : Nat) (bs : List Int) (w : World) (A : Nat) (n d u : Int) (W : World) : Prop :=
  Amt W w.heap.size 0 0 0 ∧ Amt W A n d u ∧ Cur W g ao cap bs ∧ Keep g w W
theorem Inv.keep {g : Nat} {ao : Option Addr} {cap : Nat} {bs : List Int} {w W W' : World} {A : Nat} {n d u : Int} (h : Inv g ao cap bs w A n d u W) (hk : Keep g W W') (hc : Cur W' g ao cap bs) (hR : w.heap.size ≠ g) (hA : A ≠ g) : Inv g ao cap bs w A n d u W' :=
  ⟨h.1.keep hk hR, h.2.1.keep hk hA, hc, h.2.2.2.trans hk⟩
theorem Inv.below {g : Nat} {ao : Option Addr} {cap : Nat} {bs : List Int} {w W W' : World} {A : Nat} {n d u : Int} (h : Inv g ao cap bs w A n d u W) (hk : Below W.heap.size W W') : Inv g ao cap bs w A n d u W' :=
  ⟨h.1.below hk, h.2.1.below hk, h.2.2.1.whole hk, h.2.2.2.trans (Keep.of_below hk)⟩
theorem Inv.drewN {g : Nat} {ao : Option Addr} {cap : Nat} {bs : List Int} {w W : World} {A : Nat} {n d u : Int} (h : Inv g ao cap bs w A n d u W) (k : Nat) : Inv g ao cap bs w A n d u (W.drewN k) := ⟨h.1, h.2.1, h.2.2.1, h.2.2.2.drewN k⟩
theorem Inv.drew {g : Nat} {ao : Option Addr} {cap : Nat} {bs : List Int} {w W : World} {A : Nat} {n d u : Int} (h : Inv g ao cap bs w A n d u W) : Inv g ao cap bs w A n d u W.drew := ⟨h.1, h.2.1, h.2.2.1, ⟨h.2.2.2.os, h.2.2.2.tape, h.2.2.2.output, h.2.2.2.size, h.2.2.2.block⟩⟩
theorem Inv.cur {g : Nat} {ao : Option Addr} {cap : Nat} {bs : List Int} {w W : World} {A : Nat} {n d u : Int} (h : Inv g ao cap bs w A n d u W) : Cur W g ao cap bs := h.2.2.1
theorem Inv.cell {g : Nat} {ao : Option Addr} {cap : Nat} {bs : List Int} {w W : World} {A : Nat} {n d u : Int} (h : Inv g ao cap bs w A n d u W) : W.cell? ⟨A, 2, none⟩ = some (.int .i64 u) := h.2.1.2.2.2.1

theorem Cur.setNew {w : World} {g cap j o : Nat} {ao : Option Addr} {bs : List Int} (h : Cur w g ao cap bs) (hj : g < j) (v : Value) : Cur (w.setCell ⟨j, o, none⟩ v) g ao cap bs :=
  h.below ((Below.refl _ _).setCell hj v)
theorem Amt.far {W : World} {A j o : Nat} {n d u : Int} (h : Amt W A n d u) (hj : A ≠ j) (v : Value) : Amt (W.setCell ⟨j, o, none⟩ v) A n d u :=
  h.same (by simp [World.setCell]) (heap_setCell_other W ⟨j, o, none⟩ A v hj)
theorem Amt.set0 {W : World} {A : Nat} {n d u : Int} (h : Amt W A n d u) (x : Int) : Amt (W.setCell ⟨A, 0, none⟩ (.int .i64 x)) A x d u := by
  obtain ⟨h0, h1, h2, h3, h4, h5, h6⟩ := h
  refine ⟨by simpa [World.setCell] using h0, World.cell?_setCell_same _ _ _ h1, ?_, ?_, by simpa using h4, by simpa using h5, by simpa using h6⟩
  · rw [World.cell?_setCell_other (h := by simp)]; exact h2
  · rw [World.cell?_setCell_other (h := by simp)]; exact h3
theorem Amt.set1 {W : World} {A : Nat} {n d u : Int} (h : Amt W A n d u) (x : Int) : Amt (W.setCell ⟨A, 1, none⟩ (.int .i64 x)) A n x u := by
  obtain ⟨h0, h1, h2, h3, h4, h5, h6⟩ := h
  refine ⟨by simpa [World.setCell] using h0, ?_, World.cell?_setCell_same _ _ _ h2, ?_, by simpa using h4, by simpa using h5, by simpa using h6⟩
  · rw [World.cell?_setCell_other (h := by simp)]; exact h1
  · rw [World.cell?_setCell_other (h := by simp)]; exact h3
theorem Amt.set2 {W : World} {A : Nat} {n d u : Int} (h : Amt W A n d u) (x : Int) : Amt (W.setCell ⟨A, 2, none⟩ (.int .i64 x)) A n d x := by
  obtain ⟨h0, h1, h2, h3, h4, h5, h6⟩ := h
  refine ⟨by simpa [World.setCell] using h0, ?_, ?_, World.cell?_setCell_same _ _ _ h3, by simpa using h4, by simpa using h5, by simpa using h6⟩
  · rw [World.cell?_setCell_other (h := by simp)]; exact h1
  · rw [World.cell?_setCell_other (h := by simp)]; exact h2
theorem Inv.set0 {g : Nat} {ao : Option Addr} {cap : Nat} {bs : List Int} {w W : World} {A : Nat} {n d u : Int} (h : Inv g ao cap bs w A n d u W) (hg : g < w.heap.size) (hA : w.heap.size < A) (x : Int) : Inv g ao cap bs w A x d u (W.setCell ⟨A, 0, none⟩ (.int .i64 x)) :=
  ⟨h.1.far (by omega) _, h.2.1.set0 x, h.2.2.1.setNew (by omega) _, h.2.2.2.setNew (by omega) _⟩
theorem Inv.set1 {g : Nat} {ao : Option Addr} {cap : Nat} {bs : List Int} {w W : World} {A : Nat} {n d u : Int} (h : Inv g ao cap bs w A n d u W) (hg : g < w.heap.size) (hA : w.heap.size < A) (x : Int) : Inv g ao cap bs w A n x u (W.setCell ⟨A, 1, none⟩ (.int .i64 x)) :=
  ⟨h.1.far (by omega) _, h.2.1.set1 x, h.2.2.1.setNew (by omega) _, h.2.2.2.setNew (by omega) _⟩
theorem Inv.set2 {g : Nat} {ao : Option Addr} {cap : Nat} {bs : List Int} {w W : World} {A : Nat} {n d u : Int} (h : Inv g ao cap bs w A n d u W) (hg : g < w.heap.size) (hA : w.heap.size < A) (x : Int) : Inv g ao cap bs w A n d x (W.setCell ⟨A, 2, none⟩ (.int .i64 x)) :=
  ⟨h.1.far (by omega) _, h.2.1.set2 x, h.2.2.1.setNew (by omega) _, h.2.2.2.setNew (by omega) _⟩

set_option maxHeartbeats 1000000 in
theorem amount_any (g : Nat) (ao : Option Addr) (cap : Nat) (bs : List Int) (w : World) (hc : Cur w g ao cap bs) :
    Calls Try.prog 19 #[.pointer (some ⟨g, 0, none⟩)] w fun e w' => ∃ n d u : Int, e = .returned (.agg #[.int .i64 n, .int .i64 d, .int .i64 u]) ∧ Cur w' g ao cap bs ∧ Keep g w w' := by
  have hg := hc.1
  have hAg : w.heap.size ≠ g := by omega
  go_enter Try.func19, Try.ntmps19
  go_wp2_with fail
  have hc0 := hc.alloc (Obj.cells #[.int .i64 0, .int .i64 0, .int .i64 0] 25)
  have hk0 := (Keep.refl g w).alloc (Obj.cells #[.int .i64 0, .int .i64 0, .int .i64 0] 25)
  have hm0 := Amt.new w 0 0 0
  refine (below_any g ao cap bs 40 _ hc0 (by decide)).mono ?_
  rintro e w1 ⟨x1, rfl, _, _, hc1, hk1⟩
  go_wp2_with fail
  refine (below_any g ao cap bs 12 _ hc1 (by decide)).mono ?_
  rintro e w2 ⟨x2, rfl, _, _, hc2, hk2⟩
  go_wp2_with fail
  refine (below_any g ao cap bs 7 _ hc2 (by decide)).mono ?_
  rintro e w3 ⟨x3, rfl, _, _, hc3, hk3⟩
  go_wp2_with fail
  refine (smake_any _ _ _ _).mono ?_
  rintro e w4 ⟨rfl, hb4⟩
  have hc4 := hc3.whole hb4
  have hm4 := (((hm0.keep hk1 hAg).keep hk2 hAg).keep hk3 hAg).below hb4
  have hk4 := ((hk0.trans hk1).trans (hk2.trans hk3)).trans (Keep.of_below hb4)
  clear hc0 hc1 hc2 hc3 hk0 hk1 hk2 hk3 hm0 hb4
  generalize mN x1 (1 + x2) (1 + x3) = n4
  generalize mD x1 (1 + x2) (1 + x3) = d4
  generalize mU x1 (1 + x2) (1 + x3) = u4
  have hI : Inv g ao cap bs w w4.heap.size n4 d4 u4 (w4.alloc (.cells #[.int .i64 n4, .int .i64 d4, .int .i64 u4] 25)) :=
    ⟨hm4.same (by simp) (Below.heap_alloc w4 _ _ hm4.1), Amt.new w4 n4 d4 u4, hc4.alloc _, hk4.alloc _⟩
  have hA : w4.heap.size ≠ g := by have := hc4.1; omega
  have hRA : w.heap.size < w4.heap.size := hm4.1
  clear hm4
  go_wp2_with fail
  refine (once_any g ao cap bs 8 _ hI.2.2.1 (by decide)).mono ?_
  rintro e w5 ⟨t, rfl, hc5, hk5⟩
  have hI5 := hI.keep hk5 hc5 hAg hA
  clear hI hc5 hk5 hc4 hk4
  generalize w4.heap.size = A at *
  cases t
  · have hI7 := hI5
    clear hI5
    go_wp2_with fail
    refine (once_any g ao cap bs 16 _ hI7.cur (by decide)).mono ?_
    rintro e w8 ⟨t8, rfl, hc8, hk8⟩
    have hI8 := hI7.keep hk8 hc8 hAg hA
    clear hI7 hc8 hk8
    cases t8
    · obtain ⟨⟨r0, r1, r2, r3, r4, r5, r6⟩, ⟨s0, s1, s2, s3, s4, s5, s6⟩, hcf, hkf⟩ := hI8
      go_wp2_with fail
      exact bodyPost_ret (v := .agg #[.int .i64 n4, .int .i64 d4, .int .i64 u4]) (by simp [results, Try.results19, go_sem, r1, r2, r3]) rfl
        ⟨_, _, _, rfl, (((hcf.setNew hg _).setNew hg _).setNew hg _), (((hkf.setNew (Nat.le_refl _) _).setNew (Nat.le_refl _) _).setNew (Nat.le_refl _) _)⟩
    · go_wp2_with fail
      refine (below_any g ao cap bs 4 _ hI8.cur (by decide)).mono ?_
      rintro e w9 ⟨k, rfl, hk0, hk1, hc9, hk9⟩
      have hI9 := hI8.keep hk9 hc9 hAg hA
      clear hI8 hc9 hk9
      have hk : k = 0 ∨ k = 1 ∨ k = 2 ∨ k = 3 := by omega
      rcases hk with rfl | rfl | rfl | rfl
      · go_wp2_with fail
        have hIa : Inv g ao cap bs w A n4 d4 u4 (w9.alloc (Obj.cells #[.int .i64 (-1), .int .i64 1000000000, .int .i64 1000000001, .int .i64 0, .int .i64 4611686018427387904] 2)) := hI9.below ((Keep.refl w9.heap.size w9).alloc _ |>.below (Nat.le_refl _) (Nat.le_refl _))
        refine (below_any g ao cap bs 5 _ hIa.cur (by decide)).mono ?_
        rintro e w10 ⟨i, rfl, hi0, hi1, hc10, hk10⟩
        have hI10 := hIa.keep hk10 hc10 hAg hA
        obtain ⟨m, rfl⟩ := Int.eq_ofNat_of_zero_le hi0
        obtain ⟨x, hx⟩ : ∃ x, w10.cell? ⟨w9.heap.size, m, none⟩ = some (.int .i64 x) := by
          have e := hk10.cell (b := w9.heap.size) (o := m) (by simp) (by have := hI9.cur.1; omega)
          rw [e]
          have hm' : m = 0 ∨ m = 1 ∨ m = 2 ∨ m = 3 ∨ m = 4 := by omega
          have e2 := heap_alloc_new w9 (Obj.cells #[.int .i64 (-1), .int .i64 1000000000, .int .i64 1000000001, .int .i64 0, .int .i64 4611686018427387904] 2)
          rcases hm' with rfl | rfl | rfl | rfl | rfl <;> exact ⟨_, by simp only [World.cell?, e2]; rfl⟩
        clear hIa hI9
        have hI11 := hI10.set0 hg hRA x
        obtain ⟨_, ⟨y0, y1, y2, y3, y4, y5, y6⟩, _, _⟩ := hI10
        obtain ⟨⟨r0, r1, r2, r3, r4, r5, r6⟩, ⟨s0, s1, s2, s3, s4, s5, s6⟩, hcf, hkf⟩ := hI11
        go_wp2_with fail
        exact bodyPost_ret (v := .agg #[.int .i64 x, .int .i64 d4, .int .i64 u4]) (by simp [results, Try.results19, go_sem, r1, r2, r3]) rfl
          ⟨_, _, _, rfl, (((hcf.setNew hg _).setNew hg _).setNew hg _), (((hkf.setNew (Nat.le_refl _) _).setNew (Nat.le_refl _) _).setNew (Nat.le_refl _) _)⟩
      · go_wp2_with fail
        have hIa : Inv g ao cap bs w A n4 d4 u4 (w9.alloc (Obj.cells #[.int .i64 0, .int .i64 (-1), .int .i64 1000000000, .int .i64 1000000001, .int .i64 1] 2)) := hI9.below ((Keep.refl w9.heap.size w9).alloc _ |>.below (Nat.le_refl _) (Nat.le_refl _))
        refine (below_any g ao cap bs 5 _ hIa.cur (by decide)).mono ?_
        rintro e w10 ⟨i, rfl, hi0, hi1, hc10, hk10⟩
        have hI10 := hIa.keep hk10 hc10 hAg hA
        obtain ⟨m, rfl⟩ := Int.eq_ofNat_of_zero_le hi0
        obtain ⟨x, hx⟩ : ∃ x, w10.cell? ⟨w9.heap.size, m, none⟩ = some (.int .i64 x) := by
          have e := hk10.cell (b := w9.heap.size) (o := m) (by simp) (by have := hI9.cur.1; omega)
          rw [e]
          have hm' : m = 0 ∨ m = 1 ∨ m = 2 ∨ m = 3 ∨ m = 4 := by omega
          have e2 := heap_alloc_new w9 (Obj.cells #[.int .i64 0, .int .i64 (-1), .int .i64 1000000000, .int .i64 1000000001, .int .i64 1] 2)
          rcases hm' with rfl | rfl | rfl | rfl | rfl <;> exact ⟨_, by simp only [World.cell?, e2]; rfl⟩
        clear hIa hI9
        have hI11 := hI10.set1 hg hRA x
        obtain ⟨_, ⟨y0, y1, y2, y3, y4, y5, y6⟩, _, _⟩ := hI10
        obtain ⟨⟨r0, r1, r2, r3, r4, r5, r6⟩, ⟨s0, s1, s2, s3, s4, s5, s6⟩, hcf, hkf⟩ := hI11
        go_wp2_with fail
        exact bodyPost_ret (v := .agg #[.int .i64 n4, .int .i64 x, .int .i64 u4]) (by simp [results, Try.results19, go_sem, r1, r2, r3]) rfl
          ⟨_, _, _, rfl, (((hcf.setNew hg _).setNew hg _).setNew hg _), (((hkf.setNew (Nat.le_refl _) _).setNew (Nat.le_refl _) _).setNew (Nat.le_refl _) _)⟩
      · go_wp2_with fail
        refine (from_any g ao cap bs _ _ _ hI9.cur (by decide) (by decide) (by decide)).mono ?_
        rintro e w10 ⟨x, rfl, hi0, hi1, hc10, hk10⟩
        have hI10 := hI9.keep hk10 hc10 hAg hA
        have hI11 := hI10.set2 hg hRA x
        obtain ⟨_, ⟨y0, y1, y2, y3, y4, y5, y6⟩, _, _⟩ := hI10
        obtain ⟨⟨r0, r1, r2, r3, r4, r5, r6⟩, ⟨s0, s1, s2, s3, s4, s5, s6⟩, hcf, hkf⟩ := hI11
        go_wp2_with fail
        exact bodyPost_ret (v := .agg #[.int .i64 n4, .int .i64 d4, .int .i64 x]) (by simp [results, Try.results19, go_sem, r1, r2, r3]) rfl
          ⟨_, _, _, rfl, (((hcf.setNew hg _).setNew hg _).setNew hg _), (((hkf.setNew (Nat.le_refl _) _).setNew (Nat.le_refl _) _).setNew (Nat.le_refl _) _)⟩
      · have hI10 := hI9.set0 hg hRA (wrap64 (n4 * 2))
        have hI11 := hI10.set1 hg hRA (wrap64 (d4 * 2))
        obtain ⟨_, ⟨y0, y1, y2, y3, y4, y5, y6⟩, _, _⟩ := hI9
        obtain ⟨_, ⟨z0, z1, z2, z3, z4, z5, z6⟩, _, _⟩ := hI10
        obtain ⟨⟨r0, r1, r2, r3, r4, r5, r6⟩, ⟨s0, s1, s2, s3, s4, s5, s6⟩, hcf, hkf⟩ := hI11
        go_wp2_with fail
        exact bodyPost_ret (v := .agg #[.int .i64 (wrap64 (n4 * 2)), .int .i64 (wrap64 (d4 * 2)), .int .i64 u4]) (by simp [results, Try.results19, go_sem, r1, r2, r3]) rfl
          ⟨_, _, _, rfl, (((hcf.setNew hg _).setNew hg _).setNew hg _), (((hkf.setNew (Nat.le_refl _) _).setNew (Nat.le_refl _) _).setNew (Nat.le_refl _) _)⟩
  · go_wp2_with fail
    have hq := hI5.2.1
    obtain ⟨q0, q1, q2, q3, q4, q5, q6⟩ := hq
    go_region_with (first
        | (go_at_call 20; refine (below_any g ao cap bs _ _ (Inv.cur (A := A) (n := n4) (d := d4) (u := u4) (w := w) (by first | exact hI6 | exact hI5 | exact hI5.drew)) (by decide)).mono ?_; rintro e w6 ⟨x6, rfl, _, _, hc6, hk6⟩; have hI6 : Inv g ao cap bs w A n4 d4 u4 w6 := Inv.keep (by first | exact hI6 | exact hI5 | exact hI5.drew) hk6 hc6 hAg hA; have hq := hI6.2.1; obtain ⟨q0, q1, q2, q3, q4, q5, q6⟩ := hq)
        | (go_at_call 34; refine (smake_any _ _ _ _).mono ?_; rintro e w6 ⟨rfl, hb6⟩; generalize mN _ _ _ = n5; generalize mD _ _ _ = d5; generalize mU _ _ _ = u5; have hI6 : Inv g ao cap bs w A n4 d4 u4 w6 := Inv.below (by first | exact hI6 | exact hI5 | exact hI5.drew) hb6; have hq := hI6.2.1; obtain ⟨q0, q1, q2, q3, q4, q5, q6⟩ := hq)
        | fail)
    all_goals (
      have hI7 := ((hI6.set0 hg hRA n5).set1 hg hRA d5).set2 hg hRA u5
      clear hI5 hI6 q0 q1 q2 q3 q4 q5 q6
      generalize World.setCell (World.setCell (World.setCell w6 _ _) _ _) _ _ = W7 at hI7 ⊢
      go_wp2_with fail
      refine (once_any g ao cap bs 16 _ hI7.cur (by decide)).mono ?_
      rintro e w8 ⟨t8, rfl, hc8, hk8⟩
      have hI8 := hI7.keep hk8 hc8 hAg hA
      clear hI7 hc8 hk8
      cases t8
      · obtain ⟨⟨r0, r1, r2, r3, r4, r5, r6⟩, ⟨s0, s1, s2, s3, s4, s5, s6⟩, hcf, hkf⟩ := hI8
        go_wp2_with fail
        exact bodyPost_ret (v := .agg #[.int .i64 n5, .int .i64 d5, .int .i64 u5]) (by simp [results, Try.results19, go_sem, r1, r2, r3]) rfl
          ⟨_, _, _, rfl, (((hcf.setNew hg _).setNew hg _).setNew hg _), (((hkf.setNew (Nat.le_refl _) _).setNew (Nat.le_refl _) _).setNew (Nat.le_refl _) _)⟩
      · go_wp2_with fail
        refine (below_any g ao cap bs 4 _ hI8.cur (by decide)).mono ?_
        rintro e w9 ⟨k, rfl, hk0, hk1, hc9, hk9⟩
        have hI9 := hI8.keep hk9 hc9 hAg hA
        clear hI8 hc9 hk9
        have hk : k = 0 ∨ k = 1 ∨ k = 2 ∨ k = 3 := by omega
        rcases hk with rfl | rfl | rfl | rfl
        · go_wp2_with fail
          have hIa : Inv g ao cap bs w A n5 d5 u5 (w9.alloc (Obj.cells #[.int .i64 (-1), .int .i64 1000000000, .int .i64 1000000001, .int .i64 0, .int .i64 4611686018427387904] 2)) := hI9.below ((Keep.refl w9.heap.size w9).alloc _ |>.below (Nat.le_refl _) (Nat.le_refl _))
          refine (below_any g ao cap bs 5 _ hIa.cur (by decide)).mono ?_
          rintro e w10 ⟨i, rfl, hi0, hi1, hc10, hk10⟩
          have hI10 := hIa.keep hk10 hc10 hAg hA
          obtain ⟨m, rfl⟩ := Int.eq_ofNat_of_zero_le hi0
          obtain ⟨x, hx⟩ : ∃ x, w10.cell? ⟨w9.heap.size, m, none⟩ = some (.int .i64 x) := by
            have e := hk10.cell (b := w9.heap.size) (o := m) (by simp) (by have := hI9.cur.1; omega)
            rw [e]
            have hm' : m = 0 ∨ m = 1 ∨ m = 2 ∨ m = 3 ∨ m = 4 := by omega
            have e2 := heap_alloc_new w9 (Obj.cells #[.int .i64 (-1), .int .i64 1000000000, .int .i64 1000000001, .int .i64 0, .int .i64 4611686018427387904] 2)
            rcases hm' with rfl | rfl | rfl | rfl | rfl <;> exact ⟨_, by simp only [World.cell?, e2]; rfl⟩
          clear hIa hI9
          have hI11 := hI10.set0 hg hRA x
          obtain ⟨_, ⟨y0, y1, y2, y3, y4, y5, y6⟩, _, _⟩ := hI10
          obtain ⟨⟨r0, r1, r2, r3, r4, r5, r6⟩, ⟨s0, s1, s2, s3, s4, s5, s6⟩, hcf, hkf⟩ := hI11
          go_wp2_with fail
          exact bodyPost_ret (v := .agg #[.int .i64 x, .int .i64 d5, .int .i64 u5]) (by simp [results, Try.results19, go_sem, r1, r2, r3]) rfl
            ⟨_, _, _, rfl, (((hcf.setNew hg _).setNew hg _).setNew hg _), (((hkf.setNew (Nat.le_refl _) _).setNew (Nat.le_refl _) _).setNew (Nat.le_refl _) _)⟩
        · go_wp2_with fail
          have hIa : Inv g ao cap bs w A n5 d5 u5 (w9.alloc (Obj.cells #[.int .i64 0, .int .i64 (-1), .int .i64 1000000000, .int .i64 1000000001, .int .i64 1] 2)) := hI9.below ((Keep.refl w9.heap.size w9).alloc _ |>.below (Nat.le_refl _) (Nat.le_refl _))
          refine (below_any g ao cap bs 5 _ hIa.cur (by decide)).mono ?_
          rintro e w10 ⟨i, rfl, hi0, hi1, hc10, hk10⟩
          have hI10 := hIa.keep hk10 hc10 hAg hA
          obtain ⟨m, rfl⟩ := Int.eq_ofNat_of_zero_le hi0
          obtain ⟨x, hx⟩ : ∃ x, w10.cell? ⟨w9.heap.size, m, none⟩ = some (.int .i64 x) := by
            have e := hk10.cell (b := w9.heap.size) (o := m) (by simp) (by have := hI9.cur.1; omega)
            rw [e]
            have hm' : m = 0 ∨ m = 1 ∨ m = 2 ∨ m = 3 ∨ m = 4 := by omega
            have e2 := heap_alloc_new w9 (Obj.cells #[.int .i64 0, .int .i64 (-1), .int .i64 1000000000, .int .i64 1000000001, .int .i64 1] 2)
            rcases hm' with rfl | rfl | rfl | rfl | rfl <;> exact ⟨_, by simp only [World.cell?, e2]; rfl⟩
          clear hIa hI9
          have hI11 := hI10.set1 hg hRA x
          obtain ⟨_, ⟨y0, y1, y2, y3, y4, y5, y6⟩, _, _⟩ := hI10
          obtain ⟨⟨r0, r1, r2, r3, r4, r5, r6⟩, ⟨s0, s1, s2, s3, s4, s5, s6⟩, hcf, hkf⟩ := hI11
          go_wp2_with fail
          exact bodyPost_ret (v := .agg #[.int .i64 n5, .int .i64 x, .int .i64 u5]) (by simp [results, Try.results19, go_sem, r1, r2, r3]) rfl
            ⟨_, _, _, rfl, (((hcf.setNew hg _).setNew hg _).setNew hg _), (((hkf.setNew (Nat.le_refl _) _).setNew (Nat.le_refl _) _).setNew (Nat.le_refl _) _)⟩
        · go_wp2_with fail
          refine (from_any g ao cap bs _ _ _ hI9.cur (by decide) (by decide) (by decide)).mono ?_
          rintro e w10 ⟨x, rfl, hi0, hi1, hc10, hk10⟩
          have hI10 := hI9.keep hk10 hc10 hAg hA
          have hI11 := hI10.set2 hg hRA x
          obtain ⟨_, ⟨y0, y1, y2, y3, y4, y5, y6⟩, _, _⟩ := hI10
          obtain ⟨⟨r0, r1, r2, r3, r4, r5, r6⟩, ⟨s0, s1, s2, s3, s4, s5, s6⟩, hcf, hkf⟩ := hI11
          go_wp2_with fail
          exact bodyPost_ret (v := .agg #[.int .i64 n5, .int .i64 d5, .int .i64 x]) (by simp [results, Try.results19, go_sem, r1, r2, r3]) rfl
            ⟨_, _, _, rfl, (((hcf.setNew hg _).setNew hg _).setNew hg _), (((hkf.setNew (Nat.le_refl _) _).setNew (Nat.le_refl _) _).setNew (Nat.le_refl _) _)⟩
        · have hI10 := hI9.set0 hg hRA (wrap64 (n5 * 2))
          have hI11 := hI10.set1 hg hRA (wrap64 (d5 * 2))
          obtain ⟨_, ⟨y0, y1, y2, y3, y4, y5, y6⟩, _, _⟩ := hI9
          obtain ⟨_, ⟨z0, z1, z2, z3, z4, z5, z6⟩, _, _⟩ := hI10
          obtain ⟨⟨r0, r1, r2, r3, r4, r5, r6⟩, ⟨s0, s1, s2, s3, s4, s5, s6⟩, hcf, hkf⟩ := hI11
          go_wp2_with fail
          exact bodyPost_ret (v := .agg #[.int .i64 (wrap64 (n5 * 2)), .int .i64 (wrap64 (d5 * 2)), .int .i64 u5]) (by simp [results, Try.results19, go_sem, r1, r2, r3]) rfl
            ⟨_, _, _, rfl, (((hcf.setNew hg _).setNew hg _).setNew hg _), (((hkf.setNew (Nat.le_refl _) _).setNew (Nat.le_refl _) _).setNew (Nat.le_refl _) _)⟩)
end Go.Proofs.Ytiopmlepdjiapaa
