/-
  What DrawConvert and DrawAddAmount draw: some amounts.
-/
import Derived.Test.YtiopmlepdjiapaaCursA
import Derived.Test.YtiopmlepdjiapaaOk2
namespace Go.Proofs.Ytiopmlepdjiapaa
open Go.RowKit Am

theorem Bytes.up {w : World} {g g' : Nat} {ao : Option Addr} {bs : List Int} (h : Bytes w g ao bs) (hg : g ≤ g') : Bytes w g' ao bs := by
  refine ⟨h.1, ?_⟩
  rcases h.2 with h2 | ⟨b, off, h1, h2, h4⟩
  · exact Or.inl h2
  · exact Or.inr ⟨b, off, h1, Nat.lt_of_lt_of_le h2 hg, h4⟩
theorem bel_alloc (w : World) (o : Obj) : Below w.heap.size w (w.alloc o) := (Keep.refl w.heap.size w).alloc o |>.below (Nat.le_refl _) (Nat.le_refl _)
theorem Inv.fin {g : Nat} {ao : Option Addr} {cap : Nat} {bs : List Int} {w W : World} {A : Nat} {n d u : Int} (h : Inv g ao cap bs w A n d u W) (hg : w.heap.size ≤ g) : Below w.heap.size w W := h.2.2.2.below hg (Nat.le_refl _)

set_option maxHeartbeats 2000000 in
theorem dconv_any (ao : Option Addr) (cap : Nat) (bs : List Int) (w : World) (hb : Bytes w w.heap.size ao bs) (hl : bs.length ≤ 1048576) :
    Calls Try.prog 6 #[.slice ao bs.length cap] w fun e w' => ∃ n d u t : Int, e = .returned (.tuple #[.agg #[.int .i64 n, .int .i64 d, .int .i64 u], .int .i64 t]) ∧ Below w.heap.size w w' := by
  go_enter Try.func6, Try.ntmps6
  go_wp2_with fail
  have hm0 := Amt.new w 0 0 0
  have hz0 := bel_alloc w (Obj.cells #[.int .i64 0, .int .i64 0, .int .i64 0] 25)
  have hsz : (w.alloc (Obj.cells #[.int .i64 0, .int .i64 0, .int .i64 0] 25)).heap.size = w.heap.size + 1 := by simp
  generalize w.alloc (Obj.cells #[.int .i64 0, .int .i64 0, .int .i64 0] 25) = w0 at *
  refine (new_any ao cap bs w0 ((hb.below hz0).up (by omega)) hl).mono ?_
  rintro e w1 ⟨rfl, hc1, hb1⟩
  have hRg : w.heap.size ≠ w0.heap.size := by omega
  have hm1 := hm0.below hb1
  have hk1 : Keep w0.heap.size w w1 := (Keep.of_below hz0).trans (Keep.of_below hb1)
  have hgw : w.heap.size ≤ w0.heap.size := by omega
  clear hb1 hm0 hz0 hsz hb
  generalize w0.heap.size = g at *
  go_wp2_with fail
  refine (amount_any g ao cap bs w1 hc1).mono ?_
  rintro e w2 ⟨n, d, u, rfl, hc2, hk2⟩
  have hm2 := hm1.keep hk2 hRg
  have hI : Inv g ao cap bs w w2.heap.size n d u (w2.alloc (.cells #[.int .i64 n, .int .i64 d, .int .i64 u] 25)) :=
    ⟨hm2.same (by simp) (Below.heap_alloc w2 _ _ hm2.1), Amt.new w2 n d u, hc2.alloc _, (hk1.trans hk2).alloc _⟩
  have hA : w2.heap.size ≠ g := by have := hc2.1; omega
  clear hm1 hc1 hk1 hk2 hm2
  go_wp2_with fail
  refine (below_any g ao cap bs 7 _ hI.cur (by decide)).mono ?_
  rintro e w3 ⟨t3, rfl, _, _, hc3, hk3⟩
  have hI3 := hI.keep hk3 hc3 hRg hA
  clear hI hc3 hk3 hc2
  generalize w2.heap.size = A at *
  go_wp2_with fail
  refine (once_any g ao cap bs 2 _ hI3.cur (by decide)).mono ?_
  rintro e w4 ⟨b4, rfl, hc4, hk4⟩
  have hI4 := hI3.keep hk4 hc4 hRg hA
  clear hI3 hc4 hk4
  cases b4
  · go_wp2_with fail
    refine (once_any g ao cap bs 14 _ hI4.cur (by decide)).mono ?_
    rintro e w15 ⟨b5, rfl, hc15, hk15⟩
    have hI15 := hI4.keep hk15 hc15 hRg hA
    clear hc15 hk15
    cases b5
    · have hf := hI15.fin hgw
      obtain ⟨⟨r0, r1, r2, r3, r4, r5, r6⟩, ⟨s0, s1, s2, s3, s4, s5, s6⟩, hcf, hkf⟩ := hI15
      go_wp2_with fail
      exact bodyPost_ret (v := .tuple #[.agg #[.int .i64 n, .int .i64 d, .int .i64 u], .int .i64 (1 + t3)]) (by simp [results, Try.results6, go_sem, r1, r2, r3]) rfl
        ⟨_, _, _, _, rfl, ((hf.setCell (Nat.le_refl _) _).setCell (Nat.le_refl _) _).setCell (Nat.le_refl _) _⟩
    · go_wp2_with fail
      have hIa : Inv g ao cap bs w A n d u (w15.alloc (Obj.cells #[.int .i64 0, .int .i64 (-1), .int .i64 8, .int .i64 4611686018427387904] 2)) := hI15.below (bel_alloc _ _)
      refine (below_any g ao cap bs 4 _ hIa.cur (by decide)).mono ?_
      rintro e w20 ⟨i, rfl, hi0, hi1, hc20, hk20⟩
      have hI20 := hIa.keep hk20 hc20 hRg hA
      obtain ⟨m, rfl⟩ := Int.eq_ofNat_of_zero_le hi0
      obtain ⟨x, hx⟩ : ∃ x, w20.cell? ⟨w15.heap.size, m, none⟩ = some (.int .i64 x) := by
        have e := hk20.cell (b := w15.heap.size) (o := m) (by simp) (by have := hI15.cur.1; omega)
        rw [e]
        have hm' : m = 0 ∨ m = 1 ∨ m = 2 ∨ m = 3 := by omega
        have e2 := heap_alloc_new w15 (Obj.cells #[.int .i64 0, .int .i64 (-1), .int .i64 8, .int .i64 4611686018427387904] 2)
        rcases hm' with rfl | rfl | rfl | rfl <;> exact ⟨_, by simp only [World.cell?, e2]; rfl⟩
      clear hIa hI15
      have hf := hI20.fin hgw
      obtain ⟨⟨r0, r1, r2, r3, r4, r5, r6⟩, ⟨s0, s1, s2, s3, s4, s5, s6⟩, hcf, hkf⟩ := hI20
      go_wp2_with fail
      exact bodyPost_ret (v := .tuple #[.agg #[.int .i64 n, .int .i64 d, .int .i64 u], .int .i64 x]) (by simp [results, Try.results6, go_sem, r1, r2, r3]) rfl
        ⟨_, _, _, _, rfl, ((hf.setCell (Nat.le_refl _) _).setCell (Nat.le_refl _) _).setCell (Nat.le_refl _) _⟩
  · obtain ⟨_, ⟨s0, s1, s2, s3, s4, s5, s6⟩, _, _⟩ := id hI4
    go_wp2_with fail
    go_region_with (first
        | (go_at_call 20; refine (below_any g ao cap bs _ _ (Inv.cur (A := A) (n := n) (d := d) (u := u) (w := w) (by first | exact hI4 | exact hI4.drew)) (by decide)).mono ?_; rintro e w6 ⟨x6, rfl, _, _, hc6, hk6⟩; have hI6 : Inv g ao cap bs w A n d u w6 := Inv.keep (by first | exact hI4 | exact hI4.drew) hk6 hc6 hRg hA; obtain ⟨_, ⟨q0, q1, q2, q3, q4, q5, q6⟩, _, _⟩ := id hI6)
        | fail)
    all_goals (
      clear hI4 s0 s1 s2 s3 s4 s5 s6 q0 q1 q2 q3 q4 q5 q6
      go_wp2_with fail
      refine (once_any g ao cap bs 14 _ hI6.cur (by decide)).mono ?_
      rintro e w15 ⟨b5, rfl, hc15, hk15⟩
      have hI15 := hI6.keep hk15 hc15 hRg hA
      clear hc15 hk15
      cases b5
      · have hf := hI15.fin hgw
        obtain ⟨⟨r0, r1, r2, r3, r4, r5, r6⟩, ⟨s0, s1, s2, s3, s4, s5, s6⟩, hcf, hkf⟩ := hI15
        go_wp2_with fail
        exact bodyPost_ret (v := .tuple #[.agg #[.int .i64 n, .int .i64 d, .int .i64 u], .int .i64 (wrap64 (wrap64 (wrap64 (wrap64 ((wrap64 (u - 1)).tdiv 3) * 3) + 1) + x6))]) (by simp [results, Try.results6, go_sem, r1, r2, r3]) rfl
          ⟨_, _, _, _, rfl, ((hf.setCell (Nat.le_refl _) _).setCell (Nat.le_refl _) _).setCell (Nat.le_refl _) _⟩
      · go_wp2_with fail
        have hIa : Inv g ao cap bs w A n d u (w15.alloc (Obj.cells #[.int .i64 0, .int .i64 (-1), .int .i64 8, .int .i64 4611686018427387904] 2)) := hI15.below (bel_alloc _ _)
        refine (below_any g ao cap bs 4 _ hIa.cur (by decide)).mono ?_
        rintro e w20 ⟨i, rfl, hi0, hi1, hc20, hk20⟩
        have hI20 := hIa.keep hk20 hc20 hRg hA
        obtain ⟨m, rfl⟩ := Int.eq_ofNat_of_zero_le hi0
        obtain ⟨x, hx⟩ : ∃ x, w20.cell? ⟨w15.heap.size, m, none⟩ = some (.int .i64 x) := by
          have e := hk20.cell (b := w15.heap.size) (o := m) (by simp) (by have := hI15.cur.1; omega)
          rw [e]
          have hm' : m = 0 ∨ m = 1 ∨ m = 2 ∨ m = 3 := by omega
          have e2 := heap_alloc_new w15 (Obj.cells #[.int .i64 0, .int .i64 (-1), .int .i64 8, .int .i64 4611686018427387904] 2)
          rcases hm' with rfl | rfl | rfl | rfl <;> exact ⟨_, by simp only [World.cell?, e2]; rfl⟩
        clear hIa hI15
        have hf := hI20.fin hgw
        obtain ⟨⟨r0, r1, r2, r3, r4, r5, r6⟩, ⟨s0, s1, s2, s3, s4, s5, s6⟩, hcf, hkf⟩ := hI20
        go_wp2_with fail
        exact bodyPost_ret (v := .tuple #[.agg #[.int .i64 n, .int .i64 d, .int .i64 u], .int .i64 x]) (by simp [results, Try.results6, go_sem, r1, r2, r3]) rfl
          ⟨_, _, _, _, rfl, ((hf.setCell (Nat.le_refl _) _).setCell (Nat.le_refl _) _).setCell (Nat.le_refl _) _⟩)

/-- What holds between the draws of two amounts. -/
def Two (g : Nat) (ao : Option Addr) (cap : Nat) (bs : List Int) (w : World) (A B : Nat) (n d u m f v : Int) (W : World) : Prop :=
  Amt W w.heap.size 0 0 0 ∧ Amt W (w.heap.size + 1) 0 0 0 ∧ Amt W A n d u ∧ Amt W B m f v ∧ Cur W g ao cap bs ∧ Keep g w W
theorem Two.keep {g : Nat} {ao : Option Addr} {cap : Nat} {bs : List Int} {w W W' : World} {A B : Nat} {n d u m f v : Int} (h : Two g ao cap bs w A B n d u m f v W) (hk : Keep g W W') (hc : Cur W' g ao cap bs) (hg : w.heap.size + 2 = g) (hA : g < A) (hB : g < B) : Two g ao cap bs w A B n d u m f v W' :=
  ⟨h.1.keep hk (by omega), h.2.1.keep hk (by omega), h.2.2.1.keep hk (by omega), h.2.2.2.1.keep hk (by omega), hc, h.2.2.2.2.2.trans hk⟩
theorem Two.below {g : Nat} {ao : Option Addr} {cap : Nat} {bs : List Int} {w W W' : World} {A B : Nat} {n d u m f v : Int} (h : Two g ao cap bs w A B n d u m f v W) (hk : Below W.heap.size W W') : Two g ao cap bs w A B n d u m f v W' :=
  ⟨h.1.below hk, h.2.1.below hk, h.2.2.1.below hk, h.2.2.2.1.below hk, h.2.2.2.2.1.whole hk, h.2.2.2.2.2.trans (Keep.of_below hk)⟩
theorem Two.drew {g : Nat} {ao : Option Addr} {cap : Nat} {bs : List Int} {w W : World} {A B : Nat} {n d u m f v : Int} (h : Two g ao cap bs w A B n d u m f v W) : Two g ao cap bs w A B n d u m f v W.drew :=
  ⟨h.1, h.2.1, h.2.2.1, h.2.2.2.1, h.2.2.2.2.1, ⟨h.2.2.2.2.2.os, h.2.2.2.2.2.tape, h.2.2.2.2.2.output, h.2.2.2.2.2.size, h.2.2.2.2.2.block⟩⟩
theorem Two.cur {g : Nat} {ao : Option Addr} {cap : Nat} {bs : List Int} {w W : World} {A B : Nat} {n d u m f v : Int} (h : Two g ao cap bs w A B n d u m f v W) : Cur W g ao cap bs := h.2.2.2.2.1
theorem Two.setV {g : Nat} {ao : Option Addr} {cap : Nat} {bs : List Int} {w W : World} {A B : Nat} {n d u m f v : Int} (h : Two g ao cap bs w A B n d u m f v W) (hg : w.heap.size + 2 = g) (hB : g < B) (hAB : A < B) (x : Int) : Two g ao cap bs w A B n d u m f x (W.setCell ⟨B, 2, none⟩ (.int .i64 x)) :=
  ⟨h.1.far (by omega) _, h.2.1.far (by omega) _, h.2.2.1.far (by omega) _, h.2.2.2.1.set2 x, h.2.2.2.2.1.setNew hB _, h.2.2.2.2.2.setNew (by omega) _⟩
theorem bel_drew {B : Nat} {w W : World} (h : Below B w W) : Below B w W.drew := ⟨h.os, h.tape, h.output, h.size, h.block⟩
theorem Two.fin {g : Nat} {ao : Option Addr} {cap : Nat} {bs : List Int} {w W : World} {A B : Nat} {n d u m f v : Int} (h : Two g ao cap bs w A B n d u m f v W) (hg : w.heap.size + 2 = g) : Below w.heap.size w W := h.2.2.2.2.2.below (by omega) (Nat.le_refl _)

set_option maxHeartbeats 2000000 in
theorem dadd_any (ao : Option Addr) (cap : Nat) (bs : List Int) (w : World) (hb : Bytes w w.heap.size ao bs) (hl : bs.length ≤ 1048576) :
    Calls Try.prog 11 #[.slice ao bs.length cap] w fun e w' => ∃ n d u m f v : Int, e = .returned (.tuple #[.agg #[.int .i64 n, .int .i64 d, .int .i64 u], .agg #[.int .i64 m, .int .i64 f, .int .i64 v]]) ∧ Below w.heap.size w w' := by
  go_enter Try.func11, Try.ntmps11
  go_wp2_with fail
  have hm0 := Amt.new w 0 0 0
  have hz0 := bel_alloc w (Obj.cells #[.int .i64 0, .int .i64 0, .int .i64 0] 25)
  have hsz : (w.alloc (Obj.cells #[.int .i64 0, .int .i64 0, .int .i64 0] 25)).heap.size = w.heap.size + 1 := by simp
  generalize w.alloc (Obj.cells #[.int .i64 0, .int .i64 0, .int .i64 0] 25) = w00 at *
  have hn0 := Amt.new w00 0 0 0
  have hz1 := bel_alloc w00 (Obj.cells #[.int .i64 0, .int .i64 0, .int .i64 0] 25)
  have hsz1 : (w00.alloc (Obj.cells #[.int .i64 0, .int .i64 0, .int .i64 0] 25)).heap.size = w.heap.size + 2 := by simp; omega
  rw [hsz] at hn0
  have hm01 := hm0.below hz1
  generalize w00.alloc (Obj.cells #[.int .i64 0, .int .i64 0, .int .i64 0] 25) = w0 at *
  refine (new_any ao cap bs w0 (((hb.below hz0).below (hz1.mono (by omega))).up (by omega)) hl).mono ?_
  rintro e w1 ⟨rfl, hc1, hb1⟩
  have hm1 := hm01.below hb1
  have hn1 := hn0.below hb1
  have hk1 : Keep w0.heap.size w w1 := ((Keep.of_below hz0).trans (Keep.of_below hz1)).trans (Keep.of_below hb1)
  have hgw : w.heap.size + 2 = w0.heap.size := by omega
  clear hb1 hm0 hz0 hsz hb hz1 hsz1 hn0 hm01
  generalize w0.heap.size = g at *
  go_wp2_with fail
  refine (amount_any g ao cap bs w1 hc1).mono ?_
  rintro e w2 ⟨n, d, u, rfl, hc2, hk2⟩
  go_wp2_with fail
  have hmA := Amt.new w2 n d u
  have hbA := bel_alloc w2 (Obj.cells #[.int .i64 n, .int .i64 d, .int .i64 u] 25)
  have hm2 := (hm1.keep hk2 (by omega)).below hbA
  have hn2 := (hn1.keep hk2 (by omega)).below hbA
  have hgA : g < w2.heap.size := hc2.1
  have hc2' := hc2.whole hbA
  have hk2' := (hk1.trans hk2).trans (Keep.of_below hbA)
  generalize w2.alloc (Obj.cells #[.int .i64 n, .int .i64 d, .int .i64 u] 25) = w2' at *
  clear hm1 hn1 hc1 hk1 hk2 hc2 hbA
  refine (amount_any g ao cap bs w2' hc2').mono ?_
  rintro e w3 ⟨m, f, v, rfl, hc3, hk3⟩
  have hI : Two g ao cap bs w w2.heap.size w3.heap.size n d u m f v (w3.alloc (.cells #[.int .i64 m, .int .i64 f, .int .i64 v] 25)) :=
    ⟨(hm2.keep hk3 (by omega)).below (bel_alloc _ _), (hn2.keep hk3 (by omega)).below (bel_alloc _ _), (hmA.keep hk3 (by omega)).below (bel_alloc _ _), Amt.new w3 m f v, hc3.alloc _, (hk2'.trans hk3).alloc _⟩
  have hAB : w2.heap.size < w3.heap.size := Nat.lt_of_lt_of_le hmA.1 hk3.size
  have hgB : g < w3.heap.size := hc3.1
  clear hm2 hn2 hmA hk2' hk3 hc3 hc2'
  go_wp2_with fail
  refine (once_any g ao cap bs 2 _ hI.cur (by decide)).mono ?_
  rintro e w4 ⟨b4, rfl, hc4, hk4⟩
  have hI4 := hI.keep hk4 hc4 hgw hgA hgB
  clear hI hc4 hk4
  generalize w2.heap.size = A at *
  generalize w3.heap.size = B at *
  cases b4
  · have HH := hI4
    clear hI4
    have hf := HH.fin hgw
    obtain ⟨⟨r0, r1, r2, r3, r4, r5, r6⟩, ⟨p0, p1, p2, p3, p4, p5, p6⟩, ⟨s0, s1, s2, s3, s4, s5, s6⟩, ⟨y0, y1, y2, y3, y4, y5, y6⟩, hcf, hkf⟩ := HH
    go_wp2_with fail
    go_region_with (fail)
    all_goals go_wp2_with fail
    all_goals exact bodyPost_ret (v := .tuple #[.agg #[.int .i64 n, .int .i64 d, .int .i64 u], .agg #[.int .i64 m, .int .i64 f, .int .i64 v]]) (by simp [results, Try.results11, go_sem, r1, r2, r3, p1, p2, p3]) rfl ⟨_, _, _, _, _, _, rfl, bel_drew ((((((hf.setCell (Nat.le_refl _) _).setCell (Nat.le_refl _) _).setCell (Nat.le_refl _) _).setCell (by show _ ≤ _ + 1; omega) _).setCell (by show _ ≤ _ + 1; omega) _).setCell (by show _ ≤ _ + 1; omega) _)⟩
  · have H4 := id hI4
    obtain ⟨⟨r0, r1, r2, r3, r4, r5, r6⟩, ⟨p0, p1, p2, p3, p4, p5, p6⟩, ⟨s0, s1, s2, s3, s4, s5, s6⟩, ⟨y0, y1, y2, y3, y4, y5, y6⟩, hcf, hkf⟩ := H4
    go_wp2_with fail
    refine (sok_any n d u _).mono ?_
    rintro e w5 ⟨rfl, hb5⟩
    have hI5 := hI4.below hb5
    clear hI4 hb5 r0 r1 r2 r3 r4 r5 r6 p0 p1 p2 p3 p4 p5 p6 s0 s1 s2 s3 s4 s5 s6 y0 y1 y2 y3 y4 y5 y6 hcf hkf
    generalize okB n d u = b5
    cases b5
    · have hf := hI5.fin hgw
      obtain ⟨⟨r0, r1, r2, r3, r4, r5, r6⟩, ⟨p0, p1, p2, p3, p4, p5, p6⟩, ⟨s0, s1, s2, s3, s4, s5, s6⟩, ⟨y0, y1, y2, y3, y4, y5, y6⟩, hcf, hkf⟩ := hI5
      go_wp2_with fail
      go_region_with (fail)
      all_goals go_wp2_with fail
      all_goals exact bodyPost_ret (v := .tuple #[.agg #[.int .i64 n, .int .i64 d, .int .i64 u], .agg #[.int .i64 m, .int .i64 f, .int .i64 v]]) (by simp [results, Try.results11, go_sem, r1, r2, r3, p1, p2, p3]) rfl ⟨_, _, _, _, _, _, rfl, bel_drew ((((((hf.setCell (Nat.le_refl _) _).setCell (Nat.le_refl _) _).setCell (Nat.le_refl _) _).setCell (by show _ ≤ _ + 1; omega) _).setCell (by show _ ≤ _ + 1; omega) _).setCell (by show _ ≤ _ + 1; omega) _)⟩
    · have H5 := id hI5
      obtain ⟨⟨r0, r1, r2, r3, r4, r5, r6⟩, ⟨p0, p1, p2, p3, p4, p5, p6⟩, ⟨s0, s1, s2, s3, s4, s5, s6⟩, ⟨y0, y1, y2, y3, y4, y5, y6⟩, hcf, hkf⟩ := H5
      go_wp2_with fail
      refine (sok_any m f v _).mono ?_
      rintro e w6 ⟨rfl, hb6⟩
      have hI6 := hI5.below hb6
      clear hI5 hb6 r0 r1 r2 r3 r4 r5 r6 p0 p1 p2 p3 p4 p5 p6 s0 s1 s2 s3 s4 s5 s6 y0 y1 y2 y3 y4 y5 y6 hcf hkf
      generalize okB m f v = b6
      cases b6
      · have hf := hI6.fin hgw
        obtain ⟨⟨r0, r1, r2, r3, r4, r5, r6⟩, ⟨p0, p1, p2, p3, p4, p5, p6⟩, ⟨s0, s1, s2, s3, s4, s5, s6⟩, ⟨y0, y1, y2, y3, y4, y5, y6⟩, hcf, hkf⟩ := hI6
        go_wp2_with fail
        go_region_with (fail)
        all_goals go_wp2_with fail
        all_goals exact bodyPost_ret (v := .tuple #[.agg #[.int .i64 n, .int .i64 d, .int .i64 u], .agg #[.int .i64 m, .int .i64 f, .int .i64 v]]) (by simp [results, Try.results11, go_sem, r1, r2, r3, p1, p2, p3]) rfl ⟨_, _, _, _, _, _, rfl, bel_drew ((((((hf.setCell (Nat.le_refl _) _).setCell (Nat.le_refl _) _).setCell (Nat.le_refl _) _).setCell (by show _ ≤ _ + 1; omega) _).setCell (by show _ ≤ _ + 1; omega) _).setCell (by show _ ≤ _ + 1; omega) _)⟩
      · have H6 := id hI6
        obtain ⟨⟨r0, r1, r2, r3, r4, r5, r6⟩, ⟨p0, p1, p2, p3, p4, p5, p6⟩, ⟨s0, s1, s2, s3, s4, s5, s6⟩, ⟨y0, y1, y2, y3, y4, y5, y6⟩, hcf, hkf⟩ := H6
        go_wp2_with fail
        go_region_with (first
          | (go_at_call 20; refine (below_any g ao cap bs _ _ (Two.cur (A := A) (B := B) (n := n) (d := d) (u := u) (m := m) (f := f) (v := v) (w := w) (by first | exact hI6 | exact hI6.drew)) (by decide)).mono ?_; rintro e w7 ⟨x7, rfl, _, _, hc7, hk7⟩; have hI7 : Two g ao cap bs w A B n d u m f v w7 := Two.keep (by first | exact hI6 | exact hI6.drew) hk7 hc7 hgw hgA hgB; clear r0 r1 r2 r3 r4 r5 r6 p0 p1 p2 p3 p4 p5 p6 s0 s1 s2 s3 s4 s5 s6 y0 y1 y2 y3 y4 y5 y6 hcf hkf; have H7 := id hI7; obtain ⟨⟨r0, r1, r2, r3, r4, r5, r6⟩, ⟨p0, p1, p2, p3, p4, p5, p6⟩, ⟨s0, s1, s2, s3, s4, s5, s6⟩, ⟨y0, y1, y2, y3, y4, y5, y6⟩, hcf, hkf⟩ := H7)
          | fail)
        all_goals (
          clear hI6 r0 r1 r2 r3 r4 r5 r6 p0 p1 p2 p3 p4 p5 p6 s0 s1 s2 s3 s4 s5 s6 y0 y1 y2 y3 y4 y5 y6 hcf hkf
          have hI8 := hI7.setV hgw hgB hAB (IntKind.i64.wrap (IntKind.i64.wrap (IntKind.i64.wrap (IntKind.i64.wrap ((IntKind.i64.wrap (u - 1)).tdiv 3) * 3) + 1) + x7))
          clear hI7
          generalize (IntKind.i64.wrap (IntKind.i64.wrap (IntKind.i64.wrap (IntKind.i64.wrap ((IntKind.i64.wrap (u - 1)).tdiv 3) * 3) + 1) + x7)) = V at hI8 ⊢
          generalize w7.setCell ⟨B, 2, none⟩ (.int .i64 V) = W8 at hI8 ⊢
          by_cases hu : u = 7
          · have hI9 := hI8.setV hgw hgB hAB u
            have H8 := id hI8
            obtain ⟨⟨r0, r1, r2, r3, r4, r5, r6⟩, ⟨p0, p1, p2, p3, p4, p5, p6⟩, ⟨s0, s1, s2, s3, s4, s5, s6⟩, ⟨y0, y1, y2, y3, y4, y5, y6⟩, hcf, hkf⟩ := H8
            go_wp2_with fail
            clear hI8 r0 r1 r2 r3 r4 r5 r6 p0 p1 p2 p3 p4 p5 p6 s0 s1 s2 s3 s4 s5 s6 y0 y1 y2 y3 y4 y5 y6 hcf hkf
            subst hu
            generalize W8.setCell ⟨B, 2, none⟩ (.int .i64 7) = W9 at hI9 ⊢
            have hf := hI9.fin hgw
            obtain ⟨⟨r0, r1, r2, r3, r4, r5, r6⟩, ⟨p0, p1, p2, p3, p4, p5, p6⟩, ⟨s0, s1, s2, s3, s4, s5, s6⟩, ⟨y0, y1, y2, y3, y4, y5, y6⟩, hcf, hkf⟩ := hI9
            go_wp2_with fail
            go_region_with (fail)
            all_goals go_wp2_with fail
            all_goals exact bodyPost_ret (v := .tuple #[.agg #[.int .i64 n, .int .i64 d, .int .i64 7], .agg #[.int .i64 m, .int .i64 f, .int .i64 7]]) (by simp [results, Try.results11, go_sem, r1, r2, r3, p1, p2, p3]) rfl ⟨_, _, _, _, _, _, rfl, bel_drew ((((((hf.setCell (Nat.le_refl _) _).setCell (Nat.le_refl _) _).setCell (Nat.le_refl _) _).setCell (by show _ ≤ _ + 1; omega) _).setCell (by show _ ≤ _ + 1; omega) _).setCell (by show _ ≤ _ + 1; omega) _)⟩
          · have H8 := id hI8
            obtain ⟨⟨r0, r1, r2, r3, r4, r5, r6⟩, ⟨p0, p1, p2, p3, p4, p5, p6⟩, ⟨s0, s1, s2, s3, s4, s5, s6⟩, ⟨y0, y1, y2, y3, y4, y5, y6⟩, hcf, hkf⟩ := H8
            go_wp2_with fail
            clear r0 r1 r2 r3 r4 r5 r6 p0 p1 p2 p3 p4 p5 p6 s0 s1 s2 s3 s4 s5 s6 y0 y1 y2 y3 y4 y5 y6 hcf hkf
            have hf := hI8.fin hgw
            obtain ⟨⟨r0, r1, r2, r3, r4, r5, r6⟩, ⟨p0, p1, p2, p3, p4, p5, p6⟩, ⟨s0, s1, s2, s3, s4, s5, s6⟩, ⟨y0, y1, y2, y3, y4, y5, y6⟩, hcf, hkf⟩ := hI8
            go_region_with (fail)
            all_goals go_wp2_with fail
            all_goals exact bodyPost_ret (v := .tuple #[.agg #[.int .i64 n, .int .i64 d, .int .i64 u], .agg #[.int .i64 m, .int .i64 f, .int .i64 V]]) (by simp [results, Try.results11, go_sem, r1, r2, r3, p1, p2, p3]) rfl ⟨_, _, _, _, _, _, rfl, bel_drew ((((((hf.setCell (Nat.le_refl _) _).setCell (Nat.le_refl _) _).setCell (Nat.le_refl _) _).setCell (by show _ ≤ _ + 1; omega) _).setCell (by show _ ≤ _ + 1; omega) _).setCell (by show _ ≤ _ + 1; omega) _)⟩)
end Go.Proofs.Ytiopmlepdjiapaa
