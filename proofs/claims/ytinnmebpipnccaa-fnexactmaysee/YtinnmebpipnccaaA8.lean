/-
  The law's own helpers on rules: sizes, copies, sameness; rules read as they came in.
-/
import Derived.Test.YtinnmebpipnccaaA7
import Derived.Test.YtinnmebpipnccaaGx
import Derived.Laws.ResultCell
import Derived.Deep.CutBlock
namespace Go.Proofs.Ytinnmebpipnccaa
open Go.RowKit Va Ax Go.WideShapes
set_option linter.all false

theorem ontoA {b : Nat} {w w1 w2 : World} (h1 : Below b w w1) (h2 : Below w1.heap.size w1 w2) (hb : b ≤ w1.heap.size) : Below b w w2 := h1.trans (h2.mono hb)
theorem VOwn.far {α : Type} {s : Nat} {cs : α → Nat → Value} {w : World} {base B : Nat} {v : Value} {l : List α} (h : VOwn s cs w base v l) (hB : B < base) (j : Nat) (u : Value) : VOwn s cs (w.setCell ⟨B, j, none⟩ u) base v l := by
  obtain ⟨ao, cap, rfl, hc, hh⟩ := h
  refine ⟨ao, cap, rfl, hc, hh.imp_right ?_⟩
  rintro ⟨G, rfl, hG, h1, h2, h3⟩
  have e : ∀ o, (w.setCell ⟨B, j, none⟩ u).cell? ⟨G, o, none⟩ = w.cell? ⟨G, o, none⟩ := fun o => World.cell?_setCell_far _ _ _ _ (by show B ≠ G; omega)
  exact ⟨G, rfl, hG, by simpa [World.setCell] using h1, fun i hi => ⟨by rw [e]; exact (h2 i hi).1, by rw [World.frozen?_setCell]; exact (h2 i hi).2⟩, fun i x hi hx k hk => by rw [e]; exact h3 i x hi hx k hk⟩
theorem results_c0 {fn : Func} {p : Tmp} {ty : TypeId} (h : fn.results = #[.cell p ty]) (tmps : Array Value) (P : Program) (w : World) :
    (results fn tmps).run P w = ((asAddr (tmps.getD p undef)).run P w).andThen fun a w₁ => (loadVar ty a).run P w₁ := by
  simp only [results, h]
  simp [Sem.run_bind, Result.andThen]
theorem results_c {P : Program} {fn : Func} {p : Tmp} {ty : TypeId} (h : fn.results = #[.cell p ty]) (tmps : Array Value) (w : World) (g : Nat) (t : TypeId) (cs : Array Value) (d : TypeDesc)
    (hp : tmps.getD p undef = .pointer (some ⟨g, 0, none⟩)) (hg : PB w g cs t) (hu : P.underlying ty = some d) (hd : (match d with | .struct _ | .array _ _ => true | _ => false) = true) (hi : (P.info? ty).map (·.size) = some cs.size) :
    (results fn tmps).run P w = .ok (.agg cs) w := by
  have hl := run_loadVar_row (P := P) w g t ty cs _ d hg hu hd hi
  rw [results_c0 h, hp]
  simp [asAddr, hl, Result.andThen]

set_option maxRecDepth 20000 in
set_option maxHeartbeats 8000000 in
theorem torules_any (ag : Option Addr) (ng cg : Nat) (ac : Option Addr) (nc cc : Nat) (ar : Option Addr) (nr cr : Nat) (G : List Gr) (C : List Cr) (R : List Rf) (w : World) (hG : VRw 2 cvGr w (.slice ag ng cg) G) (hC : VRw 4 cvCr w (.slice ac nc cc) C) (hR : VRw 2 cvRf w (.slice ar nr cr) R) (lG : G.length ≤ 1048576) (lC : C.length ≤ 1048576) (lR : R.length ≤ 1048576) :
    Calls Try.prog 15 #[.agg #[.slice ag ng cg, .slice ac nc cc, .slice ar nr cr]] w fun e w' => ∃ (a2 : Option Addr) (c2 : Nat) (a3 : Option Addr) (c3 : Nat) (a4 : Option Addr) (c4 : Nat), e = .returned (.agg #[.slice a2 G.length c2, .slice a3 C.length c3, .slice a4 R.length c4]) ∧ (VRw 2 cvGr w' (.slice a2 G.length c2) G ∧ VRw 4 cvCr w' (.slice a3 C.length c3) C ∧ VRw 2 cvRf w' (.slice a4 R.length c4) R) ∧ Below w.heap.size w w' := by
  obtain rfl := hG.len
  obtain rfl := hC.len
  obtain rfl := hR.len
  have hb0 : Below w.heap.size w (((w.alloc (.cells #[.slice ag G.length cg, .slice ac C.length cc, .slice ar R.length cr] 33)).alloc (.cells #[.slice none 0 0, .slice none 0 0, .slice none 0 0] 40)).alloc (.cells #[.slice none 0 0, .slice none 0 0, .slice none 0 0] 40)) := (((Below.refl _ _).alloc (Nat.le_refl _) _).alloc (by simp) _).alloc (by simp; omega) _
  have P0 := ((PB.new w #[.slice ag G.length cg, .slice ac C.length cc, .slice ar R.length cr] 33).alloc (.cells #[.slice none 0 0, .slice none 0 0, .slice none 0 0] 40)).alloc (.cells #[.slice none 0 0, .slice none 0 0, .slice none 0 0] 40)
  have P1 := (PB.new (w.alloc (.cells #[.slice ag G.length cg, .slice ac C.length cc, .slice ar R.length cr] 33)) #[.slice none 0 0, .slice none 0 0, .slice none 0 0] 40).alloc (.cells #[.slice none 0 0, .slice none 0 0, .slice none 0 0] 40)
  have P2 := PB.new ((w.alloc (.cells #[.slice ag G.length cg, .slice ac C.length cc, .slice ar R.length cr] 33)).alloc (.cells #[.slice none 0 0, .slice none 0 0, .slice none 0 0] 40)) #[.slice none 0 0, .slice none 0 0, .slice none 0 0] 40
  simp only [World.size_alloc] at P0 P1 P2
  have HG := hidden (hG.below hb0)
  have HC := hidden hC
  have HR := hidden hR
  have hsz : (((w.alloc (.cells #[.slice ag G.length cg, .slice ac C.length cc, .slice ar R.length cr] 33)).alloc (.cells #[.slice none 0 0, .slice none 0 0, .slice none 0 0] 40)).alloc (.cells #[.slice none 0 0, .slice none 0 0, .slice none 0 0] 40)).heap.size = w.heap.size + 1 + 1 + 1 := by simp
  clear hG hC hR
  go_enter Try.func15, Try.ntmps15
  go_upto_region 2 with fail
  generalize ((w.alloc (.cells #[.slice ag G.length cg, .slice ac C.length cc, .slice ar R.length cr] 33)).alloc (.cells #[.slice none 0 0, .slice none 0 0, .slice none 0 0] 40)).alloc (.cells #[.slice none 0 0, .slice none 0 0, .slice none 0 0] 40) = wC at *
  generalize Value.agg #[.slice ag G.length cg, .slice ac C.length cc, .slice ar R.length cr] = av
  obtain ⟨p0, p1, p2⟩ := P0.three
  obtain ⟨r0, r1, r2⟩ := P2.three
  have f0 := P2.frozen 0
  go_wp2_with fail
  refine (togrs_any _ G wC HG.out lG).mono ?_
  rintro e w1 ⟨v2, rfl, hv2, hb1⟩
  obtain ⟨a2, c2, rfl⟩ := hv2.row.form
  have Q0 := P0.below hb1
  have Q1 := P1.below hb1
  have Q2 := P2.below hb1
  have B1 := ontoA hb0 hb1 hb0.size
  have hz1 := hb1.size
  clear p0 p1 p2 r0 r1 r2 f0
  obtain ⟨r0, r1, r2⟩ := Q2.three
  have f0 := Q2.frozen 0
  have S0 := Q0.far (b := w.heap.size + 1 + 1) (by omega) 0 (.slice a2 G.length c2)
  have S1 := Q1.far (b := w.heap.size + 1 + 1) (by omega) 0 (.slice a2 G.length c2)
  have S2 := Q2.put 0 (.slice a2 G.length c2) (vs' := #[.slice a2 G.length c2, .slice none 0 0, .slice none 0 0]) (by simp)
  have V2 := hv2.far (B := w.heap.size + 1 + 1) (by omega) 0 (.slice a2 G.length c2)
  have B2 : Below w.heap.size w (w1.setCell ⟨w.heap.size + 1 + 1, 0, none⟩ (.slice a2 G.length c2)) := B1.setCell (p := ⟨w.heap.size + 1 + 1, 0, none⟩) (by show w.heap.size ≤ w.heap.size + 1 + 1; omega) _
  have hz2 : (w1.setCell ⟨w.heap.size + 1 + 1, 0, none⟩ (.slice a2 G.length c2)).heap.size = w1.heap.size := by simp [World.setCell]
  clear Q0 Q1 Q2 P0 P1 P2 hb1 hv2
  go_upto_region 3 with fail
  generalize w1.setCell ⟨w.heap.size + 1 + 1, 0, none⟩ (.slice a2 G.length c2) = w2 at *
  clear r0 r1 r2 f0
  have HC2 := hidden (HC.out.below B2)
  obtain ⟨p0, p1, p2⟩ := S0.three
  go_wp2_with fail
  refine (tocrs_any _ C w2 HC2.out lC).mono ?_
  rintro e w3 ⟨v3, rfl, hv3, hb3⟩
  obtain ⟨a3, c3, rfl⟩ := hv3.row.form
  have T0 := S0.below hb3
  have T1 := S1.below hb3
  have T2 := S2.below hb3
  have V3 := V2.below hb3
  have B3 := ontoA B2 hb3 B2.size
  have hz3 := hb3.size
  clear p0 p1 p2
  obtain ⟨r0, r1, r2⟩ := T2.three
  have f1 := T2.frozen 1
  have U0 := T0.far (b := w.heap.size + 1 + 1) (by omega) 1 (.slice a3 C.length c3)
  have U1 := T1.far (b := w.heap.size + 1 + 1) (by omega) 1 (.slice a3 C.length c3)
  have U2 := T2.put 1 (.slice a3 C.length c3) (vs' := #[.slice a2 G.length c2, .slice a3 C.length c3, .slice none 0 0]) (by simp)
  have V4 := V3.far (B := w.heap.size + 1 + 1) (by omega) 1 (.slice a3 C.length c3)
  have X4 := hv3.far (B := w.heap.size + 1 + 1) (by omega) 1 (.slice a3 C.length c3)
  have B4 : Below w.heap.size w (w3.setCell ⟨w.heap.size + 1 + 1, 1, none⟩ (.slice a3 C.length c3)) := B3.setCell (p := ⟨w.heap.size + 1 + 1, 1, none⟩) (by show w.heap.size ≤ w.heap.size + 1 + 1; omega) _
  have hz4 : (w3.setCell ⟨w.heap.size + 1 + 1, 1, none⟩ (.slice a3 C.length c3)).heap.size = w3.heap.size := by simp [World.setCell]
  clear T0 T1 T2 S0 S1 S2 hb3 hv3 V2 V3 B2 B3
  go_upto_region 4 with fail
  generalize w3.setCell ⟨w.heap.size + 1 + 1, 1, none⟩ (.slice a3 C.length c3) = w4 at *
  clear r0 r1 r2 f1
  have HR4 := hidden (HR.out.below B4)
  obtain ⟨p0, p1, p2⟩ := U0.three
  go_wp2_with fail
  refine (torfs_any _ R w4 HR4.out lR).mono ?_
  rintro e w5 ⟨v4, rfl, hv4, hb5⟩
  obtain ⟨a4, c4, rfl⟩ := hv4.row.form
  have T1 := U1.below hb5
  have T2 := U2.below hb5
  have V5 := V4.below hb5
  have X5 := X4.below hb5
  have B5 := ontoA B4 hb5 B4.size
  clear p0 p1 p2
  obtain ⟨r0, r1, r2⟩ := T2.three
  have f1 := T2.frozen 2
  have Y1 := T1.far (b := w.heap.size + 1 + 1) (by omega) 2 (.slice a4 R.length c4)
  have Y2 := T2.put 2 (.slice a4 R.length c4) (vs' := #[.slice a2 G.length c2, .slice a3 C.length c3, .slice a4 R.length c4]) (by simp)
  have V6 := V5.far (B := w.heap.size + 1 + 1) (by omega) 2 (.slice a4 R.length c4)
  have X6 := X5.far (B := w.heap.size + 1 + 1) (by omega) 2 (.slice a4 R.length c4)
  have Z6 := hv4.far (B := w.heap.size + 1 + 1) (by omega) 2 (.slice a4 R.length c4)
  have B6 : Below w.heap.size w (w5.setCell ⟨w.heap.size + 1 + 1, 2, none⟩ (.slice a4 R.length c4)) := B5.setCell (p := ⟨w.heap.size + 1 + 1, 2, none⟩) (by show w.heap.size ≤ w.heap.size + 1 + 1; omega) _
  clear T1 T2 U0 U1 U2 hb5 hv4 V4 V5 X4 X5 B4 B5
  go_upto_region 5 with fail
  generalize w5.setCell ⟨w.heap.size + 1 + 1, 2, none⟩ (.slice a4 R.length c4) = w6 at *
  clear r0 r1 r2 f1
  obtain ⟨r0, r1, r2⟩ := Y2.three
  obtain ⟨q0, q1, q2⟩ := Y1.three
  have g0 := Y1.frozen 0
  have g1 := Y1.frozen 1
  have g2 := Y1.frozen 2
  have HW := hidden (((Y1.put 0 (.slice a2 G.length c2) (vs' := #[.slice a2 G.length c2, .slice none 0 0, .slice none 0 0]) (by simp)).put 1 (.slice a3 C.length c3) (vs' := #[.slice a2 G.length c2, .slice a3 C.length c3, .slice none 0 0]) (by simp)).put 2 (.slice a4 R.length c4) (vs' := #[.slice a2 G.length c2, .slice a3 C.length c3, .slice a4 R.length c4]) (by simp))
  have V7 := hidden (((V6.far (B := w.heap.size + 1) (by omega) 0 (.slice a2 G.length c2)).far (B := w.heap.size + 1) (by omega) 1 (.slice a3 C.length c3)).far (B := w.heap.size + 1) (by omega) 2 (.slice a4 R.length c4))
  have X7 := hidden (((X6.far (B := w.heap.size + 1) (by omega) 0 (.slice a2 G.length c2)).far (B := w.heap.size + 1) (by omega) 1 (.slice a3 C.length c3)).far (B := w.heap.size + 1) (by omega) 2 (.slice a4 R.length c4))
  have Z7 := hidden (((Z6.far (B := w.heap.size + 1) (by omega) 0 (.slice a2 G.length c2)).far (B := w.heap.size + 1) (by omega) 1 (.slice a3 C.length c3)).far (B := w.heap.size + 1) (by omega) 2 (.slice a4 R.length c4))
  have B7 := hidden (((B6.setCell (p := ⟨w.heap.size + 1, 0, none⟩) (by show w.heap.size ≤ w.heap.size + 1; omega) (.slice a2 G.length c2)).setCell (p := ⟨w.heap.size + 1, 1, none⟩) (by show w.heap.size ≤ w.heap.size + 1; omega) (.slice a3 C.length c3)).setCell (p := ⟨w.heap.size + 1, 2, none⟩) (by show w.heap.size ≤ w.heap.size + 1; omega) (.slice a4 R.length c4))
  clear V6 X6 Z6 B6 Y1 Y2 B1
  go_wp2_with fail
  try simp only [Exit.inBlock, Exit.then]
  exact bodyPost_ret (results_c Try.results15 _ _ (w.heap.size + 1) 40 _ _ rfl HW.out Try.underlying40 rfl (by kernel_rfl)) rfl ⟨a2, c2, a3, c3, a4, c4, rfl, ⟨V7.out.row, X7.out.row, Z7.out.row⟩, B7.out⟩

set_option maxRecDepth 20000 in
set_option maxHeartbeats 2000000 in
theorem szrules_any (ag : Option Addr) (ng cg : Nat) (ac : Option Addr) (nc cc : Nat) (ar : Option Addr) (nr cr : Nat) (w : World) (hg : (ng : Int) ≤ 9223372036854775807) (hc : (nc : Int) ≤ 9223372036854775807) (hr : (nr : Int) ≤ 9223372036854775807) :
    Calls Try.prog 13 #[.agg #[.slice ag ng cg, .slice ac nc cc, .slice ar nr cr], .int .i64 1048576] w fun e w' => ∃ r : Int, e = .returned (.int .i64 r) ∧ (r < 0 ∨ (0 ≤ r ∧ ng ≤ 1048576 ∧ nc ≤ 1048576 ∧ nr ≤ 1048576)) ∧ Below w.heap.size w w' := by
  have h1 := fun W => szgrs_any ag ng cg 1048576 W hg (by omega) (by omega)
  by_cases q : (1048576 : Int) < (ng : Int)
  · rw [if_pos q] at h1
    go_enter Try.func13, Try.ntmps13
    go_wp2_with (go_at_call 32; refine (h1 _).mono ?_; rintro e w1 ⟨rfl, rfl⟩)
    go_ret
    exact ⟨-1, rfl, .inl (by omega), by repeat (first | exact Below.refl _ _ | assumption | refine st_drew ?_ | refine st_drewN ?_ _ | refine Below.setCell ?_ (by first | omega | (simp; done) | (simp; omega)) _ | refine Below.alloc ?_ (by first | omega | (simp; done) | (simp; omega)) _)⟩
  rw [if_neg q] at h1
  have hq : ¬ (1048576 : Int) - ng < 0 := by omega
  have h2 := fun W => szcrs_any ac nc cc (1048576 - ng) W hc (by omega) (by omega)
  by_cases q2 : (1048576 : Int) - ng < (nc : Int)
  · rw [if_pos q2] at h2
    go_enter Try.func13, Try.ntmps13
    go_wp2_with (first | (go_at_call 32; refine (h1 _).mono ?_; rintro e w1 ⟨rfl, rfl⟩) | (go_at_call 33; refine (h2 _).mono ?_; rintro e w1 ⟨rfl, rfl⟩))
    go_ret
    exact ⟨-1, rfl, .inl (by omega), by repeat (first | exact Below.refl _ _ | assumption | refine st_drew ?_ | refine st_drewN ?_ _ | refine Below.setCell ?_ (by first | omega | (simp; done) | (simp; omega)) _ | refine Below.alloc ?_ (by first | omega | (simp; done) | (simp; omega)) _)⟩
  rw [if_neg q2] at h2
  have hq2 : ¬ (1048576 : Int) - ng - nc < 0 := by omega
  have h3 := fun W => szrfs_any ar nr cr (1048576 - ng - nc) W hr (by omega) (by omega)
  by_cases q3 : (1048576 : Int) - ng - nc < (nr : Int)
  · rw [if_pos q3] at h3
    go_enter Try.func13, Try.ntmps13
    go_wp2_with (first | (go_at_call 32; refine (h1 _).mono ?_; rintro e w1 ⟨rfl, rfl⟩) | (go_at_call 33; refine (h2 _).mono ?_; rintro e w1 ⟨rfl, rfl⟩) | (go_at_call 34; refine (h3 _).mono ?_; rintro e w1 ⟨rfl, rfl⟩))
    go_ret
    exact ⟨-1, rfl, .inl (by omega), by repeat (first | exact Below.refl _ _ | assumption | refine st_drew ?_ | refine st_drewN ?_ _ | refine Below.setCell ?_ (by first | omega | (simp; done) | (simp; omega)) _ | refine Below.alloc ?_ (by first | omega | (simp; done) | (simp; omega)) _)⟩
  rw [if_neg q3] at h3
  have hq3 : ¬ (1048576 : Int) - ng - nc - nr < 0 := by omega
  go_enter Try.func13, Try.ntmps13
  go_wp2_with (first | (go_at_call 32; refine (h1 _).mono ?_; rintro e w1 ⟨rfl, rfl⟩) | (go_at_call 33; refine (h2 _).mono ?_; rintro e w1 ⟨rfl, rfl⟩) | (go_at_call 34; refine (h3 _).mono ?_; rintro e w1 ⟨rfl, rfl⟩))
  go_ret
  exact ⟨1048576 - ng - nc - nr, rfl, .inr ⟨by omega, by omega, by omega, by omega⟩, by repeat (first | exact Below.refl _ _ | assumption | refine st_drew ?_ | refine st_drewN ?_ _ | refine Below.setCell ?_ (by first | omega | (simp; done) | (simp; omega)) _ | refine Below.alloc ?_ (by first | omega | (simp; done) | (simp; omega)) _)⟩

set_option maxRecDepth 20000 in
set_option maxHeartbeats 4000000 in
theorem eqrules_any (g1 c1 r1 g2 c2 r2 : Value) (G : List Gr) (C : List Cr) (R : List Rf) (w : World) (h1 : VRw 2 cvGr w g1 G) (h2 : VRw 4 cvCr w c1 C) (h3 : VRw 2 cvRf w r1 R) (k1 : VRw 2 cvGr w g2 G) (k2 : VRw 4 cvCr w c2 C) (k3 : VRw 2 cvRf w r2 R) (lG : G.length ≤ 1048576) (lC : C.length ≤ 1048576) (lR : R.length ≤ 1048576) :
    Calls Try.prog 17 #[.agg #[g1, c1, r1], .agg #[g2, c2, r2]] w fun e w' => e = .returned (.bool true) ∧ Below w.heap.size w w' := by
  have HE := hidden (fun W (hW : Below w.heap.size w W) => eqgrs_any g1 g2 G W (h1.below hW) (k1.below hW) lG)
  have HF := hidden (fun W (hW : Below w.heap.size w W) => eqcrs_any c1 c2 C W (h2.below hW) (k2.below hW) lC)
  have HK := hidden (fun W (hW : Below w.heap.size w W) => eqrfs_any r1 r2 R W (h3.below hW) (k3.below hW) lR)
  obtain ⟨b1, d1, rfl⟩ := h1.form
  obtain ⟨b2, d2, rfl⟩ := h2.form
  obtain ⟨b3, d3, rfl⟩ := h3.form
  obtain ⟨b4, d4, rfl⟩ := k1.form
  obtain ⟨b5, d5, rfl⟩ := k2.form
  obtain ⟨b6, d6, rfl⟩ := k3.form
  have hb0 : Below w.heap.size w ((w.alloc (.cells #[.slice b1 G.length d1, .slice b2 C.length d2, .slice b3 R.length d3] 40)).alloc (.cells #[.slice b4 G.length d4, .slice b5 C.length d5, .slice b6 R.length d6] 40)) := ((Below.refl _ _).alloc (Nat.le_refl _) _).alloc (by simp) _
  have P0 := (PB.new w #[.slice b1 G.length d1, .slice b2 C.length d2, .slice b3 R.length d3] 40).alloc (.cells #[.slice b4 G.length d4, .slice b5 C.length d5, .slice b6 R.length d6] 40)
  have P1 := PB.new (w.alloc (.cells #[.slice b1 G.length d1, .slice b2 C.length d2, .slice b3 R.length d3] 40)) #[.slice b4 G.length d4, .slice b5 C.length d5, .slice b6 R.length d6] 40
  simp only [World.size_alloc] at P1
  clear h1 h2 h3 k1 k2 k3
  go_enter Try.func17, Try.ntmps17
  go_upto_region 1 with fail
  generalize (w.alloc (.cells #[.slice b1 G.length d1, .slice b2 C.length d2, .slice b3 R.length d3] 40)).alloc (.cells #[.slice b4 G.length d4, .slice b5 C.length d5, .slice b6 R.length d6] 40) = w1 at *
  obtain ⟨p0, p1, p2⟩ := P0.three
  obtain ⟨q0, q1, q2⟩ := P1.three
  go_upto_region 3 with (go_at_call 44; with_reducible refine (HE.out _ hb0).mono ?_; rintro e w2 ⟨rfl, hb2⟩; have bA := ontoA hb0 hb2 hb0.size; have P02 := P0.below hb2; have P12 := P1.below hb2; clear hb2)
  clear p0 p1 p2 q0 q1 q2 P0 P1 hb0
  obtain ⟨p0, p1, p2⟩ := P02.three
  obtain ⟨q0, q1, q2⟩ := P12.three
  go_upto_region 5 with (go_at_call 45; with_reducible refine (HF.out _ bA).mono ?_; rintro e w3 ⟨rfl, hb2⟩; have bB := ontoA bA hb2 bA.size; have P03 := P02.below hb2; have P13 := P12.below hb2; clear hb2)
  clear p0 p1 p2 q0 q1 q2 P02 P12 bA
  obtain ⟨p0, p1, p2⟩ := P03.three
  obtain ⟨q0, q1, q2⟩ := P13.three
  go_wp2_with (go_at_call 46; with_reducible refine (HK.out _ bB).mono ?_; rintro e w4 ⟨rfl, hb2⟩; have bC := ontoA bB hb2 bB.size; clear hb2)
  go_ret
  exact ⟨rfl, bC⟩

theorem slice_of_trod {H : Type} {enc : TypeId × Value → H} {P : Program} {W : World} {sp : Nat → Bool} {hd : Bool} {t e : TypeId} {fuel : Nat} {v : Value} {x : DataW H × List MemPlace}
    (ht : P.underlying t = some (.slice e)) (h : DataW.trod enc P W 0 sp hd fuel t [v] = some x) : ∃ ao n cap, v = .slice ao n cap ∧ DataW.Trod enc P W 0 sp hd t (.slice ao n cap) x.1 x.2 := by
  have hv : ∃ ao n cap, v = .slice ao n cap := by
    rcases Deep.open_slice ht h with ⟨h1, _⟩ | ⟨a, ln, c, m, n, D, Pl, h1, _⟩
    · simp at h1; exact ⟨none, 0, 0, h1⟩
    · simp at h1; exact ⟨some a, ln, c, h1⟩
  obtain ⟨ao, n, cap, rfl⟩ := hv
  exact ⟨ao, n, cap, rfl, fuel, h⟩

set_option maxRecDepth 100000 in
theorem fsRules : ∃ fs, Try.prog.underlying 33 = some (.struct fs) ∧ ∃ f g h, (fs[0]? = some f ∧ f.offset = 0 ∧ Try.prog.cellsOf f.type = 1 ∧ f.type = 29) ∧ (fs[1]? = some g ∧ g.offset = 1 ∧ Try.prog.cellsOf g.type = 1 ∧ g.type = 30) ∧ (fs[2]? = some h ∧ h.offset = 2 ∧ Try.prog.cellsOf h.type = 1 ∧ h.type = 31) :=
  ⟨_, Try.underlying33, _, _, _, ⟨rfl, rfl, by kernel_rfl, rfl⟩, ⟨rfl, rfl, by kernel_rfl, rfl⟩, ⟨rfl, rfl, by kernel_rfl, rfl⟩⟩
theorem array3A {α : Type} {cs : Array α} (h : cs.size = 3) : ∃ c0 c1 c2, cs = #[c0, c1, c2] := by
  obtain ⟨l⟩ := cs
  match l, h with
  | [c0, c1, c2], _ => exact ⟨c0, c1, c2, rfl⟩

set_option maxRecDepth 100000 in
theorem rules_of_read {H : Type} {enc : TypeId × Value → H} {W : World} {sp : Nat → Bool} {hd : Bool} {r : Reach} {b0 : Nat} {v : Value} {d : DataW H} {p : List MemPlace}
    (hv : Value.okWide Try.prog W r b0 33 v) (h : DataW.Trod enc Try.prog W 0 sp hd 33 v d p) : ∃ (ag : Option Addr) (cg : Nat) (ac : Option Addr) (cc : Nat) (ar : Option Addr) (cr : Nat) (G : List Gr) (C : List Cr) (R : List Rf), v = .agg #[.slice ag G.length cg, .slice ac C.length cc, .slice ar R.length cr] ∧ (G.length ≤ maxLen ∧ C.length ≤ maxLen ∧ R.length ≤ maxLen) ∧ VRw 2 cvGr W (.slice ag G.length cg) G ∧ VRw 4 cvCr W (.slice ac C.length cc) C ∧ VRw 2 cvRf W (.slice ar R.length cr) R := by
  obtain ⟨fs, hu, f, g, h', ⟨f1, f2, f3, f4⟩, ⟨g1, g2, g3, g4⟩, ⟨k1, k2, k3, k4⟩⟩ := fsRules
  obtain ⟨cs, rfl, hsz⟩ := okWide_struct hu hv
  obtain ⟨c0, c1, c2, rfl⟩ := array3A (hsz.trans (by kernel_rfl))
  obtain ⟨fuel, hf⟩ := h
  obtain ⟨xs, k, hk, hxy, _, hxl, hff⟩ := DataW.trod_struct hu hf
  have q0 := hff 0 f f1
  have q1 := hff 1 g g1
  have q2 := hff 2 h' k1
  rw [f2, f3, f4] at q0
  rw [g2, g3, g4] at q1
  rw [k2, k3, k4] at q2
  have x0 : 0 < xs.length := by rw [hxl]; exact (Array.getElem?_eq_some_iff.1 f1).1
  have x1 : 1 < xs.length := by rw [hxl]; exact (Array.getElem?_eq_some_iff.1 g1).1
  have x2 : 2 < xs.length := by rw [hxl]; exact (Array.getElem?_eq_some_iff.1 k1).1
  rw [List.getElem?_eq_getElem x0] at q0
  rw [List.getElem?_eq_getElem x1] at q1
  rw [List.getElem?_eq_getElem x2] at q2
  simp [Value.cells] at q0 q1 q2
  obtain ⟨ag, n, cg, rfl, t0⟩ := slice_of_trod Try.underlying29 q0
  obtain ⟨ac, m, cc, rfl, t1⟩ := slice_of_trod Try.underlying30 q1
  obtain ⟨ar, m2, cr, rfl, t2⟩ := slice_of_trod Try.underlying31 q2
  obtain ⟨G, rfl, h2, h3⟩ := grs_of_read t0
  obtain ⟨C, rfl, i2, i3⟩ := crs_of_read t1
  obtain ⟨R, rfl, j2, j3⟩ := rfs_of_read t2
  exact ⟨ag, cg, ac, cc, ar, cr, G, C, R, rfl, ⟨h2, i2, j2⟩, h3, i3, j3⟩
end Go.Proofs.Ytinnmebpipnccaa
