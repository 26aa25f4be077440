/-
  The law's own helpers on charts: sizes, copies, sameness.
-/
import Derived.Test.YtkejjlgeiaeicaaUq
import Derived.Test.YtkejjlgeiaeicaaUr
import Derived.Test.YtkejjlgeiaeicaaGx
import Derived.Laws.ResultCell
namespace Go.Proofs.Ytkejjlgeiaeicaa
open Go.RowKit Va Uo
set_option linter.all false

theorem VOwn.far {α : Type} {s : Nat} {cs : α → Nat → Value} {w : World} {base B : Nat} {v : Value} {l : List α} (h : VOwn s cs w base v l) (hB : B < base) (j : Nat) (u : Value) : VOwn s cs (w.setCell ⟨B, j, none⟩ u) base v l := by
  obtain ⟨ao, cap, rfl, hc, hh⟩ := h
  refine ⟨ao, cap, rfl, hc, hh.imp_right ?_⟩
  rintro ⟨G, rfl, hG, h1, h2, h3⟩
  have e : ∀ o, (w.setCell ⟨B, j, none⟩ u).cell? ⟨G, o, none⟩ = w.cell? ⟨G, o, none⟩ := fun o => World.cell?_setCell_far _ _ _ _ (by show B ≠ G; omega)
  exact ⟨G, rfl, hG, by simpa [World.setCell] using h1, fun i hi => ⟨by rw [e]; exact (h2 i hi).1, by rw [World.frozen?_setCell]; exact (h2 i hi).2⟩, fun i x hi hx k hk => by rw [e]; exact h3 i x hi hx k hk⟩
theorem results_c0 {fn : Func} {p : Tmp} {ty : TypeId} (h : fn.results = #[.cell p ty]) (tmps : Array Value) (P : Program) (w : World) :
    (results fn tmps).run P w = ((asAddr (tmps.getD p undef)).run P w).andThen fun a w₁ => (loadVar ty a).run P w₁ := by
  simp only [results, h]
  simp [Sem.run_bind, Result.andThen]
theorem results_c {P : Program} {fn : Func} {p : Tmp} {ty : TypeId} (h : fn.results = #[.cell p ty]) (tmps : Array Value) (w : World) (g : Nat) (t : TypeId) (cs : Array Value) (d : TypeDesc)
    (hp : tmps.getD p undef = .pointer (some ⟨g, 0, none⟩)) (hg : PB w g cs t) (hu : P.underlying ty = some d) (hd : (match d with | .struct _ | .array _ _ => true | _ => false) = true) (hi : (P.info? ty).map (·.size) = some cs.size) :
    (results fn tmps).run P w = .ok (.agg cs) w := by
  have hl := run_loadVar_row (P := P) w g t ty cs _ d hg hu hd hi
  rw [results_c0 h, hp]
  simp [asAddr, hl, Result.andThen]

set_option maxRecDepth 20000 in
set_option maxHeartbeats 4000000 in
theorem tochart_any (ao : Option Addr) (n cap : Nat) (ad : Option Addr) (m dcap : Nat) (os : List Od) (ds : List Ds) (w : World) (ho : VRw 9 cvOd w (.slice ao n cap) os) (hd : VRw 5 cvDs w (.slice ad m dcap) ds) (hn : os.length ≤ 1048576) (hm : ds.length ≤ 1048576) :
    Calls Try.prog 12 #[.agg #[.slice ao n cap, .slice ad m dcap]] w fun e w' => ∃ (a2 : Option Addr) (c2 : Nat) (a3 : Option Addr) (c3 M : Nat), e = .returned (.agg #[.slice a2 os.length c2, .slice a3 ds.length c3]) ∧ VOwn 9 cvOd w' w.heap.size (.slice a2 os.length c2) os ∧ VOwn 5 cvDs w' M (.slice a3 ds.length c3) ds ∧ (∃ wx, VOwn 9 cvOd wx w.heap.size (.slice a2 os.length c2) os ∧ wx.heap.size ≤ M) ∧ w.heap.size ≤ M ∧ Below w.heap.size w w' := by
  obtain rfl := ho.len
  obtain rfl := hd.len
  have hb0 : Below w.heap.size w (((w.alloc (.cells #[.slice ao os.length cap, .slice ad ds.length dcap] 34)).alloc (.cells #[.slice none 0 0, .slice none 0 0] 40)).alloc (.cells #[.slice none 0 0, .slice none 0 0] 40)) := (((Below.refl _ _).alloc (Nat.le_refl _) _).alloc (by simp) _).alloc (by simp; omega) _
  have P0 := ((PB.new w #[.slice ao os.length cap, .slice ad ds.length dcap] 34).alloc (.cells #[.slice none 0 0, .slice none 0 0] 40)).alloc (.cells #[.slice none 0 0, .slice none 0 0] 40)
  have P1 := (PB.new (w.alloc (.cells #[.slice ao os.length cap, .slice ad ds.length dcap] 34)) #[.slice none 0 0, .slice none 0 0] 40).alloc (.cells #[.slice none 0 0, .slice none 0 0] 40)
  have P2 := PB.new ((w.alloc (.cells #[.slice ao os.length cap, .slice ad ds.length dcap] 34)).alloc (.cells #[.slice none 0 0, .slice none 0 0] 40)) #[.slice none 0 0, .slice none 0 0] 40
  simp only [World.size_alloc] at P0 P1 P2
  have HO := hidden (ho.below hb0)
  have HDw := hidden hd
  have hsz : (((w.alloc (.cells #[.slice ao os.length cap, .slice ad ds.length dcap] 34)).alloc (.cells #[.slice none 0 0, .slice none 0 0] 40)).alloc (.cells #[.slice none 0 0, .slice none 0 0] 40)).heap.size = w.heap.size + 1 + 1 + 1 := by simp
  clear ho hd
  go_enter Try.func12, Try.ntmps12
  go_upto_region 2 with fail
  generalize ((w.alloc (.cells #[.slice ao os.length cap, .slice ad ds.length dcap] 34)).alloc (.cells #[.slice none 0 0, .slice none 0 0] 40)).alloc (.cells #[.slice none 0 0, .slice none 0 0] 40) = wC at *
  generalize Value.agg #[.slice ao os.length cap, .slice ad ds.length dcap] = av
  obtain ⟨p0, p1⟩ := P0.two
  obtain ⟨r0, r1⟩ := P2.two
  have f0 := P2.frozen 0
  go_wp2_with fail
  refine (toods_any _ os wC HO.out hn).mono ?_
  rintro e w1 ⟨v2, rfl, hv2, hb1⟩
  obtain ⟨a2, c2, rfl⟩ := hv2.row.form
  have Q0 := P0.below hb1
  have Q1 := P1.below hb1
  have Q2 := P2.below hb1
  have B1 := onto hb0 hb1
  have hz1 := hb1.size
  clear p0 p1 r0 r1 f0
  obtain ⟨p0, p1⟩ := Q0.two
  obtain ⟨r0, r1⟩ := Q2.two
  have f0 := Q2.frozen 0
  have S0 := Q0.far (b := w.heap.size + 1 + 1) (by omega) 0 (.slice a2 os.length c2)
  have S1 := Q1.far (b := w.heap.size + 1 + 1) (by omega) 0 (.slice a2 os.length c2)
  have S2 := Q2.put 0 (.slice a2 os.length c2) (vs' := #[.slice a2 os.length c2, .slice none 0 0]) (by simp)
  have V2 := hv2.far (B := w.heap.size + 1 + 1) (by omega) 0 (.slice a2 os.length c2)
  have B2 : Below w.heap.size w (w1.setCell ⟨w.heap.size + 1 + 1, 0, none⟩ (.slice a2 os.length c2)) := B1.setCell (p := ⟨w.heap.size + 1 + 1, 0, none⟩) (by show w.heap.size ≤ w.heap.size + 1 + 1; omega) _
  have hz2 : (w1.setCell ⟨w.heap.size + 1 + 1, 0, none⟩ (.slice a2 os.length c2)).heap.size = w1.heap.size := by simp [World.setCell]
  have HD2 : Hid (VRw 5 cvDs (w1.setCell ⟨w.heap.size + 1 + 1, 0, none⟩ (.slice a2 os.length c2)) (.slice ad ds.length dcap) ds) := HDw.out.below B2
  clear Q0 Q1 Q2 P0 P1 P2 hb1
  go_upto_region 3 with fail
  generalize w1.setCell ⟨w.heap.size + 1 + 1, 0, none⟩ (.slice a2 os.length c2) = w2 at *
  clear p0 p1 r0 r1 f0
  obtain ⟨p0, p1⟩ := S0.two
  go_wp2_with fail
  refine (todss_any _ ds w2 HD2.out hm).mono ?_
  rintro e w3 ⟨v3, rfl, hv3, hb3⟩
  obtain ⟨a3, c3, rfl⟩ := hv3.row.form
  have T1 := S1.below hb3
  have T2 := S2.below hb3
  have V3 := V2.below hb3
  have B3 := onto B2 hb3
  clear p0 p1
  obtain ⟨r0, r1⟩ := T2.two
  have f1 := T2.frozen 1
  have U1 := T1.far (b := w.heap.size + 1 + 1) (by omega) 1 (.slice a3 ds.length c3)
  have U2 := T2.put 1 (.slice a3 ds.length c3) (vs' := #[.slice a2 os.length c2, .slice a3 ds.length c3]) (by simp)
  have V4 := V3.far (B := w.heap.size + 1 + 1) (by omega) 1 (.slice a3 ds.length c3)
  have X4 := hv3.far (B := w.heap.size + 1 + 1) (by omega) 1 (.slice a3 ds.length c3)
  have B4 : Below w.heap.size w (w3.setCell ⟨w.heap.size + 1 + 1, 1, none⟩ (.slice a3 ds.length c3)) := B3.setCell (p := ⟨w.heap.size + 1 + 1, 1, none⟩) (by show w.heap.size ≤ w.heap.size + 1 + 1; omega) _
  clear T1 T2 S0 S1 S2
  go_upto_region 4 with fail
  generalize w3.setCell ⟨w.heap.size + 1 + 1, 1, none⟩ (.slice a3 ds.length c3) = w4 at *
  clear r0 r1 f1
  obtain ⟨r0, r1⟩ := U2.two
  obtain ⟨q0, q1⟩ := U1.two
  have g0 := U1.frozen 0
  have g1 := U1.frozen 1
  have HR := hidden ((U1.put 0 (.slice a2 os.length c2) (vs' := #[.slice a2 os.length c2, .slice none 0 0]) (by simp)).put 1 (.slice a3 ds.length c3) (vs' := #[.slice a2 os.length c2, .slice a3 ds.length c3]) (by simp))
  have V5 := hidden ((V4.far (B := w.heap.size + 1) (by omega) 0 (.slice a2 os.length c2)).far (B := w.heap.size + 1) (by omega) 1 (.slice a3 ds.length c3))
  have X5 := hidden ((X4.far (B := w.heap.size + 1) (by omega) 0 (.slice a2 os.length c2)).far (B := w.heap.size + 1) (by omega) 1 (.slice a3 ds.length c3))
  have B5 := hidden ((B4.setCell (p := ⟨w.heap.size + 1, 0, none⟩) (by show w.heap.size ≤ w.heap.size + 1; omega) (.slice a2 os.length c2)).setCell (p := ⟨w.heap.size + 1, 1, none⟩) (by show w.heap.size ≤ w.heap.size + 1; omega) (.slice a3 ds.length c3))
  have HV2 := hidden hv2
  clear U1 U2 V2 V3 V4 X4 B2 B3 B4 hv2 hv3 hb3 B1
  go_wp2_with fail
  try simp only [Exit.inBlock, Exit.then]
  refine bodyPost_ret (results_c Try.results12 _ _ (w.heap.size + 1) 40 _ _ rfl HR.out Try.underlying40 rfl (by kernel_rfl)) rfl ⟨a2, c2, a3, c3, w1.heap.size, rfl, V5.out.base_le (by omega), ?_, ⟨w1, HV2.out.base_le (by omega), Nat.le_refl _⟩, by omega, B5.out⟩
  have := X5.out
  rw [hz2] at this
  exact this

set_option maxRecDepth 20000 in
set_option maxHeartbeats 2000000 in
theorem szchart_any (ao : Option Addr) (n cap : Nat) (ad : Option Addr) (m dcap : Nat) (w : World) (hn : (n : Int) ≤ 9223372036854775807) (hm : (m : Int) ≤ 9223372036854775807) :
    Calls Try.prog 10 #[.agg #[.slice ao n cap, .slice ad m dcap], .int .i64 1048576] w fun e w' => ∃ r : Int, e = .returned (.int .i64 r) ∧ (r < 0 ∨ (0 ≤ r ∧ n ≤ 1048576 ∧ m ≤ 1048576)) ∧ Below w.heap.size w w' := by
  have h1 := fun W => szods_any ao n cap 1048576 W hn (by omega) (by omega)
  by_cases q : (1048576 : Int) < (n : Int)
  · rw [if_pos q] at h1
    go_enter Try.func10, Try.ntmps10
    go_wp2_with (go_at_call 28; refine (h1 _).mono ?_; rintro e w1 ⟨rfl, rfl⟩)
    go_ret
    exact ⟨-1, rfl, .inl (by omega), by repeat (first | exact Below.refl _ _ | assumption | refine st_drew ?_ | refine st_drewN ?_ _ | refine Below.setCell ?_ (by first | omega | (simp; done) | (simp; omega)) _ | refine Below.alloc ?_ (by first | omega | (simp; done) | (simp; omega)) _)⟩
  rw [if_neg q] at h1
  have hq : ¬ (1048576 : Int) - n < 0 := by omega
  have h2 := fun W => szdss_any ad m dcap (1048576 - n) W hm (by omega) (by omega)
  by_cases q2 : (1048576 : Int) - n < (m : Int)
  · rw [if_pos q2] at h2
    go_enter Try.func10, Try.ntmps10
    go_wp2_with (first | (go_at_call 28; refine (h1 _).mono ?_; rintro e w1 ⟨rfl, rfl⟩) | (go_at_call 29; refine (h2 _).mono ?_; rintro e w1 ⟨rfl, rfl⟩))
    go_ret
    exact ⟨-1, rfl, .inl (by omega), by repeat (first | exact Below.refl _ _ | assumption | refine st_drew ?_ | refine st_drewN ?_ _ | refine Below.setCell ?_ (by first | omega | (simp; done) | (simp; omega)) _ | refine Below.alloc ?_ (by first | omega | (simp; done) | (simp; omega)) _)⟩
  · rw [if_neg q2] at h2
    have hq2 : ¬ (1048576 : Int) - n - m < 0 := by omega
    go_enter Try.func10, Try.ntmps10
    go_wp2_with (first | (go_at_call 28; refine (h1 _).mono ?_; rintro e w1 ⟨rfl, rfl⟩) | (go_at_call 29; refine (h2 _).mono ?_; rintro e w1 ⟨rfl, rfl⟩))
    go_ret
    exact ⟨1048576 - n - m, rfl, .inr ⟨by omega, by omega, by omega⟩, by repeat (first | exact Below.refl _ _ | assumption | refine st_drew ?_ | refine st_drewN ?_ _ | refine Below.setCell ?_ (by first | omega | (simp; done) | (simp; omega)) _ | refine Below.alloc ?_ (by first | omega | (simp; done) | (simp; omega)) _)⟩

set_option maxRecDepth 20000 in
set_option maxHeartbeats 2000000 in
theorem eqchart_any (v2 v3 u2 u3 : Value) (os : List Od) (ds : List Ds) (w : World) (h2 : VRw 9 cvOd w v2 os) (h3 : VRw 5 cvDs w v3 ds) (k2 : VRw 9 cvOd w u2 os) (k3 : VRw 5 cvDs w u3 ds) (hn : os.length ≤ 1048576) (hm : ds.length ≤ 1048576) :
    Calls Try.prog 14 #[.agg #[v2, v3], .agg #[u2, u3]] w fun e w' => e = .returned (.bool true) ∧ Below w.heap.size w w' := by
  have HE := hidden (fun W (hW : Below w.heap.size w W) => eqods_any v2 u2 os W (h2.below hW) (k2.below hW) hn)
  have HF := hidden (fun W (hW : Below w.heap.size w W) => eqdss_any v3 u3 ds W (h3.below hW) (k3.below hW) hm)
  obtain ⟨a2, c2, rfl⟩ := h2.form
  obtain ⟨a3, c3, rfl⟩ := h3.form
  obtain ⟨a4, c4, rfl⟩ := k2.form
  obtain ⟨a5, c5, rfl⟩ := k3.form
  clear h2 h3 k2 k3
  have PA := hidden ((PB.new w #[.slice a2 os.length c2, .slice a3 ds.length c3] 40).alloc (.cells #[.slice a4 os.length c4, .slice a5 ds.length c5] 40))
  have PB' := hidden (PB.new (w.alloc (.cells #[.slice a2 os.length c2, .slice a3 ds.length c3] 40)) #[.slice a4 os.length c4, .slice a5 ds.length c5] 40)
  simp only [World.size_alloc] at PA PB'
  go_enter Try.func14, Try.ntmps14
  go_wp2_with (first | (go_at_call 39; refine (HE.out _ (by repeat (first | exact Below.refl _ _ | assumption | refine st_drew ?_ | refine st_drewN ?_ _ | refine Below.setCell ?_ (by first | omega | (simp; done) | (simp; omega)) _ | refine Below.alloc ?_ (by first | omega | (simp; done) | (simp; omega)) _))).mono ?_; rintro e w1 ⟨rfl, hb1⟩; have bA := onto (show Below w.heap.size w _ from by repeat (first | exact Below.refl _ _ | assumption | refine st_drew ?_ | refine st_drewN ?_ _ | refine Below.setCell ?_ (by first | omega | (simp; done) | (simp; omega)) _ | refine Below.alloc ?_ (by first | omega | (simp; done) | (simp; omega)) _)) hb1; obtain ⟨x0, x1⟩ := (PA.out.below hb1).two; obtain ⟨y0, y1⟩ := (PB'.out.below hb1).two; clear hb1) | (go_at_call 40; refine (HF.out _ (by repeat (first | exact Below.refl _ _ | assumption | refine st_drew ?_ | refine st_drewN ?_ _ | refine Below.setCell ?_ (by first | omega | (simp; done) | (simp; omega)) _ | refine Below.alloc ?_ (by first | omega | (simp; done) | (simp; omega)) _))).mono ?_; rintro e w2 ⟨rfl, hb2⟩; have bB := onto (show Below w.heap.size w _ from by repeat (first | exact Below.refl _ _ | assumption | refine st_drew ?_ | refine st_drewN ?_ _ | refine Below.setCell ?_ (by first | omega | (simp; done) | (simp; omega)) _ | refine Below.alloc ?_ (by first | omega | (simp; done) | (simp; omega)) _)) hb2; clear hb2))
  go_ret
  exact ⟨rfl, bB⟩
end Go.Proofs.Ytkejjlgeiaeicaa
