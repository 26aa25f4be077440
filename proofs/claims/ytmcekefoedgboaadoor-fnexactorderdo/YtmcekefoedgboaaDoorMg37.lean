/-
  Merged: Ue Uqm U17 Uf.
-/
import Derived.Test.YtmcekefoedgboaaDoorMg7
import Derived.Test.YtmcekefoedgboaaDoorMg2
import Derived.Laws.ResultCell
import Derived.Deep.RegionWith
import Derived.WideShapes
import Derived.ProofKit
import Derived.OpenShut
import Derived.ShutString
import Derived.ChangeOld
import Derived.Below
namespace Go.Proofs.YtmcekefoedgboaaDoor
open Go.RowKit Va Uo
set_option linter.all false
theorem jl.far {α : Type} {s : Nat} {cs : α → Nat → Value} {w : World} {base B : Nat} {v : Value} {l : List α} (h : jl s cs w base v l) (hB : B < base) (j : Nat) (u : Value) : jl s cs (w.setCell ⟨B, j, none⟩ u) base v l := by
  obtain ⟨ao, cap, rfl, hc, hh⟩ := h
  refine ⟨ao, cap, rfl, hc, hh.imp_right ?_⟩
  rintro ⟨G, rfl, hG, h1, h2, h3⟩
  have e : ∀ o, (w.setCell ⟨B, j, none⟩ u).cell? ⟨G, o, none⟩ = w.cell? ⟨G, o, none⟩ := fun o => World.cell?_setCell_far _ _ _ _ (by show B ≠ G; omega)
  exact ⟨G, rfl, hG, by simpa [World.setCell] using h1, fun i hi => ⟨by rw [e]; exact (h2 i hi).1, by rw [World.frozen?_setCell]; exact (h2 i hi).2⟩, fun i x hi hx k hk => by rw [e]; exact h3 i x hi hx k hk⟩
theorem zh2 {fn : Func} {p : Tmp} {ty : TypeId} (h : fn.results = #[.cell p ty]) (tmps : Array Value) (P : Program) (w : World) :
    (results fn tmps).run P w = ((asAddr (tmps.getD p undef)).run P w).andThen fun a w₁ => (loadVar ty a).run P w₁ := by
  simp only [results, h]
  simp [Sem.run_bind, Result.andThen]
theorem zf3 {P : Program} {fn : Func} {p : Tmp} {ty : TypeId} (h : fn.results = #[.cell p ty]) (tmps : Array Value) (w : World) (g : Nat) (t : TypeId) (cs : Array Value) (d : TypeDesc)
    (hp : tmps.getD p undef = .pointer (some ⟨g, 0, none⟩)) (hg : PB w g cs t) (hu : P.underlying ty = some d) (hd : (match d with | .struct _ | .array _ _ => true | _ => false) = true) (hi : (P.info? ty).map (·.size) = some cs.size) :
    (results fn tmps).run P w = .ok (.agg cs) w := by
  have hl := run_loadVar_row (P := P) w g t ty cs _ d hg hu hd hi
  rw [zh2 h, hp]
  simp [asAddr, hl, Result.andThen]
set_option maxRecDepth 20000 in
set_option maxHeartbeats 4000000 in
theorem zd2 (ao : Option Addr) (n cap : Nat) (ad : Option Addr) (m dcap : Nat) (os : List Od) (ds : List Ds) (w : World) (ho : VRw 9 jb w (.slice ao n cap) os) (hd : VRw 5 jk w (.slice ad m dcap) ds) (hn : os.length ≤ 1048576) (hm : ds.length ≤ 1048576) :
    Calls Tryd.prog 14 #[.agg #[.slice ao n cap, .slice ad m dcap]] w fun e w' => ∃ (a2 : Option Addr) (c2 : Nat) (a3 : Option Addr) (c3 M : Nat), e = .returned (.agg #[.slice a2 os.length c2, .slice a3 ds.length c3]) ∧ jl 9 jb w' w.heap.size (.slice a2 os.length c2) os ∧ jl 5 jk w' M (.slice a3 ds.length c3) ds ∧ (∃ wx, jl 9 jb wx w.heap.size (.slice a2 os.length c2) os ∧ wx.heap.size ≤ M) ∧ w.heap.size ≤ M ∧ Below w.heap.size w w' := by
  obtain rfl := ho.len
  obtain rfl := hd.len
  have hb0 : Below w.heap.size w (((w.alloc (.cells #[.slice ao os.length cap, .slice ad ds.length dcap] 43)).alloc (.cells #[.slice none 0 0, .slice none 0 0] 27)).alloc (.cells #[.slice none 0 0, .slice none 0 0] 27)) := (((Below.refl _ _).alloc (Nat.le_refl _) _).alloc (by simp) _).alloc (by simp; omega) _
  have P0 := ((PB.new w #[.slice ao os.length cap, .slice ad ds.length dcap] 43).alloc (.cells #[.slice none 0 0, .slice none 0 0] 27)).alloc (.cells #[.slice none 0 0, .slice none 0 0] 27)
  have P1 := (PB.new (w.alloc (.cells #[.slice ao os.length cap, .slice ad ds.length dcap] 43)) #[.slice none 0 0, .slice none 0 0] 27).alloc (.cells #[.slice none 0 0, .slice none 0 0] 27)
  have P2 := PB.new ((w.alloc (.cells #[.slice ao os.length cap, .slice ad ds.length dcap] 43)).alloc (.cells #[.slice none 0 0, .slice none 0 0] 27)) #[.slice none 0 0, .slice none 0 0] 27
  simp only [World.size_alloc] at P0 P1 P2
  have HO := hidden (ho.below hb0)
  have HDw := hidden hd
  have hsz : (((w.alloc (.cells #[.slice ao os.length cap, .slice ad ds.length dcap] 43)).alloc (.cells #[.slice none 0 0, .slice none 0 0] 27)).alloc (.cells #[.slice none 0 0, .slice none 0 0] 27)).heap.size = w.heap.size + 1 + 1 + 1 := by simp
  clear ho hd
  go_enter Tryd.func14, Tryd.ntmps14
  go_upto_region 2 with fail
  generalize ((w.alloc (.cells #[.slice ao os.length cap, .slice ad ds.length dcap] 43)).alloc (.cells #[.slice none 0 0, .slice none 0 0] 27)).alloc (.cells #[.slice none 0 0, .slice none 0 0] 27) = wC at *
  generalize Value.agg #[.slice ao os.length cap, .slice ad ds.length dcap] = av
  obtain ⟨p0, p1⟩ := P0.two
  obtain ⟨r0, r1⟩ := P2.two
  have f0 := P2.frozen 0
  go_wp2_with fail
  refine (zjo _ os wC HO.out hn).mono ?_
  rintro e w1 ⟨v2, rfl, hv2, hb1⟩
  obtain ⟨a2, c2, rfl⟩ := hv2.row.form
  have Q0 := P0.below hb1
  have Q1 := P1.below hb1
  have Q2 := P2.below hb1
  have B1 := onto hb0 hb1
  have hz1 := hb1.size
  clear p0 p1 r0 r1 f0
  obtain ⟨p0, p1⟩ := Q0.two
  obtain ⟨r0, r1⟩ := Q2.two
  have f0 := Q2.frozen 0
  have S0 := Q0.far (b := w.heap.size + 1 + 1) (by omega) 0 (.slice a2 os.length c2)
  have S1 := Q1.far (b := w.heap.size + 1 + 1) (by omega) 0 (.slice a2 os.length c2)
  have S2 := Q2.put 0 (.slice a2 os.length c2) (vs' := #[.slice a2 os.length c2, .slice none 0 0]) (by simp)
  have V2 := hv2.far (B := w.heap.size + 1 + 1) (by omega) 0 (.slice a2 os.length c2)
  have B2 : Below w.heap.size w (w1.setCell ⟨w.heap.size + 1 + 1, 0, none⟩ (.slice a2 os.length c2)) := B1.setCell (p := ⟨w.heap.size + 1 + 1, 0, none⟩) (by show w.heap.size ≤ w.heap.size + 1 + 1; omega) _
  have hz2 : (w1.setCell ⟨w.heap.size + 1 + 1, 0, none⟩ (.slice a2 os.length c2)).heap.size = w1.heap.size := by simp [World.setCell]
  have HD2 : Hid (VRw 5 jk (w1.setCell ⟨w.heap.size + 1 + 1, 0, none⟩ (.slice a2 os.length c2)) (.slice ad ds.length dcap) ds) := HDw.out.below B2
  clear Q0 Q1 Q2 P0 P1 P2 hb1
  go_upto_region 3 with fail
  generalize w1.setCell ⟨w.heap.size + 1 + 1, 0, none⟩ (.slice a2 os.length c2) = w2 at *
  clear p0 p1 r0 r1 f0
  obtain ⟨p0, p1⟩ := S0.two
  go_wp2_with fail
  refine (zj7 _ ds w2 HD2.out hm).mono ?_
  rintro e w3 ⟨v3, rfl, hv3, hb3⟩
  obtain ⟨a3, c3, rfl⟩ := hv3.row.form
  have T1 := S1.below hb3
  have T2 := S2.below hb3
  have V3 := V2.below hb3
  have B3 := onto B2 hb3
  clear p0 p1
  obtain ⟨r0, r1⟩ := T2.two
  have f1 := T2.frozen 1
  have U1 := T1.far (b := w.heap.size + 1 + 1) (by omega) 1 (.slice a3 ds.length c3)
  have U2 := T2.put 1 (.slice a3 ds.length c3) (vs' := #[.slice a2 os.length c2, .slice a3 ds.length c3]) (by simp)
  have V4 := V3.far (B := w.heap.size + 1 + 1) (by omega) 1 (.slice a3 ds.length c3)
  have X4 := hv3.far (B := w.heap.size + 1 + 1) (by omega) 1 (.slice a3 ds.length c3)
  have B4 : Below w.heap.size w (w3.setCell ⟨w.heap.size + 1 + 1, 1, none⟩ (.slice a3 ds.length c3)) := B3.setCell (p := ⟨w.heap.size + 1 + 1, 1, none⟩) (by show w.heap.size ≤ w.heap.size + 1 + 1; omega) _
  clear T1 T2 S0 S1 S2
  go_upto_region 4 with fail
  generalize w3.setCell ⟨w.heap.size + 1 + 1, 1, none⟩ (.slice a3 ds.length c3) = w4 at *
  clear r0 r1 f1
  obtain ⟨r0, r1⟩ := U2.two
  obtain ⟨q0, q1⟩ := U1.two
  have g0 := U1.frozen 0
  have g1 := U1.frozen 1
  have HR := hidden ((U1.put 0 (.slice a2 os.length c2) (vs' := #[.slice a2 os.length c2, .slice none 0 0]) (by simp)).put 1 (.slice a3 ds.length c3) (vs' := #[.slice a2 os.length c2, .slice a3 ds.length c3]) (by simp))
  have V5 := hidden ((V4.far (B := w.heap.size + 1) (by omega) 0 (.slice a2 os.length c2)).far (B := w.heap.size + 1) (by omega) 1 (.slice a3 ds.length c3))
  have X5 := hidden ((X4.far (B := w.heap.size + 1) (by omega) 0 (.slice a2 os.length c2)).far (B := w.heap.size + 1) (by omega) 1 (.slice a3 ds.length c3))
  have B5 := hidden ((B4.setCell (p := ⟨w.heap.size + 1, 0, none⟩) (by show w.heap.size ≤ w.heap.size + 1; omega) (.slice a2 os.length c2)).setCell (p := ⟨w.heap.size + 1, 1, none⟩) (by show w.heap.size ≤ w.heap.size + 1; omega) (.slice a3 ds.length c3))
  have HV2 := hidden hv2
  clear U1 U2 V2 V3 V4 X4 B2 B3 B4 hv2 hv3 hb3 B1
  go_wp2_with fail
  try simp only [Exit.inBlock, Exit.then]
  refine bodyPost_ret (zf3 Tryd.results14 _ _ (w.heap.size + 1) 27 _ _ rfl HR.out Tryd.underlying27 rfl (by kernel_rfl)) rfl ⟨a2, c2, a3, c3, w1.heap.size, rfl, V5.out.za1 (by omega), ?_, ⟨w1, HV2.out.za1 (by omega), Nat.le_refl _⟩, by omega, B5.out⟩
  have := X5.out
  rw [hz2] at this
  exact this
set_option maxRecDepth 20000 in
set_option maxHeartbeats 2000000 in
theorem zj4 (ao : Option Addr) (n cap : Nat) (ad : Option Addr) (m dcap : Nat) (w : World) (hn : (n : Int) ≤ 9223372036854775807) (hm : (m : Int) ≤ 9223372036854775807) :
    Calls Tryd.prog 13 #[.agg #[.slice ao n cap, .slice ad m dcap], .int .i64 1048576] w fun e w' => ∃ r : Int, e = .returned (.int .i64 r) ∧ (r < 0 ∨ (0 ≤ r ∧ n ≤ 1048576 ∧ m ≤ 1048576)) ∧ Below w.heap.size w w' := by
  have h1 := fun W => zjz ao n cap 1048576 W hn (by omega) (by omega)
  by_cases q : (1048576 : Int) < (n : Int)
  · rw [if_pos q] at h1
    go_enter Tryd.func13, Tryd.ntmps13
    go_wp2_with (go_at_call 36; refine (h1 _).mono ?_; rintro e w1 ⟨rfl, rfl⟩)
    go_ret
    exact ⟨-1, rfl, .inl (by omega), by repeat (first | exact Below.refl _ _ | assumption | refine jg ?_ | refine vz ?_ _ | refine Below.setCell ?_ (by first | omega | (simp; done) | (simp; omega)) _ | refine Below.alloc ?_ (by first | omega | (simp; done) | (simp; omega)) _)⟩
  rw [if_neg q] at h1
  have hq : ¬ (1048576 : Int) - n < 0 := by omega
  have h2 := fun W => zh9 ad m dcap (1048576 - n) W hm (by omega) (by omega)
  by_cases q2 : (1048576 : Int) - n < (m : Int)
  · rw [if_pos q2] at h2
    go_enter Tryd.func13, Tryd.ntmps13
    go_wp2_with (first | (go_at_call 36; refine (h1 _).mono ?_; rintro e w1 ⟨rfl, rfl⟩) | (go_at_call 37; refine (h2 _).mono ?_; rintro e w1 ⟨rfl, rfl⟩))
    go_ret
    exact ⟨-1, rfl, .inl (by omega), by repeat (first | exact Below.refl _ _ | assumption | refine jg ?_ | refine vz ?_ _ | refine Below.setCell ?_ (by first | omega | (simp; done) | (simp; omega)) _ | refine Below.alloc ?_ (by first | omega | (simp; done) | (simp; omega)) _)⟩
  · rw [if_neg q2] at h2
    have hq2 : ¬ (1048576 : Int) - n - m < 0 := by omega
    go_enter Tryd.func13, Tryd.ntmps13
    go_wp2_with (first | (go_at_call 36; refine (h1 _).mono ?_; rintro e w1 ⟨rfl, rfl⟩) | (go_at_call 37; refine (h2 _).mono ?_; rintro e w1 ⟨rfl, rfl⟩))
    go_ret
    exact ⟨1048576 - n - m, rfl, .inr ⟨by omega, by omega, by omega⟩, by repeat (first | exact Below.refl _ _ | assumption | refine jg ?_ | refine vz ?_ _ | refine Below.setCell ?_ (by first | omega | (simp; done) | (simp; omega)) _ | refine Below.alloc ?_ (by first | omega | (simp; done) | (simp; omega)) _)⟩
set_option maxRecDepth 20000 in
set_option maxHeartbeats 2000000 in
theorem zei (v2 v3 u2 u3 : Value) (os : List Od) (ds : List Ds) (w : World) (h2 : VRw 9 jb w v2 os) (h3 : VRw 5 jk w v3 ds) (k2 : VRw 9 jb w u2 os) (k3 : VRw 5 jk w u3 ds) (hn : os.length ≤ 1048576) (hm : ds.length ≤ 1048576) :
    Calls Tryd.prog 16 #[.agg #[v2, v3], .agg #[u2, u3]] w fun e w' => e = .returned (.bool true) ∧ Below w.heap.size w w' := by
  have HE := hidden (fun W (hW : Below w.heap.size w W) => zjb v2 u2 os W (h2.below hW) (k2.below hW) hn)
  have HF := hidden (fun W (hW : Below w.heap.size w W) => ziu v3 u3 ds W (h3.below hW) (k3.below hW) hm)
  obtain ⟨a2, c2, rfl⟩ := h2.form
  obtain ⟨a3, c3, rfl⟩ := h3.form
  obtain ⟨a4, c4, rfl⟩ := k2.form
  obtain ⟨a5, c5, rfl⟩ := k3.form
  clear h2 h3 k2 k3
  have PA := hidden ((PB.new w #[.slice a2 os.length c2, .slice a3 ds.length c3] 27).alloc (.cells #[.slice a4 os.length c4, .slice a5 ds.length c5] 27))
  have PB' := hidden (PB.new (w.alloc (.cells #[.slice a2 os.length c2, .slice a3 ds.length c3] 27)) #[.slice a4 os.length c4, .slice a5 ds.length c5] 27)
  simp only [World.size_alloc] at PA PB'
  go_enter Tryd.func16, Tryd.ntmps16
  go_wp2_with (first | (go_at_call 41; refine (HE.out _ (by repeat (first | exact Below.refl _ _ | assumption | refine jg ?_ | refine vz ?_ _ | refine Below.setCell ?_ (by first | omega | (simp; done) | (simp; omega)) _ | refine Below.alloc ?_ (by first | omega | (simp; done) | (simp; omega)) _))).mono ?_; rintro e w1 ⟨rfl, hb1⟩; have bA := onto (show Below w.heap.size w _ from by repeat (first | exact Below.refl _ _ | assumption | refine jg ?_ | refine vz ?_ _ | refine Below.setCell ?_ (by first | omega | (simp; done) | (simp; omega)) _ | refine Below.alloc ?_ (by first | omega | (simp; done) | (simp; omega)) _)) hb1; obtain ⟨x0, x1⟩ := (PA.out.below hb1).two; obtain ⟨y0, y1⟩ := (PB'.out.below hb1).two; clear hb1) | (go_at_call 42; refine (HF.out _ (by repeat (first | exact Below.refl _ _ | assumption | refine jg ?_ | refine vz ?_ _ | refine Below.setCell ?_ (by first | omega | (simp; done) | (simp; omega)) _ | refine Below.alloc ?_ (by first | omega | (simp; done) | (simp; omega)) _))).mono ?_; rintro e w2 ⟨rfl, hb2⟩; have bB := onto (show Below w.heap.size w _ from by repeat (first | exact Below.refl _ _ | assumption | refine jg ?_ | refine vz ?_ _ | refine Below.setCell ?_ (by first | omega | (simp; done) | (simp; omega)) _ | refine Below.alloc ?_ (by first | omega | (simp; done) | (simp; omega)) _)) hb2; clear hb2))
  go_ret
  exact ⟨rfl, bB⟩
end Go.Proofs.YtmcekefoedgboaaDoor

namespace Go.Proofs.YtmcekefoedgboaaDoor
open Go.RowKit Va Uo
set_option linter.all false
def cmod (x : Int) (k : Nat) : Value := match k with | 0 => .int .i64 (x + 0) | 1 => .int .i64 (x + 1) | 2 => .int .i64 (x + 2) | 3 => .int .i64 (x + 3) | 4 => .int .i64 (x + 4) | 5 => .int .i64 (x + 5) | 6 => .int .i64 (x + 6) | 7 => .int .i64 (x + 7) | _ => .bool ((x + 8) % 3 == 0)
set_option maxRecDepth 20000 in
set_option maxHeartbeats 8000000 in
theorem zhx (G n cap : Nat) (l0 : List Od) (k0 : Int) (w : World) (h : qw 9 jb w G n l0 n) (hn : n ≤ 1048576) (hk0 : 0 ≤ k0) (hk1 : k0 ≤ 1000000000) :
    Calls Tryd.prog 43 #[.slice (some ⟨G, 0, none⟩) n cap, .int .i64 k0] w fun e w' => e = .returned (.int .i64 (k0 + 9 * (n : Int))) ∧ qw 9 cmod w' G n (marks 9 k0 n) n ∧ Aside w w' (.slice (some ⟨G, 0, none⟩) n cap) := by
  have h0 : qw 9 cmod w G n (marks 9 k0 n) 0 := ⟨h.1, h.2.1, fun j x hj => absurd hj (by omega)⟩
  clear h
  go_enter Tryd.func43, Tryd.ntmps43
  go_wp2_with fail
  go_loopw [1, 5] (fun kv iv wr => ∃ i : Nat, i ≤ n ∧ kv = .int .i64 (k0 + 9 * (i : Int)) ∧ iv = .int .i64 i ∧ qw 9 cmod wr G n (marks 9 k0 n) i ∧ Aside w wr (.slice (some ⟨G, 0, none⟩) n cap)) (fun _ iv _ => n - (intOf iv).toNat)
  case atStart => exact ⟨0, Nat.zero_le _, by simp, rfl, h0, Aside.refl _ _⟩
  case round =>
    clear h0
    obtain ⟨i, hi, rfl, rfl, ho, ha⟩ := hrel
    by_cases hlt : i < n
    · have hlti : (i : Int) < (n : Int) := by omega
      have hset := ho.set hlt (zd3 9 k0 n i hlt) [.int .i64 (k0 + 9 * (i : Int)), .int .i64 (k0 + 9 * (i : Int) + 1), .int .i64 (k0 + 9 * (i : Int) + 1 + 1), .int .i64 (k0 + 9 * (i : Int) + 1 + 1 + 1), .int .i64 (k0 + 9 * (i : Int) + 1 + 1 + 1 + 1), .int .i64 (k0 + 9 * (i : Int) + 1 + 1 + 1 + 1 + 1), .int .i64 (k0 + 9 * (i : Int) + 1 + 1 + 1 + 1 + 1 + 1), .int .i64 (k0 + 9 * (i : Int) + 1 + 1 + 1 + 1 + 1 + 1 + 1), .bool ((k0 + 9 * (i : Int) + 1 + 1 + 1 + 1 + 1 + 1 + 1 + 1) % 3 == 0)] rfl (fun k hk => by
        match k, hk with
        | 0, _ => exact congrArg (fun z => some (Value.int .i64 z)) (show k0 + 9 * (i : Int) = k0 + 9 * (i : Int) + 0 by omega)
        | 1, _ => exact congrArg (fun z => some (Value.int .i64 z)) (show k0 + 9 * (i : Int) + 1 = k0 + 9 * (i : Int) + 1 by omega)
        | 2, _ => exact congrArg (fun z => some (Value.int .i64 z)) (show k0 + 9 * (i : Int) + 1 + 1 = k0 + 9 * (i : Int) + 2 by omega)
        | 3, _ => exact congrArg (fun z => some (Value.int .i64 z)) (show k0 + 9 * (i : Int) + 1 + 1 + 1 = k0 + 9 * (i : Int) + 3 by omega)
        | 4, _ => exact congrArg (fun z => some (Value.int .i64 z)) (show k0 + 9 * (i : Int) + 1 + 1 + 1 + 1 = k0 + 9 * (i : Int) + 4 by omega)
        | 5, _ => exact congrArg (fun z => some (Value.int .i64 z)) (show k0 + 9 * (i : Int) + 1 + 1 + 1 + 1 + 1 = k0 + 9 * (i : Int) + 5 by omega)
        | 6, _ => exact congrArg (fun z => some (Value.int .i64 z)) (show k0 + 9 * (i : Int) + 1 + 1 + 1 + 1 + 1 + 1 = k0 + 9 * (i : Int) + 6 by omega)
        | 7, _ => exact congrArg (fun z => some (Value.int .i64 z)) (show k0 + 9 * (i : Int) + 1 + 1 + 1 + 1 + 1 + 1 + 1 = k0 + 9 * (i : Int) + 7 by omega)
        | 8, _ => exact congrArg (fun z : Int => some (Value.bool (z % 3 == 0))) (show k0 + 9 * (i : Int) + 1 + 1 + 1 + 1 + 1 + 1 + 1 + 1 = k0 + 9 * (i : Int) + 8 by omega)
)
      obtain ⟨⟨u0, hu0⟩, hf0⟩ := ho.old hlt (show 0 < 9 by omega)
      obtain ⟨⟨u1, hu1⟩, hf1⟩ := ho.old hlt (show 1 < 9 by omega)
      obtain ⟨⟨u2, hu2⟩, hf2⟩ := ho.old hlt (show 2 < 9 by omega)
      obtain ⟨⟨u3, hu3⟩, hf3⟩ := ho.old hlt (show 3 < 9 by omega)
      obtain ⟨⟨u4, hu4⟩, hf4⟩ := ho.old hlt (show 4 < 9 by omega)
      obtain ⟨⟨u5, hu5⟩, hf5⟩ := ho.old hlt (show 5 < 9 by omega)
      obtain ⟨⟨u6, hu6⟩, hf6⟩ := ho.old hlt (show 6 < 9 by omega)
      obtain ⟨⟨u7, hu7⟩, hf7⟩ := ho.old hlt (show 7 < 9 by omega)
      obtain ⟨⟨u8, hu8⟩, hf8⟩ := ho.old hlt (show 8 < 9 by omega)
      simp only [Nat.add_zero] at hu0 hf0
      have ha2 := Aside.put [.int .i64 (k0 + 9 * (i : Int)), .int .i64 (k0 + 9 * (i : Int) + 1), .int .i64 (k0 + 9 * (i : Int) + 1 + 1), .int .i64 (k0 + 9 * (i : Int) + 1 + 1 + 1), .int .i64 (k0 + 9 * (i : Int) + 1 + 1 + 1 + 1), .int .i64 (k0 + 9 * (i : Int) + 1 + 1 + 1 + 1 + 1), .int .i64 (k0 + 9 * (i : Int) + 1 + 1 + 1 + 1 + 1 + 1), .int .i64 (k0 + 9 * (i : Int) + 1 + 1 + 1 + 1 + 1 + 1 + 1), .bool ((k0 + 9 * (i : Int) + 1 + 1 + 1 + 1 + 1 + 1 + 1 + 1) % 3 == 0)] (i * 9) ha
      clear ho ha
      go_wp2_with fail
      go_roundw
      case rel => exact ⟨i + 1, by omega, by congr 1; omega, rfl, hset, ha2⟩
      case measure => simp [intOf]; omega
    · have hlti : ¬ (i : Int) < (n : Int) := by omega
      have hin : i = n := by omega
      subst hin
      go_wp2_with fail
      go_ret
      exact ⟨rfl, ho, ha⟩
set_option maxRecDepth 20000 in
set_option maxHeartbeats 2000000 in
theorem zh5 (ao : Option Addr) (cap : Nat) (k0 : Int) (w : World) :
    Calls Tryd.prog 43 #[.slice ao 0 cap, .int .i64 k0] w fun e w' => e = .returned (.int .i64 k0) ∧ w' = w := by
  go_enter Tryd.func43, Tryd.ntmps43
  go_wp2_with fail
  go_loopw [1, 5] (fun kv iv wr => wr = w ∧ kv = .int .i64 k0 ∧ iv = .int .i64 0) (fun _ _ _ => 0)
  case atStart => exact ⟨rfl, rfl, rfl⟩
  case round =>
    obtain ⟨rfl, rfl, rfl⟩ := hrel
    go_wp2_with fail
    go_ret
    exact ⟨rfl, rfl⟩
theorem zfe (v : Value) (l : List Od) (base : Nat) (k0 : Int) (w : World) (h : jl 9 jb w base v l) (hn : l.length ≤ 1048576) (hk0 : 0 ≤ k0) (hk1 : k0 ≤ 1000000000) :
    Calls Tryd.prog 43 #[v, .int .i64 k0] w fun e w' => e = .returned (.int .i64 (k0 + 9 * (l.length : Int))) ∧ jl 9 cmod w' base v (marks 9 k0 l.length) ∧ Aside w w' v ∧ (l.length = 0 → w' = w) := by
  obtain ⟨ao, cap, rfl, hc, hh⟩ := h
  rcases Nat.eq_zero_or_pos l.length with h0 | hpos
  · rw [h0]
    refine (zh5 ao cap k0 w).mono ?_
    rintro e w' ⟨rfl, rfl⟩
    exact ⟨by simp, ⟨ao, cap, rfl, Nat.zero_le _, Or.inl rfl⟩, Aside.refl _ _, fun _ => rfl⟩
  · obtain ⟨G, rfl, hG, ho⟩ := hh.resolve_left (by omega)
    refine (zhx G l.length cap l k0 w ho hn hk0 hk1).mono ?_
    rintro e w' ⟨rfl, ho', ha⟩
    exact ⟨rfl, ⟨_, cap, by rw [zbk], by rw [zbk]; exact hc, Or.inr ⟨G, rfl, hG, by rw [zbk]; exact ho'⟩⟩, ha, fun h0 => absurd h0 (by omega)⟩
set_option maxRecDepth 20000 in
set_option maxHeartbeats 8000000 in
theorem zi0 (v : Value) (k0 : Int) (n : Nat) (w : World) (h : VRw 9 cmod w v (marks 9 k0 n)) (hn : n ≤ 1048576) (hk0 : 0 ≤ k0) (hk1 : k0 ≤ 1000000000) :
    Calls Tryd.prog 45 #[v, .int .i64 k0] w fun e w' => e = .returned (.int .i64 (k0 + 9 * (n : Int))) ∧ w' = w := by
  have HH := hidden h
  obtain ⟨ao, cap, rfl⟩ := h.form
  clear h
  rw [zbk]
  rw [zbk] at HH
  go_enter Tryd.func45, Tryd.ntmps45
  go_wp2_with fail
  go_loopw [1, 5] (fun kv iv wr => wr = w ∧ ∃ i : Nat, i ≤ n ∧ kv = .int .i64 (k0 + 9 * (i : Int)) ∧ iv = .int .i64 i) (fun _ iv _ => n - (intOf iv).toNat)
  case atStart => exact ⟨rfl, 0, Nat.zero_le _, by simp, rfl⟩
  case round =>
    obtain ⟨rfl, i, hi, rfl, rfl⟩ := hrel
    by_cases hlt : i < n
    · have hlti : (i : Int) < (n : Int) := by omega
      obtain ⟨g, off, rfl, hg, hcs⟩ := HH.out.at (zd3 9 k0 n i hlt)
      have c0 : wr.cell? ⟨g, off + i * 9, none⟩ = some (.int .i64 (k0 + 9 * (i : Int))) := (hcs 0 (by omega)).trans (congrArg (fun z => some (Value.int .i64 z)) (show k0 + 9 * (i : Int) + 0 = k0 + 9 * (i : Int) by omega))
      have c1 : wr.cell? ⟨g, off + i * 9 + 1, none⟩ = some (.int .i64 (k0 + 9 * (i : Int) + 1)) := (hcs 1 (by omega)).trans (congrArg (fun z => some (Value.int .i64 z)) (show k0 + 9 * (i : Int) + 1 = k0 + 9 * (i : Int) + 1 by omega))
      have c2 : wr.cell? ⟨g, off + i * 9 + 2, none⟩ = some (.int .i64 (k0 + 9 * (i : Int) + 1 + 1)) := (hcs 2 (by omega)).trans (congrArg (fun z => some (Value.int .i64 z)) (show k0 + 9 * (i : Int) + 2 = k0 + 9 * (i : Int) + 1 + 1 by omega))
      have c3 : wr.cell? ⟨g, off + i * 9 + 3, none⟩ = some (.int .i64 (k0 + 9 * (i : Int) + 1 + 1 + 1)) := (hcs 3 (by omega)).trans (congrArg (fun z => some (Value.int .i64 z)) (show k0 + 9 * (i : Int) + 3 = k0 + 9 * (i : Int) + 1 + 1 + 1 by omega))
      have c4 : wr.cell? ⟨g, off + i * 9 + 4, none⟩ = some (.int .i64 (k0 + 9 * (i : Int) + 1 + 1 + 1 + 1)) := (hcs 4 (by omega)).trans (congrArg (fun z => some (Value.int .i64 z)) (show k0 + 9 * (i : Int) + 4 = k0 + 9 * (i : Int) + 1 + 1 + 1 + 1 by omega))
      have c5 : wr.cell? ⟨g, off + i * 9 + 5, none⟩ = some (.int .i64 (k0 + 9 * (i : Int) + 1 + 1 + 1 + 1 + 1)) := (hcs 5 (by omega)).trans (congrArg (fun z => some (Value.int .i64 z)) (show k0 + 9 * (i : Int) + 5 = k0 + 9 * (i : Int) + 1 + 1 + 1 + 1 + 1 by omega))
      have c6 : wr.cell? ⟨g, off + i * 9 + 6, none⟩ = some (.int .i64 (k0 + 9 * (i : Int) + 1 + 1 + 1 + 1 + 1 + 1)) := (hcs 6 (by omega)).trans (congrArg (fun z => some (Value.int .i64 z)) (show k0 + 9 * (i : Int) + 6 = k0 + 9 * (i : Int) + 1 + 1 + 1 + 1 + 1 + 1 by omega))
      have c7 : wr.cell? ⟨g, off + i * 9 + 7, none⟩ = some (.int .i64 (k0 + 9 * (i : Int) + 1 + 1 + 1 + 1 + 1 + 1 + 1)) := (hcs 7 (by omega)).trans (congrArg (fun z => some (Value.int .i64 z)) (show k0 + 9 * (i : Int) + 7 = k0 + 9 * (i : Int) + 1 + 1 + 1 + 1 + 1 + 1 + 1 by omega))
      have c8 : wr.cell? ⟨g, off + i * 9 + 8, none⟩ = some (.bool ((k0 + 9 * (i : Int) + 1 + 1 + 1 + 1 + 1 + 1 + 1 + 1) % 3 == 0)) := (hcs 8 (by omega)).trans (congrArg (fun z : Int => some (Value.bool (z % 3 == 0))) (show k0 + 9 * (i : Int) + 8 = k0 + 9 * (i : Int) + 1 + 1 + 1 + 1 + 1 + 1 + 1 + 1 by omega))
      clear hcs
      go_wp2_with fail
      go_roundw
      case rel => exact ⟨by first | rfl | trivial, i + 1, by omega, by congr 1; omega, rfl⟩
      case measure => simp [intOf]; omega
    · have hlti : ¬ (i : Int) < (n : Int) := by omega
      have hin : i = n := by omega
      subst hin
      go_wp2_with fail
      go_ret
      exact ⟨rfl, rfl⟩
end Go.Proofs.YtmcekefoedgboaaDoor

namespace Go.Proofs.YtmcekefoedgboaaDoor
open Go.RowKit Va Uo
set_option linter.all false
theorem zb2 {α : Type} {s : Nat} {cs : α → Nat → Value} {wx w w' : World} {base B : Nat} {v : Value} {l : List α} {vs : Array Value} {t : TypeId} (h : jl s cs wx base v l) (hx : wx.heap.size ≤ B) (ha : Aside w w' v) (hz : l.length = 0 → w' = w) (h2 : PB w B vs t) : PB w' B vs t := by
  rcases Nat.eq_zero_or_pos l.length with q | q
  · rw [hz q]; exact h2
  · obtain ⟨ao, cap, rfl, _, hh⟩ := h
    obtain ⟨G, rfl, hG, ho⟩ := hh.resolve_left (by omega)
    refine (ha.block B ?_).trans h2
    intro e
    have e2 : G = B := Option.some.inj e
    have := ho.1
    omega
theorem jl.mark_old {α β γ : Type} {s s2 : Nat} {cs : α → Nat → Value} {cs2 : β → Nat → Value} {cs4 : γ → Nat → Value} {wx w0 w w' : World} {b2 b3 : Nat} {v2 v3 : Value} {l2 : List α} {l3 : List β} {l4 : List γ} (h : jl s cs wx b2 v2 l2) (hx : wx.heap.size ≤ b3) (hl : l4.length = l2.length) (h2 : jl s cs4 w b2 v2 l4) (h3 : jl s2 cs2 w0 b3 v3 l3) (ha : Aside w w' v3) (hz : l3.length = 0 → w' = w) : jl s cs4 w' b2 v2 l4 := by
  rcases Nat.eq_zero_or_pos l3.length with q | q
  · rw [hz q]; exact h2
  · obtain ⟨ao2, cap2, rfl, hc2, hh2⟩ := h2
    rcases Nat.eq_zero_or_pos l4.length with q4 | q4
    · exact ⟨_, _, rfl, hc2, Or.inl q4⟩
    · obtain ⟨G2, rfl, hG2, ho2⟩ := hh2.resolve_left (by omega)
      refine ⟨_, _, rfl, hc2, Or.inr ⟨G2, rfl, hG2, ho2.aside ha ?_⟩⟩
      obtain ⟨ao3, cap3, rfl, _, hh3⟩ := h3
      obtain ⟨G3, rfl, hG3, ho3⟩ := hh3.resolve_left (by omega)
      obtain ⟨ao, cap, he, hc, hh⟩ := h
      obtain ⟨G, rfl, hGb, hGo⟩ := hh.resolve_left (by omega)
      simp only [Value.slice.injEq, Option.some.injEq, Addr.mk.injEq, and_true, true_and] at he
      intro e
      have e2 : G3 = G2 := Option.some.inj e
      have := hGo.1
      omega
structure Mkd (w w' : World) (v2 v3 : Value) (os : List Od) (ds : List Ds) (b2 b3 : Nat) (k0 : Int) : Prop where
  ords : jl 9 cmod w' b2 v2 (marks 9 k0 os.length)
  doss : jl 5 cmds w' b3 v3 (marks 5 (k0 + 9 * (os.length : Int)) ds.length)
  below : ∀ b0 w0, Below b0 w0 w → b0 ≤ w.heap.size → b0 ≤ b2 → b0 ≤ b3 → Below b0 w0 w'
  young : ∀ (γ : Type) (s : Nat) (cs : γ → Nat → Value) (b : Nat) (v : Value) (l : List γ), jl s cs w b v l → (∃ wx, jl 9 jb wx b2 v2 os ∧ wx.heap.size ≤ b) → (∃ wx, jl 5 jk wx b3 v3 ds ∧ wx.heap.size ≤ b) → jl s cs w' b v l
  box : ∀ (B : Nat) (vs : Array Value) (t : TypeId), PB w B vs t → (∃ wx, jl 9 jb wx b2 v2 os ∧ wx.heap.size ≤ B) → (∃ wx, jl 5 jk wx b3 v3 ds ∧ wx.heap.size ≤ B) → PB w' B vs t
set_option maxRecDepth 20000 in
set_option maxHeartbeats 4000000 in
theorem zh0 (v2 v3 : Value) (os : List Od) (ds : List Ds) (b2 b3 : Nat) (k0 : Int) (w : World) (h2 : jl 9 jb w b2 v2 os) (h3 : jl 5 jk w b3 v3 ds) (hap : ∃ wx, jl 9 jb wx b2 v2 os ∧ wx.heap.size ≤ b3) (hn : os.length ≤ 1048576) (hm : ds.length ≤ 1048576) (hk0 : 0 ≤ k0) (hk1 : k0 ≤ 100000000) :
    Calls Tryd.prog 17 #[.agg #[v2, v3], .int .i64 k0] w fun e w' => e = .returned (.int .i64 (k0 + 9 * (os.length : Int) + 5 * (ds.length : Int))) ∧ Mkd w w' v2 v3 os ds b2 b3 k0 := by
  have bA : Below w.heap.size w (w.alloc (.cells #[v2, v3] 27)) := (Below.refl _ _).alloc (Nat.le_refl _) _
  have HP := hidden (PB.new w #[v2, v3] 27)
  have H2w := hidden h2
  have H3w := hidden h3
  have H2 := hidden (h2.below bA)
  have H3 := hidden (h3.below bA)
  have HB := hidden bA
  have HAp := hidden hap
  obtain ⟨a2, c2, hv2⟩ := h2.row.form
  obtain ⟨a3, c3, hv3⟩ := h3.row.form
  subst hv2
  subst hv3
  have hz := bA.size
  clear h2 h3 bA hap
  go_enter Tryd.func17, Tryd.ntmps17
  go_upto_region 1 with fail
  generalize w.alloc (.cells #[.slice a2 os.length c2, .slice a3 ds.length c3] 27) = wA at *
  obtain ⟨p0, p1⟩ := HP.out.two
  go_wp2_with fail
  refine (zfe _ os b2 k0 _ H2.out hn hk0 (by omega)).mono ?_
  rintro e w1 ⟨rfl, hm1, ha1, hz1⟩
  have HP1 := hidden (zb2 H2w.out (Nat.le_refl _) ha1 hz1 HP.out)
  obtain ⟨wx, hwx, hwl⟩ := HAp.out
  have H31 := hidden (hwx.zcm hwl ha1 hz1 H3.out)
  have HM1 := hidden hm1
  have HA1 := hidden ha1
  have HZ1 := hidden hz1
  clear hm1 ha1 hz1 hwx hwl p0 p1
  obtain ⟨p0, p1⟩ := HP1.out.two
  go_wp2_with fail
  refine (zfn _ ds b3 (k0 + 9 * (os.length : Int)) _ H31.out hm (by omega) (by omega)).mono ?_
  rintro e w2 ⟨rfl, hm2, ha2, hz2⟩
  have HM2 := hidden hm2
  have HA2 := hidden ha2
  have HZ2 := hidden hz2
  clear hm2 ha2 hz2 p0 p1
  go_wp2_with fail
  go_ret
  refine ⟨rfl, ?_, HM2.out, ?_, ?_, ?_⟩
  · obtain ⟨wx, hwx, hwl⟩ := HAp.out
    exact jl.mark_old hwx hwl (by rw [zbk]) HM1.out H31.out HA2.out HZ2.out
  · intro b0 w0 hb hb0 hb2 hb3
    have hb1 : Below b0 w0 wA := hb.trans (HB.out.mono hb0)
    exact H31.out.zc1 HA2.out HZ2.out (H2.out.zc1 HA1.out HZ1.out hb1 hb2) hb3
  · intro γ s cs b v l hv hx2 hx3
    obtain ⟨wx, hwx, hwl⟩ := hx2
    obtain ⟨wy, hwy, hyl⟩ := hx3
    exact hwy.zcm hyl HA2.out HZ2.out (hwx.zcm hwl HA1.out HZ1.out (hv.below HB.out))
  · intro B vs t hp hx2 hx3
    obtain ⟨wx, hwx, hwl⟩ := hx2
    obtain ⟨wy, hwy, hyl⟩ := hx3
    exact zb2 hwy hyl HA2.out HZ2.out (zb2 hwx hwl HA1.out HZ1.out (hp.below HB.out))
end Go.Proofs.YtmcekefoedgboaaDoor

namespace Go.Proofs.YtmcekefoedgboaaDoor
open Go.RowKit Va Uo Go.WideShapes
set_option linter.all false
theorem zhk {H : Type} {enc : TypeId × Value → H} {P : Program} {W : World} {sp : Nat → Bool} {hd : Bool} {t e : TypeId} {fuel : Nat} {v : Value} {x : DataW H × List MemPlace}
    (ht : P.underlying t = some (.slice e)) (h : DataW.trod enc P W 0 sp hd fuel t [v] = some x) : ∃ ao n cap, v = .slice ao n cap ∧ DataW.Trod enc P W 0 sp hd t (.slice ao n cap) x.1 x.2 := by
  have hv : ∃ ao n cap, v = .slice ao n cap := by
    rcases Deep.open_slice ht h with ⟨h1, _⟩ | ⟨a, ln, c, m, n, D, Pl, h1, _⟩
    · simp at h1; exact ⟨none, 0, 0, h1⟩
    · simp at h1; exact ⟨some a, ln, c, h1⟩
  obtain ⟨ao, n, cap, rfl⟩ := hv
  exact ⟨ao, n, cap, rfl, fuel, h⟩
set_option maxRecDepth 100000 in
theorem fsChart : ∃ fs, Tryd.prog.underlying 43 = some (.struct fs) ∧ ∃ f g, fs[0]? = some f ∧ f.offset = 0 ∧ Tryd.prog.cellsOf f.type = 1 ∧ f.type = 40 ∧ fs[1]? = some g ∧ g.offset = 1 ∧ Tryd.prog.cellsOf g.type = 1 ∧ g.type = 41 :=
  ⟨_, Tryd.underlying43, _, _, rfl, rfl, by kernel_rfl, rfl, rfl, rfl, by kernel_rfl, rfl⟩
theorem array2 {α : Type} {cs : Array α} (h : cs.size = 2) : ∃ c0 c1, cs = #[c0, c1] := by
  obtain ⟨l⟩ := cs
  match l, h with
  | [c0, c1], _ => exact ⟨c0, c1, rfl⟩
set_option maxRecDepth 100000 in
theorem zj5 {H : Type} {enc : TypeId × Value → H} {W : World} {sp : Nat → Bool} {hd : Bool} {r : Reach} {b0 : Nat} {v : Value} {d : DataW H} {p : List MemPlace}
    (hv : Value.okWide Tryd.prog W r b0 43 v) (h : DataW.Trod enc Tryd.prog W 0 sp hd 43 v d p) : ∃ (ao : Option Addr) (cap : Nat) (ad : Option Addr) (dcap : Nat) (os : List Od) (ds : List Ds), v = .agg #[.slice ao os.length cap, .slice ad ds.length dcap] ∧ os.length ≤ maxLen ∧ ds.length ≤ maxLen ∧ VRw 9 jb W (.slice ao os.length cap) os ∧ VRw 5 jk W (.slice ad ds.length dcap) ds := by
  obtain ⟨fs, hu, f, g, f1, f2, f3, f4, g1, g2, g3, g4⟩ := fsChart
  obtain ⟨cs, rfl, hsz⟩ := okWide_struct hu hv
  obtain ⟨c0, c1, rfl⟩ := array2 (hsz.trans (by kernel_rfl))
  obtain ⟨fuel, hf⟩ := h
  obtain ⟨xs, k, hk, hxy, _, hxl, hff⟩ := DataW.trod_struct hu hf
  have q0 := hff 0 f f1
  have q1 := hff 1 g g1
  rw [f2, f3, f4] at q0
  rw [g2, g3, g4] at q1
  have x0 : 0 < xs.length := by rw [hxl]; exact (Array.getElem?_eq_some_iff.1 f1).1
  have x1 : 1 < xs.length := by rw [hxl]; exact (Array.getElem?_eq_some_iff.1 g1).1
  rw [List.getElem?_eq_getElem x0] at q0
  rw [List.getElem?_eq_getElem x1] at q1
  simp [Value.cells] at q0 q1
  obtain ⟨ao, n, cap, rfl, t0⟩ := zhk Tryd.underlying40 q0
  obtain ⟨ad, m, dcap, rfl, t1⟩ := zhk Tryd.underlying41 q1
  obtain ⟨os, rfl, h2, h3⟩ := ziy t0
  obtain ⟨ds, rfl, k2, k3⟩ := zj1 t1
  exact ⟨ao, cap, ad, dcap, os, ds, rfl, h2, k2, h3, k3⟩
end Go.Proofs.YtmcekefoedgboaaDoor
