/-
 Merged: U68 U69 U57 U70.
-/
import Derived.Test.YtjlpfpigggdemaaGreatDoorMi38
import Derived.Test.YtjlpfpigggdemaaGreatDoorMi34
import Derived.Laws.AppendOwn
namespace Go.Proofs.YtjlpfpigggdemaaGreatDoor
set_option maxRecDepth 8000
set_option maxHeartbeats 4000000
open Go.RowKit Va Uo
set_option linter.all false
def FY22 (g : Nat) (C G c1 k : Nat) (os : List Od) (i9 : Nat) (v : Value) (w : World) : Prop :=
 match i9 with
 | 0 => v = .pointer (some ⟨C, 0, none⟩)
 | 1 => v = .slice (some ⟨G, 0, none⟩) os.length c1
 | 2 => v = .int .i64 (k : Nat)
 | 3 => v = .pointer (some ⟨g, 0, none⟩)
 | 4 => ∃ z : Int, v = .int .i64 z
 | 5 => v = .pointer (some ⟨G, k * 9, none⟩)
 | 6 => v = .pointer (some ⟨G, k * 9 + 7, none⟩)
 | 7 => True
 | _ => True
theorem zdj : (Rg.opsOf Tryz.f10 22).size = 8 := by kernel_rfl
def IY22 (w1 : World) (g : Nat) (ao : Option Addr) (cap : Nat) (bs : List Int) (G k : Nat) (l : Array Bool) (w' : World) : Prop :=
 (l.getD 7 false = false -> Cur w' g ao cap bs /\ Keep g w1 w') /\ (l.getD 7 false = true -> ∃ (wx : World) (z : Int), Cur wx g ao cap bs /\ Keep g w1 wx /\ w' = wx.setCell ⟨G, k * 9 + 7, none⟩ (.int .i64 z))
theorem zdu {w1 : World} {g : Nat} {ao : Option Addr} {cap : Nat} {bs : List Int} {G k : Nat} {l : Array Bool} {w : World} {i : Nat} (hi : i ≠ 7) (h : IY22 w1 g ao cap bs G k l w) : IY22 w1 g ao cap bs G k (l.setIfInBounds i true) w := by
 unfold IY22
 rw [Rg.jk hi]
 exact h
theorem callY22 {w1 : World} {g : Nat} {ao : Option Addr} {cap : Nat} {bs : List Int} {G k : Nat} {l : Array Bool} {w w' : World} {i : Nat} (hi : i ≠ 7) (h9 : l.getD 7 false = false) (h : IY22 w1 g ao cap bs G k l w) (hc : Cur w' g ao cap bs) (hk : Keep g w w') : IY22 w1 g ao cap bs G k (l.setIfInBounds i true) w' := by
 unfold IY22
 rw [Rg.jk hi, h9]
 exact ⟨fun _ => ⟨hc, (h.1 h9).2.trans hk⟩, fun q => by cases q⟩
set_option maxRecDepth 20000 in
set_option maxHeartbeats 16000000 in
theorem regY22 {Q : Exit -> Act -> World -> Prop} {a : Act} {w1 : World} {g : Nat} {ao : Option Addr} {cap : Nat} {bs : List Int} {C G c1 k : Nat} {os : List Od} {vd : Value} (ha : a.tmps.size = 170)
  (k0 : a.tmps[0]? = some (.pointer (some ⟨g, 0, none⟩))) (k4 : a.tmps[4]? = some (.pointer (some ⟨C, 0, none⟩))) (k7 : a.tmps[7]? = some (.int .i64 (k : Nat))) (hc : Cur w1 g ao cap bs) (hC : PB w1 C #[.slice (some ⟨G, 0, none⟩) os.length c1, vd] 27) (hCg : C ≠ g) (hGg : G ≠ g) (hV : zak 9 jd w1 G os.length os os.length) (hk : k < os.length) (hn : os.length <= 1048576)
  (hend : ∀ b' wx (z : Int), Rg.Fr (Rg.opsOf Tryz.f10 22) a b' -> Cur wx g ao cap bs -> Keep g w1 wx -> Q .normal b' (wx.setCell ⟨G, k * 9 + 7, none⟩ (.int .i64 z))) :
  (Code.region 22 (Rg.opsOf Tryz.f10 22) true).wp Tryz.prog Q a w1 := by
 refine Rg.zeu (by kernel_rfl) (IY22 w1 g ao cap bs G k) (FY22 g C G c1 k os) (by rw [ha, zdj]; kernel_rfl) ⟨fun _ => ⟨hc.drewN 1, (Keep.refl g w1).drewN 1⟩, fun h => (by rw [Rg.zaz] at h; cases h)⟩ ?_ ?_
 case refine_2 =>
  intro l b' w' hf hall hI hA
  rw [zdj] at hall
  obtain ⟨wx, z, i1, i2, rfl⟩ := hI.2 (hall 7 (by omega))
  exact hend b' wx z hf i1 i2
 case refine_1 =>
  clear hend
  intro i' hi'
  rw [zdj] at hi'
  rcases (show i' = 0 ∨ i' = 1 ∨ i' = 2 ∨ i' = 3 ∨ i' = 4 ∨ i' = 5 ∨ i' = 6 ∨ i' = 7 by omega) with rfl | rfl | rfl | rfl | rfl | rfl | rfl | rfl
  ·intro ll bb w' hs hlf hN9 hf hIl hA
   clear hi'
   have q4 := hf.kept (s := 4) (by rw [zdj]; kernel_rfl) k4
   exact Rg.zf (o := ⟨some 107, Op.fieldAddr 27 (Operand.tmp 4) 0, _, _, _, _⟩) (x := .pointer (some ⟨C, 0, none⟩)) rfl rfl (by clear hA hC hV hN9 hIl; simp only [execOp]; go_simp) ⟨_, rfl, (fun h => by cases h), rfl, zdu (by decide) hIl, fun _ _ _ h => h⟩
  ·intro ll bb w' hs hlf hN9 hf hIl hA
   clear hi'
   have h7 := hN9 7 (by kernel_rfl)
   have hI := hIl.1 h7
   have q107 : bb.tmps[107]? = some _ := hf.tmp (k := 0) rfl (by rw [ha]; decide) (hA 0 (by kernel_rfl))
   obtain ⟨e0, e1⟩ := (hC.keep hI.2 hCg).two
   exact Rg.zf (o := ⟨some 108, Op.load 24 (Operand.tmp 107), _, _, _, _⟩) (x := .slice (some ⟨G, 0, none⟩) os.length c1) rfl rfl (by clear hA hC hV hN9 hIl; simp only [execOp]; go_simp) ⟨_, rfl, (fun h => by cases h), rfl, zdu (by decide) hIl, fun _ _ _ h => h⟩
  ·intro ll bb w' hs hlf hN9 hf hIl hA
   clear hi'
   have q7 := hf.kept (s := 7) (by rw [zdj]; kernel_rfl) k7
   exact Rg.zf (o := ⟨some 109, Op.move (Operand.tmp 7), _, _, _, _⟩) (x := .int .i64 (k : Nat)) rfl rfl (by clear hA hC hV hN9 hIl; simp only [execOp]; go_simp) ⟨_, rfl, (fun h => by cases h), rfl, zdu (by decide) hIl, fun _ _ _ h => h⟩
  ·intro ll bb w' hs hlf hN9 hf hIl hA
   clear hi'
   have q0 := hf.kept (s := 0) (by rw [zdj]; kernel_rfl) k0
   exact Rg.zf (o := ⟨some 110, Op.move (Operand.tmp 0), _, _, _, _⟩) (x := .pointer (some ⟨g, 0, none⟩)) rfl rfl (by clear hA hC hV hN9 hIl; simp only [execOp]; go_simp) ⟨_, rfl, (fun h => by cases h), rfl, zdu (by decide) hIl, fun _ _ _ h => h⟩
  ·intro ll bb w' hs hlf hN9 hf hIl hA
   clear hi'
   have h7 := hN9 7 (by kernel_rfl)
   have hI := hIl.1 h7
   have q110 : bb.tmps[110]? = some _ := hf.tmp (k := 3) rfl (by rw [ha]; decide) (hA 3 (by kernel_rfl))
   refine Rg.jr (o := ⟨some 111, Op.call { callee := Callee.value (Operand.func 11), args := #[Operand.tmp 110, Operand.const (Value.int .i64 0), Operand.const (Value.int .i64 5)], argTypes := _ }, _, _, _, _⟩) rfl rfl (by clear hA hC hV hN9 hIl; simp only [execOp, resolve]; go_simp) (zcy g ao cap bs 0 5 w' hI.1 (by omega) (by omega) (by omega)) ?_
   rintro e w2 ⟨y, rfl, hx0, hx1, hc2, hk2⟩
   exact ⟨_, rfl, _, rfl, (fun h => by cases h), ⟨_, rfl⟩, callY22 (by decide) h7 hIl hc2 hk2, fun _ _ _ h => h⟩
  ·intro ll bb w' hs hlf hN9 hf hIl hA
   clear hi'
   have q108 : bb.tmps[108]? = some _ := hf.tmp (k := 1) rfl (by rw [ha]; decide) (hA 1 (by kernel_rfl))
   have q109 : bb.tmps[109]? = some _ := hf.tmp (k := 2) rfl (by rw [ha]; decide) (hA 2 (by kernel_rfl))
   exact Rg.zf (o := ⟨some 112, Op.indexAddr 24 (Operand.tmp 108) (Operand.tmp 109), _, _, _, _⟩) (x := .pointer (some ⟨G, k * 9, none⟩)) rfl rfl (by clear hA hC hV hN9 hIl; simp only [execOp]; go_simp) ⟨_, rfl, (fun h => by cases h), rfl, zdu (by decide) hIl, fun _ _ _ h => h⟩
  ·intro ll bb w' hs hlf hN9 hf hIl hA
   clear hi'
   have q112 : bb.tmps[112]? = some _ := hf.tmp (k := 5) rfl (by rw [ha]; decide) (hA 5 (by kernel_rfl))
   exact Rg.zf (o := ⟨some 113, Op.fieldAddr 38 (Operand.tmp 112) 7, _, _, _, _⟩) (x := .pointer (some ⟨G, k * 9 + 7, none⟩)) rfl rfl (by clear hA hC hV hN9 hIl; simp only [execOp]; go_simp) ⟨_, rfl, (fun h => by cases h), rfl, zdu (by decide) hIl, fun _ _ _ h => h⟩
  ·intro ll bb w' hs hlf hN9 hf hIl hA
   clear hi'
   have hI := hIl.1 hlf
   obtain ⟨z, hv⟩ := hA 4 (by kernel_rfl)
   have qz : bb.tmps[111]? = some _ := hf.tmp (k := 4) rfl (by rw [ha]; decide) hv
   have qp : bb.tmps[113]? = some _ := hf.tmp (k := 6) rfl (by rw [ha]; decide) (hA 6 (by kernel_rfl))
   obtain ⟨⟨u, e0⟩, f0⟩ := (hV.keep hI.2 hGg).2.1 (k * 9 + 7) (by omega)
   have hE : IY22 w1 g ao cap bs G k (ll.setIfInBounds 7 true) (w'.setCell ⟨G, k * 9 + 7, none⟩ (.int .i64 z)) := ⟨fun h => (by rw [Rg.set_self hs (by rw [zdj]; decide)] at h; cases h), fun _ => ⟨w', z, hI.1, hI.2, rfl⟩⟩
   clear hA hC hV hN9 hIl hf hI hv
   refine Rg.zaq (o := ⟨none, Op.store 2 (Operand.tmp 113) (Operand.tmp 111), _, _, _, _⟩) (w' := w'.setCell ⟨G, k * 9 + 7, none⟩ (.int .i64 z)) rfl rfl ?_ ⟨undef, (by rw [show Rg.ja (Rg.opsOf Tryz.f10 22) 7 = none by kernel_rfl]), (fun _ => trivial), trivial, hE, fun _ _ _ h => h⟩
   clear hE
   simp only [execOp]
   go_simp
theorem layY22 {a b : Act} (hf : Rg.Fr (Rg.opsOf Tryz.f10 22) a b) : b = Rg.fl (Rg.opsOf Tryz.f10 22) b 0 [some 107, some 108, some 109, some 110, some 111, some 112, some 113, none] a := Rg.ql _ (by kernel_rfl) hf
def FY24 (g : Nat) (C G c1 k : Nat) (os : List Od) (i9 : Nat) (v : Value) (w : World) : Prop :=
 match i9 with
 | 0 => v = .pointer (some ⟨C, 0, none⟩)
 | 1 => v = .slice (some ⟨G, 0, none⟩) os.length c1
 | 2 => v = .int .i64 (k : Nat)
 | 3 => v = .pointer (some ⟨g, 0, none⟩)
 | 4 => ∃ z : Int, v = .int .i64 z
 | 5 => v = .pointer (some ⟨G, k * 9, none⟩)
 | 6 => v = .pointer (some ⟨G, k * 9, none⟩)
 | 7 => True
 | _ => True
theorem zdd : (Rg.opsOf Tryz.f10 24).size = 8 := by kernel_rfl
def IY24 (w1 : World) (g : Nat) (ao : Option Addr) (cap : Nat) (bs : List Int) (G k : Nat) (l : Array Bool) (w' : World) : Prop :=
 (l.getD 7 false = false -> Cur w' g ao cap bs /\ Keep g w1 w') /\ (l.getD 7 false = true -> ∃ (wx : World) (z : Int), Cur wx g ao cap bs /\ Keep g w1 wx /\ w' = wx.setCell ⟨G, k * 9, none⟩ (.int .i64 z))
theorem zdo {w1 : World} {g : Nat} {ao : Option Addr} {cap : Nat} {bs : List Int} {G k : Nat} {l : Array Bool} {w : World} {i : Nat} (hi : i ≠ 7) (h : IY24 w1 g ao cap bs G k l w) : IY24 w1 g ao cap bs G k (l.setIfInBounds i true) w := by
 unfold IY24
 rw [Rg.jk hi]
 exact h
theorem callY24 {w1 : World} {g : Nat} {ao : Option Addr} {cap : Nat} {bs : List Int} {G k : Nat} {l : Array Bool} {w w' : World} {i : Nat} (hi : i ≠ 7) (h9 : l.getD 7 false = false) (h : IY24 w1 g ao cap bs G k l w) (hc : Cur w' g ao cap bs) (hk : Keep g w w') : IY24 w1 g ao cap bs G k (l.setIfInBounds i true) w' := by
 unfold IY24
 rw [Rg.jk hi, h9]
 exact ⟨fun _ => ⟨hc, (h.1 h9).2.trans hk⟩, fun q => by cases q⟩
set_option maxRecDepth 20000 in
set_option maxHeartbeats 16000000 in
theorem regY24 {Q : Exit -> Act -> World -> Prop} {a : Act} {w1 : World} {g : Nat} {ao : Option Addr} {cap : Nat} {bs : List Int} {C G c1 k : Nat} {os : List Od} {vd : Value} (ha : a.tmps.size = 170)
  (k0 : a.tmps[0]? = some (.pointer (some ⟨g, 0, none⟩))) (k4 : a.tmps[4]? = some (.pointer (some ⟨C, 0, none⟩))) (k7 : a.tmps[7]? = some (.int .i64 (k : Nat))) (hc : Cur w1 g ao cap bs) (hC : PB w1 C #[.slice (some ⟨G, 0, none⟩) os.length c1, vd] 27) (hCg : C ≠ g) (hGg : G ≠ g) (hV : zak 9 jd w1 G os.length os os.length) (hk : k < os.length) (hn : os.length <= 1048576)
  (hend : ∀ b' wx (z : Int), Rg.Fr (Rg.opsOf Tryz.f10 24) a b' -> Cur wx g ao cap bs -> Keep g w1 wx -> Q .normal b' (wx.setCell ⟨G, k * 9, none⟩ (.int .i64 z))) :
  (Code.region 24 (Rg.opsOf Tryz.f10 24) true).wp Tryz.prog Q a w1 := by
 refine Rg.zeu (by kernel_rfl) (IY24 w1 g ao cap bs G k) (FY24 g C G c1 k os) (by rw [ha, zdd]; kernel_rfl) ⟨fun _ => ⟨hc.drewN 1, (Keep.refl g w1).drewN 1⟩, fun h => (by rw [Rg.zaz] at h; cases h)⟩ ?_ ?_
 case refine_2 =>
  intro l b' w' hf hall hI hA
  rw [zdd] at hall
  obtain ⟨wx, z, i1, i2, rfl⟩ := hI.2 (hall 7 (by omega))
  exact hend b' wx z hf i1 i2
 case refine_1 =>
  clear hend
  intro i' hi'
  rw [zdd] at hi'
  rcases (show i' = 0 ∨ i' = 1 ∨ i' = 2 ∨ i' = 3 ∨ i' = 4 ∨ i' = 5 ∨ i' = 6 ∨ i' = 7 by omega) with rfl | rfl | rfl | rfl | rfl | rfl | rfl | rfl
  ·intro ll bb w' hs hlf hN9 hf hIl hA
   clear hi'
   have q4 := hf.kept (s := 4) (by rw [zdd]; kernel_rfl) k4
   exact Rg.zf (o := ⟨some 116, Op.fieldAddr 27 (Operand.tmp 4) 0, _, _, _, _⟩) (x := .pointer (some ⟨C, 0, none⟩)) rfl rfl (by clear hA hC hV hN9 hIl; simp only [execOp]; go_simp) ⟨_, rfl, (fun h => by cases h), rfl, zdo (by decide) hIl, fun _ _ _ h => h⟩
  ·intro ll bb w' hs hlf hN9 hf hIl hA
   clear hi'
   have h7 := hN9 7 (by kernel_rfl)
   have hI := hIl.1 h7
   have q116 : bb.tmps[116]? = some _ := hf.tmp (k := 0) rfl (by rw [ha]; decide) (hA 0 (by kernel_rfl))
   obtain ⟨e0, e1⟩ := (hC.keep hI.2 hCg).two
   exact Rg.zf (o := ⟨some 117, Op.load 24 (Operand.tmp 116), _, _, _, _⟩) (x := .slice (some ⟨G, 0, none⟩) os.length c1) rfl rfl (by clear hA hC hV hN9 hIl; simp only [execOp]; go_simp) ⟨_, rfl, (fun h => by cases h), rfl, zdo (by decide) hIl, fun _ _ _ h => h⟩
  ·intro ll bb w' hs hlf hN9 hf hIl hA
   clear hi'
   have q7 := hf.kept (s := 7) (by rw [zdd]; kernel_rfl) k7
   exact Rg.zf (o := ⟨some 118, Op.move (Operand.tmp 7), _, _, _, _⟩) (x := .int .i64 (k : Nat)) rfl rfl (by clear hA hC hV hN9 hIl; simp only [execOp]; go_simp) ⟨_, rfl, (fun h => by cases h), rfl, zdo (by decide) hIl, fun _ _ _ h => h⟩
  ·intro ll bb w' hs hlf hN9 hf hIl hA
   clear hi'
   have q0 := hf.kept (s := 0) (by rw [zdd]; kernel_rfl) k0
   exact Rg.zf (o := ⟨some 119, Op.move (Operand.tmp 0), _, _, _, _⟩) (x := .pointer (some ⟨g, 0, none⟩)) rfl rfl (by clear hA hC hV hN9 hIl; simp only [execOp]; go_simp) ⟨_, rfl, (fun h => by cases h), rfl, zdo (by decide) hIl, fun _ _ _ h => h⟩
  ·intro ll bb w' hs hlf hN9 hf hIl hA
   clear hi'
   have h7 := hN9 7 (by kernel_rfl)
   have hI := hIl.1 h7
   have q119 : bb.tmps[119]? = some _ := hf.tmp (k := 3) rfl (by rw [ha]; decide) (hA 3 (by kernel_rfl))
   refine Rg.jr (o := ⟨some 120, Op.call { callee := Callee.value (Operand.func 11), args := #[Operand.tmp 119, Operand.const (Value.int .i64 0), Operand.const (Value.int .i64 7)], argTypes := _ }, _, _, _, _⟩) rfl rfl (by clear hA hC hV hN9 hIl; simp only [execOp, resolve]; go_simp) (zcy g ao cap bs 0 7 w' hI.1 (by omega) (by omega) (by omega)) ?_
   rintro e w2 ⟨y, rfl, hx0, hx1, hc2, hk2⟩
   exact ⟨_, rfl, _, rfl, (fun h => by cases h), ⟨_, rfl⟩, callY24 (by decide) h7 hIl hc2 hk2, fun _ _ _ h => h⟩
  ·intro ll bb w' hs hlf hN9 hf hIl hA
   clear hi'
   have q117 : bb.tmps[117]? = some _ := hf.tmp (k := 1) rfl (by rw [ha]; decide) (hA 1 (by kernel_rfl))
   have q118 : bb.tmps[118]? = some _ := hf.tmp (k := 2) rfl (by rw [ha]; decide) (hA 2 (by kernel_rfl))
   exact Rg.zf (o := ⟨some 121, Op.indexAddr 24 (Operand.tmp 117) (Operand.tmp 118), _, _, _, _⟩) (x := .pointer (some ⟨G, k * 9, none⟩)) rfl rfl (by clear hA hC hV hN9 hIl; simp only [execOp]; go_simp) ⟨_, rfl, (fun h => by cases h), rfl, zdo (by decide) hIl, fun _ _ _ h => h⟩
  ·intro ll bb w' hs hlf hN9 hf hIl hA
   clear hi'
   have q121 : bb.tmps[121]? = some _ := hf.tmp (k := 5) rfl (by rw [ha]; decide) (hA 5 (by kernel_rfl))
   exact Rg.zf (o := ⟨some 122, Op.fieldAddr 38 (Operand.tmp 121) 0, _, _, _, _⟩) (x := .pointer (some ⟨G, k * 9, none⟩)) rfl rfl (by clear hA hC hV hN9 hIl; simp only [execOp]; go_simp) ⟨_, rfl, (fun h => by cases h), rfl, zdo (by decide) hIl, fun _ _ _ h => h⟩
  ·intro ll bb w' hs hlf hN9 hf hIl hA
   clear hi'
   have hI := hIl.1 hlf
   obtain ⟨z, hv⟩ := hA 4 (by kernel_rfl)
   have qz : bb.tmps[120]? = some _ := hf.tmp (k := 4) rfl (by rw [ha]; decide) hv
   have qp : bb.tmps[122]? = some _ := hf.tmp (k := 6) rfl (by rw [ha]; decide) (hA 6 (by kernel_rfl))
   obtain ⟨⟨u, e0⟩, f0⟩ := (hV.keep hI.2 hGg).2.1 (k * 9) (by omega)
   have hE : IY24 w1 g ao cap bs G k (ll.setIfInBounds 7 true) (w'.setCell ⟨G, k * 9, none⟩ (.int .i64 z)) := ⟨fun h => (by rw [Rg.set_self hs (by rw [zdd]; decide)] at h; cases h), fun _ => ⟨w', z, hI.1, hI.2, rfl⟩⟩
   clear hA hC hV hN9 hIl hf hI hv
   refine Rg.zaq (o := ⟨none, Op.store 2 (Operand.tmp 122) (Operand.tmp 120), _, _, _, _⟩) (w' := w'.setCell ⟨G, k * 9, none⟩ (.int .i64 z)) rfl rfl ?_ ⟨undef, (by rw [show Rg.ja (Rg.opsOf Tryz.f10 24) 7 = none by kernel_rfl]), (fun _ => trivial), trivial, hE, fun _ _ _ h => h⟩
   clear hE
   simp only [execOp]
   go_simp
theorem layY24 {a b : Act} (hf : Rg.Fr (Rg.opsOf Tryz.f10 24) a b) : b = Rg.fl (Rg.opsOf Tryz.f10 24) b 0 [some 116, some 117, some 118, some 119, some 120, some 121, some 122, none] a := Rg.ql _ (by kernel_rfl) hf
end Go.Proofs.YtjlpfpigggdemaaGreatDoor
namespace Go.Proofs.YtjlpfpigggdemaaGreatDoor
open Go.RowKit Va Uo
set_option linter.all false
def FY15 (n1 g : Nat) (G n : Nat) (i9 : Nat) (v : Value) (w : World) : Prop :=
 match i9 with
 | 0 => v = .pointer (some ⟨G, n * 5, none⟩)
 | 1 => v = .pointer (some ⟨G, n * 5, none⟩)
 | 2 => v = .pointer (some ⟨G, n * 5, none⟩)
 | 3 => v = .pointer (some ⟨G, n * 5 + 3, none⟩)
 | 4 => ∃ z : Int, v = .int .i64 z
 | 5 => ∃ T zs, v = .slice (some ⟨T, 0, none⟩) 4 4 /\ zs.length = 4 /\ n1 <= T /\ Tb g w T zs
 | 6 => v = .pointer (some ⟨g, 0, none⟩)
 | 7 => ∃ j : Nat, v = .int .i64 j /\ j < 4
 | 8 => ∃ T j zs, v = .pointer (some ⟨T, j, none⟩) /\ j < zs.length /\ n1 <= T /\ Tb g w T zs
 | 9 => ∃ z : Int, v = .int .i64 z
 | 10 => v = .pointer (some ⟨G, n * 5, none⟩)
 | 11 => v = .pointer (some ⟨G, n * 5 + 4, none⟩)
 | 12 => True
 | _ => True
theorem zc2 : (Rg.opsOf Tryz.f10 15).size = 13 := by kernel_rfl
theorem zh5 {n1 g : Nat} {G n : Nat} {w w' : World} (hk : Keep g w w') (k9 : Nat) (v : Value) (h : FY15 n1 g G n k9 v w) : FY15 n1 g G n k9 v w' := by
 unfold FY15 at *
 split at h <;> first
  | exact h
  | (obtain ⟨T, zs, h1, h2, h3, h4⟩ := h; exact ⟨T, zs, h1, h2, h3, h4.keep hk⟩)
  | (obtain ⟨T, j, zs, h1, h2, h3, h4⟩ := h; exact ⟨T, j, zs, h1, h2, h3, h4.keep hk⟩)
theorem setY15 {n1 g : Nat} {G n : Nat} {w : World} (hG : G < n1) (i : Nat) (u : Value) (k9 : Nat) (v : Value) (h : FY15 n1 g G n k9 v w) : FY15 n1 g G n k9 v (w.setCell ⟨G, i, none⟩ u) := by
 unfold FY15 at *
 split at h <;> first
  | exact h
  | (obtain ⟨T, zs, h1, h2, h3, h4⟩ := h; exact ⟨T, zs, h1, h2, h3, h4.1, h4.2.far (b := G) (by omega) i u⟩)
  | (obtain ⟨T, j, zs, h1, h2, h3, h4⟩ := h; exact ⟨T, j, zs, h1, h2, h3, h4.1, h4.2.far (b := G) (by omega) i u⟩)
def IY15 (w1 : World) (g : Nat) (ao : Option Addr) (cap : Nat) (bs : List Int) (G n : Nat) (l : Array Bool) (w' : World) : Prop :=
 (l.getD 12 false = false -> Cur w' g ao cap bs /\ Keep g w1 w') /\ (l.getD 12 false = true -> ∃ (wx : World) (z : Int), Cur wx g ao cap bs /\ Keep g w1 wx /\ w' = wx.setCell ⟨G, n * 5 + 4, none⟩ (.int .i64 z))
theorem zb2 {w1 : World} {g : Nat} {ao : Option Addr} {cap : Nat} {bs : List Int} {G n : Nat} {l : Array Bool} {w : World} {i : Nat} (hi : i ≠ 12) (h : IY15 w1 g ao cap bs G n l w) : IY15 w1 g ao cap bs G n (l.setIfInBounds i true) w := by
 unfold IY15
 rw [Rg.jk hi]
 exact h
theorem zgy {w1 : World} {g : Nat} {ao : Option Addr} {cap : Nat} {bs : List Int} {G n : Nat} {l : Array Bool} {w w' : World} {i : Nat} (hi : i ≠ 12) (h9 : l.getD 12 false = false) (h : IY15 w1 g ao cap bs G n l w) (hc : Cur w' g ao cap bs) (hk : Keep g w w') : IY15 w1 g ao cap bs G n (l.setIfInBounds i true) w' := by
 unfold IY15
 rw [Rg.jk hi, h9]
 exact ⟨fun _ => ⟨hc, (h.1 h9).2.trans hk⟩, fun q => by cases q⟩
set_option maxRecDepth 20000 in
set_option maxHeartbeats 16000000 in
theorem regY15 {Q : Exit -> Act -> World -> Prop} {a : Act} {w1 : World} {g : Nat} {ao : Option Addr} {cap : Nat} {bs : List Int} {G n : Nat} {ds : List Ds} (ha : a.tmps.size = 170)
  (k0 : a.tmps[0]? = some (.pointer (some ⟨g, 0, none⟩))) (k6 : a.tmps[6]? = some (.pointer (some ⟨G, n * 5, none⟩))) (hc : Cur w1 g ao cap bs) (hGg : G ≠ g) (hGl : G < w1.heap.size) (hV : zak 5 jy w1 G ds.length ds ds.length) (hn : n < ds.length)
  (hend : ∀ b' wx (z : Int), Rg.Fr (Rg.opsOf Tryz.f10 15) a b' -> Cur wx g ao cap bs -> Keep g w1 wx -> Q .normal b' (wx.setCell ⟨G, n * 5 + 4, none⟩ (.int .i64 z))) :
  (Code.region 15 (Rg.opsOf Tryz.f10 15) true).wp Tryz.prog Q a w1 := by
 refine Rg.zeu (by kernel_rfl) (IY15 w1 g ao cap bs G n) (FY15 w1.heap.size g G n) (by rw [ha, zc2]; kernel_rfl) ⟨fun _ => ⟨hc.drewN 1, (Keep.refl g w1).drewN 1⟩, fun h => (by rw [Rg.zaz] at h; cases h)⟩ ?_ ?_
 case refine_2 =>
  intro l b' w' hf hall hI hA
  rw [zc2] at hall
  obtain ⟨wx, z, i1, i2, rfl⟩ := hI.2 (hall 12 (by omega))
  exact hend b' wx z hf i1 i2
 case refine_1 =>
  clear hend
  intro i' hi'
  rw [zc2] at hi'
  rcases (show i' = 0 ∨ i' = 1 ∨ i' = 2 ∨ i' = 3 ∨ i' = 4 ∨ i' = 5 ∨ i' = 6 ∨ i' = 7 ∨ i' = 8 ∨ i' = 9 ∨ i' = 10 ∨ i' = 11 ∨ i' = 12 by omega) with rfl | rfl | rfl | rfl | rfl | rfl | rfl | rfl | rfl | rfl | rfl | rfl | rfl
  ·intro ll bb w' hs hlf hN9 hf hIl hA
   clear hi'
   have q6 := hf.kept (s := 6) (by rw [zc2]; kernel_rfl) k6
   exact Rg.zf (o := ⟨some 72, Op.move (Operand.tmp 6), _, _, _, _⟩) (x := .pointer (some ⟨G, n * 5, none⟩)) rfl rfl (by clear hA hV hN9 hIl; simp only [execOp]; go_simp) ⟨_, rfl, (fun h => by cases h), rfl, zb2 (by decide) hIl, fun _ _ _ h => h⟩
  ·intro ll bb w' hs hlf hN9 hf hIl hA
   clear hi'
   have q6 := hf.kept (s := 6) (by rw [zc2]; kernel_rfl) k6
   exact Rg.zf (o := ⟨some 73, Op.move (Operand.tmp 6), _, _, _, _⟩) (x := .pointer (some ⟨G, n * 5, none⟩)) rfl rfl (by clear hA hV hN9 hIl; simp only [execOp]; go_simp) ⟨_, rfl, (fun h => by cases h), rfl, zb2 (by decide) hIl, fun _ _ _ h => h⟩
  ·intro ll bb w' hs hlf hN9 hf hIl hA
   clear hi'
   have q73 : bb.tmps[73]? = some _ := hf.tmp (k := 1) rfl (by rw [ha]; decide) (hA 1 (by kernel_rfl))
   exact Rg.zf (o := ⟨some 74, Op.nilCheck (Operand.tmp 73), _, _, _, _⟩) (x := .pointer (some ⟨G, n * 5, none⟩)) rfl rfl (by clear hA hV hN9 hIl; simp only [execOp]; go_simp) ⟨_, rfl, (fun h => by cases h), rfl, zb2 (by decide) hIl, fun _ _ _ h => h⟩
  ·intro ll bb w' hs hlf hN9 hf hIl hA
   clear hi'
   have q74 : bb.tmps[74]? = some _ := hf.tmp (k := 2) rfl (by rw [ha]; decide) (hA 2 (by kernel_rfl))
   exact Rg.zf (o := ⟨some 75, Op.fieldAddr 35 (Operand.tmp 74) 3, _, _, _, _⟩) (x := .pointer (some ⟨G, n * 5 + 3, none⟩)) rfl rfl (by clear hA hV hN9 hIl; simp only [execOp]; go_simp) ⟨_, rfl, (fun h => by cases h), rfl, zb2 (by decide) hIl, fun _ _ _ h => h⟩
  ·intro ll bb w' hs hlf hN9 hf hIl hA
   clear hi'
   have h7 := hN9 12 (by kernel_rfl)
   have hI := hIl.1 h7
   have q75 : bb.tmps[75]? = some _ := hf.tmp (k := 3) rfl (by rw [ha]; decide) (hA 3 (by kernel_rfl))
   have hx := List.getElem?_eq_getElem hn
   generalize ds[n] = y at hx
   have e3 : w'.cell? ⟨G, n * 5 + 3, none⟩ = some (.int .i64 y.b) := (hV.keep hI.2 hGg).2.2 n y hn hx 3 (by decide)
   exact Rg.zf (o := ⟨some 76, Op.load 2 (Operand.tmp 75), _, _, _, _⟩) (x := .int .i64 y.b) rfl rfl (by clear hA hV hN9 hIl hx; simp only [execOp]; go_simp) ⟨_, rfl, (fun h => by cases h), ⟨_, rfl⟩, zb2 (by decide) hIl, fun _ _ _ h => h⟩
  ·intro ll bb w' hs hlf hN9 hf hIl hA
   clear hi'
   have h7 := hN9 12 (by kernel_rfl)
   have hI := hIl.1 h7
   obtain ⟨z, hv⟩ := hA 4 (by kernel_rfl)
   have q76 : bb.tmps[76]? = some _ := hf.tmp (k := 4) rfl (by rw [ha]; decide) hv
   have hK : Keep g w' (w'.alloc (.cells #[.int .i64 (-2), .int .i64 (-1), .int .i64 z, .int .i64 6] 2)) := (Keep.refl g w').alloc _
   have hT := Tb.new (g := g) (w := w') [-2, -1, z, 6] hI.1.1
   exact Rg.zf (o := ⟨some 77, Op.buildSlice 46 4 #[(0, (Operand.const (Value.int .i64 (-2)))), (1, (Operand.const (Value.int .i64 (-1)))), (2, (Operand.tmp 76)), (3, (Operand.const (Value.int .i64 6)))], _, _, _, _⟩) (x := .slice (some ⟨w'.heap.size, 0, none⟩) 4 4) (w' := w'.alloc (.cells #[.int .i64 (-2), .int .i64 (-1), .int .i64 z, .int .i64 6] 2)) rfl rfl (by clear hA hV hN9 hIl hv; simp only [execOp]; go_simp) ⟨_, rfl, (fun h => by cases h), ⟨_, _, rfl, rfl, hI.2.size, hT⟩, zgy (by decide) h7 hIl (hI.1.alloc _) hK, fun k9 y9 _ h => zh5 hK k9 y9 h⟩
  ·intro ll bb w' hs hlf hN9 hf hIl hA
   clear hi'
   have q0 := hf.kept (s := 0) (by rw [zc2]; kernel_rfl) k0
   exact Rg.zf (o := ⟨some 78, Op.move (Operand.tmp 0), _, _, _, _⟩) (x := .pointer (some ⟨g, 0, none⟩)) rfl rfl (by clear hA hV hN9 hIl; simp only [execOp]; go_simp) ⟨_, rfl, (fun h => by cases h), rfl, zb2 (by decide) hIl, fun _ _ _ h => h⟩
  ·intro ll bb w' hs hlf hN9 hf hIl hA
   clear hi'
   have h7 := hN9 12 (by kernel_rfl)
   have hI := hIl.1 h7
   have q78 : bb.tmps[78]? = some _ := hf.tmp (k := 6) rfl (by rw [ha]; decide) (hA 6 (by kernel_rfl))
   refine Rg.jr (o := ⟨some 79, Op.call { callee := Callee.value (Operand.func 13), args := #[Operand.tmp 78, Operand.const (Value.int .i64 4)], argTypes := _ }, _, _, _, _⟩) rfl rfl (by clear hA hV hN9 hIl; simp only [execOp, resolve]; go_simp) (qh g ao cap bs 4 w' hI.1 (by omega)) ?_
   rintro e w2 ⟨y, rfl, hx0, hx1, hc2, hk2⟩
   obtain ⟨j, rfl⟩ := Int.eq_ofNat_of_zero_le hx0
   exact ⟨_, rfl, _, rfl, (fun h => by cases h), ⟨j, rfl, by omega⟩, zgy (by decide) h7 hIl hc2 hk2, fun k9 y9 _ h => zh5 hk2 k9 y9 h⟩
  ·intro ll bb w' hs hlf hN9 hf hIl hA
   clear hi'
   obtain ⟨T, zs, hv, hl, hT, hb⟩ := hA 5 (by kernel_rfl)
   have q77 : bb.tmps[77]? = some _ := hf.tmp (k := 5) rfl (by rw [ha]; decide) hv
   obtain ⟨j, hv2, hj⟩ := hA 7 (by kernel_rfl)
   have q79 : bb.tmps[79]? = some _ := hf.tmp (k := 7) rfl (by rw [ha]; decide) hv2
   have hnl : (j : Int) < 4 := by omega
   exact Rg.zf (o := ⟨some 80, Op.indexAddr 46 (Operand.tmp 77) (Operand.tmp 79), _, _, _, _⟩) (x := .pointer (some ⟨T, j, none⟩)) rfl rfl (by clear hA hV hN9 hIl hv hv2 hb hl; simp only [execOp]; go_simp) ⟨_, rfl, (fun h => by cases h), ⟨T, j, zs, rfl, by omega, hT, hb⟩, zb2 (by decide) hIl, fun _ _ _ h => h⟩
  ·intro ll bb w' hs hlf hN9 hf hIl hA
   clear hi'
   obtain ⟨T, j, zs, hv, hl, hT, hb⟩ := hA 8 (by kernel_rfl)
   have q80 : bb.tmps[80]? = some _ := hf.tmp (k := 8) rfl (by rw [ha]; decide) hv
   have hcell := hb.at hl
   generalize hz : zs[j] = z at hcell
   exact Rg.zf (o := ⟨some 81, Op.load 2 (Operand.tmp 80), _, _, _, _⟩) (x := .int .i64 z) rfl rfl (by clear hA hV hN9 hIl hv hb hz; simp only [execOp]; go_simp) ⟨_, rfl, (fun h => by cases h), ⟨z, rfl⟩, zb2 (by decide) hIl, fun _ _ _ h => h⟩
  ·intro ll bb w' hs hlf hN9 hf hIl hA
   clear hi'
   have q72 : bb.tmps[72]? = some _ := hf.tmp (k := 0) rfl (by rw [ha]; decide) (hA 0 (by kernel_rfl))
   exact Rg.zf (o := ⟨some 82, Op.nilCheck (Operand.tmp 72), _, _, _, _⟩) (x := .pointer (some ⟨G, n * 5, none⟩)) rfl rfl (by clear hA hV hN9 hIl; simp only [execOp]; go_simp) ⟨_, rfl, (fun h => by cases h), rfl, zb2 (by decide) hIl, fun _ _ _ h => h⟩
  ·intro ll bb w' hs hlf hN9 hf hIl hA
   clear hi'
   have q82 : bb.tmps[82]? = some _ := hf.tmp (k := 10) rfl (by rw [ha]; decide) (hA 10 (by kernel_rfl))
   exact Rg.zf (o := ⟨some 83, Op.fieldAddr 35 (Operand.tmp 82) 4, _, _, _, _⟩) (x := .pointer (some ⟨G, n * 5 + 4, none⟩)) rfl rfl (by clear hA hV hN9 hIl; simp only [execOp]; go_simp) ⟨_, rfl, (fun h => by cases h), rfl, zb2 (by decide) hIl, fun _ _ _ h => h⟩
  ·intro ll bb w' hs hlf hN9 hf hIl hA
   clear hi'
   have hI := hIl.1 hlf
   obtain ⟨z, hv⟩ := hA 9 (by kernel_rfl)
   have qz : bb.tmps[81]? = some _ := hf.tmp (k := 9) rfl (by rw [ha]; decide) hv
   have qp : bb.tmps[83]? = some _ := hf.tmp (k := 11) rfl (by rw [ha]; decide) (hA 11 (by kernel_rfl))
   obtain ⟨⟨u, e0⟩, f0⟩ := (hV.keep hI.2 hGg).2.1 (n * 5 + 4) (by omega)
   have hE : IY15 w1 g ao cap bs G n (ll.setIfInBounds 12 true) (w'.setCell ⟨G, n * 5 + 4, none⟩ (.int .i64 z)) := ⟨fun h => (by rw [Rg.set_self hs (by rw [zc2]; decide)] at h; cases h), fun _ => ⟨w', z, hI.1, hI.2, rfl⟩⟩
   have hS : ∀ k9 y9, FY15 w1.heap.size g G n k9 y9 w' -> FY15 w1.heap.size g G n k9 y9 (w'.setCell ⟨G, n * 5 + 4, none⟩ (.int .i64 z)) := fun k9 y9 h => setY15 hGl (n * 5 + 4) _ k9 y9 h
   clear hA hV hN9 hIl hf hI hv
   refine Rg.zaq (o := ⟨none, Op.store 2 (Operand.tmp 83) (Operand.tmp 81), _, _, _, _⟩) (w' := w'.setCell ⟨G, n * 5 + 4, none⟩ (.int .i64 z)) rfl rfl ?_ ⟨undef, (by rw [show Rg.ja (Rg.opsOf Tryz.f10 15) 12 = none by kernel_rfl]), (fun _ => trivial), trivial, hE, fun k9 y9 _ h => hS k9 y9 h⟩
   clear hE hS
   simp only [execOp]
   go_simp
theorem layY15 {a b : Act} (hf : Rg.Fr (Rg.opsOf Tryz.f10 15) a b) : b = Rg.fl (Rg.opsOf Tryz.f10 15) b 0 [some 72, some 73, some 74, some 75, some 76, some 77, some 78, some 79, some 80, some 81, some 82, some 83, none] a := Rg.ql _ (by kernel_rfl) hf
end Go.Proofs.YtjlpfpigggdemaaGreatDoor
namespace Go.Proofs.YtjlpfpigggdemaaGreatDoor
open Go.RowKit Va Uo Go.WideShapes
set_option linter.all false
theorem zg8 {w : World} {base : Nat} {v1 v2 : Value} {B : List Od} {S : List Ds} (h : Cp.zo w base v1 v2 B S) : Apart v1 v2 /\ Apart v2 v1 := by
 have h1 := zgi h.1 h.2 (by decide)
 have h2 := zgi h.2 h.1 (by decide)
 refine ⟨fun j hj e => ?_, fun j hj e => ?_⟩
 ·rcases h1 with q | q
  ·rw [hj] at q; cases q
  ·exact q (hj.trans e.symm)
 ·rcases h2 with q | q
  ·rw [hj] at q; cases q
  ·exact q (hj.trans e.symm)
end Go.Proofs.YtjlpfpigggdemaaGreatDoor
namespace Go.Proofs.YtjlpfpigggdemaaGreatDoor
open Go.RowKit Va Uo
set_option linter.all false
structure SC (w0 W : World) (g R C : Nat) (ao : Option Addr) (cap : Nat) (bs : List Int) (cb : Array Value) (vo vd : Value) (os : List Od) (ds : List Ds) : Prop where
 cur : Cur W g ao cap bs
 keep : Keep g w0 W
 r : PB W R #[.slice none 0 0, .slice none 0 0] 27
 c : PB W C cb 27
 new : Cp.zo W w0.heap.size vo vd os ds
 rc : C ≠ R
 old : w0.heap.size <= R /\ w0.heap.size <= C
 gg : g < w0.heap.size
section
variable {w0 W W' : World} {g R C : Nat} {ao : Option Addr} {cap : Nat} {bs : List Int} {cb : Array Value} {vo vd : Value} {os : List Od} {ds : List Ds}
theorem SC.call (h : SC w0 W g R C ao cap bs cb vo vd os ds) (hc : Cur W' g ao cap bs) (hk : Keep g W W') : SC w0 W' g R C ao cap bs cb vo vd os ds := by
 have := h.old
 have := h.gg
 exact ⟨hc, h.keep.trans hk, h.r.keep hk (by omega), h.c.keep hk (by omega), zco h.new hk h.gg, h.rc, h.old, h.gg⟩
theorem SC.alloc (h : SC w0 W g R C ao cap bs cb vo vd os ds) (o : Obj) : SC w0 (W.alloc o) g R C ao cap bs cb vo vd os ds := h.call (h.cur.alloc o) ((Keep.refl g W).alloc o)
theorem SC.grown {row : Option Nat} {vo' vd' : Value} {os' : List Od} {ds' : List Ds} (h : SC w0 W g R C ao cap bs cb vo vd os ds) (hg : W.grownBy W' row) (hr : ∀ k, row = some k -> w0.heap.size <= k /\ k ≠ R /\ k ≠ C) (hN : Cp.zo W' w0.heap.size vo' vd' os' ds') : SC w0 W' g R C ao cap bs cb vo' vd' os' ds' := by
 have h1 := h.old
 have h2 := h.gg
 have h3 := h.keep.size
 refine ⟨h.cur.below ⟨hg.os, hg.tape, hg.output, hg.size, fun j hj => hg.block j (by omega) (fun e => by have := (hr j e.symm).1; omega)⟩, ⟨hg.os.trans h.keep.os, hg.tape.trans h.keep.tape, hg.output.trans h.keep.output, Nat.le_trans h3 hg.size, fun b hb hbg => (hg.block b (by omega) (fun e => by have := (hr b e.symm).1; omega)).trans (h.keep.block b hb hbg)⟩, ?_, ?_, hN, h.rc, h.old, h.gg⟩
 ·exact (hg.block R h.r.lt (fun e => (hr R e.symm).2.1 rfl)).trans h.r
 ·exact (hg.block C h.c.lt (fun e => (hr C e.symm).2.2 rfl)).trans h.c
theorem SC.rowD (h : SC w0 W g R C ao cap bs cb vo vd os ds) : ∀ k, vd.ownBlock = some k -> w0.heap.size <= k /\ k ≠ R /\ k ≠ C := fun k hk =>
 ⟨(h.new.2.lt k hk).1, fun e => jb h.new.2 h.r (by decide) (e ▸ hk), fun e => jb h.new.2 h.c (by decide) (e ▸ hk)⟩
theorem SC.rowO (h : SC w0 W g R C ao cap bs cb vo vd os ds) : ∀ k, vo.ownBlock = some k -> w0.heap.size <= k /\ k ≠ R /\ k ≠ C := fun k hk =>
 ⟨(h.new.1.lt k hk).1, fun e => jb h.new.1 h.r (by decide) (e ▸ hk), fun e => jb h.new.1 h.c (by decide) (e ▸ hk)⟩
theorem zhi {α : Type} (s : Nat) (cs : α -> Nat -> Value) (l : List α) (y : α) : zt s cs (l ++ [y]) = zt s cs l ++ (List.range s).map (fun k => cs y k) := by simp [zt]
theorem SC.appD {v' : Value} {y : Ds} (h : SC w0 W g R C ao cap bs cb vo vd os ds) (ho : W'.ownsRow w0.heap.size 35 5 v' (ds.length + 1) (zt 5 jy ds ++ (List.range 5).map (fun k => jy y k))) (hg : W.grownBy W' vd.ownBlock) : SC w0 W' g R C ao cap bs cb vo v' os (ds ++ [y]) := by
 have ha := (zg8 h.new).1
 refine h.grown hg h.rowD ⟨h.new.1.kept hg ?_, ?_⟩
 ·cases hq : vo.ownBlock with
  | none => exact Or.inl rfl
  | some j => exact Or.inr (fun e => ha j hq e.symm)
 ·rw [zhi, List.length_append]
  exact ho
theorem SC.appO {v' : Value} {y : Od} (h : SC w0 W g R C ao cap bs cb vo vd os ds) (ho : W'.ownsRow w0.heap.size 38 9 v' (os.length + 1) (zt 9 jd os ++ (List.range 9).map (fun k => jd y k))) (hg : W.grownBy W' vo.ownBlock) : SC w0 W' g R C ao cap bs cb v' vd (os ++ [y]) ds := by
 have ha := (zg8 h.new).2
 refine h.grown hg h.rowO ⟨?_, h.new.2.kept hg ?_⟩
 ·rw [zhi, List.length_append]
  exact ho
 ·cases hq : vd.ownBlock with
  | none => exact Or.inl rfl
  | some j => exact Or.inr (fun e => ha j hq e.symm)
theorem SC.put (h : SC w0 W g R C ao cap bs cb vo vd os ds) (j : Nat) (u : Value) {cb' : Array Value} (e : cb.setIfInBounds j u = cb') : SC w0 (W.setCell ⟨C, j, none⟩ u) g R C ao cap bs cb' vo vd os ds := by
 have := h.old
 have := h.gg
 exact ⟨h.cur.far (by omega) u, Keep.far (n := 0) h.keep h.old.2 u, h.r.far h.rc j u, h.c.put j u e, zaf h.new h.c (by decide) (by decide) j u, h.rc, h.old, h.gg⟩
end
end Go.Proofs.YtjlpfpigggdemaaGreatDoor
