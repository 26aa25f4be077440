/-
 Merged: U75 U76 U80.
-/
import Derived.Test.YtjlpfpigggdemaaDoorMh41
import Derived.Test.YtjlpfpigggdemaaDoorMh5
import Derived.Test.YtjlpfpigggdemaaDoorMh37
namespace Go.Proofs.YtjlpfpigggdemaaDoor
set_option maxRecDepth 8000
set_option maxHeartbeats 4000000
open Go.RowKit Va Uo
set_option linter.all false
theorem zjb {P : Program} {fn : Func} {p q : Tmp} {ty tz : TypeId} (h : fn.results = #[.cell p ty, .cell q tz]) (tmps : Array Value) (w : World) (g g2 : Nat) (t t2 : TypeId) (cs cs2 : Array Value) (d d2 : TypeDesc)
  (hp : tmps.getD p undef = .pointer (some ⟨g, 0, none⟩)) (hg : PB w g cs t) (hu : P.underlying ty = some d) (hd : (match d with | .struct _ | .array _ _ => true | _ => false) = true) (hi : (P.info? ty).map (·.size) = some cs.size)
  (hp2 : tmps.getD q undef = .pointer (some ⟨g2, 0, none⟩)) (hg2 : PB w g2 cs2 t2) (hu2 : P.underlying tz = some d2) (hd2 : (match d2 with | .struct _ | .array _ _ => true | _ => false) = true) (hi2 : (P.info? tz).map (·.size) = some cs2.size) :
  (results fn tmps).run P w = .ok (.tuple #[.agg cs, .agg cs2]) w := by
 have hl := run_loadVar_row (P := P) w g t ty cs _ d hg hu hd hi
 have hl2 := run_loadVar_row (P := P) w g2 t2 tz cs2 _ d2 hg2 hu2 hd2 hi2
 have e : (results fn tmps).run P w = ((asAddr (tmps.getD p undef)).run P w).andThen fun a w₁ => ((loadVar ty a).run P w₁).andThen fun z w₂ => ((asAddr (tmps.getD q undef)).run P w₂).andThen fun a2 w₃ => ((loadVar tz a2).run P w₃).andThen fun z2 w₄ => .ok (.tuple #[z, z2]) w₄ := by
  simp only [results, h]
  simp [Sem.run_bind, Result.andThen]
 rw [e, hp, hp2]
 simp [asAddr, hl, hl2, Result.andThen]
theorem zkb {w w' : World} {ao : Option Addr} {bs : List Int} (h : Bytes w w.heap.size ao bs) (hb : Below w.heap.size w w') : Bytes w' w'.heap.size ao bs := by
 have h2 := h.below hb
 have hs := hb.size
 refine ⟨h2.1, ?_⟩
 rcases h2.2 with q | ⟨b, o, e, hl, hc⟩
 ·exact Or.inl q
 ·exact Or.inr ⟨b, o, e, by omega, hc⟩
structure KX (g R : Nat) (w w' : World) : Prop where
 os : w'.os = w.os
 tape : w'.tape = w.tape
 output : w'.output = w.output
 size : w.heap.size <= w'.heap.size
 block : ∀ b, b < w.heap.size -> b ≠ g -> b ≠ R -> w'.heap[b]? = w.heap[b]?
 r : ∃ a b, PB w' R #[a, b] 27
theorem KX.call {g R : Nat} {w w' w'' : World} (h : KX g R w w') (hk : Keep g w' w'') (hR : R ≠ g) : KX g R w w'' := by
 obtain ⟨a, b, hr⟩ := h.r
 exact ⟨hk.os.trans h.os, hk.tape.trans h.tape, hk.output.trans h.output, Nat.le_trans h.size hk.size, fun c hc h1 h2 => (hk.block c (Nat.lt_of_lt_of_le hc h.size) h1).trans (h.block c hc h1 h2), a, b, hr.keep hk hR⟩
theorem zgo {w : World} {g R j cap : Nat} {ao : Option Addr} {bs : List Int} (h : Cur w g ao cap bs) (hb : Bytes w R ao bs) (hR : R < g) (u : Value) : Cur (w.setCell ⟨R, j, none⟩ u) g ao cap bs /\ Bytes (w.setCell ⟨R, j, none⟩ u) R ao bs := by
 have hb2 : Bytes (w.setCell ⟨R, j, none⟩ u) R ao bs := hb.below ((Below.refl R w).setCell (p := ⟨R, j, none⟩) (Nat.le_refl _) u)
 obtain ⟨hg, hby, hl, i, h, hi, c0, c1, c2, f1, f2⟩ := h
 have hbl := Below.heap_setCell w ⟨R, j, none⟩ u g (show g ≠ R from by omega)
 have hcg : ∀ o, (w.setCell ⟨R, j, none⟩ u).cell? ⟨g, o, none⟩ = w.cell? ⟨g, o, none⟩ := fun o => World.cell?_of_block (w := w) hbl
 have hfg : ∀ o, (w.setCell ⟨R, j, none⟩ u).frozen? ⟨g, o, none⟩ = w.frozen? ⟨g, o, none⟩ := fun o => by simp only [World.frozen?, hbl]
 refine ⟨⟨by simpa [World.setCell] using hg, ⟨hby.1, ?_⟩, hl, i, h, hi, (hcg 0).trans c0, (hcg 1).trans c1, (hcg 2).trans c2, (hfg 1).trans f1, (hfg 2).trans f2⟩, hb2⟩
 rcases hb2.2 with q | ⟨b, off, e, hlt, hc⟩
 ·exact Or.inl q
 ·exact Or.inr ⟨b, off, e, by omega, hc⟩
theorem zf5 {g R : Nat} {w w' : World} {b e s n : Nat} {v : Value} {xs : List Value} (h : w.ownsRow b e s v n xs) (hk : KX g R w w') (hg : g < b) (hR : R < b) : w'.ownsRow b e s v n xs := by
 obtain ⟨q, ⟨q1, q2⟩ | ⟨G, c, cur, rfl, hG, hh, r⟩⟩ := h
 ·exact ⟨q, Or.inl ⟨q1, q2⟩⟩
 ·exact ⟨q, Or.inr ⟨G, c, cur, rfl, hG, (hk.block G (Array.getElem?_eq_some_iff.1 hh).1 (by omega) (by omega)).trans hh, r⟩⟩
theorem zh4 {w : World} {b e s n M : Nat} {v : Value} {xs : List Value} {r : Array Value} (h : w.ownsRow b e s v n xs) (hM : M < b) : (w.setRow M r).ownsRow b e s v n xs := by
 obtain ⟨q, ⟨q1, q2⟩ | ⟨G, c, cur, rfl, hG, hh, rr⟩⟩ := h
 ·exact ⟨q, Or.inl ⟨q1, q2⟩⟩
 ·exact ⟨q, Or.inr ⟨G, c, cur, rfl, hG, (setRow_other _ _ _ _ (by omega)).trans hh, rr⟩⟩
def FO3 (R g : Nat) (v1 v2 : Value) (t : Int) (k : Nat) (v : Value) (w : World) : Prop :=
 match k with
 | 0 => v = .agg #[v1, v2]
 | 1 => v = .pointer (some ⟨g, 0, none⟩)
 | 2 => v = .agg #[v1, v2]
 | 3 => v = .int .i64 t
 | 4 => v = .pointer (some ⟨g, 0, none⟩)
 | 5 => ∃ z : Int, v = .int .i64 z /\ -2 <= z /\ z <= 30
 | 6 => ∃ z : Int, v = .int .i64 z
 | 7 => ∃ x : Dd, v = .agg (qm x)
 | 8 => PB w R #[v1, v2] 27
 | _ => True
theorem keepO3 {R g : Nat} {v1 v2 : Value} {t : Int} {w w' : World} (hk : Keep g w w') (hR : R ≠ g) (k : Nat) (v : Value) (h : FO3 R g v1 v2 t k v w) : FO3 R g v1 v2 t k v w' := by
 unfold FO3 at *
 split at h <;> first
  | exact h
  | exact PB.keep h hk hR
theorem zbl : (Rg.opsOf Tryd.f6 3).size = 10 := by kernel_rfl
set_option maxRecDepth 20000 in
set_option maxHeartbeats 16000000 in
theorem regO3 {Q : Exit -> Act -> World -> Prop} {a : Act} {w3 : World} {g R M X base : Nat} {ao : Option Addr} {cap : Nat} {bs : List Int} {t : Int} {a1 a2 : Option Addr} {c1 c2 : Nat} {os : List Od} {ds : List Ds} {vs : Array Value} (ha : a.tmps.size = 22)
  (k2 : a.tmps[2]? = some (.pointer (some ⟨R, 0, none⟩))) (k3 : a.tmps[3]? = some (.pointer (some ⟨M, 0, none⟩))) (k4 : a.tmps[4]? = some (.pointer (some ⟨g, 0, none⟩))) (k5 : a.tmps[5]? = some (.pointer (some ⟨X, 0, none⟩))) (k6 : a.tmps[6]? = some (.int .i64 t))
  (hc : Cur w3 g ao cap bs) (hby : Bytes w3 R ao bs) (hRlt : R < g) (ht : 0 <= t /\ t <= 520) (hRM : M ≠ R) (hXR : X ≠ R) (hXg : X ≠ g) (hMg : M ≠ g) (hR : PB w3 R #[.slice none 0 0, .slice none 0 0] 27) (hM : PB w3 M vs 31) (hvs : vs.size = 17) (hX : PB w3 X #[.slice a1 os.length c1, .slice a2 ds.length c2] 27)
  (hN : Cp.zo w3 base (.slice a1 os.length c1) (.slice a2 ds.length c2) os ds) (hgb : g < base) (hno : os.length <= 1048576)
  (hend : ∀ b' W (x : Dd), Rg.Fr (Rg.opsOf Tryd.f6 3) a b' -> KX g R w3 W -> PB W R #[.slice a1 os.length c1, .slice a2 ds.length c2] 27 -> Q .normal b' (W.setRow M (qm x))) :
  (Code.region 3 (Rg.opsOf Tryd.f6 3) true).wp Tryd.prog Q a w3 := by
 have hRg : R ≠ g := by omega
 have hRl := hR.lt
 have hMl := hM.lt
 have hXl := hX.lt
 refine Rg.zel 9 (by kernel_rfl) (fun w' => (Cur w' g ao cap bs /\ Bytes w' R ao bs) /\ KX g R w3 w') (FO3 R g (.slice a1 os.length c1) (.slice a2 ds.length c2) t) (by rw [ha]; kernel_rfl) ⟨⟨hc.drewN 1, hby⟩, ⟨rfl, rfl, rfl, Nat.le_refl _, fun _ _ _ _ => rfl, _, _, hR⟩⟩ ?_ ?_ (fun h => absurd h (by rw [zbl]; decide))
 case refine_2 =>
  intro _ bb w' hf hI hA
  obtain ⟨x, hm⟩ := hA 7 (by rw [zbl]; decide) (by decide)
  have h8 : PB w' R _ _ := hA 8 (by rw [zbl]; decide) (by decide)
  have q21 : bb.tmps[21]? = some _ := hf.tmp (k := 7) rfl (by rw [ha]; decide) hm
  have q3 := hf.kept (s := 3) (by rw [zbl]; kernel_rfl) k3
  have hM' : PB w' M vs 31 := (hI.2.block M hMl hMg hRM).trans hM
  exact Rg.zal (o := ⟨none, Op.store 31 (Operand.tmp 3) (Operand.tmp 21), _, _, _, _⟩) (w' := w'.setRow M (qm x)) rfl rfl (zfq 31 (.tmp 3) (.tmp 21) ⟨M, 0, none⟩ (.agg (qm x)) rfl (by simp [Act.eval, q3]) (by first | (simp [Act.eval, q21]; done) | (simp [Act.eval, q21]; rfl)) (run_storeVar_row w' M _ 31 _ _ hM' (by kernel_rfl) (by first | (rw [hvs]; done) | (rw [hvs]; rfl)) (by simp [qm, Value.oneCell']))) (hend bb w' x hf hI.2 h8)
 case refine_1 =>
  clear hend
  have HS : ∀ {w w' : World}, Keep g w w' -> ∀ k y, FO3 R g (.slice a1 os.length c1) (.slice a2 ds.length c2) t k y w -> FO3 R g (.slice a1 os.length c1) (.slice a2 ds.length c2) t k y w' := fun hb k y h => keepO3 hb hRg k y h
  intro i' hi' hne
  rw [zbl] at hi'
  rcases (show i' = 0 ∨ i' = 1 ∨ i' = 2 ∨ i' = 3 ∨ i' = 4 ∨ i' = 5 ∨ i' = 6 ∨ i' = 7 ∨ i' = 8 by omega) with rfl | rfl | rfl | rfl | rfl | rfl | rfl | rfl | rfl
  ·intro bb w' hf hI hA
   clear hi' hne
   have q5 := hf.kept (s := 5) (by rw [zbl]; kernel_rfl) k5
   have hX' : PB w' X #[.slice a1 os.length c1, .slice a2 ds.length c2] 27 := (hI.2.block X hXl hXg hXR).trans hX
   obtain ⟨x0, x1⟩ := hX'.two
   exact Rg.zf (o := ⟨some 14, Op.load 27 (Operand.tmp 5), _, _, _, _⟩) (x := .agg #[.slice a1 os.length c1, .slice a2 ds.length c2]) rfl rfl (by clear hA HS hX'; simp only [execOp]; go_simp) ⟨_, rfl, (fun h => by cases h), rfl, hI, fun _ _ h => h⟩
  ·intro bb w' hf hI hA
   clear hi' hne
   have q0 := hf.kept (s := 4) (by rw [zbl]; kernel_rfl) k4
   exact Rg.zf (o := ⟨some 15, Op.move (Operand.tmp 4), _, _, _, _⟩) rfl rfl rfl ⟨_, rfl, (fun h => by cases h), (by show Act.eval bb _ = _; simp [Act.eval, q0]), hI, fun _ _ h => h⟩
  ·intro bb w' hf hI hA
   clear hi' hne
   have q5 := hf.kept (s := 5) (by rw [zbl]; kernel_rfl) k5
   have hX' : PB w' X #[.slice a1 os.length c1, .slice a2 ds.length c2] 27 := (hI.2.block X hXl hXg hXR).trans hX
   obtain ⟨x0, x1⟩ := hX'.two
   exact Rg.zf (o := ⟨some 16, Op.load 27 (Operand.tmp 5), _, _, _, _⟩) (x := .agg #[.slice a1 os.length c1, .slice a2 ds.length c2]) rfl rfl (by clear hA HS hX'; simp only [execOp]; go_simp) ⟨_, rfl, (fun h => by cases h), rfl, hI, fun _ _ h => h⟩
  ·intro bb w' hf hI hA
   clear hi' hne
   have q0 := hf.kept (s := 6) (by rw [zbl]; kernel_rfl) k6
   exact Rg.zf (o := ⟨some 17, Op.move (Operand.tmp 6), _, _, _, _⟩) rfl rfl rfl ⟨_, rfl, (fun h => by cases h), (by show Act.eval bb _ = _; simp [Act.eval, q0]), hI, fun _ _ h => h⟩
  ·intro bb w' hf hI hA
   clear hi' hne
   have q0 := hf.kept (s := 4) (by rw [zbl]; kernel_rfl) k4
   exact Rg.zf (o := ⟨some 18, Op.move (Operand.tmp 4), _, _, _, _⟩) rfl rfl rfl ⟨_, rfl, (fun h => by cases h), (by show Act.eval bb _ = _; simp [Act.eval, q0]), hI, fun _ _ h => h⟩
  ·intro bb w' hf hI hA
   clear hi' hne
   have q3 : bb.tmps[18]? = some _ := hf.tmp (k := 4) rfl (by rw [ha]; decide) (hA 4 (by kernel_rfl))
   refine Rg.jr (o := ⟨some 19, Op.call { callee := Callee.value (Operand.func 15), args := #[Operand.tmp 18, Operand.const (Value.int .i64 (-2)), Operand.const (Value.int .i64 30)], argTypes := _ }, _, _, _, _⟩) rfl rfl (by clear hA HS; simp only [execOp, resolve]; go_simp) (zcl g ao cap bs (-2) 30 w' hI.1.1 (by omega) (by omega) (by omega)) ?_
   rintro e w2 ⟨z, rfl, z0, z1, hc2, hk2⟩
   exact ⟨_, rfl, _, rfl, (fun h => by cases h), ⟨z, rfl, z0, z1⟩, ⟨⟨hc2, hI.1.2.below (hk2.below (B := R) (by omega) (by have := hI.2.size; omega))⟩, hI.2.call hk2 hRg⟩, HS hk2⟩
  ·intro bb w' hf hI hA
   clear hi' hne
   obtain ⟨z, hz, z0, z1⟩ := hA 5 (by kernel_rfl)
   have qz : bb.tmps[19]? = some _ := hf.tmp (k := 5) rfl (by rw [ha]; decide) hz
   have qt : bb.tmps[17]? = some _ := hf.tmp (k := 3) rfl (by rw [ha]; decide) (hA 3 (by kernel_rfl))
   exact Rg.zf (o := ⟨some 20, Op.binOp BinOp.add 2 (Operand.tmp 17) (Operand.tmp 19) 2, _, _, _, _⟩) (x := .int .i64 (IntKind.wrap .i64 (t + z))) rfl rfl (by clear hA HS hz; simp only [execOp]; go_simp) ⟨_, rfl, (fun h => by cases h), ⟨_, rfl⟩, hI, fun _ _ h => h⟩
  ·intro bb w' hf hI hA
   clear hi' hne
   obtain ⟨z, hz⟩ := hA 6 (by kernel_rfl)
   have qz : bb.tmps[20]? = some _ := hf.tmp (k := 6) rfl (by rw [ha]; decide) hz
   have q1 : bb.tmps[15]? = some _ := hf.tmp (k := 1) rfl (by rw [ha]; decide) (hA 1 (by kernel_rfl))
   have q2 : bb.tmps[16]? = some _ := hf.tmp (k := 2) rfl (by rw [ha]; decide) (hA 2 (by kernel_rfl))
   refine Rg.jr (o := ⟨some 21, Op.call { callee := Callee.value (Operand.func 14), args := #[Operand.tmp 15, Operand.tmp 16, Operand.tmp 20], argTypes := _ }, _, _, _, _⟩) rfl rfl (by clear hA HS hz; simp only [execOp, resolve]; go_simp) (zhm g ao cap bs a1 c1 a2 ds.length c2 os base z w' hI.1.1 (zaq rfl (zf5 hN.1 hI.2 hgb (by omega))) hgb hno) ?_
   rintro e w2 ⟨⟨x, rfl⟩, hc2, hk2⟩
   exact ⟨_, rfl, _, rfl, (fun h => by cases h), ⟨x, rfl⟩, ⟨⟨hc2, hI.1.2.below (hk2.below (B := R) (by omega) (by have := hI.2.size; omega))⟩, hI.2.call hk2 hRg⟩, HS hk2⟩
  ·intro bb w' hf hI hA
   clear hi' hne
   have q0 : bb.tmps[14]? = some _ := hf.tmp (k := 0) rfl (by rw [ha]; decide) (hA 0 (by kernel_rfl))
   have q2 := hf.kept (s := 2) (by rw [zbl]; kernel_rfl) k2
   obtain ⟨u0, u1, hr⟩ := hI.2.r
   obtain ⟨r0, r1⟩ := hr.two
   have f0 := hr.frozen 0
   have f1 := hr.frozen 1
   have h0 : PB (w'.setCell ⟨R, 0, none⟩ (.slice a1 os.length c1)) R #[.slice a1 os.length c1, u1] 27 := hr.put 0 _ (by simp)
   have hR1 : PB ((w'.setCell ⟨R, 0, none⟩ (.slice a1 os.length c1)).setCell ⟨R, 1, none⟩ (.slice a2 ds.length c2)) R #[.slice a1 os.length c1, .slice a2 ds.length c2] 27 := h0.put 1 _ (by simp)
   have hoth : ∀ b, b ≠ R -> ((w'.setCell ⟨R, 0, none⟩ (.slice a1 os.length c1)).setCell ⟨R, 1, none⟩ (.slice a2 ds.length c2)).heap[b]? = w'.heap[b]? := fun b hb => (Below.heap_setCell _ ⟨R, 1, none⟩ _ b hb).trans (Below.heap_setCell w' ⟨R, 0, none⟩ _ b hb)
   have hcA := zgo (j := 0) hI.1.1 hI.1.2 hRlt (.slice a1 os.length c1)
   have hcur := zgo (j := 1) hcA.1 hcA.2 hRlt (.slice a2 ds.length c2)
   have hKX : KX g R w3 ((w'.setCell ⟨R, 0, none⟩ (.slice a1 os.length c1)).setCell ⟨R, 1, none⟩ (.slice a2 ds.length c2)) := ⟨hI.2.os, hI.2.tape, hI.2.output, by have := hI.2.size; simpa [World.setCell] using this, fun b hb h1 h2 => (hoth b h2).trans (hI.2.block b hb h1 h2), _, _, hR1⟩
   refine Rg.zal (o := ⟨none, Op.store 27 (Operand.tmp 2) (Operand.tmp 14), _, _, _, _⟩) (w' := (w'.setCell ⟨R, 0, none⟩ (.slice a1 os.length c1)).setCell ⟨R, 1, none⟩ (.slice a2 ds.length c2)) rfl rfl (by clear hA HS hcur hcA hKX hR1 hoth h0 hr; simp only [execOp]; go_simp) ⟨_, rfl, (fun _ => hR1), hR1, ⟨hcur, hKX⟩, fun k y h => ?_⟩
   unfold FO3 at *
   split at h <;> first | exact h | exact hR1
theorem layO3 {a b : Act} (hf : Rg.Fr (Rg.opsOf Tryd.f6 3) a b) : b = Rg.fl (Rg.opsOf Tryd.f6 3) b 0 [some 14, some 15, some 16, some 17, some 18, some 19, some 20, some 21, none, none] a := Rg.qi _ (by kernel_rfl) hf
set_option maxRecDepth 20000 in
set_option maxHeartbeats 16000000 in
theorem dod_any (ao : Option Addr) (cap : Nat) (bs : List Int) (w : World) (hb : Bytes w w.heap.size ao bs) (hl : bs.length <= 1048576) :
  Calls Tryd.prog 6 #[.slice ao bs.length cap] w fun e w' => ∃ (v1 v2 : Value) (os : List Od) (ds : List Ds) (x : Dd), e = .returned (.tuple #[.agg #[v1, v2], .agg (qm x)]) /\ Cp.CRw w' v1 v2 os ds /\ os.length <= 101 /\ ds.length <= 501 /\ Below w.heap.size w w' := by
 have bA : Below w.heap.size w ((w.alloc (.cells #[.slice none 0 0, .slice none 0 0] 27)).alloc (.cells #[.int .i64 0, .int .i64 0, .int .i64 0, .int .i64 0, .int .i64 0, .int .i64 0, .int .i64 0, .int .i64 0, .int .i64 0, .bool false, .int .i64 0, .int .i64 0, .int .i64 0, .int .i64 0, .int .i64 0, .int .i64 0, .int .i64 0] 31)) := ((Below.refl _ w).alloc (Nat.le_refl _) _).alloc (by simp) _
 have hRA := (PB.new w #[.slice none 0 0, .slice none 0 0] 27).alloc (.cells #[.int .i64 0, .int .i64 0, .int .i64 0, .int .i64 0, .int .i64 0, .int .i64 0, .int .i64 0, .int .i64 0, .int .i64 0, .bool false, .int .i64 0, .int .i64 0, .int .i64 0, .int .i64 0, .int .i64 0, .int .i64 0, .int .i64 0] 31)
 have hMA := PB.new (w.alloc (.cells #[.slice none 0 0, .slice none 0 0] 27)) #[.int .i64 0, .int .i64 0, .int .i64 0, .int .i64 0, .int .i64 0, .int .i64 0, .int .i64 0, .int .i64 0, .int .i64 0, .bool false, .int .i64 0, .int .i64 0, .int .i64 0, .int .i64 0, .int .i64 0, .int .i64 0, .int .i64 0] 31
 have hzA : ((w.alloc (.cells #[.slice none 0 0, .slice none 0 0] 27)).alloc (.cells #[.int .i64 0, .int .i64 0, .int .i64 0, .int .i64 0, .int .i64 0, .int .i64 0, .int .i64 0, .int .i64 0, .int .i64 0, .bool false, .int .i64 0, .int .i64 0, .int .i64 0, .int .i64 0, .int .i64 0, .int .i64 0, .int .i64 0] 31)).heap.size = w.heap.size + 2 := by simp
 simp only [World.size_alloc] at hMA
 go_enter Tryd.func6, Tryd.ntmps6
 go_wp2_with fail
 generalize (w.alloc (.cells #[.slice none 0 0, .slice none 0 0] 27)).alloc (.cells #[.int .i64 0, .int .i64 0, .int .i64 0, .int .i64 0, .int .i64 0, .int .i64 0, .int .i64 0, .int .i64 0, .int .i64 0, .bool false, .int .i64 0, .int .i64 0, .int .i64 0, .int .i64 0, .int .i64 0, .int .i64 0, .int .i64 0] 31) = wA at *
 refine (new_any ao cap bs _ (zkb hb bA) hl).mono ?_
 rintro e w1 ⟨rfl, hc1, hb1⟩
 have hR1 := hRA.below hb1
 have hM1 := hMA.below hb1
 have b1 : Below w.heap.size w w1 := bA.trans (hb1.mono (by omega))
 have hg2 : w.heap.size + 2 <= wA.heap.size := by omega
 have HBY1 : Hid (Bytes w1 w.heap.size ao bs) := hb.below b1
 clear hzA hRA hMA bA hb1 hb
 generalize wA.heap.size = g at *
 go_wp2_with fail
 refine (zkq g ao cap bs _ hc1).mono ?_
 rintro e w2 ⟨v1, v2, os, ds, t, rfl, ht, ho, hd, hn2, hc2, hk2⟩
 have hg1 := hc1.1
 have hR2 := hR1.keep hk2 (by omega)
 have hM2 := hM1.keep hk2 (by omega)
 have b2 : Below w.heap.size w w2 := b1.trans ((hk2.below (B := w.heap.size) (by omega) (by omega)))
 obtain ⟨a1, c1, a2, c2, rfl, rfl⟩ := hn2.form
 have HO := hidden ho
 have HD := hidden hd
 have hs2 := hk2.size
 have ba := (Below.refl w2.heap.size w2).alloc (Nat.le_refl _) (.cells #[.slice a1 os.length c1, .slice a2 ds.length c2] 27)
 have hn3 := hn2.below ba
 have hc3 := hc2.alloc (.cells #[.slice a1 os.length c1, .slice a2 ds.length c2] 27)
 have b3 := b2.alloc b2.size (.cells #[.slice a1 os.length c1, .slice a2 ds.length c2] 27)
 have hR3 := hR2.below ba
 have hM3 := hM2.below ba
 have hX3 := PB.new w2 #[.slice a1 os.length c1, .slice a2 ds.length c2] 27
 have hMl := hM2.lt
 have hg2l := hc2.1
 have hbase : g < w1.heap.size := hg1
 have HBY3 : Hid (Bytes (w2.alloc (.cells #[.slice a1 os.length c1, .slice a2 ds.length c2] 27)) w.heap.size ao bs) := (HBY1.out.below (hk2.below (B := w.heap.size) (by omega) (by omega))).below ((Below.refl _ w2).alloc (by omega) _)
 clear hn2 ho hd hc1 hc2 hk2 hR1 hM1 hR2 hM2 b1 b2 ba
 generalize hWW : w2.alloc (.cells #[.slice a1 os.length c1, .slice a2 ds.length c2] 27) = w3 at *
 generalize hXX : w2.heap.size = X at *
 go_upto_region 3 with fail
 clear hWW hXX
 refine regO3 (g := g) (R := w.heap.size) (M := w.heap.size + 1) (X := X) (t := t) (cap := cap) (bs := bs) (ao := ao) rfl rfl rfl rfl rfl rfl hc3 HBY3.out (by omega) ht (by omega) (by omega) (by omega) (by omega) hR3 hM3 rfl hX3 hn3 hbase (by have := HO.out; omega) ?_
 intro b' W x hf hKX hRW
 have hMW : PB W (w.heap.size + 1) _ 31 := (hKX.block (w.heap.size + 1) hM3.lt (by omega) (by omega)).trans hM3
 have hnW : Cp.zo (W.setRow (w.heap.size + 1) (qm x)) w1.heap.size (.slice a1 os.length c1) (.slice a2 ds.length c2) os ds := ⟨zh4 (zf5 hn3.1 hKX hbase (by omega)) (by omega), zh4 (zf5 hn3.2 hKX hbase (by omega)) (by omega)⟩
 have hRF : PB (W.setRow (w.heap.size + 1) (qm x)) w.heap.size #[.slice a1 os.length c1, .slice a2 ds.length c2] 27 := (setRow_other _ _ _ _ (by omega)).trans hRW
 have hMF : PB (W.setRow (w.heap.size + 1) (qm x)) (w.heap.size + 1) (qm x) 31 := setRow_heap _ _ _ _ _ _ hMW
 have bF : Below w.heap.size w (W.setRow (w.heap.size + 1) (qm x)) := ⟨hKX.os.trans b3.os, hKX.tape.trans b3.tape, hKX.output.trans b3.output, by have h1 := hKX.size; have h2 := b3.size; simp; omega, fun b hb => (setRow_other _ _ _ _ (by omega)).trans ((hKX.block b (by have := b3.size; omega) (by omega) (by omega)).trans (b3.block b hb))⟩
 (rw [layO3 hf]; simp only [Rg.fl0, Rg.fl1, Rg.fl2, Nat.reduceAdd])
 clear hf
 generalize Rg.out (Rg.opsOf Tryd.f6 3) b' = yF
 go_frame
 obtain ⟨r0, r1⟩ := hRF.two
 have HW := hidden hnW
 have HF := hidden bF
 have HM := hidden hMF
 have HR := hidden hRF
 clear hnW bF hMF hKX hRW hMW hRF
 go_wp2_with fail
 exact bodyPost_ret (zjb Tryd.results6 _ _ w.heap.size (w.heap.size + 1) 27 31 _ _ _ _ rfl HR.out Tryd.underlying27 rfl (by kernel_rfl) rfl HM.out Tryd.underlying31 rfl (by kernel_rfl)) rfl ⟨_, _, os, ds, x, rfl, zb6 HW.out, HO.out, HD.out, HF.out⟩
end Go.Proofs.YtjlpfpigggdemaaDoor
namespace Go.Proofs.YtjlpfpigggdemaaDoor
open Go.RowKit Va Uo
set_option linter.all false
set_option maxRecDepth 20000 in
set_option maxHeartbeats 16000000 in
theorem zks (a1 a2 b1 b2 : Option Addr) (n1 n2 m1 m2 c1 c2 d1 d2 : Nat) (os : List Od) (ds : List Ds) (w : World) (h : Cp.CRw w (.slice a1 n1 c1) (.slice a2 n2 c2) os ds) (h' : Cp.CRw w (.slice b1 m1 d1) (.slice b2 m2 d2) os ds) (hO : os.length <= 1000000) (hD : ds.length <= 1000000) :
  Calls Tryd.prog 9 #[.agg #[.slice a1 n1 c1, .slice a2 n2 c2], .agg #[.slice b1 m1 d1, .slice b2 m2 d2]] w fun e w' => e = .returned (.bool true) /\ Below w.heap.size w w' := by
 obtain rfl := h.1.len
 obtain rfl := h.2.len
 obtain rfl := h'.1.len
 obtain rfl := h'.2.len
 have bA : Below w.heap.size w ((w.alloc (.cells #[.slice a1 os.length c1, .slice a2 ds.length c2] 27)).alloc (.cells #[.slice b1 os.length d1, .slice b2 ds.length d2] 27)) := ((Below.refl _ w).alloc (Nat.le_refl _) _).alloc (by simp) _
 have hXA := (PB.new w #[.slice a1 os.length c1, .slice a2 ds.length c2] 27).alloc (.cells #[.slice b1 os.length d1, .slice b2 ds.length d2] 27)
 have hYA := PB.new (w.alloc (.cells #[.slice a1 os.length c1, .slice a2 ds.length c2] 27)) #[.slice b1 os.length d1, .slice b2 ds.length d2] 27
 simp only [World.size_alloc] at hYA
 have H1 := hidden (show Cp.CRw _ _ _ os ds from ⟨h.1.below bA, h.2.below bA⟩)
 have H2 := hidden (show Cp.CRw _ _ _ os ds from ⟨h'.1.below bA, h'.2.below bA⟩)
 clear h h'
 go_enter Tryd.func9, Tryd.ntmps9
 go_wp2_with fail
 generalize ((w.alloc (.cells #[.slice a1 os.length c1, .slice a2 ds.length c2] 27)).alloc (.cells #[.slice b1 os.length d1, .slice b2 ds.length d2] 27)) = wA at *
 go_loopw [5] (fun iv wr => ∃ i : Nat, i <= os.length /\ iv = .int .i64 i /\ Below wA.heap.size wA wr) (fun iv _ => os.length - (intOf iv).toNat)
 case atStart => exact ⟨0, Nat.zero_le _, rfl, Below.refl _ _⟩
 case round =>
  obtain ⟨i, hi, rfl, br⟩ := hrel
  obtain ⟨x0, x1⟩ := (hXA.below br).two
  obtain ⟨y0, y1⟩ := (hYA.below br).two
  by_cases hlt : i < os.length
  ·have hlti : (i : Int) < (os.length : Int) := by omega
   obtain ⟨x, hx⟩ := yz os i hlt
   obtain ⟨g1, o1, rfl, hg1, k1⟩ := ((H1.out).1.below br).at hx
   obtain ⟨g2, o2, rfl, hg2, k2⟩ := ((H2.out).1.below br).at hx
   obtain ⟨xid, xp, xd, xn, xf, xe, xc, xs, xtwo⟩ := x
   have p0 : wr.cell? ⟨g1, o1 + i * 9, none⟩ = some (.int .i64 xid) := k1 0 (by omega)
   have p1 : wr.cell? ⟨g1, o1 + i * 9 + 1, none⟩ = some (.int .i64 xp) := k1 1 (by omega)
   have p2 : wr.cell? ⟨g1, o1 + i * 9 + 2, none⟩ = some (.int .i64 xd) := k1 2 (by omega)
   have p3 : wr.cell? ⟨g1, o1 + i * 9 + 3, none⟩ = some (.int .i64 xn) := k1 3 (by omega)
   have p4 : wr.cell? ⟨g1, o1 + i * 9 + 4, none⟩ = some (.int .i64 xf) := k1 4 (by omega)
   have p5 : wr.cell? ⟨g1, o1 + i * 9 + 5, none⟩ = some (.int .i64 xe) := k1 5 (by omega)
   have p6 : wr.cell? ⟨g1, o1 + i * 9 + 6, none⟩ = some (.int .i64 xc) := k1 6 (by omega)
   have p7 : wr.cell? ⟨g1, o1 + i * 9 + 7, none⟩ = some (.int .i64 xs) := k1 7 (by omega)
   have p8 : wr.cell? ⟨g1, o1 + i * 9 + 8, none⟩ = some (.bool xtwo) := k1 8 (by omega)
   have q0 : wr.cell? ⟨g2, o2 + i * 9, none⟩ = some (.int .i64 xid) := k2 0 (by omega)
   have q1 : wr.cell? ⟨g2, o2 + i * 9 + 1, none⟩ = some (.int .i64 xp) := k2 1 (by omega)
   have q2 : wr.cell? ⟨g2, o2 + i * 9 + 2, none⟩ = some (.int .i64 xd) := k2 2 (by omega)
   have q3 : wr.cell? ⟨g2, o2 + i * 9 + 3, none⟩ = some (.int .i64 xn) := k2 3 (by omega)
   have q4 : wr.cell? ⟨g2, o2 + i * 9 + 4, none⟩ = some (.int .i64 xf) := k2 4 (by omega)
   have q5 : wr.cell? ⟨g2, o2 + i * 9 + 5, none⟩ = some (.int .i64 xe) := k2 5 (by omega)
   have q6 : wr.cell? ⟨g2, o2 + i * 9 + 6, none⟩ = some (.int .i64 xc) := k2 6 (by omega)
   have q7 : wr.cell? ⟨g2, o2 + i * 9 + 7, none⟩ = some (.int .i64 xs) := k2 7 (by omega)
   have q8 : wr.cell? ⟨g2, o2 + i * 9 + 8, none⟩ = some (.bool xtwo) := k2 8 (by omega)
   clear k1 k2 hx H1 H2
   go_wp2_with fail
   first | go_region | fail
   all_goals go_wp2_with fail
   all_goals go_roundw
   all_goals first
    | exact ⟨i + 1, by omega, rfl, by first | exact br | exact jo br⟩
    | (simp [intOf]; omega)
  ·have hlti : ¬ (i : Int) < (os.length : Int) := by omega
   go_wp2_with fail
   go_loopw [6] (fun iv wr => ∃ i : Nat, i <= ds.length /\ iv = .int .i64 i /\ Below wA.heap.size wA wr) (fun iv _ => ds.length - (intOf iv).toNat)
   case atStart => exact ⟨0, Nat.zero_le _, rfl, br⟩
   case round =>
    clear x0 x1 y0 y1 br
    obtain ⟨k, hk, rfl, br⟩ := hrel
    obtain ⟨x0, x1⟩ := (hXA.below br).two
    obtain ⟨y0, y1⟩ := (hYA.below br).two
    by_cases hlt : k < ds.length
    ·have hlti2 : (k : Int) < (ds.length : Int) := by omega
     obtain ⟨x, hx⟩ := yz ds k hlt
     obtain ⟨g1, o1, rfl, hg1, k1⟩ := ((H1.out).2.below br).at hx
     obtain ⟨g2, o2, rfl, hg2, k2⟩ := ((H2.out).2.below br).at hx
     obtain ⟨xo, xt, xm, xb, xa⟩ := x
     have p0 : wr.cell? ⟨g1, o1 + k * 5, none⟩ = some (.int .i64 xo) := k1 0 (by omega)
     have p1 : wr.cell? ⟨g1, o1 + k * 5 + 1, none⟩ = some (.int .i64 xt) := k1 1 (by omega)
     have p2 : wr.cell? ⟨g1, o1 + k * 5 + 2, none⟩ = some (.int .i64 xm) := k1 2 (by omega)
     have p3 : wr.cell? ⟨g1, o1 + k * 5 + 3, none⟩ = some (.int .i64 xb) := k1 3 (by omega)
     have p4 : wr.cell? ⟨g1, o1 + k * 5 + 4, none⟩ = some (.int .i64 xa) := k1 4 (by omega)
     have q0 : wr.cell? ⟨g2, o2 + k * 5, none⟩ = some (.int .i64 xo) := k2 0 (by omega)
     have q1 : wr.cell? ⟨g2, o2 + k * 5 + 1, none⟩ = some (.int .i64 xt) := k2 1 (by omega)
     have q2 : wr.cell? ⟨g2, o2 + k * 5 + 2, none⟩ = some (.int .i64 xm) := k2 2 (by omega)
     have q3 : wr.cell? ⟨g2, o2 + k * 5 + 3, none⟩ = some (.int .i64 xb) := k2 3 (by omega)
     have q4 : wr.cell? ⟨g2, o2 + k * 5 + 4, none⟩ = some (.int .i64 xa) := k2 4 (by omega)
     clear k1 k2 hx H1 H2
     go_wp2_with fail
     first | go_region | fail
     all_goals go_wp2_with fail
     all_goals go_roundw
     all_goals first
      | exact ⟨k + 1, by omega, rfl, by first | exact br | exact jo br⟩
      | (simp [intOf]; omega)
    ·have hlti2 : ¬ (k : Int) < (ds.length : Int) := by omega
     go_wp2_with fail
     go_ret
     exact ⟨rfl, bA.trans (br.mono bA.size)⟩
end Go.Proofs.YtjlpfpigggdemaaDoor
namespace Go.Proofs.YtjlpfpigggdemaaDoor.Uo
open Va
set_option linter.all false
theorem at_of {os : List Od} (hr : Ris os) {k : Nat} {o : Od} (ho : os[k]? = some o) : atO os o.id = (k : Int) := by
 have hk := (List.getElem?_eq_some_iff.1 ho).1
 exact zfz ho (zev k (by omega) (fun j y hj hy => by have := hr j k y o hj hy ho; omega)) rfl
theorem zd2 {os : List Od} {ds : List Ds} {i : Nat} {d : Ds} (hr : Ris os) (hd : ds[i]? = some d) : yc os ds i = true ↔ (∃ o ∈ os, o.id = d.o /\ jc o d = true) /\ (i = 0 ∨ (ds.getD (i - 1) default).m <= d.m) := by
 constructor
 ·intro h
  have h0 : 0 <= atO os d.o := by
   unfold yc at h
   simp only [Bool.and_eq_true, decide_eq_true_eq, zbb hd] at h
   exact h.1
  obtain ⟨k, hk⟩ := Int.eq_ofNat_of_zero_le h0
  obtain ⟨o, ho, hid⟩ := zd9 hk
  rw [zf8 hd hk ho, Bool.and_eq_true, Bool.or_eq_true, decide_eq_true_eq, decide_eq_true_eq] at h
  exact ⟨⟨o, List.mem_of_getElem? ho, hid, h.1⟩, h.2⟩
 ·rintro ⟨⟨o, ho, hid, hh⟩, h2⟩
  obtain ⟨k, hk, rfl⟩ := List.getElem_of_mem ho
  have hg := List.getElem?_eq_getElem hk
  have ha := at_of hr hg
  rw [hid] at ha
  rw [zf8 hd ha hg, hh, Bool.true_and, Bool.or_eq_true, decide_eq_true_eq, decide_eq_true_eq]
  exact h2
theorem okD_kept {os os' : List Od} {ds : List Ds} (hr : Ris os) (hr' : Ris os') (h : ∀ o ∈ os, o.s ≠ 1 -> ∃ o' ∈ os', o'.id = o.id /\ o'.c = o.c /\ o'.two = o.two /\ o'.s ≠ 1) {i : Nat} (hi : i < ds.length) (hk : okD os ds i = true) : okD os' ds i = true := by
 have hd := List.getElem?_eq_getElem hi
 unfold okD at *
 rw [Bool.and_eq_true] at *
 refine ⟨?_, hk.2⟩
 obtain ⟨⟨o, ho, hid, hh⟩, h2⟩ := (zd2 hr hd).1 hk.1
 have hs : o.s ≠ 1 := by
  intro e
  unfold jc at hh
  rw [e] at hh
  simp at hh
 obtain ⟨o', ho', e1, e2, e3, e4⟩ := h o ho hs
 refine (zd2 hr' hd).2 ⟨⟨o', ho', e1.trans hid, ?_⟩, h2⟩
 unfold jc at *
 rw [e2, e3]
 simp only [Bool.and_eq_true, Bool.not_eq_true', decide_eq_false_iff_not] at *
 exact ⟨hh.1, e4, hh.2.2⟩
theorem allO_of {os : List Od} (h : ∀ i, i < os.length -> qj os i = true) : AllO os := by
 intro i y hy
 have hi := (List.getElem?_eq_some_iff.1 hy).1
 have := h i hi
 unfold qj at this
 rw [kw hy, Bool.and_eq_true] at this
 exact this.1
structure Given (os : List Od) (ds : List Ds) (x : Dd) (k : Nat) (o : Od) (t : Nat) : Prop where
 at_ : atO os x.id = (k : Int)
 get : os[k]? = some o
 id : o.id = x.id
 s : o.s = 2
 p : x.p = o.p
 d : x.d = o.d
 n : x.n = o.n
 by_ : byB o.two x.b x.a = true
 late : zad ds x.m = false
 len : ds.length ≠ 500
 lt : (t : Int) < o.c
 due : zaf ds x.m o t = true
 fst : (za3 os ds x.m x.id).getD 0 default = jf o t
 tim : zl x.m = true
 per : zh x.b = true
 also : x.a = -1 ∨ zh x.a = true
theorem ddB5 {x : Dd} (h : ddB x = true) (hk : x.k = 5) : rng x.id 1 100000 = true /\ zl x.m = true /\ zh x.b = true /\ (x.a = -1 ∨ zh x.a = true) := by
 unfold ddB at h
 rw [if_neg (by omega), if_neg (by omega), if_pos hk] at h
 simp only [Bool.and_eq_true, Bool.or_eq_true, decide_eq_true_eq] at h
 exact ⟨h.1, h.2.2.2.2.1, h.2.2.2.2.2.1, h.2.2.2.2.2.2⟩
set_option maxRecDepth 20000 in
set_option maxHeartbeats 16000000 in
theorem zg3 {os : List Od} {ds : List Ds} {x : Dd} (hc : jm os ds = true) (hd : doC os ds x = 0) (hk : x.k = 5) : ∃ k o t, Given os ds x k o t := by
 obtain ⟨-, h1, h2⟩ := zb0.1 hc
 have hr := zdi h1
 have ha := allO_of h1
 have hb := zet hd
 obtain ⟨b1, b2, b3, b4⟩ := ddB5 hb hk
 unfold doC at hd
 rw [if_neg (by rw [hb]; simp), if_neg (by omega)] at hd
 by_cases hat : atO os x.id < 0
 ·rw [if_pos hat] at hd; cases hd
 rw [if_neg hat] at hd
 obtain ⟨k, hk'⟩ := Int.eq_ofNat_of_zero_le (show 0 <= atO os x.id by omega)
 obtain ⟨o, ho, hid⟩ := zd9 hk'
 rw [hk', show ((k : Int).toNat) = k from rfl, kw ho] at hd
 by_cases hf : vk o.s x.k = false
 ·rw [if_pos hf] at hd; cases hd
 rw [if_neg hf, if_pos hk] at hd
 have hs : o.s = 2 := by
  rw [hk] at hf
  unfold vk at hf
  simpa using hf
 unfold zaj at hd
 by_cases e1 : x.p ≠ o.p
 ·rw [if_pos e1] at hd; cases hd
 rw [if_neg e1] at hd
 by_cases e2 : x.d ≠ o.d
 ·rw [if_pos e2] at hd; cases hd
 rw [if_neg e2] at hd
 by_cases e3 : x.n ≠ o.n
 ·rw [if_pos e3] at hd; cases hd
 rw [if_neg e3] at hd
 by_cases e4 : (za3 os ds x.m x.id).length = 0
 ·rw [if_pos e4] at hd; cases hd
 rw [if_neg e4] at hd
 by_cases e5 : byB o.two x.b x.a = false
 ·rw [if_pos e5] at hd; cases hd
 rw [if_neg e5] at hd
 by_cases e6 : zad ds x.m = true
 ·rw [if_pos e6] at hd; cases hd
 rw [if_neg e6] at hd
 by_cases e7 : ds.length = 500
 ·rw [if_pos e7] at hd; cases hd
 have hod := ha k o ho
 have hoe : 1 <= o.e := by
  unfold odB at hod
  simp only [Bool.and_eq_true] at hod
  exact (zba.1 hod.2.2.2.2.2.1).1
 have hid1 := zba.1 b1
 have hdl := zg9 (ds := ds) (time := x.m) hr (show x.id ≠ 0 by omega) ho hid hs hoe
 have hpos : 0 < (za3 os ds x.m x.id).length := by omega
 have hm : (za3 os ds x.m x.id)[0] ∈ jl ds x.m o o.c.toNat := by rw [<- hdl]; exact List.getElem_mem _
 obtain ⟨t, ht, he, hdue⟩ := zei hm
 refine ⟨k, o, t, hk', ho, hid, hs, by simpa using e1, by simpa using e2, by simpa using e3, by simpa using e5, by simpa using e6, e7, by omega, hdue, ?_, b2, b3, b4⟩
 rw [zek (List.getElem?_eq_getElem hpos)]
 exact he
theorem Given.ds {os : List Od} {ds : List Ds} {x : Dd} {k : Nat} {o : Od} {t : Nat} (h : Given os ds x k o t) (hk : x.k = 5) : yj os x = os /\ qy os ds x = ds ++ [⟨x.id, (t : Int), x.m, x.b, x.a⟩] := by
 refine ⟨by unfold yj; rw [if_neg (by omega), if_pos hk], ?_⟩
 unfold qy
 rw [if_pos hk, h.fst]
 rfl
theorem zec {ds : List Ds} {y : Ds} {i : Nat} (hi : i < ds.length) : (ds ++ [y]).getD i default = ds.getD i default := by
 rw [List.getD_eq_getElem?_getD, List.getD_eq_getElem?_getD, List.getElem?_append_left hi]
theorem zhw {ds : List Ds} {y : Ds} : (ds ++ [y]).getD ds.length default = y := by
 rw [List.getD_eq_getElem?_getD, List.getElem?_append_right (Nat.le_refl _)]
 simp
theorem zjs {ds : List Ds} {y : Ds} {i j : Nat} (hi : i < ds.length) (hj : j < ds.length) : zax (ds ++ [y]) i j = zax ds i j := by
 unfold zax
 rw [zec hi, zec hj]
theorem Given.new {os : List Od} {ds : List Ds} {x : Dd} {k : Nat} {o : Od} {t : Nat} (h : Given os ds x k o t) : ∀ d ∈ ds, ¬ (d.o = x.id /\ d.t = (t : Int)) := by
 intro d hd ⟨e1, e2⟩
 have := h.due
 unfold zaf at this
 rw [Bool.and_eq_true, Bool.not_eq_true'] at this
 have h2 : vg ds o.id t = true := by
  unfold vg
  rw [List.any_eq_true]
  exact ⟨d, hd, by rw [e1, e2, h.id]; simp⟩
 rw [this.2] at h2
 cases h2
theorem okD_app {os : List Od} {ds : List Ds} {y : Ds} {i : Nat} (hr : Ris os) (hi : i < ds.length) (h : okD os ds i = true) : okD os (ds ++ [y]) i = true := by
 have hd := List.getElem?_eq_getElem hi
 have hd' : (ds ++ [y])[i]? = some ds[i] := by rw [List.getElem?_append_left hi]; exact hd
 unfold okD at *
 rw [Bool.and_eq_true, List.all_eq_true] at *
 refine ⟨?_, fun j hj => ?_⟩
 ·obtain ⟨q1, q2⟩ := (zd2 hr hd).1 h.1
  refine (zd2 hr hd').2 ⟨q1, ?_⟩
  rcases q2 with q2 | q2
  ·exact Or.inl q2
  ·rw [zec (by omega)]; exact Or.inr q2
 ·have hj' := List.mem_range.1 hj
  rw [zjs hi (by omega)]
  exact h.2 j hj
set_option maxRecDepth 20000 in
set_option maxHeartbeats 16000000 in
theorem zgl {os : List Od} {ds : List Ds} {x : Dd} {k : Nat} {o : Od} {t : Nat} (hc : jm os ds = true) (h : Given os ds x k o t) : jm os (ds ++ [⟨x.id, (t : Int), x.m, x.b, x.a⟩]) = true := by
 obtain ⟨h0, h1, h2⟩ := zb0.1 hc
 have hr := zdi h1
 have hl := h.len
 refine zb0.2 ⟨⟨h0.1, by rw [List.length_append]; simp; omega⟩, h1, fun i hi => ?_⟩
 rw [List.length_append, List.length_singleton] at hi
 by_cases e : i < ds.length
 ·exact okD_app hr e (h2 i e)
 obtain rfl : i = ds.length := by omega
 have hd' : (ds ++ [(⟨x.id, (t : Int), x.m, x.b, x.a⟩ : Ds)])[ds.length]? = some ⟨x.id, (t : Int), x.m, x.b, x.a⟩ := by rw [List.getElem?_append_right (Nat.le_refl _)]; simp
 unfold okD
 rw [Bool.and_eq_true, List.all_eq_true]
 refine ⟨(zd2 hr hd').2 ⟨⟨o, List.mem_of_getElem? h.get, h.id, ?_⟩, ?_⟩, fun j hj => ?_⟩
 ·have hby := h.by_
  have hal := h.also
  unfold jc zav
  unfold byB at hby
  simp only [Bool.and_eq_true, Bool.not_eq_true', decide_eq_false_iff_not, decide_eq_true_eq]
  refine ⟨⟨by omega, h.lt⟩, by rw [h.s]; omega, h.tim, ?_⟩
  cases hq : o.two with
  | false =>
   rw [hq] at hby
   simp at hby
   simp [h.per, hby]
  | true =>
   rw [hq] at hby
   simp at hby
   have : zh x.a = true := by rcases hal with e | e; exact absurd e hby.1; exact e
   simp [h.per, this]
   exact fun e => hby.2 e.symm
 ·by_cases e0 : ds.length = 0
  ·exact Or.inl e0
  ·right
   rw [zec (by omega)]
   have := h.late
   unfold zad at this
   rw [decide_eq_true (by omega), Bool.true_and, decide_eq_false_iff_not] at this
   show _ <= x.m
   omega
 ·have hj' := List.mem_range.1 hj
  unfold zax
  rw [zhw, zec hj', Bool.not_eq_true', Bool.and_eq_false_iff, decide_eq_false_iff_not, decide_eq_false_iff_not]
  have hm := List.getElem?_eq_getElem hj'
  rw [zbb hm]
  have := h.new ds[j] (List.getElem_mem _)
  by_cases q : ds[j].o = x.id
  ·exact Or.inr (fun e => this ⟨q, e⟩)
  ·exact Or.inl q
end Go.Proofs.YtjlpfpigggdemaaDoor.Uo
