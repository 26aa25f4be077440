/-
 Merged: U62.
-/
import Derived.Test.YtjlpfpigggdemaaGreatDoorMi35
namespace Go.Proofs.YtjlpfpigggdemaaGreatDoor
set_option maxRecDepth 8000
set_option maxHeartbeats 4000000
open Go.RowKit Va Uo
set_option linter.all false
def FQ3 (n1 g : Nat) (C G c1 : Nat) (os : List Od) (i9 : Nat) (v : Value) (w : World) : Prop :=
 match i9 with
 | 0 => v = .pointer (some ⟨C, 0, none⟩)
 | 1 => v = .slice (some ⟨G, 0, none⟩) os.length c1
 | 2 => v = .pointer (some ⟨g, 0, none⟩)
 | 3 => v = .pointer (some ⟨C, 0, none⟩)
 | 4 => v = .slice (some ⟨G, 0, none⟩) os.length c1
 | 5 => v = .int .i64 (os.length : Nat)
 | 6 => ∃ n : Nat, v = .int .i64 n /\ n < os.length
 | 7 => ∃ n : Nat, v = .pointer (some ⟨G, n * 9, none⟩) /\ n < os.length
 | 8 => ∃ y : Od, v = aOd y
 | 9 => ∃ B, v = .pointer (some ⟨B, 0, none⟩) /\ n1 <= B /\ PB w B #[.int .i64 0, .int .i64 0, .int .i64 0, .int .i64 0, .int .i64 0, .int .i64 0, .int .i64 0, .int .i64 0, .bool false] 38
 | 10 => True
 | _ => True
theorem keepQ3 {n1 g : Nat} {C G c1 : Nat} {os : List Od} {w w' : World} (hg : g < n1) (hk : Keep g w w') (k9 : Nat) (v : Value) (h : FQ3 n1 g C G c1 os k9 v w) : FQ3 n1 g C G c1 os k9 v w' := by
 unfold FQ3 at *
 split at h <;> first
  | exact h
  | (obtain ⟨B, h1, h2, h3⟩ := h; exact ⟨B, h1, h2, h3.keep hk (by omega)⟩)
theorem zd8 : (Rg.opsOf Tryz.f51 3).size = 11 := by kernel_rfl
theorem zak.keep {α : Type} {s : Nat} {cs : α -> Nat -> Value} {w w' : World} {g G n i : Nat} {l : List α} (h : zak s cs w G n l i) (hk : Keep g w w') (hg : G ≠ g) : zak s cs w' G n l i := by
 obtain ⟨h1, h2, h3⟩ := h
 have hb := hk.block G h1 hg
 have e : ∀ o, w'.cell? ⟨G, o, none⟩ = w.cell? ⟨G, o, none⟩ := fun o => by simp only [World.cell?, hb]
 have f : ∀ o, w'.frozen? ⟨G, o, none⟩ = w.frozen? ⟨G, o, none⟩ := fun o => by simp only [World.frozen?, hb]
 refine ⟨Nat.lt_of_lt_of_le h1 hk.size, fun j hj => ?_, fun j x hj hx k hks => ?_⟩
 ·rw [e, f]; exact h2 j hj
 ·rw [e]; exact h3 j x hj hx k hks
set_option maxRecDepth 20000 in
set_option maxHeartbeats 16000000 in
theorem regQ3 {Q : Exit -> Act -> World -> Prop} {a : Act} {w1 : World} {g : Nat} {ao : Option Addr} {cap : Nat} {bs : List Int} {vd : Value} {C G c1 : Nat} {os : List Od} (ha : a.tmps.size = 126)
  (k4 : a.tmps[4]? = some (.pointer (some ⟨C, 0, none⟩))) (k0 : a.tmps[0]? = some (.pointer (some ⟨g, 0, none⟩))) (hc : Cur w1 g ao cap bs) (hC : PB w1 C #[.slice (some ⟨G, 0, none⟩) os.length c1, vd] 27) (hCg : C ≠ g) (hGg : G ≠ g) (hV : zak 9 jd w1 G os.length os os.length) (hp : 0 < os.length) (hn : os.length <= 1048576)
  (hend : ∀ b' w' (B : Nat) (y : Od), Rg.Fr (Rg.opsOf Tryz.f51 3) a b' -> Cur w' g ao cap bs -> Keep g w1 w' -> Rg.out (Rg.opsOf Tryz.f51 3) b' 9 = .pointer (some ⟨B, 0, none⟩) -> w1.heap.size <= B -> PB w' B #[.int .i64 0, .int .i64 0, .int .i64 0, .int .i64 0, .int .i64 0, .int .i64 0, .int .i64 0, .int .i64 0, .bool false] 38 -> Q .normal b' (w'.setRow B #[.int .i64 y.id, .int .i64 y.p, .int .i64 y.d, .int .i64 y.n, .int .i64 y.f, .int .i64 y.e, .int .i64 y.c, .int .i64 y.s, .bool y.two])) :
  (Code.region 3 (Rg.opsOf Tryz.f51 3) true).wp Tryz.prog Q a w1 := by
 have hg1 : g < w1.heap.size := hc.1
 refine Rg.zfb 10 (by kernel_rfl) (fun w' => Cur w' g ao cap bs /\ Keep g w1 w') (FQ3 w1.heap.size g C G c1 os) (by rw [ha]; kernel_rfl) ⟨hc.drewN 1, (Keep.refl g w1).drewN 1⟩ ?_ ?_ ?_
 case refine_3 => exact fun h => absurd h (by rw [zd8]; decide)
 case refine_2 =>
  intro _ bb w' hf hI hA
  rw [zd8] at hA
  obtain ⟨y, hv45⟩ := hA 8 (by decide) (by decide)
  have q45 : bb.tmps[45]? = some _ := hf.tmp (k := 8) rfl (by rw [ha]; decide) hv45
  obtain ⟨B8, hv8, hB8, hP8⟩ := hA 9 (by decide) (by decide)
  have q8 : bb.tmps[8]? = some _ := hf.tmp (k := 9) rfl (by rw [ha]; decide) hv8
  have hE := hend bb w' B8 y hf hI.1 hI.2 hv8 hB8 hP8
  exact Rg.zaq (o := ⟨none, Op.store 38 (Operand.tmp 8) (Operand.tmp 45), _, _, _, _⟩) (w' := w'.setRow B8 #[.int .i64 y.id, .int .i64 y.p, .int .i64 y.d, .int .i64 y.n, .int .i64 y.f, .int .i64 y.e, .int .i64 y.c, .int .i64 y.s, .bool y.two]) rfl rfl (zii 38 (.tmp 8) (.tmp 45) ⟨B8, 0, none⟩ (.agg #[.int .i64 y.id, .int .i64 y.p, .int .i64 y.d, .int .i64 y.n, .int .i64 y.f, .int .i64 y.e, .int .i64 y.c, .int .i64 y.s, .bool y.two]) rfl (by simp [Act.eval, q8]) (by simp [Act.eval, q45]; rfl) (run_storeVar_row w' B8 _ 38 _ _ hP8 (by kernel_rfl) rfl (by simp [Value.oneCell']))) hE
 case refine_1 =>
  clear hend
  have HS : ∀ {w w' : World}, Keep g w w' -> ∀ k9 y9, FQ3 w1.heap.size g C G c1 os k9 y9 w -> FQ3 w1.heap.size g C G c1 os k9 y9 w' := fun hb k9 y9 h => keepQ3 hg1 hb k9 y9 h
  intro i' hi' hne
  rw [zd8] at hi'
  rcases (show i' = 0 ∨ i' = 1 ∨ i' = 2 ∨ i' = 3 ∨ i' = 4 ∨ i' = 5 ∨ i' = 6 ∨ i' = 7 ∨ i' = 8 ∨ i' = 9 by omega) with rfl | rfl | rfl | rfl | rfl | rfl | rfl | rfl | rfl | rfl
  ·intro bb w' hf hI hA
   clear hi' hne
   have q4 := hf.kept (s := 4) (by rw [zd8]; kernel_rfl) k4
   exact Rg.zf (o := ⟨some 37, Op.fieldAddr 27 (Operand.tmp 4) 0, _, _, _, _⟩) (x := .pointer (some ⟨C, 0, none⟩)) rfl rfl (by clear hA HS hC hV; simp only [execOp]; go_simp) ⟨_, rfl, (fun h => by cases h), rfl, hI, fun _ _ h => h⟩
  ·intro bb w' hf hI hA
   clear hi' hne
   have q37 : bb.tmps[37]? = some _ := hf.tmp (k := 0) rfl (by rw [ha]; decide) (hA 0 (by kernel_rfl))
   obtain ⟨e0, e1⟩ := (hC.keep hI.2 hCg).two
   exact Rg.zf (o := ⟨some 38, Op.load 24 (Operand.tmp 37), _, _, _, _⟩) (x := .slice (some ⟨G, 0, none⟩) os.length c1) rfl rfl (by clear hA HS hC hV; simp only [execOp]; go_simp) ⟨_, rfl, (fun h => by cases h), rfl, hI, fun _ _ h => h⟩
  ·intro bb w' hf hI hA
   clear hi' hne
   have q0 := hf.kept (s := 0) (by rw [zd8]; kernel_rfl) k0
   exact Rg.zf (o := ⟨some 39, Op.move (Operand.tmp 0), _, _, _, _⟩) (x := .pointer (some ⟨g, 0, none⟩)) rfl rfl (by clear hA HS hC hV; simp only [execOp]; go_simp) ⟨_, rfl, (fun h => by cases h), rfl, hI, fun _ _ h => h⟩
  ·intro bb w' hf hI hA
   clear hi' hne
   have q4 := hf.kept (s := 4) (by rw [zd8]; kernel_rfl) k4
   exact Rg.zf (o := ⟨some 40, Op.fieldAddr 27 (Operand.tmp 4) 0, _, _, _, _⟩) (x := .pointer (some ⟨C, 0, none⟩)) rfl rfl (by clear hA HS hC hV; simp only [execOp]; go_simp) ⟨_, rfl, (fun h => by cases h), rfl, hI, fun _ _ h => h⟩
  ·intro bb w' hf hI hA
   clear hi' hne
   have q40 : bb.tmps[40]? = some _ := hf.tmp (k := 3) rfl (by rw [ha]; decide) (hA 3 (by kernel_rfl))
   obtain ⟨e0, e1⟩ := (hC.keep hI.2 hCg).two
   exact Rg.zf (o := ⟨some 41, Op.load 24 (Operand.tmp 40), _, _, _, _⟩) (x := .slice (some ⟨G, 0, none⟩) os.length c1) rfl rfl (by clear hA HS hC hV; simp only [execOp]; go_simp) ⟨_, rfl, (fun h => by cases h), rfl, hI, fun _ _ h => h⟩
  ·intro bb w' hf hI hA
   clear hi' hne
   have q41 : bb.tmps[41]? = some _ := hf.tmp (k := 4) rfl (by rw [ha]; decide) (hA 4 (by kernel_rfl))
   exact Rg.zf (o := ⟨some 42, Op.call { callee := Callee.builtin Builtin.len, args := #[Operand.tmp 41], argTypes := _ }, _, _, _, _⟩) (x := .int .i64 (os.length : Nat)) rfl rfl (by clear hA HS hC hV; simp only [execOp]; go_simp) ⟨_, rfl, (fun h => by cases h), rfl, hI, fun _ _ h => h⟩
  ·intro bb w' hf hI hA
   clear hi' hne
   have q39 : bb.tmps[39]? = some _ := hf.tmp (k := 2) rfl (by rw [ha]; decide) (hA 2 (by kernel_rfl))
   have q42 : bb.tmps[42]? = some _ := hf.tmp (k := 5) rfl (by rw [ha]; decide) (hA 5 (by kernel_rfl))
   refine Rg.jr (o := ⟨some 43, Op.call { callee := Callee.value (Operand.func 13), args := #[Operand.tmp 39, Operand.tmp 42], argTypes := _ }, _, _, _, _⟩) rfl rfl (by clear hA HS hC hV; simp only [execOp, resolve]; go_simp) (qh g ao cap bs (os.length : Nat) w' hI.1 (by omega)) ?_
   rintro e w2 ⟨y, rfl, hx0, hx1, hc2, hk2⟩
   obtain ⟨n, rfl⟩ := Int.eq_ofNat_of_zero_le hx0
   exact ⟨_, rfl, _, rfl, (fun h => by cases h), ⟨n, rfl, by omega⟩, ⟨hc2, hI.2.trans hk2⟩, HS hk2⟩
  ·intro bb w' hf hI hA
   clear hi' hne
   have q38 : bb.tmps[38]? = some _ := hf.tmp (k := 1) rfl (by rw [ha]; decide) (hA 1 (by kernel_rfl))
   obtain ⟨n, hv, hnl⟩ := hA 6 (by kernel_rfl)
   have q43 : bb.tmps[43]? = some _ := hf.tmp (k := 6) rfl (by rw [ha]; decide) hv
   exact Rg.zf (o := ⟨some 44, Op.indexAddr 24 (Operand.tmp 38) (Operand.tmp 43), _, _, _, _⟩) (x := .pointer (some ⟨G, n * 9, none⟩)) rfl rfl (by clear hA HS hC hV hv; simp only [execOp]; go_simp) ⟨_, rfl, (fun h => by cases h), ⟨n, rfl, hnl⟩, hI, fun _ _ h => h⟩
  ·intro bb w' hf hI hA
   clear hi' hne
   obtain ⟨n, hv, hnl⟩ := hA 7 (by kernel_rfl)
   have q44 : bb.tmps[44]? = some _ := hf.tmp (k := 7) rfl (by rw [ha]; decide) hv
   have hx := List.getElem?_eq_getElem hnl
   generalize os[n] = y at hx
   have he := (hV.keep hI.2 hGg).2.2 n y hnl hx
   have e0 : w'.cell? ⟨G, n * 9, none⟩ = some (.int .i64 y.id) := he 0 (by decide)
   have e1 : w'.cell? ⟨G, n * 9 + 1, none⟩ = some (.int .i64 y.p) := he 1 (by decide)
   have e2 : w'.cell? ⟨G, n * 9 + 2, none⟩ = some (.int .i64 y.d) := he 2 (by decide)
   have e3 : w'.cell? ⟨G, n * 9 + 3, none⟩ = some (.int .i64 y.n) := he 3 (by decide)
   have e4 : w'.cell? ⟨G, n * 9 + 4, none⟩ = some (.int .i64 y.f) := he 4 (by decide)
   have e5 : w'.cell? ⟨G, n * 9 + 5, none⟩ = some (.int .i64 y.e) := he 5 (by decide)
   have e6 : w'.cell? ⟨G, n * 9 + 6, none⟩ = some (.int .i64 y.c) := he 6 (by decide)
   have e7 : w'.cell? ⟨G, n * 9 + 7, none⟩ = some (.int .i64 y.s) := he 7 (by decide)
   have e8 : w'.cell? ⟨G, n * 9 + 8, none⟩ = some (.bool y.two) := he 8 (by decide)
   exact Rg.zf (o := ⟨some 45, Op.load 38 (Operand.tmp 44), _, _, _, _⟩) (x := .agg #[.int .i64 y.id, .int .i64 y.p, .int .i64 y.d, .int .i64 y.n, .int .i64 y.f, .int .i64 y.e, .int .i64 y.c, .int .i64 y.s, .bool y.two]) rfl rfl (by clear hA HS hC hV hv hx he; simp only [execOp]; go_simp) ⟨_, rfl, (fun h => by cases h), ⟨y, rfl⟩, hI, fun _ _ h => h⟩
  ·intro bb w' hf hI hA
   clear hi' hne
   have hK : Keep g w' (w'.alloc (.cells #[.int .i64 0, .int .i64 0, .int .i64 0, .int .i64 0, .int .i64 0, .int .i64 0, .int .i64 0, .int .i64 0, .bool false] 38)) := (Keep.refl g w').alloc _
   exact Rg.zf (o := ⟨some 8, Op.alloc 38, _, _, _, _⟩) (x := .pointer (some ⟨w'.heap.size, 0, none⟩)) (w' := w'.alloc (.cells #[.int .i64 0, .int .i64 0, .int .i64 0, .int .i64 0, .int .i64 0, .int .i64 0, .int .i64 0, .int .i64 0, .bool false] 38)) rfl rfl (by clear hA HS hC hV; simp only [execOp]; go_simp) ⟨_, rfl, (fun h => by cases h), ⟨_, rfl, hI.2.size, PB.new _ _ _⟩, ⟨hI.1.alloc _, hI.2.trans hK⟩, HS hK⟩
theorem layQ3 {a b : Act} (hf : Rg.Fr (Rg.opsOf Tryz.f51 3) a b) : b = Rg.fl (Rg.opsOf Tryz.f51 3) b 0 [some 37, some 38, some 39, some 40, some 41, some 42, some 43, some 44, some 45, some 8, none] a := Rg.ql _ (by kernel_rfl) hf
def FQ27 (n1 g : Nat) (V : Nat) (x : Dd) (i9 : Nat) (v : Value) (w : World) : Prop :=
 match i9 with
 | 0 => v = .pointer (some ⟨V, 15, none⟩)
 | 1 => v = .int .i64 x.b
 | 2 => ∃ T zs, v = .slice (some ⟨T, 0, none⟩) 4 4 /\ zs.length = 4 /\ n1 <= T /\ Tb g w T zs
 | 3 => v = .pointer (some ⟨g, 0, none⟩)
 | 4 => ∃ n : Nat, v = .int .i64 n /\ n < 4
 | 5 => ∃ T n zs, v = .pointer (some ⟨T, n, none⟩) /\ n < zs.length /\ n1 <= T /\ Tb g w T zs
 | 6 => ∃ z : Int, v = .int .i64 z
 | 7 => v = .pointer (some ⟨V, 16, none⟩)
 | 8 => True
 | _ => True
theorem keepQ27 {n1 g : Nat} {V : Nat} {x : Dd} {w w' : World} (hg : g < n1) (hk : Keep g w w') (k9 : Nat) (v : Value) (h : FQ27 n1 g V x k9 v w) : FQ27 n1 g V x k9 v w' := by
 unfold FQ27 at *
 split at h <;> first
  | exact h
  | (obtain ⟨T, zs, h1, h2, h3, h4⟩ := h; exact ⟨T, zs, h1, h2, h3, h4.keep hk⟩)
  | (obtain ⟨T, n, zs, h1, h2, h3, h4⟩ := h; exact ⟨T, n, zs, h1, h2, h3, h4.keep hk⟩)
  | (obtain ⟨B, h1, h2, h3⟩ := h; exact ⟨B, h1, h2, h3.keep hk (by omega)⟩)
  | (obtain ⟨B, y1, h1, h2, h3⟩ := h; exact ⟨B, y1, h1, h2, h3.keep hk (by omega)⟩)
  | (obtain ⟨B, y1, y2, h1, h2, h3⟩ := h; exact ⟨B, y1, y2, h1, h2, h3.keep hk (by omega)⟩)
  | (obtain ⟨B, y1, y2, y3, h1, h2, h3⟩ := h; exact ⟨B, y1, y2, y3, h1, h2, h3.keep hk (by omega)⟩)
  | (obtain ⟨B, y1, y2, y3, y4, h1, h2, h3⟩ := h; exact ⟨B, y1, y2, y3, y4, h1, h2, h3.keep hk (by omega)⟩)
theorem zdt : (Rg.opsOf Tryz.f51 27).size = 9 := by kernel_rfl
set_option maxRecDepth 20000 in
set_option maxHeartbeats 16000000 in
theorem regQ27 {Q : Exit -> Act -> World -> Prop} {a : Act} {w1 : World} {g : Nat} {ao : Option Addr} {cap : Nat} {bs : List Int} {V : Nat} {x : Dd} (ha : a.tmps.size = 126)
  (k7 : a.tmps[7]? = some (.pointer (some ⟨V, 0, none⟩))) (k0 : a.tmps[0]? = some (.pointer (some ⟨g, 0, none⟩))) (hc : Cur w1 g ao cap bs) (hV : PB w1 V (zat x) 40) (hVg : V ≠ g)
  (hend : ∀ b' w' (z : Int), Rg.Fr (Rg.opsOf Tryz.f51 27) a b' -> Cur w' g ao cap bs -> Keep g w1 w' -> Q .normal b' (w'.setCell ⟨V, 16, none⟩ (.int .i64 z))) :
  (Code.region 27 (Rg.opsOf Tryz.f51 27) true).wp Tryz.prog Q a w1 := by
 have hg1 : g < w1.heap.size := hc.1
 refine Rg.zfb 8 (by kernel_rfl) (fun w' => Cur w' g ao cap bs /\ Keep g w1 w') (FQ27 w1.heap.size g V x) (by rw [ha]; kernel_rfl) ⟨hc.drewN 1, (Keep.refl g w1).drewN 1⟩ ?_ ?_ ?_
 case refine_3 => exact fun h => absurd h (by rw [zdt]; decide)
 case refine_2 =>
  intro _ bb w' hf hI hA
  rw [zdt] at hA
  obtain ⟨z123, hv123⟩ := hA 6 (by decide) (by decide)
  have q123 : bb.tmps[123]? = some _ := hf.tmp (k := 6) rfl (by rw [ha]; decide) hv123
  have q124 : bb.tmps[124]? = some _ := hf.tmp (k := 7) rfl (by rw [ha]; decide) (hA 7 (by decide) (by decide))
  have hE := hend bb w' z123 hf hI.1 hI.2
  have e0 : w'.cell? ⟨V, 16, none⟩ = some _ := (hV.keep hI.2 hVg).cell 16
  have f0 := (hV.keep hI.2 hVg).frozen 16
  clear hA hend hf hI hv123
  refine Rg.zaq (o := ⟨none, Op.store 2 (Operand.tmp 124) (Operand.tmp 123), _, _, _, _⟩) (w' := w'.setCell ⟨V, 16, none⟩ (.int .i64 z123)) rfl rfl ?_ hE
  clear hE
  simp only [execOp]
  go_simp
 case refine_1 =>
  clear hend
  have HS : ∀ {w w' : World}, Keep g w w' -> ∀ k9 y9, FQ27 w1.heap.size g V x k9 y9 w -> FQ27 w1.heap.size g V x k9 y9 w' := fun hb k9 y9 h => keepQ27 hg1 hb k9 y9 h
  intro i' hi' hne
  rw [zdt] at hi'
  rcases (show i' = 0 ∨ i' = 1 ∨ i' = 2 ∨ i' = 3 ∨ i' = 4 ∨ i' = 5 ∨ i' = 6 ∨ i' = 7 by omega) with rfl | rfl | rfl | rfl | rfl | rfl | rfl | rfl
  ·intro bb w' hf hI hA
   clear hi' hne
   have q7 := hf.kept (s := 7) (by rw [zdt]; kernel_rfl) k7
   exact Rg.zf (o := ⟨some 117, Op.fieldAddr 40 (Operand.tmp 7) 7, _, _, _, _⟩) (x := .pointer (some ⟨V, 15, none⟩)) rfl rfl (by clear hA HS ; simp only [execOp]; go_simp) ⟨_, rfl, (fun h => by cases h), rfl, hI, fun _ _ h => h⟩
  ·intro bb w' hf hI hA
   clear hi' hne
   have q117 : bb.tmps[117]? = some _ := hf.tmp (k := 0) rfl (by rw [ha]; decide) (hA 0 (by kernel_rfl))
   have e15 : w'.cell? ⟨V, 15, none⟩ = some (.int .i64 x.b) := (hV.keep hI.2 hVg).cell 15
   exact Rg.zf (o := ⟨some 118, Op.load 2 (Operand.tmp 117), _, _, _, _⟩) (x := .int .i64 x.b) rfl rfl (by clear hA HS ; simp only [execOp]; go_simp) ⟨_, rfl, (fun h => by cases h), rfl, hI, fun _ _ h => h⟩
  ·intro bb w' hf hI hA
   clear hi' hne
   have q118 : bb.tmps[118]? = some _ := hf.tmp (k := 1) rfl (by rw [ha]; decide) (hA 1 (by kernel_rfl))
   have hK : Keep g w' (w'.alloc (.cells #[.int .i64 (-2), .int .i64 (-1), .int .i64 x.b, .int .i64 6] 2)) := (Keep.refl g w').alloc _
   have hT := Tb.new (g := g) (w := w') [(-2), (-1), x.b, 6] hI.1.1
   exact Rg.zf (o := ⟨some 119, Op.buildSlice 46 4 #[(0, (Operand.const (Value.int IntKind.i64 (-2)))), (1, (Operand.const (Value.int IntKind.i64 (-1)))), (2, (Operand.tmp 118)), (3, (Operand.const (Value.int .i64 6)))], _, _, _, _⟩) (x := .slice (some ⟨w'.heap.size, 0, none⟩) 4 4) (w' := w'.alloc (.cells #[.int .i64 (-2), .int .i64 (-1), .int .i64 x.b, .int .i64 6] 2)) rfl rfl (by clear hA HS ; simp only [execOp]; go_simp) ⟨_, rfl, (fun h => by cases h), ⟨_, _, rfl, rfl, hI.2.size, hT⟩, ⟨(hI.1.alloc _), hI.2.trans hK⟩, HS hK⟩
  ·intro bb w' hf hI hA
   clear hi' hne
   have q0 := hf.kept (s := 0) (by rw [zdt]; kernel_rfl) k0
   exact Rg.zf (o := ⟨some 120, Op.move (Operand.tmp 0), _, _, _, _⟩) (x := .pointer (some ⟨g, 0, none⟩)) rfl rfl (by clear hA HS ; simp only [execOp]; go_simp) ⟨_, rfl, (fun h => by cases h), rfl, hI, fun _ _ h => h⟩
  ·intro bb w' hf hI hA
   clear hi' hne
   have q120 : bb.tmps[120]? = some _ := hf.tmp (k := 3) rfl (by rw [ha]; decide) (hA 3 (by kernel_rfl))
   refine Rg.jr (o := ⟨some 121, Op.call { callee := Callee.value (Operand.func 13), args := #[(Operand.tmp 120), (Operand.const (Value.int .i64 4))], argTypes := _ }, _, _, _, _⟩) rfl rfl (by clear hA HS  ; simp only [execOp, resolve]; go_simp) (qh g ao cap bs 4 w' hI.1 (by omega)) ?_
   rintro e w2 ⟨y, rfl, hx0, hx1, hc2, hk2⟩
   obtain ⟨n, rfl⟩ := Int.eq_ofNat_of_zero_le hx0
   exact ⟨_, rfl, _, rfl, (fun h => by cases h), ⟨n, rfl, by omega⟩, ⟨hc2, hI.2.trans hk2⟩, HS hk2⟩
  ·intro bb w' hf hI hA
   clear hi' hne
   obtain ⟨T119, zs119, hv119, hl119, hT119, hb119⟩ := hA 2 (by kernel_rfl)
   have q119 : bb.tmps[119]? = some _ := hf.tmp (k := 2) rfl (by rw [ha]; decide) hv119
   obtain ⟨n121, hv121, hn121⟩ := hA 4 (by kernel_rfl)
   have q121 : bb.tmps[121]? = some _ := hf.tmp (k := 4) rfl (by rw [ha]; decide) hv121
   have hnl : (n121 : Int) < 4 := by omega
   exact Rg.zf (o := ⟨some 122, Op.indexAddr 46 (Operand.tmp 119) (Operand.tmp 121), _, _, _, _⟩) (x := .pointer (some ⟨T119, n121, none⟩)) rfl rfl (by clear hA HS hv119  hv121  hb119 hl119; simp only [execOp]; go_simp) ⟨_, rfl, (fun h => by cases h), ⟨T119, n121, zs119, rfl, by omega, hT119, hb119⟩, hI, fun _ _ h => h⟩
  ·intro bb w' hf hI hA
   clear hi' hne
   obtain ⟨T122, n122, zs122, hv122, hl122, hT122, hb122⟩ := hA 5 (by kernel_rfl)
   have q122 : bb.tmps[122]? = some _ := hf.tmp (k := 5) rfl (by rw [ha]; decide) hv122
   have hcell := hb122.at hl122
   generalize hz : zs122[n122] = z at hcell
   exact Rg.zf (o := ⟨some 123, Op.load 2 (Operand.tmp 122), _, _, _, _⟩) (x := .int .i64 z) rfl rfl (by clear hA HS hv122  hb122 hz; simp only [execOp]; go_simp) ⟨_, rfl, (fun h => by cases h), ⟨z, rfl⟩, hI, fun _ _ h => h⟩
  ·intro bb w' hf hI hA
   clear hi' hne
   have q7 := hf.kept (s := 7) (by rw [zdt]; kernel_rfl) k7
   exact Rg.zf (o := ⟨some 124, Op.fieldAddr 40 (Operand.tmp 7) 8, _, _, _, _⟩) (x := .pointer (some ⟨V, 16, none⟩)) rfl rfl (by clear hA HS ; simp only [execOp]; go_simp) ⟨_, rfl, (fun h => by cases h), rfl, hI, fun _ _ h => h⟩
theorem pnQ27 (a : Act) (v : Value) : a.put none v = a := rfl
theorem layQ27 {a b : Act} (hf : Rg.Fr (Rg.opsOf Tryz.f51 27) a b) : b = Rg.fl (Rg.opsOf Tryz.f51 27) b 0 [some 117, some 118, some 119, some 120, some 121, some 122, some 123, some 124, none] a := Rg.ql _ (by kernel_rfl) hf
end Go.Proofs.YtjlpfpigggdemaaGreatDoor
