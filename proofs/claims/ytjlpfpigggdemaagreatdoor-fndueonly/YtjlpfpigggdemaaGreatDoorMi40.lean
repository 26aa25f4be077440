/-
 Merged: Rl U71 U72.
-/
import Derived.Test.YtjlpfpigggdemaaGreatDoorMi5
import Derived.Test.YtjlpfpigggdemaaGreatDoorMi39
import Derived.Test.YtjlpfpigggdemaaGreatDoorMi6
namespace Go.Proofs.YtjlpfpigggdemaaGreatDoor.Rg
set_option maxRecDepth 8000
set_option maxHeartbeats 4000000
open Go
set_option linter.all false
section
variable {P : Program} {ops : Array Oper} {Q : Exit -> Act -> World -> Prop}
set_option maxRecDepth 20000 in
set_option maxHeartbeats 16000000 in
theorem zhr {id : Nat} {a : Act} {w : World} (hm : P.follows .mixedOrders = true) (I : Array Bool -> World -> Prop) (F : Nat -> Value -> World -> Prop) (hfit : fit .any ops a.tmps.size ops.size = true)
  (h0 : I (Array.replicate ops.size false) { w with drawn := w.drawn + 1 })
  (hop : ∀ i, i < ops.size -> ∀ l b w, l.size = ops.size -> l.getD i false = false -> Shut .any ops l -> (∀ k, kw .any ops i k = true -> l.getD k false = true) -> (∀ j, kw .any ops j i = true -> l.getD j false = false) -> Fr ops a b -> I l w -> (∀ k, kw .any ops i k = true -> F k (out ops b k) w) →
   wpOp P ops Q i (fun b' w' => ∃ x, b' = b.put (ja ops i) x /\ (ja ops i = none -> F i undef w') /\ F i x w' /\ I (l.setIfInBounds i true) w' /\ ∀ k y, k ≠ i -> F k y w -> F k y w') b w)
  (hend : ∀ l b w', Fr ops a b -> (∀ k, k < ops.size -> l.getD k false = true) -> I l w' -> (∀ k, k < ops.size -> F k (out ops b k) w') -> Q .normal b w') : (Code.region id ops true).wp P Q a w := by
 refine wp_region_any hm ?_
 refine zc1 (fun l b w' => l.size = ops.size /\ Shut .any ops l /\ Fr ops a b /\ I l w' /\ ∀ k, k < ops.size -> l.getD k false = true -> F k (out ops b k) w') ?_ ?_ _ _ _ _ ?_ ?_
 ·rintro l b w' i ⟨hs, hsh, hf, hI, hF⟩ hi
  obtain ⟨hi0, o, hio, haft⟩ := mem_ready.1 hi
  have hlt : i < ops.size := (Array.getElem?_eq_some_iff.1 hio).1
  have hli := zck (b := false) hi0
  have hlf : l.getD i false = false := by rw [Array.getD_eq_getD_getElem?, hli]; rfl
  have hl2 : (l.setIfInBounds i true).size = ops.size := by rw [Array.size_setIfInBounds]; exact hs
  have hA : ∀ k, kw .any ops i k = true -> F k (out ops b k) w' := by
   intro k hk
   have hlk := za4 hio haft hk
   have hkl : k < ops.size := by
    have : k < l.size := by
     rcases Nat.lt_or_ge k l.size with q | q
     ·exact q
     ·rw [Array.getD_eq_getD_getElem?, Array.getElem?_eq_none q] at hlk; cases hlk
    omega
   exact hF k hkl hlk
  have hN : ∀ j, kw .any ops j i = true -> l.getD j false = false := by
   intro j hj
   cases q : l.getD j false with
   | false => rfl
   | true => rw [hsh j i q hj] at hlf; cases hlf
  refine wpOp_mono ?_ (hop i hlt l b w' hs hlf hsh (fun k hk => za4 hio haft hk) hN hf hI hA)
  rintro b' w'' ⟨x, rfl, hx0, hx, hI2, hst⟩
  refine ⟨hl2, ?_, hf.put i x, hI2, fun k hk hlk => ?_⟩
  ·intro k j hk hkj
   by_cases hki : k = i
   ·subst hki
    exact getD_set_true (za4 hio haft hkj)
   ·rw [getD_set_ne false (Ne.symm hki)] at hk
    exact getD_set_true (hsh k j hk hkj)
  ·rw [zb8 hfit hf rfl x (fun _ => .inr trivial)]
   by_cases hki : k = i
   ·subst hki
    cases hd : ja ops k with
    | none =>
     rw [if_neg (by simp)]
     have : out ops b k = undef := by unfold out; rw [hd]
     rw [this]; exact hx0 hd
    | some d => rw [if_pos ⟨rfl, rfl⟩]; exact hx
   ·rw [if_neg (fun q => hki q.1)]
    rw [getD_set_ne false (Ne.symm hki)] at hlk
    exact hst k _ hki (hF k hk hlk)
 ·rintro l b w' ⟨hs, hsh, hf, hI, hF⟩ hr
  have hall := zc0 hfit hs hr
  exact hend l b w' hf hall hI (fun k hk => hF k hk (hall k hk))
 ·refine ⟨by simp, fun k j hk _ => ?_, ⟨rfl, rfl, fun s _ => rfl⟩, h0, fun k hk hlk => ?_⟩
  ·simp only [Array.getD_eq_getD_getElem?, Array.getElem?_replicate] at hk
   split at hk <;> cases hk
  ·simp only [Array.getD_eq_getD_getElem?, Array.getElem?_replicate, if_pos hk] at hlk
   cases hlk
 ·simp
end
end Go.Proofs.YtjlpfpigggdemaaGreatDoor.Rg
namespace Go.Proofs.YtjlpfpigggdemaaGreatDoor
open Go.RowKit Va Uo
set_option linter.all false
def FY17 (n1 : Nat) (w0 : World) (g Rb C : Nat) (ao : Option Addr) (cap : Nat) (bs : List Int) (vo vd : Value) (os : List Od) (ds : List Ds) (G n : Nat) (i9 : Nat) (v : Value) (w : World) : Prop :=
 match i9 with
 | 0 => v = .pointer (some ⟨C, 1, none⟩)
 | 1 => v = vd
 | 2 => v = .pointer (some ⟨G, n * 5, none⟩)
 | 3 => v = .pointer (some ⟨G, n * 5, none⟩)
 | 4 => ∃ y : Ds, v = aDs y
 | 5 => ∃ (B : Nat) (y : Ds), v = .slice (some ⟨B, 0, none⟩) 1 1 /\ n1 <= B /\ PB w B #[.int .i64 y.o, .int .i64 y.t, .int .i64 y.m, .int .i64 y.b, .int .i64 y.a] 35
 | 6 => ∃ (y : Ds) (cb : Array Value), SC w0 w g Rb C ao cap bs cb vo v os (ds ++ [y])
 | 7 => v = .pointer (some ⟨C, 1, none⟩)
 | 8 => True
 | _ => True
theorem zcx : (Rg.opsOf Tryz.f10 17).size = 9 := by kernel_rfl
theorem keepY17 {n1 : Nat} {w0 : World} {g Rb C : Nat} {ao : Option Addr} {cap : Nat} {bs : List Int} {vo vd : Value} {os : List Od} {ds : List Ds} {G n : Nat} {w w' : World} (hg : g < n1) (hk : Keep g w w') (k9 : Nat) (v : Value) (h : FY17 n1 w0 g Rb C ao cap bs vo vd os ds G n k9 v w) (hcu : Cur w g ao cap bs -> Cur w' g ao cap bs := by exact fun h => h.alloc _) : FY17 n1 w0 g Rb C ao cap bs vo vd os ds G n k9 v w' := by
 unfold FY17 at *
 split at h <;> first
  | exact h
  | (obtain ⟨B, y, h1, h2, h3⟩ := h; exact ⟨B, y, h1, h2, h3.keep hk (by omega)⟩)
  | (obtain ⟨y, cb, h1⟩ := h; exact ⟨y, cb, h1.call (hcu h1.cur) hk⟩)
def IY17 (w1 : World) (w0 : World) (g Rb C : Nat) (ao : Option Addr) (cap : Nat) (bs : List Int) (vo vd : Value) (os : List Od) (ds : List Ds) (G n : Nat) (l : Array Bool) (w' : World) : Prop :=
 (l.getD 6 false = false -> SC w0 w' g Rb C ao cap bs #[vo, vd] vo vd os ds) /\ (l.getD 8 false = false -> PB w' C #[vo, vd] 27) /\ (l.getD 8 false = true -> ∃ (v' : Value) (y : Ds), SC w0 w' g Rb C ao cap bs #[vo, v'] vo v' os (ds ++ [y])) /\ w1.heap.size <= w'.heap.size
theorem zd1 {w1 : World} {w0 : World} {g Rb C : Nat} {ao : Option Addr} {cap : Nat} {bs : List Int} {vo vd : Value} {os : List Od} {ds : List Ds} {G n : Nat} {l : Array Bool} {w : World} {i : Nat} (hi : i ≠ 6) (hi8 : i ≠ 8) (h : IY17 w1 w0 g Rb C ao cap bs vo vd os ds G n l w) : IY17 w1 w0 g Rb C ao cap bs vo vd os ds G n (l.setIfInBounds i true) w := by
 unfold IY17
 rw [Rg.jk hi, Rg.jk hi8]
 exact h
theorem allocY17 {w1 : World} {w0 : World} {g Rb C : Nat} {ao : Option Addr} {cap : Nat} {bs : List Int} {vo vd : Value} {os : List Od} {ds : List Ds} {G n : Nat} {l : Array Bool} {w : World} {i : Nat} (hi : i ≠ 6) (hi8 : i ≠ 8) (h6 : l.getD 6 false = false) (h8 : l.getD 8 false = false) (h : IY17 w1 w0 g Rb C ao cap bs vo vd os ds G n l w) (o : Obj) : IY17 w1 w0 g Rb C ao cap bs vo vd os ds G n (l.setIfInBounds i true) (w.alloc o) := by
 unfold IY17
 rw [Rg.jk hi, Rg.jk hi8, h6, h8]
 have hS := (h.1 h6).alloc o
 exact ⟨fun _ => hS, fun _ => hS.c, (fun q => by cases q), by have := h.2.2.2; simp; omega⟩
set_option maxRecDepth 20000 in
set_option maxHeartbeats 16000000 in
theorem regY17 {Q : Exit -> Act -> World -> Prop} {a : Act} {w1 : World} {w0 : World} {g Rb C : Nat} {ao : Option Addr} {cap : Nat} {bs : List Int} {vo vd : Value} {os : List Od} {ds : List Ds} {G n : Nat} (ha : a.tmps.size = 170)
  (k4 : a.tmps[4]? = some (.pointer (some ⟨C, 0, none⟩))) (k6 : a.tmps[6]? = some (.pointer (some ⟨G, n * 5, none⟩))) (hSC : SC w0 w1 g Rb C ao cap bs #[vo, vd] vo vd os ds) (hm : ds.length <= 1000)
  (hV : ∀ w', SC w0 w' g Rb C ao cap bs #[vo, vd] vo vd os ds -> ∃ y : Ds, ∀ k, k < 5 -> w'.cell? ⟨G, n * 5 + k, none⟩ = some (jy y k))
  (hend : ∀ b' w' (v' : Value) (y : Ds), Rg.Fr (Rg.opsOf Tryz.f10 17) a b' -> SC w0 w' g Rb C ao cap bs #[vo, v'] vo v' os (ds ++ [y]) -> Q .normal b' w') :
  (Code.region 17 (Rg.opsOf Tryz.f10 17) true).wp Tryz.prog Q a w1 := by
 obtain ⟨i0, hi0, hv0, hv1, hv2⟩ := info_parts zb6
 have hg1 : g < w1.heap.size := hSC.cur.1
 have hC1 := hSC.c.lt
 have hrow : ∀ k, vd.ownBlock = some k -> k < w1.heap.size := fun k hk => (hSC.new.2.lt k hk).2
 refine Rg.zhr (by kernel_rfl) (IY17 w1 w0 g Rb C ao cap bs vo vd os ds G n) (FY17 w1.heap.size w0 g Rb C ao cap bs vo vd os ds G n) (by rw [ha, zcx]; kernel_rfl) ⟨fun _ => hSC.call (hSC.cur.drewN 1) ((Keep.refl g w1).drewN 1), fun _ => hSC.c.drewN 1, fun h => (by rw [Rg.zaz] at h; cases h), Nat.le_refl _⟩ ?_ ?_
 case refine_2 =>
  intro l b' w' hf hall hI hA
  rw [zcx] at hall
  obtain ⟨v', y, h1⟩ := hI.2.2.1 (hall 8 (by omega))
  exact hend b' w' v' y hf h1
 case refine_1 =>
  clear hend
  intro i' hi'
  rw [zcx] at hi'
  rcases (show i' = 0 ∨ i' = 1 ∨ i' = 2 ∨ i' = 3 ∨ i' = 4 ∨ i' = 5 ∨ i' = 6 ∨ i' = 7 ∨ i' = 8 by omega) with rfl | rfl | rfl | rfl | rfl | rfl | rfl | rfl | rfl
  ·intro ll bb w' hs hlf hsh hdn hN9 hf hIl hA
   clear hi'
   have q4 := hf.kept (s := 4) (by rw [zcx]; kernel_rfl) k4
   exact Rg.zf (o := ⟨some 86, Op.fieldAddr 27 (Operand.tmp 4) 1, _, _, _, _⟩) (x := .pointer (some ⟨C, 1, none⟩)) rfl rfl (by clear hA hV hN9 hIl hsh hdn; simp only [execOp]; go_simp) ⟨_, rfl, (fun h => by cases h), rfl, zd1 (by decide) (by decide) hIl, fun _ _ _ h => h⟩
  ·intro ll bb w' hs hlf hsh hdn hN9 hf hIl hA
   clear hi'
   have h6 : ll.getD 6 false = false := by
    cases q : ll.getD 6 false with
    | false => rfl
    | true => rw [hsh 6 1 q (by kernel_rfl)] at hlf; cases hlf
   have hS := hIl.1 h6
   have q86 : bb.tmps[86]? = some _ := hf.tmp (k := 0) rfl (by rw [ha]; decide) (hA 0 (by kernel_rfl))
   obtain ⟨e0, e1⟩ := hS.c.two
   exact Rg.zf (o := ⟨some 87, Op.load 25 (Operand.tmp 86), _, _, _, _⟩) (x := vd) rfl rfl (by clear hA hV hN9 hIl hsh hdn hS; simp only [execOp]; go_simp) ⟨_, rfl, (fun h => by cases h), rfl, zd1 (by decide) (by decide) hIl, fun _ _ _ h => h⟩
  ·intro ll bb w' hs hlf hsh hdn hN9 hf hIl hA
   clear hi'
   have q6 := hf.kept (s := 6) (by rw [zcx]; kernel_rfl) k6
   exact Rg.zf (o := ⟨some 88, Op.move (Operand.tmp 6), _, _, _, _⟩) (x := .pointer (some ⟨G, n * 5, none⟩)) rfl rfl (by clear hA hV hN9 hIl hsh hdn; simp only [execOp]; go_simp) ⟨_, rfl, (fun h => by cases h), rfl, zd1 (by decide) (by decide) hIl, fun _ _ _ h => h⟩
  ·intro ll bb w' hs hlf hsh hdn hN9 hf hIl hA
   clear hi'
   have q88 : bb.tmps[88]? = some _ := hf.tmp (k := 2) rfl (by rw [ha]; decide) (hA 2 (by kernel_rfl))
   exact Rg.zf (o := ⟨some 89, Op.nilCheck (Operand.tmp 88), _, _, _, _⟩) (x := .pointer (some ⟨G, n * 5, none⟩)) rfl rfl (by clear hA hV hN9 hIl hsh hdn; simp only [execOp]; go_simp) ⟨_, rfl, (fun h => by cases h), rfl, zd1 (by decide) (by decide) hIl, fun _ _ _ h => h⟩
  ·intro ll bb w' hs hlf hsh hdn hN9 hf hIl hA
   clear hi'
   have h6 : ll.getD 6 false = false := by
    cases q : ll.getD 6 false with
    | false => rfl
    | true => rw [hsh 5 4 (hsh 6 5 q (by kernel_rfl)) (by kernel_rfl)] at hlf; cases hlf
   have hS := hIl.1 h6
   have q89 : bb.tmps[89]? = some _ := hf.tmp (k := 3) rfl (by rw [ha]; decide) (hA 3 (by kernel_rfl))
   obtain ⟨y, hy⟩ := hV w' hS
   have e0 : w'.cell? ⟨G, n * 5, none⟩ = some (.int .i64 y.o) := hy 0 (by decide)
   have e1 : w'.cell? ⟨G, n * 5 + 1, none⟩ = some (.int .i64 y.t) := hy 1 (by decide)
   have e2 : w'.cell? ⟨G, n * 5 + 2, none⟩ = some (.int .i64 y.m) := hy 2 (by decide)
   have e3 : w'.cell? ⟨G, n * 5 + 3, none⟩ = some (.int .i64 y.b) := hy 3 (by decide)
   have e4 : w'.cell? ⟨G, n * 5 + 4, none⟩ = some (.int .i64 y.a) := hy 4 (by decide)
   exact Rg.zf (o := ⟨some 90, Op.load 35 (Operand.tmp 89), _, _, _, _⟩) (x := .agg #[.int .i64 y.o, .int .i64 y.t, .int .i64 y.m, .int .i64 y.b, .int .i64 y.a]) rfl rfl (by clear hA hV hN9 hIl hsh hdn hy hS; simp only [execOp]; go_simp) ⟨_, rfl, (fun h => by cases h), ⟨y, rfl⟩, zd1 (by decide) (by decide) hIl, fun _ _ _ h => h⟩
  ·intro ll bb w' hs hlf hsh hdn hN9 hf hIl hA
   clear hi'
   have h6 : ll.getD 6 false = false := by
    cases q : ll.getD 6 false with
    | false => rfl
    | true => rw [hsh 6 5 q (by kernel_rfl)] at hlf; cases hlf
   have hS := hIl.1 h6
   obtain ⟨y, hv⟩ := hA 4 (by kernel_rfl)
   unfold aDs at hv
   have q90 : bb.tmps[90]? = some _ := hf.tmp (k := 4) rfl (by rw [ha]; decide) hv
   have hK : Keep g w' (w'.alloc (.cells #[.int .i64 y.o, .int .i64 y.t, .int .i64 y.m, .int .i64 y.b, .int .i64 y.a] 35)) := (Keep.refl g w').alloc _
   exact Rg.zf (o := ⟨some 91, Op.buildSlice 25 1 #[(0, (Operand.tmp 90))], _, _, _, _⟩) (x := .slice (some ⟨w'.heap.size, 0, none⟩) 1 1) (w' := w'.alloc (.cells #[.int .i64 y.o, .int .i64 y.t, .int .i64 y.m, .int .i64 y.b, .int .i64 y.a] 35)) rfl rfl (by clear hA hV hN9 hIl hsh hdn hv hS; simp only [execOp]; go_simp) ⟨_, rfl, (fun h => by cases h), ⟨_, y, rfl, hIl.2.2.2, PB.new _ _ _⟩, allocY17 (by decide) (by decide) h6 (by
    cases q : ll.getD 8 false with
    | false => rfl
    | true => rw [hsh 8 6 q (by kernel_rfl)] at h6; cases h6) hIl _, fun k9 y9 _ h => keepY17 hg1 hK k9 y9 h⟩
  ·intro ll bb w' hs hlf hsh hdn hN9 hf hIl hA
   clear hi'
   have h8 := hN9 8 (by kernel_rfl)
   have hS := hIl.1 hlf
   obtain ⟨B, y, hv, hB, hP⟩ := hA 5 (by kernel_rfl)
   have q91 : bb.tmps[91]? = some _ := hf.tmp (k := 5) rfl (by rw [ha]; decide) hv
   have q87 : bb.tmps[87]? = some _ := hf.tmp (k := 1) rfl (by rw [ha]; decide) (hA 1 (by kernel_rfl))
   have hks := hS.keep.size
   refine Rg.zek (o := ⟨some 92, Op.call { callee := Callee.builtin Builtin.append, args := #[Operand.tmp 87, Operand.tmp 91], argTypes := #[25, 25] }, _, _, _, _⟩) rfl rfl (Operand.tmp 87) (Operand.tmp 91) 25 rfl w0.heap.size 35 i0 (.agg #[.int .i64 0, .int .i64 0, .int .i64 0, .int .i64 0, .int .i64 0]) 5 40 Tryz.underlying25 hi0 hv0 hv1 hv2 rfl (by decide) vd ds.length (zt 5 jy ds) (by simp [Act.eval, q87]) hS.new.2 ⟨B, 0, none⟩ 1 1 [.int .i64 y.o, .int .i64 y.t, .int .i64 y.m, .int .i64 y.b, .int .i64 y.a] (by simp [Act.eval, q91]) rfl (fun j u hu => by rw [Addr.add_lit, Nat.zero_add, hP.cell]; simpa using hu) (by simp [Value.oneCell']) (by unfold maxLen; omega) (by omega) hks ?_
   intro v2 w2 ho2 hg2 hat2
   have hS2 := hS.appD (y := y) ho2 hg2
   have hPC : PB w2 C #[vo, vd] 27 := hS2.c
   refine ⟨_, rfl, (fun h => by cases h), ⟨y, _, hS2⟩, ⟨fun h => (by rw [Rg.set_self hs (by rw [zcx]; decide)] at h; cases h), fun _ => hPC, fun h => (by rw [Rg.jk (by decide), h8] at h; cases h), Nat.le_trans hIl.2.2.2 hg2.size⟩, fun k9 y9 hk h => ?_⟩
   unfold FY17 at *
   split at h <;> first
    | exact h
    | (obtain ⟨B2, y2, h1, h2, h3⟩ := h; exact ⟨B2, y2, h1, h2, (hg2.block B2 h3.lt (fun e => by have := hrow B2 e.symm; omega)).trans h3⟩)
    | exact absurd rfl hk
  ·intro ll bb w' hs hlf hsh hdn hN9 hf hIl hA
   clear hi'
   have q4 := hf.kept (s := 4) (by rw [zcx]; kernel_rfl) k4
   exact Rg.zf (o := ⟨some 93, Op.fieldAddr 27 (Operand.tmp 4) 1, _, _, _, _⟩) (x := .pointer (some ⟨C, 1, none⟩)) rfl rfl (by clear hA hV hN9 hIl hsh hdn; simp only [execOp]; go_simp) ⟨_, rfl, (fun h => by cases h), rfl, zd1 (by decide) (by decide) hIl, fun _ _ _ h => h⟩
  ·intro ll bb w' hs hlf hsh hdn hN9 hf hIl hA
   clear hi'
   have hP := hIl.2.1 hlf
   obtain ⟨y, cb, hS⟩ := hA 6 (by kernel_rfl)
   obtain ⟨d1, e1, hsl⟩ := Cp.zac hS.new.2
   have q92 : bb.tmps[92]? = some _ := hf.tmp (k := 6) rfl (by rw [ha]; decide) hsl
   have q93 : bb.tmps[93]? = some _ := hf.tmp (k := 7) rfl (by rw [ha]; decide) (hA 7 (by kernel_rfl))
   have hS1 : SC w0 w' g Rb C ao cap bs #[vo, vd] vo (.slice d1 (ds ++ [y]).length e1) os (ds ++ [y]) := ⟨hS.cur, hS.keep, hS.r, hP, hsl ▸ hS.new, hS.rc, hS.old, hS.gg⟩
   have hS2 := hS1.put 1 (.slice d1 (ds ++ [y]).length e1) (cb' := #[vo, .slice d1 (ds ++ [y]).length e1]) (by simp)
   have hE : IY17 w1 w0 g Rb C ao cap bs vo vd os ds G n (ll.setIfInBounds 8 true) (w'.setCell ⟨C, 1, none⟩ (.slice d1 (ds ++ [y]).length e1)) := ⟨fun h => (by rw [Rg.jk (by decide)] at h; rw [hdn 6 (by kernel_rfl)] at h; cases h), fun h => (by rw [Rg.set_self hs (by rw [zcx]; decide)] at h; cases h), fun _ => ⟨_, y, hS2⟩, by have := hIl.2.2.2; simpa [World.setCell] using this⟩
   obtain ⟨z0, z1⟩ := hP.two
   have f1 := hP.frozen 1
   have hlt := hP.lt
   refine Rg.zaq (o := ⟨none, Op.store 25 (Operand.tmp 93) (Operand.tmp 92), _, _, _, _⟩) (w' := w'.setCell ⟨C, 1, none⟩ (.slice d1 (ds ++ [y]).length e1)) rfl rfl (by clear hA hV hN9 hIl hsh hdn hf hS hS1 hS2 hP hE hsl; simp only [execOp]; go_simp) ⟨undef, (by rw [show Rg.ja (Rg.opsOf Tryz.f10 17) 8 = none by kernel_rfl]), (fun _ => trivial), trivial, hE, fun k9 y9 hk h => ?_⟩
   unfold FY17 at *
   split at h <;> first
    | exact h
    | (obtain ⟨B2, y2, h1, h2, h3⟩ := h; exact ⟨B2, y2, h1, h2, h3.far (b := C) (by omega) 1 _⟩)
    | (obtain ⟨y2, cb2, h1⟩ := h; exact ⟨y2, _, h1.put 1 _ rfl⟩)
theorem layY17 {a b : Act} (hf : Rg.Fr (Rg.opsOf Tryz.f10 17) a b) : b = Rg.fl (Rg.opsOf Tryz.f10 17) b 0 [some 86, some 87, some 88, some 89, some 90, some 91, some 92, some 93, none] a := Rg.ql _ (by kernel_rfl) hf
end Go.Proofs.YtjlpfpigggdemaaGreatDoor
namespace Go.Proofs.YtjlpfpigggdemaaGreatDoor
open Go.RowKit Va Uo
set_option linter.all false
def FY26 (n1 : Nat) (w0 : World) (g Rb C : Nat) (ao : Option Addr) (cap : Nat) (bs : List Int) (vo vd : Value) (os : List Od) (ds : List Ds) (G n : Nat) (i9 : Nat) (v : Value) (w : World) : Prop :=
 match i9 with
 | 0 => v = .pointer (some ⟨C, 0, none⟩)
 | 1 => v = vo
 | 2 => v = .pointer (some ⟨C, 0, none⟩)
 | 3 => v = vo
 | 4 => v = .int .i64 (n : Nat)
 | 5 => v = .pointer (some ⟨G, n * 9, none⟩)
 | 6 => ∃ y : Od, v = aOd y
 | 7 => ∃ (B : Nat) (y : Od), v = .slice (some ⟨B, 0, none⟩) 1 1 /\ n1 <= B /\ PB w B #[.int .i64 y.id, .int .i64 y.p, .int .i64 y.d, .int .i64 y.n, .int .i64 y.f, .int .i64 y.e, .int .i64 y.c, .int .i64 y.s, .bool y.two] 38
 | 8 => ∃ (y : Od) (cb : Array Value), SC w0 w g Rb C ao cap bs cb v vd (os ++ [y]) ds
 | 9 => v = .pointer (some ⟨C, 0, none⟩)
 | 10 => True
 | _ => True
theorem zcl : (Rg.opsOf Tryz.f10 26).size = 11 := by kernel_rfl
theorem keepY26 {n1 : Nat} {w0 : World} {g Rb C : Nat} {ao : Option Addr} {cap : Nat} {bs : List Int} {vo vd : Value} {os : List Od} {ds : List Ds} {G n : Nat} {w w' : World} (hg : g < n1) (hk : Keep g w w') (k9 : Nat) (v : Value) (h : FY26 n1 w0 g Rb C ao cap bs vo vd os ds G n k9 v w) (hcu : Cur w g ao cap bs -> Cur w' g ao cap bs := by exact fun h => h.alloc _) : FY26 n1 w0 g Rb C ao cap bs vo vd os ds G n k9 v w' := by
 unfold FY26 at *
 split at h <;> first
  | exact h
  | (obtain ⟨B, y, h1, h2, h3⟩ := h; exact ⟨B, y, h1, h2, h3.keep hk (by omega)⟩)
  | (obtain ⟨y, cb, h1⟩ := h; exact ⟨y, cb, h1.call (hcu h1.cur) hk⟩)
def IY26 (w1 : World) (w0 : World) (g Rb C : Nat) (ao : Option Addr) (cap : Nat) (bs : List Int) (vo vd : Value) (os : List Od) (ds : List Ds) (G n : Nat) (l : Array Bool) (w' : World) : Prop :=
 (l.getD 8 false = false -> SC w0 w' g Rb C ao cap bs #[vo, vd] vo vd os ds) /\ (l.getD 10 false = false -> PB w' C #[vo, vd] 27) /\ (l.getD 10 false = true -> ∃ (v' : Value) (y : Od), SC w0 w' g Rb C ao cap bs #[v', vd] v' vd (os ++ [y]) ds) /\ w1.heap.size <= w'.heap.size
theorem zct {w1 : World} {w0 : World} {g Rb C : Nat} {ao : Option Addr} {cap : Nat} {bs : List Int} {vo vd : Value} {os : List Od} {ds : List Ds} {G n : Nat} {l : Array Bool} {w : World} {i : Nat} (hi : i ≠ 8) (hi8 : i ≠ 10) (h : IY26 w1 w0 g Rb C ao cap bs vo vd os ds G n l w) : IY26 w1 w0 g Rb C ao cap bs vo vd os ds G n (l.setIfInBounds i true) w := by
 unfold IY26
 rw [Rg.jk hi, Rg.jk hi8]
 exact h
theorem allocY26 {w1 : World} {w0 : World} {g Rb C : Nat} {ao : Option Addr} {cap : Nat} {bs : List Int} {vo vd : Value} {os : List Od} {ds : List Ds} {G n : Nat} {l : Array Bool} {w : World} {i : Nat} (hi : i ≠ 8) (hi8 : i ≠ 10) (h6 : l.getD 8 false = false) (h8 : l.getD 10 false = false) (h : IY26 w1 w0 g Rb C ao cap bs vo vd os ds G n l w) (o : Obj) : IY26 w1 w0 g Rb C ao cap bs vo vd os ds G n (l.setIfInBounds i true) (w.alloc o) := by
 unfold IY26
 rw [Rg.jk hi, Rg.jk hi8, h6, h8]
 have hS := (h.1 h6).alloc o
 exact ⟨fun _ => hS, fun _ => hS.c, (fun q => by cases q), by have := h.2.2.2; simp; omega⟩
set_option maxRecDepth 20000 in
set_option maxHeartbeats 16000000 in
theorem regY26 {Q : Exit -> Act -> World -> Prop} {a : Act} {w1 : World} {w0 : World} {g Rb C : Nat} {ao : Option Addr} {cap : Nat} {bs : List Int} {vo vd : Value} {os : List Od} {ds : List Ds} {G n : Nat} (ha : a.tmps.size = 170)
  (k4 : a.tmps[4]? = some (.pointer (some ⟨C, 0, none⟩))) (k7 : a.tmps[7]? = some (.int .i64 (n : Nat))) {c1 : Nat} (hvo : vo = .slice (some ⟨G, 0, none⟩) os.length c1) (hnl : n < os.length) (hSC : SC w0 w1 g Rb C ao cap bs #[vo, vd] vo vd os ds) (hm : os.length <= 1000)
  (hV : ∀ w', SC w0 w' g Rb C ao cap bs #[vo, vd] vo vd os ds -> ∃ y : Od, ∀ k, k < 9 -> w'.cell? ⟨G, n * 9 + k, none⟩ = some (jd y k))
  (hend : ∀ b' w' (v' : Value) (y : Od), Rg.Fr (Rg.opsOf Tryz.f10 26) a b' -> SC w0 w' g Rb C ao cap bs #[v', vd] v' vd (os ++ [y]) ds -> Q .normal b' w') :
  (Code.region 26 (Rg.opsOf Tryz.f10 26) true).wp Tryz.prog Q a w1 := by
 obtain ⟨i0, hi0, hv0, hv1, hv2⟩ := info_parts zbi
 have hg1 : g < w1.heap.size := hSC.cur.1
 have hC1 := hSC.c.lt
 have hrow : ∀ k, vo.ownBlock = some k -> k < w1.heap.size := fun k hk => (hSC.new.1.lt k hk).2
 refine Rg.zhr (by kernel_rfl) (IY26 w1 w0 g Rb C ao cap bs vo vd os ds G n) (FY26 w1.heap.size w0 g Rb C ao cap bs vo vd os ds G n) (by rw [ha, zcl]; kernel_rfl) ⟨fun _ => hSC.call (hSC.cur.drewN 1) ((Keep.refl g w1).drewN 1), fun _ => hSC.c.drewN 1, fun h => (by rw [Rg.zaz] at h; cases h), Nat.le_refl _⟩ ?_ ?_
 case refine_2 =>
  intro l b' w' hf hall hI hA
  rw [zcl] at hall
  obtain ⟨v', y, h1⟩ := hI.2.2.1 (hall 10 (by omega))
  exact hend b' w' v' y hf h1
 case refine_1 =>
  clear hend
  intro i' hi'
  rw [zcl] at hi'
  rcases (show i' = 0 ∨ i' = 1 ∨ i' = 2 ∨ i' = 3 ∨ i' = 4 ∨ i' = 5 ∨ i' = 6 ∨ i' = 7 ∨ i' = 8 ∨ i' = 9 ∨ i' = 10 by omega) with rfl | rfl | rfl | rfl | rfl | rfl | rfl | rfl | rfl | rfl | rfl
  ·intro ll bb w' hs hlf hsh hdn hN9 hf hIl hA
   clear hi'
   have q4 := hf.kept (s := 4) (by rw [zcl]; kernel_rfl) k4
   exact Rg.zf (o := ⟨some 125, Op.fieldAddr 27 (Operand.tmp 4) 0, _, _, _, _⟩) (x := .pointer (some ⟨C, 0, none⟩)) rfl rfl (by clear hA hV hN9 hIl hsh hdn; simp only [execOp]; go_simp) ⟨_, rfl, (fun h => by cases h), rfl, zct (by decide) (by decide) hIl, fun _ _ _ h => h⟩
  ·intro ll bb w' hs hlf hsh hdn hN9 hf hIl hA
   clear hi'
   have h6 : ll.getD 8 false = false := by
    cases q : ll.getD 8 false with
    | false => rfl
    | true => rw [hsh 8 1 q (by kernel_rfl)] at hlf; cases hlf
   have hS := hIl.1 h6
   have q125 : bb.tmps[125]? = some _ := hf.tmp (k := 0) rfl (by rw [ha]; decide) (hA 0 (by kernel_rfl))
   obtain ⟨e0, e1⟩ := hS.c.two
   exact Rg.zf (o := ⟨some 126, Op.load 24 (Operand.tmp 125), _, _, _, _⟩) (x := vo) rfl rfl (by clear hA hV hN9 hIl hsh hdn hS; simp only [execOp]; go_simp) ⟨_, rfl, (fun h => by cases h), rfl, zct (by decide) (by decide) hIl, fun _ _ _ h => h⟩
  ·intro ll bb w' hs hlf hsh hdn hN9 hf hIl hA
   clear hi'
   have q4 := hf.kept (s := 4) (by rw [zcl]; kernel_rfl) k4
   exact Rg.zf (o := ⟨some 127, Op.fieldAddr 27 (Operand.tmp 4) 0, _, _, _, _⟩) (x := .pointer (some ⟨C, 0, none⟩)) rfl rfl (by clear hA hV hN9 hIl hsh hdn; simp only [execOp]; go_simp) ⟨_, rfl, (fun h => by cases h), rfl, zct (by decide) (by decide) hIl, fun _ _ _ h => h⟩
  ·intro ll bb w' hs hlf hsh hdn hN9 hf hIl hA
   clear hi'
   have h6 : ll.getD 8 false = false := by
    cases q : ll.getD 8 false with
    | false => rfl
    | true => rw [hsh 5 3 (hsh 6 5 (hsh 7 6 (hsh 8 7 q (by kernel_rfl)) (by kernel_rfl)) (by kernel_rfl)) (by kernel_rfl)] at hlf; cases hlf
   have hS := hIl.1 h6
   have q127 : bb.tmps[127]? = some _ := hf.tmp (k := 2) rfl (by rw [ha]; decide) (hA 2 (by kernel_rfl))
   obtain ⟨e0, e1⟩ := hS.c.two
   exact Rg.zf (o := ⟨some 128, Op.load 24 (Operand.tmp 127), _, _, _, _⟩) (x := vo) rfl rfl (by clear hA hV hN9 hIl hsh hdn hS; simp only [execOp]; go_simp) ⟨_, rfl, (fun h => by cases h), rfl, zct (by decide) (by decide) hIl, fun _ _ _ h => h⟩
  ·intro ll bb w' hs hlf hsh hdn hN9 hf hIl hA
   clear hi'
   have q7 := hf.kept (s := 7) (by rw [zcl]; kernel_rfl) k7
   exact Rg.zf (o := ⟨some 129, Op.move (Operand.tmp 7), _, _, _, _⟩) (x := .int .i64 (n : Nat)) rfl rfl (by clear hA hV hN9 hIl hsh hdn; simp only [execOp]; go_simp) ⟨_, rfl, (fun h => by cases h), rfl, zct (by decide) (by decide) hIl, fun _ _ _ h => h⟩
  ·intro ll bb w' hs hlf hsh hdn hN9 hf hIl hA
   clear hi'
   have q128 : bb.tmps[128]? = some _ := hf.tmp (k := 3) rfl (by rw [ha]; decide) ((hA 3 (by kernel_rfl)).trans hvo)
   have q129 : bb.tmps[129]? = some _ := hf.tmp (k := 4) rfl (by rw [ha]; decide) (hA 4 (by kernel_rfl))
   exact Rg.zf (o := ⟨some 130, Op.indexAddr 24 (Operand.tmp 128) (Operand.tmp 129), _, _, _, _⟩) (x := .pointer (some ⟨G, n * 9, none⟩)) rfl rfl (by clear hA hV hN9 hIl hsh hdn; simp only [execOp]; go_simp) ⟨_, rfl, (fun h => by cases h), rfl, zct (by decide) (by decide) hIl, fun _ _ _ h => h⟩
  ·intro ll bb w' hs hlf hsh hdn hN9 hf hIl hA
   clear hi'
   have h6 : ll.getD 8 false = false := by
    cases q : ll.getD 8 false with
    | false => rfl
    | true => rw [hsh 7 6 (hsh 8 7 q (by kernel_rfl)) (by kernel_rfl)] at hlf; cases hlf
   have hS := hIl.1 h6
   have q130 : bb.tmps[130]? = some _ := hf.tmp (k := 5) rfl (by rw [ha]; decide) (hA 5 (by kernel_rfl))
   obtain ⟨y, hy⟩ := hV w' hS
   have e0 : w'.cell? ⟨G, n * 9, none⟩ = some (.int .i64 y.id) := hy 0 (by decide)
   have e1 : w'.cell? ⟨G, n * 9 + 1, none⟩ = some (.int .i64 y.p) := hy 1 (by decide)
   have e2 : w'.cell? ⟨G, n * 9 + 2, none⟩ = some (.int .i64 y.d) := hy 2 (by decide)
   have e3 : w'.cell? ⟨G, n * 9 + 3, none⟩ = some (.int .i64 y.n) := hy 3 (by decide)
   have e4 : w'.cell? ⟨G, n * 9 + 4, none⟩ = some (.int .i64 y.f) := hy 4 (by decide)
   have e5 : w'.cell? ⟨G, n * 9 + 5, none⟩ = some (.int .i64 y.e) := hy 5 (by decide)
   have e6 : w'.cell? ⟨G, n * 9 + 6, none⟩ = some (.int .i64 y.c) := hy 6 (by decide)
   have e7 : w'.cell? ⟨G, n * 9 + 7, none⟩ = some (.int .i64 y.s) := hy 7 (by decide)
   have e8 : w'.cell? ⟨G, n * 9 + 8, none⟩ = some (.bool y.two) := hy 8 (by decide)
   exact Rg.zf (o := ⟨some 131, Op.load 38 (Operand.tmp 130), _, _, _, _⟩) (x := .agg #[.int .i64 y.id, .int .i64 y.p, .int .i64 y.d, .int .i64 y.n, .int .i64 y.f, .int .i64 y.e, .int .i64 y.c, .int .i64 y.s, .bool y.two]) rfl rfl (by clear hA hV hN9 hIl hsh hdn hy hS; simp only [execOp]; go_simp) ⟨_, rfl, (fun h => by cases h), ⟨y, rfl⟩, zct (by decide) (by decide) hIl, fun _ _ _ h => h⟩
  ·intro ll bb w' hs hlf hsh hdn hN9 hf hIl hA
   clear hi'
   have h6 : ll.getD 8 false = false := by
    cases q : ll.getD 8 false with
    | false => rfl
    | true => rw [hsh 8 7 q (by kernel_rfl)] at hlf; cases hlf
   have hS := hIl.1 h6
   obtain ⟨y, hv⟩ := hA 6 (by kernel_rfl)
   unfold aOd at hv
   have q131 : bb.tmps[131]? = some _ := hf.tmp (k := 6) rfl (by rw [ha]; decide) hv
   have hK : Keep g w' (w'.alloc (.cells #[.int .i64 y.id, .int .i64 y.p, .int .i64 y.d, .int .i64 y.n, .int .i64 y.f, .int .i64 y.e, .int .i64 y.c, .int .i64 y.s, .bool y.two] 38)) := (Keep.refl g w').alloc _
   exact Rg.zf (o := ⟨some 132, Op.buildSlice 24 1 #[(0, (Operand.tmp 131))], _, _, _, _⟩) (x := .slice (some ⟨w'.heap.size, 0, none⟩) 1 1) (w' := w'.alloc (.cells #[.int .i64 y.id, .int .i64 y.p, .int .i64 y.d, .int .i64 y.n, .int .i64 y.f, .int .i64 y.e, .int .i64 y.c, .int .i64 y.s, .bool y.two] 38)) rfl rfl (by clear hA hV hN9 hIl hsh hdn hv hS; simp only [execOp]; go_simp) ⟨_, rfl, (fun h => by cases h), ⟨_, y, rfl, hIl.2.2.2, PB.new _ _ _⟩, allocY26 (by decide) (by decide) h6 (by
    cases q : ll.getD 10 false with
    | false => rfl
    | true => rw [hsh 10 8 q (by kernel_rfl)] at h6; cases h6) hIl _, fun k9 y9 _ h => keepY26 hg1 hK k9 y9 h⟩
  ·intro ll bb w' hs hlf hsh hdn hN9 hf hIl hA
   clear hi'
   have h8 := hN9 10 (by kernel_rfl)
   have hS := hIl.1 hlf
   obtain ⟨B, y, hv, hB, hP⟩ := hA 7 (by kernel_rfl)
   have q132 : bb.tmps[132]? = some _ := hf.tmp (k := 7) rfl (by rw [ha]; decide) hv
   have q126 : bb.tmps[126]? = some _ := hf.tmp (k := 1) rfl (by rw [ha]; decide) (hA 1 (by kernel_rfl))
   have hks := hS.keep.size
   refine Rg.zek (o := ⟨some 133, Op.call { callee := Callee.builtin Builtin.append, args := #[Operand.tmp 126, Operand.tmp 132], argTypes := #[24, 24] }, _, _, _, _⟩) rfl rfl (Operand.tmp 126) (Operand.tmp 132) 24 rfl w0.heap.size 38 i0 (.agg #[.int .i64 0, .int .i64 0, .int .i64 0, .int .i64 0, .int .i64 0, .int .i64 0, .int .i64 0, .int .i64 0, .bool false]) 9 72 Tryz.underlying24 hi0 hv0 hv1 hv2 rfl (by decide) vo os.length (zt 9 jd os) (by simp [Act.eval, q126]) hS.new.1 ⟨B, 0, none⟩ 1 1 [.int .i64 y.id, .int .i64 y.p, .int .i64 y.d, .int .i64 y.n, .int .i64 y.f, .int .i64 y.e, .int .i64 y.c, .int .i64 y.s, .bool y.two] (by simp [Act.eval, q132]) rfl (fun j u hu => by rw [Addr.add_lit, Nat.zero_add, hP.cell]; simpa using hu) (by simp [Value.oneCell']) (by unfold maxLen; omega) (by omega) hks ?_
   intro v2 w2 ho2 hg2 hat2
   have hS2 := hS.appO (y := y) ho2 hg2
   have hPC : PB w2 C #[vo, vd] 27 := hS2.c
   refine ⟨_, rfl, (fun h => by cases h), ⟨y, _, hS2⟩, ⟨fun h => (by rw [Rg.set_self hs (by rw [zcl]; decide)] at h; cases h), fun _ => hPC, fun h => (by rw [Rg.jk (by decide), h8] at h; cases h), Nat.le_trans hIl.2.2.2 hg2.size⟩, fun k9 y9 hk h => ?_⟩
   unfold FY26 at *
   split at h <;> first
    | exact h
    | (obtain ⟨B2, y2, h1, h2, h3⟩ := h; exact ⟨B2, y2, h1, h2, (hg2.block B2 h3.lt (fun e => by have := hrow B2 e.symm; omega)).trans h3⟩)
    | exact absurd rfl hk
  ·intro ll bb w' hs hlf hsh hdn hN9 hf hIl hA
   clear hi'
   have q4 := hf.kept (s := 4) (by rw [zcl]; kernel_rfl) k4
   exact Rg.zf (o := ⟨some 134, Op.fieldAddr 27 (Operand.tmp 4) 0, _, _, _, _⟩) (x := .pointer (some ⟨C, 0, none⟩)) rfl rfl (by clear hA hV hN9 hIl hsh hdn; simp only [execOp]; go_simp) ⟨_, rfl, (fun h => by cases h), rfl, zct (by decide) (by decide) hIl, fun _ _ _ h => h⟩
  ·intro ll bb w' hs hlf hsh hdn hN9 hf hIl hA
   clear hi'
   have hP := hIl.2.1 hlf
   obtain ⟨y, cb, hS⟩ := hA 8 (by kernel_rfl)
   obtain ⟨d1, e1, hsl⟩ := Cp.zac hS.new.1
   have q133 : bb.tmps[133]? = some _ := hf.tmp (k := 8) rfl (by rw [ha]; decide) hsl
   have q134 : bb.tmps[134]? = some _ := hf.tmp (k := 9) rfl (by rw [ha]; decide) (hA 9 (by kernel_rfl))
   have hS1 : SC w0 w' g Rb C ao cap bs #[vo, vd] (.slice d1 (os ++ [y]).length e1) vd (os ++ [y]) ds := ⟨hS.cur, hS.keep, hS.r, hP, hsl ▸ hS.new, hS.rc, hS.old, hS.gg⟩
   have hS2 := hS1.put 0 (.slice d1 (os ++ [y]).length e1) (cb' := #[.slice d1 (os ++ [y]).length e1, vd]) (by simp)
   have hE : IY26 w1 w0 g Rb C ao cap bs vo vd os ds G n (ll.setIfInBounds 10 true) (w'.setCell ⟨C, 0, none⟩ (.slice d1 (os ++ [y]).length e1)) := ⟨fun h => (by rw [Rg.jk (by decide)] at h; rw [hdn 8 (by kernel_rfl)] at h; cases h), fun h => (by rw [Rg.set_self hs (by rw [zcl]; decide)] at h; cases h), fun _ => ⟨_, y, hS2⟩, by have := hIl.2.2.2; simpa [World.setCell] using this⟩
   obtain ⟨z0, z1⟩ := hP.two
   have f1 := hP.frozen 0
   have hlt := hP.lt
   refine Rg.zaq (o := ⟨none, Op.store 24 (Operand.tmp 134) (Operand.tmp 133), _, _, _, _⟩) (w' := w'.setCell ⟨C, 0, none⟩ (.slice d1 (os ++ [y]).length e1)) rfl rfl (by clear hA hV hN9 hIl hsh hdn hf hS hS1 hS2 hP hE hsl; simp only [execOp]; go_simp) ⟨undef, (by rw [show Rg.ja (Rg.opsOf Tryz.f10 26) 10 = none by kernel_rfl]), (fun _ => trivial), trivial, hE, fun k9 y9 hk h => ?_⟩
   unfold FY26 at *
   split at h <;> first
    | exact h
    | (obtain ⟨B2, y2, h1, h2, h3⟩ := h; exact ⟨B2, y2, h1, h2, h3.far (b := C) (by omega) 0 _⟩)
    | (obtain ⟨y2, cb2, h1⟩ := h; exact ⟨y2, _, h1.put 0 _ rfl⟩)
theorem layY26 {a b : Act} (hf : Rg.Fr (Rg.opsOf Tryz.f10 26) a b) : b = Rg.fl (Rg.opsOf Tryz.f10 26) b 0 [some 125, some 126, some 127, some 128, some 129, some 130, some 131, some 132, some 133, some 134, none] a := Rg.ql _ (by kernel_rfl) hf
end Go.Proofs.YtjlpfpigggdemaaGreatDoor
