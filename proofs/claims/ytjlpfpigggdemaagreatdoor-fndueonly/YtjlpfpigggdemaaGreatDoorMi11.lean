/-
 Merged: U8 Rs.
-/
import Derived.Test.YtjlpfpigggdemaaGreatDoorMi10
import Derived.Test.YtjlpfpigggdemaaGreatDoorMi3
import Derived.Test.YtjlpfpigggdemaaGreatDoorMi8
import Derived.Test.YtjlpfpigggdemaaGreatDoorMi5
namespace Go.Proofs.YtjlpfpigggdemaaGreatDoor
set_option maxRecDepth 8000
set_option maxHeartbeats 4000000
open Go.RowKit Va Uo Go.Maps
set_option linter.all false
theorem zih {w : World} {b : Nat} {es : Array MapEntry} {ck : Nat} (hb : w.heap[b]? = some (.map es ck)) (o : Obj) : w.grownBy (ChangeMaps.setBlock w b o) (some b) :=
 ⟨rfl, rfl, rfl, by simp [ChangeMaps.setBlock], fun i _ hi => ChangeMaps.heap_setBlock_other hb _ (fun e => hi (by rw [e]))⟩
theorem pb_set {w : World} {b V : Nat} {es : Array MapEntry} {ck : Nat} {vs : Array Value} {t : TypeId} (h : PB w V vs t) (hb : w.heap[b]? = some (.map es ck)) (hV : V ≠ b) (o : Obj) : PB (ChangeMaps.setBlock w b o) V vs t :=
 (ChangeMaps.heap_setBlock_other hb _ hV).trans h
def FG5 (b V : Nat) (x : Ds) (c : Int) (st : Nat) (k : Nat) (v : Value) (w : World) : Prop :=
 match k with
 | 0 => v = .map (some b)
 | 1 => v = .pointer (some ⟨V, 0, none⟩)
 | 2 => v = .int .i64 x.o
 | 3 => v = .pointer (some ⟨V, 1, none⟩)
 | 4 => v = .int .i64 x.t
 | 5 => v = .agg #[.int .i64 x.o, .int .i64 x.t]
 | 6 => v = .int .i64 c
 | 7 => v = .int .i64 (c + 1)
 | 8 => v = .tuple #[.int .i64 c, goInt st]
 | 9 => v = goInt st
 | _ => True
def IG5 (w0 w9 : World) (base V b : Nat) (x : Ds) (n : Nat) (D : DataW Unit) (c : Int) (o1 : Obj) (l : Array Bool) (w : World) : Prop :=
 Below base w0 w /\ PB w V #[.int .i64 x.o, .int .i64 x.t, .int .i64 x.m, .int .i64 x.b, .int .i64 x.a] 35 /\ (l.getD 10 false = true -> w.ownsMap Tryz.prog 68 (plainElem Tryz.prog 3) b (n + 1) (D.put (kT x.o x.t) (.lit (.int .i64 (c + 1))))) /\ (l.getD 10 false = false -> (l.getD 8 false = true -> w.heap[b]? = some o1) /\ (l.getD 8 false = false -> w.heap[b]? = w9.heap[b]?))
theorem zcg {w0 w9 : World} {base V b : Nat} {x : Ds} {n : Nat} {D : DataW Unit} {c : Int} {o1 : Obj} {l : Array Bool} {w : World} {i : Nat} (hi : i ≠ 8) (hi2 : i ≠ 10) (hI : IG5 w0 w9 base V b x n D c o1 l w) : IG5 w0 w9 base V b x n D c o1 (l.setIfInBounds i true) w := by
 unfold IG5
 rw [Rg.jk hi, Rg.jk hi2]
 exact hI
theorem zcp : (Rg.opsOf Tryz.f16 5).size = 11 := by kernel_rfl
theorem dG5_10 : Rg.ja (Rg.opsOf Tryz.f16 5) 10 = none := by kernel_rfl
set_option maxRecDepth 20000 in
set_option maxHeartbeats 16000000 in
theorem regG5 {Q : Exit -> Act -> World -> Prop} {a : Act} {w0 w9 : World} {base V b n : Nat} {x : Ds} {D : DataW Unit} {c : Int} (ha : a.tmps.size = 27)
  (k3 : a.tmps[3]? = some (.map (some b))) (k5 : a.tmps[5]? = some (.pointer (some ⟨V, 0, none⟩))) (hB : Below base w0 w9) (hb0 : base <= w0.heap.size) (hbb : base <= b) (hP : PB w9 V #[.int .i64 x.o, .int .i64 x.t, .int .i64 x.m, .int .i64 x.b, .int .i64 x.a] 35) (hVb : V ≠ b) (hown : w9.ownsMap Tryz.prog 68 (plainElem Tryz.prog 3) b n D) (hn : n < maxLen) (bo : Bd x.o) (bt : Bd x.t) (hc : D.atKey (kT x.o x.t) (.lit (.int .i64 0)) = .lit (.int .i64 c)) (c0 : 0 <= c) (c1 : c <= 1000000)
  (hend : ∀ b' w', Rg.Fr (Rg.opsOf Tryz.f16 5) a b' -> Below base w0 w' -> w'.ownsMap Tryz.prog 68 (plainElem Tryz.prog 3) b (n + 1) (D.put (kT x.o x.t) (.lit (.int .i64 (c + 1)))) -> Q .normal b' w') :
  (Code.region 5 (Rg.opsOf Tryz.f16 5) true).wp Tryz.prog Q a w9 := by
 have hz : ∀ u : World, (zeroValue 3).run Tryz.prog u = .ok (.int .i64 0) u := fun u => by kernel_rfl
 obtain ⟨st, es1, ck1, hme, hlo, hst⟩ := Rt.zjm lawT Tryz.underlying50 Tryz.underlying3 hz hown hn (zec bo bt) hc
 have hl0 : ∀ u : World, u.heap[b]? = w9.heap[b]? -> (Instr.lookup 50 (.map (some b)) (.agg #[.int .i64 x.o, .int .i64 x.t]) false).run Tryz.prog u = .ok (.int .i64 c) u := fun u hu => by
  obtain ⟨c', q1, q2, _⟩ := (Rt.zcz hown hu).lookup_int zf6 Tryz.underlying50 Tryz.underlying3 (hz u) (zec bo bt)
  rw [hc] at q2
  have : c = c' := by simpa using q2
  rw [q1, this]
 obtain ⟨es, ck, hes, -⟩ := id hown
 refine Rg.zeo (by kernel_rfl) (IG5 w0 w9 base V b x n D c (.map es1 ck1)) (FG5 b V x c st) (by rw [ha, zcp]; kernel_rfl) ⟨jq hB, hP, fun h => (by rw [Rg.zaz] at h; cases h), fun _ => ⟨fun h => (by rw [Rg.zaz] at h; cases h), fun _ => rfl⟩⟩ ?_ ?_
 case refine_2 =>
  intro l b' w' hf hall hI hA
  rw [zcp] at hall
  exact hend b' w' hf hI.1 (hI.2.2.1 (hall 10 (by omega)))
 case refine_1 =>
  clear hend
  intro i' hi'
  rw [zcp] at hi'
  rcases (show i' = 0 ∨ i' = 1 ∨ i' = 2 ∨ i' = 3 ∨ i' = 4 ∨ i' = 5 ∨ i' = 6 ∨ i' = 7 ∨ i' = 8 ∨ i' = 9 ∨ i' = 10 by omega) with rfl | rfl | rfl | rfl | rfl | rfl | rfl | rfl | rfl | rfl | rfl
  ·intro ll bb w' hs hlf hN hO hf hIl hL hA
   clear hi'
   have q3 := hf.kept (s := 3) (by rw [zcp]; kernel_rfl) k3
   exact Rg.zf (o := ⟨some 15, Op.move (Operand.tmp 3), _, _, _, _⟩) rfl rfl rfl ⟨_, rfl, (fun h => by cases h), (by show Act.eval bb _ = _; simp [Act.eval, q3]), zcg (by decide) (by decide) hIl, fun _ _ _ _ h => h⟩
  ·intro ll bb w' hs hlf hN hO hf hIl hL hA
   clear hi'
   have q5 := hf.kept (s := 5) (by rw [zcp]; kernel_rfl) k5
   exact Rg.zf (o := ⟨some 16, Op.fieldAddr 35 (Operand.tmp 5) 0, _, _, _, _⟩) (x := .pointer (some ⟨V, 0, none⟩)) rfl rfl (by clear hA hN hO hL; simp only [execOp]; go_simp) ⟨_, rfl, (fun h => by cases h), rfl, zcg (by decide) (by decide) hIl, fun _ _ _ _ h => h⟩
  ·intro ll bb w' hs hlf hN hO hf hIl hL hA
   clear hi'
   have q16 : bb.tmps[16]? = some _ := hf.tmp (k := 1) rfl (by rw [ha]; decide) (hA 1 (by kernel_rfl))
   obtain ⟨e0, e1, e2, e3, e4⟩ := hIl.2.1.five
   exact Rg.zf (o := ⟨some 17, Op.load 2 (Operand.tmp 16), _, _, _, _⟩) (x := .int .i64 x.o) rfl rfl (by clear hA hN hO hL; simp only [execOp]; go_simp) ⟨_, rfl, (fun h => by cases h), rfl, zcg (by decide) (by decide) hIl, fun _ _ _ _ h => h⟩
  ·intro ll bb w' hs hlf hN hO hf hIl hL hA
   clear hi'
   have q5 := hf.kept (s := 5) (by rw [zcp]; kernel_rfl) k5
   exact Rg.zf (o := ⟨some 18, Op.fieldAddr 35 (Operand.tmp 5) 1, _, _, _, _⟩) (x := .pointer (some ⟨V, 1, none⟩)) rfl rfl (by clear hA hN hO hL; simp only [execOp]; go_simp) ⟨_, rfl, (fun h => by cases h), rfl, zcg (by decide) (by decide) hIl, fun _ _ _ _ h => h⟩
  ·intro ll bb w' hs hlf hN hO hf hIl hL hA
   clear hi'
   have q18 : bb.tmps[18]? = some _ := hf.tmp (k := 3) rfl (by rw [ha]; decide) (hA 3 (by kernel_rfl))
   obtain ⟨e0, e1, e2, e3, e4⟩ := hIl.2.1.five
   exact Rg.zf (o := ⟨some 19, Op.load 2 (Operand.tmp 18), _, _, _, _⟩) (x := .int .i64 x.t) rfl rfl (by clear hA hN hO hL; simp only [execOp]; go_simp) ⟨_, rfl, (fun h => by cases h), rfl, zcg (by decide) (by decide) hIl, fun _ _ _ _ h => h⟩
  ·intro ll bb w' hs hlf hN hO hf hIl hL hA
   clear hi'
   have q17 : bb.tmps[17]? = some _ := hf.tmp (k := 2) rfl (by rw [ha]; decide) (hA 2 (by kernel_rfl))
   have q19 : bb.tmps[19]? = some _ := hf.tmp (k := 4) rfl (by rw [ha]; decide) (hA 4 (by kernel_rfl))
   exact Rg.zf (o := ⟨some 20, Op.build 68 #[(0, Operand.tmp 17), (1, Operand.tmp 19)], _, _, _, _⟩) (x := .agg #[.int .i64 x.o, .int .i64 x.t]) rfl rfl (by clear hA hN hO hL; simp only [execOp]; go_simp) ⟨_, rfl, (fun h => by cases h), rfl, zcg (by decide) (by decide) hIl, fun _ _ _ _ h => h⟩
  ·intro ll bb w' hs hlf hN hO hf hIl hL hA
   clear hi'
   have q15 : bb.tmps[15]? = some _ := hf.tmp (k := 0) rfl (by rw [ha]; decide) (hA 0 (by kernel_rfl))
   have q20 : bb.tmps[20]? = some _ := hf.tmp (k := 5) rfl (by rw [ha]; decide) (hA 5 (by kernel_rfl))
   have h10 := hN 10 (by kernel_rfl)
   have hl : (Instr.lookup 50 (.map (some b)) (.agg #[.int .i64 x.o, .int .i64 x.t]) false).run Tryz.prog w' = .ok (.int .i64 c) w' := by
    cases h8 : ll.getD 8 false with
    | true => exact hlo _ (hIl.2.2.2 h10 |>.1 h8)
    | false => exact hl0 _ (hIl.2.2.2 h10 |>.2 h8)
   exact Rg.zf (o := ⟨some 21, Op.lookup 50 (Operand.tmp 15) (Operand.tmp 20) false, _, _, _, _⟩) (x := .int .i64 c) rfl rfl (by clear hA hN hO hL; simp only [execOp]; go_simp) ⟨_, rfl, (fun h => by cases h), rfl, zcg (by decide) (by decide) hIl, fun _ _ _ _ h => h⟩
  ·intro ll bb w' hs hlf hN hO hf hIl hL hA
   clear hi'
   have q21 : bb.tmps[21]? = some _ := hf.tmp (k := 6) rfl (by rw [ha]; decide) (hA 6 (by kernel_rfl))
   have hw : IntKind.i64.wrap (c + 1) = c + 1 := by rw [IntKind.wrap_i64]; omega
   exact Rg.zf (o := ⟨some 22, Op.binOp BinOp.add 3 (Operand.tmp 21) (Operand.const (Value.int .i64 1)) 3, _, _, _, _⟩) (x := .int .i64 (c + 1)) rfl rfl (by clear hA hN hO hL; simp only [execOp]; go_simp) ⟨_, rfl, (fun h => by cases h), rfl, zcg (by decide) (by decide) hIl, fun _ _ _ _ h => h⟩
  ·intro ll bb w' hs hlf hN hO hf hIl hL hA
   clear hi'
   have q15 : bb.tmps[15]? = some _ := hf.tmp (k := 0) rfl (by rw [ha]; decide) (hA 0 (by kernel_rfl))
   have q20 : bb.tmps[20]? = some _ := hf.tmp (k := 5) rfl (by rw [ha]; decide) (hA 5 (by kernel_rfl))
   have h10 := hN 10 (by kernel_rfl)
   have h8 := (hIl.2.2.2 h10).2 hlf
   have hm := hme w' h8
   have hob : w'.heap[b]? = some (.map es ck) := h8.trans hes
   have hgr : w'.grownBy (ChangeMaps.setBlock w' b (.map es1 ck1)) (some b) := zih hob (.map es1 ck1)
   have hE : IG5 w0 w9 base V b x n D c (.map es1 ck1) (ll.setIfInBounds 8 true) (ChangeMaps.setBlock w' b (.map es1 ck1)) :=
    ⟨hIl.1.grown hgr (Nat.le_trans hb0 hIl.1.size) (fun j hj => by cases hj; exact hbb), pb_set hIl.2.1 hob hVb _, fun h => (by rw [Rg.jk (by decide), h10] at h; cases h), fun _ => ⟨fun _ => ChangeMaps.heap_setBlock_same hob _, fun h => (by rw [Rg.set_self hs (by rw [zcp]; decide)] at h; cases h)⟩⟩
   clear hA hN hIl hO hL
   exact Rg.zf (o := ⟨some 23, Op.mapEntry 50 (Operand.tmp 15) (Operand.tmp 20), _, _, _, _⟩) (x := .tuple #[.int .i64 c, goInt st]) (w' := ChangeMaps.setBlock w' b (.map es1 ck1)) rfl rfl (by clear hE hgr hob h8; simp only [execOp]; go_simp) ⟨_, rfl, (fun h => by cases h), rfl, hE, fun _ _ _ _ h => h⟩
  ·intro ll bb w' hs hlf hN hO hf hIl hL hA
   clear hi'
   have q23 : bb.tmps[23]? = some _ := hf.tmp (k := 8) rfl (by rw [ha]; decide) (hA 8 (by kernel_rfl))
   exact Rg.zf (o := ⟨some 24, Op.extract (Operand.tmp 23) 1, _, _, _, _⟩) (x := goInt st) rfl rfl (by clear hA hN hO hL; simp only [execOp]; go_simp) ⟨_, rfl, (fun h => by cases h), rfl, zcg (by decide) (by decide) hIl, fun _ _ _ _ h => h⟩
  ·intro ll bb w' hs hlf hN hO hf hIl hL hA
   clear hi'
   have q15 : bb.tmps[15]? = some _ := hf.tmp (k := 0) rfl (by rw [ha]; decide) (hA 0 (by kernel_rfl))
   have q24 : bb.tmps[24]? = some _ := hf.tmp (k := 9) rfl (by rw [ha]; decide) (hA 9 (by kernel_rfl))
   have q22 : bb.tmps[22]? = some _ := hf.tmp (k := 7) rfl (by rw [ha]; decide) (hA 7 (by kernel_rfl))
   have h8 := (hIl.2.2.2 hlf).1 (hL 8 (by kernel_rfl))
   obtain ⟨o2, hs2, ho2⟩ := hst w' (c + 1) (WalkArith.wf_i64 (by omega)) h8
   have hs3 : (Instr.entryStore 50 (.map (some b)) (.int .i64 st) (.int .i64 (c + 1))).run Tryz.prog w' = .ok () (ChangeMaps.setBlock w' b o2) := hs2
   clear hs2
   have hgr : w'.grownBy (ChangeMaps.setBlock w' b o2) (some b) := zih h8 o2
   have hE : IG5 w0 w9 base V b x n D c (.map es1 ck1) (ll.setIfInBounds 10 true) (ChangeMaps.setBlock w' b o2) :=
    ⟨hIl.1.grown hgr (Nat.le_trans hb0 hIl.1.size) (fun j hj => by cases hj; exact hbb), pb_set hIl.2.1 h8 hVb o2, fun _ => ho2 _ (ChangeMaps.heap_setBlock_same h8 o2), fun h => (by rw [Rg.set_self hs (by rw [zcp]; decide)] at h; cases h)⟩
   clear hA hN hIl hO hL ho2 hgr
   refine Rg.zaq (o := ⟨none, Op.entryStore 50 (Operand.tmp 15) (Operand.tmp 24) (Operand.tmp 22), _, _, _, _⟩) (w' := ChangeMaps.setBlock w' b o2) rfl rfl ?_ ⟨undef, (by rw [dG5_10]), (fun _ => trivial), trivial, hE, fun k y _ _ h => h⟩
   clear hE
   simp only [execOp]
   go_simp
theorem put_noneU (a : Act) (v : Value) : a.put none v = a := rfl
theorem layG5 {a b : Act} (hf : Rg.Fr (Rg.opsOf Tryz.f16 5) a b) : b = Rg.fl (Rg.opsOf Tryz.f16 5) b 0 [some 15, some 16, some 17, some 18, some 19, some 20, some 21, some 22, some 23, some 24, none] a := Rg.ql _ (by kernel_rfl) hf
end Go.Proofs.YtjlpfpigggdemaaGreatDoor
namespace Go.Proofs.YtjlpfpigggdemaaGreatDoor.Rg
open Go
set_option linter.all false
theorem zx {ops : Array Oper} {o : Oper} {g d : Nat} {want p e : Bool} {b : Act} (hg : o.guard = some (g, want)) (hd : ja ops g = some d) (hq : b.tmps[d]? = some (cond p (.bool e) undef)) (h : (p && (e == want)) = true) : Region.wanted o (yielded ops b.tmps) = true := by
 simp only [Bool.and_eq_true, beq_iff_eq] at h
 obtain ⟨rfl, rfl⟩ := h
 exact zah hg hd hq
theorem zy {ops : Array Oper} {o : Oper} {g d : Nat} {want p e : Bool} {b : Act} (hg : o.guard = some (g, want)) (hd : ja ops g = some d) (hq : b.tmps[d]? = some (cond p (.bool e) undef)) (h : (p && (e == want)) = false) : Region.wanted o (yielded ops b.tmps) = false := by
 unfold Region.wanted yielded
 unfold ja at hd
 rw [hg]
 simp only [hd, Option.bind_some, hq]
 cases p <;> cases e <;> cases want <;> first | rfl | cases h
theorem ku {p q : Bool} (h : (p && q) = true) : p = true := (Bool.and_eq_true _ _ ▸ h).1
theorem zn {e want : Bool} {p : Bool} (h : (p && (e == want)) = true) : e = want := by
 simp only [Bool.and_eq_true, beq_iff_eq] at h
 exact h.2
theorem zk {v : Value} {p : Bool} (h : p = true) : cond p v undef = v := by rw [h]; rfl
theorem zu {v : Value} {p : Bool} (h : p = false) : undef = cond p v undef := by rw [h]; rfl
theorem zgg (a b : Int) : (a == b) = decide (a = b) := by by_cases h : a = b <;> simp [h]
theorem bne_dec (a b : Int) : (a != b) = !decide (a = b) := by by_cases h : a = b <;> simp [h, bne]
end Go.Proofs.YtjlpfpigggdemaaGreatDoor.Rg
