/-
  The letters that count, in a map: the program's.
-/
import Derived.Test.YtbabknhccapaoaaM22
import Derived.Test.YtbabknhccapaoaaM23
import Derived.Test.YtbabknhccapaoaaM4
import Derived.Test.YtbabknhccapaoaaRo
namespace Go.Proofs.Ytbabknhccapaoaa
open Go.RowKit Va Mg Go.Maps
set_option linter.all false

/-- g says of each number what the list I has. -/
def Rep (g : Int → Int → Option Lt) (I : List Lt) : Prop := ∀ f s y, g f s = some y ↔ (y ∈ I ∧ y.f = f ∧ y.s = s)
def updG (g : Int → Int → Option Lt) (x : Lt) : Int → Int → Option Lt := fun f s => if f = x.f ∧ s = x.s then some x else g f s
theorem Rep.nil : Rep (fun _ _ => none) [] := fun f s y => ⟨fun h => (by cases h), fun h => (by cases h.1)⟩
theorem rep_put {g : Int → Int → Option Lt} {I : List Lt} {x : Lt} (hI : InOk I) (h : Rep g I) (hx : ltB x = true) (hm : ∀ y, g x.f x.s = some y → moreB x y = true) : Rep (updG g x) (inStep I x) := by
  have hmem := (in_mem hI hx).2
  intro f s y
  unfold updG
  by_cases q : f = x.f ∧ s = x.s
  · rw [if_pos q]
    obtain ⟨rfl, rfl⟩ := q
    constructor
    · intro e
      cases e
      exact ⟨(hmem x).2 (Or.inr (Or.inl ⟨rfl, fun z hz hs => hm z ((h _ _ z).2 ⟨hz, hs.1, hs.2⟩)⟩)), rfl, rfl⟩
    · rintro ⟨hy, e1, e2⟩
      rcases (hmem y).1 hy with u | u | u
      · exact absurd ⟨e1, e2⟩ u.1
      · rw [u.1]
      · have := hm y ((h _ _ y).2 ⟨u.2.1, e1, e2⟩)
        rw [u.2.2] at this; cases this
  · rw [if_neg q, h f s y]
    constructor
    · rintro ⟨hy, e1, e2⟩
      exact ⟨(hmem y).2 (Or.inl ⟨fun z => q ⟨e1.symm.trans z.1, e2.symm.trans z.2⟩, hy⟩), e1, e2⟩
    · rintro ⟨hy, e1, e2⟩
      have hns : ¬ Same y x := fun z => q ⟨e1.symm.trans z.1, e2.symm.trans z.2⟩
      rcases (hmem y).1 hy with u | u | u
      · exact ⟨u.2, e1, e2⟩
      · exact absurd (by rw [u.1]; exact same_refl _) hns
      · exact absurd u.1 hns
theorem rep_keep {g : Int → Int → Option Lt} {I : List Lt} {x y0 : Lt} (hI : InOk I) (h : Rep g I) (hx : ltB x = true) (h0 : g x.f x.s = some y0) (hm : moreB x y0 = false) : Rep g (inStep I x) := by
  have hmem := (in_mem hI hx).2
  have hy0 := (h _ _ y0).1 h0
  intro f s y
  rw [h f s y]
  constructor
  · rintro ⟨hy, e1, e2⟩
    refine ⟨(hmem y).2 ?_, e1, e2⟩
    by_cases q : Same y x
    · have e : y = y0 := hI.same hy hy0.1 (q.trans ⟨hy0.2.1.symm, hy0.2.2.symm⟩)
      exact Or.inr (Or.inr ⟨q, hy, by rw [e]; exact hm⟩)
    · exact Or.inl ⟨q, hy⟩
  · rintro ⟨hy, e1, e2⟩
    rcases (hmem y).1 hy with u | u | u
    · exact ⟨u.2, e1, e2⟩
    · have := u.2 y0 hy0.1 ⟨hy0.2.1, hy0.2.2⟩
      rw [hm] at this; cases this
    · exact ⟨u.2.1, e1, e2⟩

theorem mkmapN (n : Int) (w : World) : (Instr.makeMap 51 (some (.int .i64 n))).run Try.prog w = .ok (.map (some w.heap.size)) (w.alloc (.map #[] 0)) := by
  simp [Instr.makeMap, run_underlying Try.underlying51, asInt, asIntOf, Result.andThen]

theorem inumber_cells (x : Lt) (w : World) : Calls Try.prog 40 #[.agg #[.int .i64 x.f, .int .i64 x.s, .int .i64 x.c, .int .i64 x.k, .int .i64 x.v]] w fun e w' => e = .returned (.agg #[.int .i64 x.f, .int .i64 x.s]) ∧ Below w.heap.size w w' := inumber_any x w
theorem PB.fiveM {W : World} {B : Nat} {t : TypeId} {v0 v1 v2 v3 v4 : Value} (h : PB W B #[v0, v1, v2, v3, v4] t) : W.cell? ⟨B, 0, none⟩ = some v0 ∧ W.cell? ⟨B, 1, none⟩ = some v1 ∧ W.cell? ⟨B, 2, none⟩ = some v2 ∧ W.cell? ⟨B, 3, none⟩ = some v3 ∧ W.cell? ⟨B, 4, none⟩ = some v4 := ⟨h.cell 0, h.cell 1, h.cell 2, h.cell 3, h.cell 4⟩
def FC7 (b : Nat) (x : Lt) (k : Nat) (v : Value) (w : World) : Prop :=
  match k with
  | 0 => v = .map (some b)
  | 1 => v = .agg #[.int .i64 x.f, .int .i64 x.s, .int .i64 x.c, .int .i64 x.k, .int .i64 x.v]
  | 2 => v = .agg #[.int .i64 x.f, .int .i64 x.s]
  | 3 => v = .agg #[.int .i64 x.f, .int .i64 x.s, .int .i64 x.c, .int .i64 x.k, .int .i64 x.v]
  | _ => True
theorem sizeC7 : (Rg.opsOf Try.f20 7).size = 5 := by kernel_rfl

set_option maxRecDepth 20000 in
set_option maxHeartbeats 8000000 in
theorem regC7 {Q : Exit → Act → World → Prop} {a : Act} {w9 : World} {V b n : Nat} {x : Lt} {D : DataW Unit} (ha : a.tmps.size = 41) (k3 : a.tmps[3]? = some (.map (some b))) (k5 : a.tmps[5]? = some (.pointer (some ⟨V, 0, none⟩))) (hX : PB w9 V #[.int .i64 x.f, .int .i64 x.s, .int .i64 x.c, .int .i64 x.k, .int .i64 x.v] 29)
    (hf0 : Wi x.f) (hs0 : Wi x.s) (hown : w9.ownsMap Try.prog 80 letE b n D) (hn : n < maxLen)
    (hend : ∀ b' w1 w', Rg.Fr (Rg.opsOf Try.f20 7) a b' → Below w9.heap.size w9 w1 → w1.grownBy w' (some b) → w'.ownsMap Try.prog 80 letE b (n + 1) (D.put (kN x.f x.s) (ltD x)) → Q .normal b' w') : (Code.region 7 (Rg.opsOf Try.f20 7) true).wp Try.prog Q a w9 := by
  refine Rg.region_by 4 (by kernel_rfl) (fun w' => Below w9.heap.size w9 w') (FC7 b x) (by rw [ha]; kernel_rfl) (st_drew (Below.refl _ _)) ?_ ?_ (fun h => absurd h (by rw [sizeC7]; decide))
  · clear hend
    intro i' hi' hne
    rw [sizeC7] at hi'
    rcases (show i' = 0 ∨ i' = 1 ∨ i' = 2 ∨ i' = 3 by omega) with rfl | rfl | rfl | rfl
    · intro bb w' hf hI hA
      clear hi'
      have q3 := hf.kept (s := 3) (by rw [sizeC7]; kernel_rfl) k3
      exact Rg.op_value (o := ⟨some 35, Op.move (Operand.tmp 3), _, _, _, _⟩) (x := .map (some b)) rfl rfl (by clear hA; simp only [execOp]; go_simp) ⟨_, rfl, (fun h => by cases h), rfl, hI, fun _ _ h => h⟩
    · intro bb w' hf hI hA
      clear hi'
      have q5 := hf.kept (s := 5) (by rw [sizeC7]; kernel_rfl) k5
      obtain ⟨e0, e1, e2, e3, e4⟩ := (hX.below hI).fiveM
      exact Rg.op_value (o := ⟨some 36, Op.load 29 (Operand.tmp 5), _, _, _, _⟩) (x := .agg #[.int .i64 x.f, .int .i64 x.s, .int .i64 x.c, .int .i64 x.k, .int .i64 x.v]) rfl rfl (by clear hA; simp only [execOp]; go_simp) ⟨_, rfl, (fun h => by cases h), rfl, hI, fun _ _ h => h⟩
    · intro bb w' hf hI hA
      clear hi'
      have q36 : bb.tmps[36]? = some _ := hf.tmp (k := 1) rfl (by rw [ha]; decide) (hA 1 (by kernel_rfl))
      refine Rg.op_call (o := ⟨some 37, Op.call { callee := Callee.value (Operand.func 40), args := #[Operand.tmp 36], argTypes := _ }, _, _, _, _⟩) rfl rfl (by clear hA; simp only [execOp, resolve]; go_simp) (inumber_cells x w') ?_
      rintro e w2 ⟨rfl, hb2⟩
      exact ⟨_, rfl, _, rfl, (fun h => by cases h), rfl, ontoC hI hb2, fun _ _ h => h⟩
    · intro bb w' hf hI hA
      clear hi'
      have q5 := hf.kept (s := 5) (by rw [sizeC7]; kernel_rfl) k5
      obtain ⟨e0, e1, e2, e3, e4⟩ := (hX.below hI).fiveM
      exact Rg.op_value (o := ⟨some 38, Op.load 29 (Operand.tmp 5), _, _, _, _⟩) (x := .agg #[.int .i64 x.f, .int .i64 x.s, .int .i64 x.c, .int .i64 x.k, .int .i64 x.v]) rfl rfl (by clear hA; simp only [execOp]; go_simp) ⟨_, rfl, (fun h => by cases h), rfl, hI, fun _ _ h => h⟩

  · intro _ bb w' hf hI hA
    rw [sizeC7] at hA
    have q35 : bb.tmps[35]? = some _ := hf.tmp (k := 0) rfl (by rw [ha]; decide) (hA 0 (by omega) (by omega))
    have q37 : bb.tmps[37]? = some _ := hf.tmp (k := 2) rfl (by rw [ha]; decide) (hA 2 (by omega) (by omega))
    have q38 : bb.tmps[38]? = some _ := hf.tmp (k := 3) rfl (by rw [ha]; decide) (hA 3 (by omega) (by omega))
    obtain ⟨w2, r1, r2, r3⟩ := (Rt.own_heap hown (hI.block b hown.lt)).update keyedN mapN hn (key_num hf0 hs0) (letE_mk x)
    have r1' : (Instr.mapUpdate 51 (.map (some b)) (.agg #[.int .i64 x.f, .int .i64 x.s]) (.agg #[.int .i64 x.f, .int .i64 x.s, .int .i64 x.c, .int .i64 x.k, .int .i64 x.v])).run Try.prog w' = .ok () w2 := r1
    have hE := hend
    clear hA hend hX hown
    refine Rg.op_skip (o := ⟨none, Op.mapUpdate 51 (Operand.tmp 35) (Operand.tmp 37) (Operand.tmp 38), _, _, _, _⟩) (w' := w2) rfl rfl (by simp only [execOp]; go_simp) ?_
    exact hE _ _ _ (hf.put 4 _) hI r3 r2
end Go.Proofs.Ytbabknhccapaoaa
