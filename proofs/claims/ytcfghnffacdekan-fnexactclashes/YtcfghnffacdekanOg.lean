/-
  The earliest time, as the program finds it.
-/
import Derived.Test.YtcfghnffacdekanOf
namespace Go.Proofs.Ytcfghnffacdekan
open Go.RowKit Va Oa
set_option linter.unusedVariables false

/-- An operation in a box that may be written. -/
structure OBox (W : World) (b : Nat) (x : Opn) (tv : Value) : Prop where
  c0 : W.cell? ⟨b, 0, none⟩ = some (.int .i64 x.room)
  c1 : W.cell? ⟨b, 1, none⟩ = some (.int .i64 x.fr)
  c2 : W.cell? ⟨b, 2, none⟩ = some (.int .i64 x.to)
  c3 : W.cell? ⟨b, 3, none⟩ = some tv
  f : ∀ j, W.frozen? ⟨b, j, none⟩ = false
theorem OBox.below {W W' : World} {b : Nat} {x : Opn} {tv : Value} (h : OBox W b x tv) (hb : Below W.heap.size W W') (hl : b < W.heap.size) : OBox W' b x tv :=
  ⟨((bcell hb).1 _ _ hl).trans h.c0, ((bcell hb).1 _ _ hl).trans h.c1, ((bcell hb).1 _ _ hl).trans h.c2, ((bcell hb).1 _ _ hl).trans h.c3, fun j => ((bcell hb).2 _ _ hl).trans (h.f j)⟩

theorem one_box {w w1 : World} {a0 a1 a2 a3 : Value} {t : TypeId} (hb : Below (w.alloc (.cells #[a0, a1, a2, a3] t)).heap.size (w.alloc (.cells #[a0, a1, a2, a3] t)) w1) :
    w1.cell? ⟨w.heap.size, 0, none⟩ = some a0 ∧ w1.cell? ⟨w.heap.size, 1, none⟩ = some a1 ∧ w1.cell? ⟨w.heap.size, 2, none⟩ = some a2 ∧ w1.cell? ⟨w.heap.size, 3, none⟩ = some a3 ∧ w.heap.size + 1 ≤ w1.heap.size :=
  ⟨((bcell hb).1 _ _ (by simp)).trans (by simp), ((bcell hb).1 _ _ (by simp)).trans (by simp), ((bcell hb).1 _ _ (by simp)).trans (by simp), ((bcell hb).1 _ _ (by simp)).trans (by simp), by have := hb.size; simp at this; omega⟩
theorem OBox.step {W W' : World} {b : Nat} {x : Opn} {tv : Value} {o : Obj} (h : OBox W b x tv) (hl : b < W.heap.size) (hb : Below (W.alloc o).heap.size (W.alloc o) W') : OBox W' b x tv :=
  (h.below ((Below.refl W.heap.size W).alloc (Nat.le_refl _) o) hl).below hb (by simp; omega)
theorem OBox.put {W : World} {b : Nat} {x : Opn} {tv : Value} (h : OBox W b x tv) (x' : Opn) (tv' : Value) (W' : World) (hW : W' = (((W.setCell ⟨b, 0, none⟩ (.int .i64 x'.room)).setCell ⟨b, 1, none⟩ (.int .i64 x'.fr)).setCell ⟨b, 2, none⟩ (.int .i64 x'.to)).setCell ⟨b, 3, none⟩ tv') : OBox W' b x' tv' := by
  subst hW
  obtain ⟨c0, c1, c2, c3, f⟩ := h
  refine ⟨?_, ?_, ?_, ?_, fun j => by simp only [World.frozen?_setCell]; exact f j⟩
  all_goals simp [World.cell?_setCell_other, World.cell?_setCell_same, c0, c1, c2, c3]
theorem mv_mv (x : Opn) (s t : Int) : mv (mv x s) t = mv x t := by simp [mv]; omega
theorem tms_mv {x : Opn} (h : opB x = true) {t : Int} (h1 : 0 ≤ t) (h2 : t ≤ 10001440) : Tms (mv x t) := by
  obtain ⟨-, a, b, c, -⟩ := of_opB h
  exact ⟨by simp only [mv]; omega, by simp only [mv]; omega⟩

/-- What both answer. -/
noncomputable def erl (l : List Opn) (x : Opn) (r : Int) : Int := if osB l && (opB x && rng r 0 1440) then earl l x r else -1
end Go.Proofs.Ytcfghnffacdekan
