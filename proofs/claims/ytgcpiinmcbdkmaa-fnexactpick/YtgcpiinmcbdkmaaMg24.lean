/-
  Merged: CuA.
-/
import Derived.Test.YtgcpiinmcbdkmaaRows
import Derived.WalkKit
import Derived.WalkSpells
import Derived.WalkLawsBesides
import Derived.BigQuiet
import Derived.Deep.QuietTactic
namespace Go.Proofs.Ytgcpiinmcbdkmaa
open Go.RowKit
structure Keep (g : Nat) (w w' : World) : Prop where
  os : w'.os = w.os
  tape : w'.tape = w.tape
  output : w'.output = w.output
  size : w.heap.size ≤ w'.heap.size
  block : ∀ j, j < w.heap.size → j ≠ g → w'.heap[j]? = w.heap[j]?
theorem Keep.refl (g : Nat) (w : World) : Keep g w w := ⟨rfl, rfl, rfl, Nat.le_refl _, fun _ _ _ => rfl⟩
theorem Keep.trans {g : Nat} {a b c : World} (h : Keep g a b) (k : Keep g b c) : Keep g a c :=
  ⟨k.os.trans h.os, k.tape.trans h.tape, k.output.trans h.output, Nat.le_trans h.size k.size, fun j hj hg => (k.block j (Nat.lt_of_lt_of_le hj h.size) hg).trans (h.block j hj hg)⟩
theorem Keep.drewN {g : Nat} {a b : World} (h : Keep g a b) (n : Nat) : Keep g a (b.drewN n) := ⟨h.os, h.tape, h.output, h.size, h.block⟩
theorem Keep.set {g j : Nat} {a b : World} (h : Keep g a b) (u : Value) : Keep g a (b.setCell ⟨g, j, none⟩ u) :=
  ⟨h.os, h.tape, h.output, by simpa [World.setCell] using h.size, fun i hi hg => (heap_setCell_other b ⟨g, j, none⟩ i u (fun e => hg e)).trans (h.block i hi hg)⟩
theorem Keep.alloc {g : Nat} {a b : World} (h : Keep g a b) (o : Obj) : Keep g a (b.alloc o) :=
  ⟨h.os, h.tape, h.output, by have := h.size; simp; omega, fun i hi hg => (Below.heap_alloc b o i (Nat.lt_of_lt_of_le hi h.size)).trans (h.block i hi hg)⟩
theorem Keep.below {g B : Nat} {a b : World} (h : Keep g a b) (hB : B ≤ g) (hs : B ≤ a.heap.size) : Below B a b :=
  ⟨h.os, h.tape, h.output, h.size, fun k hk => h.block k (by omega) (by omega)⟩
theorem Keep.of_below {g : Nat} {a b : World} (h : Below a.heap.size a b) : Keep g a b := ⟨h.os, h.tape, h.output, h.size, fun j hj _ => h.block j hj⟩
theorem Keep.cell {g b o : Nat} {w w' : World} (h : Keep g w w') (hb : b < w.heap.size) (hg : b ≠ g) : w'.cell? ⟨b, o, none⟩ = w.cell? ⟨b, o, none⟩ := World.cell?_of_block (w := w) (h.block b hb hg)
def Bytes (w : World) (g : Nat) (ao : Option Addr) (bs : List Int) : Prop :=
  (∀ x ∈ bs, 0 ≤ x ∧ x ≤ 255) ∧ (bs.length = 0 ∨ ∃ b off, ao = some ⟨b, off, none⟩ ∧ b < g ∧ ∀ i, i < bs.length → w.cell? ⟨b, off + i, none⟩ = some (.int .u8 (bs.getD i 0)))
theorem Bytes.below {w w' : World} {g : Nat} {ao : Option Addr} {bs : List Int} (h : Bytes w g ao bs) (hk : Below g w w') : Bytes w' g ao bs := by
  refine ⟨h.1, ?_⟩
  rcases h.2 with h2 | ⟨b, off, h1, h2, h4⟩
  · exact Or.inl h2
  · exact Or.inr ⟨b, off, h1, h2, fun i hi => (hk.cell (p := ⟨b, off + i, none⟩) h2).trans (h4 i hi)⟩
def Cur (w : World) (g : Nat) (ao : Option Addr) (cap : Nat) (bs : List Int) : Prop :=
  g < w.heap.size ∧ Bytes w g ao bs ∧ bs.length ≤ 1048576 ∧ ∃ (i : Nat) (h : Int), i ≤ bs.length ∧ w.cell? ⟨g, 0, none⟩ = some (.slice ao bs.length cap) ∧ w.cell? ⟨g, 1, none⟩ = some (.int .i64 i) ∧ w.cell? ⟨g, 2, none⟩ = some (.int .i64 h) ∧ w.frozen? ⟨g, 1, none⟩ = false ∧ w.frozen? ⟨g, 2, none⟩ = false
theorem Cur.drewN {w : World} {g cap : Nat} {ao : Option Addr} {bs : List Int} (h : Cur w g ao cap bs) (n : Nat) : Cur (w.drewN n) g ao cap bs := h
theorem Cur.below {w w' : World} {g cap : Nat} {ao : Option Addr} {bs : List Int} (h : Cur w g ao cap bs) (hk : Below (g + 1) w w') : Cur w' g ao cap bs := by
  obtain ⟨hg, hby, hl, i, h, hi, c0, c1, c2, f1, f2⟩ := h
  have hh : ∀ j o, j < g + 1 → w'.cell? ⟨j, o, none⟩ = w.cell? ⟨j, o, none⟩ := fun j o hj => hk.cell (p := ⟨j, o, none⟩) hj
  have hfz : ∀ o, w'.frozen? ⟨g, o, none⟩ = w.frozen? ⟨g, o, none⟩ := fun o => by simp only [World.frozen?, hk.block g (by omega)]
  exact ⟨Nat.lt_of_lt_of_le hg hk.size, hby.below (hk.mono (by omega)), hl, i, h, hi, (hh g 0 (by omega)).trans c0, (hh g 1 (by omega)).trans c1, (hh g 2 (by omega)).trans c2, (hfz 1).trans f1, (hfz 2).trans f2⟩
end Go.Proofs.Ytgcpiinmcbdkmaa
