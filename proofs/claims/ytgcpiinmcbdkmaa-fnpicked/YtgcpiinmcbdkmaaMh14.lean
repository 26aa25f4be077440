/-
  Merged: CuA.
-/
import Derived.Test.YtgcpiinmcbdkmaaRows
import Derived.WalkKit
import Derived.WalkSpells
import Derived.WalkLawsBesides
import Derived.BigQuiet
import Derived.Deep.QuietTactic
namespace Go.Proofs.Ytgcpiinmcbdkmaa
open Go.RowKit
theorem i64_and255 (n : Int) : bits .and .i64 n 255 = n % 256 := by
  have h255 : (BitVec.ofInt 64 255).toNat = 2 ^ 8 - 1 := by decide
  have key : (BitVec.ofInt 64 n &&& BitVec.ofInt 64 255).toNat = (n % ((2 ^ 64 : Nat) : Int)).toNat % 2 ^ 8 := by
    rw [BitVec.toNat_and, BitVec.toNat_ofInt, h255, Nat.and_two_pow_sub_one_eq_mod]
  show IntKind.i64.wrap ((BitVec.ofInt 64 n &&& BitVec.ofInt 64 255).toNat : Nat) = n % 256
  rw [key, IntKind.wrap_i64]
  omega
structure Keep (g : Nat) (w w' : World) : Prop where
  os : w'.os = w.os
  tape : w'.tape = w.tape
  output : w'.output = w.output
  size : w.heap.size ≤ w'.heap.size
  block : ∀ j, j < w.heap.size → j ≠ g → w'.heap[j]? = w.heap[j]?
theorem Keep.refl (g : Nat) (w : World) : Keep g w w := ⟨rfl, rfl, rfl, Nat.le_refl _, fun _ _ _ => rfl⟩
theorem Keep.trans {g : Nat} {a b c : World} (h : Keep g a b) (k : Keep g b c) : Keep g a c :=
  ⟨k.os.trans h.os, k.tape.trans h.tape, k.output.trans h.output, Nat.le_trans h.size k.size, fun j hj hg => (k.block j (Nat.lt_of_lt_of_le hj h.size) hg).trans (h.block j hj hg)⟩
theorem Keep.drewN {g : Nat} {a b : World} (h : Keep g a b) (n : Nat) : Keep g a (b.drewN n) := ⟨h.os, h.tape, h.output, h.size, h.block⟩
theorem Keep.set {g j : Nat} {a b : World} (h : Keep g a b) (u : Value) : Keep g a (b.setCell ⟨g, j, none⟩ u) :=
  ⟨h.os, h.tape, h.output, by simpa [World.setCell] using h.size, fun i hi hg => (heap_setCell_other b ⟨g, j, none⟩ i u (fun e => hg e)).trans (h.block i hi hg)⟩
theorem Keep.alloc {g : Nat} {a b : World} (h : Keep g a b) (o : Obj) : Keep g a (b.alloc o) :=
  ⟨h.os, h.tape, h.output, by have := h.size; simp; omega, fun i hi hg => (Below.heap_alloc b o i (Nat.lt_of_lt_of_le hi h.size)).trans (h.block i hi hg)⟩
theorem Keep.below {g B : Nat} {a b : World} (h : Keep g a b) (hB : B ≤ g) (hs : B ≤ a.heap.size) : Below B a b :=
  ⟨h.os, h.tape, h.output, h.size, fun k hk => h.block k (by omega) (by omega)⟩
theorem Keep.of_below {g : Nat} {a b : World} (h : Below a.heap.size a b) : Keep g a b := ⟨h.os, h.tape, h.output, h.size, fun j hj _ => h.block j hj⟩
theorem Keep.cell {g b o : Nat} {w w' : World} (h : Keep g w w') (hb : b < w.heap.size) (hg : b ≠ g) : w'.cell? ⟨b, o, none⟩ = w.cell? ⟨b, o, none⟩ := World.cell?_of_block (w := w) (h.block b hb hg)
def Bytes (w : World) (g : Nat) (ao : Option Addr) (bs : List Int) : Prop :=
  (∀ x ∈ bs, 0 ≤ x ∧ x ≤ 255) ∧ (bs.length = 0 ∨ ∃ b off, ao = some ⟨b, off, none⟩ ∧ b < g ∧ ∀ i, i < bs.length → w.cell? ⟨b, off + i, none⟩ = some (.int .u8 (bs.getD i 0)))
theorem Bytes.below {w w' : World} {g : Nat} {ao : Option Addr} {bs : List Int} (h : Bytes w g ao bs) (hk : Below g w w') : Bytes w' g ao bs := by
  refine ⟨h.1, ?_⟩
  rcases h.2 with h2 | ⟨b, off, h1, h2, h4⟩
  · exact Or.inl h2
  · exact Or.inr ⟨b, off, h1, h2, fun i hi => (hk.cell (p := ⟨b, off + i, none⟩) h2).trans (h4 i hi)⟩
def Cur (w : World) (g : Nat) (ao : Option Addr) (cap : Nat) (bs : List Int) : Prop :=
  g < w.heap.size ∧ Bytes w g ao bs ∧ bs.length ≤ 1048576 ∧ ∃ (i : Nat) (h : Int), i ≤ bs.length ∧ w.cell? ⟨g, 0, none⟩ = some (.slice ao bs.length cap) ∧ w.cell? ⟨g, 1, none⟩ = some (.int .i64 i) ∧ w.cell? ⟨g, 2, none⟩ = some (.int .i64 h) ∧ w.frozen? ⟨g, 1, none⟩ = false ∧ w.frozen? ⟨g, 2, none⟩ = false
theorem Cur.drewN {w : World} {g cap : Nat} {ao : Option Addr} {bs : List Int} (h : Cur w g ao cap bs) (n : Nat) : Cur (w.drewN n) g ao cap bs := h
theorem Cur.setH {w : World} {g cap : Nat} {ao : Option Addr} {bs : List Int} (h : Cur w g ao cap bs) (k : Int) : Cur (w.setCell ⟨g, 2, none⟩ (.int .i64 k)) g ao cap bs := by
  obtain ⟨hg, hby, hl, i, h, hi, c0, c1, c2, f1, f2⟩ := h
  refine ⟨by simpa [World.setCell] using hg, hby.below ((Keep.refl g w).set _ |>.below (Nat.le_refl _) (by omega)), hl, i, k, hi, ?_, ?_, World.cell?_setCell_same _ _ _ c2, by rw [World.frozen?_setCell]; exact f1, by rw [World.frozen?_setCell]; exact f2⟩
  · rw [World.cell?_setCell_other (h := by simp)]; exact c0
  · rw [World.cell?_setCell_other (h := by simp)]; exact c1
theorem Cur.setI {w : World} {g cap : Nat} {ao : Option Addr} {bs : List Int} (h : Cur w g ao cap bs) (j : Nat) (hj : j ≤ bs.length) : Cur (w.setCell ⟨g, 1, none⟩ (.int .i64 j)) g ao cap bs := by
  obtain ⟨hg, hby, hl, i, h, hi, c0, c1, c2, f1, f2⟩ := h
  refine ⟨by simpa [World.setCell] using hg, hby.below ((Keep.refl g w).set _ |>.below (Nat.le_refl _) (by omega)), hl, j, h, hj, ?_, World.cell?_setCell_same _ _ _ c1, ?_, by rw [World.frozen?_setCell]; exact f1, by rw [World.frozen?_setCell]; exact f2⟩
  · rw [World.cell?_setCell_other (h := by simp)]; exact c0
  · rw [World.cell?_setCell_other (h := by simp)]; exact c2
theorem Cur.below {w w' : World} {g cap : Nat} {ao : Option Addr} {bs : List Int} (h : Cur w g ao cap bs) (hk : Below (g + 1) w w') : Cur w' g ao cap bs := by
  obtain ⟨hg, hby, hl, i, h, hi, c0, c1, c2, f1, f2⟩ := h
  have hh : ∀ j o, j < g + 1 → w'.cell? ⟨j, o, none⟩ = w.cell? ⟨j, o, none⟩ := fun j o hj => hk.cell (p := ⟨j, o, none⟩) hj
  have hfz : ∀ o, w'.frozen? ⟨g, o, none⟩ = w.frozen? ⟨g, o, none⟩ := fun o => by simp only [World.frozen?, hk.block g (by omega)]
  exact ⟨Nat.lt_of_lt_of_le hg hk.size, hby.below (hk.mono (by omega)), hl, i, h, hi, (hh g 0 (by omega)).trans c0, (hh g 1 (by omega)).trans c1, (hh g 2 (by omega)).trans c2, (hfz 1).trans f1, (hfz 2).trans f2⟩
set_option maxHeartbeats 1000000 in
theorem byte_any (g : Nat) (ao : Option Addr) (cap : Nat) (bs : List Int) (w : World) (hc : Cur w g ao cap bs) :
    Calls Try.prog 77 #[.pointer (some ⟨g, 0, none⟩)] w fun e w' => ∃ x : Int, e = .returned (.int .i64 x) ∧ 0 ≤ x ∧ x ≤ 255 ∧ Cur w' g ao cap bs ∧ Keep g w w' := by
  have HC := hc
  obtain ⟨hg, hby, hl, i, h, hi, c0, c1, c2, f1, f2⟩ := hc
  by_cases hlt : i < bs.length
  · have hlti : (i : Int) < (bs.length : Int) := by omega
    rcases hby.2 with h2 | ⟨b, off, rfl, hbg0, hcell⟩
    · omega
    have hcb := hcell i hlt
    have hbg : b ≠ g := by omega
    have hb : b < w.heap.size := by omega
    have hr : 0 ≤ bs.getD i 0 ∧ bs.getD i 0 ≤ 255 := hby.1 _ (by rw [List.getD_eq_getElem?_getD, List.getElem?_eq_getElem hlt]; simp)
    generalize bs.getD i 0 = y at *
    obtain ⟨r1, r2⟩ := hr
    clear hcell
    go_enter Try.func77, Try.ntmps77
    go_wp2
    generalize wrap64 (wrap64 (h * 6364136223846793005) + 1442695040888963407) = k
    go_quiet (fail)
    go_wp2_with fail
    obtain ⟨x0, hx0, hx1, hx2⟩ : ∃ x, bits .and .i64 (bits .xor .i64 (k / 8589934592) (k / 35184372088832)) 255 = x ∧ 0 ≤ x ∧ x ≤ 255 := ⟨_, rfl, by rw [i64_and255]; omega, by rw [i64_and255]; omega⟩
    rw [hx0]
    clear hx0
    go_quiet (fail)
    go_wp2_with fail
    go_quiet (fail)
    go_wp2_with fail
    go_ret
    refine ⟨_, rfl, by rw [i64_and255]; omega, by rw [i64_and255]; omega, ?_, (((Keep.refl g w).set _).drewN _).set _⟩
    have h3 := fun n => ((HC.setH k).drewN n).setI (i + 1) (by omega)
    simpa using h3 _
  · have hnlt : ¬ (i : Int) < (bs.length : Int) := by omega
    go_enter Try.func77, Try.ntmps77
    go_wp2
    generalize wrap64 (wrap64 (h * 6364136223846793005) + 1442695040888963407) = k
    go_quiet (fail)
    go_wp2_with fail
    obtain ⟨x0, hx0, hx1, hx2⟩ : ∃ x, bits .and .i64 (bits .xor .i64 (k / 8589934592) (k / 35184372088832)) 255 = x ∧ 0 ≤ x ∧ x ≤ 255 := ⟨_, rfl, by rw [i64_and255]; omega, by rw [i64_and255]; omega⟩
    rw [hx0]
    clear hx0
    go_quiet (fail)
    go_wp2_with fail
    go_ret
    exact ⟨_, rfl, hx1, hx2, HC.setH k, (((Keep.refl g w).set _).drewN _).drewN _⟩
end Go.Proofs.Ytgcpiinmcbdkmaa
