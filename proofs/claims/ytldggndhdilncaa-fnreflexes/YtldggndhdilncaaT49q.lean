/-
  A table of a hundred numbers in a block.
-/
import Derived.Test.YtldggndhdilncaaT49p
import Derived.Test.YtldggndhdilncaaT21
namespace Go.Proofs.Ytldggndhdilncaa
open Go.RowKit Va Lb
set_option linter.all false

def TBL (W : World) (G : Nat) (f : Nat → Nat) : Prop := ∃ A9 : Array Value, PB W G A9 3 ∧ A9.size = 100 ∧ ∀ j, j < 100 → A9[j]? = some (.int .i64 ((f j : Nat) : Int))
theorem TBL.lt {W : World} {G : Nat} {f : Nat → Nat} (h : TBL W G f) : G < W.heap.size := by obtain ⟨A9, h1, -⟩ := h; exact h1.lt
theorem TBL.cell {W : World} {G : Nat} {f : Nat → Nat} (h : TBL W G f) {j : Nat} (hj : j < 100) : W.cell? ⟨G, j, none⟩ = some (.int .i64 ((f j : Nat) : Int)) := by
  obtain ⟨A9, h1, h2, h3⟩ := h
  rw [h1.cell j]
  exact h3 j hj
theorem TBL.cold {W : World} {G : Nat} {f : Nat → Nat} (h : TBL W G f) (j : Nat) : W.frozen? ⟨G, j, none⟩ = false := by
  obtain ⟨A9, h1, -⟩ := h
  exact h1.frozen j
theorem TBL.below {W W' : World} {G : Nat} {f : Nat → Nat} (h : TBL W G f) (hb : Below W.heap.size W W') : TBL W' G f := by
  obtain ⟨A9, h1, h2⟩ := h
  exact ⟨A9, h1.below hb, h2⟩
theorem TBL.put {W : World} {G : Nat} {f f' : Nat → Nat} (h : TBL W G f) {j k : Nat} (hj : j < 100) (hf : ∀ i, f' i = if i = j then k else f i) : TBL (W.setCell ⟨G, j, none⟩ (.int .i64 (k : Int))) G f' := by
  obtain ⟨A9, h1, h2, h3⟩ := h
  refine ⟨A9.setIfInBounds j (.int .i64 (k : Int)), h1.set j _, by rw [Array.size_setIfInBounds]; exact h2, fun i hi => ?_⟩
  rw [Array.getElem?_setIfInBounds, hf i]
  by_cases q : j = i
  · subst q
    simp [h2, hj]
  · rw [if_neg q, if_neg (fun e => q e.symm)]
    exact h3 i hi
theorem TBL.made {W : World} {b G : Nat} (h : W.ownsRow b 3 1 (.slice (some ⟨G, 0, none⟩) 100 100) 100 (madeCells (Value.int .i64 0).cells (100 * 1)).toList) : TBL W G (fun _ => 0) := by
  rw [made_ints] at h
  rcases h.2 with ⟨e, _⟩ | ⟨g, c, cur, e, h3, h4, h5, h6, h7, h8⟩
  · cases e
  · simp only [Value.slice.injEq, Option.some.injEq, Addr.mk.injEq] at e
    obtain ⟨⟨rfl, -⟩, -, rfl⟩ := e
    refine ⟨cur, h4, by rw [h7], fun j hj => ?_⟩
    have hs : cur.toList.length = 100 := by rw [Array.length_toList, h7]
    rw [show 100 * 1 = cur.toList.length from hs.symm, List.take_length] at h8
    rw [← Array.getElem?_toList, h8]
    rw [List.getElem?_map, List.getElem?_replicate, if_pos hj]
    rfl
theorem infoInt : (Try.prog.info? 3).map (fun i => (i.zero, i.size, i.bytes)) = some (some (.int .i64 0), 1, 8) := by kernel_rfl
end Go.Proofs.Ytldggndhdilncaa
