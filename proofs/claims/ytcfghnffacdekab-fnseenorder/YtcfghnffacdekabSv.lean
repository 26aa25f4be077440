/-
  Marks for the places that were met: a row of truths.
-/
import Derived.Test.YtcfghnffacdekabSk
import Derived.Test.YtcfghnffacdekabSu
import Derived.OwnWalk
import Derived.Laws.OwnMore
namespace Go.Proofs.Ytcfghnffacdekab
open Go.RowKit Va
set_option linter.unusedVariables false

theorem infoTruth : (Try.prog.info? 4).map (fun i => (i.zero, i.size, i.bytes)) = some (some (.bool false), 1, 1) := by kernel_rfl
theorem told_same {q : List Wt} {t : Int} {L M : List Int} (h1 : Told q t L) (h2 : Told q t M) : L = M := by
  unfold Told at h1 h2
  split at h1
  · rename_i k
    rw [if_pos k] at h2
    rw [Bool.and_eq_true] at k
    exact seen_one (of_qB k.1) h1 h2
  · rename_i k
    rw [if_neg k] at h2
    rw [h1, h2]
/-- Block B has n truths: at k whether k is in S. -/
def Mk (W : World) (B n : Nat) (S : List Int) : Prop := B < W.heap.size ∧ ∀ k : Nat, k < n → W.cell? ⟨B, k, none⟩ = some (.bool (S.contains (k : Int))) ∧ W.frozen? ⟨B, k, none⟩ = false
theorem Mk.made {w w' : World} {t : TypeId} {b n : Nat} (h : w'.ownsRow b t 1 (.slice (some ⟨w.heap.size, 0, none⟩) n n) n (madeCells (Value.bool false).cells (n * 1)).toList) : Mk w' w.heap.size n [] := by
  rw [show (Value.bool false).cells = #[Value.bool false] from rfl, Nat.mul_one, toList_madeCells_one] at h
  have hcell := h.cells (g := w.heap.size) rfl
  obtain ⟨h1, h2⟩ := h
  rcases h2 with ⟨h2, h3⟩ | ⟨g, cap, cur, h2, h3, h4, h5, h6, h7, h8⟩
  · cases h2
  · simp only [Value.slice.injEq, Option.some.injEq, Addr.mk.injEq, and_true, true_and] at h2
    obtain ⟨rfl, rfl⟩ := h2
    refine ⟨(Array.getElem?_eq_some_iff.1 h4).1, fun k hk => ⟨?_, ?_⟩⟩
    · have := hcell k (.bool false) (by rw [List.getElem?_replicate, if_pos hk])
      rw [Addr.add_lit, Nat.zero_add] at this
      exact this
    · simp only [World.frozen?, h4]
      simp
theorem Mk.set {W : World} {B n k : Nat} {S : List Int} (h : Mk W B n S) (hk : k < n) : Mk (W.setCell ⟨B, k, none⟩ (.bool true)) B n (S ++ [(k : Int)]) := by
  refine ⟨by simpa [World.setCell] using h.1, fun j hj => ⟨?_, ?_⟩⟩
  · by_cases e : j = k
    · subst e
      rw [World.cell?_setCell_same (h := (h.2 j hj).1)]
      simp
    · rw [World.cell?_setCell_other (h := by intro q; exact e (by simpa using q.symm)), (h.2 j hj).1]
      congr 2
      rw [Bool.eq_iff_iff]
      simp
      omega
  · have e := put_frozen [Value.bool true] W B k j
    exact e.trans (h.2 j hj).2
theorem Mk.not {W : World} {B n k : Nat} {S : List Int} (h : Mk W B n S) (hk : k < n) (hS : (k : Int) ∉ S) : W.cell? ⟨B, k, none⟩ = some (.bool false) := by
  rw [(h.2 k hk).1]
  congr 2
  simpa using hS
/-- The numbers that were told lie in a block of their own. -/
theorem ints_at {W : World} {b c i : Nat} {t : TypeId} {ad : Option Addr} {L : List Int} {x : Int} (h : W.ownsRow b t 1 (.slice ad L.length c) L.length (L.map fun z => Value.int .i64 z)) (hx : L[i]? = some x) : ∃ G, ad = some ⟨G, 0, none⟩ ∧ b ≤ G ∧ G < W.heap.size ∧ ∀ j y, L[j]? = some y → W.cell? ⟨G, j, none⟩ = some (.int .i64 y) := by
  have hcell := fun g hg => h.cells (g := g) hg
  obtain ⟨h1, h2⟩ := h
  rcases h2 with ⟨h2, h3⟩ | ⟨g, cap, cur, h2, h3, h4, h5, h6, h7, h8⟩
  · have := get_lt' hx; omega
  · simp only [Value.slice.injEq, true_and] at h2
    obtain ⟨rfl, rfl⟩ := h2
    refine ⟨g, rfl, h3, (Array.getElem?_eq_some_iff.1 h4).1, fun j y hy => ?_⟩
    have := hcell g rfl j (.int .i64 y) (by rw [List.getElem?_map, hy]; rfl)
    rw [Addr.add_lit, Nat.zero_add] at this
    exact this
end Go.Proofs.Ytcfghnffacdekab
