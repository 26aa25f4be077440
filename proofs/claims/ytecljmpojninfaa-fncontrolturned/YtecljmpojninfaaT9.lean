/-
  Delta and Calls: the specification's.
-/
import Derived.Test.YtecljmpojninfaaT8
import Derived.Test.YtecljmpojninfaaT9a
namespace Go.Proofs.Ytecljmpojninfaa
open Go.RowKit Va Lb
set_option linter.all false

def lvOf (o : Option (Nat × Rs)) : Int := match o with | none => -1 | some p => (p.1 : Int)
theorem ownW_someT {w : World} {b e n cc : Nat} {ca : Option Addr} {xs : List Value} (h : w.ownsRow b e 1 (.slice ca n cc) n xs) (hn : 0 < n) : ∃ g, ca = some ⟨g, 0, none⟩ ∧ g < w.heap.size ∧ ∀ (j : Nat) (u : Value), xs[j]? = some u → w.cell? ⟨g, j, none⟩ = some u := by
  obtain ⟨hl, ⟨q1, q2⟩ | ⟨g, cap, cur, q1, hg, hh, h5, h6, h7, h8⟩⟩ := h
  · omega
  · simp only [Value.slice.injEq] at q1
    refine ⟨g, q1.1, (Array.getElem?_eq_some_iff.1 hh).1, fun j u hu => ?_⟩
    have hj : j < xs.length := (List.getElem?_eq_some_iff.1 hu).1
    rw [← h8, List.getElem?_take] at hu
    split at hu
    · simp only [World.cell?, hh]
      rw [← Array.getElem?_toList]; exact hu
    · cases hu
theorem res_bd {l : List Rs} (h : ResOk l) {i : Nat} {x : Rs} (hx : l[i]? = some x) : (-100000 ≤ x.v ∧ x.v ≤ 100000) ∧ (0 ≤ x.t ∧ x.t ≤ 10000000) := by
  have := resB_iff.1 (h.2 i x hx).1
  exact ⟨this.1, this.2.2⟩
theorem vownE {W : World} {b : Nat} {R : List Int} (hR : R = []) {v' : Value} {w : World} (hv : v' = .slice (some ⟨w.heap.size, 0, none⟩) 0 0) (hW : W.ownsRow w.heap.size 2 1 (.slice (some ⟨w.heap.size, 0, none⟩) 0 0) 0 []) (hb : Below w.heap.size w W) : ∃ v'', Ending.returned v' = .returned v'' ∧ VOwn 1 cvI W w.heap.size v'' R ∧ Below w.heap.size w W :=
  ⟨v', rfl, by rw [hv, hR]; exact vownI hW, hb⟩
end Go.Proofs.Ytecljmpojninfaa
