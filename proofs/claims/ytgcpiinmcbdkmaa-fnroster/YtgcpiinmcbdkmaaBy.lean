/-
  A slice of bytes that came in, read.
-/
import Derived.Test.YtgcpiinmcbdkmaaCuA
import Derived.ProofKit
import Derived.OpenShut
import Derived.ShutString
import Derived.ChangeOld
import Derived.Below
import Derived.Deep.Slices
namespace Go.Proofs.Ytgcpiinmcbdkmaa
open Go.RowKit

/-- A slice of bytes that came in, read: its elements. -/
theorem bytes_of_read {H : Type} {enc : TypeId × Value → H} {P : Program} {W : World} {sp : Nat → Bool} {hd : Bool} {t e : TypeId} {ao : Option Addr} {len cap : Nat} {d : DataW H} {p : List MemPlace}
    (ht : P.underlying t = some (.slice e)) (he : P.underlying e = some (.int .u8)) (hc : P.cellsOf e = 1) (h : DataW.Trod enc P W 0 sp hd t (.slice ao len cap) d p) :
    ∃ bs : List Int, bs.length = len ∧ Bytes W W.heap.size ao bs := by
  obtain ⟨fuel, hf⟩ := h
  rcases Deep.open_slice1 ht hc hf with ⟨h1, _⟩ | ⟨a, l, c, m, n, V, D, Pl, h1, _, hl, _, hm, _, hx⟩
  · simp [Value.cells] at h1
    obtain ⟨rfl, rfl, rfl⟩ := h1
    exact ⟨[], rfl, by simp, Or.inl rfl⟩
  · simp [Value.cells] at h1
    obtain ⟨rfl, rfl, rfl⟩ := h1
    have hle : len ≤ m := by rw [hm]; split <;> omega
    have hV : ∀ i, i < len → ∃ x : Int, V i = .int .u8 x ∧ 0 ≤ x ∧ x ≤ 255 := by
      intro i hi
      obtain ⟨_, h2⟩ := hx i (by omega)
      cases n with
      | zero => simp [DataW.trod] at h2
      | succ n =>
        simp only [DataW.trod, he] at h2
        cases hv : V i with
        | int k b =>
          rw [hv] at h2
          by_cases q : k = .u8 ∧ (Lit.int .u8 b).wf = true
          · obtain ⟨rfl, q2⟩ := q
            refine ⟨b, rfl, ?_⟩
            have q3 : (decide (IntKind.u8.min ≤ b) && decide (b ≤ IntKind.u8.max)) = true := q2
            have e1 : IntKind.u8.min = 0 := by decide
            have e2 : IntKind.u8.max = 255 := by decide
            rw [e1, e2] at q3
            simpa using q3
          · simp [q] at h2
        | _ => rw [hv] at h2; simp at h2
    refine ⟨(List.range len).map (fun i => match V i with | .int _ b => b | _ => 0), by simp, ?_, ?_⟩
    · intro x hxm
      obtain ⟨i, hi, rfl⟩ := List.mem_map.1 hxm
      obtain ⟨y, hy, h0, h1⟩ := hV i (List.mem_range.1 hi)
      simp only [hy]
      exact ⟨h0, h1⟩
    · by_cases h0 : len = 0
      · exact Or.inl (by simp [h0])
      · obtain ⟨b, off, spot⟩ := a
        have hs := (hx 0 (by omega)).1
        have hspot : spot = none := by simpa [Addr.add] using World.cell?_spot hs
        subst hspot
        refine Or.inr ⟨b, off, rfl, World.block_lt_of_cell? W _ (by simpa [Addr.add] using hs), ?_⟩
        intro i hi
        have hi' : i < len := by simpa using hi
        have h2 := (hx i (by omega)).1
        obtain ⟨x, hxv, _⟩ := hV i hi'
        rw [hxv] at h2
        have h3 : W.cell? ⟨b, off + i, none⟩ = some (.int .u8 x) := by
          by_cases q : i = 0
          · subst q; simpa [Addr.add] using h2
          · simpa [Addr.add, q] using h2
        rw [h3]
        simp [hi', hxv]
end Go.Proofs.Ytgcpiinmcbdkmaa
