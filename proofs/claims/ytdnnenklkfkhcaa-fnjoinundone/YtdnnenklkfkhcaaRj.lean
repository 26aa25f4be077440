/-
  A row of joins that came in, read.
-/
import Derived.Test.YtdnnenklkfkhcaaTj
import Derived.ProofKit
import Derived.OpenShut
import Derived.ShutString
import Derived.ChangeOld
import Derived.Below
import Derived.Deep.Slices
import Derived.Deep.SlicePairs
import Derived.Lib.SmallJoins
namespace Go.Proofs.Ytdnnenklkfkhcaa
open Go.RowKit Jn

theorem joins_of_read {H : Type} {enc : TypeId × Value → H} {P : Program} {W : World} {sp : Nat → Bool} {hd : Bool} {t e : TypeId} {f0 f1 : Field} {ao : Option Addr} {len cap : Nat} {d : DataW H} {p : List MemPlace}
    (ht : P.underlying t = some (.slice e)) (he : P.underlying e = some (.struct #[f0, f1])) (ce : P.cellsOf e = 2) (o0 : f0.offset = 0) (o1 : f1.offset = 1) (c0 : P.cellsOf f0.type = 1) (c1 : P.cellsOf f1.type = 1)
    (u0 : P.underlying f0.type = some (.int .i64)) (u1 : P.underlying f1.type = some (.int .i64)) (h : DataW.Trod enc P W 0 sp hd t (.slice ao len cap) d p) :
    ∃ l : List J, l.length = len ∧ len ≤ maxLen ∧ JRow W (.slice ao len cap) l := by
  obtain ⟨fuel, hf⟩ := h
  rcases Deep.open_slice_pairs ht he ce o0 o1 c0 c1 hf with ⟨h1, _⟩ | ⟨a, l, c, m, n, V0, V1, D0, D1, P0, P1, h1, _, hl, hcm, hm, _, hx⟩
  · simp [Value.cells] at h1
    obtain ⟨rfl, rfl, rfl⟩ := h1
    exact ⟨[], rfl, Nat.zero_le _, none, 0, rfl, Or.inl rfl⟩
  · simp [Value.cells] at h1
    obtain ⟨rfl, rfl, rfl⟩ := h1
    have hle : len ≤ m := by rw [hm]; split <;> omega
    have hV : ∀ i, i < len → ∃ q : Int × Int, V0 i = .int .i64 q.1 ∧ V1 i = .int .i64 q.2 := by
      intro i hi
      obtain ⟨_, _, h2, h3⟩ := hx i (by omega)
      obtain ⟨a0, e0, _⟩ := DataW.trod_int u0 h2
      obtain ⟨a1, e1, _⟩ := DataW.trod_int u1 h3
      simp at e0 e1
      exact ⟨(a0, a1), e0, e1⟩
    obtain ⟨q, hq⟩ := Deep.choose_lt hV
    refine ⟨(List.range len).map q, by simp, by omega, some a, cap, by simp, ?_⟩
    by_cases h0 : len = 0
    · exact Or.inl (by simp [h0])
    · obtain ⟨b, off, spot⟩ := a
      have hs := (hx 0 (by omega)).1
      have hspot : spot = none := by simpa [Addr.add] using World.cell?_spot hs
      subst hspot
      refine Or.inr ⟨b, off, rfl, World.block_lt_of_cell? W _ (by simpa [Addr.add_lit] using hs), ?_⟩
      intro i hi
      have hi' : i < len := by simpa using hi
      obtain ⟨h2, h3, _, _⟩ := hx i (by omega)
      rw [Addr.add_lit] at h2 h3
      obtain ⟨e0, e1⟩ := hq i hi'
      have e : ((List.range len).map q).getD i (0, 0) = q i := by
        rw [List.getD_eq_getElem?_getD, List.getElem?_map, List.getElem?_range hi']; rfl
      rw [e, ← e0, ← e1]
      exact ⟨h2, by rw [Nat.add_assoc]; exact h3⟩
end Go.Proofs.Ytdnnenklkfkhcaa
