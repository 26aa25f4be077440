/-
  Rows as they came in, their numbers in range.
-/
import Derived.Test.YtbabknhccapaoabRv
namespace Go.Proofs.Ytbabknhccapaoab
open Go.RowKit
set_option linter.all false

section
variable {α : Type} {s : Nat} {cs : α → Nat → Value}
def KdOw (k : Kd) (v : Value) : Prop := match k with | .int => ∃ z : Int, v = .int .i64 z ∧ (Lit.int .i64 z).wf = true | .bool => ∃ b : Bool, v = .bool b | .str => ∃ s : ByteArray, v = .string s ∧ s.size ≤ maxLen
theorem kd_of_trodW {H : Type} {enc : TypeId × Value → H} {P : Program} {W : World} {sp : Nat → Bool} {hd : Bool} {b fuel : Nat} {t : TypeId} {cs : List Value} {x : DataW H × List MemPlace} {k : Kd} (ht : KdTy P k t) (h : DataW.trod enc P W b sp hd fuel t cs = some x) : ∃ z, cs = [z] ∧ KdOw k z := by
  cases k with
  | int => obtain ⟨z, hz, _, hw⟩ := DataW.trod_int ht h; exact ⟨_, hz, z, rfl, hw⟩
  | bool => obtain ⟨z, hz, _⟩ := DataW.trod_bool ht h; exact ⟨_, hz, z, rfl⟩
  | str => obtain ⟨z, hz, _, hs⟩ := DataW.trod_string ht h; exact ⟨_, hz, z, rfl, hs⟩
theorem vrows_of_readW {H : Type} {enc : TypeId × Value → H} {P : Program} {W : World} {sp : Nat → Bool} {hd : Bool} {t e : TypeId} {fs : Array Field} {ao : Option Addr} {len cap : Nat} {d : DataW H} {p : List MemPlace}
    (kd : Nat → Kd) (mk : (Nat → Value) → α) (hmk : ∀ f, (∀ k, k < s → KdOw (kd k) (f k)) → ∀ k, k < s → cs (mk f) k = f k) (hs0 : 0 < s)
    (ht : P.underlying t = some (.slice e)) (he : P.underlying e = some (.struct fs)) (ce : P.cellsOf e = s)
    (hfs : ∀ k, k < s → ∃ f, fs[k]? = some f ∧ f.offset = k ∧ P.cellsOf f.type = 1 ∧ KdTy P (kd k) f.type) (h : DataW.Trod enc P W 0 sp hd t (.slice ao len cap) d p) :
    ∃ l : List α, l.length = len ∧ len ≤ maxLen ∧ VRw s cs W (.slice ao len cap) l ∧ ∀ x ∈ l, ∀ k, k < s → KdOw (kd k) (cs x k) := by
  obtain ⟨fuel, hf⟩ := h
  rcases Deep.open_slice ht hf with ⟨h1, _⟩ | ⟨a, ln, c, m, n, D, Pl, h1, hb, hl, hcm, hm, _, hx⟩
  · simp [Value.cells] at h1
    obtain ⟨rfl, rfl, rfl⟩ := h1
    exact ⟨[], rfl, Nat.zero_le _, ⟨none, 0, rfl, Nat.zero_le _, Or.inl rfl⟩, fun x hx => by cases hx⟩
  · simp [Value.cells] at h1
    obtain ⟨rfl, rfl, rfl⟩ := h1
    have hle : len ≤ m := by rw [hm]; split <;> omega
    have hV : ∀ i, i < len → ∃ q : Nat → Value, ∀ k, k < s → W.cell? ((a.add (i * s)).add k) = some (q k) ∧ KdOw (kd k) (q k) := by
      intro i hi
      obtain ⟨cs', h2, h3⟩ := hx i (by omega)
      rw [ce] at h2
      obtain ⟨_, hlen, hcell⟩ := World.cells?_some h2
      obtain ⟨xs, k, hk, hxy, _, hxl, hf⟩ := DataW.trod_struct he h3
      have hq : ∀ k, k < s → ∃ z : Value, W.cell? ((a.add (i * s)).add k) = some z ∧ KdOw (kd k) z := by
        intro k hk
        obtain ⟨f, hf1, hf2, hf3, hf4⟩ := hfs k hk
        have hg := hf k f hf1
        rw [hf2, hf3] at hg
        have hxk : k < xs.length := by rw [hxl]; exact (Array.getElem?_eq_some_iff.1 hf1).1
        rw [List.getElem?_eq_getElem hxk] at hg
        obtain ⟨z, hz, hzk⟩ := kd_of_trodW hf4 hg
        refine ⟨z, ?_, hzk⟩
        rw [hcell k hk]
        have hk' : k < cs'.length := by omega
        have : (cs'.drop k).take 1 = [cs'[k]] := by
          rw [List.drop_eq_getElem_cons hk', List.take_succ_cons, List.take_zero]
        rw [this] at hz
        rw [List.getElem?_eq_getElem hk']
        simpa using hz
      obtain ⟨q, hq2⟩ := Deep.choose_lt hq
      exact ⟨q, hq2⟩
    obtain ⟨q, hq⟩ := Deep.choose_lt hV
    refine ⟨(List.range len).map (fun i => mk (q i)), by simp, by omega, ⟨some a, cap, by simp, by simpa using hl, ?_⟩, ?_⟩
    · by_cases h0 : len = 0
      · exact Or.inl (by simp [h0])
      · obtain ⟨b, off, spot⟩ := a
        have hs := (hq 0 (by omega) 0 hs0).1
        have hspot : spot = none := by simpa [Addr.add] using World.cell?_spot hs
        subst hspot
        refine Or.inr ⟨b, off, rfl, World.block_lt_of_cell? W _ (by simpa [Addr.add_lit] using hs), ?_⟩
        intro i x hix k hk
        have hi' : i < len := by simpa using get_lt' hix
        have hx2 : x = mk (q i) := by
          rw [List.getElem?_map, List.getElem?_range hi'] at hix
          simpa using hix.symm
        subst hx2
        have := (hq i hi' k hk).1
        rw [Addr.add_lit, Addr.add_lit] at this
        rw [hmk _ (fun k hk => (hq i hi' k hk).2) _ hk]
        exact this
    · intro x hx k hk
      obtain ⟨i, hi, rfl⟩ := List.mem_map.1 hx
      rw [hmk _ (fun k hk => (hq i (List.mem_range.1 hi) k hk).2) _ hk]
      exact (hq i (List.mem_range.1 hi) k hk).2
end
end Go.Proofs.Ytbabknhccapaoab
