/-
  Rows of bools: copies, sameness, as they came in.
-/
import Derived.Test.YthenphbmkmagaaaT2
import Derived.Test.YthenphbmkmagaaaTr2
namespace Go.Proofs.Ythenphbmkmagaaa
open Go.RowKit Go.WideShapes Va Lb El
set_option linter.all false

def cvB (x : Bool) (k : Nat) : Value := .bool x
theorem infoWB : (Try.prog.info? 4).map (fun i => (i.zero, i.size, i.bytes)) = some (some (.bool false), 1, 1) := by kernel_rfl
theorem bool_cell {w : World} {ao : Option Addr} {n cap : Nat} {l : List Bool} {i : Nat} {x : Bool} (h : VRw 1 cvB w (.slice ao n cap) l) (hk : l[i]? = some x) :
    ∃ g off, ao = some ⟨g, off, none⟩ ∧ g < w.heap.size ∧ w.cell? ⟨g, off + i, none⟩ = some (.bool x) := by
  obtain ⟨g, off, h1, h2, h3⟩ := h.at hk
  have := h3 0 (by omega)
  rw [Nat.mul_one, Nat.add_zero] at this
  exact ⟨g, off, h1, h2, this⟩

theorem rwB_of_trod {H : Type} {enc : TypeId × Value → H} {P : Program} {W : World} {sp : Nat → Bool} {hd : Bool} {t e : TypeId} {fuel : Nat} {cs : List Value} {x : DataW H × List MemPlace}
    (ht : P.underlying t = some (.slice e)) (he : P.underlying e = some .bool) (hc : P.cellsOf e = 1) (h : DataW.trod enc P W 0 sp hd fuel t cs = some x) :
    ∃ (tv : Value) (l : List Bool), cs = [tv] ∧ l.length ≤ maxLen ∧ VRw 1 cvB W tv l := by
  rcases Deep.open_slice1 ht hc h with ⟨h1, _⟩ | ⟨a, ln, c, m, n, V, D, Pl, h1, _, hl, hcm, hm, _, hx⟩
  · exact ⟨_, [], h1, by simp, none, 0, rfl, Nat.le_refl _, Or.inl rfl⟩
  · have hle : ln ≤ m := by rw [hm]; split <;> omega
    have hV : ∀ i, i < ln → ∃ z : Bool, W.cell? (a.add i) = some (.bool z) := fun i hi => by
      obtain ⟨k1, k2⟩ := hx i (by omega)
      obtain ⟨z, hz, _⟩ := DataW.trod_bool he k2
      refine ⟨z, ?_⟩
      rw [k1]
      simpa using hz
    obtain ⟨q, hq⟩ := Deep.choose_lt hV
    refine ⟨_, (List.range ln).map q, h1, by simp; omega, some a, c, by simp, by simpa using hl, ?_⟩
    by_cases h0 : ln = 0
    · exact Or.inl (by simp [h0])
    · obtain ⟨b, off, spot⟩ := a
      have hs := hq 0 (by omega)
      have hspot : spot = none := by simpa [Addr.add] using World.cell?_spot hs
      subst hspot
      refine Or.inr ⟨b, off, rfl, World.block_lt_of_cell? W _ (by simpa [Addr.add_lit] using hs), fun i y hy k hk => ?_⟩
      obtain rfl : k = 0 := by omega
      have hi' : i < ln := by simpa using get_lt' hy
      have hy2 : y = q i := by
        rw [List.getElem?_map, List.getElem?_range hi'] at hy
        simpa using hy.symm
      subst hy2
      have := hq i hi'
      rw [Addr.add_lit] at this
      rw [Nat.mul_one, Nat.add_zero]
      exact this

theorem bools_of_read {H : Type} {enc : TypeId × Value → H} {W : World} {sp : Nat → Bool} {hd : Bool} {ao : Option Addr} {n cap : Nat} {d : DataW H} {p : List MemPlace}
    (h : DataW.Trod enc Try.prog W 0 sp hd 25 (.slice ao n cap) d p) : ∃ l : List Bool, l.length = n ∧ n ≤ maxLen ∧ VRw 1 cvB W (.slice ao n cap) l := by
  obtain ⟨fuel, hf⟩ := h
  obtain ⟨tv, l, h1, h2, h3⟩ := rwB_of_trod Try.underlying25 Try.underlying4 (by kernel_rfl) hf
  obtain rfl : Value.slice ao n cap = tv := by simpa [Value.cells] using h1
  obtain rfl := h3.len
  exact ⟨l, rfl, h2, h3⟩
end Go.Proofs.Ythenphbmkmagaaa
