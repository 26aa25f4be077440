/-
  The law's own helpers on rows of numbers: sameness, markings.
-/
import Derived.Test.YtbabknhccapaoaaRw
import Derived.Test.YtbabknhccapaoaaT0
import Derived.Test.YtbabknhccapaoaaRv
import Derived.Test.YtbabknhccapaoaaGw
import Derived.Deep.RegionWith
import Derived.Deep.Slices
namespace Go.Proofs.Ytbabknhccapaoaa
open Go.RowKit Va Lb
set_option linter.all false

def csI (x : Int) (k : Nat) : Int := x
theorem int_cell {cs : Int → Nat → Int} {w : World} {ao : Option Addr} {n cap : Nat} {l : List Int} {i : Nat} {x : Int} (h : Rw 1 cs w (.slice ao n cap) l) (hk : l[i]? = some x) :
    ∃ g off, ao = some ⟨g, off, none⟩ ∧ g < w.heap.size ∧ w.cell? ⟨g, off + i, none⟩ = some (.int .i64 (cs x 0)) := by
  obtain ⟨g, off, h1, h2, h3⟩ := h.at hk
  have := h3 0 (by omega)
  rw [Nat.mul_one, Nat.add_zero] at this
  exact ⟨g, off, h1, h2, this⟩



theorem cellsI (L : List Int) : cellsL 1 csI L = L.map fun z => Value.int .i64 z := by
  induction L with
  | nil => rfl
  | cons a L ih =>
    have e : cellsL 1 csI (a :: L) = .int .i64 a :: cellsL 1 csI L := rfl
    rw [e, ih]
    rfl
theorem ownI {w : World} {base : Nat} {v : Value} {L : List Int} (h : w.ownsRow base 2 1 v L.length (L.map fun z => Value.int .i64 z)) : Own 1 csI w base v L := own_of rfl (by rw [cellsI]; exact h)

theorem rwI_of_trod {H : Type} {enc : TypeId × Value → H} {P : Program} {W : World} {sp : Nat → Bool} {hd : Bool} {t e : TypeId} {fuel : Nat} {cs : List Value} {x : DataW H × List MemPlace}
    (ht : P.underlying t = some (.slice e)) (he : P.underlying e = some (.int .i64)) (hc : P.cellsOf e = 1) (h : DataW.trod enc P W 0 sp hd fuel t cs = some x) :
    ∃ (tv : Value) (l : List Int), cs = [tv] ∧ l.length ≤ maxLen ∧ Rw 1 csI W tv l := by
  rcases Deep.open_slice1 ht hc h with ⟨h1, _⟩ | ⟨a, ln, c, m, n, V, D, Pl, h1, _, hl, hcm, hm, _, hx⟩
  · exact ⟨_, [], h1, by simp, none, 0, rfl, Nat.le_refl _, Or.inl rfl⟩
  · have hle : ln ≤ m := by rw [hm]; split <;> omega
    have hV : ∀ i, i < ln → ∃ z : Int, W.cell? (a.add i) = some (.int .i64 z) := fun i hi => by
      obtain ⟨k1, k2⟩ := hx i (by omega)
      obtain ⟨z, hz, _⟩ := DataW.trod_int he k2
      refine ⟨z, ?_⟩
      rw [k1]
      simpa using hz
    obtain ⟨q, hq⟩ := Deep.choose_lt hV
    refine ⟨_, (List.range ln).map q, h1, by simp; omega, some a, c, by simp, by simpa using hl, ?_⟩
    by_cases h0 : ln = 0
    · exact Or.inl (by simp [h0])
    · obtain ⟨b, off, spot⟩ := a
      have hs := hq 0 (by omega)
      have hspot : spot = none := by simpa [Addr.add] using World.cell?_spot hs
      subst hspot
      refine Or.inr ⟨b, off, rfl, World.block_lt_of_cell? W _ (by simpa [Addr.add_lit] using hs), fun i y hy k hk => ?_⟩
      obtain rfl : k = 0 := by omega
      have hi' : i < ln := by simpa using get_lt' hy
      have hy2 : y = q i := by
        rw [List.getElem?_map, List.getElem?_range hi'] at hy
        simpa using hy.symm
      subst hy2
      have := hq i hi'
      rw [Addr.add_lit] at this
      rw [Nat.mul_one, Nat.add_zero]
      exact this

theorem ints_of_read {H : Type} {enc : TypeId × Value → H} {W : World} {sp : Nat → Bool} {hd : Bool} {ao : Option Addr} {n cap : Nat} {d : DataW H} {p : List MemPlace}
    (h : DataW.Trod enc Try.prog W 0 sp hd 33 (.slice ao n cap) d p) : ∃ l : List Int, l.length = n ∧ n ≤ maxLen ∧ Rw 1 csI W (.slice ao n cap) l := by
  obtain ⟨fuel, hf⟩ := h
  obtain ⟨tv, l, h1, h2, h3⟩ := rwI_of_trod Try.underlying33 Try.underlying2 (by kernel_rfl) hf
  obtain rfl : Value.slice ao n cap = tv := by simpa [Value.cells] using h1
  obtain rfl := h3.len
  exact ⟨l, rfl, h2, h3⟩

def cvI (x : Int) (k : Nat) : Value := .int .i64 x

theorem vints_of_read {H : Type} {enc : TypeId × Value → H} {W : World} {sp : Nat → Bool} {hd : Bool} {ao : Option Addr} {n cap : Nat} {d : DataW H} {p : List MemPlace}
    (h : DataW.Trod enc Try.prog W 0 sp hd 33 (.slice ao n cap) d p) : ∃ l : List Int, l.length = n ∧ n ≤ maxLen ∧ VRw 1 cvI W (.slice ao n cap) l := ints_of_read h

theorem vownI {w : World} {base : Nat} {v : Value} {L : List Int} (h : w.ownsRow base 2 1 v L.length (L.map fun z => Value.int .i64 z)) : VOwn 1 cvI w base v L := ownI h
theorem vint_cell {w : World} {ao : Option Addr} {n cap : Nat} {l : List Int} {i : Nat} {x : Int} (h : VRw 1 cvI w (.slice ao n cap) l) (hk : l[i]? = some x) :
    ∃ g off, ao = some ⟨g, off, none⟩ ∧ g < w.heap.size ∧ w.cell? ⟨g, off + i, none⟩ = some (.int .i64 x) := int_cell (cs := csI) h hk
end Go.Proofs.Ytbabknhccapaoaa
