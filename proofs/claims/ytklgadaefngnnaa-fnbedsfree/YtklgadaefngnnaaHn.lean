/-
  Plain facts on houses: which beds are free.
-/
import Derived.Test.YtklgadaefngnnaaHm
namespace Go.Proofs.Ytklgadaefngnnaa.Hm

/-- A stay that bars bed b to somebody of this sex. -/
def taken (B : List Bd) (b sex : Int) (s : St) : Bool := here s && (decide (s.bed = b) || (decide (roomAt B s.bed = roomAt B b) && !decide (s.sex = sex)))
def isFr (B : List Bd) (S : List St) (sex need b : Int) : Bool := does (kindAt B b) need && !S.any (taken B b sex)
def freeTo (B : List Bd) (S : List St) (sex need : Int) (n : Nat) : List Int := ((List.range n).map (fun i : Nat => (i : Int))).filter (isFr B S sex need)
def freeL (B : List Bd) (S : List St) (sex need : Int) : List Int := freeTo B S sex need B.length
theorem freeTo_succ (B : List Bd) (S : List St) (sex need : Int) (n : Nat) : freeTo B S sex need (n + 1) = if isFr B S sex need n then freeTo B S sex need n ++ [(n : Int)] else freeTo B S sex need n := by
  unfold freeTo
  rw [List.range_succ, List.map_append, List.filter_append]
  cases h : isFr B S sex need (n : Int) <;> simp [h]
theorem freeTo_len (B : List Bd) (S : List St) (sex need : Int) (n : Nat) : (freeTo B S sex need n).length ≤ n := by
  have := List.length_filter_le (isFr B S sex need) ((List.range n).map (fun i : Nat => (i : Int)))
  simpa [freeTo] using this
theorem mem_free {B : List Bd} {S : List St} {sex need b : Int} : b ∈ freeL B S sex need ↔ (0 ≤ b ∧ b < B.length) ∧ isFr B S sex need b = true := by
  unfold freeL freeTo
  rw [List.mem_filter, List.mem_map]
  constructor
  · rintro ⟨⟨i, hi, rfl⟩, h⟩
    have := List.mem_range.1 hi
    exact ⟨⟨by omega, by omega⟩, h⟩
  · rintro ⟨⟨h0, h1⟩, h⟩
    exact ⟨⟨b.toNat, List.mem_range.2 (by omega), by omega⟩, h⟩
/-- What BedsFree tells. -/
noncomputable def bedsFree (B : List Bd) (S : List St) (sex need : Int) : List Int := if okB B S && sx sex && kd need then freeL B S sex need else []
/-- Those still there have a bed of the house and a sex. -/
def fits (nb : Nat) (S : List St) : Prop := ∀ s ∈ S, here s = true → (0 ≤ s.bed ∧ s.bed < (nb : Int)) ∧ 1 ≤ s.sex ∧ s.sex ≤ 2
theorem fits_of {B : List Bd} {S : List St} (h : staysTo B.length S S.length) : fits B.length S := by
  intro s hs _
  obtain ⟨i, hi⟩ := List.getElem?_of_mem hs
  have := (h i s (get_lt hi) hi).1
  unfold stOk at this
  simp only [Bool.and_eq_true] at this
  exact ⟨inB_iff.1 this.1.1.2, sx_iff.1 this.1.1.1.1.2⟩
end Go.Proofs.Ytklgadaefngnnaa.Hm
