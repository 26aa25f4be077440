/-
  Criteria: no Go in sight.
-/
import Derived.Test.YthenphbmkmagaaaVa
namespace Go.Proofs.Ythenphbmkmagaaa.El
open Va
set_option linter.all false

structure Cr where
  f : Int
  lo : Int
  hi : Int
  must : Bool

/-- Is the value known, and from low to high? -/
def isB (v : List Int) (k : List Bool) (c : Cr) : Bool := (k[c.f.toNat]?.getD false) && rng (v[c.f.toNat]?.getD 0) c.lo c.hi
def holdsB (v : List Int) (k : List Bool) (c : Cr) : Bool := isB v k c == c.must
def fieldB (v : List Int) (c : Cr) : Bool := rng c.f 0 ((v.length : Int) - 1)
def fieldsTo (v : List Int) (cs : List Cr) (i : Nat) : Prop := ∀ c ∈ cs.take i, fieldB v c = true
theorem fieldsTo_zero (v : List Int) (cs : List Cr) : fieldsTo v cs 0 := by intro c hc; simp at hc
theorem fieldsTo_succ {v : List Int} {cs : List Cr} {i : Nat} {x : Cr} (hx : cs[i]? = some x) (h : fieldsTo v cs i) (h0 : fieldB v x = true) : fieldsTo v cs (i + 1) := by
  intro c hc
  rw [List.take_add_one, hx] at hc
  rcases List.mem_append.1 hc with hc | hc
  · exact h c hc
  · simp at hc; rw [hc]; exact h0
theorem fieldsTo_all {v : List Int} {cs : List Cr} {i : Nat} (h : fieldsTo v cs i) (hi : cs.length ≤ i) : ∀ c ∈ cs, fieldB v c = true := by
  intro c hc
  refine h c ?_
  rwa [List.take_of_length_le hi]
/-- The place of the first that does not hold, and one. -/
def scan (v : List Int) (k : List Bool) : List Cr → Int → Int
  | [], _ => 0
  | c :: cs, i => if holdsB v k c = true then scan v k cs (i + 1) else i + 1
/-- Can it be asked? -/
def askB (v : List Int) (k : List Bool) (cs : List Cr) : Bool := decide (v.length = k.length) && (decide (v.length ≤ 20) && (decide (cs.length ≤ 200) && cs.all (fieldB v)))
theorem askB_iff {v : List Int} {k : List Bool} {cs : List Cr} : askB v k cs = true ↔ v.length = k.length ∧ v.length ≤ 20 ∧ cs.length ≤ 200 ∧ ∀ c ∈ cs, fieldB v c = true := by
  simp [askB]
def eligible (v : List Int) (k : List Bool) (cs : List Cr) : Int := if askB v k cs = true then scan v k cs 0 else -1
theorem scan_drop {v : List Int} {k : List Bool} {cs : List Cr} {i : Nat} {c : Cr} (h : cs[i]? = some c) (j : Int) : scan v k (cs.drop i) j = if holdsB v k c = true then scan v k (cs.drop (i + 1)) (j + 1) else j + 1 := by
  obtain ⟨hi, rfl⟩ := List.getElem?_eq_some_iff.1 h
  rw [List.drop_eq_getElem_cons hi]
  rfl
theorem scan_rng (v : List Int) (k : List Bool) : ∀ (cs : List Cr) (i : Int), 0 ≤ i → scan v k cs i = 0 ∨ (i < scan v k cs i ∧ scan v k cs i ≤ i + cs.length)
  | [], i, _ => Or.inl rfl
  | c :: cs, i, h => by
    unfold scan
    split
    · rcases scan_rng v k cs (i + 1) (by omega) with h1 | h1
      · exact Or.inl h1
      · exact Or.inr (by simp; omega)
    · exact Or.inr (by simp; omega)
theorem scan_zero (v : List Int) (k : List Bool) : ∀ (cs : List Cr) (i : Int), 0 ≤ i → (scan v k cs i = 0 ↔ ∀ c ∈ cs, holdsB v k c = true)
  | [], i, _ => by simp [scan]
  | c :: cs, i, h => by
    unfold scan
    split
    · rename_i hc
      rw [scan_zero v k cs (i + 1) (by omega)]
      simp [hc]
    · rename_i hc
      constructor
      · intro e; omega
      · intro e; exact absurd (e c (by simp)) hc
theorem scan_app (v : List Int) (k : List Bool) (ds : List Cr) : ∀ (cs : List Cr) (i : Int), 0 ≤ i → scan v k (cs ++ ds) i = if scan v k cs i = 0 then scan v k ds (i + cs.length) else scan v k cs i
  | [], i, _ => by simp [scan]
  | c :: cs, i, h => by
    show (if holdsB v k c = true then scan v k (cs ++ ds) (i + 1) else i + 1) = if (if holdsB v k c = true then scan v k cs (i + 1) else i + 1) = 0 then _ else (if holdsB v k c = true then scan v k cs (i + 1) else i + 1)
    by_cases hc : holdsB v k c = true
    · rw [if_pos hc, if_pos hc, scan_app v k ds cs (i + 1) (by omega)]
      simp only [List.length_cons]
      rw [show i + 1 + (cs.length : Int) = i + ((cs.length + 1 : Nat) : Int) by omega]
    · rw [if_neg hc, if_neg hc, if_neg (by omega)]
/-- The first that does not hold. -/
theorem scan_at (v : List Int) (k : List Bool) : ∀ (cs : List Cr) (i : Int), 0 ≤ i → scan v k cs i ≠ 0 → ∃ (p : Nat) (c : Cr), scan v k cs i = i + p + 1 ∧ cs[p]? = some c ∧ holdsB v k c = false ∧ ∀ q d, q < p → cs[q]? = some d → holdsB v k d = true
  | [], i, _, h => absurd rfl h
  | c :: cs, i, h0, h => by
    unfold scan at h ⊢
    by_cases hc : holdsB v k c = true
    · rw [if_pos hc] at h ⊢
      obtain ⟨p, d, h1, h2, h3, h4⟩ := scan_at v k cs (i + 1) (by omega) h
      refine ⟨p + 1, d, by omega, by simpa using h2, h3, fun q e hq he => ?_⟩
      cases q with
      | zero => simp at he; rw [← he]; exact hc
      | succ q => exact h4 q e (by omega) (by simpa using he)
    · rw [if_neg hc]
      refine ⟨0, c, by omega, rfl, by simpa using hc, fun q e hq => absurd hq (by omega)⟩
theorem eligible_one {v : List Int} {k : List Bool} {cs : List Cr} (h : askB v k cs = true) {c : Cr} (hc : c ∈ cs) : eligible v k [c] = if holdsB v k c = true then 0 else 1 := by
  obtain ⟨h1, h2, h3, h4⟩ := askB_iff.1 h
  have : askB v k [c] = true := askB_iff.2 ⟨h1, h2, by simp, by simpa using h4 c hc⟩
  unfold eligible
  rw [if_pos this]
  simp [scan]
theorem eligible_nn {v : List Int} {k : List Bool} {cs : List Cr} (h : ¬ eligible v k cs < 0) : askB v k cs = true ∧ eligible v k cs = scan v k cs 0 := by
  unfold eligible at h ⊢
  by_cases q : askB v k cs = true
  · rw [if_pos q]; exact ⟨q, rfl⟩
  · rw [if_neg q] at h; omega
theorem eligible_rng (v : List Int) (k : List Bool) (cs : List Cr) (hl : cs.length ≤ 1048576) : -1 ≤ eligible v k cs ∧ eligible v k cs ≤ cs.length := by
  unfold eligible
  split
  · rcases scan_rng v k cs 0 (by omega) with h | h <;> omega
  · omega
/-- One that can't hold. -/
def never : Cr := ⟨0, 1, 0, true⟩
theorem never_not (v : List Int) (k : List Bool) : holdsB v k never = false := by
  have : rng (v[(0 : Int).toNat]?.getD 0) 1 0 = false := by
    cases hq : rng (v[(0 : Int).toNat]?.getD 0) 1 0 with
    | false => rfl
    | true => have := rng_iff.1 hq; omega
  unfold holdsB isB never
  simp only [this]
  simp
theorem eligible_more {v : List Int} {k : List Bool} {cs : List Cr} (h : askB v k cs = true) (hv : 1 ≤ v.length) (hl : cs.length ≤ 199) : eligible v k (cs ++ [never]) = if scan v k cs 0 = 0 then (cs.length : Int) + 1 else scan v k cs 0 := by
  obtain ⟨h1, h2, h3, h4⟩ := askB_iff.1 h
  have hf : fieldB v never = true := by unfold fieldB never; exact rng_iff.2 ⟨by show (0:Int) ≤ 0; omega, by show (0:Int) ≤ _; omega⟩
  have : askB v k (cs ++ [never]) = true := askB_iff.2 ⟨h1, h2, by simp; omega, fun c hc => by
    rcases List.mem_append.1 hc with hc | hc
    · exact h4 c hc
    · simp at hc; rw [hc]; exact hf⟩
  unfold eligible
  rw [if_pos this, scan_app _ _ _ _ _ (by omega)]
  have e : scan v k [never] (0 + (cs.length : Int)) = (cs.length : Int) + 1 := by
    unfold scan
    rw [never_not]
    simp
  rw [e]
end Go.Proofs.Ythenphbmkmagaaa.El
