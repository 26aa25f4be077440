/-
  The laboratory: no Go in sight.
-/
import Derived.Test.YtdjnnhdeijnhgabMq1
import Derived.Deep.RegionWith
import Derived.WideShapes
import Derived.ProofKit
import Derived.OpenShut
import Derived.ShutString
import Derived.ChangeOld
import Derived.Below
namespace Go.Proofs.Ytdjnnhdeijnhgab.Lb
open Va
set_option linter.all false

theorem take_snL {α : Type} {l : List α} {i : Nat} {x : α} (h : l[i]? = some x) : l.take (i + 1) = l.take i ++ [x] := by
  rw [List.take_add_one, h]; rfl
theorem get_ltL {α : Type} {l : List α} {i : Nat} {x : α} (h : l[i]? = some x) : i < l.length := (List.getElem?_eq_some_iff.1 h).1

/-- Is a value one? -/
def vlB (x : Int) : Bool := rng x (-100000) 100000
theorem vlB_iff {x : Int} : vlB x = true ↔ -100000 ≤ x ∧ x ≤ 100000 := rng_iff

/- Trusted -/
/-- Whether the trust is gone, and how many noughts stand at the end. -/
def trStep (s : Bool × Int) (c : Int) : Bool × Int :=
  if 1 ≤ c ∧ c ≤ 5 then (true, 0) else if c = 0 then (if 2 ≤ s.2 + 1 then (false, s.2 + 1) else (s.1, s.2 + 1)) else (s.1, 0)
def trOf (l : List Int) : Bool × Int := l.foldl trStep (false, 0)
theorem trOf_snoc (l : List Int) (x : Int) : trOf (l ++ [x]) = trStep (trOf l) x := by simp [trOf]
theorem trOf_take {l : List Int} {i : Nat} {x : Int} (h : l[i]? = some x) : trOf (l.take (i + 1)) = trStep (trOf (l.take i)) x := by
  rw [take_snL h, trOf_snoc]
theorem trStep_bd (s : Bool × Int) (c : Int) (h : 0 ≤ s.2) : 0 ≤ (trStep s c).2 ∧ (trStep s c).2 ≤ s.2 + 1 := by
  unfold trStep
  split
  · exact ⟨Int.le_refl _, by show (0 : Int) ≤ s.2 + 1; omega⟩
  · split
    · split
      · exact ⟨by show (0 : Int) ≤ s.2 + 1; omega, Int.le_refl _⟩
      · exact ⟨by show (0 : Int) ≤ s.2 + 1; omega, Int.le_refl _⟩
    · exact ⟨Int.le_refl _, by show (0 : Int) ≤ s.2 + 1; omega⟩
theorem trOf_bd (l : List Int) (i : Nat) : 0 ≤ (trOf (l.take i)).2 ∧ (trOf (l.take i)).2 ≤ i := by
  induction i with
  | zero => simp [trOf]
  | succ i ih =>
    by_cases h : i < l.length
    · obtain ⟨x, hx⟩ : ∃ x, l[i]? = some x := ⟨_, List.getElem?_eq_getElem h⟩
      rw [trOf_take hx]
      have := trStep_bd (trOf (l.take i)) x ih.1
      constructor
      · exact this.1
      · have := this.2; push_cast; omega
    · have : l.take (i + 1) = l.take i := by rw [List.take_of_length_le (by omega), List.take_of_length_le (by omega)]
      rw [this]; push_cast; omega
def trusted (l : List Int) (a : Int) : Bool := if l.length ≤ 2000 ∧ 0 ≤ a ∧ a < (l.length : Int) then !(trOf (l.take (a.toNat + 1))).1 else false

/- Share -/
def has (l : List Int) (x : Int) : Bool := l.any (fun y => decide (x = y))
theorem has_iff {l : List Int} {x : Int} : has l x = true ↔ x ∈ l := by simp [has]
theorem has_not {l : List Int} {x : Int} (h : has l x = false) : x ∉ l := fun q => by rw [has_iff.2 q] at h; cases h
theorem has_take {l : List Int} {i : Nat} {x y : Int} (h : has (l.take i) x = false) (hy : l[i]? = some y) (hn : x ≠ y) : has (l.take (i + 1)) x = false := by
  rw [List.take_add_one, hy, has, List.any_append]
  rw [has] at h
  rw [h]
  simp [hn]
theorem has_true {l : List Int} {i : Nat} {x : Int} (hx : l[i]? = some x) : has l x = true := has_iff.2 (List.mem_of_getElem? hx)
def nd (needs : List Int) (a : Int) : Int := (needs[a.toNat]?).getD 0
def shStep (needs : List Int) (s : Int × List Int) (a : Int) : Int × List Int := if nd needs a ≤ s.1 then (s.1 - nd needs a, s.2 ++ [a]) else s
def shOf (needs : List Int) (v : Int) (l : List Int) : Int × List Int := l.foldl (shStep needs) (v, [])
theorem shOf_snoc (needs : List Int) (v : Int) (l : List Int) (x : Int) : shOf needs v (l ++ [x]) = shStep needs (shOf needs v l) x := by simp [shOf]
theorem shOf_take {needs : List Int} {v : Int} {l : List Int} {i : Nat} {x : Int} (h : l[i]? = some x) : shOf needs v (l.take (i + 1)) = shStep needs (shOf needs v (l.take i)) x := by
  rw [take_snL h, shOf_snoc]
def NeedsOk (needs : List Int) : Prop := needs.length ≤ 100 ∧ ∀ x ∈ needs, 0 ≤ x ∧ x ≤ 100000
def AsksOk (asks needs : List Int) : Prop := asks.length ≤ 20 ∧ ∀ i a, asks[i]? = some a → (0 ≤ a ∧ a < (needs.length : Int)) ∧ a ∉ asks.take i
noncomputable instance (needs : List Int) : Decidable (NeedsOk needs) := Classical.propDecidable _
noncomputable instance (asks needs : List Int) : Decidable (AsksOk asks needs) := Classical.propDecidable _
theorem not_needs {needs : List Int} {i : Nat} {x : Int} (hx : needs[i]? = some x) (h : ¬ (0 ≤ x ∧ x ≤ 100000)) : ¬ NeedsOk needs := fun q => h (q.2 x (List.mem_of_getElem? hx))
theorem not_asks {asks needs : List Int} {i : Nat} {x : Int} (hx : asks[i]? = some x) (h : ¬ ((0 ≤ x ∧ x < (needs.length : Int)) ∧ x ∉ asks.take i)) : ¬ AsksOk asks needs := fun q => h (q.2 i x hx)
noncomputable def share (v : Int) (asks needs : List Int) : List Int := if (0 ≤ v ∧ v ≤ 100000) ∧ NeedsOk needs ∧ AsksOk asks needs then (shOf needs v asks).2 else []
theorem nd_get {needs : List Int} {a n : Int} (h : needs[a.toNat]? = some n) : nd needs a = n := by simp [nd, h]
theorem nd_bd {needs : List Int} (h : NeedsOk needs) (a : Int) : 0 ≤ nd needs a ∧ nd needs a ≤ 100000 := by
  unfold nd
  cases hc : needs[a.toNat]? with
  | none => simp
  | some n => exact h.2 n (List.mem_of_getElem? hc)
theorem sh_bd {needs : List Int} (hn : NeedsOk needs) {v : Int} (h0 : 0 ≤ v) (h1 : v ≤ 100000) (l : List Int) (i : Nat) : (0 ≤ (shOf needs v (l.take i)).1 ∧ (shOf needs v (l.take i)).1 ≤ 100000) ∧ (shOf needs v (l.take i)).2.length ≤ (l.take i).length := by
  induction i with
  | zero => exact ⟨⟨h0, h1⟩, Nat.zero_le _⟩
  | succ i ih =>
    by_cases h : i < l.length
    · obtain ⟨x, hx⟩ : ∃ x, l[i]? = some x := ⟨_, List.getElem?_eq_getElem h⟩
      rw [shOf_take hx, take_snL hx]
      unfold shStep
      have q := nd_bd hn x
      split
      · rename_i c
        refine ⟨⟨?_, ?_⟩, ?_⟩
        · show 0 ≤ (shOf needs v (l.take i)).1 - nd needs x; omega
        · show (shOf needs v (l.take i)).1 - nd needs x ≤ 100000; omega
        · simp only [List.length_append, List.length_singleton]; omega
      · exact ⟨ih.1, by rw [List.length_append]; omega⟩
    · have : l.take (i + 1) = l.take i := by rw [List.take_of_length_le (by omega), List.take_of_length_le (by omega)]
      rw [this]; exact ih
theorem sh_takebd {needs : List Int} (hn : NeedsOk needs) {v : Int} (h0 : 0 ≤ v) (h1 : v ≤ 100000) (l : List Int) (i : Nat) (hl : l.length ≤ 20) : (0 ≤ (shOf needs v (l.take i)).1 ∧ (shOf needs v (l.take i)).1 ≤ 100000) ∧ (shOf needs v (l.take i)).2.length ≤ 20 := by
  have := sh_bd hn h0 h1 l i
  exact ⟨this.1, by have := this.2; rw [List.length_take] at this; omega⟩
theorem share_len (v : Int) (asks needs : List Int) : (share v asks needs).length ≤ 20 := by
  unfold share
  split
  · rename_i h
    obtain ⟨⟨h0, h1⟩, hn, ha⟩ := h
    have := (sh_bd hn h0 h1 asks asks.length).2
    rw [List.take_length] at this
    have := ha.1
    omega
  · simp

/- Results -/
structure Rs where
  v : Int
  t : Int
  k : Bool
def resB (r : Rs) : Bool := vlB r.v && ((r.k || decide (r.v = 0)) && tmv r.t)
theorem resB_iff {r : Rs} : resB r = true ↔ (-100000 ≤ r.v ∧ r.v ≤ 100000) ∧ (r.k = true ∨ r.v = 0) ∧ (0 ≤ r.t ∧ r.t ≤ 10000000) := by
  simp only [resB, Bool.and_eq_true, vlB_iff, Bool.or_eq_true, decide_eq_true_eq, tmv_iff]
def ResOk (l : List Rs) : Prop := l.length ≤ 2000 ∧ ∀ i r, l[i]? = some r → resB r = true ∧ ∀ p, 0 < i → l[i - 1]? = some p → p.t ≤ r.t
noncomputable instance (l : List Rs) : Decidable (ResOk l) := Classical.propDecidable _
/-- The last known one among the first i. -/
def lastK (l : List Rs) : Nat → Option (Nat × Rs)
  | 0 => none
  | i + 1 => match l[i]? with
    | some r => if r.k then some (i, r) else lastK l i
    | none => lastK l i
theorem lastK_some {l : List Rs} : ∀ {i j : Nat} {p : Rs}, lastK l i = some (j, p) → j < i ∧ l[j]? = some p ∧ p.k = true
  | 0, _, _, h => by cases h
  | i + 1, j, p, h => by
    unfold lastK at h
    split at h
    · rename_i r hr
      split at h
      · rename_i hk
        simp only [Option.some.injEq, Prod.mk.injEq] at h
        obtain ⟨rfl, rfl⟩ := h
        exact ⟨Nat.lt_succ_self _, hr, hk⟩
      · have := lastK_some h; exact ⟨by omega, this.2⟩
    · have := lastK_some h; exact ⟨by omega, this.2⟩
def dlB (m wi : Int) (p r : Rs) : Bool := decide (r.t - p.t ≤ wi) && (decide (m < r.v - p.v) || decide (m < -(r.v - p.v)))
def deltaTo (l : List Rs) (m wi : Int) : Nat → List Int
  | 0 => []
  | i + 1 => match l[i]? with
    | some r => if r.k then (match lastK l i with
        | some p => if dlB m wi p.2 r then deltaTo l m wi i ++ [(i : Int)] else deltaTo l m wi i
        | none => deltaTo l m wi i) else deltaTo l m wi i
    | none => deltaTo l m wi i
theorem lastK_yes {l : List Rs} {i : Nat} {r : Rs} (h : l[i]? = some r) (hk : r.k = true) : lastK l (i + 1) = some (i, r) := by simp [lastK, h, hk]
theorem lastK_no {l : List Rs} {i : Nat} {r : Rs} (h : l[i]? = some r) (hk : r.k = false) : lastK l (i + 1) = lastK l i := by simp [lastK, h, hk]
theorem delta_no {l : List Rs} {m wi : Int} {i : Nat} {r : Rs} (h : l[i]? = some r) (hk : r.k = false) : deltaTo l m wi (i + 1) = deltaTo l m wi i := by simp [deltaTo, h, hk]
theorem delta_none {l : List Rs} {m wi : Int} {i : Nat} {r : Rs} (h : l[i]? = some r) (hp : lastK l i = none) : deltaTo l m wi (i + 1) = deltaTo l m wi i := by simp [deltaTo, h, hp]
theorem delta_some {l : List Rs} {m wi : Int} {i : Nat} {r : Rs} {p : Nat × Rs} (h : l[i]? = some r) (hk : r.k = true) (hp : lastK l i = some p) : deltaTo l m wi (i + 1) = if dlB m wi p.2 r then deltaTo l m wi i ++ [(i : Int)] else deltaTo l m wi i := by simp [deltaTo, h, hk, hp]
theorem delta_len (l : List Rs) (m wi : Int) : ∀ i, (deltaTo l m wi i).length ≤ i
  | 0 => Nat.le_refl _
  | i + 1 => by
    have := delta_len l m wi i
    unfold deltaTo
    split
    · split
      · split
        · split
          · rw [List.length_append, List.length_singleton]; omega
          · omega
        · omega
      · omega
    · omega
noncomputable def delta (l : List Rs) (m wi : Int) : List Int := if ResOk l ∧ 0 ≤ m ∧ 0 ≤ wi then deltaTo l m wi l.length else []
theorem delta_bd (l : List Rs) (m wi : Int) : (delta l m wi).length ≤ 2000 := by
  unfold delta
  split
  · rename_i h; have := h.1.1; have := delta_len l m wi l.length; omega
  · simp

/- Calls -/
def farB (lo hi : Int) (r : Rs) : Bool := r.k && (decide (r.v < lo) || decide (hi < r.v))
/-- The last one that was called out among the first i, and its place. -/
def lastC (l : List Rs) (lo hi : Int) : Nat → Option (Nat × Rs)
  | 0 => none
  | i + 1 => match l[i]? with
    | some r => if farB lo hi r then (match lastC l lo hi i with
        | some p => if r.t - p.2.t < 60 then lastC l lo hi i else some (i, r)
        | none => some (i, r)) else lastC l lo hi i
    | none => lastC l lo hi i
def callsTo (l : List Rs) (lo hi : Int) : Nat → List Int
  | 0 => []
  | i + 1 => match l[i]? with
    | some r => if farB lo hi r then (match lastC l lo hi i with
        | some p => if r.t - p.2.t < 60 then callsTo l lo hi i else callsTo l lo hi i ++ [(i : Int)]
        | none => callsTo l lo hi i ++ [(i : Int)]) else callsTo l lo hi i
    | none => callsTo l lo hi i
theorem calls_no {l : List Rs} {lo hi : Int} {i : Nat} {r : Rs} (h : l[i]? = some r) (hf : farB lo hi r = false) : callsTo l lo hi (i + 1) = callsTo l lo hi i ∧ lastC l lo hi (i + 1) = lastC l lo hi i := by simp [callsTo, lastC, h, hf]
theorem calls_none {l : List Rs} {lo hi : Int} {i : Nat} {r : Rs} (h : l[i]? = some r) (hf : farB lo hi r = true) (hp : lastC l lo hi i = none) : callsTo l lo hi (i + 1) = callsTo l lo hi i ++ [(i : Int)] ∧ lastC l lo hi (i + 1) = some (i, r) := by simp [callsTo, lastC, h, hf, hp]
theorem calls_near {l : List Rs} {lo hi : Int} {i : Nat} {r : Rs} {p : Nat × Rs} (h : l[i]? = some r) (hf : farB lo hi r = true) (hp : lastC l lo hi i = some p) (hn : r.t - p.2.t < 60) : callsTo l lo hi (i + 1) = callsTo l lo hi i ∧ lastC l lo hi (i + 1) = some p := by simp [callsTo, lastC, h, hf, hp, hn]
theorem calls_far {l : List Rs} {lo hi : Int} {i : Nat} {r : Rs} {p : Nat × Rs} (h : l[i]? = some r) (hf : farB lo hi r = true) (hp : lastC l lo hi i = some p) (hn : ¬ r.t - p.2.t < 60) : callsTo l lo hi (i + 1) = callsTo l lo hi i ++ [(i : Int)] ∧ lastC l lo hi (i + 1) = some (i, r) := by simp [callsTo, lastC, h, hf, hp, hn]
theorem calls_len (l : List Rs) (lo hi : Int) : ∀ i, (callsTo l lo hi i).length ≤ i
  | 0 => Nat.le_refl _
  | i + 1 => by
    have := calls_len l lo hi i
    unfold callsTo
    split
    · split
      · split
        · split
          · omega
          · rw [List.length_append, List.length_singleton]; omega
        · rw [List.length_append, List.length_singleton]; omega
      · omega
    · omega
/-- What was called out last stands at the end. -/
theorem calls_last {l : List Rs} {lo hi : Int} : ∀ {i : Nat}, (callsTo l lo hi i = [] ∧ lastC l lo hi i = none) ∨ ∃ (L : List Int) (j : Nat) (p : Rs), callsTo l lo hi i = L ++ [(j : Int)] ∧ lastC l lo hi i = some (j, p) ∧ j < i ∧ l[j]? = some p ∧ p.k = true
  | 0 => Or.inl ⟨rfl, rfl⟩
  | i + 1 => by
    have ih := calls_last (l := l) (lo := lo) (hi := hi) (i := i)
    have up : ((callsTo l lo hi i = [] ∧ lastC l lo hi i = none) ∨ ∃ (L : List Int) (j : Nat) (p : Rs), callsTo l lo hi i = L ++ [(j : Int)] ∧ lastC l lo hi i = some (j, p) ∧ j < i + 1 ∧ l[j]? = some p ∧ p.k = true) := by
      rcases ih with q | ⟨L, j, p, a, b, c, d⟩
      · exact Or.inl q
      · exact Or.inr ⟨L, j, p, a, b, by omega, d⟩
    cases hr : l[i]? with
    | none => simp only [callsTo, lastC, hr]; exact up
    | some r =>
      cases hf : farB lo hi r with
      | false => rw [(calls_no hr hf).1, (calls_no hr hf).2]; exact up
      | true =>
        have hk : r.k = true := by simp only [farB, Bool.and_eq_true] at hf; exact hf.1
        cases hp : lastC l lo hi i with
        | none => rw [(calls_none hr hf hp).1, (calls_none hr hf hp).2]; exact Or.inr ⟨_, i, r, rfl, rfl, Nat.lt_succ_self _, hr, hk⟩
        | some p =>
          by_cases hn : r.t - p.2.t < 60
          · rw [(calls_near hr hf hp hn).1, (calls_near hr hf hp hn).2, ← hp]; exact up
          · rw [(calls_far hr hf hp hn).1, (calls_far hr hf hp hn).2]; exact Or.inr ⟨_, i, r, rfl, rfl, Nat.lt_succ_self _, hr, hk⟩
noncomputable def calls (l : List Rs) (lo hi : Int) : List Int := if ResOk l then callsTo l lo hi l.length else []
theorem calls_bd (l : List Rs) (lo hi : Int) : (calls l lo hi).length ≤ 2000 := by
  unfold calls
  split
  · rename_i h; have := h.1; have := calls_len l lo hi l.length; omega
  · simp
end Go.Proofs.Ytdjnnhdeijnhgab.Lb

/-
  What a type's row says; endings.
-/
namespace Go.Proofs.Ytdjnnhdeijnhgab
open Go.RowKit Va Lb
set_option linter.all false

theorem info_parts {P : Program} {t : TypeId} {z : Value} {n b : Nat} (h : (P.info? t).map (fun i => (i.zero, i.size, i.bytes)) = some (some z, n, b)) : ∃ i, P.info? t = some i ∧ i.zero = some z ∧ i.size = n ∧ i.bytes = b := by
  obtain ⟨i, h1, h2⟩ := Option.map_eq_some_iff.1 h
  simp only [Prod.mk.injEq] at h2
  exact ⟨i, h1, h2.1, h2.2.1, h2.2.2⟩
theorem some_of {α : Type} (l : List α) (i : Nat) (h : i < l.length) : ∃ x, l[i]? = some x := ⟨_, List.getElem?_eq_getElem h⟩
theorem ret_boolT {a b : Bool} (h : a = b) : Ending.returned (.bool a) = .returned (.bool b) := by rw [h]
theorem ret_intT {k : IntKind} {a b : Int} (h : a = b) : Ending.returned (.int k a) = .returned (.int k b) := by rw [h]
end Go.Proofs.Ytdjnnhdeijnhgab
