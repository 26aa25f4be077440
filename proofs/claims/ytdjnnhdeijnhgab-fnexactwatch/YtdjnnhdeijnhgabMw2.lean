/-
  The laboratory: no Go in sight.
-/
import Derived.Test.YtdjnnhdeijnhgabMw1
import Derived.Deep.RegionWith
import Derived.WideShapes
import Derived.ProofKit
import Derived.OpenShut
import Derived.ShutString
import Derived.ChangeOld
import Derived.Below
import Derived.Laws.AppendOwn
import Derived.Laws.OwnMore
namespace Go.Proofs.Ytdjnnhdeijnhgab.Lb
open Va
set_option linter.all false

theorem take_snL {α : Type} {l : List α} {i : Nat} {x : α} (h : l[i]? = some x) : l.take (i + 1) = l.take i ++ [x] := by
  rw [List.take_add_one, h]; rfl
theorem get_ltL {α : Type} {l : List α} {i : Nat} {x : α} (h : l[i]? = some x) : i < l.length := (List.getElem?_eq_some_iff.1 h).1

/-- Is a value one? -/
def vlB (x : Int) : Bool := rng x (-100000) 100000
theorem vlB_iff {x : Int} : vlB x = true ↔ -100000 ≤ x ∧ x ≤ 100000 := rng_iff

/- Trusted -/
/-- Whether the trust is gone, and how many noughts stand at the end. -/
def trStep (s : Bool × Int) (c : Int) : Bool × Int :=
  if 1 ≤ c ∧ c ≤ 5 then (true, 0) else if c = 0 then (if 2 ≤ s.2 + 1 then (false, s.2 + 1) else (s.1, s.2 + 1)) else (s.1, 0)
def trOf (l : List Int) : Bool × Int := l.foldl trStep (false, 0)
theorem trOf_snoc (l : List Int) (x : Int) : trOf (l ++ [x]) = trStep (trOf l) x := by simp [trOf]
theorem trOf_take {l : List Int} {i : Nat} {x : Int} (h : l[i]? = some x) : trOf (l.take (i + 1)) = trStep (trOf (l.take i)) x := by
  rw [take_snL h, trOf_snoc]
theorem trStep_bd (s : Bool × Int) (c : Int) (h : 0 ≤ s.2) : 0 ≤ (trStep s c).2 ∧ (trStep s c).2 ≤ s.2 + 1 := by
  unfold trStep
  split
  · exact ⟨Int.le_refl _, by show (0 : Int) ≤ s.2 + 1; omega⟩
  · split
    · split
      · exact ⟨by show (0 : Int) ≤ s.2 + 1; omega, Int.le_refl _⟩
      · exact ⟨by show (0 : Int) ≤ s.2 + 1; omega, Int.le_refl _⟩
    · exact ⟨Int.le_refl _, by show (0 : Int) ≤ s.2 + 1; omega⟩
theorem trOf_bd (l : List Int) (i : Nat) : 0 ≤ (trOf (l.take i)).2 ∧ (trOf (l.take i)).2 ≤ i := by
  induction i with
  | zero => simp [trOf]
  | succ i ih =>
    by_cases h : i < l.length
    · obtain ⟨x, hx⟩ : ∃ x, l[i]? = some x := ⟨_, List.getElem?_eq_getElem h⟩
      rw [trOf_take hx]
      have := trStep_bd (trOf (l.take i)) x ih.1
      constructor
      · exact this.1
      · have := this.2; push_cast; omega
    · have : l.take (i + 1) = l.take i := by rw [List.take_of_length_le (by omega), List.take_of_length_le (by omega)]
      rw [this]; push_cast; omega
def trusted (l : List Int) (a : Int) : Bool := if l.length ≤ 2000 ∧ 0 ≤ a ∧ a < (l.length : Int) then !(trOf (l.take (a.toNat + 1))).1 else false

/- Share -/
def has (l : List Int) (x : Int) : Bool := l.any (fun y => decide (x = y))
theorem has_iff {l : List Int} {x : Int} : has l x = true ↔ x ∈ l := by simp [has]
theorem has_not {l : List Int} {x : Int} (h : has l x = false) : x ∉ l := fun q => by rw [has_iff.2 q] at h; cases h
theorem has_take {l : List Int} {i : Nat} {x y : Int} (h : has (l.take i) x = false) (hy : l[i]? = some y) (hn : x ≠ y) : has (l.take (i + 1)) x = false := by
  rw [List.take_add_one, hy, has, List.any_append]
  rw [has] at h
  rw [h]
  simp [hn]
theorem has_true {l : List Int} {i : Nat} {x : Int} (hx : l[i]? = some x) : has l x = true := has_iff.2 (List.mem_of_getElem? hx)
def nd (needs : List Int) (a : Int) : Int := (needs[a.toNat]?).getD 0
def shStep (needs : List Int) (s : Int × List Int) (a : Int) : Int × List Int := if nd needs a ≤ s.1 then (s.1 - nd needs a, s.2 ++ [a]) else s
def shOf (needs : List Int) (v : Int) (l : List Int) : Int × List Int := l.foldl (shStep needs) (v, [])
theorem shOf_snoc (needs : List Int) (v : Int) (l : List Int) (x : Int) : shOf needs v (l ++ [x]) = shStep needs (shOf needs v l) x := by simp [shOf]
theorem shOf_take {needs : List Int} {v : Int} {l : List Int} {i : Nat} {x : Int} (h : l[i]? = some x) : shOf needs v (l.take (i + 1)) = shStep needs (shOf needs v (l.take i)) x := by
  rw [take_snL h, shOf_snoc]
def NeedsOk (needs : List Int) : Prop := needs.length ≤ 100 ∧ ∀ x ∈ needs, 0 ≤ x ∧ x ≤ 100000
def AsksOk (asks needs : List Int) : Prop := asks.length ≤ 20 ∧ ∀ i a, asks[i]? = some a → (0 ≤ a ∧ a < (needs.length : Int)) ∧ a ∉ asks.take i
noncomputable instance (needs : List Int) : Decidable (NeedsOk needs) := Classical.propDecidable _
noncomputable instance (asks needs : List Int) : Decidable (AsksOk asks needs) := Classical.propDecidable _
theorem not_needs {needs : List Int} {i : Nat} {x : Int} (hx : needs[i]? = some x) (h : ¬ (0 ≤ x ∧ x ≤ 100000)) : ¬ NeedsOk needs := fun q => h (q.2 x (List.mem_of_getElem? hx))
theorem not_asks {asks needs : List Int} {i : Nat} {x : Int} (hx : asks[i]? = some x) (h : ¬ ((0 ≤ x ∧ x < (needs.length : Int)) ∧ x ∉ asks.take i)) : ¬ AsksOk asks needs := fun q => h (q.2 i x hx)
noncomputable def share (v : Int) (asks needs : List Int) : List Int := if (0 ≤ v ∧ v ≤ 100000) ∧ NeedsOk needs ∧ AsksOk asks needs then (shOf needs v asks).2 else []
theorem nd_get {needs : List Int} {a n : Int} (h : needs[a.toNat]? = some n) : nd needs a = n := by simp [nd, h]
theorem nd_bd {needs : List Int} (h : NeedsOk needs) (a : Int) : 0 ≤ nd needs a ∧ nd needs a ≤ 100000 := by
  unfold nd
  cases hc : needs[a.toNat]? with
  | none => simp
  | some n => exact h.2 n (List.mem_of_getElem? hc)
theorem sh_bd {needs : List Int} (hn : NeedsOk needs) {v : Int} (h0 : 0 ≤ v) (h1 : v ≤ 100000) (l : List Int) (i : Nat) : (0 ≤ (shOf needs v (l.take i)).1 ∧ (shOf needs v (l.take i)).1 ≤ 100000) ∧ (shOf needs v (l.take i)).2.length ≤ (l.take i).length := by
  induction i with
  | zero => exact ⟨⟨h0, h1⟩, Nat.zero_le _⟩
  | succ i ih =>
    by_cases h : i < l.length
    · obtain ⟨x, hx⟩ : ∃ x, l[i]? = some x := ⟨_, List.getElem?_eq_getElem h⟩
      rw [shOf_take hx, take_snL hx]
      unfold shStep
      have q := nd_bd hn x
      split
      · rename_i c
        refine ⟨⟨?_, ?_⟩, ?_⟩
        · show 0 ≤ (shOf needs v (l.take i)).1 - nd needs x; omega
        · show (shOf needs v (l.take i)).1 - nd needs x ≤ 100000; omega
        · simp only [List.length_append, List.length_singleton]; omega
      · exact ⟨ih.1, by rw [List.length_append]; omega⟩
    · have : l.take (i + 1) = l.take i := by rw [List.take_of_length_le (by omega), List.take_of_length_le (by omega)]
      rw [this]; exact ih
theorem sh_takebd {needs : List Int} (hn : NeedsOk needs) {v : Int} (h0 : 0 ≤ v) (h1 : v ≤ 100000) (l : List Int) (i : Nat) (hl : l.length ≤ 20) : (0 ≤ (shOf needs v (l.take i)).1 ∧ (shOf needs v (l.take i)).1 ≤ 100000) ∧ (shOf needs v (l.take i)).2.length ≤ 20 := by
  have := sh_bd hn h0 h1 l i
  exact ⟨this.1, by have := this.2; rw [List.length_take] at this; omega⟩
theorem share_len (v : Int) (asks needs : List Int) : (share v asks needs).length ≤ 20 := by
  unfold share
  split
  · rename_i h
    obtain ⟨⟨h0, h1⟩, hn, ha⟩ := h
    have := (sh_bd hn h0 h1 asks asks.length).2
    rw [List.take_length] at this
    have := ha.1
    omega
  · simp

/- Results -/
structure Rs where
  v : Int
  t : Int
  k : Bool
def resB (r : Rs) : Bool := vlB r.v && ((r.k || decide (r.v = 0)) && tmv r.t)
theorem resB_iff {r : Rs} : resB r = true ↔ (-100000 ≤ r.v ∧ r.v ≤ 100000) ∧ (r.k = true ∨ r.v = 0) ∧ (0 ≤ r.t ∧ r.t ≤ 10000000) := by
  simp only [resB, Bool.and_eq_true, vlB_iff, Bool.or_eq_true, decide_eq_true_eq, tmv_iff]
def ResOk (l : List Rs) : Prop := l.length ≤ 2000 ∧ ∀ i r, l[i]? = some r → resB r = true ∧ ∀ p, 0 < i → l[i - 1]? = some p → p.t ≤ r.t
noncomputable instance (l : List Rs) : Decidable (ResOk l) := Classical.propDecidable _
/-- The last known one among the first i. -/
def lastK (l : List Rs) : Nat → Option (Nat × Rs)
  | 0 => none
  | i + 1 => match l[i]? with
    | some r => if r.k then some (i, r) else lastK l i
    | none => lastK l i
theorem lastK_some {l : List Rs} : ∀ {i j : Nat} {p : Rs}, lastK l i = some (j, p) → j < i ∧ l[j]? = some p ∧ p.k = true
  | 0, _, _, h => by cases h
  | i + 1, j, p, h => by
    unfold lastK at h
    split at h
    · rename_i r hr
      split at h
      · rename_i hk
        simp only [Option.some.injEq, Prod.mk.injEq] at h
        obtain ⟨rfl, rfl⟩ := h
        exact ⟨Nat.lt_succ_self _, hr, hk⟩
      · have := lastK_some h; exact ⟨by omega, this.2⟩
    · have := lastK_some h; exact ⟨by omega, this.2⟩
def dlB (m wi : Int) (p r : Rs) : Bool := decide (r.t - p.t ≤ wi) && (decide (m < r.v - p.v) || decide (m < -(r.v - p.v)))
def deltaTo (l : List Rs) (m wi : Int) : Nat → List Int
  | 0 => []
  | i + 1 => match l[i]? with
    | some r => if r.k then (match lastK l i with
        | some p => if dlB m wi p.2 r then deltaTo l m wi i ++ [(i : Int)] else deltaTo l m wi i
        | none => deltaTo l m wi i) else deltaTo l m wi i
    | none => deltaTo l m wi i
theorem lastK_yes {l : List Rs} {i : Nat} {r : Rs} (h : l[i]? = some r) (hk : r.k = true) : lastK l (i + 1) = some (i, r) := by simp [lastK, h, hk]
theorem lastK_no {l : List Rs} {i : Nat} {r : Rs} (h : l[i]? = some r) (hk : r.k = false) : lastK l (i + 1) = lastK l i := by simp [lastK, h, hk]
theorem delta_no {l : List Rs} {m wi : Int} {i : Nat} {r : Rs} (h : l[i]? = some r) (hk : r.k = false) : deltaTo l m wi (i + 1) = deltaTo l m wi i := by simp [deltaTo, h, hk]
theorem delta_none {l : List Rs} {m wi : Int} {i : Nat} {r : Rs} (h : l[i]? = some r) (hp : lastK l i = none) : deltaTo l m wi (i + 1) = deltaTo l m wi i := by simp [deltaTo, h, hp]
theorem delta_some {l : List Rs} {m wi : Int} {i : Nat} {r : Rs} {p : Nat × Rs} (h : l[i]? = some r) (hk : r.k = true) (hp : lastK l i = some p) : deltaTo l m wi (i + 1) = if dlB m wi p.2 r then deltaTo l m wi i ++ [(i : Int)] else deltaTo l m wi i := by simp [deltaTo, h, hk, hp]
theorem delta_len (l : List Rs) (m wi : Int) : ∀ i, (deltaTo l m wi i).length ≤ i
  | 0 => Nat.le_refl _
  | i + 1 => by
    have := delta_len l m wi i
    unfold deltaTo
    split
    · split
      · split
        · split
          · rw [List.length_append, List.length_singleton]; omega
          · omega
        · omega
      · omega
    · omega
noncomputable def delta (l : List Rs) (m wi : Int) : List Int := if ResOk l ∧ 0 ≤ m ∧ 0 ≤ wi then deltaTo l m wi l.length else []
theorem delta_bd (l : List Rs) (m wi : Int) : (delta l m wi).length ≤ 2000 := by
  unfold delta
  split
  · rename_i h; have := h.1.1; have := delta_len l m wi l.length; omega
  · simp

/- Calls -/
def farB (lo hi : Int) (r : Rs) : Bool := r.k && (decide (r.v < lo) || decide (hi < r.v))
/-- The last one that was called out among the first i, and its place. -/
def lastC (l : List Rs) (lo hi : Int) : Nat → Option (Nat × Rs)
  | 0 => none
  | i + 1 => match l[i]? with
    | some r => if farB lo hi r then (match lastC l lo hi i with
        | some p => if r.t - p.2.t < 60 then lastC l lo hi i else some (i, r)
        | none => some (i, r)) else lastC l lo hi i
    | none => lastC l lo hi i
def callsTo (l : List Rs) (lo hi : Int) : Nat → List Int
  | 0 => []
  | i + 1 => match l[i]? with
    | some r => if farB lo hi r then (match lastC l lo hi i with
        | some p => if r.t - p.2.t < 60 then callsTo l lo hi i else callsTo l lo hi i ++ [(i : Int)]
        | none => callsTo l lo hi i ++ [(i : Int)]) else callsTo l lo hi i
    | none => callsTo l lo hi i
theorem calls_no {l : List Rs} {lo hi : Int} {i : Nat} {r : Rs} (h : l[i]? = some r) (hf : farB lo hi r = false) : callsTo l lo hi (i + 1) = callsTo l lo hi i ∧ lastC l lo hi (i + 1) = lastC l lo hi i := by simp [callsTo, lastC, h, hf]
theorem calls_none {l : List Rs} {lo hi : Int} {i : Nat} {r : Rs} (h : l[i]? = some r) (hf : farB lo hi r = true) (hp : lastC l lo hi i = none) : callsTo l lo hi (i + 1) = callsTo l lo hi i ++ [(i : Int)] ∧ lastC l lo hi (i + 1) = some (i, r) := by simp [callsTo, lastC, h, hf, hp]
theorem calls_near {l : List Rs} {lo hi : Int} {i : Nat} {r : Rs} {p : Nat × Rs} (h : l[i]? = some r) (hf : farB lo hi r = true) (hp : lastC l lo hi i = some p) (hn : r.t - p.2.t < 60) : callsTo l lo hi (i + 1) = callsTo l lo hi i ∧ lastC l lo hi (i + 1) = some p := by simp [callsTo, lastC, h, hf, hp, hn]
theorem calls_far {l : List Rs} {lo hi : Int} {i : Nat} {r : Rs} {p : Nat × Rs} (h : l[i]? = some r) (hf : farB lo hi r = true) (hp : lastC l lo hi i = some p) (hn : ¬ r.t - p.2.t < 60) : callsTo l lo hi (i + 1) = callsTo l lo hi i ++ [(i : Int)] ∧ lastC l lo hi (i + 1) = some (i, r) := by simp [callsTo, lastC, h, hf, hp, hn]
theorem calls_len (l : List Rs) (lo hi : Int) : ∀ i, (callsTo l lo hi i).length ≤ i
  | 0 => Nat.le_refl _
  | i + 1 => by
    have := calls_len l lo hi i
    unfold callsTo
    split
    · split
      · split
        · split
          · omega
          · rw [List.length_append, List.length_singleton]; omega
        · rw [List.length_append, List.length_singleton]; omega
      · omega
    · omega
/-- What was called out last stands at the end. -/
theorem calls_last {l : List Rs} {lo hi : Int} : ∀ {i : Nat}, (callsTo l lo hi i = [] ∧ lastC l lo hi i = none) ∨ ∃ (L : List Int) (j : Nat) (p : Rs), callsTo l lo hi i = L ++ [(j : Int)] ∧ lastC l lo hi i = some (j, p) ∧ j < i ∧ l[j]? = some p ∧ p.k = true
  | 0 => Or.inl ⟨rfl, rfl⟩
  | i + 1 => by
    have ih := calls_last (l := l) (lo := lo) (hi := hi) (i := i)
    have up : ((callsTo l lo hi i = [] ∧ lastC l lo hi i = none) ∨ ∃ (L : List Int) (j : Nat) (p : Rs), callsTo l lo hi i = L ++ [(j : Int)] ∧ lastC l lo hi i = some (j, p) ∧ j < i + 1 ∧ l[j]? = some p ∧ p.k = true) := by
      rcases ih with q | ⟨L, j, p, a, b, c, d⟩
      · exact Or.inl q
      · exact Or.inr ⟨L, j, p, a, b, by omega, d⟩
    cases hr : l[i]? with
    | none => simp only [callsTo, lastC, hr]; exact up
    | some r =>
      cases hf : farB lo hi r with
      | false => rw [(calls_no hr hf).1, (calls_no hr hf).2]; exact up
      | true =>
        have hk : r.k = true := by simp only [farB, Bool.and_eq_true] at hf; exact hf.1
        cases hp : lastC l lo hi i with
        | none => rw [(calls_none hr hf hp).1, (calls_none hr hf hp).2]; exact Or.inr ⟨_, i, r, rfl, rfl, Nat.lt_succ_self _, hr, hk⟩
        | some p =>
          by_cases hn : r.t - p.2.t < 60
          · rw [(calls_near hr hf hp hn).1, (calls_near hr hf hp hn).2, ← hp]; exact up
          · rw [(calls_far hr hf hp hn).1, (calls_far hr hf hp hn).2]; exact Or.inr ⟨_, i, r, rfl, rfl, Nat.lt_succ_self _, hr, hk⟩
noncomputable def calls (l : List Rs) (lo hi : Int) : List Int := if ResOk l then callsTo l lo hi l.length else []
theorem calls_bd (l : List Rs) (lo hi : Int) : (calls l lo hi).length ≤ 2000 := by
  unfold calls
  split
  · rename_i h; have := h.1; have := calls_len l lo hi l.length; omega
  · simp
end Go.Proofs.Ytdjnnhdeijnhgab.Lb

/-
  What a type's row says; endings.
-/
namespace Go.Proofs.Ytdjnnhdeijnhgab
open Go.RowKit Va Lb
set_option linter.all false

theorem info_parts {P : Program} {t : TypeId} {z : Value} {n b : Nat} (h : (P.info? t).map (fun i => (i.zero, i.size, i.bytes)) = some (some z, n, b)) : ∃ i, P.info? t = some i ∧ i.zero = some z ∧ i.size = n ∧ i.bytes = b := by
  obtain ⟨i, h1, h2⟩ := Option.map_eq_some_iff.1 h
  simp only [Prod.mk.injEq] at h2
  exact ⟨i, h1, h2.1, h2.2.1, h2.2.2⟩
theorem some_of {α : Type} (l : List α) (i : Nat) (h : i < l.length) : ∃ x, l[i]? = some x := ⟨_, List.getElem?_eq_getElem h⟩
theorem ret_boolT {a b : Bool} (h : a = b) : Ending.returned (.bool a) = .returned (.bool b) := by rw [h]
theorem ret_intT {k : IntKind} {a b : Int} (h : a = b) : Ending.returned (.int k a) = .returned (.int k b) := by rw [h]
end Go.Proofs.Ytdjnnhdeijnhgab

/-
  Structs of any one-cell fields in rows: where they lie, and what is made of them. No program in sight.
-/
namespace Go.Proofs.Ytdjnnhdeijnhgab
open Go.RowKit
set_option linter.all false

section
variable {α : Type} (s : Nat) (cs : α → Nat → Value)

/-- The structs l lie at the slice v. -/
def VRw (w : World) (v : Value) (l : List α) : Prop :=
  ∃ ao cap, v = .slice ao l.length cap ∧ l.length ≤ cap ∧ (l.length = 0 ∨ ∃ b off, ao = some ⟨b, off, none⟩ ∧ b < w.heap.size ∧ ∀ i x, l[i]? = some x → ∀ k, k < s → w.cell? ⟨b, off + i * s + k, none⟩ = some (cs x k))
/-- Block G takes n structs; the first i of l lie there. -/
def VOut (w : World) (G n : Nat) (l : List α) (i : Nat) : Prop :=
  G < w.heap.size ∧ (∀ j, j < n * s → (∃ u, w.cell? ⟨G, j, none⟩ = some u) ∧ w.frozen? ⟨G, j, none⟩ = false) ∧
    ∀ j x, j < i → l[j]? = some x → ∀ k, k < s → w.cell? ⟨G, j * s + k, none⟩ = some (cs x k)
/-- The structs l lie at v, in a block from base on that nobody else holds. -/
def VOwn (w : World) (base : Nat) (v : Value) (l : List α) : Prop :=
  ∃ ao cap, v = .slice ao l.length cap ∧ l.length ≤ cap ∧ (l.length = 0 ∨ ∃ G, ao = some ⟨G, 0, none⟩ ∧ base ≤ G ∧ VOut s cs w G l.length l l.length)
/-- The cells of a row. -/
def vcellsL (l : List α) : List Value := l.flatMap (fun x => (List.range s).map (fun k => cs x k))
end

section
variable {α : Type} {s : Nat} {cs : α → Nat → Value}

theorem VRw.below {w w' : World} {v : Value} {l : List α} (h : VRw s cs w v l) (hb : Below w.heap.size w w') : VRw s cs w' v l := by
  obtain ⟨ao, cap, rfl, hlc, h2⟩ := h
  refine ⟨ao, cap, rfl, hlc, ?_⟩
  rcases h2 with h2 | ⟨b, off, h3, h4, h5⟩
  · exact Or.inl h2
  · exact Or.inr ⟨b, off, h3, Nat.lt_of_lt_of_le h4 hb.size, fun i x hx k hk => (hb.cell (p := ⟨b, off + i * s + k, none⟩) h4).trans (h5 i x hx k hk)⟩
theorem VRw.at {w : World} {ao : Option Addr} {cap : Nat} {n : Nat} {l : List α} (h : VRw s cs w (.slice ao n cap) l) {i : Nat} {x : α} (hx : l[i]? = some x) :
    ∃ b off, ao = some ⟨b, off, none⟩ ∧ b < w.heap.size ∧ ∀ k, k < s → w.cell? ⟨b, off + i * s + k, none⟩ = some (cs x k) := by
  obtain ⟨ao', cap', he, _, h2⟩ := h
  obtain ⟨rfl, rfl, rfl⟩ : ao = ao' ∧ n = l.length ∧ cap = cap' := by simpa using he
  have := get_lt' hx
  rcases h2 with h2 | ⟨b, off, h3, h4, h5⟩
  · omega
  · exact ⟨b, off, h3, h4, fun k hk => h5 i x hx k hk⟩
theorem VRw.form {w : World} {v : Value} {l : List α} (h : VRw s cs w v l) : ∃ ao cap, v = .slice ao l.length cap := by
  obtain ⟨ao, cap, rfl, _, _⟩ := h; exact ⟨ao, cap, rfl⟩
theorem VRw.len {w : World} {ao : Option Addr} {n cap : Nat} {l : List α} (h : VRw s cs w (.slice ao n cap) l) : n = l.length := by
  obtain ⟨ao', cap', he, _, _⟩ := h; simp at he; omega
theorem VRw.cap {w : World} {ao : Option Addr} {n cap : Nat} {l : List α} (h : VRw s cs w (.slice ao n cap) l) : l.length ≤ cap := by
  obtain ⟨ao', cap', he, hc, _⟩ := h; simp at he; omega
theorem VRw.nil (w : World) (ao : Option Addr) (cap : Nat) : VRw s cs w (.slice ao 0 cap) [] := ⟨ao, cap, rfl, Nat.zero_le _, Or.inl rfl⟩
theorem VRw.take {w : World} {ao : Option Addr} {n cap : Nat} {l : List α} (h : VRw s cs w (.slice ao n cap) l) (i c : Nat) (hi : i ≤ l.length) (hc : i ≤ c) : VRw s cs w (.slice ao i c) (l.take i) := by
  obtain ⟨ao', cap', he, _, h2⟩ := h
  obtain ⟨rfl, rfl, rfl⟩ : ao = ao' ∧ n = l.length ∧ cap = cap' := by simpa using he
  have hlen : (l.take i).length = i := by rw [List.length_take]; omega
  refine ⟨ao, c, by rw [hlen], by rw [hlen]; exact hc, ?_⟩
  rcases h2 with h2 | ⟨b, off, h3, h4, h5⟩
  · exact Or.inl (by omega)
  · refine Or.inr ⟨b, off, h3, h4, fun j x hx k hk => h5 j x ?_ k hk⟩
    rw [List.getElem?_take] at hx
    split at hx
    · exact hx
    · cases hx

theorem VOut.below {w w' : World} {G n i : Nat} {l : List α} (h : VOut s cs w G n l i) (hb : Below w.heap.size w w') : VOut s cs w' G n l i :=
  ⟨Nat.lt_of_lt_of_le h.1 hb.size, fun j hj => ⟨by
      obtain ⟨u, hu⟩ := (h.2.1 j hj).1
      exact ⟨u, (hb.cell (p := ⟨G, j, none⟩) h.1).trans hu⟩, (hb.frozen (p := ⟨G, j, none⟩) h.1).trans (h.2.1 j hj).2⟩,
    fun j x hj hx k hk => (hb.cell (p := ⟨G, j * s + k, none⟩) h.1).trans (h.2.2 j x hj hx k hk)⟩

theorem VOut.set {w : World} {G n i : Nat} {l : List α} {x : α} (h : VOut s cs w G n l i) (hi : i < n) (hx : l[i]? = some x) (vs : List Value) (hv : vs.length = s) (hvs : ∀ k, k < s → vs[k]? = some (cs x k)) :
    VOut s cs (put w G (i * s) vs) G n l (i + 1) := by
  obtain ⟨h1, h2, h3⟩ := h
  have hle : i * s + s ≤ n * s := by rw [← Nat.succ_mul]; exact Nat.mul_le_mul_right s hi
  have hnew : ∀ k, k < s → (put w G (i * s) vs).cell? ⟨G, i * s + k, none⟩ = some (cs x k) := fun k hk =>
    put_same vs w G (i * s) (fun j hj => (h2 (i * s + j) (by omega)).1) k _ (hvs k hk)
  refine ⟨by rw [put_size]; exact h1, fun j hj => ⟨?_, by rw [put_frozen]; exact (h2 j hj).2⟩, fun j y hj hy k hk => ?_⟩
  · by_cases a : i * s ≤ j ∧ j < i * s + s
    · have := hnew (j - i * s) (by omega)
      rw [show i * s + (j - i * s) = j by omega] at this
      exact ⟨_, this⟩
    · rw [put_other _ _ _ _ _ (by omega)]; exact (h2 j hj).1
  · by_cases a : j = i
    · subst a; rw [hx] at hy; cases hy; exact hnew k hk
    · have hlt : j * s + s ≤ i * s := by rw [← Nat.succ_mul]; exact Nat.mul_le_mul_right s (by omega)
      rw [put_other _ _ _ _ _ (by omega)]
      exact h3 j y (by omega) hy k hk
theorem VOut.old {w : World} {G n i : Nat} {l : List α} (h : VOut s cs w G n l i) {j : Nat} (hj : j < n) {k : Nat} (hk : k < s) : (∃ u, w.cell? ⟨G, j * s + k, none⟩ = some u) ∧ w.frozen? ⟨G, j * s + k, none⟩ = false := by
  have hle : j * s + s ≤ n * s := by rw [← Nat.succ_mul]; exact Nat.mul_le_mul_right s hj
  exact h.2.1 (j * s + k) (by omega)
theorem VOut.made {w w' : World} {t : TypeId} {z : List Value} {b n : Nat} (l : List α) (h : w'.ownsRow b t s (.slice (some ⟨w.heap.size, 0, none⟩) n n) n z) : VOut s cs w' w.heap.size n l 0 := by
  obtain ⟨h1, h2⟩ := h
  rcases h2 with ⟨h2, h3⟩ | ⟨g, cap, cur, h2, h3, h4, h5, h6, h7, h8⟩
  · cases h2
  · simp only [Value.slice.injEq, Option.some.injEq, Addr.mk.injEq, and_true, true_and] at h2
    obtain ⟨rfl, rfl⟩ := h2
    refine ⟨(Array.getElem?_eq_some_iff.1 h4).1, fun j hj => ⟨?_, ?_⟩, fun j x hj => absurd hj (by omega)⟩
    · have hj' : j < cur.size := by omega
      exact ⟨cur[j], by simp only [World.cell?, h4]; exact Array.getElem?_eq_getElem hj'⟩
    · simp only [World.frozen?, h4]
      simp
theorem VOut.row {w : World} {G : Nat} {l : List α} (h : VOut s cs w G l.length l l.length) (c : Nat) (hc : l.length ≤ c) : VRw s cs w (.slice (some ⟨G, 0, none⟩) l.length c) l :=
  ⟨_, c, rfl, hc, Or.inr ⟨G, 0, rfl, h.1, fun i x hx k hk => by rw [Nat.zero_add]; exact h.2.2 i x (get_lt' hx) hx k hk⟩⟩
theorem VOut.own {w : World} {G base : Nat} {l : List α} (h : VOut s cs w G l.length l l.length) (hG : base ≤ G) (c : Nat) (hc : l.length ≤ c) : VOwn s cs w base (.slice (some ⟨G, 0, none⟩) l.length c) l :=
  ⟨_, c, rfl, hc, Or.inr ⟨G, rfl, hG, h⟩⟩

theorem VOwn.row {w : World} {base : Nat} {v : Value} {l : List α} (h : VOwn s cs w base v l) : VRw s cs w v l := by
  obtain ⟨ao, cap, rfl, hc, h0 | ⟨G, rfl, _, ho⟩⟩ := h
  · exact ⟨ao, cap, rfl, hc, Or.inl h0⟩
  · exact ho.row cap hc
theorem VOwn.below {w w' : World} {base : Nat} {v : Value} {l : List α} (h : VOwn s cs w base v l) (hb : Below w.heap.size w w') : VOwn s cs w' base v l := by
  obtain ⟨ao, cap, rfl, hc, h0 | ⟨G, rfl, hG, ho⟩⟩ := h
  · exact ⟨ao, cap, rfl, hc, Or.inl h0⟩
  · exact ⟨_, cap, rfl, hc, Or.inr ⟨G, rfl, hG, ho.below hb⟩⟩
theorem VOwn.base_le {w : World} {base b2 : Nat} {v : Value} {l : List α} (h : VOwn s cs w base v l) (hb : b2 ≤ base) : VOwn s cs w b2 v l := by
  obtain ⟨ao, cap, rfl, hc, h0 | ⟨G, rfl, hG, ho⟩⟩ := h
  · exact ⟨ao, cap, rfl, hc, Or.inl h0⟩
  · exact ⟨_, cap, rfl, hc, Or.inr ⟨G, rfl, Nat.le_trans hb hG, ho⟩⟩
theorem VOwn.nil (w : World) (b : Nat) (ao : Option Addr) (cap : Nat) : VOwn s cs w b (.slice ao 0 cap) [] := ⟨ao, cap, rfl, Nat.zero_le _, Or.inl rfl⟩

theorem vcellsL_app (l : List α) (x : α) : vcellsL s cs (l ++ [x]) = vcellsL s cs l ++ (List.range s).map (fun k => cs x k) := by simp [vcellsL]
theorem vcellsL_len (l : List α) : (vcellsL s cs l).length = l.length * s := by
  unfold vcellsL
  induction l with
  | nil => simp
  | cons x l ih => rw [List.flatMap_cons, List.length_append, ih]; simp [Nat.succ_mul]; omega
theorem vcellsL_get (l : List α) : ∀ i x, l[i]? = some x → ∀ k, k < s → (vcellsL s cs l)[i * s + k]? = some (cs x k) := by
  induction l with
  | nil => intro i x h; cases h
  | cons y l ih =>
    intro i x h k hk
    show ((List.range s).map (fun k => cs y k) ++ vcellsL s cs l)[i * s + k]? = _
    cases i with
    | zero =>
      simp at h
      subst h
      rw [List.getElem?_append_left (by simp; omega)]
      simp [hk]
    | succ i =>
      have e : (i + 1) * s + k = s + (i * s + k) := by rw [Nat.succ_mul]; omega
      rw [e, List.getElem?_append_right (by simp), List.length_map, List.length_range, Nat.add_sub_cancel_left]
      exact ih i x (by simpa using h) k hk
theorem vout_of {w : World} {base g cap n : Nat} {t : TypeId} {l : List α} (hn : n = l.length) (h : w.ownsRow base t s (.slice (some ⟨g, 0, none⟩) n cap) n (vcellsL s cs l)) : base ≤ g ∧ VOut s cs w g l.length l l.length := by
  subst hn
  obtain ⟨h1, ⟨h2, _⟩ | ⟨g', cap', cur, h2, hb, hg, hc, _, hs, ht⟩⟩ := h
  · cases h2
  · simp only [Value.slice.injEq, Option.some.injEq, Addr.mk.injEq, and_true, true_and] at h2
    obtain ⟨rfl, rfl⟩ := h2
    have hsz : l.length * s ≤ cur.size := by rw [hs]; exact Nat.mul_le_mul_right s hc
    have hcell : ∀ j, j < l.length * s → w.cell? ⟨g, j, none⟩ = (vcellsL s cs l)[j]? := fun j hj => by
      rw [← ht, List.getElem?_take, if_pos hj, Array.getElem?_toList]
      simp only [World.cell?, hg]
      rfl
    refine ⟨hb, (Array.getElem?_eq_some_iff.1 hg).1, fun j hj => ⟨?_, ?_⟩, fun j x _ hx k hk => ?_⟩
    · rw [hcell j hj, List.getElem?_eq_getElem (by rw [vcellsL_len]; exact hj)]
      exact ⟨_, rfl⟩
    · simp only [World.frozen?, hg]
      simp
    · have hj := get_lt' hx
      have hle : j * s + s ≤ l.length * s := by rw [← Nat.succ_mul]; exact Nat.mul_le_mul_right s hj
      rw [hcell _ (by omega)]; exact vcellsL_get l j x hx k hk
theorem vown_of {w : World} {base : Nat} {t : TypeId} {v : Value} {l : List α} {n : Nat} (hn : n = l.length) (h : w.ownsRow base t s v n (vcellsL s cs l)) : VOwn s cs w base v l := by
  have h0 := h
  obtain ⟨h1, ⟨rfl, h2⟩ | ⟨g, cap, cur, rfl, hb, hg, hc, _, hs, ht⟩⟩ := h
  · exact ⟨none, 0, by rw [← hn, h2], by omega, Or.inl (by omega)⟩
  · obtain ⟨h3, h4⟩ := vout_of hn h0
    exact ⟨_, cap, by rw [hn], by omega, Or.inr ⟨g, rfl, h3, h4⟩⟩


/-- The kinds of one cell. -/
inductive Kd where
  | int
  | bool
  | str
def KdOk (k : Kd) (v : Value) : Prop := match k with | .int => ∃ z : Int, v = .int .i64 z | .bool => ∃ b : Bool, v = .bool b | .str => ∃ s : ByteArray, v = .string s ∧ s.size ≤ maxLen
def KdTy (P : Program) (k : Kd) (t : TypeId) : Prop := match k with | .int => P.underlying t = some (.int .i64) | .bool => P.underlying t = some .bool | .str => P.underlying t = some .string
theorem kd_of_trod {H : Type} {enc : TypeId × Value → H} {P : Program} {W : World} {sp : Nat → Bool} {hd : Bool} {b fuel : Nat} {t : TypeId} {cs : List Value} {x : DataW H × List MemPlace} {k : Kd} (ht : KdTy P k t) (h : DataW.trod enc P W b sp hd fuel t cs = some x) : ∃ z, cs = [z] ∧ KdOk k z := by
  cases k with
  | int => obtain ⟨z, hz, _⟩ := DataW.trod_int ht h; exact ⟨_, hz, z, rfl⟩
  | bool => obtain ⟨z, hz, _⟩ := DataW.trod_bool ht h; exact ⟨_, hz, z, rfl⟩
  | str => obtain ⟨z, hz, _, hs⟩ := DataW.trod_string ht h; exact ⟨_, hz, z, rfl, hs⟩
theorem vrows_of_read {H : Type} {enc : TypeId × Value → H} {P : Program} {W : World} {sp : Nat → Bool} {hd : Bool} {t e : TypeId} {fs : Array Field} {ao : Option Addr} {len cap : Nat} {d : DataW H} {p : List MemPlace}
    (kd : Nat → Kd) (mk : (Nat → Value) → α) (hmk : ∀ f, (∀ k, k < s → KdOk (kd k) (f k)) → ∀ k, k < s → cs (mk f) k = f k) (hs0 : 0 < s)
    (ht : P.underlying t = some (.slice e)) (he : P.underlying e = some (.struct fs)) (ce : P.cellsOf e = s)
    (hfs : ∀ k, k < s → ∃ f, fs[k]? = some f ∧ f.offset = k ∧ P.cellsOf f.type = 1 ∧ KdTy P (kd k) f.type) (h : DataW.Trod enc P W 0 sp hd t (.slice ao len cap) d p) :
    ∃ l : List α, l.length = len ∧ len ≤ maxLen ∧ VRw s cs W (.slice ao len cap) l := by
  obtain ⟨fuel, hf⟩ := h
  rcases Deep.open_slice ht hf with ⟨h1, _⟩ | ⟨a, ln, c, m, n, D, Pl, h1, hb, hl, hcm, hm, _, hx⟩
  · simp [Value.cells] at h1
    obtain ⟨rfl, rfl, rfl⟩ := h1
    exact ⟨[], rfl, Nat.zero_le _, none, 0, rfl, Nat.zero_le _, Or.inl rfl⟩
  · simp [Value.cells] at h1
    obtain ⟨rfl, rfl, rfl⟩ := h1
    have hle : len ≤ m := by rw [hm]; split <;> omega
    have hV : ∀ i, i < len → ∃ q : Nat → Value, ∀ k, k < s → W.cell? ((a.add (i * s)).add k) = some (q k) ∧ KdOk (kd k) (q k) := by
      intro i hi
      obtain ⟨cs', h2, h3⟩ := hx i (by omega)
      rw [ce] at h2
      obtain ⟨_, hlen, hcell⟩ := World.cells?_some h2
      obtain ⟨xs, k, hk, hxy, _, hxl, hf⟩ := DataW.trod_struct he h3
      have hq : ∀ k, k < s → ∃ z : Value, W.cell? ((a.add (i * s)).add k) = some z ∧ KdOk (kd k) z := by
        intro k hk
        obtain ⟨f, hf1, hf2, hf3, hf4⟩ := hfs k hk
        have hg := hf k f hf1
        rw [hf2, hf3] at hg
        have hxk : k < xs.length := by rw [hxl]; exact (Array.getElem?_eq_some_iff.1 hf1).1
        rw [List.getElem?_eq_getElem hxk] at hg
        obtain ⟨z, hz, hzk⟩ := kd_of_trod hf4 hg
        refine ⟨z, ?_, hzk⟩
        rw [hcell k hk]
        have hk' : k < cs'.length := by omega
        have : (cs'.drop k).take 1 = [cs'[k]] := by
          rw [List.drop_eq_getElem_cons hk', List.take_succ_cons, List.take_zero]
        rw [this] at hz
        rw [List.getElem?_eq_getElem hk']
        simpa using hz
      obtain ⟨q, hq2⟩ := Deep.choose_lt hq
      exact ⟨q, hq2⟩
    obtain ⟨q, hq⟩ := Deep.choose_lt hV
    refine ⟨(List.range len).map (fun i => mk (q i)), by simp, by omega, some a, cap, by simp, by simpa using hl, ?_⟩
    by_cases h0 : len = 0
    · exact Or.inl (by simp [h0])
    · obtain ⟨b, off, spot⟩ := a
      have hs := (hq 0 (by omega) 0 hs0).1
      have hspot : spot = none := by simpa [Addr.add] using World.cell?_spot hs
      subst hspot
      refine Or.inr ⟨b, off, rfl, World.block_lt_of_cell? W _ (by simpa [Addr.add_lit] using hs), ?_⟩
      intro i x hix k hk
      have hi' : i < len := by simpa using get_lt' hix
      have hx2 : x = mk (q i) := by
        rw [List.getElem?_map, List.getElem?_range hi'] at hix
        simpa using hix.symm
      subst hx2
      have := (hq i hi' k hk).1
      rw [Addr.add_lit, Addr.add_lit] at this
      rw [hmk _ (fun k hk => (hq i hi' k hk).2) _ hk]
      exact this


theorem VOwn.from_base {w : World} {base : Nat} {v : Value} {l : List α} (h : VOwn s cs w base v l) (hn : l.length ≠ 0) : ∀ j, v.ownBlock = some j → base ≤ j := by
  obtain ⟨ao, cap, rfl, _, h0 | ⟨G, rfl, hG, _⟩⟩ := h
  · exact absurd h0 hn
  · intro j hj; cases hj; exact hG
theorem VOut.aside {w w' : World} {G n i : Nat} {l : List α} {v : Value} (h : VOut s cs w G n l i) (ha : Aside w w' v) (hv : v.ownBlock ≠ some G) : VOut s cs w' G n l i := by
  have hb := ha.block G hv
  have hc : ∀ j, w'.cell? ⟨G, j, none⟩ = w.cell? ⟨G, j, none⟩ := fun j => by simp only [World.cell?, hb]
  have hf : ∀ j, w'.frozen? ⟨G, j, none⟩ = w.frozen? ⟨G, j, none⟩ := fun j => by simp only [World.frozen?, hb]
  refine ⟨by rw [ha.size]; exact h.1, fun j hj => ?_, fun j x hj hx k hk => ?_⟩
  · rw [hc, hf]; exact h.2.1 j hj
  · rw [hc]; exact h.2.2 j x hj hx k hk
theorem VOwn.mark_below {w w' w0 : World} {base b0 : Nat} {v : Value} {l : List α} (h : VOwn s cs w base v l) (ha : Aside w w' v) (hz : l.length = 0 → w' = w) (hb : Below b0 w0 w) (h0 : b0 ≤ base) : Below b0 w0 w' := by
  rcases Nat.eq_zero_or_pos l.length with q | q
  · rw [hz q]; exact hb
  · exact ha.below hb (fun j hj => Nat.le_trans h0 (h.from_base (by omega) j hj))
end

/-- Another row stays while this one, which lies ahead of it, is marked. -/
theorem VOwn.mark_own {α β : Type} {s s2 : Nat} {cs : α → Nat → Value} {cs2 : β → Nat → Value} {wx w w' : World} {base b2 : Nat} {v v2 : Value} {l : List α} {l2 : List β} (h : VOwn s cs wx base v l) (hx : wx.heap.size ≤ b2) (ha : Aside w w' v) (hz : l.length = 0 → w' = w) (h2 : VOwn s2 cs2 w b2 v2 l2) : VOwn s2 cs2 w' b2 v2 l2 := by
  rcases Nat.eq_zero_or_pos l.length with q | q
  · rw [hz q]; exact h2
  · obtain ⟨ao, cap, rfl, _, hh⟩ := h
    obtain ⟨G, rfl, hG, ho⟩ := hh.resolve_left (by omega)
    obtain ⟨ao2, cap2, rfl, hc2, h0 | ⟨G2, rfl, hG2, ho2⟩⟩ := h2
    · exact ⟨_, _, rfl, hc2, Or.inl h0⟩
    · refine ⟨_, _, rfl, hc2, Or.inr ⟨G2, rfl, hG2, ho2.aside ha ?_⟩⟩
      intro e
      have e2 : G = G2 := Option.some.inj e
      have := ho.1
      omega
theorem VOwn.mark_apart {β : Type} {s2 : Nat} {cs2 : β → Nat → Value} {w w' : World} {b2 : Nat} {v v2 : Value} {l2 : List β} (hx : Apart v v2) (ha : Aside w w' v) (h2 : VOwn s2 cs2 w b2 v2 l2) : VOwn s2 cs2 w' b2 v2 l2 := by
  obtain ⟨ao2, cap2, rfl, hc2, h0 | ⟨G2, rfl, hG2, ho2⟩⟩ := h2
  · exact ⟨_, _, rfl, hc2, Or.inl h0⟩
  · exact ⟨_, _, rfl, hc2, Or.inr ⟨G2, rfl, hG2, ho2.aside ha (fun e => hx G2 e rfl)⟩⟩


end Go.Proofs.Ytdjnnhdeijnhgab

/-
  Rows in blocks of one's own: what is wanted of them for an append.
-/
namespace Go.Proofs.Ytdjnnhdeijnhgab
open Go.RowKit Va Go.Maps
set_option linter.unusedVariables false

theorem ownW_new (w : World) (t : TypeId) (s : Nat) : (w.alloc (.cells #[] t)).ownsRow w.heap.size t s (.slice (some ⟨w.heap.size, 0, none⟩) 0 0) 0 [] :=
  ⟨by simp, .inr ⟨w.heap.size, 0, #[], rfl, Nat.le_refl _, (MapKept.heap_alloc w _).1, Nat.le_refl _, Nat.zero_le _, by simp, by simp⟩⟩
theorem ownW_lt {w : World} {b e s n : Nat} {v : Value} {xs : List Value} (h : w.ownsRow b e s v n xs) : ∀ k, v.ownBlock = some k → b ≤ k ∧ k < w.heap.size := by
  obtain ⟨_, ⟨rfl, _⟩ | ⟨g, cap, cur, rfl, hb, hh, _⟩⟩ := h
  · intro k hk; cases hk
  · intro k hk
    obtain rfl : g = k := by simpa [Value.ownBlock] using hk
    exact ⟨hb, (Array.getElem?_eq_some_iff.1 hh).1⟩
theorem ownW_slice {w : World} {b e s n : Nat} {v : Value} {xs : List Value} (h : w.ownsRow b e s v n xs) : ∃ ad c, v = .slice ad n c := by
  obtain ⟨_, ⟨rfl, rfl⟩ | ⟨g, cap, cur, rfl, _⟩⟩ := h
  · exact ⟨_, _, rfl⟩
  · exact ⟨_, _, rfl⟩
theorem ownW_below {w w' : World} {b e s n : Nat} {v : Value} {xs : List Value} (h : w.ownsRow b e s v n xs) (hb : Below w.heap.size w w') : w'.ownsRow b e s v n xs := by
  obtain ⟨q, ⟨q1, q2⟩ | ⟨g, c, cur, rfl, hg, hh, r⟩⟩ := h
  · exact ⟨q, Or.inl ⟨q1, q2⟩⟩
  · exact ⟨q, Or.inr ⟨g, c, cur, rfl, hg, (hb.block g (Array.getElem?_eq_some_iff.1 hh).1).trans hh, r⟩⟩
theorem cell_oneW (w : World) (a : Value) (t : TypeId) : ∀ (j : Nat) (u : Value), [a][j]? = some u → (w.alloc (.cells #[a] t)).cell? ((⟨w.heap.size, 0, none⟩ : Addr).add j) = some u := fun j u hu => by
  have e0 : (w.alloc (Obj.cells #[a] t)).heap[w.heap.size]? = some (Obj.cells #[a] t) := (MapKept.heap_alloc w _).1
  rw [Addr.add_lit, Nat.zero_add]
  simp only [World.cell?, e0]
  simpa using hu
theorem info_partsW {P : Program} {t : TypeId} {z : Value} {n b : Nat} (h : (P.info? t).map (fun i => (i.zero, i.size, i.bytes)) = some (some z, n, b)) : ∃ i, P.info? t = some i ∧ i.zero = some z ∧ i.size = n ∧ i.bytes = b := by
  obtain ⟨i, h1, h2⟩ := Option.map_eq_some_iff.1 h
  simp only [Prod.mk.injEq] at h2
  exact ⟨i, h1, h2.1, h2.2.1, h2.2.2⟩
theorem infoW64 : (Try.prog.info? 2).map (fun i => (i.zero, i.size, i.bytes)) = some (some (.int .i64 0), 1, 8) := by kernel_rfl
theorem ownW_base {w : World} {b b' e s n : Nat} {v : Value} {xs : List Value} (h : w.ownsRow b e s v n xs) (hb : b' ≤ b) : w.ownsRow b' e s v n xs := by
  obtain ⟨q, ⟨q1, q2⟩ | ⟨g, c, cur, rfl, hg, r⟩⟩ := h
  · exact ⟨q, Or.inl ⟨q1, q2⟩⟩
  · exact ⟨q, Or.inr ⟨g, c, cur, rfl, Nat.le_trans hb hg, r⟩⟩
end Go.Proofs.Ytdjnnhdeijnhgab
