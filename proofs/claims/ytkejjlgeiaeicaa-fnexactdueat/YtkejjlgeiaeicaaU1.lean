/-
  Charts as the program looks at them: no Go in sight.
-/
import Derived.Test.YtkejjlgeiaeicaaUo
namespace Go.Proofs.Ytkejjlgeiaeicaa.Uo
open Va
set_option linter.all false

/-- Who may give what takes two, and what takes one. -/
def takesB (two : Bool) (b a : Int) : Bool := if two = false then perB b && decide (a = -1) else perB b && (perB a && !decide (b = a))
/-- The order may have that dose. -/
def haveB (o : Od) (d : Ds) : Bool := (decide (0 ≤ d.t) && decide (d.t < o.c)) && (!decide (o.s = 1) && (timB d.m && takesB o.two d.b d.a))
/-- Orders that rise by their numbers. -/
def Ris (os : List Od) : Prop := ∀ (i j : Nat) (x y : Od), i < j → os[i]? = some x → os[j]? = some y → x.id < y.id
/-- The place of a number: what lies ahead is below it, what lies behind is not. -/
def Cut (os : List Od) (id : Int) (k : Nat) : Prop := k ≤ os.length ∧ (∀ (j : Nat) (x : Od), j < k → os[j]? = some x → x.id < id) ∧ ∀ (j : Nat) (x : Od), k ≤ j → os[j]? = some x → id ≤ x.id
def isAt (os : List Od) (id : Int) (k : Nat) : Bool := decide (k < os.length) && decide ((os.getD k default).id = id)

theorem ris_of {os : List Od} (h : ∀ i, i < os.length → okOd os i = true) : Ris os := by
  have step : ∀ i x y, os[i]? = some x → os[i + 1]? = some y → x.id < y.id := by
    intro i x y hx hy
    have hl := (List.getElem?_eq_some_iff.1 hy).1
    have := h (i + 1) hl
    simp only [okOd, Bool.and_eq_true, Bool.or_eq_true, decide_eq_true_eq, Nat.add_sub_cancel, od_getD hx, od_getD hy] at this
    omega
  have : ∀ d i x y, os[i]? = some x → os[i + 1 + d]? = some y → x.id < y.id := by
    intro d
    induction d with
    | zero => intro i x y hx hy; exact step i x y hx hy
    | succ d ih =>
      intro i x y hx hy
      have hl := (List.getElem?_eq_some_iff.1 hy).1
      obtain ⟨z, hz⟩ : ∃ z, os[i + 1 + d]? = some z := ⟨_, List.getElem?_eq_getElem (by omega)⟩
      have h1 := ih i x z hx hz
      have h2 := step (i + 1 + d) z y hz hy
      omega
  intro i j x y hij hx hy
  exact this (j - (i + 1)) i x y hx (by rw [show i + 1 + (j - (i + 1)) = j by omega]; exact hy)

theorem atTo_none {l : List Od} {id : Int} : ∀ n, n ≤ l.length → (∀ j x, j < n → l[j]? = some x → x.id ≠ id) → atTo l id n = -1
  | 0, _, _ => rfl
  | n + 1, hn, h => by
    have ih := atTo_none n (by omega) (fun j x hj hx => h j x (by omega) hx)
    obtain ⟨x, hx⟩ : ∃ x, l[n]? = some x := ⟨_, List.getElem?_eq_getElem (by omega)⟩
    exact atTo_miss hx ih (h n x (by omega) hx)
theorem at_of_cut {os : List Od} {id : Int} {k : Nat} (hr : Ris os) (hc : Cut os id k) (h : isAt os id k = true) : atO os id = (k : Int) ∧ ∃ o, os[k]? = some o ∧ o.id = id := by
  simp only [isAt, Bool.and_eq_true, decide_eq_true_eq] at h
  obtain ⟨x, hx⟩ : ∃ x, os[k]? = some x := ⟨_, List.getElem?_eq_getElem h.1⟩
  have hid : x.id = id := by rw [← h.2, od_getD hx]
  refine ⟨atTo_hit hx (atTo_none k (by omega) (fun j y hj hy => ?_)) hid, x, hx, hid⟩
  have := hc.2.1 j y hj hy
  omega
theorem no_of_cut {os : List Od} {id : Int} {k : Nat} (hr : Ris os) (hc : Cut os id k) (h : isAt os id k = false) : atO os id = -1 := by
  refine atTo_none os.length (Nat.le_refl _) (fun j y hj hy he => ?_)
  by_cases q : j < k
  · have := hc.2.1 j y q hy; omega
  · have hle := hc.2.2 j y (by omega) hy
    by_cases e : j = k
    · subst e
      rw [isAt, od_getD hy, decide_eq_true hj, decide_eq_true he] at h
      cases h
    · obtain ⟨z, hz⟩ : ∃ z, os[k]? = some z := ⟨_, List.getElem?_eq_getElem (by omega)⟩
      have h1 := hr k j z y (by omega) hz hy
      have h2 := hc.2.2 k z (Nat.le_refl _) hz
      omega

theorem haveB_eq {os : List Od} {ds : List Ds} {i k : Nat} {d : Ds} {o : Od} (hd : ds[i]? = some d) (hk : atO os d.o = (k : Int)) (ho : os[k]? = some o) : oneD os ds i = (haveB o d && (decide (i = 0) || decide ((ds.getD (i - 1) default).m ≤ d.m))) := by
  unfold oneD
  simp only
  rw [ds_getD hd, hk, show ((k : Int).toNat) = k from rfl, od_getD ho]
  have e0 : decide ((0 : Int) ≤ (k : Int)) = true := by simp
  rw [e0]
  generalize (decide (i = 0) || decide ((ds.getD (i - 1) default).m ≤ d.m)) = z
  unfold haveB takesB byB
  have er : rng d.t 0 (o.c - 1) = (decide (0 ≤ d.t) && decide (d.t < o.c)) := by
    unfold rng
    congr 1
    by_cases h : d.t < o.c
    · rw [decide_eq_true h, decide_eq_true (by omega)]
    · rw [decide_eq_false h, decide_eq_false (by omega)]
  have es : decide (¬ o.s = 1) = !decide (o.s = 1) := by by_cases h : o.s = 1 <;> simp [h]
  rw [er, es]
  have hp : perB (-1) = false := by decide
  cases o.two with
  | false =>
    by_cases ha : d.a = -1
    · rw [ha]
      simp only [decide_true, if_true, Bool.true_and, Bool.and_true, Bool.true_or]
      cases (decide (0 ≤ d.t) && decide (d.t < o.c)) <;> cases decide (o.s = 1) <;> cases timB d.m <;> cases perB d.b <;> cases z <;> rfl
    · simp only [ha, decide_false, if_true, Bool.true_and, Bool.and_false, Bool.false_or, Bool.false_and]
  | true =>
    simp only [Bool.true_eq_false, if_false, Bool.true_and]
    by_cases ha : d.a = -1
    · rw [ha, hp]
      simp only [not_true, decide_false, Bool.false_and, Bool.and_false]
    · by_cases hb : d.a = d.b
      · rw [hb]
        simp only [not_true, decide_false, decide_true, Bool.not_true, Bool.and_false, Bool.false_and]
      · have hb' : ¬ d.b = d.a := fun e => hb e.symm
        simp only [ha, hb, hb', not_false_eq_true, decide_true, decide_false, Bool.false_or, Bool.not_false, Bool.and_true, Bool.true_and]
        cases (decide (0 ≤ d.t) && decide (d.t < o.c)) <;> cases decide (o.s = 1) <;> cases timB d.m <;> cases perB d.b <;> cases perB d.a <;> cases z <;> rfl
/-- No two doses of one turn. -/
def apartB (ds : List Ds) : Bool := (List.range ds.length).all fun i => (List.range i).all fun j => !sameT ds i j
theorem chart_eq (os : List Od) (ds : List Ds) : chartB os ds = (decide (os.length ≤ 100 ∧ ds.length ≤ 500) && ((List.range os.length).all (okOd os) && ((List.range ds.length).all (oneD os ds) && apartB ds))) := by
  unfold chartB apartB
  congr 2
  rw [Bool.eq_iff_iff]
  simp only [okD, Bool.and_eq_true, List.all_eq_true, List.mem_range]
  constructor
  · intro h; exact ⟨fun i hi => (h i hi).1, fun i hi => (h i hi).2⟩
  · intro h i hi; exact ⟨h.1 i hi, h.2 i hi⟩
end Go.Proofs.Ytkejjlgeiaeicaa.Uo
