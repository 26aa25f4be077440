/-
  Orders, doses, charts: no Go in sight.
-/
import Derived.Test.YtkejjlgeiaeicaaVa
namespace Go.Proofs.Ytkejjlgeiaeicaa.Uo
open Va
set_option linter.all false

structure Od where
  id : Int
  p : Int
  d : Int
  n : Int
  f : Int
  e : Int
  c : Int
  s : Int
  two : Bool
structure Ds where
  o : Int
  t : Int
  m : Int
  b : Int
  a : Int
structure Du where
  o : Int
  t : Int
  s : Int
def csDs (x : Ds) (k : Nat) : Int := match k with | 0 => x.o | 1 => x.t | 2 => x.m | 3 => x.b | _ => x.a
def csDu (x : Du) (k : Nat) : Int := match k with | 0 => x.o | 1 => x.t | _ => x.s
instance : Inhabited Od := ⟨⟨0, 0, 0, 0, 0, 0, 0, 0, false⟩⟩
instance : Inhabited Ds := ⟨⟨0, 0, 0, 0, 0⟩⟩
def perB (p : Int) : Bool := rng p 0 999
def timB (t : Int) : Bool := rng t 0 10000000
def odB (o : Od) : Bool := rng o.id 1 100000 && (perB o.p && (rng o.d 1 1000 && (rng o.n 1 1000000000 && (timB o.f && (rng o.e 1 1440 && (rng o.c 1 200 && rng o.s 1 4))))))
/-- The place of the order of that number, or -1. -/
def atTo (l : List Od) (id : Int) : Nat → Int
  | 0 => -1
  | n + 1 => if 0 ≤ atTo l id n then atTo l id n else if (l.getD n default).id = id then (n : Int) else -1
def atO (l : List Od) (id : Int) : Int := atTo l id l.length
theorem od_getD {l : List Od} {i : Nat} {x : Od} (h : l[i]? = some x) : l.getD i default = x := by rw [List.getD_eq_getElem?_getD, h]; rfl
theorem ds_getD {l : List Ds} {i : Nat} {x : Ds} (h : l[i]? = some x) : l.getD i default = x := by rw [List.getD_eq_getElem?_getD, h]; rfl
theorem atTo_bd (l : List Od) (id : Int) : ∀ n, -1 ≤ atTo l id n ∧ atTo l id n < (n : Int)
  | 0 => by simp [atTo]
  | n + 1 => by
    have := atTo_bd l id n
    unfold atTo
    split
    · omega
    · split <;> omega
theorem atTo_mono (l : List Od) (id : Int) {n : Nat} (h : 0 ≤ atTo l id n) : ∀ k, atTo l id (n + k) = atTo l id n
  | 0 => rfl
  | k + 1 => by
    have e := atTo_mono l id h k
    rw [← Nat.add_assoc, atTo, e, if_pos h]
theorem atTo_hit {l : List Od} {id : Int} {i : Nat} {x : Od} (hx : l[i]? = some x) (h0 : atTo l id i = -1) (h : x.id = id) : atO l id = (i : Int) := by
  have h1 : atTo l id (i + 1) = (i : Int) := by rw [atTo, h0, od_getD hx]; simp [h]
  have hl := (List.getElem?_eq_some_iff.1 hx).1
  have := atTo_mono l id (n := i + 1) (by rw [h1]; omega) (l.length - (i + 1))
  unfold atO
  rw [show l.length = i + 1 + (l.length - (i + 1)) by omega, this, h1]
theorem atTo_miss {l : List Od} {id : Int} {i : Nat} {x : Od} (hx : l[i]? = some x) (h0 : atTo l id i = -1) (h : ¬ x.id = id) : atTo l id (i + 1) = -1 := by
  rw [atTo, h0, od_getD hx]; simp [h]
theorem atTo_in (l : List Od) (id : Int) : ∀ n (k : Nat), n ≤ l.length → atTo l id n = (k : Int) → ∃ x, l[k]? = some x ∧ x.id = id
  | 0, k, _, h => by simp only [atTo] at h; omega
  | n + 1, k, hn, h => by
    unfold atTo at h
    split at h
    · exact atTo_in l id n k (by omega) h
    · split at h
      · rename_i q
        obtain rfl : n = k := by omega
        exact ⟨l[n]'(by omega), List.getElem?_eq_getElem (by omega), by rw [od_getD (List.getElem?_eq_getElem (show n < l.length by omega))] at q; exact q⟩
      · omega
theorem atO_in {l : List Od} {id : Int} {k : Nat} (h : atO l id = (k : Int)) : ∃ x, l[k]? = some x ∧ x.id = id := atTo_in l id l.length k (Nat.le_refl _) h
theorem atO_bd (l : List Od) (id : Int) : -1 ≤ atO l id ∧ atO l id < (l.length : Int) := atTo_bd l id l.length
/-- The second person is told where it takes two, and is another. -/
def byB (two : Bool) (b a : Int) : Bool := if two = false then decide (a = -1) else decide (¬ a = -1) && decide (¬ a = b)
def okOd (l : List Od) (i : Nat) : Bool := odB (l.getD i default) && (decide (i = 0) || decide ((l.getD (i - 1) default).id < (l.getD i default).id))
def sameT (l : List Ds) (i j : Nat) : Bool := decide ((l.getD j default).o = (l.getD i default).o) && decide ((l.getD j default).t = (l.getD i default).t)
/-- The dose at place i, alone. -/
def oneD (os : List Od) (ds : List Ds) (i : Nat) : Bool :=
  let d := ds.getD i default
  let o := os.getD (atO os d.o).toNat default
  decide (0 ≤ atO os d.o) && (decide (¬ o.s = 1) && (rng d.t 0 (o.c - 1) && (timB d.m && (perB d.b && ((decide (d.a = -1) || perB d.a) && (byB o.two d.b d.a && (decide (i = 0) || decide ((ds.getD (i - 1) default).m ≤ d.m))))))))
def okD (os : List Od) (ds : List Ds) (i : Nat) : Bool := oneD os ds i && (List.range i).all fun j => !sameT ds i j
def chartB (os : List Od) (ds : List Ds) : Bool := decide (os.length ≤ 100 ∧ ds.length ≤ 500) && ((List.range os.length).all (okOd os) && (List.range ds.length).all (okD os ds))
theorem chart_no1 {os : List Od} {ds : List Ds} (h : ¬ (os.length ≤ 100 ∧ ds.length ≤ 500)) : chartB os ds = false := by simp [chartB, h]
theorem chart_no2 {os : List Od} {ds : List Ds} {i : Nat} (hi : i < os.length) (h : okOd os i = false) : chartB os ds = false := by
  have : (List.range os.length).all (okOd os) = false := by rw [List.all_eq_false]; exact ⟨i, List.mem_range.2 hi, by simp [h]⟩
  simp [chartB, this]
theorem chart_no3 {os : List Od} {ds : List Ds} {i : Nat} (hi : i < ds.length) (h : okD os ds i = false) : chartB os ds = false := by
  have : (List.range ds.length).all (okD os ds) = false := by rw [List.all_eq_false]; exact ⟨i, List.mem_range.2 hi, by simp [h]⟩
  simp [chartB, this]
theorem chart_yes {os : List Od} {ds : List Ds} (h : os.length ≤ 100 ∧ ds.length ≤ 500) (h1 : ∀ i, i < os.length → okOd os i = true) (h2 : ∀ i, i < ds.length → okD os ds i = true) : chartB os ds = true := by
  simp only [chartB, Bool.and_eq_true, decide_eq_true_eq, List.all_eq_true, List.mem_range]
  exact ⟨h, h1, h2⟩
theorem chart_iff {os : List Od} {ds : List Ds} : chartB os ds = true ↔ (os.length ≤ 100 ∧ ds.length ≤ 500) ∧ (∀ i, i < os.length → okOd os i = true) ∧ ∀ i, i < ds.length → okD os ds i = true := by
  simp only [chartB, Bool.and_eq_true, decide_eq_true_eq, List.all_eq_true, List.mem_range]
end Go.Proofs.Ytkejjlgeiaeicaa.Uo
