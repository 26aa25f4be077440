/-
  Plain facts on minutes and places.
-/
import Derived.Test.YtklgadaefngnnaaHn
namespace Go.Proofs.Ytklgadaefngnnaa.Hm

def endBy (t til : Int) : Int := if til = -1 then t else if til < t then til else t
def minuteOf (p t : Int) (s : St) : Int := if s.person = p ∧ s.frm < t then endBy t s.til - s.frm else 0
def minsL (p t : Int) (l : List St) : Int := (l.map (minuteOf p t)).sum
theorem minsL_snoc (p t : Int) (l : List St) (x : St) : minsL p t (l ++ [x]) = minsL p t l + minuteOf p t x := by simp [minsL]
theorem minute_bd {n : Nat} {p t : Int} {s : St} (h : stOk n s = true) (ht : t ≤ 10000000) : 0 ≤ minuteOf p t s ∧ minuteOf p t s ≤ 10000000 := by
  unfold stOk toOk tm at h
  simp only [Bool.and_eq_true, Bool.or_eq_true, decide_eq_true_eq] at h
  unfold minuteOf endBy
  split
  · split
    · omega
    · split <;> omega
  · omega
theorem mins_bd {n : Nat} {p t : Int} (ht : t ≤ 10000000) (l : List St) (h : ∀ s ∈ l, stOk n s = true) : 0 ≤ minsL p t l ∧ minsL p t l ≤ 10000000 * (l.length : Int) := by
  induction l with
  | nil => simp [minsL]
  | cons s l ih =>
    have h1 := minute_bd (p := p) (h s (by simp)) ht
    have h2 := ih (fun x hx => h x (by simp [hx]))
    have e : minsL p t (s :: l) = minuteOf p t s + minsL p t l := by simp [minsL]
    rw [e, List.length_cons]
    omega
theorem ok_mem {B : List Bd} {S : List St} (h : staysTo B.length S S.length) : ∀ s ∈ S, stOk B.length s = true := by
  intro s hs
  obtain ⟨i, hi⟩ := List.getElem?_of_mem hs
  exact (h i s (get_lt hi) hi).1
theorem mins_take {B : List Bd} {S : List St} (h : staysTo B.length S S.length) {p t : Int} (ht : t ≤ 10000000) (i : Nat) : 0 ≤ minsL p t (S.take i) ∧ minsL p t (S.take i) ≤ 10000000 * (i : Int) := by
  have h1 := mins_bd (n := B.length) (p := p) ht (S.take i) (fun s hs => ok_mem h s (List.mem_of_mem_take hs))
  have h2 : (S.take i).length ≤ i := by rw [List.length_take]; omega
  omega
/-- What Minutes tells. -/
noncomputable def minutes (B : List Bd) (S : List St) (p t : Int) : Int := if okB B S && tm t then minsL p t S else -1

/-- At the bed at that time. -/
def atBed (p t : Int) (s : St) : Bool := decide (s.person = p) && (decide (s.frm ≤ t) && (decide (s.til = -1) || decide (t < s.til)))
/-- The bed of the last one. -/
def lastBed (p t : Int) (l : List St) : Int := l.foldl (fun b s => if atBed p t s then s.bed else b) (-1)
theorem lastBed_snoc (p t : Int) (l : List St) (x : St) : lastBed p t (l ++ [x]) = if atBed p t x then x.bed else lastBed p t l := by simp [lastBed, List.foldl_append]
noncomputable def whereAt (B : List Bd) (S : List St) (p t : Int) : Int := if okB B S then lastBed p t S else -1
end Go.Proofs.Ytklgadaefngnnaa.Hm
