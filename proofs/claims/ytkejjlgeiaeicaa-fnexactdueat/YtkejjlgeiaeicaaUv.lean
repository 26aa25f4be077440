/-
  What is due: no Go in sight.
-/
import Derived.Test.YtkejjlgeiaeicaaUo
namespace Go.Proofs.Ytkejjlgeiaeicaa.Uo
open Va
set_option linter.all false

instance : Inhabited Du := ⟨⟨0, 0, 0⟩⟩
def givB (ds : List Ds) (id t : Int) : Bool := ds.any fun d => decide (d.o = id) && decide (d.t = t)
/-- The place ahead of those that are due later, looking from behind. -/
def cutTo (l : List Du) (d : Du) : Nat → Nat
  | 0 => 0
  | n + 1 => if d.s < (l.getD n default).s then cutTo l d n else n + 1
def insD (l : List Du) (d : Du) : List Du := l.take (cutTo l d l.length) ++ d :: l.drop (cutTo l d l.length)
theorem cutTo_le (l : List Du) (d : Du) : ∀ n, cutTo l d n ≤ n
  | 0 => Nat.le_refl _
  | n + 1 => by
    have := cutTo_le l d n
    unfold cutTo
    split <;> omega
theorem insD_len (l : List Du) (d : Du) : (insD l d).length = l.length + 1 := by
  have := cutTo_le l d l.length
  simp only [insD, List.length_append, List.length_take, List.length_cons, List.length_drop]
  omega
theorem du_getD {l : List Du} {i : Nat} {x : Du} (h : l[i]? = some x) : l.getD i default = x := by rw [List.getD_eq_getElem?_getD, h]; rfl
def dueOf (o : Od) (t : Nat) : Du := ⟨o.id, t, o.f + (t : Int) * o.e⟩
def dueB (ds : List Ds) (time : Int) (o : Od) (t : Nat) : Bool := rng (dueOf o t).s (time - 60) (time + 30) && !givB ds o.id t
def turnsTo (ds : List Ds) (time : Int) (o : Od) (l : List Du) : Nat → List Du
  | 0 => l
  | t + 1 => if dueB ds time o t = true then insD (turnsTo ds time o l t) (dueOf o t) else turnsTo ds time o l t
def ordB (o : Od) (id : Int) : Bool := decide (o.s = 2) && (decide (id = 0) || decide (o.id = id))
def dueTo (os : List Od) (ds : List Ds) (time id : Int) : Nat → List Du
  | 0 => []
  | i + 1 => if ordB (os.getD i default) id = true then turnsTo ds time (os.getD i default) (dueTo os ds time id i) (os.getD i default).c.toNat else dueTo os ds time id i
def dueL (os : List Od) (ds : List Ds) (time id : Int) : List Du := dueTo os ds time id os.length
theorem turns_len (ds : List Ds) (time : Int) (o : Od) (l : List Du) : ∀ t, (turnsTo ds time o l t).length ≤ l.length + t
  | 0 => Nat.le_refl _
  | t + 1 => by
    have := turns_len ds time o l t
    unfold turnsTo
    split
    · rw [insD_len]; omega
    · omega
theorem due_len {os : List Od} (ds : List Ds) (time id : Int) (h : ∀ i, i < os.length → (os.getD i default).c ≤ 200) : ∀ n, n ≤ os.length → (dueTo os ds time id n).length ≤ n * 200
  | 0, _ => Nat.le_refl _
  | n + 1, hn => by
    have i := due_len ds time id h n (by omega)
    have := turns_len ds time (os.getD n default) (dueTo os ds time id n) (os.getD n default).c.toNat
    have := h n (by omega)
    unfold dueTo
    split <;> omega
theorem due_yes {os : List Od} {ds : List Ds} {time id : Int} {i : Nat} {o : Od} (ho : os[i]? = some o) (h : ordB o id = true) : dueTo os ds time id (i + 1) = turnsTo ds time o (dueTo os ds time id i) o.c.toNat := by
  rw [dueTo, od_getD ho, if_pos h]
theorem due_no {os : List Od} {ds : List Ds} {time id : Int} {i : Nat} {o : Od} (ho : os[i]? = some o) (h : ordB o id = false) : dueTo os ds time id (i + 1) = dueTo os ds time id i := by
  rw [dueTo, od_getD ho, if_neg (by rw [h]; simp)]
theorem turns_yes {ds : List Ds} {time : Int} {o : Od} {l : List Du} {t : Nat} (h : dueB ds time o t = true) : turnsTo ds time o l (t + 1) = insD (turnsTo ds time o l t) (dueOf o t) := by rw [turnsTo, if_pos h]
theorem turns_no {ds : List Ds} {time : Int} {o : Od} {l : List Du} {t : Nat} (h : dueB ds time o t = false) : turnsTo ds time o l (t + 1) = turnsTo ds time o l t := by rw [turnsTo, if_neg (by rw [h]; simp)]
/-- The list while a place is made for d: what lies at the place says nothing. -/
def gap (l : List Du) (at' : Nat) (x : Du) : List Du := l.take at' ++ x :: l.drop at'
theorem gap_len {l : List Du} {n : Nat} (x : Du) (h : n ≤ l.length) : (gap l n x).length = l.length + 1 := by
  simp only [gap, List.length_append, List.length_take, List.length_cons, List.length_drop]; omega
theorem gap_end (l : List Du) (d : Du) : gap l l.length d = l ++ [d] := by simp [gap]
theorem gap_get {l : List Du} {n : Nat} {x y : Du} (h : l[n]? = some y) : (gap l (n + 1) x)[n]? = some y := by
  have hl := (List.getElem?_eq_some_iff.1 h).1
  unfold gap
  rw [List.getElem?_append_left (by rw [List.length_take]; omega), List.getElem?_take, if_pos (by omega), h]
theorem gap_step {l : List Du} {n : Nat} {x y : Du} (h : l[n]? = some y) : (gap l (n + 1) x).set (n + 1) y = gap l n y := by
  obtain ⟨hl, rfl⟩ := List.getElem?_eq_some_iff.1 h
  unfold gap
  rw [List.set_append_right _ _ (by rw [List.length_take]; omega), List.length_take, show n + 1 - min (n + 1) l.length = 0 by omega, List.set_cons_zero, show l.take (n + 1) = l.take n ++ [l[n]] by rw [List.take_add_one, List.getElem?_eq_getElem hl]; rfl, List.append_assoc, List.drop_eq_getElem_cons hl]
  rfl
theorem gap_put (l : List Du) {n : Nat} (x d : Du) (h : n ≤ l.length) : (gap l n x).set n d = gap l n d := by
  unfold gap
  rw [List.set_append_right _ _ (by rw [List.length_take]; omega), List.length_take, show n - min n l.length = 0 by omega, List.set_cons_zero]
theorem gap_ins {l : List Du} {d : Du} {n : Nat} (h : cutTo l d n = cutTo l d l.length) (h2 : cutTo l d n = n) : gap l n d = insD l d := by unfold gap insD; rw [← h, h2]
theorem cut_more {l : List Du} {d y : Du} {n : Nat} (hy : l[n]? = some y) (h : d.s < y.s) : cutTo l d (n + 1) = cutTo l d n := by rw [cutTo, du_getD hy, if_pos h]
theorem cut_stop {l : List Du} {d y : Du} {n : Nat} (hy : l[n]? = some y) (h : ¬ d.s < y.s) : cutTo l d (n + 1) = n + 1 := by rw [cutTo, du_getD hy, if_neg h]
end Go.Proofs.Ytkejjlgeiaeicaa.Uo
