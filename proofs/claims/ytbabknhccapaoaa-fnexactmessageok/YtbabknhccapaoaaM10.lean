/-
  Messages: no Go in sight.
-/
import Derived.Test.YtbabknhccapaoaaVa
namespace Go.Proofs.Ytbabknhccapaoaa.Ms
open Va
set_option linter.all false

def nb (s : ByteArray) (i : Nat) : Nat := (s.get! i).toNat
theorem nb_le (s : ByteArray) (i : Nat) : nb s i ≤ 255 := by have := (s.get! i).toNat_lt; unfold nb; omega
def grB (n : Nat) : Bool := decide (65 ≤ n) && decide (n ≤ 90)
def dgB (n : Nat) : Bool := decide (48 ≤ n) && decide (n ≤ 57)
def gdB (n : Nat) : Bool := grB n || dgB n
def nameB (s : ByteArray) : Bool := decide (s.size = 3) && (grB (nb s 0) && (gdB (nb s 1) && gdB (nb s 2)))
structure Pt where
  n : ByteArray
  fs : List ByteArray
def fieldsB (l : List ByteArray) : Bool := decide (l.length = 0) || (decide (l.length ≤ 30) && !decide (l.getD (l.length - 1) .empty = .empty))
def partB (p : Pt) : Bool := nameB p.n && fieldsB p.fs
def allP (l : List Pt) (i : Nat) : Bool := (l.take i).all partB
def messB (l : List Pt) : Bool := decide (1 ≤ l.length) && (decide (l.length ≤ 20) && allP l l.length)
theorem allP_zero (l : List Pt) : allP l 0 = true := by simp [allP]
theorem allP_succ {l : List Pt} {i : Nat} {x : Pt} (h : l[i]? = some x) : allP l (i + 1) = (allP l i && partB x) := by
  unfold allP
  rw [List.take_add_one, h]
  simp
theorem allP_false {l : List Pt} {i : Nat} {x : Pt} (h : l[i]? = some x) (hp : partB x = false) : allP l l.length = false := by
  unfold allP
  rw [List.take_length, List.all_eq_false]
  exact ⟨x, List.mem_of_getElem? h, by simp [hp]⟩
end Go.Proofs.Ytbabknhccapaoaa.Ms
