/-
  Merged: Va M10.
-/
namespace Go.Proofs.Ytgcpiinmcbdkmaa.Va
structure Vt where
  b : Int
  o : Int
  p : Int
  u : Int
  a : Int
  h : Int
def rng (x lo hi : Int) : Bool := decide (lo ≤ x) && decide (x ≤ hi)
def hp (n : Int) : Int := if n ≤ 350 then 3 else if 391 ≤ n then 2 else if n ≤ 360 ∨ 381 ≤ n then 1 else 0
def tmv (x : Int) : Bool := decide (0 ≤ x) && decide (x ≤ 10000000)
end Go.Proofs.Ytgcpiinmcbdkmaa.Va

namespace Go.Proofs.Ytgcpiinmcbdkmaa.Ms
open Va
set_option linter.all false
def nb (s : ByteArray) (i : Nat) : Nat := (s.get! i).toNat
theorem nb_le (s : ByteArray) (i : Nat) : nb s i ≤ 255 := by have := (s.get! i).toNat_lt; unfold nb; omega
def grB (n : Nat) : Bool := decide (65 ≤ n) && decide (n ≤ 90)
def dgB (n : Nat) : Bool := decide (48 ≤ n) && decide (n ≤ 57)
def gdB (n : Nat) : Bool := grB n || dgB n
def nameB (s : ByteArray) : Bool := decide (s.size = 3) && (grB (nb s 0) && (gdB (nb s 1) && gdB (nb s 2)))
structure Pt where
  n : ByteArray
  fs : List ByteArray
def fieldsB (l : List ByteArray) : Bool := decide (l.length = 0) || (decide (l.length ≤ 30) && !decide (l.getD (l.length - 1) .empty = .empty))
end Go.Proofs.Ytgcpiinmcbdkmaa.Ms
