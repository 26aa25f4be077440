/-
  Floats by what they are worth: a number's bits, or not a number. The four operations, and comparison, as functions of that.
-/
import Derived.WalkKit
import Derived.WalkSpells
import Derived.WalkLawsBesides
import Derived.Laws.FloatArith
namespace Go.Proofs.Ytiopmlepdjiapaa.Fl

def isN (x : Nat) : Bool := (Ieee.double.read x).isNaN
/-- A float's worth: its bits, or none where it is not a number. -/
def cls (x : Nat) : Option Nat := if isN x = true then none else some x

theorem read_low (neg : Bool) (r : Nat) (h : r ≤ Ieee.double.infRung) : (Ieee.double.read (Ieee.double.word neg r)).isNaN = false := by
  have hi : Ieee.double.infRung = 9218868437227405312 := by decide
  have hs : Ieee.double.signWeight = 9223372036854775808 := by decide
  rw [hi] at h
  have e : Ieee.double.word neg r % Ieee.double.signWeight = r := by
    unfold Ieee.Format.word; rw [hs]; split <;> omega
  unfold Ieee.Format.read
  simp only [e]
  rw [hi]
  split
  · rfl
  · split
    · rfl
    · split
      · rfl
      · omega
theorem write_low (d : Ieee.Datum) (h : d.isNaN = false) : isN (Ieee.double.write d) = false := by
  unfold isN
  cases d with
  | number s m p =>
    show (Ieee.double.read (Ieee.double.nearest s m p)).isNaN = false
    unfold Ieee.Format.nearest
    split
    · exact read_low s 0 (Nat.zero_le _)
    · exact read_low s _ (Nat.min_le_right ..)
  | infinity s => exact read_low s _ (Nat.le_refl _)
  | nan s t => cases h

theorem sum_low {a b d : Ieee.Datum} (h : a.sum b = some d) : d.isNaN = false := by
  cases a <;> cases b <;> simp only [Ieee.Datum.sum] at h <;> (try split at h) <;> (try cases h) <;> rfl
theorem product_low {a b d : Ieee.Datum} (h : a.product b = some d) : d.isNaN = false := by
  cases a <;> cases b <;> simp only [Ieee.Datum.product] at h <;> (try split at h) <;> (try cases h) <;> rfl
theorem quotient_low {k : Nat} {a b d : Ieee.Datum} (h : a.quotient k b = some d) : d.isNaN = false := by
  cases a <;> cases b <;> simp only [Ieee.Datum.quotient] at h <;> (try split at h) <;> (try split at h) <;> (try cases h) <;> rfl

theorem bits_low {op : BinOp} {x y r : Nat} (h : floatBits op .f64 x y = some r) : isN r = false := by
  unfold floatBits at h
  split at h
  · obtain ⟨d, hd, rfl⟩ := Option.map_eq_some_iff.1 h; exact write_low d (sum_low hd)
  · obtain ⟨d, hd, rfl⟩ := Option.map_eq_some_iff.1 h; exact write_low d (sum_low hd)
  · obtain ⟨d, hd, rfl⟩ := Option.map_eq_some_iff.1 h; exact write_low d (product_low hd)
  · obtain ⟨d, hd, rfl⟩ := Option.map_eq_some_iff.1 h; exact write_low d (quotient_low hd)
  · cases h

theorem sum_nan {a b : Ieee.Datum} (h : a.isNaN = true ∨ b.isNaN = true) : a.sum b = none := by
  cases a <;> cases b <;> simp_all [Ieee.Datum.sum, Ieee.Datum.isNaN]
theorem product_nan {a b : Ieee.Datum} (h : a.isNaN = true ∨ b.isNaN = true) : a.product b = none := by
  cases a <;> cases b <;> simp_all [Ieee.Datum.product, Ieee.Datum.isNaN]
theorem quotient_nan {k : Nat} {a b : Ieee.Datum} (h : a.isNaN = true ∨ b.isNaN = true) : a.quotient k b = none := by
  cases a <;> cases b <;> simp_all [Ieee.Datum.quotient, Ieee.Datum.isNaN]
theorem opposite_nan (a : Ieee.Datum) : a.opposite.isNaN = a.isNaN := by cases a <;> rfl

theorem bits_nan {op : BinOp} {x y : Nat} (h : isN x = true ∨ isN y = true) : floatBits op .f64 x y = none := by
  unfold isN at h
  unfold floatBits
  split
  · show Option.map _ (Ieee.Datum.sum (Ieee.double.read x) (Ieee.double.read y)) = none
    rw [sum_nan h]; rfl
  · show Option.map _ (Ieee.Datum.sum (Ieee.double.read x) (Ieee.double.read y).opposite) = none
    rw [sum_nan (by rw [opposite_nan]; exact h)]; rfl
  · show Option.map _ (Ieee.Datum.product (Ieee.double.read x) (Ieee.double.read y)) = none
    rw [product_nan h]; rfl
  · show Option.map _ (Ieee.Datum.quotient _ (Ieee.double.read x) (Ieee.double.read y)) = none
    rw [quotient_nan h]; rfl
  · rfl

/-- The bits that the model draws for a result that is not a number. -/
def nanv (w : World) (x y : Nat) : Nat := (Question.nanBits .f64 x y).cut (w.tape w.drawn (.nanBits .f64 x y))
theorem nanv_nan (w : World) (x y : Nat) : isN (nanv w x y) = true := by
  unfold nanv
  generalize w.tape w.drawn (.nanBits .f64 x y) = t
  show (Ieee.double.read ((t % 2) * 2 ^ 63 + 0x7ff0000000000000 + 1 + (t / 2) % (2 ^ 52 - 1))).isNaN = true
  have hi : Ieee.double.infRung = 9218868437227405312 := by decide
  have hs : Ieee.double.signWeight = 9223372036854775808 := by decide
  have hb : Ieee.double.binade = 4503599627370496 := by decide
  unfold Ieee.Format.read
  simp only [hi, hs, hb]
  have q : t / 2 % (2 ^ 52 - 1) < 4503599627370495 := Nat.mod_lt _ (by decide)
  generalize t / 2 % (2 ^ 52 - 1) = s at *
  rw [if_neg (by omega), if_neg (by omega), if_neg (by omega)]
  rfl

/-- What an operation gives, and how often it draws. -/
def fRes (op : BinOp) (x y : Nat) (w : World) : Nat := (floatBits op .f64 x y).getD (nanv w x y)
def fN (op : BinOp) (x y : Nat) : Nat := if (floatBits op .f64 x y).isSome then 0 else 1
/-- The same over worths. -/
def fop (op : BinOp) : Option Nat → Option Nat → Option Nat
  | some x, some y => floatBits op .f64 x y
  | _, _ => none
theorem cls_fRes (op : BinOp) (x y : Nat) (w : World) : cls (fRes op x y w) = fop op (cls x) (cls y) := by
  unfold fRes
  cases h : floatBits op .f64 x y with
  | some r =>
    have hx : isN x = false := by
      cases q : isN x
      · rfl
      · rw [bits_nan (Or.inl q)] at h; cases h
    have hy : isN y = false := by
      cases q : isN y
      · rfl
      · rw [bits_nan (Or.inr q)] at h; cases h
    simp [cls, hx, hy, bits_low h, fop, h]
  | none =>
    have : cls (nanv w x y) = none := by simp [cls, nanv_nan]
    simp only [Option.getD_none, this]
    unfold cls fop
    cases hx : isN x <;> cases hy : isN y <;> simp [h]

theorem ord_nan {x y : Nat} (h : isN x = true ∨ isN y = true) : FloatKind.f64.format.order x y = none := by
  unfold isN at h
  show Ieee.Datum.order (Ieee.double.read x) (Ieee.double.read y) = none
  generalize Ieee.double.read x = a at *
  generalize Ieee.double.read y = b at *
  cases a <;> cases b <;> simp_all [Ieee.Datum.order, Ieee.Datum.isNaN]
theorem ord_self {x : Nat} (h : isN x = false) : FloatKind.f64.format.order x x = some .eq := by
  unfold isN at h
  show Ieee.Datum.order (Ieee.double.read x) (Ieee.double.read x) = some .eq
  generalize Ieee.double.read x = a at *
  cases a with
  | nan s t => cases h
  | infinity s => cases s <;> rfl
  | number s m i =>
    simp only [Ieee.Datum.order]
    simp
theorem cls_eq {x y : Nat} (h : cls x = cls y) : (isN x = true ∧ isN y = true) ∨ (x = y ∧ isN x = false) := by
  unfold cls at h
  cases hx : isN x <;> cases hy : isN y <;> simp_all
theorem ofInt_low (n : Int) : isN (floatOfInt .f64 n) = false := write_low (.number (decide (n < 0)) n.natAbs 0) rfl

section
variable {P : Program}
theorem run_float (op : BinOp) (hop : op = .add ∨ op = .sub ∨ op = .mul ∨ op = .quo) (t : TypeId) (x y : Nat) (w : World) :
    (binOp op t (.float .f64 x) (.float .f64 y)).run P w = .ok (.float .f64 (fRes op x y w)) (w.drewN (fN op x y)) := by
  unfold fRes fN
  cases h : floatBits op .f64 x y with
  | some r => exact run_float_arith (P := P) w op t .f64 x y r h
  | none =>
    rcases hop with rfl | rfl | rfl | rfl <;> simp only [floatBits] at h <;> simp [binOp, Op.floatArith, h, nanv, Question.forced] <;> rfl
end
end Go.Proofs.Ytiopmlepdjiapaa.Fl
