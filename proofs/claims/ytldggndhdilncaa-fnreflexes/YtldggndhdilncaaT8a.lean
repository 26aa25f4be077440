/-
  Results that are right: the regions that draw their order.
-/
import Derived.Test.YtldggndhdilncaaT7
import Derived.Test.YtldggndhdilncaaGx
import Derived.Test.YtldggndhdilncaaRs
namespace Go.Proofs.Ytldggndhdilncaa
open Go.RowKit Va Lb
set_option linter.all false


def FRr7 (B g off n cap i : Nat) (x : Rs) (yt : Int) (i9 : Nat) (v : Value) (w : World) : Prop :=
  match i9 with
  | 0 => v = .pointer (some ⟨B, 0, none⟩)
  | 1 => v = .int .i64 x.v
  | 2 => v = .bool (vlB x.v)
  | 3 => v = .bool (!(vlB x.v))
  | 4 => v = .bool (!(vlB x.v))
  | 5 => v = cond (true && ((!(vlB x.v)) == false)) (.pointer (some ⟨B, 2, none⟩)) undef
  | 6 => v = cond (true && ((!(vlB x.v)) == false)) (.bool x.k) undef
  | 7 => v = cond (true && ((!(vlB x.v)) == false)) (.bool (!x.k)) undef
  | 8 => v = cond (true && ((!(vlB x.v)) == false)) (.bool (!x.k)) undef
  | 9 => v = cond ((true && ((!(vlB x.v)) == false)) && ((!x.k) == true)) (.pointer (some ⟨B, 0, none⟩)) undef
  | 10 => v = cond ((true && ((!(vlB x.v)) == false)) && ((!x.k) == true)) (.int .i64 x.v) undef
  | 11 => v = cond ((true && ((!(vlB x.v)) == false)) && ((!x.k) == true)) (.bool (x.v != 0)) undef
  | 12 => v = cond (true && ((!(vlB x.v)) == false)) (.bool ((!x.k) && (x.v != 0))) undef
  | 13 => v = .bool ((!(vlB x.v)) || ((!x.k) && (x.v != 0)))
  | 14 => v = .bool ((!(vlB x.v)) || ((!x.k) && (x.v != 0)))
  | 15 => v = cond (true && (((!(vlB x.v)) || ((!x.k) && (x.v != 0))) == false)) (.pointer (some ⟨B, 1, none⟩)) undef
  | 16 => v = cond (true && (((!(vlB x.v)) || ((!x.k) && (x.v != 0))) == false)) (.int .i64 x.t) undef
  | 17 => v = cond (true && (((!(vlB x.v)) || ((!x.k) && (x.v != 0))) == false)) (.bool (tmv x.t)) undef
  | 18 => v = cond (true && (((!(vlB x.v)) || ((!x.k) && (x.v != 0))) == false)) (.bool (!(tmv x.t))) undef
  | 19 => v = .bool (((!(vlB x.v)) || ((!x.k) && (x.v != 0))) || (!(tmv x.t)))
  | 20 => v = .bool (((!(vlB x.v)) || ((!x.k) && (x.v != 0))) || (!(tmv x.t)))
  | 21 => v = cond (true && ((((!(vlB x.v)) || ((!x.k) && (x.v != 0))) || (!(tmv x.t))) == false)) (.int .i64 (i : Nat)) undef
  | 22 => v = cond (true && ((((!(vlB x.v)) || ((!x.k) && (x.v != 0))) || (!(tmv x.t))) == false)) (.bool (decide ((0 : Int) < (i : Int)))) undef
  | 23 => v = cond (true && ((((!(vlB x.v)) || ((!x.k) && (x.v != 0))) || (!(tmv x.t))) == false)) (.bool (decide ((0 : Int) < (i : Int)))) undef
  | 24 => v = cond ((true && ((((!(vlB x.v)) || ((!x.k) && (x.v != 0))) || (!(tmv x.t))) == false)) && ((decide ((0 : Int) < (i : Int))) == true)) (.pointer (some ⟨B, 1, none⟩)) undef
  | 25 => v = cond ((true && ((((!(vlB x.v)) || ((!x.k) && (x.v != 0))) || (!(tmv x.t))) == false)) && ((decide ((0 : Int) < (i : Int))) == true)) (.int .i64 x.t) undef
  | 26 => v = cond ((true && ((((!(vlB x.v)) || ((!x.k) && (x.v != 0))) || (!(tmv x.t))) == false)) && ((decide ((0 : Int) < (i : Int))) == true)) (.slice (some ⟨g, off, none⟩) n cap) undef
  | 27 => v = cond ((true && ((((!(vlB x.v)) || ((!x.k) && (x.v != 0))) || (!(tmv x.t))) == false)) && ((decide ((0 : Int) < (i : Int))) == true)) (.int .i64 (i : Nat)) undef
  | 28 => v = cond ((true && ((((!(vlB x.v)) || ((!x.k) && (x.v != 0))) || (!(tmv x.t))) == false)) && ((decide ((0 : Int) < (i : Int))) == true)) (.int .i64 ((i - 1 : Nat) : Int)) undef
  | 29 => v = cond ((true && ((((!(vlB x.v)) || ((!x.k) && (x.v != 0))) || (!(tmv x.t))) == false)) && ((decide ((0 : Int) < (i : Int))) == true)) (.pointer (some ⟨g, off + (i - 1) * 3, none⟩)) undef
  | 30 => v = cond ((true && ((((!(vlB x.v)) || ((!x.k) && (x.v != 0))) || (!(tmv x.t))) == false)) && ((decide ((0 : Int) < (i : Int))) == true)) (.pointer (some ⟨g, off + (i - 1) * 3 + 1, none⟩)) undef
  | 31 => v = cond ((true && ((((!(vlB x.v)) || ((!x.k) && (x.v != 0))) || (!(tmv x.t))) == false)) && ((decide ((0 : Int) < (i : Int))) == true)) (.int .i64 yt) undef
  | 32 => v = cond ((true && ((((!(vlB x.v)) || ((!x.k) && (x.v != 0))) || (!(tmv x.t))) == false)) && ((decide ((0 : Int) < (i : Int))) == true)) (.bool (decide (x.t < yt))) undef
  | 33 => v = cond (true && ((((!(vlB x.v)) || ((!x.k) && (x.v != 0))) || (!(tmv x.t))) == false)) (.bool ((decide ((0 : Int) < (i : Int))) && (decide (x.t < yt)))) undef
  | 34 => v = .bool ((((!(vlB x.v)) || ((!x.k) && (x.v != 0))) || (!(tmv x.t))) || ((decide ((0 : Int) < (i : Int))) && (decide (x.t < yt))))
  | _ => True

def FRi6 (B g off n cap i : Nat) (x : Rs) (yt : Int) (i9 : Nat) (v : Value) (w : World) : Prop :=
  match i9 with
  | 0 => v = .agg #[.int .i64 x.v, .int .i64 x.t, .bool x.k]
  | 1 => v = .bool (resB x)
  | 2 => v = .bool (!(resB x))
  | 3 => v = .bool (!(resB x))
  | 4 => v = cond (true && ((!(resB x)) == false)) (.int .i64 (i : Nat)) undef
  | 5 => v = cond (true && ((!(resB x)) == false)) (.bool (decide ((0 : Int) < (i : Int)))) undef
  | 6 => v = cond (true && ((!(resB x)) == false)) (.bool (decide ((0 : Int) < (i : Int)))) undef
  | 7 => v = cond ((true && ((!(resB x)) == false)) && ((decide ((0 : Int) < (i : Int))) == true)) (.pointer (some ⟨B, 1, none⟩)) undef
  | 8 => v = cond ((true && ((!(resB x)) == false)) && ((decide ((0 : Int) < (i : Int))) == true)) (.int .i64 x.t) undef
  | 9 => v = cond ((true && ((!(resB x)) == false)) && ((decide ((0 : Int) < (i : Int))) == true)) (.slice (some ⟨g, off, none⟩) n cap) undef
  | 10 => v = cond ((true && ((!(resB x)) == false)) && ((decide ((0 : Int) < (i : Int))) == true)) (.int .i64 (i : Nat)) undef
  | 11 => v = cond ((true && ((!(resB x)) == false)) && ((decide ((0 : Int) < (i : Int))) == true)) (.int .i64 ((i - 1 : Nat) : Int)) undef
  | 12 => v = cond ((true && ((!(resB x)) == false)) && ((decide ((0 : Int) < (i : Int))) == true)) (.pointer (some ⟨g, off + (i - 1) * 3, none⟩)) undef
  | 13 => v = cond ((true && ((!(resB x)) == false)) && ((decide ((0 : Int) < (i : Int))) == true)) (.pointer (some ⟨g, off + (i - 1) * 3 + 1, none⟩)) undef
  | 14 => v = cond ((true && ((!(resB x)) == false)) && ((decide ((0 : Int) < (i : Int))) == true)) (.int .i64 yt) undef
  | 15 => v = cond ((true && ((!(resB x)) == false)) && ((decide ((0 : Int) < (i : Int))) == true)) (.bool (decide (x.t < yt))) undef
  | 16 => v = cond (true && ((!(resB x)) == false)) (.bool ((decide ((0 : Int) < (i : Int))) && (decide (x.t < yt)))) undef
  | 17 => v = .bool ((!(resB x)) || ((decide ((0 : Int) < (i : Int))) && (decide (x.t < yt))))
  | _ => True
end Go.Proofs.Ytldggndhdilncaa
