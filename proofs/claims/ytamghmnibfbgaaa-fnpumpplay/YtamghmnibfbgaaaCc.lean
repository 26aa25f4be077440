/-
  The program's acts, one by one.
-/
import Derived.Test.YtamghmnibfbgaaaCb
namespace Go.Proofs.Ytamghmnibfbgaaa
open Go.RowKit Va Ba
set_option linter.unusedVariables false

theorem iend {fn : Func} (hres : fn.results = #[.cell 4 61, .tmp 5]) {w W : World} {q q' : Pm} {co c : Int} {tm : Array Value} {B2 : Nat} (hq : (q, co) = (q', c)) (hN : PB W B2 (cP q') 61) (h4 : tm.getD 4 undef = .pointer (some ⟨B2, 0, none⟩)) (h5 : tm.getD 5 undef = .int .i64 c) (hb : Below w.heap.size w W) :
    bodyPost Try.prog fn (fun e w' => e = .returned (.tuple #[aPm q, .int .i64 co]) ∧ Below w.heap.size w w') Exit.ret ⟨tm, []⟩ W := by
  cases hq
  refine bodyPost_ret (results_ct hres _ _ B2 61 _ _ h4 hN Try.underlying61 rfl (by kernel_rfl)) rfl ⟨?_, hb⟩
  rw [h5]
  rfl
theorem st_eq {p : Pm} {b : Int} (h : p.st = b) : p = { p with st := b } := by cases p; cases h; rfl
theorem asked_eq {p : Pm} {b : Int} (h : p.asked = b) : p = { p with asked := b } := by cases p; cases h; rfl
theorem rate_eq {p : Pm} {b : Int} (h : p.rate = b) : p = { p with rate := b } := by cases p; cases h; rfl
def xSet (p : Pm) (n : Int) : Pm × Int := if p.st = 3 ∨ p.st = 5 then (p, 3) else if may p.lim n = false then (p, 4) else if soft p.lim n = false then ({ p with st := if p.st = 1 then 2 else p.st, asked := n }, 5) else ({ p with st := if p.st = 1 then 2 else p.st, rate := n, asked := 0 }, 0)
def xConfirm (p : Pm) (n : Int) : Pm × Int := if p.asked = 0 then (p, 3) else ({ p with rate := p.asked, asked := 0 }, 0)
def xStart (p : Pm) (n : Int) : Pm × Int := if (p.st ≠ 2 ∧ p.st ≠ 4) ∨ p.rate = 0 then (p, 3) else if p.door = true then (p, 6) else if p.left = 0 then (p, 7) else ({ p with st := 3, asked := 0 }, 0)
def xHold (p : Pm) (n : Int) : Pm × Int := if p.st ≠ 3 then (p, 3) else ({ p with st := 4 }, 0)
def xOpen (p : Pm) (n : Int) : Pm × Int := ({ p with door := true, st := if p.st = 3 then 5 else p.st }, 0)
def xClose (p : Pm) (n : Int) : Pm × Int := ({ p with door := false }, 0)
def xTick (p : Pm) (n : Int) : Pm × Int := if p.st ≠ 3 then (p, 3) else if 100000000 < p.given + min (p.rate * n) p.left then (p, 8) else ({ p with left := p.left - min (p.rate * n) p.left, given := p.given + min (p.rate * n) p.left, st := if p.left - min (p.rate * n) p.left = 0 then 5 else p.st }, 0)
def xReset (p : Pm) (n : Int) : Pm × Int := if p.st ≠ 5 then (p, 3) else ({ p with st := if 0 < p.rate then 4 else 2 }, 0)
def xOff (p : Pm) (n : Int) : Pm × Int := if p.st = 3 then (p, 3) else ({ p with st := 1, rate := 0, asked := 0 }, 0)
def xFill (p : Pm) (n : Int) : Pm × Int := if p.st = 3 then (p, 3) else if 100000000 < p.left + n then (p, 8) else ({ p with left := p.left + n }, 0)

end Go.Proofs.Ytamghmnibfbgaaa
