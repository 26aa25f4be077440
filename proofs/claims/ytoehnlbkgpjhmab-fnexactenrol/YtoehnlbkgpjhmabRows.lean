/-
  No cell of these rows narrows 'for every input' (looked for: loops, veiled, ifaces, maps, wideKeys, modest, calm, conditions, laid).
  DERIVED. THE GIVEN ROWS OF THIS SEAT. 5 by the template 'for every input the law returns true; each argument reads behind the call as it read before'; 0 by the template 'total and deterministic' (their statements: YtoehnlbkgpjhmabTotals.lean).
  GIVEN WITH THE SEED: the statements are not yours to turn. If you find one false, say at which input.
  Laid BY PROGRAM, IN A SANDBOX (cutbox-rows.mjs): the forced cells as the released guide's own fill.sh prints them over the translation c76ff2e0657ffe64… (all of the seat's roots in one cut). By AI agents, Wed Nov 11 2026. No macro, syntax, notation, axiom, sorry.
-/
import Derived.Test.YtoehnlbkgpjhmabChecked
import GoSem.Claim
import GoSem.ClaimJoined
import GoSem.ClaimMapViews
import Derived.JoinedTies
import Derived.KernelRfl
namespace Go.Proofs.Ytoehnlbkgpjhmab
/- THE CELL 'sum', in the pinned program and in every row, IS THE sha256 OF THE DUMP (.gsa) THAT YtoehnlbkgpjhmabProg.lean LOADS. Nothing in Lean hashes anything: it is a label: what it is worth is what the hold of that sum in a sandbox is worth. -/
noncomputable def Try.pinned : Pinned := { name := "ytoehnlbkgpjhmab", sum := "c76ff2e0657ffe6499b10960bb8d132a48606e6b4c7c3dd3ab9873bca3c4e5f4", checked := Try.checked }
namespace Rows
def none {H : Type} : Left H := { results := [], args := [] }

/-- 'laws.FnExactAllocation': WHATEVER THE INPUT: true; the input reads as it did. -/
def fnExactAllocationSpec : ChangeSpec := { name := "fnExactAllocation", fn := fun _ => fun
  | [d1, d2] => { results := [.lit (.bool true)], args := [d1, d2] }
  | _ => none }
def fnExactAllocationRow : OpenClaim := { program := "ytoehnlbkgpjhmab", sum := "c76ff2e0657ffe6499b10960bb8d132a48606e6b4c7c3dd3ab9873bca3c4e5f4", func := "loop.example/g00060/laws.FnExactAllocation", spec := "fnExactAllocation", inPlace := ["sync/atomic.LoadUint32", "(*internal/sync.Mutex).Lock", "internal/race.Disable", "sync/atomic.CompareAndSwapInt32", "internal/race.Enable", "internal/race.Acquire", "(*internal/sync.Mutex).lockSlow", "internal/sync.runtime_canSpin", "internal/sync.runtime_doSpin", "internal/sync.throw", "internal/sync.runtime_nanotime", "internal/sync.runtime_SemacquireMutex", "sync/atomic.AddInt32", "(*internal/sync.Mutex).Unlock", "internal/race.ReleaseMerge", "(*internal/sync.Mutex).unlockSlow", "internal/sync.fatal", "internal/sync.runtime_Semrelease", "sync/atomic.StoreUint32"], unfollowed := true, recurses := true, apart := false }
def FnExactAllocationSaid : Prop := fnExactAllocationRow.holds Try.pinned (OpenSpec.ofChange fnExactAllocationSpec)

/-- ITS FALSE NEIGHBOUR: 'it returns false'. Refute it at one input. -/
def fnExactAllocationWrong : ChangeSpec := { name := "fnExactAllocation", fn := fun _ => fun
  | [d1, d2] => { results := [.lit (.bool false)], args := [d1, d2] }
  | _ => none }
def FnExactAllocationWrongFalsely : Prop := fnExactAllocationRow.holds Try.pinned (OpenSpec.ofChange fnExactAllocationWrong)

/-- 'laws.FnExactEnrol': WHATEVER THE INPUT: true; the input reads as it did. -/
def fnExactEnrolSpec : ChangeSpec := { name := "fnExactEnrol", fn := fun _ => fun
  | [d] => { results := [.lit (.bool true)], args := [d] }
  | _ => none }
def fnExactEnrolRow : OpenClaim := { program := "ytoehnlbkgpjhmab", sum := "c76ff2e0657ffe6499b10960bb8d132a48606e6b4c7c3dd3ab9873bca3c4e5f4", func := "loop.example/g00060/laws.FnExactEnrol", spec := "fnExactEnrol", inPlace := ["sync/atomic.LoadUint32", "(*internal/sync.Mutex).Lock", "internal/race.Disable", "sync/atomic.CompareAndSwapInt32", "internal/race.Enable", "internal/race.Acquire", "(*internal/sync.Mutex).lockSlow", "internal/sync.runtime_canSpin", "internal/sync.runtime_doSpin", "internal/sync.throw", "internal/sync.runtime_nanotime", "internal/sync.runtime_SemacquireMutex", "sync/atomic.AddInt32", "(*internal/sync.Mutex).Unlock", "internal/race.ReleaseMerge", "(*internal/sync.Mutex).unlockSlow", "internal/sync.fatal", "internal/sync.runtime_Semrelease", "sync/atomic.StoreUint32"], unfollowed := true, recurses := true, apart := false }
def FnExactEnrolSaid : Prop := fnExactEnrolRow.holds Try.pinned (OpenSpec.ofChange fnExactEnrolSpec)

/-- ITS FALSE NEIGHBOUR: 'it returns false'. Refute it at one input. -/
def fnExactEnrolWrong : ChangeSpec := { name := "fnExactEnrol", fn := fun _ => fun
  | [d] => { results := [.lit (.bool false)], args := [d] }
  | _ => none }
def FnExactEnrolWrongFalsely : Prop := fnExactEnrolRow.holds Try.pinned (OpenSpec.ofChange fnExactEnrolWrong)

/-- 'laws.FnExactBalance': WHATEVER THE INPUT: true; the input reads as it did. -/
def fnExactBalanceSpec : ChangeSpec := { name := "fnExactBalance", fn := fun _ => fun
  | [d] => { results := [.lit (.bool true)], args := [d] }
  | _ => none }
def fnExactBalanceRow : OpenClaim := { program := "ytoehnlbkgpjhmab", sum := "c76ff2e0657ffe6499b10960bb8d132a48606e6b4c7c3dd3ab9873bca3c4e5f4", func := "loop.example/g00060/laws.FnExactBalance", spec := "fnExactBalance", inPlace := ["sync/atomic.LoadUint32", "(*internal/sync.Mutex).Lock", "internal/race.Disable", "sync/atomic.CompareAndSwapInt32", "internal/race.Enable", "internal/race.Acquire", "(*internal/sync.Mutex).lockSlow", "internal/sync.runtime_canSpin", "internal/sync.runtime_doSpin", "internal/sync.throw", "internal/sync.runtime_nanotime", "internal/sync.runtime_SemacquireMutex", "sync/atomic.AddInt32", "(*internal/sync.Mutex).Unlock", "internal/race.ReleaseMerge", "(*internal/sync.Mutex).unlockSlow", "internal/sync.fatal", "internal/sync.runtime_Semrelease", "sync/atomic.StoreUint32"], unfollowed := true, recurses := true, apart := false }
def FnExactBalanceSaid : Prop := fnExactBalanceRow.holds Try.pinned (OpenSpec.ofChange fnExactBalanceSpec)

/-- ITS FALSE NEIGHBOUR: 'it returns false'. Refute it at one input. -/
def fnExactBalanceWrong : ChangeSpec := { name := "fnExactBalance", fn := fun _ => fun
  | [d] => { results := [.lit (.bool false)], args := [d] }
  | _ => none }
def FnExactBalanceWrongFalsely : Prop := fnExactBalanceRow.holds Try.pinned (OpenSpec.ofChange fnExactBalanceWrong)

/-- 'laws.FnExactEligible': WHATEVER THE INPUT: true; the input reads as it did. -/
def fnExactEligibleSpec : ChangeSpec := { name := "fnExactEligible", fn := fun _ => fun
  | [d1, d2, d3] => { results := [.lit (.bool true)], args := [d1, d2, d3] }
  | _ => none }
def fnExactEligibleRow : OpenClaim := { program := "ytoehnlbkgpjhmab", sum := "c76ff2e0657ffe6499b10960bb8d132a48606e6b4c7c3dd3ab9873bca3c4e5f4", func := "loop.example/g00060/laws.FnExactEligible", spec := "fnExactEligible", apart := false }
def FnExactEligibleSaid : Prop := fnExactEligibleRow.holds Try.pinned (OpenSpec.ofChange fnExactEligibleSpec)

/-- ITS FALSE NEIGHBOUR: 'it returns false'. Refute it at one input. -/
def fnExactEligibleWrong : ChangeSpec := { name := "fnExactEligible", fn := fun _ => fun
  | [d1, d2, d3] => { results := [.lit (.bool false)], args := [d1, d2, d3] }
  | _ => none }
def FnExactEligibleWrongFalsely : Prop := fnExactEligibleRow.holds Try.pinned (OpenSpec.ofChange fnExactEligibleWrong)

/-- 'laws.FnExactRoster': WHATEVER THE INPUT: true; the input reads as it did. -/
def fnExactRosterSpec : ChangeSpec := { name := "fnExactRoster", fn := fun _ => fun
  | [d1, d2, d3, d4] => { results := [.lit (.bool true)], args := [d1, d2, d3, d4] }
  | _ => none }
def fnExactRosterRow : OpenClaim := { program := "ytoehnlbkgpjhmab", sum := "c76ff2e0657ffe6499b10960bb8d132a48606e6b4c7c3dd3ab9873bca3c4e5f4", func := "loop.example/g00060/laws.FnExactRoster", spec := "fnExactRoster", unfollowed := true, recurses := true, apart := false }
def FnExactRosterSaid : Prop := fnExactRosterRow.holds Try.pinned (OpenSpec.ofChange fnExactRosterSpec)

/-- ITS FALSE NEIGHBOUR: 'it returns false'. Refute it at one input. -/
def fnExactRosterWrong : ChangeSpec := { name := "fnExactRoster", fn := fun _ => fun
  | [d1, d2, d3, d4] => { results := [.lit (.bool false)], args := [d1, d2, d3, d4] }
  | _ => none }
def FnExactRosterWrongFalsely : Prop := fnExactRosterRow.holds Try.pinned (OpenSpec.ofChange fnExactRosterWrong)

/- THE SECOND FORM. 'bulk': how many values and letters a reading holds, each counted each time it is reached (what is shared counts as often as it is met; a slice's spare places count too). A statement '..UptoSaid' is the law's where the arguments, and the package variables that the reading takes, are together of bulk at most 1048576: NARROWER than '..Said'. Prove '..Said' where nothing that the law and all that it calls make is longer than what came in: it says more and counts as full. Else prove '..UptoSaid'. A law counts once. -/
mutual
def uptoBulk {H : Type} : DataW H → Nat
  | .lit (.string bytes) => bytes.length + 1
  | .lit _ => 1
  | .nil => 1
  | .ptr d => uptoBulk d + 1
  | .slice elems spare => uptoBulkAll elems + uptoBulkAll spare + 1
  | .agg parts => uptoBulkAll parts + 1
  | .iface _ d => uptoBulk d + 1
  | .map entries => uptoBulkEntries entries + 1
  | .held _ => 1
def uptoBulkAll {H : Type} : List (DataW H) → Nat
  | [] => 0
  | d :: r => uptoBulk d + uptoBulkAll r
def uptoBulkEntries {H : Type} : List (Lit × DataW H) → Nat
  | [] => 0
  | x :: r => uptoBulkEntry x + uptoBulkEntries r
def uptoBulkEntry {H : Type} : Lit × DataW H → Nat
  | (.string bytes, d) => bytes.length + uptoBulk d + 1
  | (_, d) => uptoBulk d + 1
 end
def uptoSmall : (H : Type) → List (DataW H) → Bool := fun _ ds => decide (uptoBulkAll ds ≤ 1048576)
def OpenSpec.upto (s : _root_.Go.ChangeSpec) : _root_.Go.OpenSpec := { _root_.Go.OpenSpec.ofChange s with cond := some uptoSmall }

/-- 'laws.FnExactAllocation', WHERE WHAT IT READS IS OF BULK AT MOST 1048576: true; the input reads as it did. -/
def fnExactAllocationUptoRow : OpenClaim := { program := "ytoehnlbkgpjhmab", sum := "c76ff2e0657ffe6499b10960bb8d132a48606e6b4c7c3dd3ab9873bca3c4e5f4", func := "loop.example/g00060/laws.FnExactAllocation", spec := "fnExactAllocation", inPlace := ["sync/atomic.LoadUint32", "(*internal/sync.Mutex).Lock", "internal/race.Disable", "sync/atomic.CompareAndSwapInt32", "internal/race.Enable", "internal/race.Acquire", "(*internal/sync.Mutex).lockSlow", "internal/sync.runtime_canSpin", "internal/sync.runtime_doSpin", "internal/sync.throw", "internal/sync.runtime_nanotime", "internal/sync.runtime_SemacquireMutex", "sync/atomic.AddInt32", "(*internal/sync.Mutex).Unlock", "internal/race.ReleaseMerge", "(*internal/sync.Mutex).unlockSlow", "internal/sync.fatal", "internal/sync.runtime_Semrelease", "sync/atomic.StoreUint32"], unfollowed := true, recurses := true, apart := false, narrowed := true }
def FnExactAllocationUptoSaid : Prop := fnExactAllocationUptoRow.holds Try.pinned (OpenSpec.upto fnExactAllocationSpec)

/-- 'laws.FnExactEnrol', WHERE WHAT IT READS IS OF BULK AT MOST 1048576: true; the input reads as it did. -/
def fnExactEnrolUptoRow : OpenClaim := { program := "ytoehnlbkgpjhmab", sum := "c76ff2e0657ffe6499b10960bb8d132a48606e6b4c7c3dd3ab9873bca3c4e5f4", func := "loop.example/g00060/laws.FnExactEnrol", spec := "fnExactEnrol", inPlace := ["sync/atomic.LoadUint32", "(*internal/sync.Mutex).Lock", "internal/race.Disable", "sync/atomic.CompareAndSwapInt32", "internal/race.Enable", "internal/race.Acquire", "(*internal/sync.Mutex).lockSlow", "internal/sync.runtime_canSpin", "internal/sync.runtime_doSpin", "internal/sync.throw", "internal/sync.runtime_nanotime", "internal/sync.runtime_SemacquireMutex", "sync/atomic.AddInt32", "(*internal/sync.Mutex).Unlock", "internal/race.ReleaseMerge", "(*internal/sync.Mutex).unlockSlow", "internal/sync.fatal", "internal/sync.runtime_Semrelease", "sync/atomic.StoreUint32"], unfollowed := true, recurses := true, apart := false, narrowed := true }
def FnExactEnrolUptoSaid : Prop := fnExactEnrolUptoRow.holds Try.pinned (OpenSpec.upto fnExactEnrolSpec)

/-- 'laws.FnExactBalance', WHERE WHAT IT READS IS OF BULK AT MOST 1048576: true; the input reads as it did. -/
def fnExactBalanceUptoRow : OpenClaim := { program := "ytoehnlbkgpjhmab", sum := "c76ff2e0657ffe6499b10960bb8d132a48606e6b4c7c3dd3ab9873bca3c4e5f4", func := "loop.example/g00060/laws.FnExactBalance", spec := "fnExactBalance", inPlace := ["sync/atomic.LoadUint32", "(*internal/sync.Mutex).Lock", "internal/race.Disable", "sync/atomic.CompareAndSwapInt32", "internal/race.Enable", "internal/race.Acquire", "(*internal/sync.Mutex).lockSlow", "internal/sync.runtime_canSpin", "internal/sync.runtime_doSpin", "internal/sync.throw", "internal/sync.runtime_nanotime", "internal/sync.runtime_SemacquireMutex", "sync/atomic.AddInt32", "(*internal/sync.Mutex).Unlock", "internal/race.ReleaseMerge", "(*internal/sync.Mutex).unlockSlow", "internal/sync.fatal", "internal/sync.runtime_Semrelease", "sync/atomic.StoreUint32"], unfollowed := true, recurses := true, apart := false, narrowed := true }
def FnExactBalanceUptoSaid : Prop := fnExactBalanceUptoRow.holds Try.pinned (OpenSpec.upto fnExactBalanceSpec)

/-- 'laws.FnExactEligible', WHERE WHAT IT READS IS OF BULK AT MOST 1048576: true; the input reads as it did. -/
def fnExactEligibleUptoRow : OpenClaim := { program := "ytoehnlbkgpjhmab", sum := "c76ff2e0657ffe6499b10960bb8d132a48606e6b4c7c3dd3ab9873bca3c4e5f4", func := "loop.example/g00060/laws.FnExactEligible", spec := "fnExactEligible", apart := false, narrowed := true }
def FnExactEligibleUptoSaid : Prop := fnExactEligibleUptoRow.holds Try.pinned (OpenSpec.upto fnExactEligibleSpec)

/-- 'laws.FnExactRoster', WHERE WHAT IT READS IS OF BULK AT MOST 1048576: true; the input reads as it did. -/
def fnExactRosterUptoRow : OpenClaim := { program := "ytoehnlbkgpjhmab", sum := "c76ff2e0657ffe6499b10960bb8d132a48606e6b4c7c3dd3ab9873bca3c4e5f4", func := "loop.example/g00060/laws.FnExactRoster", spec := "fnExactRoster", unfollowed := true, recurses := true, apart := false, narrowed := true }
def FnExactRosterUptoSaid : Prop := fnExactRosterUptoRow.holds Try.pinned (OpenSpec.upto fnExactRosterSpec)

end Rows
end Go.Proofs.Ytoehnlbkgpjhmab
