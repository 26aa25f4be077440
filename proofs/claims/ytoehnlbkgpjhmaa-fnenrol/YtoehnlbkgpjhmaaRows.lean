/-
  No cell of these rows narrows 'for every input' (looked for: loops, veiled, ifaces, maps, wideKeys, modest, calm, conditions, laid).
  DERIVED. THE GIVEN ROWS OF THIS SEAT. 6 by the template 'for every input the law returns true; each argument reads behind the call as it read before'; 0 by the template 'total and deterministic' (their statements: YtoehnlbkgpjhmaaTotals.lean).
  GIVEN WITH THE SEED: the statements are not yours to turn. If you find one false, say at which input.
  Laid BY PROGRAM, IN A SANDBOX (cutbox-rows.mjs): the forced cells as the released guide's own fill.sh prints them over the translation 8d8dbd4f0cca3a5b… (all of the seat's roots in one cut). By AI agents, Wed Nov 11 2026. No macro, syntax, notation, axiom, sorry.
-/
import Derived.Test.YtoehnlbkgpjhmaaChecked
import GoSem.Claim
import GoSem.ClaimJoined
import GoSem.ClaimMapViews
import Derived.JoinedTies
import Derived.KernelRfl
namespace Go.Proofs.Ytoehnlbkgpjhmaa
/- THE CELL 'sum', in the pinned program and in every row, IS THE sha256 OF THE DUMP (.gsa) THAT YtoehnlbkgpjhmaaProg.lean LOADS. Nothing in Lean hashes anything: it is a label: what it is worth is what the hold of that sum in a sandbox is worth. -/
noncomputable def Try.pinned : Pinned := { name := "ytoehnlbkgpjhmaa", sum := "8d8dbd4f0cca3a5b83dba718ebac4303eaaf9928f54274b336a8a43203e7a19f", checked := Try.checked }
namespace Rows
def none {H : Type} : Left H := { results := [], args := [] }

/-- 'laws.FnBlocks': WHATEVER THE INPUT: true; the input reads as it did. -/
def fnBlocksSpec : ChangeSpec := { name := "fnBlocks", fn := fun _ => fun
  | [d] => { results := [.lit (.bool true)], args := [d] }
  | _ => none }
def fnBlocksRow : OpenClaim := { program := "ytoehnlbkgpjhmaa", sum := "8d8dbd4f0cca3a5b83dba718ebac4303eaaf9928f54274b336a8a43203e7a19f", func := "loop.example/g00060/laws.FnBlocks", spec := "fnBlocks", inPlace := ["sync/atomic.LoadUint32", "(*internal/sync.Mutex).Lock", "internal/race.Disable", "sync/atomic.CompareAndSwapInt32", "internal/race.Enable", "internal/race.Acquire", "(*internal/sync.Mutex).lockSlow", "internal/sync.runtime_canSpin", "internal/sync.runtime_doSpin", "internal/sync.throw", "internal/sync.runtime_nanotime", "internal/sync.runtime_SemacquireMutex", "sync/atomic.AddInt32", "(*internal/sync.Mutex).Unlock", "internal/race.ReleaseMerge", "(*internal/sync.Mutex).unlockSlow", "internal/sync.fatal", "internal/sync.runtime_Semrelease", "sync/atomic.StoreUint32"], unfollowed := true, recurses := true, apart := false }
def FnBlocksSaid : Prop := fnBlocksRow.holds Try.pinned (OpenSpec.ofChange fnBlocksSpec)

/-- ITS FALSE NEIGHBOUR: 'it returns false'. Refute it at one input. -/
def fnBlocksWrong : ChangeSpec := { name := "fnBlocks", fn := fun _ => fun
  | [d] => { results := [.lit (.bool false)], args := [d] }
  | _ => none }
def FnBlocksWrongFalsely : Prop := fnBlocksRow.holds Try.pinned (OpenSpec.ofChange fnBlocksWrong)

/-- 'laws.FnEnrol': WHATEVER THE INPUT: true; the input reads as it did. -/
def fnEnrolSpec : ChangeSpec := { name := "fnEnrol", fn := fun _ => fun
  | [d] => { results := [.lit (.bool true)], args := [d] }
  | _ => none }
def fnEnrolRow : OpenClaim := { program := "ytoehnlbkgpjhmaa", sum := "8d8dbd4f0cca3a5b83dba718ebac4303eaaf9928f54274b336a8a43203e7a19f", func := "loop.example/g00060/laws.FnEnrol", spec := "fnEnrol", inPlace := ["sync/atomic.LoadUint32", "(*internal/sync.Mutex).Lock", "internal/race.Disable", "sync/atomic.CompareAndSwapInt32", "internal/race.Enable", "internal/race.Acquire", "(*internal/sync.Mutex).lockSlow", "internal/sync.runtime_canSpin", "internal/sync.runtime_doSpin", "internal/sync.throw", "internal/sync.runtime_nanotime", "internal/sync.runtime_SemacquireMutex", "sync/atomic.AddInt32", "(*internal/sync.Mutex).Unlock", "internal/race.ReleaseMerge", "(*internal/sync.Mutex).unlockSlow", "internal/sync.fatal", "internal/sync.runtime_Semrelease", "sync/atomic.StoreUint32"], unfollowed := true, recurses := true, apart := false }
def FnEnrolSaid : Prop := fnEnrolRow.holds Try.pinned (OpenSpec.ofChange fnEnrolSpec)

/-- ITS FALSE NEIGHBOUR: 'it returns false'. Refute it at one input. -/
def fnEnrolWrong : ChangeSpec := { name := "fnEnrol", fn := fun _ => fun
  | [d] => { results := [.lit (.bool false)], args := [d] }
  | _ => none }
def FnEnrolWrongFalsely : Prop := fnEnrolRow.holds Try.pinned (OpenSpec.ofChange fnEnrolWrong)

/-- 'laws.FnEligible': WHATEVER THE INPUT: true; the input reads as it did. -/
def fnEligibleSpec : ChangeSpec := { name := "fnEligible", fn := fun _ => fun
  | [d] => { results := [.lit (.bool true)], args := [d] }
  | _ => none }
def fnEligibleRow : OpenClaim := { program := "ytoehnlbkgpjhmaa", sum := "8d8dbd4f0cca3a5b83dba718ebac4303eaaf9928f54274b336a8a43203e7a19f", func := "loop.example/g00060/laws.FnEligible", spec := "fnEligible", apart := false }
def FnEligibleSaid : Prop := fnEligibleRow.holds Try.pinned (OpenSpec.ofChange fnEligibleSpec)

/-- ITS FALSE NEIGHBOUR: 'it returns false'. Refute it at one input. -/
def fnEligibleWrong : ChangeSpec := { name := "fnEligible", fn := fun _ => fun
  | [d] => { results := [.lit (.bool false)], args := [d] }
  | _ => none }
def FnEligibleWrongFalsely : Prop := fnEligibleRow.holds Try.pinned (OpenSpec.ofChange fnEligibleWrong)

/-- 'laws.FnRoster': WHATEVER THE INPUT: true; the input reads as it did. -/
def fnRosterSpec : ChangeSpec := { name := "fnRoster", fn := fun _ => fun
  | [d] => { results := [.lit (.bool true)], args := [d] }
  | _ => none }
def fnRosterRow : OpenClaim := { program := "ytoehnlbkgpjhmaa", sum := "8d8dbd4f0cca3a5b83dba718ebac4303eaaf9928f54274b336a8a43203e7a19f", func := "loop.example/g00060/laws.FnRoster", spec := "fnRoster", unfollowed := true, recurses := true, apart := false }
def FnRosterSaid : Prop := fnRosterRow.holds Try.pinned (OpenSpec.ofChange fnRosterSpec)

/-- ITS FALSE NEIGHBOUR: 'it returns false'. Refute it at one input. -/
def fnRosterWrong : ChangeSpec := { name := "fnRoster", fn := fun _ => fun
  | [d] => { results := [.lit (.bool false)], args := [d] }
  | _ => none }
def FnRosterWrongFalsely : Prop := fnRosterRow.holds Try.pinned (OpenSpec.ofChange fnRosterWrong)

/-- 'laws.FnExactReadMessage': WHATEVER THE INPUT: true; the input reads as it did. -/
def fnExactReadMessageSpec : ChangeSpec := { name := "fnExactReadMessage", fn := fun _ => fun
  | [d] => { results := [.lit (.bool true)], args := [d] }
  | _ => none }
def fnExactReadMessageRow : OpenClaim := { program := "ytoehnlbkgpjhmaa", sum := "8d8dbd4f0cca3a5b83dba718ebac4303eaaf9928f54274b336a8a43203e7a19f", func := "loop.example/g00060/laws.FnExactReadMessage", spec := "fnExactReadMessage", inPlace := ["internal/bytealg.IndexByteString"], apart := false }
def FnExactReadMessageSaid : Prop := fnExactReadMessageRow.holds Try.pinned (OpenSpec.ofChange fnExactReadMessageSpec)

/-- ITS FALSE NEIGHBOUR: 'it returns false'. Refute it at one input. -/
def fnExactReadMessageWrong : ChangeSpec := { name := "fnExactReadMessage", fn := fun _ => fun
  | [d] => { results := [.lit (.bool false)], args := [d] }
  | _ => none }
def FnExactReadMessageWrongFalsely : Prop := fnExactReadMessageRow.holds Try.pinned (OpenSpec.ofChange fnExactReadMessageWrong)

/-- 'laws.FnExactTrialOk': WHATEVER THE INPUT: true; the input reads as it did. -/
def fnExactTrialOkSpec : ChangeSpec := { name := "fnExactTrialOk", fn := fun _ => fun
  | [d] => { results := [.lit (.bool true)], args := [d] }
  | _ => none }
def fnExactTrialOkRow : OpenClaim := { program := "ytoehnlbkgpjhmaa", sum := "8d8dbd4f0cca3a5b83dba718ebac4303eaaf9928f54274b336a8a43203e7a19f", func := "loop.example/g00060/laws.FnExactTrialOk", spec := "fnExactTrialOk", apart := false }
def FnExactTrialOkSaid : Prop := fnExactTrialOkRow.holds Try.pinned (OpenSpec.ofChange fnExactTrialOkSpec)

/-- ITS FALSE NEIGHBOUR: 'it returns false'. Refute it at one input. -/
def fnExactTrialOkWrong : ChangeSpec := { name := "fnExactTrialOk", fn := fun _ => fun
  | [d] => { results := [.lit (.bool false)], args := [d] }
  | _ => none }
def FnExactTrialOkWrongFalsely : Prop := fnExactTrialOkRow.holds Try.pinned (OpenSpec.ofChange fnExactTrialOkWrong)

/- THE SECOND FORM. 'bulk': how many values and letters a reading holds, each counted each time it is reached (what is shared counts as often as it is met; a slice's spare places count too). A statement '..UptoSaid' is the law's where the arguments, and the package variables that the reading takes, are together of bulk at most 1048576: NARROWER than '..Said'. Prove '..Said' where nothing that the law and all that it calls make is longer than what came in: it says more and counts as full. Else prove '..UptoSaid'. A law counts once. -/
mutual
def uptoBulk {H : Type} : DataW H → Nat
  | .lit (.string bytes) => bytes.length + 1
  | .lit _ => 1
  | .nil => 1
  | .ptr d => uptoBulk d + 1
  | .slice elems spare => uptoBulkAll elems + uptoBulkAll spare + 1
  | .agg parts => uptoBulkAll parts + 1
  | .iface _ d => uptoBulk d + 1
  | .map entries => uptoBulkEntries entries + 1
  | .held _ => 1
def uptoBulkAll {H : Type} : List (DataW H) → Nat
  | [] => 0
  | d :: r => uptoBulk d + uptoBulkAll r
def uptoBulkEntries {H : Type} : List (Lit × DataW H) → Nat
  | [] => 0
  | x :: r => uptoBulkEntry x + uptoBulkEntries r
def uptoBulkEntry {H : Type} : Lit × DataW H → Nat
  | (.string bytes, d) => bytes.length + uptoBulk d + 1
  | (_, d) => uptoBulk d + 1
 end
def uptoSmall : (H : Type) → List (DataW H) → Bool := fun _ ds => decide (uptoBulkAll ds ≤ 1048576)
def OpenSpec.upto (s : _root_.Go.ChangeSpec) : _root_.Go.OpenSpec := { _root_.Go.OpenSpec.ofChange s with cond := some uptoSmall }

/-- 'laws.FnBlocks', WHERE WHAT IT READS IS OF BULK AT MOST 1048576: true; the input reads as it did. -/
def fnBlocksUptoRow : OpenClaim := { program := "ytoehnlbkgpjhmaa", sum := "8d8dbd4f0cca3a5b83dba718ebac4303eaaf9928f54274b336a8a43203e7a19f", func := "loop.example/g00060/laws.FnBlocks", spec := "fnBlocks", inPlace := ["sync/atomic.LoadUint32", "(*internal/sync.Mutex).Lock", "internal/race.Disable", "sync/atomic.CompareAndSwapInt32", "internal/race.Enable", "internal/race.Acquire", "(*internal/sync.Mutex).lockSlow", "internal/sync.runtime_canSpin", "internal/sync.runtime_doSpin", "internal/sync.throw", "internal/sync.runtime_nanotime", "internal/sync.runtime_SemacquireMutex", "sync/atomic.AddInt32", "(*internal/sync.Mutex).Unlock", "internal/race.ReleaseMerge", "(*internal/sync.Mutex).unlockSlow", "internal/sync.fatal", "internal/sync.runtime_Semrelease", "sync/atomic.StoreUint32"], unfollowed := true, recurses := true, apart := false, narrowed := true }
def FnBlocksUptoSaid : Prop := fnBlocksUptoRow.holds Try.pinned (OpenSpec.upto fnBlocksSpec)

/-- 'laws.FnEnrol', WHERE WHAT IT READS IS OF BULK AT MOST 1048576: true; the input reads as it did. -/
def fnEnrolUptoRow : OpenClaim := { program := "ytoehnlbkgpjhmaa", sum := "8d8dbd4f0cca3a5b83dba718ebac4303eaaf9928f54274b336a8a43203e7a19f", func := "loop.example/g00060/laws.FnEnrol", spec := "fnEnrol", inPlace := ["sync/atomic.LoadUint32", "(*internal/sync.Mutex).Lock", "internal/race.Disable", "sync/atomic.CompareAndSwapInt32", "internal/race.Enable", "internal/race.Acquire", "(*internal/sync.Mutex).lockSlow", "internal/sync.runtime_canSpin", "internal/sync.runtime_doSpin", "internal/sync.throw", "internal/sync.runtime_nanotime", "internal/sync.runtime_SemacquireMutex", "sync/atomic.AddInt32", "(*internal/sync.Mutex).Unlock", "internal/race.ReleaseMerge", "(*internal/sync.Mutex).unlockSlow", "internal/sync.fatal", "internal/sync.runtime_Semrelease", "sync/atomic.StoreUint32"], unfollowed := true, recurses := true, apart := false, narrowed := true }
def FnEnrolUptoSaid : Prop := fnEnrolUptoRow.holds Try.pinned (OpenSpec.upto fnEnrolSpec)

/-- 'laws.FnEligible', WHERE WHAT IT READS IS OF BULK AT MOST 1048576: true; the input reads as it did. -/
def fnEligibleUptoRow : OpenClaim := { program := "ytoehnlbkgpjhmaa", sum := "8d8dbd4f0cca3a5b83dba718ebac4303eaaf9928f54274b336a8a43203e7a19f", func := "loop.example/g00060/laws.FnEligible", spec := "fnEligible", apart := false, narrowed := true }
def FnEligibleUptoSaid : Prop := fnEligibleUptoRow.holds Try.pinned (OpenSpec.upto fnEligibleSpec)

/-- 'laws.FnRoster', WHERE WHAT IT READS IS OF BULK AT MOST 1048576: true; the input reads as it did. -/
def fnRosterUptoRow : OpenClaim := { program := "ytoehnlbkgpjhmaa", sum := "8d8dbd4f0cca3a5b83dba718ebac4303eaaf9928f54274b336a8a43203e7a19f", func := "loop.example/g00060/laws.FnRoster", spec := "fnRoster", unfollowed := true, recurses := true, apart := false, narrowed := true }
def FnRosterUptoSaid : Prop := fnRosterUptoRow.holds Try.pinned (OpenSpec.upto fnRosterSpec)

/-- 'laws.FnExactReadMessage', WHERE WHAT IT READS IS OF BULK AT MOST 1048576: true; the input reads as it did. -/
def fnExactReadMessageUptoRow : OpenClaim := { program := "ytoehnlbkgpjhmaa", sum := "8d8dbd4f0cca3a5b83dba718ebac4303eaaf9928f54274b336a8a43203e7a19f", func := "loop.example/g00060/laws.FnExactReadMessage", spec := "fnExactReadMessage", inPlace := ["internal/bytealg.IndexByteString"], apart := false, narrowed := true }
def FnExactReadMessageUptoSaid : Prop := fnExactReadMessageUptoRow.holds Try.pinned (OpenSpec.upto fnExactReadMessageSpec)

/-- 'laws.FnExactTrialOk', WHERE WHAT IT READS IS OF BULK AT MOST 1048576: true; the input reads as it did. -/
def fnExactTrialOkUptoRow : OpenClaim := { program := "ytoehnlbkgpjhmaa", sum := "8d8dbd4f0cca3a5b83dba718ebac4303eaaf9928f54274b336a8a43203e7a19f", func := "loop.example/g00060/laws.FnExactTrialOk", spec := "fnExactTrialOk", apart := false, narrowed := true }
def FnExactTrialOkUptoSaid : Prop := fnExactTrialOkUptoRow.holds Try.pinned (OpenSpec.upto fnExactTrialOkSpec)

end Rows
end Go.Proofs.Ytoehnlbkgpjhmaa
