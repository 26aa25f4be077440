/-
  The known results, gone through by a function: what it hands on.
-/
import Derived.Test.YtecljmpojninfaaT8
import Derived.RangeFuncNested
import Derived.RangeFuncBound
import Derived.RangeFuncCalls
import Derived.RangeFuncLeaves
import Derived.Shelf.Abstract
import Derived.Shelf.RegionOpen
import Derived.OwnWalkIn
import Derived.TacticsInMore
import Derived.LoopNIn
import Derived.LoopIn
namespace Go.Proofs.Ytecljmpojninfaa
open Go.RowKit Go.Shelf Va Lb
set_option linter.all false
attribute [local go_sem] Oper.semAt_some

/-- The known ones among the first i, each with its place. -/
def knTo (l : List Rs) : Nat → List (Nat × Rs)
  | 0 => []
  | i + 1 => match l[i]? with
    | some r => if r.k then knTo l i ++ [(i, r)] else knTo l i
    | none => knTo l i
theorem knTo_yes {l : List Rs} {i : Nat} {r : Rs} (h : l[i]? = some r) (hk : r.k = true) : knTo l (i + 1) = knTo l i ++ [(i, r)] := by simp [knTo, h, hk]
theorem knTo_no {l : List Rs} {i : Nat} {r : Rs} (h : l[i]? = some r) (hk : r.k = false) : knTo l (i + 1) = knTo l i := by simp [knTo, h, hk]
theorem knTo_len (l : List Rs) : ∀ i, (knTo l i).length ≤ i
  | 0 => Nat.le_refl _
  | i + 1 => by
    have := knTo_len l i
    unfold knTo
    split
    · split
      · rw [List.length_append, List.length_singleton]; omega
      · omega
    · omega
def encR (x : Nat × Rs) : Array Value := #[.int .i64 x.1, aRs x.2]
def KpK (n₀ Bs : Nat) (A B : World) : Prop := Below n₀ A B ∧ ∀ vs t, PB A Bs vs t → PB B Bs vs t
theorem KpK.t {n₀ Bs : Nat} {A B C : World} (h : KpK n₀ Bs A B) (k : KpK n₀ Bs B C) : KpK n₀ Bs A C := ⟨h.1.trans k.1, fun vs t q => k.2 vs t (h.2 vs t q)⟩
theorem KpK.b {n₀ Bs : Nat} {w : World} (hn : n₀ ≤ w.heap.size) (W : World) (l : Nat) (o o' : Obj) (hl : w.heap.size ≤ l) (h : W.heap[l]? = some o) (hc : o.isCells = false) (hw : o.isWalk = false) : KpK n₀ Bs W (W.putObj l o') := by
  refine ⟨belowK_b hn W l o o' hl h hc hw, fun vs t q => ?_⟩
  have hne : l ≠ Bs := fun e => by
    subst e
    have q2 : W.heap[l]? = some (.cells vs t) := q
    rw [h] at q2
    cases q2
    cases hc
  exact (grownBy_keeps_cells (grownBy_putObj' W l o') (fun r e => by cases e; exact ⟨o, h, hc⟩) q rfl).trans q

set_option maxRecDepth 100000 in
set_option maxHeartbeats 4000000 in
theorem known1_in (F : Fence) (n : Nat) (hF : ∀ f, F.fn f) (hro : F.round = none) (hn : 1 ≤ n) (l Bs n₀ cap NB : Nat) (ao : Option Addr) (S : List Rs) (hreach : S.length ≤ 1048576) (J Jx : List (Nat × Rs) → World → Prop) (hJa : AbidesFrom NB J)
    (hY : ∀ pre x W, J pre W → pre.length < S.length → YieldAt F (n - 1) Try.prog l (encR x) W fun e W' =>
      (e = .returned (.bool true) ∧ J (pre ++ [x]) W' ∧ KpK n₀ Bs W W') ∨ (e = .returned (.bool false) ∧ Jx (pre ++ [x]) W'))
    (W w0 : World) (hw0 : w0.heap.size = n₀) (hB0 : Below n₀ w0 W) (hBs : PB W Bs #[.slice ao S.length cap] 41) (hI : VRw 3 cvRs w0 (.slice ao S.length cap) S) (h0 : J [] W) :
    CallsIn F n Try.prog 69 #[.func (.yield l) #[] #[], .pointer (some ⟨Bs, 0, none⟩)] W fun e W' => (∃ v, e = .returned v) ∧
      ((∃ ys, ys = knTo S S.length ∧ J ys W') ∨ (∃ pre, True ∧ Jx pre W')) := by
  refine callsIn_of_wp Try.func69 rfl (hF _) ?_ hro
  have hc0 : W.cell? ⟨Bs, 0, none⟩ = some (.slice ao S.length cap) := hBs.cell 0
  have HBS := hidden hBs
  clear hBs
  simp only [Try.ntmps69, List.size_toArray, List.length_cons, List.length_nil, Nat.reduceAdd, Nat.reduceSub, Array.replicate_succ, Array.replicate_zero, List.push_toArray, List.append_toArray, List.nil_append, List.cons_append]
  gi_wp2
  gi_loopw [3, 4, 7] (fun _ _ iv wr => ∃ i : Nat, i ≤ S.length ∧ iv = .int .i64 i ∧ J (knTo S i) wr ∧ Below n₀ w0 wr ∧ Hid (PB wr Bs #[.slice ao S.length cap] 41)) (fun _ _ iv _ => S.length - (intOf iv).toNat)
  case atStart => exact ⟨0, Nat.zero_le _, rfl, h0, hB0, HBS⟩
  case round =>
    clear hc0 HBS hB0 h0
    obtain ⟨i, hi, rfl, hJs, hB, HBS⟩ := hrel
    by_cases hlt : i < S.length
    · have hlti : (i : Int) < (S.length : Int) := by omega
      obtain ⟨x, hx⟩ := some_of S i hlt
      obtain ⟨g, off, rfl, hg, hcs⟩ := (hI.below (by rw [hw0]; exact hB)).at hx
      have c0 : wr.cell? ⟨g, off + i * 3, none⟩ = some (.int .i64 x.v) := hcs 0 (by omega)
      have c1 : wr.cell? ⟨g, off + i * 3 + 1, none⟩ = some (.int .i64 x.t) := hcs 1 (by omega)
      have c2 : wr.cell? ⟨g, off + i * 3 + 2, none⟩ = some (.bool x.k) := hcs 2 (by omega)
      have hJ2 := hJa _ _ _ none hJs (World.grownBy_alloc wr (.cells #[.int .i64 x.v, .int .i64 x.t, .bool x.k] 46) none) (fun r e => by cases e)
      have bx : Below wr.heap.size wr (wr.alloc (.cells #[.int .i64 x.v, .int .i64 x.t, .bool x.k] 46)) := (Below.refl _ _).alloc (Nat.le_refl _) _
      have hsz : n₀ ≤ wr.heap.size := by rw [← hw0]; exact hB.size
      have HB2 := hidden (hB.trans (bx.mono hsz))
      have HBS2 := hidden (HBS.out.below bx)
      have HX := hidden hx
      clear hcs hx hJs hB HBS bx
      cases hk : x.k with
      | false =>
        have HU : Hid (knTo S (i + 1) = knTo S i) := knTo_no HX.out hk
        rw [hk] at c2 hJ2 HB2 HBS2
        have HJ2 := hidden hJ2
        clear hk hJ2
        gi_wp2
        go_roundw
        case rel => exact ⟨i + 1, by omega, rfl, by rw [HU.out]; exact HJ2.out, HB2.out, HBS2⟩
        case measure => simp [intOf]; omega
      | true =>
        have HU : Hid (knTo S (i + 1) = knTo S i ++ [(i, x)]) := knTo_yes HX.out hk
        obtain ⟨fn, tmps, assign, body, hy, hR⟩ := hY (knTo S i) (i, x) _ hJ2 (Nat.lt_of_le_of_lt (knTo_len S i) hlt)
        unfold encR aRs at hy
        dsimp only at hy
        rw [hk] at c2 HB2 HBS2 hy
        rw [hk] at hR
        have HBB := hidden (And.intro HB2.out HBS2.out)
        clear hk hJ2 HB2 HBS2
        gi_wp2
        refine hR.mono ?_
        rintro e W3 (⟨rfl, hJ3, hk3⟩ | ⟨rfl, hJx3⟩)
        · have HJ3 := hidden hJ3
          have HK3 := hidden hk3
          clear hJ3 hk3
          gi_wp2
          go_roundw
          case rel => exact ⟨i + 1, by omega, rfl, by rw [HU.out]; exact HJ3.out, HBB.out.1.trans HK3.out.1, HK3.out.2 _ _ HBB.out.2⟩
          case measure => simp [intOf]; omega
        · gi_wp2
          refine bodyPost_ret (results_none rfl _ _ _) rfl ?_
          exact ⟨⟨_, rfl⟩, .inr ⟨_, trivial, hJx3⟩⟩
    · obtain rfl : i = S.length := by omega
      have q0 : ¬ (S.length : Int) < (S.length : Int) := by omega
      gi_wp2
      go_end0
      first | exact ⟨⟨_, rfl⟩, .inl ⟨_, rfl, hJs⟩⟩ | exact ⟨⟨_, rfl⟩, .inl hJs⟩

set_option maxRecDepth 20000 in
set_option maxHeartbeats 1000000 in
theorem known_in (F : Fence) (n : Nat) (hF : ∀ f, F.fn f) (hro : F.round = none) (a : Option Addr) (len cap : Nat) (w : World) :
    CallsIn F n Try.prog 54 #[.slice a len cap] w fun e w' => e = .returned (.func (.func 69) #[] #[.pointer (some ⟨w.heap.size, 0, none⟩)]) ∧ w' = w.alloc (.cells #[.slice a len cap] 41) := by
  refine callsIn_of_wp Try.func54 rfl (hF _) ?_ hro
  simp only [Try.ntmps54, List.size_toArray, List.length_cons, List.length_nil, Nat.reduceAdd, Nat.reduceSub, Array.replicate_succ, Array.replicate_zero, List.push_toArray, List.append_toArray, List.nil_append, List.cons_append]
  gi_wp2
  go_ret
  exact ⟨rfl, rfl⟩

theorem known_stops (F : Fence) (n : Nat) (hF : ∀ f, F.fn f) (hro : F.round = none) (hn : 1 ≤ n) (Bs cap : Nat) (ao : Option Addr) (S : List Rs) (hreach : S.length ≤ 1048576) (w0 w : World) (h0 : Below w0.heap.size w0 w)
    (hBs : PB w Bs #[.slice ao S.length cap] 41) (hI : VRw 3 cvRs w0 (.slice ao S.length cap) S) :
    SeqStopsK F n Try.prog 69 #[.pointer (some ⟨Bs, 0, none⟩)] encR (KpK w0.heap.size Bs) (fun ys => ys = knTo S S.length) (fun _ => True) S.length w :=
  fun l J Jx W hW hJ _ hY h1 => known1_in F n hF hro hn l Bs w0.heap.size cap W.heap.size ao S hreach J Jx hJ hY W w0 rfl (h0.trans (hW.mono h0.size)) (hBs.below hW) hI h1
end Go.Proofs.Ytecljmpojninfaa
