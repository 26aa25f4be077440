/-
  A book of joins as a map of the call's own: what it holds, asked and written.
-/
import Derived.Test.YtdnnenklkfkhcaaRows
import Derived.Test.YtdnnenklkfkhcaaJn
import Derived.WalkKit
import Derived.WalkSpells
import Derived.WalkLawsBesides
import Derived.BigQuiet
import Derived.Deep.QuietTactic
import Derived.Maps.Own
import Derived.Maps.OwnOps
import Derived.Maps.OwnSet
import Derived.Maps.Views
namespace Go.Proofs.Ytdnnenklkfkhcaa
open Go.RowKit Jn Go.Maps

def pr (a b : Int) : DataW Unit := .agg [.lit (.int .i64 a), .lit (.int .i64 b)]
def pairL (l : List Value) : Option (DataW Unit × List MemPlace) :=
  match l with
  | [.int .i64 a, .int .i64 b] => some (pr a b, [])
  | _ => none
def pairE (v : Value) : Option (DataW Unit × List MemPlace) :=
  match v with
  | .agg cs => pairL cs.toList
  | _ => none
theorem pairE_mk (a b : Int) : pairE (.agg #[.int .i64 a, .int .i64 b]) = some (pr a b, []) := rfl
theorem pairL_inv {l : List Value} {d : DataW Unit} {ps : List MemPlace} (h : pairL l = some (d, ps)) : ∃ a b, l = [.int .i64 a, .int .i64 b] ∧ d = pr a b := by
  unfold pairL at h
  split at h
  · rename_i a b
    simp only [Option.some.injEq, Prod.mk.injEq] at h
    exact ⟨a, b, rfl, h.1.symm⟩
  · cases h
theorem pairE_inv {v : Value} {d : DataW Unit} {ps : List MemPlace} (h : pairE v = some (d, ps)) : ∃ a b, v = .agg #[.int .i64 a, .int .i64 b] ∧ d = pr a b := by
  cases v with
  | agg cs =>
    obtain ⟨a, b, h1, h2⟩ := pairL_inv (show pairL cs.toList = some (d, ps) from h)
    refine ⟨a, b, ?_, h2⟩
    have : cs = #[.int .i64 a, .int .i64 b] := Array.toList_inj.1 (by rw [h1])
    rw [this]
  | _ => cases h
theorem pr_inj {a b c d : Int} (h : pr a b = pr c d) : a = c ∧ b = d := by
  unfold pr at h
  simpa using h
def wfI (x : Int) : Prop := (Lit.int .i64 x).wf = true
theorem wfI_of {x : Int} (h0 : -1000000 ≤ x) (h1 : x ≤ 1000000) : wfI x := WalkArith.wf_i64 (by omega)
theorem key2 : Keyed Try.prog 2 := int_keyed Try.underlying2
theorem zero65 (w : World) : (zeroValue 91).run Try.prog w = .ok (.agg #[.int .i64 0, .int .i64 0]) w := by kernel_rfl
theorem map56 : Try.prog.underlying 85 = some (.map 2 91) := Try.underlying85

/-- What a book says of x: its keep and its place. -/
def two (o : Option (Int × Int)) : DataW Unit := match o with | some p => pr p.1 p.2 | none => pr 0 0
/-- Block B is a map of at most n entries that holds f. -/
def Bk (w : World) (B n : Nat) (f : Int → Option (Int × Int)) : Prop :=
  ∃ D : DataW Unit, w.ownsMap Try.prog 2 pairE B n D ∧ ∀ x, wfI x → Maps.has D (.int .i64 x) = (f x).isSome ∧ D.atKey (.int .i64 x) (pr 0 0) = two (f x)

theorem Bk.look_ok {w : World} {B n : Nat} {f : Int → Option (Int × Int)} (h : Bk w B n f) (x : Int) (hx : wfI x) :
    ∃ a b, (Instr.lookup 85 (.map (some B)) (.int .i64 x) true).run Try.prog w = .ok (.tuple #[.agg #[.int .i64 a, .int .i64 b], .bool (f x).isSome]) w ∧ ∀ p, f x = some p → a = p.1 ∧ b = p.2 := by
  obtain ⟨D, ho, hf⟩ := h
  obtain ⟨v, ps, hrun, hv⟩ := ho.look_ok key2 map56 (zero65 w) (pairE_mk 0 0) (keyOf_int_mk Try.underlying2 hx)
  obtain ⟨h1, h2⟩ := hf x hx
  obtain ⟨a, b, rfl, hd⟩ := pairE_inv hv
  rw [h1] at hrun
  refine ⟨a, b, hrun, fun p hp => ?_⟩
  rw [h2, hp] at hd
  have := pr_inj hd
  exact ⟨this.1.symm, this.2.symm⟩
theorem Bk.look {w : World} {B n : Nat} {f : Int → Option (Int × Int)} (h : Bk w B n f) (x : Int) (hx : wfI x) (p : Int × Int) (hp : f x = some p) :
    (Instr.lookup 85 (.map (some B)) (.int .i64 x) false).run Try.prog w = .ok (.agg #[.int .i64 p.1, .int .i64 p.2]) w := by
  obtain ⟨D, ho, hf⟩ := h
  obtain ⟨v, ps, hrun, hv⟩ := ho.lookup key2 map56 (zero65 w) (pairE_mk 0 0) (keyOf_int_mk Try.underlying2 hx)
  obtain ⟨h1, h2⟩ := hf x hx
  obtain ⟨a, b, rfl, hd⟩ := pairE_inv hv
  rw [h2, hp] at hd
  have := pr_inj hd
  rw [hrun, this.1, this.2]
theorem Bk.lt {w : World} {B n : Nat} {f : Int → Option (Int × Int)} (h : Bk w B n f) : B < w.heap.size := by
  obtain ⟨D, ho, _⟩ := h; exact ho.lt
theorem Bk.below {w w' : World} {B n : Nat} {f : Int → Option (Int × Int)} (h : Bk w B n f) (hb : Below w.heap.size w w') : Bk w' B n f := by
  have hl := h.lt
  obtain ⟨D, ⟨es, c, h1, h2⟩, hf⟩ := h
  exact ⟨D, ⟨es, c, (hb.block B hl).trans h1, h2⟩, hf⟩
theorem Bk.made (w : World) : Bk (w.alloc (.map #[] 0)) w.heap.size 0 (fun _ => none) :=
  ⟨.map [], World.ownsMap_made w _ _ _, fun _ _ => ⟨rfl, rfl⟩⟩
theorem Bk.congr {w : World} {B n : Nat} {f g : Int → Option (Int × Int)} (h : Bk w B n f) (e : ∀ x, wfI x → f x = g x) : Bk w B n g := by
  obtain ⟨D, ho, hf⟩ := h
  exact ⟨D, ho, fun x hx => by rw [← e x hx]; exact hf x hx⟩
theorem Bk.put {w w' : World} {B n : Nat} {f : Int → Option (Int × Int)} {D : DataW Unit} (hD : w.ownsMap Try.prog 2 pairE B n D) (hf : ∀ x, wfI x → Maps.has D (.int .i64 x) = (f x).isSome ∧ D.atKey (.int .i64 x) (pr 0 0) = two (f x))
    (k a b : Int) (hk : wfI k) (h : w'.ownsMap Try.prog 2 pairE B (n + 1) (D.put (.int .i64 k) (pr a b))) : Bk w' B (n + 1) (fun x => if x = k then some (a, b) else f x) := by
  refine ⟨_, h, fun x hx => ?_⟩
  by_cases e : x = k
  · subst e
    simp only [if_true]
    exact ⟨has_put_same hD.isMap (show WideAt.IsKeyLit (Lit.int .i64 x) from trivial) _, atKey_put_same hD.isMap (show WideAt.IsKeyLit (Lit.int .i64 x) from trivial) _ _⟩
  · simp only [if_neg e]
    have hne : (Lit.int .i64 x) ≠ .int .i64 k := fun q => e (by injection q)
    rw [has_put_other hne, atKey_put_other hne]
    exact hf x hx

set_option maxHeartbeats 400000 in
theorem isgone_any (B n : Nat) (f : Int → Option (Int × Int)) (x : Int) (w : World) (h : Bk w B n f) (hx : wfI x) :
    Calls Try.prog 63 #[.map (some B), .int .i64 x] w fun e w' => e = .returned (.bool (f x).isSome) ∧ Below w.heap.size w w' := by
  obtain ⟨a, b, hrun, _⟩ := h.look_ok x hx
  generalize (f x).isSome = t at *
  go_enter Try.func63, Try.ntmps63
  go_wp2
  go_ret
  exact ⟨rfl, (Below.refl _ _).alloc (Nat.le_refl _) _⟩
theorem onto {w W w2 : World} (hv : Below w.heap.size w W) (h : Below W.heap.size W w2) : Below w.heap.size w w2 := hv.trans (h.mono hv.size)

set_option maxHeartbeats 400000 in
theorem anygone_any (B n : Nat) (f : Int → Option (Int × Int)) (k g : Int) (w : World) (h : Bk w B n f) (hk : wfI k) (hg : wfI g) :
    Calls Try.prog 60 #[.map (some B), .int .i64 k, .int .i64 g] w fun e w' => e = .returned (.bool ((f k).isSome || (f g).isSome)) ∧ Below w.heap.size w w' := by
  have h1 := isgone_any B n f k w h hk
  cases hk1 : (f k).isSome with
  | true =>
    rw [hk1] at h1
    go_enter Try.func60, Try.ntmps60
    go_wp2_with fail
    refine h1.mono ?_
    rintro e w1 ⟨rfl, b1⟩
    go_wp2_with fail
    go_ret
    exact ⟨rfl, b1⟩
  | false =>
    rw [hk1] at h1
    have h2 := fun W (hb : Below w.heap.size w W) => isgone_any B n f g W (h.below hb) hg
    rw [Bool.false_or]
    generalize (f g).isSome = t at *
    go_enter Try.func60, Try.ntmps60
    go_wp2_with fail
    refine h1.mono ?_
    rintro e w1 ⟨rfl, b1⟩
    go_wp2_with fail
    refine (h2 w1 b1).mono ?_
    rintro e w2 ⟨rfl, hb2⟩
    have b2 := onto b1 hb2
    go_wp2_with fail
    go_ret
    exact ⟨rfl, b2⟩

set_option maxHeartbeats 400000 in
theorem pers_any (x : Int) (w : World) : Calls Try.prog 64 #[.int .i64 x] w fun e w' => e = .returned (.bool (pers x)) ∧ w' = w := by
  unfold pers
  by_cases h0 : 0 ≤ x
  · by_cases h1 : x < 1000
    · rw [decide_eq_true h0, decide_eq_true (show x ≤ 999 by omega)]
      go_enter Try.func64, Try.ntmps64
      go_wp2
      go_ret
      exact ⟨rfl, rfl⟩
    · rw [decide_eq_true h0, decide_eq_false (show ¬ x ≤ 999 by omega)]
      go_enter Try.func64, Try.ntmps64
      go_wp2
      go_ret
      exact ⟨rfl, rfl⟩
  · rw [decide_eq_false h0, Bool.false_and]
    go_enter Try.func64, Try.ntmps64
    go_wp2
    go_ret
    exact ⟨rfl, rfl⟩

set_option maxHeartbeats 400000 in
theorem may_any (k g : Int) (w : World) : Calls Try.prog 58 #[.int .i64 k, .int .i64 g] w fun e w' => e = .returned (.bool (may k g)) ∧ w' = w := by
  have h1 := fun w => pers_any k w
  have h2 := fun w => pers_any g w
  unfold may
  generalize pers k = a at *
  generalize pers g = b at *
  cases a with
  | false =>
    go_enter Try.func58, Try.ntmps58
    go_wp2_with fail
    refine (h1 _).mono ?_
    rintro e w1 ⟨rfl, hw1⟩
    have hw2 := hw1.symm
    clear hw1
    subst hw2
    go_wp2_with fail
    go_ret
    exact ⟨rfl, rfl⟩
  | true =>
    cases b with
    | false =>
      go_enter Try.func58, Try.ntmps58
      go_wp2_with fail
      refine (h1 _).mono ?_
      rintro e w1 ⟨rfl, hw1⟩
      have hw2 := hw1.symm
      clear hw1
      subst hw2
      go_wp2_with fail
      refine (h2 _).mono ?_
      rintro e w1 ⟨rfl, hw1⟩
      have hw2 := hw1.symm
      clear hw1
      subst hw2
      go_wp2_with fail
      go_ret
      exact ⟨rfl, rfl⟩
    | true =>
      by_cases hkg : k = g
      · have hb : (k == g) = true := by simp [hkg]
        rw [decide_eq_true hkg]
        have HKG : Hid (k = g) := hkg
        clear hkg
        go_enter Try.func58, Try.ntmps58
        go_wp2_with fail
        refine (h1 _).mono ?_
        rintro e w1 ⟨rfl, hw1⟩
        have hw2 := hw1.symm
        clear hw1
        subst hw2
        go_wp2_with fail
        refine (h2 _).mono ?_
        rintro e w1 ⟨rfl, hw1⟩
        have hw2 := hw1.symm
        clear hw1
        subst hw2
        go_wp2_with fail
        go_ret
        exact ⟨by first | rfl | (simp [HKG.out]; done), rfl⟩
      · have hb : (k == g) = false := by simp [hkg]
        rw [decide_eq_false hkg]
        go_enter Try.func58, Try.ntmps58
        go_wp2_with fail
        refine (h1 _).mono ?_
        rintro e w1 ⟨rfl, hw1⟩
        have hw2 := hw1.symm
        clear hw1
        subst hw2
        go_wp2_with fail
        refine (h2 _).mono ?_
        rintro e w1 ⟨rfl, hw1⟩
        have hw2 := hw1.symm
        clear hw1
        subst hw2
        go_wp2_with fail
        go_ret
        exact ⟨by first | rfl | (simp [hkg]; done), rfl⟩

end Go.Proofs.Ytdnnenklkfkhcaa
