/-
  Maps of letters: their keys, what they hold.
-/
import Derived.Test.YtbabknhccapaoaaM21
import Derived.Test.YtbabknhccapaoaaRt
import Derived.DeepKeys4
import Derived.Maps.Views
import Derived.Maps.OwnSet
import Derived.Maps.RangeWalk
import Derived.Lib.SlKeysI
namespace Go.Proofs.Ytbabknhccapaoaa
open Go.RowKit Va Mg Go.Maps
set_option linter.all false

/-- A number of 64 bits. -/
def Wi (x : Int) : Prop := (Lit.int .i64 x).wf = true
theorem Wi.of {x : Int} (h0 : -1000000 ≤ x) (h1 : x ≤ 1000000) : Wi x := WalkArith.wf_i64 (by omega)
theorem laidN : laidOutB Try.prog = true := by kernel_rfl
theorem lawN : WideMaps.KeyLaw Try.prog 80 := deep_law_laid laidN (m := 2) (by omega) (of_decide_eq_true (by kernel_rfl)) (by kernel_rfl) (by kernel_rfl)
theorem keyedN : Keyed Try.prog 80 := Keyed.of_law lawN
def kN (f s : Int) : Lit := .string (keyBytes [.int .i64 f, .int .i64 s])
theorem ktyN : Try.prog.keyType 80 = true := by kernel_rfl
theorem cells2N : Try.prog.cellsOf 80 = 2 := by kernel_rfl
theorem cells1N : Try.prog.cellsOf 2 = 1 := by kernel_rfl
set_option maxRecDepth 100000 in
theorem litsN {o t : Int} (ho : Wi o) (ht : Wi t) : ∀ n, Try.prog.keyLits (n + 2) 80 [.int .i64 o, .int .i64 t] = some [.int .i64 o, .int .i64 t] := by
  intro n
  have ho' : (Lit.int .i64 o).wf = true := ho
  have ht' : (Lit.int .i64 t).wf = true := ht
  unfold Program.keyLits
  rw [Try.underlying80]
  simp [cells2N, cells1N, Program.keyLits, Try.underlying2, ho', ht']
theorem sizeN : ∃ n, Try.prog.types.size + 1 = n + 2 := ⟨Try.prog.types.size - 1, by
  have : 80 < Try.prog.types.size := of_decide_eq_true (by kernel_rfl)
  omega⟩
set_option maxRecDepth 100000 in
theorem key_num {o t : Int} (ho : Wi o) (ht : Wi t) : keyOf Try.prog 80 (.agg #[.int .i64 o, .int .i64 t]) = some (kN o t) := by
  have hf : (Value.agg #[.int .i64 o, .int .i64 t]).formed Try.prog 80 = true := by
    simp [Value.formed, Try.underlying80, cells2N]
  obtain ⟨n, hn⟩ := sizeN
  unfold keyOf
  rw [Try.underlying80]
  simp only [ktyN, hf, Bool.and_self, if_true, hn]
  have := litsN ho ht n
  simp [Value.cells, this, kN]
set_option maxRecDepth 100000 in
theorem lit_one {n : Nat} {a : Value} {ls : List Lit} (h : Try.prog.keyLits (n + 1) 2 [a] = some ls) : ∃ z : Int, a = .int .i64 z ∧ Wi z := by
  unfold Program.keyLits at h
  rw [Try.underlying2] at h
  cases a with
  | int q z =>
    simp only at h
    split at h
    · rename_i c
      obtain ⟨rfl, c2⟩ := c
      exact ⟨z, rfl, c2⟩
    · cases h
  | _ => cases h
set_option maxRecDepth 100000 in
/-- Every key is a sender and a number. -/
theorem num_inv {key : Value} {kl : Lit} (h : keyOf Try.prog 80 key = some kl) : ∃ o t : Int, key = .agg #[.int .i64 o, .int .i64 t] ∧ Wi o ∧ Wi t ∧ kl = kN o t := by
  have h0 := h
  obtain ⟨n, hn⟩ := sizeN
  unfold keyOf at h
  rw [Try.underlying80] at h
  simp only [ktyN, Bool.true_and, hn] at h
  split at h
  · rename_i hf
    cases key with
    | agg cs =>
      have hsz : cs.size = 2 := by
        simp only [Value.formed, Try.underlying80, cells2N] at hf
        simpa using hf
      obtain ⟨l⟩ := cs
      match l, hsz with
      | [a, b], _ =>
        simp only [Value.cells] at h
        cases hl : Try.prog.keyLits (n + 2) 80 [a, b] with
        | none => rw [hl] at h; cases h
        | some ls =>
          unfold Program.keyLits at hl
          rw [Try.underlying80] at hl
          simp only [cells2N, cells1N] at hl
          split at hl
          · cases h1 : Try.prog.keyLits (n + 1) 2 [a] with
            | none => simp [h1, cells1N] at hl
            | some l1 =>
              cases h2 : Try.prog.keyLits (n + 1) 2 [b] with
              | none => simp [h1, h2, cells1N] at hl
              | some l2 =>
                obtain ⟨o, rfl, wo⟩ := lit_one h1
                obtain ⟨t, rfl, wt⟩ := lit_one h2
                refine ⟨o, t, rfl, wo, wt, ?_⟩
                rw [key_num wo wt] at h0
                exact (Option.some.inj h0).symm
          · cases hl
    | _ => simp [Value.formed, Try.underlying80] at hf
  · cases h
theorem kN_inj {o t o' t' : Int} (ho : Wi o) (ht : Wi t) (ho' : Wi o') (ht' : Wi t') (h : kN o t = kN o' t') : o = o' ∧ t = t' := by
  have := keyedN.inj (key_num ho ht) (h ▸ key_num ho' ht')
  simpa using this
theorem kN_key (o t : Int) : WideAt.IsKeyLit (kN o t) := trivial

/- letters as elements -/
def ltD (x : Lt) : DataW Unit := .agg [.lit (.int .i64 x.f), .lit (.int .i64 x.s), .lit (.int .i64 x.c), .lit (.int .i64 x.k), .lit (.int .i64 x.v)]
theorem ltD_inj {x y : Lt} (h : ltD x = ltD y) : x = y := by
  obtain ⟨f, s, c, k, v⟩ := x
  obtain ⟨f', s', c', k', v'⟩ := y
  simpa [ltD] using h
def letL (l : List Value) : Option (DataW Unit × List MemPlace) :=
  match l with
  | [.int .i64 f, .int .i64 s, .int .i64 c, .int .i64 k, .int .i64 v] => some (ltD ⟨f, s, c, k, v⟩, [])
  | _ => none
def letE (v : Value) : Option (DataW Unit × List MemPlace) :=
  match v with
  | .agg cs => letL cs.toList
  | _ => none
theorem letE_mk (x : Lt) : letE (aLt x) = some (ltD x, []) := rfl
theorem letL_inv {l : List Value} {d : DataW Unit} {ps : List MemPlace} (h : letL l = some (d, ps)) : ∃ x : Lt, l = [.int .i64 x.f, .int .i64 x.s, .int .i64 x.c, .int .i64 x.k, .int .i64 x.v] ∧ d = ltD x := by
  unfold letL at h
  split at h
  · rename_i f s c k v
    simp only [Option.some.injEq, Prod.mk.injEq] at h
    exact ⟨⟨f, s, c, k, v⟩, rfl, h.1.symm⟩
  · cases h
theorem letE_inv {v : Value} {d : DataW Unit} {ps : List MemPlace} (h : letE v = some (d, ps)) : ∃ x : Lt, v = aLt x ∧ d = ltD x := by
  cases v with
  | agg cs =>
    obtain ⟨x, h1, h2⟩ := letL_inv (show letL cs.toList = some (d, ps) from h)
    refine ⟨x, ?_, h2⟩
    have : cs = #[.int .i64 x.f, .int .i64 x.s, .int .i64 x.c, .int .i64 x.k, .int .i64 x.v] := Array.toList_inj.1 (by rw [h1])
    rw [this]
    rfl
  | _ => cases h
def zLt : Lt := ⟨0, 0, 0, 0, 0⟩
theorem zeroLt (w : World) : (zeroValue 29).run Try.prog w = .ok (aLt zLt) w := by kernel_rfl
theorem mapN : Try.prog.underlying 51 = some (.map 80 29) := Try.underlying51
theorem mapK : Try.prog.underlying 49 = some (.map 2 29) := Try.underlying49
theorem keyedK : Keyed Try.prog 2 := int_keyed Try.underlying2

/-- The map D holds g. -/
def Gv (D : DataW Unit) (g : Int → Int → Option Lt) : Prop := ∀ f s, Wi f → Wi s → Maps.has D (kN f s) = (g f s).isSome ∧ ∀ x, g f s = some x → ∀ zd, D.atKey (kN f s) zd = ltD x
theorem Gv.nil : Gv (.map []) (fun _ _ => none) := fun _ _ _ _ => ⟨rfl, fun x h => by cases h⟩
theorem Gv.put {D : DataW Unit} {g : Int → Int → Option Lt} (h : Gv D g) (hm : ∃ es, D = .map es) (x : Lt) (hf : Wi x.f) (hs : Wi x.s) : Gv (D.put (kN x.f x.s) (ltD x)) (fun f s => if f = x.f ∧ s = x.s then some x else g f s) := by
  intro f s wf ws
  by_cases q : f = x.f ∧ s = x.s
  · obtain ⟨rfl, rfl⟩ := q
    simp only [and_self, if_true]
    exact ⟨has_put_same hm (kN_key _ _) _, fun y hy zd => by cases hy; exact atKey_put_same hm (kN_key _ _) _ _⟩
  · simp only [if_neg q]
    have hne : kN f s ≠ kN x.f x.s := fun e => q (kN_inj wf ws hf hs e)
    rw [has_put_other hne]
    refine ⟨(h f s wf ws).1, fun y hy zd => ?_⟩
    rw [atKey_put_other hne]
    exact (h f s wf ws).2 y hy zd
theorem Gv.congr {D : DataW Unit} {g g' : Int → Int → Option Lt} (h : Gv D g) (e : ∀ f s, g f s = g' f s) : Gv D g' := fun f s wf ws => by
  rw [← e]; exact h f s wf ws
theorem look_num {w : World} {B n : Nat} {D : DataW Unit} {g : Int → Int → Option Lt} (ho : w.ownsMap Try.prog 80 letE B n D) (h : Gv D g) {f s : Int} (hf : Wi f) (hs : Wi s) :
    ∃ y, (Instr.lookup 51 (.map (some B)) (.agg #[.int .i64 f, .int .i64 s]) true).run Try.prog w = .ok (.tuple #[aLt y, .bool (g f s).isSome]) w ∧ ∀ x, g f s = some x → y = x := by
  obtain ⟨v, ps, hrun, hv⟩ := ho.look_ok keyedN mapN (zeroLt w) (letE_mk zLt) (key_num hf hs)
  obtain ⟨y, rfl, hd⟩ := letE_inv hv
  obtain ⟨h1, h2⟩ := h f s hf hs
  rw [h1] at hrun
  refine ⟨y, hrun, fun x hx => ?_⟩
  rw [h2 x hx] at hd
  exact (ltD_inj hd).symm

/-- The map D, asked by a key, holds t. -/
def Tv (D : DataW Unit) (t : Int → Option Lt) : Prop := ∀ k, Wi k → Maps.has D (.int .i64 k) = (t k).isSome ∧ ∀ x, t k = some x → ∀ zd, D.atKey (.int .i64 k) zd = ltD x
theorem Tv.nil : Tv (.map []) (fun _ => none) := fun _ _ => ⟨rfl, fun x h => by cases h⟩
theorem Tv.put {D : DataW Unit} {t : Int → Option Lt} (h : Tv D t) (hm : ∃ es, D = .map es) (x : Lt) : Tv (D.put (.int .i64 x.k) (ltD x)) (fun k => if k = x.k then some x else t k) := by
  intro k wk
  by_cases q : k = x.k
  · subst q
    simp only [if_true]
    exact ⟨has_put_same hm (show WideAt.IsKeyLit (Lit.int .i64 x.k) from trivial) _, fun y hy zd => by cases hy; exact atKey_put_same hm (show WideAt.IsKeyLit (Lit.int .i64 x.k) from trivial) _ _⟩
  · simp only [if_neg q]
    have hne : (Lit.int .i64 k) ≠ .int .i64 x.k := fun e => q (by injection e)
    rw [has_put_other hne]
    refine ⟨(h k wk).1, fun y hy zd => ?_⟩
    rw [atKey_put_other hne]
    exact (h k wk).2 y hy zd
theorem Tv.congr {D : DataW Unit} {g g' : Int → Option Lt} (h : Tv D g) (e : ∀ k, g k = g' k) : Tv D g' := fun k wk => by
  rw [← e]; exact h k wk
theorem look_key {w : World} {B n : Nat} {D : DataW Unit} {t : Int → Option Lt} (ho : w.ownsMap Try.prog 2 letE B n D) (h : Tv D t) {k : Int} (hk : Wi k) :
    ∃ y, (Instr.lookup 49 (.map (some B)) (.int .i64 k) true).run Try.prog w = .ok (.tuple #[aLt y, .bool (t k).isSome]) w ∧ ∀ x, t k = some x → y = x := by
  obtain ⟨v, ps, hrun, hv⟩ := ho.look_ok keyedK mapK (zeroLt w) (letE_mk zLt) (keyOf_int_mk Try.underlying2 hk)
  obtain ⟨y, rfl, hd⟩ := letE_inv hv
  obtain ⟨h1, h2⟩ := h k hk
  rw [h1] at hrun
  refine ⟨y, hrun, fun x hx => ?_⟩
  rw [h2 x hx] at hd
  exact (ltD_inj hd).symm
theorem look_key1 {w : World} {B n : Nat} {D : DataW Unit} {t : Int → Option Lt} (ho : w.ownsMap Try.prog 2 letE B n D) (h : Tv D t) {k : Int} (hk : Wi k) {x : Lt} (hx : t k = some x) :
    (Instr.lookup 49 (.map (some B)) (.int .i64 k) false).run Try.prog w = .ok (aLt x) w := by
  obtain ⟨v, ps, hrun, hv⟩ := ho.lookup keyedK mapK (zeroLt w) (letE_mk zLt) (keyOf_int_mk Try.underlying2 hk)
  obtain ⟨y, rfl, hd⟩ := letE_inv hv
  rw [(h k hk).2 x hx] at hd
  rw [hrun, ltD_inj hd]
end Go.Proofs.Ytbabknhccapaoaa
