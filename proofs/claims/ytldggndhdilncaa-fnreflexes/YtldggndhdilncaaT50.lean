/-
  The tests that are asked for in the end, gone through by a function: what it hands on.
-/
import Derived.Test.YtldggndhdilncaaT50a
import Derived.Test.YtldggndhdilncaaT49r
import Derived.Test.YtldggndhdilncaaT49
import Derived.Shelf.Abstract
import Derived.Shelf.RegionOpen
import Derived.OwnWalkIn
import Derived.TacticsInMore
import Derived.LoopNIn
import Derived.LoopIn
namespace Go.Proofs.Ytldggndhdilncaa
open Go.RowKit Go.Shelf Va Lb
set_option linter.all false
attribute [local go_sem] Oper.semAt_some

def encI (x : Int) : Array Value := #[.int .i64 x]
def memL (L : List Int) (j : Nat) : Bool := decide (((j : Nat) : Int) ∈ L)
theorem link {vs : List Vl} {L : List Int} : ∀ (us : List Ru) (rs : List Rx), Like vs rs us → (firstU (memL L) us).map (fun k => ((k : Nat) : Int)) = stepR rs vs L
  | [], rs, h => by
    cases rs with
    | nil => rfl
    | cons r rs => unfold Like at h; simp at h
  | u :: us, rs, h => by
    cases rs with
    | nil => unfold Like at h; simp at h
    | cons r rs =>
      unfold Like at h
      simp only [List.map_cons, List.cons.injEq, Prod.mk.injEq] at h
      obtain ⟨⟨h1, h2, h3⟩, h4⟩ := h
      have ih := link (L := L) us rs h4
      have e : ruB (memL L) u = fires vs L r := by unfold ruB memL fires; rw [h1, h2, h3]
      unfold firstU stepR at ih ⊢
      rw [List.find?_cons, List.find?_cons, e]
      cases fires vs L r with
      | true => simp [h2]
      | false => exact ih
theorem like_len {vs : List Vl} {rs : List Rx} {us : List Ru} (h : Like vs rs us) : us.length = rs.length := by
  have := congrArg List.length h
  simpa using this
theorem pb_ne {W : World} {A B : Nat} {x y : Array Value} {t u : TypeId} (h : PB W A x t) (k : PB W B y u) (hne : t ≠ u) : A ≠ B := by
  rintro rfl
  have e := h.symm.trans k
  simp at e
  exact hne e.2
def RusO (W : World) (b : Nat) (v : Value) (us : List Ru) : Prop := W.ownsRow b 64 1 v us.length (us.map fun u => cvRu u 0) ∧ ∀ u ∈ us, RuAt W u
theorem RusO.at {W : World} {b : Nat} {v : Value} {us : List Ru} (h : RusO W b v us) : RusAt W v us := ⟨(vown_of (s := 1) (cs := cvRu) (base := b) (t := 64) rfl (by rw [cells_ru]; exact h.1)).row, h.2⟩
theorem RusO.below {W W' : World} {b : Nat} {v : Value} {us : List Ru} (h : RusO W b v us) (hb : Below W.heap.size W W') : RusO W' b v us := ⟨ownW_below h.1 hb, fun u hu => (h.2 u hu).below hb⟩
/-- The set of tests in its block. -/
def SetP (W : World) (A : Nat) (ST : Nat → Bool) : Prop := ∃ A9 : Array Value, PB W A A9 61 ∧ A9.size = 100 ∧ ∀ j, j < 100 → A9[j]? = some (.bool (ST j))
theorem SetP.cell {W : World} {A : Nat} {ST : Nat → Bool} (h : SetP W A ST) {j : Nat} (hj : j < 100) : W.cell? ⟨A, j, none⟩ = some (.bool (ST j)) := by
  obtain ⟨A9, h1, h2, h3⟩ := h
  rw [h1.cell j]
  exact h3 j hj
theorem SetP.at {W : World} {A : Nat} {ST : Nat → Bool} (h : SetP W A ST) : SetAt W A ST := ⟨by obtain ⟨A9, h1, -⟩ := h; exact h1.lt, fun j hj => h.cell hj⟩
theorem SetP.cold {W : World} {A : Nat} {ST : Nat → Bool} (h : SetP W A ST) (j : Nat) : W.frozen? ⟨A, j, none⟩ = false := by
  obtain ⟨A9, h1, -⟩ := h
  exact h1.frozen j
theorem SetP.below {W W' : World} {A : Nat} {ST : Nat → Bool} (h : SetP W A ST) (hb : Below W.heap.size W W') : SetP W' A ST := by
  obtain ⟨A9, h1, h2⟩ := h
  exact ⟨A9, h1.below hb, h2⟩
theorem SetP.put {W : World} {A : Nat} {ST ST' : Nat → Bool} (h : SetP W A ST) {j : Nat} (hj : j < 100) (hf : ∀ i, ST' i = if i = j then true else ST i) : SetP (W.setCell ⟨A, j, none⟩ (.bool true)) A ST' := by
  obtain ⟨A9, h1, h2, h3⟩ := h
  refine ⟨A9.setIfInBounds j (.bool true), h1.set j _, by rw [Array.size_setIfInBounds]; exact h2, fun i hi => ?_⟩
  rw [Array.getElem?_setIfInBounds, hf i]
  by_cases q : j = i
  · subst q
    simp [h2, hj]
  · rw [if_neg q, if_neg (fun e => q e.symm)]
    exact h3 i hi
/-- What a round keeps. -/
def KpR (n₀ B1 : Nat) (A B : World) : Prop := Below n₀ A B ∧ (∀ vs, PB A B1 vs 26 → PB B B1 vs 26) ∧ ∀ C vs t, t ≠ 2 → t ≠ 26 → PB A C vs t → PB B C vs t
theorem KpR.t {n₀ B1 : Nat} {A B C : World} (h : KpR n₀ B1 A B) (k : KpR n₀ B1 B C) : KpR n₀ B1 A C := ⟨h.1.trans k.1, fun vs q => k.2.1 vs (h.2.1 vs q), fun D vs t h1 h2 q => k.2.2 D vs t h1 h2 (h.2.2 D vs t h1 h2 q)⟩
theorem KpR.r (n₀ B1 : Nat) (A : World) : KpR n₀ B1 A A := ⟨Below.refl _ _, fun _ q => q, fun _ _ _ _ _ q => q⟩
theorem KpR.grown {n₀ B1 : Nat} {W W' : World} (hn : n₀ ≤ W.heap.size) (hg : W.grownBy W' none) : KpR n₀ B1 W W' :=
  ⟨(Below.refl _ _).grown hg hn (fun k hk => by cases hk), fun vs q => (hg.block _ q.lt (by simp)).trans q, fun C vs t _ _ q => (hg.block _ q.lt (by simp)).trans q⟩
theorem KpR.b {n₀ B1 : Nat} (W : World) (l : Nat) (o o' : Obj) (hl : n₀ ≤ l) (h : W.heap[l]? = some o) (hc : o.isCells = false) : KpR n₀ B1 W (W.putObj l o') := by
  have hg := grownBy_putObj' W l o'
  have hp : ∀ (C : Nat) (vs : Array Value) (t : TypeId), PB W C vs t → PB (W.putObj l o') C vs t := fun C vs t q => (grownBy_keeps_cells hg (fun r e => by cases e; exact ⟨o, h, hc⟩) q rfl).trans q
  exact ⟨(Below.refl _ _).grown hg (Nat.le_of_lt (Nat.lt_of_le_of_lt hl (Array.getElem?_eq_some_iff.1 h).1)) (fun k hk => by cases hk; exact hl), fun vs q => hp _ vs _ q, fun C vs t _ _ q => hp C vs t q⟩
theorem RusO.kp {n₀ B1 : Nat} {W W' : World} {b : Nat} {v : Value} {us : List Ru} (h : RusO W b v us) (hk : KpR n₀ B1 W W') : RusO W' b v us := by
  refine ⟨?_, fun u hu => ?_⟩
  · obtain ⟨q, ⟨q1, q2⟩ | ⟨g, c, cur, rfl, hb, hh, r⟩⟩ := h.1
    · exact ⟨q, Or.inl ⟨q1, q2⟩⟩
    · exact ⟨q, Or.inr ⟨g, c, cur, rfl, hb, hk.2.2 g cur 64 (by decide) (by decide) hh, r⟩⟩
  · obtain ⟨lo, hi, k⟩ := (h.2 u hu).pr
    exact ⟨⟨lo, hi, hk.2.2 _ _ _ (by decide) (by decide) k⟩, hk.2.2 _ _ _ (by decide) (by decide) (h.2 u hu).pc, (h.2 u hu).t0, (h.2 u hu).t1⟩
/-- What the function leans on beside J. -/
structure QR (w0 : World) (n₀ B1 B2 b2 A : Nat) (v1 vr : Value) (us : List Ru) (L : List Int) (W : World) : Prop where
  bel : Below n₀ w0 W
  p1 : PB W B1 #[v1] 26
  p2 : PB W B2 #[vr] 49
  ru : RusO W b2 vr us
  st : SetP W A (memL L)
section
variable {w0 W W' : World} {n₀ B1 B2 b2 A : Nat} {v1 vr : Value} {us : List Ru} {L : List Int}
theorem QR.kp (h : QR w0 n₀ B1 B2 b2 A v1 vr us L W) (hk : KpR n₀ B1 W W') : QR w0 n₀ B1 B2 b2 A v1 vr us L W' := by
  obtain ⟨A9, k1, k2⟩ := h.st
  exact ⟨h.bel.trans hk.1, hk.2.1 _ h.p1, hk.2.2 _ _ _ (by decide) (by decide) h.p2, h.ru.kp hk, ⟨A9, hk.2.2 _ _ _ (by decide) (by decide) k1, k2⟩⟩
theorem QR.put (h : QR w0 n₀ B1 B2 b2 A v1 vr us L W) (hA : n₀ ≤ A) {k : Nat} (hk : k < 100) : QR w0 n₀ B1 B2 b2 A v1 vr us (L ++ [(k : Int)]) (W.setCell ⟨A, k, none⟩ (.bool true)) := by
  obtain ⟨A9, k1, k2⟩ := h.st
  refine ⟨h.bel.setCell (p := ⟨A, k, none⟩) hA _, h.p1.far (pb_ne k1 h.p1 (by decide)) k _, h.p2.far (pb_ne k1 h.p2 (by decide)) k _, ⟨?_, fun u hu => ?_⟩, h.st.put hk (fun i => ?_)⟩
  · obtain ⟨q, ⟨q1, q2⟩ | ⟨g, c, cur, rfl, hb, hh, r⟩⟩ := h.ru.1
    · exact ⟨q, Or.inl ⟨q1, q2⟩⟩
    · exact ⟨q, Or.inr ⟨g, c, cur, rfl, hb, PB.far (t := 64) hh (pb_ne k1 hh (by decide)) k _, r⟩⟩
  · obtain ⟨lo, hi, e⟩ := (h.ru.2 u hu).pr
    exact ⟨⟨lo, hi, e.far (pb_ne k1 e (by decide)) k _⟩, (h.ru.2 u hu).pc.far (pb_ne k1 (h.ru.2 u hu).pc (by decide)) k _, (h.ru.2 u hu).t0, (h.ru.2 u hu).t1⟩
  · unfold memL
    by_cases q : i = k
    · subst q; simp
    · rw [if_neg q]
      have : ((i : Nat) : Int) ≠ (k : Int) := by omega
      simp [this]
theorem QR.lt (h : QR w0 n₀ B1 B2 b2 A v1 vr us L W) : A < W.heap.size := h.st.at.lt
end
theorem below_none {W W' : World} (hb : Below W.heap.size W W') : W.grownBy W' none := ⟨hb.os, hb.tape, hb.output, hb.size, fun k hk _ => hb.block k hk⟩
theorem abT_put {J : List Int → World → Prop} {B A : Nat} {ST : Nat → Bool} {W : World} {L : List Int} (hJ : AbT 61 B J) (hs : SetP W A ST) (hA : B ≤ A) (k : Nat) (v : Value) (h : J L W) : J L (W.setCell ⟨A, k, none⟩ v) := by
  obtain ⟨A9, k1, -⟩ := hs
  refine hJ L W _ (some A) h ⟨rfl, rfl, rfl, by simp [World.setCell], fun j hj hne => heap_setCell_other W ⟨A, k, none⟩ j v (fun e => hne (by rw [e]))⟩ ?_
  rintro r e
  cases e
  exact ⟨hA, A9, k1⟩
end Go.Proofs.Ytldggndhdilncaa
