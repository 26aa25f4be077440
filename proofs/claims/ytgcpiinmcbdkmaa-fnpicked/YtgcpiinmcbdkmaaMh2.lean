/-
  Merged: Rw Va Q1 Q2 Vb.
-/
import Derived.WalkKit
import Derived.WalkSpells
import Derived.WalkLawsBesides
import Derived.OwnWalk
import Derived.ProofKit
import Derived.OpenShut
import Derived.ChangeOld
import Derived.Below
import Derived.Deep.Slices
import Derived.Lib.SmallJoins
import Derived.Test.YtgcpiinmcbdkmaaRows
import Derived.BigQuiet
import Derived.Deep.QuietTactic
import Derived.Deep.DeepCutAuto
import Derived.Deep.RegionHeld3
namespace Go.Proofs.Ytgcpiinmcbdkmaa
open Go.RowKit
theorem hidden {p : Prop} (h : p) : Hid p := h
theorem onto {w W w2 : World} (hv : Below w.heap.size w W) (h : Below W.heap.size W w2) : Below w.heap.size w w2 := hv.trans (h.mono hv.size)
theorem st_drew {b : Nat} {w0 w : World} (h : Below b w0 w) : Below b w0 w.drew := ⟨h.os, h.tape, h.output, h.size, h.block⟩
theorem st_drewN {b : Nat} {w0 w : World} (h : Below b w0 w) (n : Nat) : Below b w0 (w.drewN n) := ⟨h.os, h.tape, h.output, h.size, h.block⟩
theorem get_lt' {α : Type} {l : List α} {i : Nat} {x : α} (h : l[i]? = some x) : i < l.length := (List.getElem?_eq_some_iff.1 h).1
section
variable {α : Type} (s : Nat) (cs : α → Nat → Int)
def Rw (w : World) (v : Value) (l : List α) : Prop :=
  ∃ ao cap, v = .slice ao l.length cap ∧ l.length ≤ cap ∧ (l.length = 0 ∨ ∃ b off, ao = some ⟨b, off, none⟩ ∧ b < w.heap.size ∧ ∀ i x, l[i]? = some x → ∀ k, k < s → w.cell? ⟨b, off + i * s + k, none⟩ = some (.int .i64 (cs x k)))
def Out (w : World) (G n : Nat) (l : List α) (i : Nat) : Prop :=
  G < w.heap.size ∧ (∀ j, j < n * s → (∃ u, w.cell? ⟨G, j, none⟩ = some u) ∧ w.frozen? ⟨G, j, none⟩ = false) ∧
    ∀ j x, j < i → l[j]? = some x → ∀ k, k < s → w.cell? ⟨G, j * s + k, none⟩ = some (.int .i64 (cs x k))
def Own (w : World) (base : Nat) (v : Value) (l : List α) : Prop :=
  ∃ ao cap, v = .slice ao l.length cap ∧ l.length ≤ cap ∧ (l.length = 0 ∨ ∃ G, ao = some ⟨G, 0, none⟩ ∧ base ≤ G ∧ Out s cs w G l.length l l.length)
end
section
variable {α : Type} {s : Nat} {cs : α → Nat → Int}
theorem Rw.below {w w' : World} {v : Value} {l : List α} (h : Rw s cs w v l) (hb : Below w.heap.size w w') : Rw s cs w' v l := by
  obtain ⟨ao, cap, rfl, hlc, h2⟩ := h
  refine ⟨ao, cap, rfl, hlc, ?_⟩
  rcases h2 with h2 | ⟨b, off, h3, h4, h5⟩
  · exact Or.inl h2
  · exact Or.inr ⟨b, off, h3, Nat.lt_of_lt_of_le h4 hb.size, fun i x hx k hk => (hb.cell (p := ⟨b, off + i * s + k, none⟩) h4).trans (h5 i x hx k hk)⟩
theorem Rw.at {w : World} {ao : Option Addr} {cap : Nat} {n : Nat} {l : List α} (h : Rw s cs w (.slice ao n cap) l) {i : Nat} {x : α} (hx : l[i]? = some x) :
    ∃ b off, ao = some ⟨b, off, none⟩ ∧ b < w.heap.size ∧ ∀ k, k < s → w.cell? ⟨b, off + i * s + k, none⟩ = some (.int .i64 (cs x k)) := by
  obtain ⟨ao', cap', he, _, h2⟩ := h
  obtain ⟨rfl, rfl, rfl⟩ : ao = ao' ∧ n = l.length ∧ cap = cap' := by simpa using he
  have := get_lt' hx
  rcases h2 with h2 | ⟨b, off, h3, h4, h5⟩
  · omega
  · exact ⟨b, off, h3, h4, fun k hk => h5 i x hx k hk⟩
theorem Rw.len {w : World} {ao : Option Addr} {n cap : Nat} {l : List α} (h : Rw s cs w (.slice ao n cap) l) : n = l.length := by
  obtain ⟨ao', cap', he, _, _⟩ := h; simp at he; omega
theorem Rw.cap {w : World} {ao : Option Addr} {n cap : Nat} {l : List α} (h : Rw s cs w (.slice ao n cap) l) : l.length ≤ cap := by
  obtain ⟨ao', cap', he, hc, _⟩ := h; simp at he; omega
theorem Rw.nil (w : World) (ao : Option Addr) (cap : Nat) : Rw s cs w (.slice ao 0 cap) [] := ⟨ao, cap, rfl, Nat.zero_le _, Or.inl rfl⟩
theorem Rw.take {w : World} {ao : Option Addr} {n cap : Nat} {l : List α} (h : Rw s cs w (.slice ao n cap) l) (i c : Nat) (hi : i ≤ l.length) (hc : i ≤ c) : Rw s cs w (.slice ao i c) (l.take i) := by
  obtain ⟨ao', cap', he, _, h2⟩ := h
  obtain ⟨rfl, rfl, rfl⟩ : ao = ao' ∧ n = l.length ∧ cap = cap' := by simpa using he
  have hlen : (l.take i).length = i := by rw [List.length_take]; omega
  refine ⟨ao, c, by rw [hlen], by rw [hlen]; exact hc, ?_⟩
  rcases h2 with h2 | ⟨b, off, h3, h4, h5⟩
  · exact Or.inl (by omega)
  · refine Or.inr ⟨b, off, h3, h4, fun j x hx k hk => h5 j x ?_ k hk⟩
    rw [List.getElem?_take] at hx
    split at hx
    · exact hx
    · cases hx
theorem Out.below {w w' : World} {G n i : Nat} {l : List α} (h : Out s cs w G n l i) (hb : Below w.heap.size w w') : Out s cs w' G n l i :=
  ⟨Nat.lt_of_lt_of_le h.1 hb.size, fun j hj => ⟨by
      obtain ⟨u, hu⟩ := (h.2.1 j hj).1
      exact ⟨u, (hb.cell (p := ⟨G, j, none⟩) h.1).trans hu⟩, (hb.frozen (p := ⟨G, j, none⟩) h.1).trans (h.2.1 j hj).2⟩,
    fun j x hj hx k hk => (hb.cell (p := ⟨G, j * s + k, none⟩) h.1).trans (h.2.2 j x hj hx k hk)⟩
def put (w : World) (G o : Nat) : List Value → World
  | [] => w
  | v :: vs => put (w.setCell ⟨G, o, none⟩ v) G (o + 1) vs
theorem put_size (vs : List Value) : ∀ (w : World) (G o : Nat), (put w G o vs).heap.size = w.heap.size := by
  induction vs with
  | nil => intro w G o; rfl
  | cons v vs ih => intro w G o; show (put (w.setCell ⟨G, o, none⟩ v) G (o + 1) vs).heap.size = _; rw [ih]; simp [World.setCell]
theorem put_other (vs : List Value) : ∀ (w : World) (G o j : Nat), (j < o ∨ o + vs.length ≤ j) → (put w G o vs).cell? ⟨G, j, none⟩ = w.cell? ⟨G, j, none⟩ := by
  induction vs with
  | nil => intro w G o j _; rfl
  | cons v vs ih =>
    intro w G o j hj
    simp only [List.length_cons] at hj
    show (put (w.setCell ⟨G, o, none⟩ v) G (o + 1) vs).cell? _ = _
    have hne : j ≠ o := by omega
    rw [ih _ _ _ _ (by omega), World.cell?_setCell_other (h := by first | (simp; done) | (simp; exact hne))]
theorem put_same (vs : List Value) : ∀ (w : World) (G o : Nat), (∀ k, k < vs.length → ∃ u, w.cell? ⟨G, o + k, none⟩ = some u) → ∀ k v, vs[k]? = some v → (put w G o vs).cell? ⟨G, o + k, none⟩ = some v := by
  induction vs with
  | nil => intro w G o _ k v h; cases h
  | cons u vs ih =>
    intro w G o hold k v h
    show (put (w.setCell ⟨G, o, none⟩ u) G (o + 1) vs).cell? _ = _
    obtain ⟨u0, hu0⟩ := hold 0 (by simp)
    cases k with
    | zero =>
      simp at h
      subst h
      rw [put_other _ _ _ _ _ (by omega)]
      exact World.cell?_setCell_same _ _ _ hu0
    | succ k =>
      have := ih (w.setCell ⟨G, o, none⟩ u) G (o + 1) (fun j hj => by
        obtain ⟨u1, hu1⟩ := hold (j + 1) (by simp; omega)
        refine ⟨u1, ?_⟩
        rw [World.cell?_setCell_other (h := by first | (simp; done) | (simp; omega)), show o + 1 + j = o + (j + 1) by omega]
        exact hu1) k v (by simpa using h)
      rw [show o + (k + 1) = o + 1 + k by omega]
      exact this
theorem put_frozen (vs : List Value) : ∀ (w : World) (G o j : Nat), (put w G o vs).frozen? ⟨G, j, none⟩ = w.frozen? ⟨G, j, none⟩ := by
  induction vs with
  | nil => intro w G o j; rfl
  | cons v vs ih => intro w G o j; show (put (w.setCell ⟨G, o, none⟩ v) G (o + 1) vs).frozen? _ = _; rw [ih, World.frozen?_setCell]
theorem Out.set {w : World} {G n i : Nat} {l : List α} {x : α} (h : Out s cs w G n l i) (hi : i < n) (hx : l[i]? = some x) (vs : List Value) (hv : vs.length = s) (hvs : ∀ k, k < s → vs[k]? = some (.int .i64 (cs x k))) :
    Out s cs (put w G (i * s) vs) G n l (i + 1) := by
  obtain ⟨h1, h2, h3⟩ := h
  have hle : i * s + s ≤ n * s := by rw [← Nat.succ_mul]; exact Nat.mul_le_mul_right s hi
  have hnew : ∀ k, k < s → (put w G (i * s) vs).cell? ⟨G, i * s + k, none⟩ = some (.int .i64 (cs x k)) := fun k hk =>
    put_same vs w G (i * s) (fun j hj => (h2 (i * s + j) (by omega)).1) k _ (hvs k hk)
  refine ⟨by rw [put_size]; exact h1, fun j hj => ⟨?_, by rw [put_frozen]; exact (h2 j hj).2⟩, fun j y hj hy k hk => ?_⟩
  · by_cases a : i * s ≤ j ∧ j < i * s + s
    · have := hnew (j - i * s) (by omega)
      rw [show i * s + (j - i * s) = j by omega] at this
      exact ⟨_, this⟩
    · rw [put_other _ _ _ _ _ (by omega)]; exact (h2 j hj).1
  · by_cases a : j = i
    · subst a; rw [hx] at hy; cases hy; exact hnew k hk
    · have hlt : j * s + s ≤ i * s := by rw [← Nat.succ_mul]; exact Nat.mul_le_mul_right s (by omega)
      rw [put_other _ _ _ _ _ (by omega)]
      exact h3 j y (by omega) hy k hk
theorem Out.old {w : World} {G n i : Nat} {l : List α} (h : Out s cs w G n l i) {j : Nat} (hj : j < n) {k : Nat} (hk : k < s) : (∃ u, w.cell? ⟨G, j * s + k, none⟩ = some u) ∧ w.frozen? ⟨G, j * s + k, none⟩ = false := by
  have hle : j * s + s ≤ n * s := by rw [← Nat.succ_mul]; exact Nat.mul_le_mul_right s hj
  exact h.2.1 (j * s + k) (by omega)
theorem Out.own {w : World} {G base : Nat} {l : List α} (h : Out s cs w G l.length l l.length) (hG : base ≤ G) (c : Nat) (hc : l.length ≤ c) : Own s cs w base (.slice (some ⟨G, 0, none⟩) l.length c) l :=
  ⟨_, c, rfl, hc, Or.inr ⟨G, rfl, hG, h⟩⟩
theorem Own.below {w w' : World} {base : Nat} {v : Value} {l : List α} (h : Own s cs w base v l) (hb : Below w.heap.size w w') : Own s cs w' base v l := by
  obtain ⟨ao, cap, rfl, hc, h0 | ⟨G, rfl, hG, ho⟩⟩ := h
  · exact ⟨ao, cap, rfl, hc, Or.inl h0⟩
  · exact ⟨_, cap, rfl, hc, Or.inr ⟨G, rfl, hG, ho.below hb⟩⟩
theorem Own.nil (w : World) (b : Nat) (ao : Option Addr) (cap : Nat) : Own s cs w b (.slice ao 0 cap) [] := ⟨ao, cap, rfl, Nat.zero_le _, Or.inl rfl⟩
structure Aside (w w' : World) (v : Value) : Prop where
  os : w'.os = w.os
  tape : w'.tape = w.tape
  output : w'.output = w.output
  size : w'.heap.size = w.heap.size
  block : ∀ j, v.ownBlock ≠ some j → w'.heap[j]? = w.heap[j]?
theorem Aside.set {w w' : World} {G n c o : Nat} (h : Aside w w' (.slice (some ⟨G, 0, none⟩) n c)) (x : Value) : Aside w (w'.setCell ⟨G, o, none⟩ x) (.slice (some ⟨G, 0, none⟩) n c) := by
  have hb := (Below.refl G w').setCell (p := ⟨G, o, none⟩) (Nat.le_refl _) x
  refine ⟨hb.os.trans h.os, hb.tape.trans h.tape, hb.output.trans h.output, by rw [← h.size]; simp [World.setCell], fun j hj => ?_⟩
  rw [← h.block j hj]
  have hne : G ≠ j := fun e => hj (by rw [e]; rfl)
  exact Below.heap_setCell _ _ _ _ (by show j ≠ G; omega)
theorem Aside.put {G n c : Nat} (vs : List Value) : ∀ {w w' : World} (o : Nat), Aside w w' (.slice (some ⟨G, 0, none⟩) n c) → Aside w (put w' G o vs) (.slice (some ⟨G, 0, none⟩) n c) := by
  induction vs with
  | nil => intro w w' o h; exact h
  | cons v vs ih => intro w w' o h; exact ih (o + 1) (h.set v)
theorem Aside.below {w0 w w' : World} {base : Nat} {v : Value} (h : Aside w w' v) (hb : Below base w0 w) (hv : ∀ j, v.ownBlock = some j → base ≤ j) : Below base w0 w' :=
  ⟨h.os.trans hb.os, h.tape.trans hb.tape, h.output.trans hb.output, by rw [h.size]; exact hb.size, fun k hk => by
    rw [← hb.block k hk]
    exact h.block k (fun e => absurd (hv k e) (by omega))⟩
end
end Go.Proofs.Ytgcpiinmcbdkmaa

namespace Go.Proofs.Ytgcpiinmcbdkmaa.Va
structure Vt where
  b : Int
  o : Int
  p : Int
  u : Int
  a : Int
  h : Int
def rng (x lo hi : Int) : Bool := decide (lo ≤ x) && decide (x ≤ hi)
theorem rng_iff {x lo hi : Int} : rng x lo hi = true ↔ lo ≤ x ∧ x ≤ hi := by simp [rng]
def bp (n : Int) : Int := if n ≤ 8 ∨ 25 ≤ n then 3 else if 21 ≤ n then 2 else if n ≤ 11 then 1 else 0
def op (n : Int) : Int := if n ≤ 91 then 3 else if n ≤ 93 then 2 else if n ≤ 95 then 1 else 0
def pp (n : Int) : Int := if n ≤ 90 ∨ 220 ≤ n then 3 else if n ≤ 100 then 2 else if n ≤ 110 then 1 else 0
def up (n : Int) : Int := if n ≤ 40 ∨ 131 ≤ n then 3 else if 111 ≤ n then 2 else if n ≤ 50 ∨ 91 ≤ n then 1 else 0
def ap (n : Int) : Int := if n = 0 then 3 else 0
def hp (n : Int) : Int := if n ≤ 350 then 3 else if 391 ≤ n then 2 else if n ≤ 360 ∨ 381 ≤ n then 1 else 0
def pt (f : Int → Int) (n : Int) : Int := if n < 0 then -1 else f n
def six (v : Vt) : List Int := [pt bp v.b, pt op v.o, pt pp v.p, pt up v.u, pt ap v.a, pt hp v.h]
def tmv (x : Int) : Bool := decide (0 ≤ x) && decide (x ≤ 10000000)
end Go.Proofs.Ytgcpiinmcbdkmaa.Va

namespace Go.Proofs.Ytgcpiinmcbdkmaa.Bl
open Va
set_option linter.unusedVariables false
section
variable {α : Type} (ok : α → Bool) (key : α → Int)
def rAt (l : List α) (i : Nat) : Bool :=
  match l[i]? with
  | none => true
  | some x => ok x && (match (if i = 0 then none else l[i - 1]?) with
    | none => true
    | some z => decide (key z < key x))
def risB (l : List α) : Bool := (List.range l.length).all (rAt ok key l)
def RTo (l : List α) (i : Nat) : Prop := ∀ j, j < i → rAt ok key l j = true
end
section
variable {α : Type} {ok : α → Bool} {key : α → Int}
theorem risB_iff {l : List α} : risB ok key l = true ↔ ∀ i, i < l.length → rAt ok key l i = true := by simp [risB, List.all_eq_true]
theorem RTo.zero (l : List α) : RTo ok key l 0 := fun j hj => absurd hj (Nat.not_lt_zero _)
theorem rAt_iff {l : List α} {i : Nat} {x : α} (hx : l[i]? = some x) : rAt ok key l i = true ↔ ok x = true ∧ ∀ z, 0 < i → l[i - 1]? = some z → key z < key x := by
  unfold rAt
  rw [hx]
  by_cases h0 : i = 0
  · simp [h0]
  · rw [if_neg h0]
    cases hz : l[i - 1]? with
    | none => simp
    | some z => simp; intro _; omega
theorem RTo.succ {l : List α} {i : Nat} {x : α} (h : RTo ok key l i) (hx : l[i]? = some x) (hp : ok x = true) (hz : ∀ z, 0 < i → l[i - 1]? = some z → key z < key x) : RTo ok key l (i + 1) := fun j hj => by
  rcases Nat.lt_succ_iff_lt_or_eq.1 hj with q | rfl
  · exact h j q
  · exact (rAt_iff hx).2 ⟨hp, hz⟩
theorem ris_true {l : List α} (h : RTo ok key l l.length) : risB ok key l = true := risB_iff.2 h
theorem ris_no {l : List α} {i : Nat} {x : α} (hx : l[i]? = some x) (hp : ok x = false) : risB ok key l = false := by
  cases q : risB ok key l with
  | false => rfl
  | true =>
    have := ((rAt_iff hx).1 (risB_iff.1 q i (List.getElem?_eq_some_iff.1 hx).1)).1
    rw [hp] at this; cases this
theorem ris_no2 {l : List α} {i : Nat} {x z : α} (hx : l[i]? = some x) (h0 : 0 < i) (hz : l[i - 1]? = some z) (hxz : key x ≤ key z) : risB ok key l = false := by
  cases q : risB ok key l with
  | false => rfl
  | true =>
    have := ((rAt_iff hx).1 (risB_iff.1 q i (List.getElem?_eq_some_iff.1 hx).1)).2 z h0 hz
    omega
theorem ris_ok {l : List α} (h : risB ok key l = true) : ∀ x ∈ l, ok x = true := fun x hx => by
  obtain ⟨i, hi⟩ := List.getElem?_of_mem hx
  exact ((rAt_iff hi).1 (risB_iff.1 h i (List.getElem?_eq_some_iff.1 hi).1)).1
theorem ris_lt {l : List α} (h : risB ok key l = true) : ∀ (d i : Nat) (x y : α), l[i]? = some x → l[i + d + 1]? = some y → key x < key y := by
  intro d
  induction d with
  | zero =>
    intro i x y hx hy
    exact ((rAt_iff hy).1 (risB_iff.1 h _ (List.getElem?_eq_some_iff.1 hy).1)).2 x (by omega) hx
  | succ d ih =>
    intro i x y hx hy
    have hl := (List.getElem?_eq_some_iff.1 hy).1
    obtain ⟨z, hz⟩ : ∃ z, l[i + d + 1]? = some z := ⟨_, List.getElem?_eq_getElem (by omega)⟩
    have h1 := ih i x z hx hz
    have h2 := ((rAt_iff hy).1 (risB_iff.1 h _ hl)).2 z (by omega) hz
    omega
theorem ris_one {l : List α} (h : risB ok key l = true) {i j : Nat} {x y : α} (hx : l[i]? = some x) (hy : l[j]? = some y) (he : key x = key y) : i = j := by
  rcases Nat.lt_trichotomy i j with q | q | q
  · have := ris_lt h (j - i - 1) i x y hx (by rw [show i + (j - i - 1) + 1 = j by omega]; exact hy); omega
  · exact q
  · have := ris_lt h (i - j - 1) j y x hy (by rw [show j + (i - j - 1) + 1 = i by omega]; exact hx); omega
end
structure Ut where
  id : Int
  grp : Int
  ant : List Int
  til : Int
  st : Int
  fr : Int
structure Nd where
  p : Int
  g : Int
  ag : List Int
structure Da where
  k : Int
  id : Int
  t : Int
instance : Inhabited Ut := ⟨⟨0, 0, [], 0, 0, 0⟩⟩
def antB (l : List Int) : Bool := risB (fun x => rng x 0 19) (fun x => x) l
def redB (u p : Int) : Bool := rng u 0 7 && (rng p 0 7 && decide (u.toNat &&& (7 - p.toNat) = 0))
def perB (x : Int) : Bool := rng x 0 999
def forB (st fr : Int) : Bool := rng st 1 4 && (if st = 2 ∨ st = 3 then perB fr else decide (fr = -1))
def unitB (u : Ut) : Bool := rng u.id 1 1000000 && (rng u.grp 0 7 && (antB u.ant && (tmv u.til && forB u.st u.fr)))
def needB (n : Nd) : Bool := perB n.p && (rng n.g 0 7 && antB n.ag)
def bankB (l : List Ut) : Bool := decide (l.length ≤ 300) && risB unitB Ut.id l
def hasB (l : List Int) (n : Int) : Bool := l.any (· == n)
def freeOf (u : Ut) (n : Nd) : Bool := !(u.ant.any (hasB n.ag))
def fitsB (u : Ut) (n : Nd) : Bool := unitB u && (needB n && (redB u.grp n.g && freeOf u n))
def rank (u : Ut) (n : Nd) : Int := if u.grp = n.g then 0 else if u.grp < 4 ∧ 4 ≤ n.g then 2 else 1
def befB (n : Nd) (a b : Ut) : Bool := if rank a n = rank b n then (if a.til = b.til then decide (a.id < b.id) else decide (a.til < b.til)) else decide (rank a n < rank b n)
def mayB (n : Nd) (t : Int) (u : Ut) : Bool := decide (u.st = 1) && (decide (t ≤ u.til) && fitsB u n)
def insU (n : Nd) (u : Ut) : List Ut → List Ut
  | [] => [u]
  | x :: l => if befB n u x then u :: x :: l else x :: insU n u l
def pickB (l : List Ut) (n : Nd) (t c : Int) : Bool := bankB l && (needB n && (tmv t && rng c 0 100))
def doingB (a : Da) : Bool := rng a.k 1 4 && (rng a.id 1 1000000 && tmv a.t)
def fineB (u : Ut) (n : Nd) (k : Int) : Bool := if k = 1 then decide (u.st = 1) else if k = 2 ∨ k = 3 then decide (u.st = 2) && decide (u.fr = n.p) else decide (u.st = 1) || decide (u.st = 2)
def refuse (u : Ut) (n : Nd) (t : Int) : Int := if u.til < t then 5 else if fitsB u n = true then 0 else 6
def codeU (u : Ut) (n : Nd) (a : Da) : Int := if fineB u n a.k = true then (if a.k = 1 ∨ a.k = 3 then refuse u n a.t else 0) else 4
def turnU (u : Ut) (n : Nd) (k : Int) : Ut :=
  if k = 1 then { u with st := 2, fr := n.p } else if k = 2 then { u with st := 1, fr := -1 } else if k = 3 then { u with st := 3, fr := n.p } else { u with st := 4, fr := -1 }
def placeOf (l : List Ut) (i : Int) : Option Nat := l.findIdx? (fun u => decide (u.id = i))
def codeB (l : List Ut) (n : Nd) (a : Da) : Int :=
  if bankB l = true then (if doingB a = true ∧ needB n = true then (match placeOf l a.id with
    | none => 3
    | some k => codeU (l.getD k default) n a) else 2) else 1
def bankDo (l : List Ut) (n : Nd) (a : Da) : List Ut :=
  if bankB l = true then (if codeB l n a = 0 then (match placeOf l a.id with
    | none => l
    | some k => l.set k (turnU (l.getD k default) n a.k)) else l) else []
def traceL (l : List Ut) (p : Int) : List Int := (l.filter (fun u => decide (u.st = 3) && decide (u.fr = p))).map Ut.id
def trace (l : List Ut) (p : Int) : List Int := if bankB l = true then traceL l p else []
end Go.Proofs.Ytgcpiinmcbdkmaa.Bl

namespace Go.Proofs.Ytgcpiinmcbdkmaa
open Go.RowKit Va Bl
set_option linter.unusedVariables false
theorem some_of {α : Type} (l : List α) (i : Nat) (h : i < l.length) : ∃ x, l[i]? = some x := ⟨_, List.getElem?_eq_getElem h⟩
def IRw (w : World) (v : Value) (l : List Int) : Prop :=
  ∃ ao cap, v = .slice ao l.length cap ∧ l.length ≤ cap ∧ (l.length = 0 ∨ ∃ b off, ao = some ⟨b, off, none⟩ ∧ b < w.heap.size ∧ ∀ i x, l[i]? = some x → w.cell? ⟨b, off + i, none⟩ = some (.int .i64 x))
theorem IRw.below {w w' : World} {v : Value} {l : List Int} (h : IRw w v l) (hb : Below w.heap.size w w') : IRw w' v l := by
  obtain ⟨ao, cap, rfl, hlc, h2⟩ := h
  refine ⟨ao, cap, rfl, hlc, ?_⟩
  rcases h2 with h2 | ⟨b, off, h3, h4, h5⟩
  · exact Or.inl h2
  · exact Or.inr ⟨b, off, h3, Nat.lt_of_lt_of_le h4 hb.size, fun i x hx => (hb.cell (p := ⟨b, off + i, none⟩) h4).trans (h5 i x hx)⟩
theorem IRw.at {w : World} {ao : Option Addr} {cap : Nat} {n : Nat} {l : List Int} (h : IRw w (.slice ao n cap) l) {i : Nat} {x : Int} (hx : l[i]? = some x) :
    ∃ b off, ao = some ⟨b, off, none⟩ ∧ b < w.heap.size ∧ ∀ i x, l[i]? = some x → w.cell? ⟨b, off + i, none⟩ = some (.int .i64 x) := by
  obtain ⟨ao', cap', he, _, h2⟩ := h
  obtain ⟨rfl, rfl, rfl⟩ : ao = ao' ∧ n = l.length ∧ cap = cap' := by simpa using he
  have := get_lt' hx
  rcases h2 with h2 | ⟨b, off, h3, h4, h5⟩
  · omega
  · exact ⟨b, off, h3, h4, h5⟩
theorem IRw.form {w : World} {v : Value} {l : List Int} (h : IRw w v l) : ∃ ao cap, v = .slice ao l.length cap := by
  obtain ⟨ao, cap, rfl, _, _⟩ := h; exact ⟨ao, cap, rfl⟩
theorem IRw.len {w : World} {ao : Option Addr} {n cap : Nat} {l : List Int} (h : IRw w (.slice ao n cap) l) : n = l.length := by
  obtain ⟨ao', cap', he, _, _⟩ := h; simp at he; omega
theorem IRw.cap {w : World} {ao : Option Addr} {n cap : Nat} {l : List Int} (h : IRw w (.slice ao n cap) l) : l.length ≤ cap := by
  obtain ⟨ao', cap', he, hc, _⟩ := h; simp at he; omega
theorem IRw.nil (w : World) (ao : Option Addr) (cap : Nat) : IRw w (.slice ao 0 cap) [] := ⟨ao, cap, rfl, Nat.zero_le _, Or.inl rfl⟩
def UCell (w : World) (b o : Nat) (x : Ut) (tv : Value) : Prop :=
  w.cell? ⟨b, o, none⟩ = some (.int .i64 x.id) ∧ w.cell? ⟨b, o + 1, none⟩ = some (.int .i64 x.grp) ∧ w.cell? ⟨b, o + 2, none⟩ = some (tv) ∧ w.cell? ⟨b, o + 3, none⟩ = some (.int .i64 x.til) ∧ w.cell? ⟨b, o + 4, none⟩ = some (.int .i64 x.st) ∧ w.cell? ⟨b, o + 5, none⟩ = some (.int .i64 x.fr)
theorem UCell.below {w w' : World} {b o : Nat} {x : Ut} {tv : Value} (h : UCell w b o x tv) (hb : Below w.heap.size w w') (hl : b < w.heap.size) : UCell w' b o x tv :=
  ⟨(hb.cell (p := ⟨b, o, none⟩) hl).trans h.1, (hb.cell (p := ⟨b, o + 1, none⟩) hl).trans h.2.1, (hb.cell (p := ⟨b, o + 2, none⟩) hl).trans h.2.2.1, (hb.cell (p := ⟨b, o + 3, none⟩) hl).trans h.2.2.2.1, (hb.cell (p := ⟨b, o + 4, none⟩) hl).trans h.2.2.2.2.1, (hb.cell (p := ⟨b, o + 5, none⟩) hl).trans h.2.2.2.2.2⟩
def aU (x : Ut) (tv : Value) : Value := .agg #[.int .i64 x.id, .int .i64 x.grp, tv, .int .i64 x.til, .int .i64 x.st, .int .i64 x.fr]
def URw (w : World) (v : Value) (l : List Ut) : Prop :=
  ∃ ao cap, v = .slice ao l.length cap ∧ l.length ≤ cap ∧ (l.length = 0 ∨ ∃ b off, ao = some ⟨b, off, none⟩ ∧ b < w.heap.size ∧ ∀ i x, l[i]? = some x → ∃ tv, UCell w b (off + i * 6) x tv ∧ IRw w tv x.ant)
theorem URw.below {w w' : World} {v : Value} {l : List Ut} (h : URw w v l) (hb : Below w.heap.size w w') : URw w' v l := by
  obtain ⟨ao, cap, rfl, hlc, h2⟩ := h
  refine ⟨ao, cap, rfl, hlc, ?_⟩
  rcases h2 with h2 | ⟨b, off, h3, h4, h5⟩
  · exact Or.inl h2
  · refine Or.inr ⟨b, off, h3, Nat.lt_of_lt_of_le h4 hb.size, fun i x hx => ?_⟩
    obtain ⟨tv, h6, h7⟩ := h5 i x hx
    exact ⟨tv, h6.below hb h4, h7.below hb⟩
theorem URw.at {w : World} {ao : Option Addr} {cap : Nat} {n : Nat} {l : List Ut} (h : URw w (.slice ao n cap) l) {i : Nat} {x : Ut} (hx : l[i]? = some x) :
    ∃ b off ta tc, ao = some ⟨b, off, none⟩ ∧ b < w.heap.size ∧ IRw w (.slice ta x.ant.length tc) x.ant ∧ w.cell? ⟨b, off + i * 6, none⟩ = some (.int .i64 x.id) ∧ w.cell? ⟨b, off + i * 6 + 1, none⟩ = some (.int .i64 x.grp) ∧ w.cell? ⟨b, off + i * 6 + 2, none⟩ = some (.slice ta x.ant.length tc) ∧ w.cell? ⟨b, off + i * 6 + 3, none⟩ = some (.int .i64 x.til) ∧ w.cell? ⟨b, off + i * 6 + 4, none⟩ = some (.int .i64 x.st) ∧ w.cell? ⟨b, off + i * 6 + 5, none⟩ = some (.int .i64 x.fr) := by
  obtain ⟨ao', cap', he, _, h2⟩ := h
  obtain ⟨rfl, rfl, rfl⟩ : ao = ao' ∧ n = l.length ∧ cap = cap' := by simpa using he
  have := get_lt' hx
  rcases h2 with h2 | ⟨b, off, h3, h4, h5⟩
  · omega
  · obtain ⟨tv, ⟨c0, c1, c2, c3, c4, c5⟩, h7⟩ := h5 i x hx
    obtain ⟨ta, tc, rfl⟩ := h7.form
    exact ⟨b, off, ta, tc, h3, h4, h7, c0, c1, c2, c3, c4, c5⟩
theorem URw.len {w : World} {ao : Option Addr} {n cap : Nat} {l : List Ut} (h : URw w (.slice ao n cap) l) : n = l.length := by
  obtain ⟨ao', cap', he, _, _⟩ := h; simp at he; omega
theorem URw.cap {w : World} {ao : Option Addr} {n cap : Nat} {l : List Ut} (h : URw w (.slice ao n cap) l) : l.length ≤ cap := by
  obtain ⟨ao', cap', he, hc, _⟩ := h; simp at he; omega
theorem URw.nil (w : World) (ao : Option Addr) (cap : Nat) : URw w (.slice ao 0 cap) [] := ⟨ao, cap, rfl, Nat.zero_le _, Or.inl rfl⟩
end Go.Proofs.Ytgcpiinmcbdkmaa

namespace Go.Proofs.Ytgcpiinmcbdkmaa
open Go.RowKit Va
set_option linter.unusedVariables false
theorem ret_bool {a b : Bool} (h : a = b) : Ending.returned (.bool a) = .returned (.bool b) := by rw [h]
theorem ret_int {k : IntKind} {a b : Int} (h : a = b) : Ending.returned (.int k a) = .returned (.int k b) := by rw [h]
set_option maxHeartbeats 400000 in
theorem lin_any (n lo hi : Int) (w : World) : Calls Try.prog 52 #[.int .i64 n, .int .i64 lo, .int .i64 hi] w fun e w' => e = .returned (.bool (rng n lo hi)) ∧ w = w' := by
  unfold rng
  go_enter Try.func52, Try.ntmps52
  go_wp2
  all_goals (go_ret; exact ⟨ret_bool (by first | (simp; done) | (simp; omega) | (simp_all; done) | (simp_all; omega) | (rw [Bool.eq_iff_iff]; simp; omega) | (rw [Bool.eq_iff_iff]; simp_all; omega)), rfl⟩)
end Go.Proofs.Ytgcpiinmcbdkmaa
