/-
  Merged: Va Rw Vb Uo Rv Ua.
-/
import Derived.WalkKit
import Derived.WalkSpells
import Derived.WalkLawsBesides
import Derived.OwnWalk
import Derived.ProofKit
import Derived.OpenShut
import Derived.ChangeOld
import Derived.Below
import Derived.Deep.Slices
import Derived.Lib.SmallJoins
import Derived.Test.YtmcekefoedgboaaDoorRows
import Derived.BigQuiet
import Derived.Deep.QuietTactic
import Derived.Deep.DeepCutAuto
import Derived.Deep.RegionHeld3
namespace Go.Proofs.YtmcekefoedgboaaDoor.Va
structure Vt where
  b : Int
  o : Int
  p : Int
  u : Int
  a : Int
  h : Int
def rng (x lo hi : Int) : Bool := decide (lo ≤ x) && decide (x ≤ hi)
theorem zbn {x lo hi : Int} : rng x lo hi = true ↔ lo ≤ x ∧ x ≤ hi := by simp [rng]
def up (n : Int) : Int := if n ≤ 40 ∨ 131 ≤ n then 3 else if 111 ≤ n then 2 else if n ≤ 50 ∨ 91 ≤ n then 1 else 0
def hp (n : Int) : Int := if n ≤ 350 then 3 else if 391 ≤ n then 2 else if n ≤ 360 ∨ 381 ≤ n then 1 else 0
end Go.Proofs.YtmcekefoedgboaaDoor.Va

namespace Go.Proofs.YtmcekefoedgboaaDoor
open Go.RowKit
theorem hidden {p : Prop} (h : p) : Hid p := h
theorem onto {w W w2 : World} (hv : Below w.heap.size w W) (h : Below W.heap.size W w2) : Below w.heap.size w w2 := hv.trans (h.mono hv.size)
theorem jg {b : Nat} {w0 w : World} (h : Below b w0 w) : Below b w0 w.drew := ⟨h.os, h.tape, h.output, h.size, h.block⟩
theorem vz {b : Nat} {w0 w : World} (h : Below b w0 w) (n : Nat) : Below b w0 (w.drewN n) := ⟨h.os, h.tape, h.output, h.size, h.block⟩
theorem zc6 {α : Type} {l : List α} {i : Nat} {x : α} (h : l[i]? = some x) : i < l.length := (List.getElem?_eq_some_iff.1 h).1
section
variable {α : Type} (s : Nat) (cs : α → Nat → Int)
def Rw (w : World) (v : Value) (l : List α) : Prop :=
  ∃ ao cap, v = .slice ao l.length cap ∧ l.length ≤ cap ∧ (l.length = 0 ∨ ∃ b off, ao = some ⟨b, off, none⟩ ∧ b < w.heap.size ∧ ∀ i x, l[i]? = some x → ∀ k, k < s → w.cell? ⟨b, off + i * s + k, none⟩ = some (.int .i64 (cs x k)))
def Out (w : World) (G n : Nat) (l : List α) (i : Nat) : Prop :=
  G < w.heap.size ∧ (∀ j, j < n * s → (∃ u, w.cell? ⟨G, j, none⟩ = some u) ∧ w.frozen? ⟨G, j, none⟩ = false) ∧
    ∀ j x, j < i → l[j]? = some x → ∀ k, k < s → w.cell? ⟨G, j * s + k, none⟩ = some (.int .i64 (cs x k))
def Own (w : World) (base : Nat) (v : Value) (l : List α) : Prop :=
  ∃ ao cap, v = .slice ao l.length cap ∧ l.length ≤ cap ∧ (l.length = 0 ∨ ∃ G, ao = some ⟨G, 0, none⟩ ∧ base ≤ G ∧ Out s cs w G l.length l l.length)
end
section
variable {α : Type} {s : Nat} {cs : α → Nat → Int}
theorem Rw.below {w w' : World} {v : Value} {l : List α} (h : Rw s cs w v l) (hb : Below w.heap.size w w') : Rw s cs w' v l := by
  obtain ⟨ao, cap, rfl, hlc, h2⟩ := h
  refine ⟨ao, cap, rfl, hlc, ?_⟩
  rcases h2 with h2 | ⟨b, off, h3, h4, h5⟩
  · exact Or.inl h2
  · exact Or.inr ⟨b, off, h3, Nat.lt_of_lt_of_le h4 hb.size, fun i x hx k hk => (hb.cell (p := ⟨b, off + i * s + k, none⟩) h4).trans (h5 i x hx k hk)⟩
theorem Rw.at {w : World} {ao : Option Addr} {cap : Nat} {n : Nat} {l : List α} (h : Rw s cs w (.slice ao n cap) l) {i : Nat} {x : α} (hx : l[i]? = some x) :
    ∃ b off, ao = some ⟨b, off, none⟩ ∧ b < w.heap.size ∧ ∀ k, k < s → w.cell? ⟨b, off + i * s + k, none⟩ = some (.int .i64 (cs x k)) := by
  obtain ⟨ao', cap', he, _, h2⟩ := h
  obtain ⟨rfl, rfl, rfl⟩ : ao = ao' ∧ n = l.length ∧ cap = cap' := by simpa using he
  have := zc6 hx
  rcases h2 with h2 | ⟨b, off, h3, h4, h5⟩
  · omega
  · exact ⟨b, off, h3, h4, fun k hk => h5 i x hx k hk⟩
theorem Rw.len {w : World} {ao : Option Addr} {n cap : Nat} {l : List α} (h : Rw s cs w (.slice ao n cap) l) : n = l.length := by
  obtain ⟨ao', cap', he, _, _⟩ := h; simp at he; omega
theorem Rw.cap {w : World} {ao : Option Addr} {n cap : Nat} {l : List α} (h : Rw s cs w (.slice ao n cap) l) : l.length ≤ cap := by
  obtain ⟨ao', cap', he, hc, _⟩ := h; simp at he; omega
theorem Rw.nil (w : World) (ao : Option Addr) (cap : Nat) : Rw s cs w (.slice ao 0 cap) [] := ⟨ao, cap, rfl, Nat.zero_le _, Or.inl rfl⟩
theorem Rw.take {w : World} {ao : Option Addr} {n cap : Nat} {l : List α} (h : Rw s cs w (.slice ao n cap) l) (i c : Nat) (hi : i ≤ l.length) (hc : i ≤ c) : Rw s cs w (.slice ao i c) (l.take i) := by
  obtain ⟨ao', cap', he, _, h2⟩ := h
  obtain ⟨rfl, rfl, rfl⟩ : ao = ao' ∧ n = l.length ∧ cap = cap' := by simpa using he
  have hlen : (l.take i).length = i := by rw [List.length_take]; omega
  refine ⟨ao, c, by rw [hlen], by rw [hlen]; exact hc, ?_⟩
  rcases h2 with h2 | ⟨b, off, h3, h4, h5⟩
  · exact Or.inl (by omega)
  · refine Or.inr ⟨b, off, h3, h4, fun j x hx k hk => h5 j x ?_ k hk⟩
    rw [List.getElem?_take] at hx
    split at hx
    · exact hx
    · cases hx
theorem Out.below {w w' : World} {G n i : Nat} {l : List α} (h : Out s cs w G n l i) (hb : Below w.heap.size w w') : Out s cs w' G n l i :=
  ⟨Nat.lt_of_lt_of_le h.1 hb.size, fun j hj => ⟨by
      obtain ⟨u, hu⟩ := (h.2.1 j hj).1
      exact ⟨u, (hb.cell (p := ⟨G, j, none⟩) h.1).trans hu⟩, (hb.frozen (p := ⟨G, j, none⟩) h.1).trans (h.2.1 j hj).2⟩,
    fun j x hj hx k hk => (hb.cell (p := ⟨G, j * s + k, none⟩) h.1).trans (h.2.2 j x hj hx k hk)⟩
def put (w : World) (G o : Nat) : List Value → World
  | [] => w
  | v :: vs => put (w.setCell ⟨G, o, none⟩ v) G (o + 1) vs
theorem zgm (vs : List Value) : ∀ (w : World) (G o : Nat), (put w G o vs).heap.size = w.heap.size := by
  induction vs with
  | nil => intro w G o; rfl
  | cons v vs ih => intro w G o; show (put (w.setCell ⟨G, o, none⟩ v) G (o + 1) vs).heap.size = _; rw [ih]; simp [World.setCell]
theorem zdn (vs : List Value) : ∀ (w : World) (G o j : Nat), (j < o ∨ o + vs.length ≤ j) → (put w G o vs).cell? ⟨G, j, none⟩ = w.cell? ⟨G, j, none⟩ := by
  induction vs with
  | nil => intro w G o j _; rfl
  | cons v vs ih =>
    intro w G o j hj
    simp only [List.length_cons] at hj
    show (put (w.setCell ⟨G, o, none⟩ v) G (o + 1) vs).cell? _ = _
    have hne : j ≠ o := by omega
    rw [ih _ _ _ _ (by omega), World.cell?_setCell_other (h := by first | (simp; done) | (simp; exact hne))]
theorem zf0 (vs : List Value) : ∀ (w : World) (G o : Nat), (∀ k, k < vs.length → ∃ u, w.cell? ⟨G, o + k, none⟩ = some u) → ∀ k v, vs[k]? = some v → (put w G o vs).cell? ⟨G, o + k, none⟩ = some v := by
  induction vs with
  | nil => intro w G o _ k v h; cases h
  | cons u vs ih =>
    intro w G o hold k v h
    show (put (w.setCell ⟨G, o, none⟩ u) G (o + 1) vs).cell? _ = _
    obtain ⟨u0, hu0⟩ := hold 0 (by simp)
    cases k with
    | zero =>
      simp at h
      subst h
      rw [zdn _ _ _ _ _ (by omega)]
      exact World.cell?_setCell_same _ _ _ hu0
    | succ k =>
      have := ih (w.setCell ⟨G, o, none⟩ u) G (o + 1) (fun j hj => by
        obtain ⟨u1, hu1⟩ := hold (j + 1) (by simp; omega)
        refine ⟨u1, ?_⟩
        rw [World.cell?_setCell_other (h := by first | (simp; done) | (simp; omega)), show o + 1 + j = o + (j + 1) by omega]
        exact hu1) k v (by simpa using h)
      rw [show o + (k + 1) = o + 1 + k by omega]
      exact this
theorem zhb (vs : List Value) : ∀ (w : World) (G o j : Nat), (put w G o vs).frozen? ⟨G, j, none⟩ = w.frozen? ⟨G, j, none⟩ := by
  induction vs with
  | nil => intro w G o j; rfl
  | cons v vs ih => intro w G o j; show (put (w.setCell ⟨G, o, none⟩ v) G (o + 1) vs).frozen? _ = _; rw [ih, World.frozen?_setCell]
theorem zg5 (vs : List Value) : ∀ {w0 : World} {b : Nat} (w : World) (G o : Nat), Below b w0 w → b ≤ G → Below b w0 (put w G o vs) := by
  induction vs with
  | nil => intro w0 b w G o h _; exact h
  | cons v vs ih => intro w0 b w G o h hG; exact ih _ _ _ (h.setCell (p := ⟨G, o, none⟩) hG v) hG
theorem Out.set {w : World} {G n i : Nat} {l : List α} {x : α} (h : Out s cs w G n l i) (hi : i < n) (hx : l[i]? = some x) (vs : List Value) (hv : vs.length = s) (hvs : ∀ k, k < s → vs[k]? = some (.int .i64 (cs x k))) :
    Out s cs (put w G (i * s) vs) G n l (i + 1) := by
  obtain ⟨h1, h2, h3⟩ := h
  have hle : i * s + s ≤ n * s := by rw [← Nat.succ_mul]; exact Nat.mul_le_mul_right s hi
  have hnew : ∀ k, k < s → (put w G (i * s) vs).cell? ⟨G, i * s + k, none⟩ = some (.int .i64 (cs x k)) := fun k hk =>
    zf0 vs w G (i * s) (fun j hj => (h2 (i * s + j) (by omega)).1) k _ (hvs k hk)
  refine ⟨by rw [zgm]; exact h1, fun j hj => ⟨?_, by rw [zhb]; exact (h2 j hj).2⟩, fun j y hj hy k hk => ?_⟩
  · by_cases a : i * s ≤ j ∧ j < i * s + s
    · have := hnew (j - i * s) (by omega)
      rw [show i * s + (j - i * s) = j by omega] at this
      exact ⟨_, this⟩
    · rw [zdn _ _ _ _ _ (by omega)]; exact (h2 j hj).1
  · by_cases a : j = i
    · subst a; rw [hx] at hy; cases hy; exact hnew k hk
    · have hlt : j * s + s ≤ i * s := by rw [← Nat.succ_mul]; exact Nat.mul_le_mul_right s (by omega)
      rw [zdn _ _ _ _ _ (by omega)]
      exact h3 j y (by omega) hy k hk
theorem Out.old {w : World} {G n i : Nat} {l : List α} (h : Out s cs w G n l i) {j : Nat} (hj : j < n) {k : Nat} (hk : k < s) : (∃ u, w.cell? ⟨G, j * s + k, none⟩ = some u) ∧ w.frozen? ⟨G, j * s + k, none⟩ = false := by
  have hle : j * s + s ≤ n * s := by rw [← Nat.succ_mul]; exact Nat.mul_le_mul_right s hj
  exact h.2.1 (j * s + k) (by omega)
theorem Out.row {w : World} {G : Nat} {l : List α} (h : Out s cs w G l.length l l.length) (c : Nat) (hc : l.length ≤ c) : Rw s cs w (.slice (some ⟨G, 0, none⟩) l.length c) l :=
  ⟨_, c, rfl, hc, Or.inr ⟨G, 0, rfl, h.1, fun i x hx k hk => by rw [Nat.zero_add]; exact h.2.2 i x (zc6 hx) hx k hk⟩⟩
theorem Out.own {w : World} {G base : Nat} {l : List α} (h : Out s cs w G l.length l l.length) (hG : base ≤ G) (c : Nat) (hc : l.length ≤ c) : Own s cs w base (.slice (some ⟨G, 0, none⟩) l.length c) l :=
  ⟨_, c, rfl, hc, Or.inr ⟨G, rfl, hG, h⟩⟩
theorem Own.row {w : World} {base : Nat} {v : Value} {l : List α} (h : Own s cs w base v l) : Rw s cs w v l := by
  obtain ⟨ao, cap, rfl, hc, h0 | ⟨G, rfl, _, ho⟩⟩ := h
  · exact ⟨ao, cap, rfl, hc, Or.inl h0⟩
  · exact ho.row cap hc
theorem Own.below {w w' : World} {base : Nat} {v : Value} {l : List α} (h : Own s cs w base v l) (hb : Below w.heap.size w w') : Own s cs w' base v l := by
  obtain ⟨ao, cap, rfl, hc, h0 | ⟨G, rfl, hG, ho⟩⟩ := h
  · exact ⟨ao, cap, rfl, hc, Or.inl h0⟩
  · exact ⟨_, cap, rfl, hc, Or.inr ⟨G, rfl, hG, ho.below hb⟩⟩
theorem Own.za1 {w : World} {base b2 : Nat} {v : Value} {l : List α} (h : Own s cs w base v l) (hb : b2 ≤ base) : Own s cs w b2 v l := by
  obtain ⟨ao, cap, rfl, hc, h0 | ⟨G, rfl, hG, ho⟩⟩ := h
  · exact ⟨ao, cap, rfl, hc, Or.inl h0⟩
  · exact ⟨_, cap, rfl, hc, Or.inr ⟨G, rfl, Nat.le_trans hb hG, ho⟩⟩
theorem Own.nil (w : World) (b : Nat) (ao : Option Addr) (cap : Nat) : Own s cs w b (.slice ao 0 cap) [] := ⟨ao, cap, rfl, Nat.zero_le _, Or.inl rfl⟩
structure Aside (w w' : World) (v : Value) : Prop where
  os : w'.os = w.os
  tape : w'.tape = w.tape
  output : w'.output = w.output
  size : w'.heap.size = w.heap.size
  block : ∀ j, v.ownBlock ≠ some j → w'.heap[j]? = w.heap[j]?
theorem Aside.refl (w : World) (v : Value) : Aside w w v := ⟨rfl, rfl, rfl, rfl, fun _ _ => rfl⟩
theorem Aside.set {w w' : World} {G n c o : Nat} (h : Aside w w' (.slice (some ⟨G, 0, none⟩) n c)) (x : Value) : Aside w (w'.setCell ⟨G, o, none⟩ x) (.slice (some ⟨G, 0, none⟩) n c) := by
  have hb := (Below.refl G w').setCell (p := ⟨G, o, none⟩) (Nat.le_refl _) x
  refine ⟨hb.os.trans h.os, hb.tape.trans h.tape, hb.output.trans h.output, by rw [← h.size]; simp [World.setCell], fun j hj => ?_⟩
  rw [← h.block j hj]
  have hne : G ≠ j := fun e => hj (by rw [e]; rfl)
  exact Below.heap_setCell _ _ _ _ (by show j ≠ G; omega)
theorem Aside.put {G n c : Nat} (vs : List Value) : ∀ {w w' : World} (o : Nat), Aside w w' (.slice (some ⟨G, 0, none⟩) n c) → Aside w (put w' G o vs) (.slice (some ⟨G, 0, none⟩) n c) := by
  induction vs with
  | nil => intro w w' o h; exact h
  | cons v vs ih => intro w w' o h; exact ih (o + 1) (h.set v)
theorem Aside.below {w0 w w' : World} {base : Nat} {v : Value} (h : Aside w w' v) (hb : Below base w0 w) (hv : ∀ j, v.ownBlock = some j → base ≤ j) : Below base w0 w' :=
  ⟨h.os.trans hb.os, h.tape.trans hb.tape, h.output.trans hb.output, by rw [h.size]; exact hb.size, fun k hk => by
    rw [← hb.block k hk]
    exact h.block k (fun e => absurd (hv k e) (by omega))⟩
end
def Apart (v v2 : Value) : Prop := ∀ j, v.ownBlock = some j → v2.ownBlock ≠ some j
def marks (s : Nat) (k : Int) (n : Nat) : List Int := (List.range n).map (fun i : Nat => k + s * (i : Int))
theorem zbk (s : Nat) (k : Int) (n : Nat) : (marks s k n).length = n := by simp [marks]
theorem zd3 (s : Nat) (k : Int) (n i : Nat) (h : i < n) : (marks s k n)[i]? = some (k + s * (i : Int)) := by
  rw [marks, List.getElem?_map, List.getElem?_range h]; rfl
end Go.Proofs.YtmcekefoedgboaaDoor

namespace Go.Proofs.YtmcekefoedgboaaDoor
open Go.RowKit Va
set_option linter.unusedVariables false
theorem ret_bool {a b : Bool} (h : a = b) : Ending.returned (.bool a) = .returned (.bool b) := by rw [h]
set_option maxHeartbeats 400000 in
theorem za5 (n lo hi : Int) (w : World) : Calls Tryd.prog 30 #[.int .i64 n, .int .i64 lo, .int .i64 hi] w fun e w' => e = .returned (.bool (rng n lo hi)) ∧ w = w' := by
  unfold rng
  go_enter Tryd.func30, Tryd.ntmps30
  go_wp2
  all_goals (go_ret; exact ⟨ret_bool (by first | (simp; done) | (simp; omega) | (simp_all; done) | (simp_all; omega) | (rw [Bool.eq_iff_iff]; simp; omega) | (rw [Bool.eq_iff_iff]; simp_all; omega)), rfl⟩)
end Go.Proofs.YtmcekefoedgboaaDoor

namespace Go.Proofs.YtmcekefoedgboaaDoor.Uo
open Va
set_option linter.all false
structure Od where
  id : Int
  p : Int
  d : Int
  n : Int
  f : Int
  e : Int
  c : Int
  s : Int
  two : Bool
structure Ds where
  o : Int
  t : Int
  m : Int
  b : Int
  a : Int
structure Du where
  o : Int
  t : Int
  s : Int
instance : Inhabited Od := ⟨⟨0, 0, 0, 0, 0, 0, 0, 0, false⟩⟩
instance : Inhabited Ds := ⟨⟨0, 0, 0, 0, 0⟩⟩
def zk (p : Int) : Bool := rng p 0 999
def zn (t : Int) : Bool := rng t 0 10000000
def odB (o : Od) : Bool := rng o.id 1 100000 && (zk o.p && (rng o.d 1 1000 && (rng o.n 1 1000000000 && (zn o.f && (rng o.e 1 1440 && (rng o.c 1 200 && rng o.s 1 4))))))
def yj (l : List Od) (id : Int) : Nat → Int
  | 0 => -1
  | n + 1 => if 0 ≤ yj l id n then yj l id n else if (l.getD n default).id = id then (n : Int) else -1
def atO (l : List Od) (id : Int) : Int := yj l id l.length
theorem qh {l : List Od} {i : Nat} {x : Od} (h : l[i]? = some x) : l.getD i default = x := by rw [List.getD_eq_getElem?_getD, h]; rfl
theorem zbm {l : List Ds} {i : Nat} {x : Ds} (h : l[i]? = some x) : l.getD i default = x := by rw [List.getD_eq_getElem?_getD, h]; rfl
theorem zev (l : List Od) (id : Int) : ∀ n, -1 ≤ yj l id n ∧ yj l id n < (n : Int)
  | 0 => by simp [yj]
  | n + 1 => by
    have := zev l id n
    unfold yj
    split
    · omega
    · split <;> omega
theorem zhc (l : List Od) (id : Int) {n : Nat} (h : 0 ≤ yj l id n) : ∀ k, yj l id (n + k) = yj l id n
  | 0 => rfl
  | k + 1 => by
    have e := zhc l id h k
    rw [← Nat.add_assoc, yj, e, if_pos h]
theorem zhn {l : List Od} {id : Int} {i : Nat} {x : Od} (hx : l[i]? = some x) (h0 : yj l id i = -1) (h : x.id = id) : atO l id = (i : Int) := by
  have h1 : yj l id (i + 1) = (i : Int) := by rw [yj, h0, qh hx]; simp [h]
  have hl := (List.getElem?_eq_some_iff.1 hx).1
  have := zhc l id (n := i + 1) (by rw [h1]; omega) (l.length - (i + 1))
  unfold atO
  rw [show l.length = i + 1 + (l.length - (i + 1)) by omega, this, h1]
theorem zfw {l : List Od} {id : Int} {i : Nat} {x : Od} (hx : l[i]? = some x) (h0 : yj l id i = -1) (h : ¬ x.id = id) : yj l id (i + 1) = -1 := by
  rw [yj, h0, qh hx]; simp [h]
theorem zgc (l : List Od) (id : Int) : ∀ n (k : Nat), n ≤ l.length → yj l id n = (k : Int) → ∃ x, l[k]? = some x ∧ x.id = id
  | 0, k, _, h => by simp only [yj] at h; omega
  | n + 1, k, hn, h => by
    unfold yj at h
    split at h
    · exact zgc l id n k (by omega) h
    · split at h
      · rename_i q
        obtain rfl : n = k := by omega
        exact ⟨l[n]'(by omega), List.getElem?_eq_getElem (by omega), by rw [qh (List.getElem?_eq_getElem (show n < l.length by omega))] at q; exact q⟩
      · omega
theorem ze3 {l : List Od} {id : Int} {k : Nat} (h : atO l id = (k : Int)) : ∃ x, l[k]? = some x ∧ x.id = id := zgc l id l.length k (Nat.le_refl _) h
theorem atO_bd (l : List Od) (id : Int) : -1 ≤ atO l id ∧ atO l id < (l.length : Int) := zev l id l.length
def byB (two : Bool) (b a : Int) : Bool := if two = false then decide (a = -1) else decide (¬ a = -1) && decide (¬ a = b)
def ql (l : List Od) (i : Nat) : Bool := odB (l.getD i default) && (decide (i = 0) || decide ((l.getD (i - 1) default).id < (l.getD i default).id))
def zbf (l : List Ds) (i j : Nat) : Bool := decide ((l.getD j default).o = (l.getD i default).o) && decide ((l.getD j default).t = (l.getD i default).t)
def yc (os : List Od) (ds : List Ds) (i : Nat) : Bool :=
  let d := ds.getD i default
  let o := os.getD (atO os d.o).toNat default
  decide (0 ≤ atO os d.o) && (decide (¬ o.s = 1) && (rng d.t 0 (o.c - 1) && (zn d.m && (zk d.b && ((decide (d.a = -1) || zk d.a) && (byB o.two d.b d.a && (decide (i = 0) || decide ((ds.getD (i - 1) default).m ≤ d.m))))))))
def okD (os : List Od) (ds : List Ds) (i : Nat) : Bool := yc os ds i && (List.range i).all fun j => !zbf ds i j
def jr (os : List Od) (ds : List Ds) : Bool := decide (os.length ≤ 100 ∧ ds.length ≤ 500) && ((List.range os.length).all (ql os) && (List.range ds.length).all (okD os ds))
theorem zgf {os : List Od} {ds : List Ds} (h : ¬ (os.length ≤ 100 ∧ ds.length ≤ 500)) : jr os ds = false := by simp [jr, h]
theorem zkb {os : List Od} {ds : List Ds} {i : Nat} (hi : i < os.length) (h : ql os i = false) : jr os ds = false := by
  have : (List.range os.length).all (ql os) = false := by rw [List.all_eq_false]; exact ⟨i, List.mem_range.2 hi, by simp [h]⟩
  simp [jr, this]
theorem ze8 {os : List Od} {ds : List Ds} {i : Nat} (hi : i < ds.length) (h : okD os ds i = false) : jr os ds = false := by
  have : (List.range ds.length).all (okD os ds) = false := by rw [List.all_eq_false]; exact ⟨i, List.mem_range.2 hi, by simp [h]⟩
  simp [jr, this]
theorem zir {os : List Od} {ds : List Ds} (h : os.length ≤ 100 ∧ ds.length ≤ 500) (h1 : ∀ i, i < os.length → ql os i = true) (h2 : ∀ i, i < ds.length → okD os ds i = true) : jr os ds = true := by
  simp only [jr, Bool.and_eq_true, decide_eq_true_eq, List.all_eq_true, List.mem_range]
  exact ⟨h, h1, h2⟩
theorem zcd {os : List Od} {ds : List Ds} : jr os ds = true ↔ (os.length ≤ 100 ∧ ds.length ≤ 500) ∧ (∀ i, i < os.length → ql os i = true) ∧ ∀ i, i < ds.length → okD os ds i = true := by
  simp only [jr, Bool.and_eq_true, decide_eq_true_eq, List.all_eq_true, List.mem_range]
end Go.Proofs.YtmcekefoedgboaaDoor.Uo

namespace Go.Proofs.YtmcekefoedgboaaDoor
open Go.RowKit
set_option linter.all false
section
variable {α : Type} (s : Nat) (cs : α → Nat → Value)
def VRw (w : World) (v : Value) (l : List α) : Prop :=
  ∃ ao cap, v = .slice ao l.length cap ∧ l.length ≤ cap ∧ (l.length = 0 ∨ ∃ b off, ao = some ⟨b, off, none⟩ ∧ b < w.heap.size ∧ ∀ i x, l[i]? = some x → ∀ k, k < s → w.cell? ⟨b, off + i * s + k, none⟩ = some (cs x k))
def qw (w : World) (G n : Nat) (l : List α) (i : Nat) : Prop :=
  G < w.heap.size ∧ (∀ j, j < n * s → (∃ u, w.cell? ⟨G, j, none⟩ = some u) ∧ w.frozen? ⟨G, j, none⟩ = false) ∧
    ∀ j x, j < i → l[j]? = some x → ∀ k, k < s → w.cell? ⟨G, j * s + k, none⟩ = some (cs x k)
def jl (w : World) (base : Nat) (v : Value) (l : List α) : Prop :=
  ∃ ao cap, v = .slice ao l.length cap ∧ l.length ≤ cap ∧ (l.length = 0 ∨ ∃ G, ao = some ⟨G, 0, none⟩ ∧ base ≤ G ∧ qw s cs w G l.length l l.length)
def ja (l : List α) : List Value := l.flatMap (fun x => (List.range s).map (fun k => cs x k))
end
section
variable {α : Type} {s : Nat} {cs : α → Nat → Value}
theorem VRw.below {w w' : World} {v : Value} {l : List α} (h : VRw s cs w v l) (hb : Below w.heap.size w w') : VRw s cs w' v l := by
  obtain ⟨ao, cap, rfl, hlc, h2⟩ := h
  refine ⟨ao, cap, rfl, hlc, ?_⟩
  rcases h2 with h2 | ⟨b, off, h3, h4, h5⟩
  · exact Or.inl h2
  · exact Or.inr ⟨b, off, h3, Nat.lt_of_lt_of_le h4 hb.size, fun i x hx k hk => (hb.cell (p := ⟨b, off + i * s + k, none⟩) h4).trans (h5 i x hx k hk)⟩
theorem VRw.at {w : World} {ao : Option Addr} {cap : Nat} {n : Nat} {l : List α} (h : VRw s cs w (.slice ao n cap) l) {i : Nat} {x : α} (hx : l[i]? = some x) :
    ∃ b off, ao = some ⟨b, off, none⟩ ∧ b < w.heap.size ∧ ∀ k, k < s → w.cell? ⟨b, off + i * s + k, none⟩ = some (cs x k) := by
  obtain ⟨ao', cap', he, _, h2⟩ := h
  obtain ⟨rfl, rfl, rfl⟩ : ao = ao' ∧ n = l.length ∧ cap = cap' := by simpa using he
  have := zc6 hx
  rcases h2 with h2 | ⟨b, off, h3, h4, h5⟩
  · omega
  · exact ⟨b, off, h3, h4, fun k hk => h5 i x hx k hk⟩
theorem VRw.form {w : World} {v : Value} {l : List α} (h : VRw s cs w v l) : ∃ ao cap, v = .slice ao l.length cap := by
  obtain ⟨ao, cap, rfl, _, _⟩ := h; exact ⟨ao, cap, rfl⟩
theorem VRw.len {w : World} {ao : Option Addr} {n cap : Nat} {l : List α} (h : VRw s cs w (.slice ao n cap) l) : n = l.length := by
  obtain ⟨ao', cap', he, _, _⟩ := h; simp at he; omega
theorem VRw.cap {w : World} {ao : Option Addr} {n cap : Nat} {l : List α} (h : VRw s cs w (.slice ao n cap) l) : l.length ≤ cap := by
  obtain ⟨ao', cap', he, hc, _⟩ := h; simp at he; omega
theorem VRw.nil (w : World) (ao : Option Addr) (cap : Nat) : VRw s cs w (.slice ao 0 cap) [] := ⟨ao, cap, rfl, Nat.zero_le _, Or.inl rfl⟩
theorem VRw.take {w : World} {ao : Option Addr} {n cap : Nat} {l : List α} (h : VRw s cs w (.slice ao n cap) l) (i c : Nat) (hi : i ≤ l.length) (hc : i ≤ c) : VRw s cs w (.slice ao i c) (l.take i) := by
  obtain ⟨ao', cap', he, _, h2⟩ := h
  obtain ⟨rfl, rfl, rfl⟩ : ao = ao' ∧ n = l.length ∧ cap = cap' := by simpa using he
  have hlen : (l.take i).length = i := by rw [List.length_take]; omega
  refine ⟨ao, c, by rw [hlen], by rw [hlen]; exact hc, ?_⟩
  rcases h2 with h2 | ⟨b, off, h3, h4, h5⟩
  · exact Or.inl (by omega)
  · refine Or.inr ⟨b, off, h3, h4, fun j x hx k hk => h5 j x ?_ k hk⟩
    rw [List.getElem?_take] at hx
    split at hx
    · exact hx
    · cases hx
theorem qw.below {w w' : World} {G n i : Nat} {l : List α} (h : qw s cs w G n l i) (hb : Below w.heap.size w w') : qw s cs w' G n l i :=
  ⟨Nat.lt_of_lt_of_le h.1 hb.size, fun j hj => ⟨by
      obtain ⟨u, hu⟩ := (h.2.1 j hj).1
      exact ⟨u, (hb.cell (p := ⟨G, j, none⟩) h.1).trans hu⟩, (hb.frozen (p := ⟨G, j, none⟩) h.1).trans (h.2.1 j hj).2⟩,
    fun j x hj hx k hk => (hb.cell (p := ⟨G, j * s + k, none⟩) h.1).trans (h.2.2 j x hj hx k hk)⟩
theorem qw.set {w : World} {G n i : Nat} {l : List α} {x : α} (h : qw s cs w G n l i) (hi : i < n) (hx : l[i]? = some x) (vs : List Value) (hv : vs.length = s) (hvs : ∀ k, k < s → vs[k]? = some (cs x k)) :
    qw s cs (put w G (i * s) vs) G n l (i + 1) := by
  obtain ⟨h1, h2, h3⟩ := h
  have hle : i * s + s ≤ n * s := by rw [← Nat.succ_mul]; exact Nat.mul_le_mul_right s hi
  have hnew : ∀ k, k < s → (put w G (i * s) vs).cell? ⟨G, i * s + k, none⟩ = some (cs x k) := fun k hk =>
    zf0 vs w G (i * s) (fun j hj => (h2 (i * s + j) (by omega)).1) k _ (hvs k hk)
  refine ⟨by rw [zgm]; exact h1, fun j hj => ⟨?_, by rw [zhb]; exact (h2 j hj).2⟩, fun j y hj hy k hk => ?_⟩
  · by_cases a : i * s ≤ j ∧ j < i * s + s
    · have := hnew (j - i * s) (by omega)
      rw [show i * s + (j - i * s) = j by omega] at this
      exact ⟨_, this⟩
    · rw [zdn _ _ _ _ _ (by omega)]; exact (h2 j hj).1
  · by_cases a : j = i
    · subst a; rw [hx] at hy; cases hy; exact hnew k hk
    · have hlt : j * s + s ≤ i * s := by rw [← Nat.succ_mul]; exact Nat.mul_le_mul_right s (by omega)
      rw [zdn _ _ _ _ _ (by omega)]
      exact h3 j y (by omega) hy k hk
theorem qw.old {w : World} {G n i : Nat} {l : List α} (h : qw s cs w G n l i) {j : Nat} (hj : j < n) {k : Nat} (hk : k < s) : (∃ u, w.cell? ⟨G, j * s + k, none⟩ = some u) ∧ w.frozen? ⟨G, j * s + k, none⟩ = false := by
  have hle : j * s + s ≤ n * s := by rw [← Nat.succ_mul]; exact Nat.mul_le_mul_right s hj
  exact h.2.1 (j * s + k) (by omega)
theorem qw.made {w w' : World} {t : TypeId} {z : List Value} {b n : Nat} (l : List α) (h : w'.ownsRow b t s (.slice (some ⟨w.heap.size, 0, none⟩) n n) n z) : qw s cs w' w.heap.size n l 0 := by
  obtain ⟨h1, h2⟩ := h
  rcases h2 with ⟨h2, h3⟩ | ⟨g, cap, cur, h2, h3, h4, h5, h6, h7, h8⟩
  · cases h2
  · simp only [Value.slice.injEq, Option.some.injEq, Addr.mk.injEq, and_true, true_and] at h2
    obtain ⟨rfl, rfl⟩ := h2
    refine ⟨(Array.getElem?_eq_some_iff.1 h4).1, fun j hj => ⟨?_, ?_⟩, fun j x hj => absurd hj (by omega)⟩
    · have hj' : j < cur.size := by omega
      exact ⟨cur[j], by simp only [World.cell?, h4]; exact Array.getElem?_eq_getElem hj'⟩
    · simp only [World.frozen?, h4]
      simp
theorem qw.row {w : World} {G : Nat} {l : List α} (h : qw s cs w G l.length l l.length) (c : Nat) (hc : l.length ≤ c) : VRw s cs w (.slice (some ⟨G, 0, none⟩) l.length c) l :=
  ⟨_, c, rfl, hc, Or.inr ⟨G, 0, rfl, h.1, fun i x hx k hk => by rw [Nat.zero_add]; exact h.2.2 i x (zc6 hx) hx k hk⟩⟩
theorem qw.own {w : World} {G base : Nat} {l : List α} (h : qw s cs w G l.length l l.length) (hG : base ≤ G) (c : Nat) (hc : l.length ≤ c) : jl s cs w base (.slice (some ⟨G, 0, none⟩) l.length c) l :=
  ⟨_, c, rfl, hc, Or.inr ⟨G, rfl, hG, h⟩⟩
theorem jl.row {w : World} {base : Nat} {v : Value} {l : List α} (h : jl s cs w base v l) : VRw s cs w v l := by
  obtain ⟨ao, cap, rfl, hc, h0 | ⟨G, rfl, _, ho⟩⟩ := h
  · exact ⟨ao, cap, rfl, hc, Or.inl h0⟩
  · exact ho.row cap hc
theorem jl.below {w w' : World} {base : Nat} {v : Value} {l : List α} (h : jl s cs w base v l) (hb : Below w.heap.size w w') : jl s cs w' base v l := by
  obtain ⟨ao, cap, rfl, hc, h0 | ⟨G, rfl, hG, ho⟩⟩ := h
  · exact ⟨ao, cap, rfl, hc, Or.inl h0⟩
  · exact ⟨_, cap, rfl, hc, Or.inr ⟨G, rfl, hG, ho.below hb⟩⟩
theorem jl.za1 {w : World} {base b2 : Nat} {v : Value} {l : List α} (h : jl s cs w base v l) (hb : b2 ≤ base) : jl s cs w b2 v l := by
  obtain ⟨ao, cap, rfl, hc, h0 | ⟨G, rfl, hG, ho⟩⟩ := h
  · exact ⟨ao, cap, rfl, hc, Or.inl h0⟩
  · exact ⟨_, cap, rfl, hc, Or.inr ⟨G, rfl, Nat.le_trans hb hG, ho⟩⟩
theorem jl.nil (w : World) (b : Nat) (ao : Option Addr) (cap : Nat) : jl s cs w b (.slice ao 0 cap) [] := ⟨ao, cap, rfl, Nat.zero_le _, Or.inl rfl⟩
theorem zbu (l : List α) (x : α) : ja s cs (l ++ [x]) = ja s cs l ++ (List.range s).map (fun k => cs x k) := by simp [ja]
theorem za7 (l : List α) : (ja s cs l).length = l.length * s := by
  unfold ja
  induction l with
  | nil => simp
  | cons x l ih => rw [List.flatMap_cons, List.length_append, ih]; simp [Nat.succ_mul]; omega
theorem jh (l : List α) : ∀ i x, l[i]? = some x → ∀ k, k < s → (ja s cs l)[i * s + k]? = some (cs x k) := by
  induction l with
  | nil => intro i x h; cases h
  | cons y l ih =>
    intro i x h k hk
    show ((List.range s).map (fun k => cs y k) ++ ja s cs l)[i * s + k]? = _
    cases i with
    | zero =>
      simp at h
      subst h
      rw [List.getElem?_append_left (by simp; omega)]
      simp [hk]
    | succ i =>
      have e : (i + 1) * s + k = s + (i * s + k) := by rw [Nat.succ_mul]; omega
      rw [e, List.getElem?_append_right (by simp), List.length_map, List.length_range, Nat.add_sub_cancel_left]
      exact ih i x (by simpa using h) k hk
theorem vout_of {w : World} {base g cap n : Nat} {t : TypeId} {l : List α} (hn : n = l.length) (h : w.ownsRow base t s (.slice (some ⟨g, 0, none⟩) n cap) n (ja s cs l)) : base ≤ g ∧ qw s cs w g l.length l l.length := by
  subst hn
  obtain ⟨h1, ⟨h2, _⟩ | ⟨g', cap', cur, h2, hb, hg, hc, _, hs, ht⟩⟩ := h
  · cases h2
  · simp only [Value.slice.injEq, Option.some.injEq, Addr.mk.injEq, and_true, true_and] at h2
    obtain ⟨rfl, rfl⟩ := h2
    have hsz : l.length * s ≤ cur.size := by rw [hs]; exact Nat.mul_le_mul_right s hc
    have hcell : ∀ j, j < l.length * s → w.cell? ⟨g, j, none⟩ = (ja s cs l)[j]? := fun j hj => by
      rw [← ht, List.getElem?_take, if_pos hj, Array.getElem?_toList]
      simp only [World.cell?, hg]
      rfl
    refine ⟨hb, (Array.getElem?_eq_some_iff.1 hg).1, fun j hj => ⟨?_, ?_⟩, fun j x _ hx k hk => ?_⟩
    · rw [hcell j hj, List.getElem?_eq_getElem (by rw [za7]; exact hj)]
      exact ⟨_, rfl⟩
    · simp only [World.frozen?, hg]
      simp
    · have hj := zc6 hx
      have hle : j * s + s ≤ l.length * s := by rw [← Nat.succ_mul]; exact Nat.mul_le_mul_right s hj
      rw [hcell _ (by omega)]; exact jh l j x hx k hk
theorem zaa {w : World} {base : Nat} {t : TypeId} {v : Value} {l : List α} {n : Nat} (hn : n = l.length) (h : w.ownsRow base t s v n (ja s cs l)) : jl s cs w base v l := by
  have h0 := h
  obtain ⟨h1, ⟨rfl, h2⟩ | ⟨g, cap, cur, rfl, hb, hg, hc, _, hs, ht⟩⟩ := h
  · exact ⟨none, 0, by rw [← hn, h2], by omega, Or.inl (by omega)⟩
  · obtain ⟨h3, h4⟩ := vout_of hn h0
    exact ⟨_, cap, by rw [hn], by omega, Or.inr ⟨g, rfl, h3, h4⟩⟩
inductive Kd where
  | int
  | bool
  | str
def KdOk (k : Kd) (v : Value) : Prop := match k with | .int => ∃ z : Int, v = .int .i64 z | .bool => ∃ b : Bool, v = .bool b | .str => ∃ s : ByteArray, v = .string s ∧ s.size ≤ maxLen
def KdTy (P : Program) (k : Kd) (t : TypeId) : Prop := match k with | .int => P.underlying t = some (.int .i64) | .bool => P.underlying t = some .bool | .str => P.underlying t = some .string
theorem zke {H : Type} {enc : TypeId × Value → H} {P : Program} {W : World} {sp : Nat → Bool} {hd : Bool} {b fuel : Nat} {t : TypeId} {cs : List Value} {x : DataW H × List MemPlace} {k : Kd} (ht : KdTy P k t) (h : DataW.trod enc P W b sp hd fuel t cs = some x) : ∃ z, cs = [z] ∧ KdOk k z := by
  cases k with
  | int => obtain ⟨z, hz, _⟩ := DataW.trod_int ht h; exact ⟨_, hz, z, rfl⟩
  | bool => obtain ⟨z, hz, _⟩ := DataW.trod_bool ht h; exact ⟨_, hz, z, rfl⟩
  | str => obtain ⟨z, hz, _, hs⟩ := DataW.trod_string ht h; exact ⟨_, hz, z, rfl, hs⟩
theorem zf8 {H : Type} {enc : TypeId × Value → H} {P : Program} {W : World} {sp : Nat → Bool} {hd : Bool} {t e : TypeId} {fs : Array Field} {ao : Option Addr} {len cap : Nat} {d : DataW H} {p : List MemPlace}
    (kd : Nat → Kd) (mk : (Nat → Value) → α) (hmk : ∀ f, (∀ k, k < s → KdOk (kd k) (f k)) → ∀ k, k < s → cs (mk f) k = f k) (hs0 : 0 < s)
    (ht : P.underlying t = some (.slice e)) (he : P.underlying e = some (.struct fs)) (ce : P.cellsOf e = s)
    (hfs : ∀ k, k < s → ∃ f, fs[k]? = some f ∧ f.offset = k ∧ P.cellsOf f.type = 1 ∧ KdTy P (kd k) f.type) (h : DataW.Trod enc P W 0 sp hd t (.slice ao len cap) d p) :
    ∃ l : List α, l.length = len ∧ len ≤ maxLen ∧ VRw s cs W (.slice ao len cap) l := by
  obtain ⟨fuel, hf⟩ := h
  rcases Deep.open_slice ht hf with ⟨h1, _⟩ | ⟨a, ln, c, m, n, D, Pl, h1, hb, hl, hcm, hm, _, hx⟩
  · simp [Value.cells] at h1
    obtain ⟨rfl, rfl, rfl⟩ := h1
    exact ⟨[], rfl, Nat.zero_le _, none, 0, rfl, Nat.zero_le _, Or.inl rfl⟩
  · simp [Value.cells] at h1
    obtain ⟨rfl, rfl, rfl⟩ := h1
    have hle : len ≤ m := by rw [hm]; split <;> omega
    have hV : ∀ i, i < len → ∃ q : Nat → Value, ∀ k, k < s → W.cell? ((a.add (i * s)).add k) = some (q k) ∧ KdOk (kd k) (q k) := by
      intro i hi
      obtain ⟨cs', h2, h3⟩ := hx i (by omega)
      rw [ce] at h2
      obtain ⟨_, hlen, hcell⟩ := World.cells?_some h2
      obtain ⟨xs, k, hk, hxy, _, hxl, hf⟩ := DataW.trod_struct he h3
      have hq : ∀ k, k < s → ∃ z : Value, W.cell? ((a.add (i * s)).add k) = some z ∧ KdOk (kd k) z := by
        intro k hk
        obtain ⟨f, hf1, hf2, hf3, hf4⟩ := hfs k hk
        have hg := hf k f hf1
        rw [hf2, hf3] at hg
        have hxk : k < xs.length := by rw [hxl]; exact (Array.getElem?_eq_some_iff.1 hf1).1
        rw [List.getElem?_eq_getElem hxk] at hg
        obtain ⟨z, hz, hzk⟩ := zke hf4 hg
        refine ⟨z, ?_, hzk⟩
        rw [hcell k hk]
        have hk' : k < cs'.length := by omega
        have : (cs'.drop k).take 1 = [cs'[k]] := by
          rw [List.drop_eq_getElem_cons hk', List.take_succ_cons, List.take_zero]
        rw [this] at hz
        rw [List.getElem?_eq_getElem hk']
        simpa using hz
      obtain ⟨q, hq2⟩ := Deep.choose_lt hq
      exact ⟨q, hq2⟩
    obtain ⟨q, hq⟩ := Deep.choose_lt hV
    refine ⟨(List.range len).map (fun i => mk (q i)), by simp, by omega, some a, cap, by simp, by simpa using hl, ?_⟩
    by_cases h0 : len = 0
    · exact Or.inl (by simp [h0])
    · obtain ⟨b, off, spot⟩ := a
      have hs := (hq 0 (by omega) 0 hs0).1
      have hspot : spot = none := by simpa [Addr.add] using World.cell?_spot hs
      subst hspot
      refine Or.inr ⟨b, off, rfl, World.block_lt_of_cell? W _ (by simpa [Addr.add_lit] using hs), ?_⟩
      intro i x hix k hk
      have hi' : i < len := by simpa using zc6 hix
      have hx2 : x = mk (q i) := by
        rw [List.getElem?_map, List.getElem?_range hi'] at hix
        simpa using hix.symm
      subst hx2
      have := (hq i hi' k hk).1
      rw [Addr.add_lit, Addr.add_lit] at this
      rw [hmk _ (fun k hk => (hq i hi' k hk).2) _ hk]
      exact this
theorem jl.zi8 {w : World} {base : Nat} {v : Value} {l : List α} (h : jl s cs w base v l) (hn : l.length ≠ 0) : ∀ j, v.ownBlock = some j → base ≤ j := by
  obtain ⟨ao, cap, rfl, _, h0 | ⟨G, rfl, hG, _⟩⟩ := h
  · exact absurd h0 hn
  · intro j hj; cases hj; exact hG
theorem qw.aside {w w' : World} {G n i : Nat} {l : List α} {v : Value} (h : qw s cs w G n l i) (ha : Aside w w' v) (hv : v.ownBlock ≠ some G) : qw s cs w' G n l i := by
  have hb := ha.block G hv
  have hc : ∀ j, w'.cell? ⟨G, j, none⟩ = w.cell? ⟨G, j, none⟩ := fun j => by simp only [World.cell?, hb]
  have hf : ∀ j, w'.frozen? ⟨G, j, none⟩ = w.frozen? ⟨G, j, none⟩ := fun j => by simp only [World.frozen?, hb]
  refine ⟨by rw [ha.size]; exact h.1, fun j hj => ?_, fun j x hj hx k hk => ?_⟩
  · rw [hc, hf]; exact h.2.1 j hj
  · rw [hc]; exact h.2.2 j x hj hx k hk
theorem jl.zc1 {w w' w0 : World} {base b0 : Nat} {v : Value} {l : List α} (h : jl s cs w base v l) (ha : Aside w w' v) (hz : l.length = 0 → w' = w) (hb : Below b0 w0 w) (h0 : b0 ≤ base) : Below b0 w0 w' := by
  rcases Nat.eq_zero_or_pos l.length with q | q
  · rw [hz q]; exact hb
  · exact ha.below hb (fun j hj => Nat.le_trans h0 (h.zi8 (by omega) j hj))
end
theorem jl.zcm {α β : Type} {s s2 : Nat} {cs : α → Nat → Value} {cs2 : β → Nat → Value} {wx w w' : World} {base b2 : Nat} {v v2 : Value} {l : List α} {l2 : List β} (h : jl s cs wx base v l) (hx : wx.heap.size ≤ b2) (ha : Aside w w' v) (hz : l.length = 0 → w' = w) (h2 : jl s2 cs2 w b2 v2 l2) : jl s2 cs2 w' b2 v2 l2 := by
  rcases Nat.eq_zero_or_pos l.length with q | q
  · rw [hz q]; exact h2
  · obtain ⟨ao, cap, rfl, _, hh⟩ := h
    obtain ⟨G, rfl, hG, ho⟩ := hh.resolve_left (by omega)
    obtain ⟨ao2, cap2, rfl, hc2, h0 | ⟨G2, rfl, hG2, ho2⟩⟩ := h2
    · exact ⟨_, _, rfl, hc2, Or.inl h0⟩
    · refine ⟨_, _, rfl, hc2, Or.inr ⟨G2, rfl, hG2, ho2.aside ha ?_⟩⟩
      intro e
      have e2 : G = G2 := Option.some.inj e
      have := ho.1
      omega
theorem jl.zek {β : Type} {s2 : Nat} {cs2 : β → Nat → Value} {w w' : World} {b2 : Nat} {v v2 : Value} {l2 : List β} (hx : Apart v v2) (ha : Aside w w' v) (h2 : jl s2 cs2 w b2 v2 l2) : jl s2 cs2 w' b2 v2 l2 := by
  obtain ⟨ao2, cap2, rfl, hc2, h0 | ⟨G2, rfl, hG2, ho2⟩⟩ := h2
  · exact ⟨_, _, rfl, hc2, Or.inl h0⟩
  · exact ⟨_, _, rfl, hc2, Or.inr ⟨G2, rfl, hG2, ho2.aside ha (fun e => hx G2 e rfl)⟩⟩
end Go.Proofs.YtmcekefoedgboaaDoor

namespace Go.Proofs.YtmcekefoedgboaaDoor.Ua
open Va
set_option linter.all false
structure Ln where
  k : Int
  n : Int
  b : Int
  a : Int
end Go.Proofs.YtmcekefoedgboaaDoor.Ua
