/-
  Merged: Va Rw Vb.
-/
import Derived.WalkKit
import Derived.WalkSpells
import Derived.WalkLawsBesides
import Derived.OwnWalk
import Derived.ProofKit
import Derived.OpenShut
import Derived.ChangeOld
import Derived.Below
import Derived.Deep.Slices
import Derived.Lib.SmallJoins
import Derived.Test.YtgcpiinmcbdkmaaRows
import Derived.BigQuiet
import Derived.Deep.QuietTactic
import Derived.Deep.DeepCutAuto
import Derived.Deep.RegionHeld3
namespace Go.Proofs.Ytgcpiinmcbdkmaa.Va
structure Vt where
  b : Int
  o : Int
  p : Int
  u : Int
  a : Int
  h : Int
def rng (x lo hi : Int) : Bool := decide (lo ≤ x) && decide (x ≤ hi)
theorem rng_iff {x lo hi : Int} : rng x lo hi = true ↔ lo ≤ x ∧ x ≤ hi := by simp [rng]
def bp (n : Int) : Int := if n ≤ 8 ∨ 25 ≤ n then 3 else if 21 ≤ n then 2 else if n ≤ 11 then 1 else 0
def op (n : Int) : Int := if n ≤ 91 then 3 else if n ≤ 93 then 2 else if n ≤ 95 then 1 else 0
def pp (n : Int) : Int := if n ≤ 90 ∨ 220 ≤ n then 3 else if n ≤ 100 then 2 else if n ≤ 110 then 1 else 0
def up (n : Int) : Int := if n ≤ 40 ∨ 131 ≤ n then 3 else if 111 ≤ n then 2 else if n ≤ 50 ∨ 91 ≤ n then 1 else 0
def ap (n : Int) : Int := if n = 0 then 3 else 0
def hp (n : Int) : Int := if n ≤ 350 then 3 else if 391 ≤ n then 2 else if n ≤ 360 ∨ 381 ≤ n then 1 else 0
def pt (f : Int → Int) (n : Int) : Int := if n < 0 then -1 else f n
def six (v : Vt) : List Int := [pt bp v.b, pt op v.o, pt pp v.p, pt up v.u, pt ap v.a, pt hp v.h]
def tmv (x : Int) : Bool := decide (0 ≤ x) && decide (x ≤ 10000000)
end Go.Proofs.Ytgcpiinmcbdkmaa.Va

namespace Go.Proofs.Ytgcpiinmcbdkmaa
open Go.RowKit
theorem hidden {p : Prop} (h : p) : Hid p := h
theorem onto {w W w2 : World} (hv : Below w.heap.size w W) (h : Below W.heap.size W w2) : Below w.heap.size w w2 := hv.trans (h.mono hv.size)
theorem st_drew {b : Nat} {w0 w : World} (h : Below b w0 w) : Below b w0 w.drew := ⟨h.os, h.tape, h.output, h.size, h.block⟩
theorem st_drewN {b : Nat} {w0 w : World} (h : Below b w0 w) (n : Nat) : Below b w0 (w.drewN n) := ⟨h.os, h.tape, h.output, h.size, h.block⟩
theorem get_lt' {α : Type} {l : List α} {i : Nat} {x : α} (h : l[i]? = some x) : i < l.length := (List.getElem?_eq_some_iff.1 h).1
section
variable {α : Type} (s : Nat) (cs : α → Nat → Int)
def Rw (w : World) (v : Value) (l : List α) : Prop :=
  ∃ ao cap, v = .slice ao l.length cap ∧ l.length ≤ cap ∧ (l.length = 0 ∨ ∃ b off, ao = some ⟨b, off, none⟩ ∧ b < w.heap.size ∧ ∀ i x, l[i]? = some x → ∀ k, k < s → w.cell? ⟨b, off + i * s + k, none⟩ = some (.int .i64 (cs x k)))
def Out (w : World) (G n : Nat) (l : List α) (i : Nat) : Prop :=
  G < w.heap.size ∧ (∀ j, j < n * s → (∃ u, w.cell? ⟨G, j, none⟩ = some u) ∧ w.frozen? ⟨G, j, none⟩ = false) ∧
    ∀ j x, j < i → l[j]? = some x → ∀ k, k < s → w.cell? ⟨G, j * s + k, none⟩ = some (.int .i64 (cs x k))
def Own (w : World) (base : Nat) (v : Value) (l : List α) : Prop :=
  ∃ ao cap, v = .slice ao l.length cap ∧ l.length ≤ cap ∧ (l.length = 0 ∨ ∃ G, ao = some ⟨G, 0, none⟩ ∧ base ≤ G ∧ Out s cs w G l.length l l.length)
def cellsL (l : List α) : List Value := l.flatMap (fun x => (List.range s).map (fun k => .int .i64 (cs x k)))
end
section
variable {α : Type} {s : Nat} {cs : α → Nat → Int}
theorem Rw.below {w w' : World} {v : Value} {l : List α} (h : Rw s cs w v l) (hb : Below w.heap.size w w') : Rw s cs w' v l := by
  obtain ⟨ao, cap, rfl, hlc, h2⟩ := h
  refine ⟨ao, cap, rfl, hlc, ?_⟩
  rcases h2 with h2 | ⟨b, off, h3, h4, h5⟩
  · exact Or.inl h2
  · exact Or.inr ⟨b, off, h3, Nat.lt_of_lt_of_le h4 hb.size, fun i x hx k hk => (hb.cell (p := ⟨b, off + i * s + k, none⟩) h4).trans (h5 i x hx k hk)⟩
theorem Rw.at {w : World} {ao : Option Addr} {cap : Nat} {n : Nat} {l : List α} (h : Rw s cs w (.slice ao n cap) l) {i : Nat} {x : α} (hx : l[i]? = some x) :
    ∃ b off, ao = some ⟨b, off, none⟩ ∧ b < w.heap.size ∧ ∀ k, k < s → w.cell? ⟨b, off + i * s + k, none⟩ = some (.int .i64 (cs x k)) := by
  obtain ⟨ao', cap', he, _, h2⟩ := h
  obtain ⟨rfl, rfl, rfl⟩ : ao = ao' ∧ n = l.length ∧ cap = cap' := by simpa using he
  have := get_lt' hx
  rcases h2 with h2 | ⟨b, off, h3, h4, h5⟩
  · omega
  · exact ⟨b, off, h3, h4, fun k hk => h5 i x hx k hk⟩
theorem Rw.form {w : World} {v : Value} {l : List α} (h : Rw s cs w v l) : ∃ ao cap, v = .slice ao l.length cap := by
  obtain ⟨ao, cap, rfl, _, _⟩ := h; exact ⟨ao, cap, rfl⟩
theorem Rw.len {w : World} {ao : Option Addr} {n cap : Nat} {l : List α} (h : Rw s cs w (.slice ao n cap) l) : n = l.length := by
  obtain ⟨ao', cap', he, _, _⟩ := h; simp at he; omega
theorem Rw.cap {w : World} {ao : Option Addr} {n cap : Nat} {l : List α} (h : Rw s cs w (.slice ao n cap) l) : l.length ≤ cap := by
  obtain ⟨ao', cap', he, hc, _⟩ := h; simp at he; omega
theorem Rw.nil (w : World) (ao : Option Addr) (cap : Nat) : Rw s cs w (.slice ao 0 cap) [] := ⟨ao, cap, rfl, Nat.zero_le _, Or.inl rfl⟩
theorem Rw.take {w : World} {ao : Option Addr} {n cap : Nat} {l : List α} (h : Rw s cs w (.slice ao n cap) l) (i c : Nat) (hi : i ≤ l.length) (hc : i ≤ c) : Rw s cs w (.slice ao i c) (l.take i) := by
  obtain ⟨ao', cap', he, _, h2⟩ := h
  obtain ⟨rfl, rfl, rfl⟩ : ao = ao' ∧ n = l.length ∧ cap = cap' := by simpa using he
  have hlen : (l.take i).length = i := by rw [List.length_take]; omega
  refine ⟨ao, c, by rw [hlen], by rw [hlen]; exact hc, ?_⟩
  rcases h2 with h2 | ⟨b, off, h3, h4, h5⟩
  · exact Or.inl (by omega)
  · refine Or.inr ⟨b, off, h3, h4, fun j x hx k hk => h5 j x ?_ k hk⟩
    rw [List.getElem?_take] at hx
    split at hx
    · exact hx
    · cases hx
theorem Out.below {w w' : World} {G n i : Nat} {l : List α} (h : Out s cs w G n l i) (hb : Below w.heap.size w w') : Out s cs w' G n l i :=
  ⟨Nat.lt_of_lt_of_le h.1 hb.size, fun j hj => ⟨by
      obtain ⟨u, hu⟩ := (h.2.1 j hj).1
      exact ⟨u, (hb.cell (p := ⟨G, j, none⟩) h.1).trans hu⟩, (hb.frozen (p := ⟨G, j, none⟩) h.1).trans (h.2.1 j hj).2⟩,
    fun j x hj hx k hk => (hb.cell (p := ⟨G, j * s + k, none⟩) h.1).trans (h.2.2 j x hj hx k hk)⟩
def put (w : World) (G o : Nat) : List Value → World
  | [] => w
  | v :: vs => put (w.setCell ⟨G, o, none⟩ v) G (o + 1) vs
theorem put_size (vs : List Value) : ∀ (w : World) (G o : Nat), (put w G o vs).heap.size = w.heap.size := by
  induction vs with
  | nil => intro w G o; rfl
  | cons v vs ih => intro w G o; show (put (w.setCell ⟨G, o, none⟩ v) G (o + 1) vs).heap.size = _; rw [ih]; simp [World.setCell]
theorem put_other (vs : List Value) : ∀ (w : World) (G o j : Nat), (j < o ∨ o + vs.length ≤ j) → (put w G o vs).cell? ⟨G, j, none⟩ = w.cell? ⟨G, j, none⟩ := by
  induction vs with
  | nil => intro w G o j _; rfl
  | cons v vs ih =>
    intro w G o j hj
    simp only [List.length_cons] at hj
    show (put (w.setCell ⟨G, o, none⟩ v) G (o + 1) vs).cell? _ = _
    have hne : j ≠ o := by omega
    rw [ih _ _ _ _ (by omega), World.cell?_setCell_other (h := by first | (simp; done) | (simp; exact hne))]
theorem put_same (vs : List Value) : ∀ (w : World) (G o : Nat), (∀ k, k < vs.length → ∃ u, w.cell? ⟨G, o + k, none⟩ = some u) → ∀ k v, vs[k]? = some v → (put w G o vs).cell? ⟨G, o + k, none⟩ = some v := by
  induction vs with
  | nil => intro w G o _ k v h; cases h
  | cons u vs ih =>
    intro w G o hold k v h
    show (put (w.setCell ⟨G, o, none⟩ u) G (o + 1) vs).cell? _ = _
    obtain ⟨u0, hu0⟩ := hold 0 (by simp)
    cases k with
    | zero =>
      simp at h
      subst h
      rw [put_other _ _ _ _ _ (by omega)]
      exact World.cell?_setCell_same _ _ _ hu0
    | succ k =>
      have := ih (w.setCell ⟨G, o, none⟩ u) G (o + 1) (fun j hj => by
        obtain ⟨u1, hu1⟩ := hold (j + 1) (by simp; omega)
        refine ⟨u1, ?_⟩
        rw [World.cell?_setCell_other (h := by first | (simp; done) | (simp; omega)), show o + 1 + j = o + (j + 1) by omega]
        exact hu1) k v (by simpa using h)
      rw [show o + (k + 1) = o + 1 + k by omega]
      exact this
theorem put_frozen (vs : List Value) : ∀ (w : World) (G o j : Nat), (put w G o vs).frozen? ⟨G, j, none⟩ = w.frozen? ⟨G, j, none⟩ := by
  induction vs with
  | nil => intro w G o j; rfl
  | cons v vs ih => intro w G o j; show (put (w.setCell ⟨G, o, none⟩ v) G (o + 1) vs).frozen? _ = _; rw [ih, World.frozen?_setCell]
theorem put_below (vs : List Value) : ∀ {w0 : World} {b : Nat} (w : World) (G o : Nat), Below b w0 w → b ≤ G → Below b w0 (put w G o vs) := by
  induction vs with
  | nil => intro w0 b w G o h _; exact h
  | cons v vs ih => intro w0 b w G o h hG; exact ih _ _ _ (h.setCell (p := ⟨G, o, none⟩) hG v) hG
theorem Out.set {w : World} {G n i : Nat} {l : List α} {x : α} (h : Out s cs w G n l i) (hi : i < n) (hx : l[i]? = some x) (vs : List Value) (hv : vs.length = s) (hvs : ∀ k, k < s → vs[k]? = some (.int .i64 (cs x k))) :
    Out s cs (put w G (i * s) vs) G n l (i + 1) := by
  obtain ⟨h1, h2, h3⟩ := h
  have hle : i * s + s ≤ n * s := by rw [← Nat.succ_mul]; exact Nat.mul_le_mul_right s hi
  have hnew : ∀ k, k < s → (put w G (i * s) vs).cell? ⟨G, i * s + k, none⟩ = some (.int .i64 (cs x k)) := fun k hk =>
    put_same vs w G (i * s) (fun j hj => (h2 (i * s + j) (by omega)).1) k _ (hvs k hk)
  refine ⟨by rw [put_size]; exact h1, fun j hj => ⟨?_, by rw [put_frozen]; exact (h2 j hj).2⟩, fun j y hj hy k hk => ?_⟩
  · by_cases a : i * s ≤ j ∧ j < i * s + s
    · have := hnew (j - i * s) (by omega)
      rw [show i * s + (j - i * s) = j by omega] at this
      exact ⟨_, this⟩
    · rw [put_other _ _ _ _ _ (by omega)]; exact (h2 j hj).1
  · by_cases a : j = i
    · subst a; rw [hx] at hy; cases hy; exact hnew k hk
    · have hlt : j * s + s ≤ i * s := by rw [← Nat.succ_mul]; exact Nat.mul_le_mul_right s (by omega)
      rw [put_other _ _ _ _ _ (by omega)]
      exact h3 j y (by omega) hy k hk
theorem Out.old {w : World} {G n i : Nat} {l : List α} (h : Out s cs w G n l i) {j : Nat} (hj : j < n) {k : Nat} (hk : k < s) : (∃ u, w.cell? ⟨G, j * s + k, none⟩ = some u) ∧ w.frozen? ⟨G, j * s + k, none⟩ = false := by
  have hle : j * s + s ≤ n * s := by rw [← Nat.succ_mul]; exact Nat.mul_le_mul_right s hj
  exact h.2.1 (j * s + k) (by omega)
theorem Out.made {w w' : World} {t : TypeId} {z : List Value} {b n : Nat} (l : List α) (h : w'.ownsRow b t s (.slice (some ⟨w.heap.size, 0, none⟩) n n) n z) : Out s cs w' w.heap.size n l 0 := by
  obtain ⟨h1, h2⟩ := h
  rcases h2 with ⟨h2, h3⟩ | ⟨g, cap, cur, h2, h3, h4, h5, h6, h7, h8⟩
  · cases h2
  · simp only [Value.slice.injEq, Option.some.injEq, Addr.mk.injEq, and_true, true_and] at h2
    obtain ⟨rfl, rfl⟩ := h2
    refine ⟨(Array.getElem?_eq_some_iff.1 h4).1, fun j hj => ⟨?_, ?_⟩, fun j x hj => absurd hj (by omega)⟩
    · have hj' : j < cur.size := by omega
      exact ⟨cur[j], by simp only [World.cell?, h4]; exact Array.getElem?_eq_getElem hj'⟩
    · simp only [World.frozen?, h4]
      simp
theorem Out.row {w : World} {G : Nat} {l : List α} (h : Out s cs w G l.length l l.length) (c : Nat) (hc : l.length ≤ c) : Rw s cs w (.slice (some ⟨G, 0, none⟩) l.length c) l :=
  ⟨_, c, rfl, hc, Or.inr ⟨G, 0, rfl, h.1, fun i x hx k hk => by rw [Nat.zero_add]; exact h.2.2 i x (get_lt' hx) hx k hk⟩⟩
theorem Out.own {w : World} {G base : Nat} {l : List α} (h : Out s cs w G l.length l l.length) (hG : base ≤ G) (c : Nat) (hc : l.length ≤ c) : Own s cs w base (.slice (some ⟨G, 0, none⟩) l.length c) l :=
  ⟨_, c, rfl, hc, Or.inr ⟨G, rfl, hG, h⟩⟩
theorem Own.row {w : World} {base : Nat} {v : Value} {l : List α} (h : Own s cs w base v l) : Rw s cs w v l := by
  obtain ⟨ao, cap, rfl, hc, h0 | ⟨G, rfl, _, ho⟩⟩ := h
  · exact ⟨ao, cap, rfl, hc, Or.inl h0⟩
  · exact ho.row cap hc
theorem Own.below {w w' : World} {base : Nat} {v : Value} {l : List α} (h : Own s cs w base v l) (hb : Below w.heap.size w w') : Own s cs w' base v l := by
  obtain ⟨ao, cap, rfl, hc, h0 | ⟨G, rfl, hG, ho⟩⟩ := h
  · exact ⟨ao, cap, rfl, hc, Or.inl h0⟩
  · exact ⟨_, cap, rfl, hc, Or.inr ⟨G, rfl, hG, ho.below hb⟩⟩
theorem Own.nil (w : World) (b : Nat) (ao : Option Addr) (cap : Nat) : Own s cs w b (.slice ao 0 cap) [] := ⟨ao, cap, rfl, Nat.zero_le _, Or.inl rfl⟩
theorem cellsL_len (l : List α) : (cellsL s cs l).length = l.length * s := by
  unfold cellsL
  induction l with
  | nil => simp
  | cons x l ih => rw [List.flatMap_cons, List.length_append, ih]; simp [Nat.succ_mul]; omega
theorem cellsL_get (l : List α) : ∀ i x, l[i]? = some x → ∀ k, k < s → (cellsL s cs l)[i * s + k]? = some (.int .i64 (cs x k)) := by
  induction l with
  | nil => intro i x h; cases h
  | cons y l ih =>
    intro i x h k hk
    show ((List.range s).map (fun k => Value.int .i64 (cs y k)) ++ cellsL s cs l)[i * s + k]? = _
    cases i with
    | zero =>
      simp at h
      subst h
      rw [List.getElem?_append_left (by simp; omega)]
      simp [hk]
    | succ i =>
      have e : (i + 1) * s + k = s + (i * s + k) := by rw [Nat.succ_mul]; omega
      rw [e, List.getElem?_append_right (by simp), List.length_map, List.length_range, Nat.add_sub_cancel_left]
      exact ih i x (by simpa using h) k hk
theorem out_of {w : World} {base g cap n : Nat} {t : TypeId} {l : List α} (hn : n = l.length) (h : w.ownsRow base t s (.slice (some ⟨g, 0, none⟩) n cap) n (cellsL s cs l)) : base ≤ g ∧ Out s cs w g l.length l l.length := by
  subst hn
  obtain ⟨h1, ⟨h2, _⟩ | ⟨g', cap', cur, h2, hb, hg, hc, _, hs, ht⟩⟩ := h
  · cases h2
  · simp only [Value.slice.injEq, Option.some.injEq, Addr.mk.injEq, and_true, true_and] at h2
    obtain ⟨rfl, rfl⟩ := h2
    have hsz : l.length * s ≤ cur.size := by rw [hs]; exact Nat.mul_le_mul_right s hc
    have hcell : ∀ j, j < l.length * s → w.cell? ⟨g, j, none⟩ = (cellsL s cs l)[j]? := fun j hj => by
      rw [← ht, List.getElem?_take, if_pos hj, Array.getElem?_toList]
      simp only [World.cell?, hg]
      rfl
    refine ⟨hb, (Array.getElem?_eq_some_iff.1 hg).1, fun j hj => ⟨?_, ?_⟩, fun j x _ hx k hk => ?_⟩
    · rw [hcell j hj, List.getElem?_eq_getElem (by rw [cellsL_len]; exact hj)]
      exact ⟨_, rfl⟩
    · simp only [World.frozen?, hg]
      simp
    · have hj := get_lt' hx
      have hle : j * s + s ≤ l.length * s := by rw [← Nat.succ_mul]; exact Nat.mul_le_mul_right s hj
      rw [hcell _ (by omega)]; exact cellsL_get l j x hx k hk
theorem own_of {w : World} {base : Nat} {t : TypeId} {v : Value} {l : List α} {n : Nat} (hn : n = l.length) (h : w.ownsRow base t s v n (cellsL s cs l)) : Own s cs w base v l := by
  have h0 := h
  obtain ⟨h1, ⟨rfl, h2⟩ | ⟨g, cap, cur, rfl, hb, hg, hc, _, hs, ht⟩⟩ := h
  · exact ⟨none, 0, by rw [← hn, h2], by omega, Or.inl (by omega)⟩
  · obtain ⟨h3, h4⟩ := out_of hn h0
    exact ⟨_, cap, by rw [hn], by omega, Or.inr ⟨g, rfl, h3, h4⟩⟩
structure Aside (w w' : World) (v : Value) : Prop where
  os : w'.os = w.os
  tape : w'.tape = w.tape
  output : w'.output = w.output
  size : w'.heap.size = w.heap.size
  block : ∀ j, v.ownBlock ≠ some j → w'.heap[j]? = w.heap[j]?
theorem Aside.refl (w : World) (v : Value) : Aside w w v := ⟨rfl, rfl, rfl, rfl, fun _ _ => rfl⟩
theorem Aside.set {w w' : World} {G n c o : Nat} (h : Aside w w' (.slice (some ⟨G, 0, none⟩) n c)) (x : Value) : Aside w (w'.setCell ⟨G, o, none⟩ x) (.slice (some ⟨G, 0, none⟩) n c) := by
  have hb := (Below.refl G w').setCell (p := ⟨G, o, none⟩) (Nat.le_refl _) x
  refine ⟨hb.os.trans h.os, hb.tape.trans h.tape, hb.output.trans h.output, by rw [← h.size]; simp [World.setCell], fun j hj => ?_⟩
  rw [← h.block j hj]
  have hne : G ≠ j := fun e => hj (by rw [e]; rfl)
  exact Below.heap_setCell _ _ _ _ (by show j ≠ G; omega)
theorem Aside.put {G n c : Nat} (vs : List Value) : ∀ {w w' : World} (o : Nat), Aside w w' (.slice (some ⟨G, 0, none⟩) n c) → Aside w (put w' G o vs) (.slice (some ⟨G, 0, none⟩) n c) := by
  induction vs with
  | nil => intro w w' o h; exact h
  | cons v vs ih => intro w w' o h; exact ih (o + 1) (h.set v)
theorem Aside.below {w0 w w' : World} {base : Nat} {v : Value} (h : Aside w w' v) (hb : Below base w0 w) (hv : ∀ j, v.ownBlock = some j → base ≤ j) : Below base w0 w' :=
  ⟨h.os.trans hb.os, h.tape.trans hb.tape, h.output.trans hb.output, by rw [h.size]; exact hb.size, fun k hk => by
    rw [← hb.block k hk]
    exact h.block k (fun e => absurd (hv k e) (by omega))⟩
theorem Own.from_base {w : World} {base : Nat} {v : Value} {l : List α} (h : Own s cs w base v l) (hn : l.length ≠ 0) : ∀ j, v.ownBlock = some j → base ≤ j := by
  obtain ⟨ao, cap, rfl, _, h0 | ⟨G, rfl, hG, _⟩⟩ := h
  · exact absurd h0 hn
  · intro j hj; cases hj; exact hG
theorem Own.mark_below {w w' w0 : World} {base b0 : Nat} {v : Value} {l : List α} (h : Own s cs w base v l) (ha : Aside w w' v) (hz : l.length = 0 → w' = w) (hb : Below b0 w0 w) (h0 : b0 ≤ base) : Below b0 w0 w' := by
  rcases Nat.eq_zero_or_pos l.length with q | q
  · rw [hz q]; exact hb
  · exact ha.below hb (fun j hj => Nat.le_trans h0 (h.from_base (by omega) j hj))
end
def csM (x : Int) (k : Nat) : Int := x + k
def marks (s : Nat) (k : Int) (n : Nat) : List Int := (List.range n).map (fun i : Nat => k + s * (i : Int))
theorem marks_len (s : Nat) (k : Int) (n : Nat) : (marks s k n).length = n := by simp [marks]
theorem marks_get (s : Nat) (k : Int) (n i : Nat) (h : i < n) : (marks s k n)[i]? = some (k + s * (i : Int)) := by
  rw [marks, List.getElem?_map, List.getElem?_range h]; rfl
end Go.Proofs.Ytgcpiinmcbdkmaa

namespace Go.Proofs.Ytgcpiinmcbdkmaa
open Go.RowKit Va
set_option linter.unusedVariables false
theorem ret_bool {a b : Bool} (h : a = b) : Ending.returned (.bool a) = .returned (.bool b) := by rw [h]
theorem bcell {W w1 : World} (hb : Below W.heap.size W w1) : (∀ b o, b < W.heap.size → w1.cell? ⟨b, o, none⟩ = W.cell? ⟨b, o, none⟩) ∧ (∀ b o, b < W.heap.size → w1.frozen? ⟨b, o, none⟩ = W.frozen? ⟨b, o, none⟩) :=
  ⟨fun b o h => hb.cell (p := ⟨b, o, none⟩) h, fun b o h => hb.frozen (p := ⟨b, o, none⟩) h⟩
set_option maxHeartbeats 400000 in
theorem lin_any (n lo hi : Int) (w : World) : Calls Try.prog 52 #[.int .i64 n, .int .i64 lo, .int .i64 hi] w fun e w' => e = .returned (.bool (rng n lo hi)) ∧ w = w' := by
  unfold rng
  go_enter Try.func52, Try.ntmps52
  go_wp2
  all_goals (go_ret; exact ⟨ret_bool (by first | (simp; done) | (simp; omega) | (simp_all; done) | (simp_all; omega) | (rw [Bool.eq_iff_iff]; simp; omega) | (rw [Bool.eq_iff_iff]; simp_all; omega)), rfl⟩)
end Go.Proofs.Ytgcpiinmcbdkmaa
