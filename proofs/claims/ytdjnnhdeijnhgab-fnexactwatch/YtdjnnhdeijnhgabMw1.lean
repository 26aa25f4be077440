/-
  Rows of structs whose fields are whole numbers: where they lie, what the call owns of them; any number of fields.
-/
import Derived.WalkKit
import Derived.WalkSpells
import Derived.WalkLawsBesides
import Derived.OwnWalk
import Derived.ProofKit
import Derived.OpenShut
import Derived.ChangeOld
import Derived.Below
import Derived.Deep.Slices
import Derived.Lib.SmallJoins
import Derived.Test.YtdjnnhdeijnhgabRows
import Derived.BigQuiet
import Derived.Deep.QuietTactic
import Derived.Deep.DeepCutAuto
import Derived.Deep.RegionHeld3
namespace Go.Proofs.Ytdjnnhdeijnhgab
open Go.RowKit

theorem hidden {p : Prop} (h : p) : Hid p := h
theorem onto {w W w2 : World} (hv : Below w.heap.size w W) (h : Below W.heap.size W w2) : Below w.heap.size w w2 := hv.trans (h.mono hv.size)
theorem st_drew {b : Nat} {w0 w : World} (h : Below b w0 w) : Below b w0 w.drew := ⟨h.os, h.tape, h.output, h.size, h.block⟩
theorem st_drewN {b : Nat} {w0 w : World} (h : Below b w0 w) (n : Nat) : Below b w0 (w.drewN n) := ⟨h.os, h.tape, h.output, h.size, h.block⟩
theorem get_lt' {α : Type} {l : List α} {i : Nat} {x : α} (h : l[i]? = some x) : i < l.length := (List.getElem?_eq_some_iff.1 h).1

section
variable {α : Type} (s : Nat) (cs : α → Nat → Int)

/-- The structs l lie at the slice v. -/
def Rw (w : World) (v : Value) (l : List α) : Prop :=
  ∃ ao cap, v = .slice ao l.length cap ∧ l.length ≤ cap ∧ (l.length = 0 ∨ ∃ b off, ao = some ⟨b, off, none⟩ ∧ b < w.heap.size ∧ ∀ i x, l[i]? = some x → ∀ k, k < s → w.cell? ⟨b, off + i * s + k, none⟩ = some (.int .i64 (cs x k)))
/-- Block G takes n structs; the first i of l lie there. -/
def Out (w : World) (G n : Nat) (l : List α) (i : Nat) : Prop :=
  G < w.heap.size ∧ (∀ j, j < n * s → (∃ u, w.cell? ⟨G, j, none⟩ = some u) ∧ w.frozen? ⟨G, j, none⟩ = false) ∧
    ∀ j x, j < i → l[j]? = some x → ∀ k, k < s → w.cell? ⟨G, j * s + k, none⟩ = some (.int .i64 (cs x k))
/-- The structs l lie at v, in a block from base on that nobody else holds. -/
def Own (w : World) (base : Nat) (v : Value) (l : List α) : Prop :=
  ∃ ao cap, v = .slice ao l.length cap ∧ l.length ≤ cap ∧ (l.length = 0 ∨ ∃ G, ao = some ⟨G, 0, none⟩ ∧ base ≤ G ∧ Out s cs w G l.length l l.length)
/-- The cells of a row. -/
def cellsL (l : List α) : List Value := l.flatMap (fun x => (List.range s).map (fun k => .int .i64 (cs x k)))
end

section
variable {α : Type} {s : Nat} {cs : α → Nat → Int}

theorem Rw.below {w w' : World} {v : Value} {l : List α} (h : Rw s cs w v l) (hb : Below w.heap.size w w') : Rw s cs w' v l := by
  obtain ⟨ao, cap, rfl, hlc, h2⟩ := h
  refine ⟨ao, cap, rfl, hlc, ?_⟩
  rcases h2 with h2 | ⟨b, off, h3, h4, h5⟩
  · exact Or.inl h2
  · exact Or.inr ⟨b, off, h3, Nat.lt_of_lt_of_le h4 hb.size, fun i x hx k hk => (hb.cell (p := ⟨b, off + i * s + k, none⟩) h4).trans (h5 i x hx k hk)⟩
theorem Rw.at {w : World} {ao : Option Addr} {cap : Nat} {n : Nat} {l : List α} (h : Rw s cs w (.slice ao n cap) l) {i : Nat} {x : α} (hx : l[i]? = some x) :
    ∃ b off, ao = some ⟨b, off, none⟩ ∧ b < w.heap.size ∧ ∀ k, k < s → w.cell? ⟨b, off + i * s + k, none⟩ = some (.int .i64 (cs x k)) := by
  obtain ⟨ao', cap', he, _, h2⟩ := h
  obtain ⟨rfl, rfl, rfl⟩ : ao = ao' ∧ n = l.length ∧ cap = cap' := by simpa using he
  have := get_lt' hx
  rcases h2 with h2 | ⟨b, off, h3, h4, h5⟩
  · omega
  · exact ⟨b, off, h3, h4, fun k hk => h5 i x hx k hk⟩
theorem Rw.form {w : World} {v : Value} {l : List α} (h : Rw s cs w v l) : ∃ ao cap, v = .slice ao l.length cap := by
  obtain ⟨ao, cap, rfl, _, _⟩ := h; exact ⟨ao, cap, rfl⟩
theorem Rw.len {w : World} {ao : Option Addr} {n cap : Nat} {l : List α} (h : Rw s cs w (.slice ao n cap) l) : n = l.length := by
  obtain ⟨ao', cap', he, _, _⟩ := h; simp at he; omega
theorem Rw.cap {w : World} {ao : Option Addr} {n cap : Nat} {l : List α} (h : Rw s cs w (.slice ao n cap) l) : l.length ≤ cap := by
  obtain ⟨ao', cap', he, hc, _⟩ := h; simp at he; omega
theorem Rw.nil (w : World) (ao : Option Addr) (cap : Nat) : Rw s cs w (.slice ao 0 cap) [] := ⟨ao, cap, rfl, Nat.zero_le _, Or.inl rfl⟩
theorem Rw.take {w : World} {ao : Option Addr} {n cap : Nat} {l : List α} (h : Rw s cs w (.slice ao n cap) l) (i c : Nat) (hi : i ≤ l.length) (hc : i ≤ c) : Rw s cs w (.slice ao i c) (l.take i) := by
  obtain ⟨ao', cap', he, _, h2⟩ := h
  obtain ⟨rfl, rfl, rfl⟩ : ao = ao' ∧ n = l.length ∧ cap = cap' := by simpa using he
  have hlen : (l.take i).length = i := by rw [List.length_take]; omega
  refine ⟨ao, c, by rw [hlen], by rw [hlen]; exact hc, ?_⟩
  rcases h2 with h2 | ⟨b, off, h3, h4, h5⟩
  · exact Or.inl (by omega)
  · refine Or.inr ⟨b, off, h3, h4, fun j x hx k hk => h5 j x ?_ k hk⟩
    rw [List.getElem?_take] at hx
    split at hx
    · exact hx
    · cases hx

theorem Out.below {w w' : World} {G n i : Nat} {l : List α} (h : Out s cs w G n l i) (hb : Below w.heap.size w w') : Out s cs w' G n l i :=
  ⟨Nat.lt_of_lt_of_le h.1 hb.size, fun j hj => ⟨by
      obtain ⟨u, hu⟩ := (h.2.1 j hj).1
      exact ⟨u, (hb.cell (p := ⟨G, j, none⟩) h.1).trans hu⟩, (hb.frozen (p := ⟨G, j, none⟩) h.1).trans (h.2.1 j hj).2⟩,
    fun j x hj hx k hk => (hb.cell (p := ⟨G, j * s + k, none⟩) h.1).trans (h.2.2 j x hj hx k hk)⟩
/-- The cells o, o + 1, .. of block G, stored one by one. -/
def put (w : World) (G o : Nat) : List Value → World
  | [] => w
  | v :: vs => put (w.setCell ⟨G, o, none⟩ v) G (o + 1) vs
theorem put_size (vs : List Value) : ∀ (w : World) (G o : Nat), (put w G o vs).heap.size = w.heap.size := by
  induction vs with
  | nil => intro w G o; rfl
  | cons v vs ih => intro w G o; show (put (w.setCell ⟨G, o, none⟩ v) G (o + 1) vs).heap.size = _; rw [ih]; simp [World.setCell]
theorem put_other (vs : List Value) : ∀ (w : World) (G o j : Nat), (j < o ∨ o + vs.length ≤ j) → (put w G o vs).cell? ⟨G, j, none⟩ = w.cell? ⟨G, j, none⟩ := by
  induction vs with
  | nil => intro w G o j _; rfl
  | cons v vs ih =>
    intro w G o j hj
    simp only [List.length_cons] at hj
    show (put (w.setCell ⟨G, o, none⟩ v) G (o + 1) vs).cell? _ = _
    have hne : j ≠ o := by omega
    rw [ih _ _ _ _ (by omega), World.cell?_setCell_other (h := by first | (simp; done) | (simp; exact hne))]
theorem put_same (vs : List Value) : ∀ (w : World) (G o : Nat), (∀ k, k < vs.length → ∃ u, w.cell? ⟨G, o + k, none⟩ = some u) → ∀ k v, vs[k]? = some v → (put w G o vs).cell? ⟨G, o + k, none⟩ = some v := by
  induction vs with
  | nil => intro w G o _ k v h; cases h
  | cons u vs ih =>
    intro w G o hold k v h
    show (put (w.setCell ⟨G, o, none⟩ u) G (o + 1) vs).cell? _ = _
    obtain ⟨u0, hu0⟩ := hold 0 (by simp)
    cases k with
    | zero =>
      simp at h
      subst h
      rw [put_other _ _ _ _ _ (by omega)]
      exact World.cell?_setCell_same _ _ _ hu0
    | succ k =>
      have := ih (w.setCell ⟨G, o, none⟩ u) G (o + 1) (fun j hj => by
        obtain ⟨u1, hu1⟩ := hold (j + 1) (by simp; omega)
        refine ⟨u1, ?_⟩
        rw [World.cell?_setCell_other (h := by first | (simp; done) | (simp; omega)), show o + 1 + j = o + (j + 1) by omega]
        exact hu1) k v (by simpa using h)
      rw [show o + (k + 1) = o + 1 + k by omega]
      exact this
theorem put_frozen (vs : List Value) : ∀ (w : World) (G o j : Nat), (put w G o vs).frozen? ⟨G, j, none⟩ = w.frozen? ⟨G, j, none⟩ := by
  induction vs with
  | nil => intro w G o j; rfl
  | cons v vs ih => intro w G o j; show (put (w.setCell ⟨G, o, none⟩ v) G (o + 1) vs).frozen? _ = _; rw [ih, World.frozen?_setCell]
theorem put_below (vs : List Value) : ∀ {w0 : World} {b : Nat} (w : World) (G o : Nat), Below b w0 w → b ≤ G → Below b w0 (put w G o vs) := by
  induction vs with
  | nil => intro w0 b w G o h _; exact h
  | cons v vs ih => intro w0 b w G o h hG; exact ih _ _ _ (h.setCell (p := ⟨G, o, none⟩) hG v) hG
theorem Out.set {w : World} {G n i : Nat} {l : List α} {x : α} (h : Out s cs w G n l i) (hi : i < n) (hx : l[i]? = some x) (vs : List Value) (hv : vs.length = s) (hvs : ∀ k, k < s → vs[k]? = some (.int .i64 (cs x k))) :
    Out s cs (put w G (i * s) vs) G n l (i + 1) := by
  obtain ⟨h1, h2, h3⟩ := h
  have hle : i * s + s ≤ n * s := by rw [← Nat.succ_mul]; exact Nat.mul_le_mul_right s hi
  have hnew : ∀ k, k < s → (put w G (i * s) vs).cell? ⟨G, i * s + k, none⟩ = some (.int .i64 (cs x k)) := fun k hk =>
    put_same vs w G (i * s) (fun j hj => (h2 (i * s + j) (by omega)).1) k _ (hvs k hk)
  refine ⟨by rw [put_size]; exact h1, fun j hj => ⟨?_, by rw [put_frozen]; exact (h2 j hj).2⟩, fun j y hj hy k hk => ?_⟩
  · by_cases a : i * s ≤ j ∧ j < i * s + s
    · have := hnew (j - i * s) (by omega)
      rw [show i * s + (j - i * s) = j by omega] at this
      exact ⟨_, this⟩
    · rw [put_other _ _ _ _ _ (by omega)]; exact (h2 j hj).1
  · by_cases a : j = i
    · subst a; rw [hx] at hy; cases hy; exact hnew k hk
    · have hlt : j * s + s ≤ i * s := by rw [← Nat.succ_mul]; exact Nat.mul_le_mul_right s (by omega)
      rw [put_other _ _ _ _ _ (by omega)]
      exact h3 j y (by omega) hy k hk
theorem Out.old {w : World} {G n i : Nat} {l : List α} (h : Out s cs w G n l i) {j : Nat} (hj : j < n) {k : Nat} (hk : k < s) : (∃ u, w.cell? ⟨G, j * s + k, none⟩ = some u) ∧ w.frozen? ⟨G, j * s + k, none⟩ = false := by
  have hle : j * s + s ≤ n * s := by rw [← Nat.succ_mul]; exact Nat.mul_le_mul_right s hj
  exact h.2.1 (j * s + k) (by omega)
theorem Out.made {w w' : World} {t : TypeId} {z : List Value} {b n : Nat} (l : List α) (h : w'.ownsRow b t s (.slice (some ⟨w.heap.size, 0, none⟩) n n) n z) : Out s cs w' w.heap.size n l 0 := by
  obtain ⟨h1, h2⟩ := h
  rcases h2 with ⟨h2, h3⟩ | ⟨g, cap, cur, h2, h3, h4, h5, h6, h7, h8⟩
  · cases h2
  · simp only [Value.slice.injEq, Option.some.injEq, Addr.mk.injEq, and_true, true_and] at h2
    obtain ⟨rfl, rfl⟩ := h2
    refine ⟨(Array.getElem?_eq_some_iff.1 h4).1, fun j hj => ⟨?_, ?_⟩, fun j x hj => absurd hj (by omega)⟩
    · have hj' : j < cur.size := by omega
      exact ⟨cur[j], by simp only [World.cell?, h4]; exact Array.getElem?_eq_getElem hj'⟩
    · simp only [World.frozen?, h4]
      simp
theorem Out.row {w : World} {G : Nat} {l : List α} (h : Out s cs w G l.length l l.length) (c : Nat) (hc : l.length ≤ c) : Rw s cs w (.slice (some ⟨G, 0, none⟩) l.length c) l :=
  ⟨_, c, rfl, hc, Or.inr ⟨G, 0, rfl, h.1, fun i x hx k hk => by rw [Nat.zero_add]; exact h.2.2 i x (get_lt' hx) hx k hk⟩⟩
theorem Out.own {w : World} {G base : Nat} {l : List α} (h : Out s cs w G l.length l l.length) (hG : base ≤ G) (c : Nat) (hc : l.length ≤ c) : Own s cs w base (.slice (some ⟨G, 0, none⟩) l.length c) l :=
  ⟨_, c, rfl, hc, Or.inr ⟨G, rfl, hG, h⟩⟩

theorem Own.row {w : World} {base : Nat} {v : Value} {l : List α} (h : Own s cs w base v l) : Rw s cs w v l := by
  obtain ⟨ao, cap, rfl, hc, h0 | ⟨G, rfl, _, ho⟩⟩ := h
  · exact ⟨ao, cap, rfl, hc, Or.inl h0⟩
  · exact ho.row cap hc
theorem Own.below {w w' : World} {base : Nat} {v : Value} {l : List α} (h : Own s cs w base v l) (hb : Below w.heap.size w w') : Own s cs w' base v l := by
  obtain ⟨ao, cap, rfl, hc, h0 | ⟨G, rfl, hG, ho⟩⟩ := h
  · exact ⟨ao, cap, rfl, hc, Or.inl h0⟩
  · exact ⟨_, cap, rfl, hc, Or.inr ⟨G, rfl, hG, ho.below hb⟩⟩
theorem Own.base_le {w : World} {base b2 : Nat} {v : Value} {l : List α} (h : Own s cs w base v l) (hb : b2 ≤ base) : Own s cs w b2 v l := by
  obtain ⟨ao, cap, rfl, hc, h0 | ⟨G, rfl, hG, ho⟩⟩ := h
  · exact ⟨ao, cap, rfl, hc, Or.inl h0⟩
  · exact ⟨_, cap, rfl, hc, Or.inr ⟨G, rfl, Nat.le_trans hb hG, ho⟩⟩
theorem Own.nil (w : World) (b : Nat) (ao : Option Addr) (cap : Nat) : Own s cs w b (.slice ao 0 cap) [] := ⟨ao, cap, rfl, Nat.zero_le _, Or.inl rfl⟩

theorem cellsL_app (l : List α) (x : α) : cellsL s cs (l ++ [x]) = cellsL s cs l ++ (List.range s).map (fun k => .int .i64 (cs x k)) := by simp [cellsL]
theorem cellsL_len (l : List α) : (cellsL s cs l).length = l.length * s := by
  unfold cellsL
  induction l with
  | nil => simp
  | cons x l ih => rw [List.flatMap_cons, List.length_append, ih]; simp [Nat.succ_mul]; omega
theorem cellsL_get (l : List α) : ∀ i x, l[i]? = some x → ∀ k, k < s → (cellsL s cs l)[i * s + k]? = some (.int .i64 (cs x k)) := by
  induction l with
  | nil => intro i x h; cases h
  | cons y l ih =>
    intro i x h k hk
    show ((List.range s).map (fun k => Value.int .i64 (cs y k)) ++ cellsL s cs l)[i * s + k]? = _
    cases i with
    | zero =>
      simp at h
      subst h
      rw [List.getElem?_append_left (by simp; omega)]
      simp [hk]
    | succ i =>
      have e : (i + 1) * s + k = s + (i * s + k) := by rw [Nat.succ_mul]; omega
      rw [e, List.getElem?_append_right (by simp), List.length_map, List.length_range, Nat.add_sub_cancel_left]
      exact ih i x (by simpa using h) k hk
theorem out_of {w : World} {base g cap n : Nat} {t : TypeId} {l : List α} (hn : n = l.length) (h : w.ownsRow base t s (.slice (some ⟨g, 0, none⟩) n cap) n (cellsL s cs l)) : base ≤ g ∧ Out s cs w g l.length l l.length := by
  subst hn
  obtain ⟨h1, ⟨h2, _⟩ | ⟨g', cap', cur, h2, hb, hg, hc, _, hs, ht⟩⟩ := h
  · cases h2
  · simp only [Value.slice.injEq, Option.some.injEq, Addr.mk.injEq, and_true, true_and] at h2
    obtain ⟨rfl, rfl⟩ := h2
    have hsz : l.length * s ≤ cur.size := by rw [hs]; exact Nat.mul_le_mul_right s hc
    have hcell : ∀ j, j < l.length * s → w.cell? ⟨g, j, none⟩ = (cellsL s cs l)[j]? := fun j hj => by
      rw [← ht, List.getElem?_take, if_pos hj, Array.getElem?_toList]
      simp only [World.cell?, hg]
      rfl
    refine ⟨hb, (Array.getElem?_eq_some_iff.1 hg).1, fun j hj => ⟨?_, ?_⟩, fun j x _ hx k hk => ?_⟩
    · rw [hcell j hj, List.getElem?_eq_getElem (by rw [cellsL_len]; exact hj)]
      exact ⟨_, rfl⟩
    · simp only [World.frozen?, hg]
      simp
    · have hj := get_lt' hx
      have hle : j * s + s ≤ l.length * s := by rw [← Nat.succ_mul]; exact Nat.mul_le_mul_right s hj
      rw [hcell _ (by omega)]; exact cellsL_get l j x hx k hk
theorem own_of {w : World} {base : Nat} {t : TypeId} {v : Value} {l : List α} {n : Nat} (hn : n = l.length) (h : w.ownsRow base t s v n (cellsL s cs l)) : Own s cs w base v l := by
  have h0 := h
  obtain ⟨h1, ⟨rfl, h2⟩ | ⟨g, cap, cur, rfl, hb, hg, hc, _, hs, ht⟩⟩ := h
  · exact ⟨none, 0, by rw [← hn, h2], by omega, Or.inl (by omega)⟩
  · obtain ⟨h3, h4⟩ := out_of hn h0
    exact ⟨_, cap, by rw [hn], by omega, Or.inr ⟨g, rfl, h3, h4⟩⟩

theorem rows_of_read {H : Type} {enc : TypeId × Value → H} {P : Program} {W : World} {sp : Nat → Bool} {hd : Bool} {t e : TypeId} {fs : Array Field} {ao : Option Addr} {len cap : Nat} {d : DataW H} {p : List MemPlace}
    (mk : (Nat → Int) → α) (hmk : ∀ f k, k < s → cs (mk f) k = f k) (hs0 : 0 < s)
    (ht : P.underlying t = some (.slice e)) (he : P.underlying e = some (.struct fs)) (ce : P.cellsOf e = s)
    (hfs : ∀ k, k < s → ∃ f, fs[k]? = some f ∧ f.offset = k ∧ P.cellsOf f.type = 1 ∧ P.underlying f.type = some (.int .i64)) (h : DataW.Trod enc P W 0 sp hd t (.slice ao len cap) d p) :
    ∃ l : List α, l.length = len ∧ len ≤ maxLen ∧ Rw s cs W (.slice ao len cap) l := by
  obtain ⟨fuel, hf⟩ := h
  rcases Deep.open_slice ht hf with ⟨h1, _⟩ | ⟨a, ln, c, m, n, D, Pl, h1, hb, hl, hcm, hm, _, hx⟩
  · simp [Value.cells] at h1
    obtain ⟨rfl, rfl, rfl⟩ := h1
    exact ⟨[], rfl, Nat.zero_le _, none, 0, rfl, Nat.zero_le _, Or.inl rfl⟩
  · simp [Value.cells] at h1
    obtain ⟨rfl, rfl, rfl⟩ := h1
    have hle : len ≤ m := by rw [hm]; split <;> omega
    have hV : ∀ i, i < len → ∃ q : Nat → Int, ∀ k, k < s → W.cell? ((a.add (i * s)).add k) = some (.int .i64 (q k)) := by
      intro i hi
      obtain ⟨cs', h2, h3⟩ := hx i (by omega)
      rw [ce] at h2
      obtain ⟨_, hlen, hcell⟩ := World.cells?_some h2
      obtain ⟨xs, k, hk, hxy, _, hxl, hf⟩ := DataW.trod_struct he h3
      have hq : ∀ k, k < s → ∃ z : Int, W.cell? ((a.add (i * s)).add k) = some (.int .i64 z) := by
        intro k hk
        obtain ⟨f, hf1, hf2, hf3, hf4⟩ := hfs k hk
        have hg := hf k f hf1
        rw [hf2, hf3] at hg
        have hxk : k < xs.length := by rw [hxl]; exact (Array.getElem?_eq_some_iff.1 hf1).1
        rw [List.getElem?_eq_getElem hxk] at hg
        obtain ⟨z, hz, _⟩ := DataW.trod_int hf4 hg
        refine ⟨z, ?_⟩
        rw [hcell k hk]
        have hk' : k < cs'.length := by omega
        have : (cs'.drop k).take 1 = [cs'[k]] := by
          rw [List.drop_eq_getElem_cons hk', List.take_succ_cons, List.take_zero]
        rw [this] at hz
        rw [List.getElem?_eq_getElem hk']
        simpa using hz
      obtain ⟨q, hq2⟩ := Deep.choose_lt hq
      exact ⟨q, hq2⟩
    obtain ⟨q, hq⟩ := Deep.choose_lt hV
    refine ⟨(List.range len).map (fun i => mk (q i)), by simp, by omega, some a, cap, by simp, by simpa using hl, ?_⟩
    by_cases h0 : len = 0
    · exact Or.inl (by simp [h0])
    · obtain ⟨b, off, spot⟩ := a
      have hs := hq 0 (by omega) 0 hs0
      have hspot : spot = none := by simpa [Addr.add] using World.cell?_spot hs
      subst hspot
      refine Or.inr ⟨b, off, rfl, World.block_lt_of_cell? W _ (by simpa [Addr.add_lit] using hs), ?_⟩
      intro i x hix k hk
      have hi' : i < len := by simpa using get_lt' hix
      have hx2 : x = mk (q i) := by
        rw [List.getElem?_map, List.getElem?_range hi'] at hix
        simpa using hix.symm
      subst hx2
      have := hq i hi' k hk
      rw [Addr.add_lit, Addr.add_lit] at this
      rw [hmk _ _ hk]
      exact this

/-- Nothing but v's block has turned. -/
structure Aside (w w' : World) (v : Value) : Prop where
  os : w'.os = w.os
  tape : w'.tape = w.tape
  output : w'.output = w.output
  size : w'.heap.size = w.heap.size
  block : ∀ j, v.ownBlock ≠ some j → w'.heap[j]? = w.heap[j]?
theorem Aside.refl (w : World) (v : Value) : Aside w w v := ⟨rfl, rfl, rfl, rfl, fun _ _ => rfl⟩
theorem Aside.set {w w' : World} {G n c o : Nat} (h : Aside w w' (.slice (some ⟨G, 0, none⟩) n c)) (x : Value) : Aside w (w'.setCell ⟨G, o, none⟩ x) (.slice (some ⟨G, 0, none⟩) n c) := by
  have hb := (Below.refl G w').setCell (p := ⟨G, o, none⟩) (Nat.le_refl _) x
  refine ⟨hb.os.trans h.os, hb.tape.trans h.tape, hb.output.trans h.output, by rw [← h.size]; simp [World.setCell], fun j hj => ?_⟩
  rw [← h.block j hj]
  have hne : G ≠ j := fun e => hj (by rw [e]; rfl)
  exact Below.heap_setCell _ _ _ _ (by show j ≠ G; omega)
theorem Aside.put {G n c : Nat} (vs : List Value) : ∀ {w w' : World} (o : Nat), Aside w w' (.slice (some ⟨G, 0, none⟩) n c) → Aside w (put w' G o vs) (.slice (some ⟨G, 0, none⟩) n c) := by
  induction vs with
  | nil => intro w w' o h; exact h
  | cons v vs ih => intro w w' o h; exact ih (o + 1) (h.set v)
theorem Aside.below {w0 w w' : World} {base : Nat} {v : Value} (h : Aside w w' v) (hb : Below base w0 w) (hv : ∀ j, v.ownBlock = some j → base ≤ j) : Below base w0 w' :=
  ⟨h.os.trans hb.os, h.tape.trans hb.tape, h.output.trans hb.output, by rw [h.size]; exact hb.size, fun k hk => by
    rw [← hb.block k hk]
    exact h.block k (fun e => absurd (hv k e) (by omega))⟩
theorem Own.from_base {w : World} {base : Nat} {v : Value} {l : List α} (h : Own s cs w base v l) (hn : l.length ≠ 0) : ∀ j, v.ownBlock = some j → base ≤ j := by
  obtain ⟨ao, cap, rfl, _, h0 | ⟨G, rfl, hG, _⟩⟩ := h
  · exact absurd h0 hn
  · intro j hj; cases hj; exact hG
theorem Out.aside {w w' : World} {G n i : Nat} {l : List α} {v : Value} (h : Out s cs w G n l i) (ha : Aside w w' v) (hv : v.ownBlock ≠ some G) : Out s cs w' G n l i := by
  have hb := ha.block G hv
  have hc : ∀ j, w'.cell? ⟨G, j, none⟩ = w.cell? ⟨G, j, none⟩ := fun j => by simp only [World.cell?, hb]
  have hf : ∀ j, w'.frozen? ⟨G, j, none⟩ = w.frozen? ⟨G, j, none⟩ := fun j => by simp only [World.frozen?, hb]
  refine ⟨by rw [ha.size]; exact h.1, fun j hj => ?_, fun j x hj hx k hk => ?_⟩
  · rw [hc, hf]; exact h.2.1 j hj
  · rw [hc]; exact h.2.2 j x hj hx k hk
theorem Own.mark_below {w w' w0 : World} {base b0 : Nat} {v : Value} {l : List α} (h : Own s cs w base v l) (ha : Aside w w' v) (hz : l.length = 0 → w' = w) (hb : Below b0 w0 w) (h0 : b0 ≤ base) : Below b0 w0 w' := by
  rcases Nat.eq_zero_or_pos l.length with q | q
  · rw [hz q]; exact hb
  · exact ha.below hb (fun j hj => Nat.le_trans h0 (h.from_base (by omega) j hj))
end

/-- Another row stays while this one, which lies ahead of it, is marked. -/
theorem Own.mark_own {α β : Type} {s s2 : Nat} {cs : α → Nat → Int} {cs2 : β → Nat → Int} {wx w w' : World} {base b2 : Nat} {v v2 : Value} {l : List α} {l2 : List β} (h : Own s cs wx base v l) (hx : wx.heap.size ≤ b2) (ha : Aside w w' v) (hz : l.length = 0 → w' = w) (h2 : Own s2 cs2 w b2 v2 l2) : Own s2 cs2 w' b2 v2 l2 := by
  rcases Nat.eq_zero_or_pos l.length with q | q
  · rw [hz q]; exact h2
  · obtain ⟨ao, cap, rfl, _, hh⟩ := h
    obtain ⟨G, rfl, hG, ho⟩ := hh.resolve_left (by omega)
    obtain ⟨ao2, cap2, rfl, hc2, h0 | ⟨G2, rfl, hG2, ho2⟩⟩ := h2
    · exact ⟨_, _, rfl, hc2, Or.inl h0⟩
    · refine ⟨_, _, rfl, hc2, Or.inr ⟨G2, rfl, hG2, ho2.aside ha ?_⟩⟩
      intro e
      have e2 : G = G2 := Option.some.inj e
      have := ho.1
      omega
/-- Two rows in two blocks. -/
def Apart (v v2 : Value) : Prop := ∀ j, v.ownBlock = some j → v2.ownBlock ≠ some j
theorem Own.mark_apart {β : Type} {s2 : Nat} {cs2 : β → Nat → Int} {w w' : World} {b2 : Nat} {v v2 : Value} {l2 : List β} (hx : Apart v v2) (ha : Aside w w' v) (h2 : Own s2 cs2 w b2 v2 l2) : Own s2 cs2 w' b2 v2 l2 := by
  obtain ⟨ao2, cap2, rfl, hc2, h0 | ⟨G2, rfl, hG2, ho2⟩⟩ := h2
  · exact ⟨_, _, rfl, hc2, Or.inl h0⟩
  · exact ⟨_, _, rfl, hc2, Or.inr ⟨G2, rfl, hG2, ho2.aside ha (fun e => hx G2 e rfl)⟩⟩

/-- What a marking leaves: numbers from k on. -/
def csM (x : Int) (k : Nat) : Int := x + k
def marks (s : Nat) (k : Int) (n : Nat) : List Int := (List.range n).map (fun i : Nat => k + s * (i : Int))
theorem marks_len (s : Nat) (k : Int) (n : Nat) : (marks s k n).length = n := by simp [marks]
theorem marks_get (s : Nat) (k : Int) (n i : Nat) (h : i < n) : (marks s k n)[i]? = some (k + s * (i : Int)) := by
  rw [marks, List.getElem?_map, List.getElem?_range h]; rfl
end Go.Proofs.Ytdjnnhdeijnhgab

/-
  Plain facts on vital signs and their points; no Go in sight.
-/
namespace Go.Proofs.Ytdjnnhdeijnhgab.Va

structure Vt where
  b : Int
  o : Int
  p : Int
  u : Int
  a : Int
  h : Int

def rng (x lo hi : Int) : Bool := decide (lo ≤ x) && decide (x ≤ hi)
/-- As the specification asks. -/
def vOk (v : Vt) : Bool := rng v.b (-1) 99 && (rng v.o (-1) 100 && (rng v.p (-1) 400 && (rng v.u (-1) 400 && (rng v.a (-1) 1 && (decide (v.h = -1) || rng v.h 200 460)))))
theorem rng_iff {x lo hi : Int} : rng x lo hi = true ↔ lo ≤ x ∧ x ≤ hi := by simp [rng]
theorem vOk_iff {v : Vt} : vOk v = true ↔ (-1 ≤ v.b ∧ v.b ≤ 99) ∧ (-1 ≤ v.o ∧ v.o ≤ 100) ∧ (-1 ≤ v.p ∧ v.p ≤ 400) ∧ (-1 ≤ v.u ∧ v.u ≤ 400) ∧ (-1 ≤ v.a ∧ v.a ≤ 1) ∧ (v.h = -1 ∨ (200 ≤ v.h ∧ v.h ≤ 460)) := by simp [vOk, rng]

def bp (n : Int) : Int := if n ≤ 8 ∨ 25 ≤ n then 3 else if 21 ≤ n then 2 else if n ≤ 11 then 1 else 0
def op (n : Int) : Int := if n ≤ 91 then 3 else if n ≤ 93 then 2 else if n ≤ 95 then 1 else 0
def pp (n : Int) : Int := if n ≤ 90 ∨ 220 ≤ n then 3 else if n ≤ 100 then 2 else if n ≤ 110 then 1 else 0
def up (n : Int) : Int := if n ≤ 40 ∨ 131 ≤ n then 3 else if 111 ≤ n then 2 else if n ≤ 50 ∨ 91 ≤ n then 1 else 0
def ap (n : Int) : Int := if n = 0 then 3 else 0
def hp (n : Int) : Int := if n ≤ 350 then 3 else if 391 ≤ n then 2 else if n ≤ 360 ∨ 381 ≤ n then 1 else 0
/-- The points of a sign, -1 where it was not measured. -/
def pt (f : Int → Int) (n : Int) : Int := if n < 0 then -1 else f n
def six (v : Vt) : List Int := [pt bp v.b, pt op v.o, pt pp v.p, pt up v.u, pt ap v.a, pt hp v.h]

def sumL (l : List Int) : Int := (l.map fun x => if x < 0 then 0 else x).sum
def noneL (l : List Int) : Int := ((l.filter fun x => decide (x < 0)).length : Int)
def threeL (l : List Int) : Bool := l.any fun x => decide (x = 3)
theorem sumL_snoc (l : List Int) (x : Int) : sumL (l ++ [x]) = sumL l + (if x < 0 then 0 else x) := by simp [sumL]
theorem noneL_snoc (l : List Int) (x : Int) : noneL (l ++ [x]) = noneL l + (if x < 0 then 1 else 0) := by
  unfold noneL
  by_cases h : x < 0
  · rw [if_pos h]; simp [List.filter_append, h]
  · rw [if_neg h]; simp [List.filter_append, h]
theorem threeL_snoc (l : List Int) (x : Int) : threeL (l ++ [x]) = (threeL l || decide (x = 3)) := by simp [threeL]

theorem bp_bd (n : Int) : 0 ≤ bp n ∧ bp n ≤ 3 := by unfold bp; split; omega; split; omega; split <;> omega
theorem op_bd (n : Int) : 0 ≤ op n ∧ op n ≤ 3 := by unfold op; split; omega; split; omega; split <;> omega
theorem pp_bd (n : Int) : 0 ≤ pp n ∧ pp n ≤ 3 := by unfold pp; split; omega; split; omega; split <;> omega
theorem up_bd (n : Int) : 0 ≤ up n ∧ up n ≤ 3 := by unfold up; split; omega; split; omega; split <;> omega
theorem ap_bd (n : Int) : 0 ≤ ap n ∧ ap n ≤ 3 := by unfold ap; split <;> omega
theorem hp_bd (n : Int) : 0 ≤ hp n ∧ hp n ≤ 3 := by unfold hp; split; omega; split; omega; split <;> omega
theorem pt_bd {f : Int → Int} (h : ∀ n, 0 ≤ f n ∧ f n ≤ 3) (n : Int) : -1 ≤ pt f n ∧ pt f n ≤ 3 := by
  unfold pt
  split
  · omega
  · have := h n; omega
theorem six_bd (v : Vt) : ∀ x ∈ six v, -1 ≤ x ∧ x ≤ 3 := by
  intro x hx
  simp only [six, List.mem_cons, List.not_mem_nil, or_false] at hx
  rcases hx with rfl | rfl | rfl | rfl | rfl | rfl
  · exact pt_bd bp_bd _
  · exact pt_bd op_bd _
  · exact pt_bd pp_bd _
  · exact pt_bd up_bd _
  · exact pt_bd ap_bd _
  · exact pt_bd hp_bd _
theorem sumL_bd (l : List Int) (h : ∀ x ∈ l, -1 ≤ x ∧ x ≤ 3) : 0 ≤ sumL l ∧ sumL l ≤ 3 * (l.length : Int) := by
  induction l with
  | nil => simp [sumL]
  | cons a l ih =>
    have i := ih fun x hx => h x (List.mem_cons_of_mem _ hx)
    have q := h a List.mem_cons_self
    have e : sumL (a :: l) = (if a < 0 then 0 else a) + sumL l := by simp [sumL]
    rw [e, List.length_cons]
    split <;> omega
theorem noneL_bd (l : List Int) : 0 ≤ noneL l ∧ noneL l ≤ (l.length : Int) := by
  unfold noneL
  have := List.length_filter_le (fun x => decide (x < 0)) l
  omega
theorem take_bd (v : Vt) (i : Nat) : (0 ≤ sumL ((six v).take i) ∧ sumL ((six v).take i) ≤ 18) ∧ (0 ≤ noneL ((six v).take i) ∧ noneL ((six v).take i) ≤ 6) := by
  have a := sumL_bd ((six v).take i) fun x hx => six_bd v x (List.mem_of_mem_take hx)
  have b := noneL_bd ((six v).take i)
  have c : ((six v).take i).length ≤ 6 := by rw [List.length_take]; simp [six]; omega
  omega

def psum (v : Vt) : Int := if vOk v then sumL (six v) else 0
def pnone (v : Vt) : Int := if vOk v then noneL (six v) else 0
def pthree (v : Vt) : Bool := if vOk v then threeL (six v) else false
theorem psum_bd (v : Vt) : 0 ≤ psum v ∧ psum v ≤ 18 := by
  unfold psum
  split
  · exact (take_bd v 6).1
  · omega
theorem pnone_bd (v : Vt) : 0 ≤ pnone v ∧ pnone v ≤ 6 := by
  unfold pnone
  split
  · exact (take_bd v 6).2
  · omega
def urg (v : Vt) : Int := if vOk v then (if 7 ≤ psum v then 1 else if 5 ≤ psum v ∨ pthree v = true then 2 else if 1 ≤ psum v then 3 else if pnone v = 0 then 4 else 5) else 0
theorem urg_bd (v : Vt) : 0 ≤ urg v ∧ urg v ≤ 5 := by
  unfold urg
  split
  · split
    · omega
    · split
      · omega
      · split
        · omega
        · split <;> omega
  · omega
theorem urg_pos {v : Vt} (h : vOk v = true) : 1 ≤ urg v := by
  unfold urg
  rw [if_pos h]
  split
  · omega
  · split
    · omega
    · split
      · omega
      · split <;> omega
/-- The minutes to the next look. -/
def mtl (n : Int) : Int := if n = 2 then 30 else if n = 3 then 60 else if n = 4 then 240 else if n = 5 then 15 else 0
theorem mtl_bd (n : Int) : 0 ≤ mtl n ∧ mtl n ≤ 240 := by unfold mtl; split; omega; split; omega; split; omega; split <;> omega
def tmv (x : Int) : Bool := decide (0 ≤ x) && decide (x ≤ 10000000)
theorem tmv_iff {x : Int} : tmv x = true ↔ 0 ≤ x ∧ x ≤ 10000000 := by simp [tmv]
def look (v : Vt) (t : Int) : Int := if vOk v && tmv t then (if tmv (t + mtl (urg v)) then t + mtl (urg v) else -1) else -1
end Go.Proofs.Ytdjnnhdeijnhgab.Va

/-
  Vital signs: the specification's VitalOk, the program's table and its VitalOk.
-/
namespace Go.Proofs.Ytdjnnhdeijnhgab
open Go.RowKit Va
set_option linter.unusedVariables false

def aV (v : Vt) : Value := .agg #[.int .i64 v.b, .int .i64 v.o, .int .i64 v.p, .int .i64 v.u, .int .i64 v.a, .int .i64 v.h]
theorem ret_bool {a b : Bool} (h : a = b) : Ending.returned (.bool a) = .returned (.bool b) := by rw [h]
theorem ret_int {k : IntKind} {a b : Int} (h : a = b) : Ending.returned (.int k a) = .returned (.int k b) := by rw [h]

theorem bcell {W w1 : World} (hb : Below W.heap.size W w1) : (∀ b o, b < W.heap.size → w1.cell? ⟨b, o, none⟩ = W.cell? ⟨b, o, none⟩) ∧ (∀ b o, b < W.heap.size → w1.frozen? ⟨b, o, none⟩ = W.frozen? ⟨b, o, none⟩) :=
  ⟨fun b o h => hb.cell (p := ⟨b, o, none⟩) h, fun b o h => hb.frozen (p := ⟨b, o, none⟩) h⟩
theorem old_cell {w : World} {g : Nat} (hg : g < w.heap.size) (o : Obj) (x : Nat) : (w.alloc o).cell? ⟨g, x, none⟩ = w.cell? ⟨g, x, none⟩ :=
  ((Below.refl w.heap.size w).alloc (Nat.le_refl _) o).cell (p := ⟨g, x, none⟩) hg
/-- An old cell, behind up to three new blocks. -/
theorem old_cells {w : World} {g : Nat} (hg : g < w.heap.size) : (∀ (a : Obj) (x : Nat), (w.alloc a).cell? ⟨g, x, none⟩ = w.cell? ⟨g, x, none⟩) ∧ (∀ (a b : Obj) (x : Nat), ((w.alloc a).alloc b).cell? ⟨g, x, none⟩ = w.cell? ⟨g, x, none⟩) ∧
    (∀ (a b c : Obj) (x : Nat), (((w.alloc a).alloc b).alloc c).cell? ⟨g, x, none⟩ = w.cell? ⟨g, x, none⟩) :=
  ⟨fun a x => old_cell hg a x, fun a b x => by rw [old_cell (by simp; omega), old_cell hg], fun a b c x => by rw [old_cell (by simp; omega), old_cell (by simp; omega), old_cell hg]⟩

set_option maxHeartbeats 400000 in
theorem lin_any (n lo hi : Int) (w : World) : Calls Try.prog 33 #[.int .i64 n, .int .i64 lo, .int .i64 hi] w fun e w' => e = .returned (.bool (rng n lo hi)) ∧ w = w' := by
  unfold rng
  go_enter Try.func33, Try.ntmps33
  go_wp2
  all_goals (go_ret; exact ⟨ret_bool (by first | (simp; done) | (simp; omega) | (simp_all; done) | (simp_all; omega) | (rw [Bool.eq_iff_iff]; simp; omega) | (rw [Bool.eq_iff_iff]; simp_all; omega)), rfl⟩)

end Go.Proofs.Ytdjnnhdeijnhgab
