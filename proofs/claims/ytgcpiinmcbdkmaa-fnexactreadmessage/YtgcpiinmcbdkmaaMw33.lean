/-
  Merged: Rm25.
-/
import Derived.Test.YtgcpiinmcbdkmaaMw28
namespace Go.Proofs.Ytgcpiinmcbdkmaa
open Go.RowKit Va Ms
set_option linter.all false
theorem own_putM {W : World} {b e s n G c j : Nat} {xs : List Value} {u : Value} (h : W.ownsRow b e s (.slice (some ⟨G, 0, none⟩) n c) n xs) (hj : j < n * s) : (∃ u, W.cell? ⟨G, j, none⟩ = some u) ∧ W.frozen? ⟨G, j, none⟩ = false ∧ (W.setCell ⟨G, j, none⟩ u).ownsRow b e s (.slice (some ⟨G, 0, none⟩) n c) n (xs.set j u) := by
  obtain ⟨q, ⟨h1, _⟩ | ⟨g, cap, cur, h1, hb, hg, hc, hm, hs, ht⟩⟩ := h
  · cases h1
  · simp only [Value.slice.injEq, Option.some.injEq, Addr.mk.injEq, and_true, true_and] at h1
    obtain ⟨rfl, rfl⟩ := h1
    have hP : PB W G cur e := hg
    have hns : n * s ≤ c * s := Nat.mul_le_mul_right s hc
    refine ⟨⟨cur[j]'(by omega), by rw [hP.cell]; exact Array.getElem?_eq_getElem (by omega)⟩, hP.frozen j, by rw [List.length_set]; exact q, .inr ⟨G, c, cur.setIfInBounds j u, rfl, hb, hP.set j u, hc, hm, by rw [Array.size_setIfInBounds]; exact hs, ?_⟩⟩
    rw [Array.toList_setIfInBounds, List.take_set, ht]
theorem ownM_some {w : World} {b e s n cc : Nat} {ca : Option Addr} {xs : List Value} (h : w.ownsRow b e s (.slice ca n cc) n xs) (hn : 0 < n) : ∃ g, ca = some ⟨g, 0, none⟩ ∧ b ≤ g := by
  obtain ⟨_, ⟨h1, _⟩ | ⟨g, cap, cur, h1, hb, hh, _⟩⟩ := h
  · cases h1; omega
  · cases h1; exact ⟨g, rfl, hb⟩
theorem own_keptM {w w' : World} {b e s n : Nat} {v : Value} {xs : List Value} {r : Option Nat} (h : w.ownsRow b e s v n xs) (g : w.grownBy w' r) (hne : ∀ k, v.ownBlock = some k → r ≠ some k) : w'.ownsRow b e s v n xs := by
  obtain ⟨q, ⟨q1, q2⟩ | ⟨k, c, cur, rfl, hg, hh, r'⟩⟩ := h
  · exact ⟨q, Or.inl ⟨q1, q2⟩⟩
  · exact ⟨q, Or.inr ⟨k, c, cur, rfl, hg, (g.block k (Array.getElem?_eq_some_iff.1 hh).1 (fun e => hne k rfl e.symm)).trans hh, r'⟩⟩
theorem gb_refl (w : World) (r : Option Nat) : w.grownBy w r := ⟨rfl, rfl, rfl, Nat.le_refl _, fun _ _ _ => rfl⟩
theorem gb_trans {a b c : World} {r : Option Nat} (h : a.grownBy b r) (k : b.grownBy c r) : a.grownBy c r :=
  ⟨k.os.trans h.os, k.tape.trans h.tape, k.output.trans h.output, Nat.le_trans h.size k.size, fun j hj hr => (k.block j (Nat.lt_of_lt_of_le hj h.size) hr).trans (h.block j hj hr)⟩
theorem gb_below {a b : World} {r : Option Nat} (k : Below a.heap.size a b) : a.grownBy b r := ⟨k.os, k.tape, k.output, k.size, fun j hj _ => k.block j hj⟩
theorem gb_set (a : World) (g j : Nat) (u : Value) : a.grownBy (a.setCell ⟨g, j, none⟩ u) (some g) := ⟨rfl, rfl, rfl, by simp [World.setCell], fun k hk hr => heap_setCell_other a ⟨g, j, none⟩ k u (fun e => hr (congrArg some e))⟩
def digs (k : Nat) (acc : ByteArray) : ByteArray := if k = 0 then acc else digs (k / 10) (bsOf [48 + k % 10] ++ acc)
termination_by k
decreasing_by omega
theorem digs_zero (acc : ByteArray) : digs 0 acc = acc := by rw [digs, if_pos rfl]
theorem digs_step {k : Nat} (h : 0 < k) (acc : ByteArray) : digs k acc = digs (k / 10) (bsOf [48 + k % 10] ++ acc) := by rw [digs, if_neg (by omega)]
def mkT (k : Nat) : ByteArray := ⟨#[109]⟩ ++ digs k ⟨#[]⟩
def mkF (n k : Nat) : List ByteArray := (List.range n).map fun i => mkT (k + i)
theorem mkF_len (n k : Nat) : (mkF n k).length = n := by simp [mkF]
theorem mkF_get {n k i : Nat} (h : i < n) : (mkF n k)[i]? = some (mkT (k + i)) := by simp [mkF, h]
theorem mkF_succ (n k : Nat) : mkF (n + 1) k = mkF n k ++ [mkT (k + n)] := by simp [mkF, List.range_succ]
theorem mkF_set {fs : List ByteArray} {i k : Nat} (h : i < fs.length) : (strV (mkF i k ++ fs.drop i)).set i (.string (mkT (k + i))) = strV (mkF (i + 1) k ++ fs.drop (i + 1)) := by
  have e : fs.drop i = fs[i] :: fs.drop (i + 1) := List.drop_eq_getElem_cons h
  have hl : ((mkF i k).map Value.string).length = i := by rw [List.length_map, mkF_len]
  rw [e, mkF_succ]
  unfold strV
  rw [List.map_append, List.set_append_right _ _ (by omega), hl, Nat.sub_self]
  simp only [List.map_cons, List.set_cons_zero, List.map_append, List.append_assoc, List.map_nil, List.cons_append, List.nil_append]
def mkL : List (Pt × Value) → Nat → List (Pt × Value)
  | [], _ => []
  | p :: L, k => (⟨mkT k, mkF p.1.fs.length (k + 1)⟩, p.2) :: mkL L (k + 1 + p.1.fs.length)
def tot : List (Pt × Value) → Nat
  | [] => 0
  | p :: L => 1 + p.1.fs.length + tot L
theorem mkL_len (L : List (Pt × Value)) : ∀ k, (mkL L k).length = L.length := by
  induction L with
  | nil => intro k; rfl
  | cons p L ih => intro k; simp [mkL, ih]
theorem mkL_app (L L2 : List (Pt × Value)) : ∀ k, mkL (L ++ L2) k = mkL L k ++ mkL L2 (k + tot L) := by
  induction L with
  | nil => intro k; rfl
  | cons p L ih =>
    intro k
    simp only [List.cons_append, mkL, ih, tot]
    congr 3
    omega
theorem tot_app (L L2 : List (Pt × Value)) : tot (L ++ L2) = tot L + tot L2 := by
  induction L with
  | nil => simp [tot]
  | cons p L ih => simp only [List.cons_append, tot, ih]; omega
theorem take_get {α : Type} {L : List α} {i : Nat} {p : α} (h : L[i]? = some p) : L.take (i + 1) = L.take i ++ [p] := by rw [List.take_add_one, h]; rfl
theorem tot_step {L : List (Pt × Value)} {i : Nat} {p : Pt × Value} (h : L[i]? = some p) : tot (L.take (i + 1)) = tot (L.take i) + 1 + p.1.fs.length := by
  rw [take_get h, tot_app]; simp [tot]; omega
def Mx (L : List (Pt × Value)) (i k : Nat) : List (Pt × Value) := mkL (L.take i) k ++ L.drop i
theorem Mx_zero (L : List (Pt × Value)) (k : Nat) : Mx L 0 k = L := by simp [Mx, mkL]
theorem Mx_all (L : List (Pt × Value)) (k : Nat) : Mx L L.length k = mkL L k := by simp [Mx]
theorem Mx_get {L : List (Pt × Value)} {i : Nat} {p : Pt × Value} (h : L[i]? = some p) (k : Nat) : (Mx L i k)[i]? = some p := by
  have hi := (List.getElem?_eq_some_iff.1 h).1
  have hl : (mkL (L.take i) k).length = i := by rw [mkL_len, List.length_take]; omega
  unfold Mx
  rw [List.getElem?_append_right (by omega), hl, Nat.sub_self, List.getElem?_drop, Nat.add_zero]
  exact h
theorem Mx_set {L : List (Pt × Value)} {i : Nat} {p : Pt × Value} (h : L[i]? = some p) (k : Nat) : (Mx L i k).set i (⟨mkT (k + tot (L.take i)), mkF p.1.fs.length (k + tot (L.take i) + 1)⟩, p.2) = Mx L (i + 1) k := by
  have hi := (List.getElem?_eq_some_iff.1 h).1
  have hg : L[i] = p := (List.getElem?_eq_some_iff.1 h).2
  have hl : (mkL (L.take i) k).length = i := by rw [mkL_len, List.length_take]; omega
  unfold Mx
  rw [take_get h, mkL_app, List.set_append_right _ _ (by omega), hl, Nat.sub_self, List.drop_eq_getElem_cons hi, List.set_cons_zero]
  simp only [mkL, List.append_assoc, List.cons_append, List.nil_append]
theorem mkL_get {L : List (Pt × Value)} {i : Nat} {p : Pt × Value} (h : L[i]? = some p) (k : Nat) : (mkL L k)[i]? = some (⟨mkT (k + tot (L.take i)), mkF p.1.fs.length (k + tot (L.take i) + 1)⟩, p.2) := by
  have hi := (List.getElem?_eq_some_iff.1 h).1
  have hl : (mkL (L.take i) k).length = i := by rw [mkL_len, List.length_take]; omega
  have e : L = L.take i ++ p :: L.drop (i + 1) := by
    have e1 : L.drop i = p :: L.drop (i + 1) := by rw [List.drop_eq_getElem_cons hi, (List.getElem?_eq_some_iff.1 h).2]
    rw [← e1, List.take_append_drop]
  have e2 : mkL L k = mkL (L.take i) k ++ mkL (p :: L.drop (i + 1)) (k + tot (L.take i)) := by rw [← mkL_app, ← e]
  rw [e2, List.getElem?_append_right (by omega), hl, Nat.sub_self]
  rfl
theorem cellsP_set0 : ∀ (L : List (Pt × Value)) (i : Nat) (p : Pt × Value) (x : ByteArray) (f : List ByteArray), L[i]? = some p → cellsP (L.set i (⟨x, f⟩, p.2)) = (cellsP L).set (i * 2) (.string x) := by
  intro L
  induction L with
  | nil => intro i p x f h; simp at h
  | cons q L ih =>
    intro i p x f h
    have e : cellsP (q :: L) = .string q.1.n :: q.2 :: cellsP L := rfl
    rw [e]
    cases i with
    | zero =>
      simp only [List.getElem?_cons_zero, Option.some.injEq] at h
      subst h
      rfl
    | succ i =>
      simp only [List.getElem?_cons_succ] at h
      rw [show (i + 1) * 2 = i * 2 + 1 + 1 by omega]
      simp only [List.set_cons_succ]
      rw [← ih i p x f h]
      rfl
theorem cellsP_setF : ∀ (L : List (Pt × Value)) (i : Nat) (p : Pt × Value) (f : List ByteArray), L[i]? = some p → cellsP (L.set i (⟨p.1.n, f⟩, p.2)) = cellsP L := by
  intro L
  induction L with
  | nil => intro i p f h; simp at h
  | cons q L ih =>
    intro i p f h
    cases i with
    | zero =>
      simp only [List.getElem?_cons_zero, Option.some.injEq] at h
      subst h
      rfl
    | succ i =>
      simp only [List.getElem?_cons_succ] at h
      have e : ∀ L' : List (Pt × Value), cellsP (q :: L') = .string q.1.n :: q.2 :: cellsP L' := fun _ => rfl
      rw [List.set_cons_succ, e, e, ih i p f h]
theorem map_setV : ∀ (L : List (Pt × Value)) (i : Nat) (p : Pt × Value) (q : Pt), L[i]? = some p → (L.set i (q, p.2)).map Prod.snd = L.map Prod.snd := by
  intro L i p q h
  rw [List.map_set]
  refine List.ext_getElem? fun j => ?_
  rw [List.getElem?_set]
  split
  · rename_i e
    subst e
    have hi := (List.getElem?_eq_some_iff.1 h).1
    rw [if_pos (by rw [List.length_map]; exact hi), List.getElem?_map, h]
    rfl
  · rfl
theorem OwnP.block_ne {w : World} {B : Nat} {mv : Value} {L : List (Pt × Value)} (h : OwnP w B mv L) {i j : Nat} {p q : Pt × Value} (hp : L[i]? = some p) (hq : L[j]? = some q) (hne : i ≠ j) : ∀ k, q.2.ownBlock = some k → p.2.ownBlock ≠ some k := by
  obtain ⟨hi, rfl⟩ := List.getElem?_eq_some_iff.1 hp
  obtain ⟨hj, rfl⟩ := List.getElem?_eq_some_iff.1 hq
  have hd := List.pairwise_iff_getElem.1 (List.pairwise_map.1 h.dist)
  intro k hk e
  rcases Nat.lt_or_ge i j with c | c
  · exact hd i j hi hj c k e hk
  · exact hd j i hj hi (by omega) k hk e
theorem OwnP.name {w : World} {B G n c : Nat} {L : List (Pt × Value)} (h : OwnP w B (.slice (some ⟨G, 0, none⟩) n c) L) {i : Nat} {p : Pt × Value} (hp : L[i]? = some p) (x : ByteArray) : OwnP (w.setCell ⟨G, i * 2, none⟩ (.string x)) B (.slice (some ⟨G, 0, none⟩) n c) (L.set i (⟨x, p.1.fs⟩, p.2)) := by
  have hi := (List.getElem?_eq_some_iff.1 hp).1
  have hn : n = L.length := by
    obtain ⟨a, c', e⟩ := ownW_slice h.parts
    cases e; rfl
  subst hn
  refine ⟨?_, fun q hq => ?_, by rw [map_setV L i p _ hp]; exact h.dist⟩
  · rw [List.length_set, cellsP_set0 L i p x _ hp]
    exact (own_putM h.parts (by omega)).2.2
  · have far : ∀ {v n xs}, w.ownsRow B 9 1 v n xs → (w.setCell ⟨G, i * 2, none⟩ (.string x)).ownsRow B 9 1 v n xs := fun q => ownB_far q (fun e => own_apartB q h.parts (by decide) G e rfl) _ _
    rcases List.mem_or_eq_of_mem_set hq with q1 | rfl
    · exact far (h.each q q1)
    · exact far (h.each p (List.mem_of_getElem? hp))
theorem OwnP.fields {w w' : World} {B : Nat} {mv : Value} {L : List (Pt × Value)} (h : OwnP w B mv L) {i : Nat} {p : Pt × Value} (hp : L[i]? = some p) (g : w.grownBy w' p.2.ownBlock) {fs : List ByteArray} (ho : w'.ownsRow B 9 1 p.2 fs.length (strV fs)) : OwnP w' B mv (L.set i (⟨p.1.n, fs⟩, p.2)) := by
  have hi := (List.getElem?_eq_some_iff.1 hp).1
  refine ⟨?_, fun q hq => ?_, by rw [map_setV L i p _ hp]; exact h.dist⟩
  · rw [List.length_set, cellsP_setF L i p _ hp]
    exact own_keptM h.parts g (fun k hk e => own_apartB h.parts (h.each p (List.mem_of_getElem? hp)) (by decide) k hk e)
  · obtain ⟨j, hj⟩ := List.mem_iff_getElem?.1 hq
    rw [List.getElem?_set] at hj
    split at hj
    · cases hj
      exact ho
    · rename_i hne
      exact own_keptM (h.each q (List.mem_of_getElem? hj)) g (h.block_ne hp hj hne)
theorem OwnP.kept {w w' : World} {B : Nat} {mv : Value} {L : List (Pt × Value)} (h : OwnP w B mv L) (k : Below w.heap.size w w') : OwnP w' B mv L :=
  ⟨own_keptM (r := none) h.parts (gb_below k) (fun _ _ e => by cases e), fun p hp => own_keptM (r := none) (h.each p hp) (gb_below k) (fun _ _ e => by cases e), h.dist⟩
end Go.Proofs.Ytgcpiinmcbdkmaa
