/-
  While a list is put back: its cells, its teams.
-/
import Derived.Test.YtcapmobhgffnhaaOv
namespace Go.Proofs.Ytcapmobhgffnhaa
open Go.RowKit Va Oa
set_option linter.unusedVariables false

theorem ins_plen {l : List Opn} {u : Opn} {r : Int} : ∀ i P S h, i ≤ l.length → ins l u r i = some (P, S, h) → P.length = i := by
  intro i
  induction i with
  | zero =>
    intro P S h _ hi
    simp only [ins, Option.some.injEq, Prod.mk.injEq] at hi
    rw [← hi.1]; rfl
  | succ i ih =>
    intro P S h hl hi
    rw [ins] at hi
    split at hi
    · rename_i P' S' h' x h1 h2
      have hp := ih P' S' h' (by omega) h1
      split at hi
      · simp only [Option.some.injEq, Prod.mk.injEq] at hi
        rw [← hi.1, List.length_append, hp]; rfl
      · split at hi
        · cases hi
        · simp only [Option.some.injEq, Prod.mk.injEq] at hi
          rw [← hi.1, List.length_append, hp]; rfl
    · cases hi
theorem pair_at {l P : List Opn} {L : List (Opn × Value)} {i : Nat} {x : Opn} (h : L.map Prod.fst = P ++ l.drop i) (hp : P.length = i) (hx : l[i]? = some x) : ∃ tv, L[i]? = some (x, tv) := by
  have e : (L.map Prod.fst)[i]? = some x := by
    rw [h, List.getElem?_append_right (by omega), hp, Nat.sub_self, List.getElem?_drop, Nat.add_zero]
    exact hx
  rw [List.getElem?_map] at e
  obtain ⟨⟨y, tv⟩, h1, h2⟩ := Option.map_eq_some_iff.1 e
  simp only at h2
  subst h2
  exact ⟨tv, h1⟩
theorem pair_keep {l P : List Opn} {L : List (Opn × Value)} {i : Nat} {x : Opn} (h : L.map Prod.fst = P ++ l.drop i) (hx : l[i]? = some x) : L.map Prod.fst = (P ++ [x]) ++ l.drop (i + 1) := by
  have hi := get_lt' hx
  rw [h, List.append_assoc, List.drop_eq_getElem_cons hi]
  have : l[i] = x := by rw [List.getElem?_eq_getElem hi] at hx; exact Option.some.inj hx
  rw [this]; rfl
theorem pair_set {l P : List Opn} {L : List (Opn × Value)} {i : Nat} {x y : Opn} {tv : Value} (h : L.map Prod.fst = P ++ l.drop i) (hp : P.length = i) (hx : l[i]? = some x) : (L.set i (y, tv)).map Prod.fst = (P ++ [y]) ++ l.drop (i + 1) := by
  rw [List.map_set, pair_keep h hx, List.append_assoc, List.set_append_right _ _ (by omega), hp, Nat.sub_self, List.append_assoc]
  rfl
theorem own_cells4 {w : World} {base n G c : Nat} {L : List (Opn × Value)} (h : w.ownsRow base 31 4 (.slice (some ⟨G, 0, none⟩) n c) n (cellsO L)) {i : Nat} {x : Opn} {tv : Value} (hp : L[i]? = some (x, tv)) (hn : L.length = n) :
    (w.cell? ⟨G, i * 4, none⟩ = some (.int .i64 x.room) ∧ w.cell? ⟨G, i * 4 + 1, none⟩ = some (.int .i64 x.fr) ∧ w.cell? ⟨G, i * 4 + 2, none⟩ = some (.int .i64 x.to) ∧ w.cell? ⟨G, i * 4 + 3, none⟩ = some tv) ∧ (∀ j, w.frozen? ⟨G, j, none⟩ = false) ∧ G < w.heap.size := by
  obtain ⟨_, ⟨h1, _⟩ | ⟨g, cap, cur, h1, hb, hg, hc, hm, hs, hx⟩⟩ := h
  · cases h1
  · simp only [Value.slice.injEq, Option.some.injEq, Addr.mk.injEq, and_true, true_and] at h1
    obtain ⟨rfl, rfl⟩ := h1
    have hi := get_lt' hp
    have hcell : ∀ k, k < 4 → w.cell? ⟨G, i * 4 + k, none⟩ = [Value.int .i64 x.room, .int .i64 x.fr, .int .i64 x.to, tv][k]? := fun k hk => by
      have e := cellsO_get L i (x, tv) k hp hk
      rw [← hx, List.getElem?_take, if_pos (by omega), Array.getElem?_toList] at e
      rw [← e]
      simp only [World.cell?, hg]
      rfl
    refine ⟨⟨hcell 0 (by omega), hcell 1 (by omega), hcell 2 (by omega), hcell 3 (by omega)⟩, fun j => ?_, (Array.getElem?_eq_some_iff.1 hg).1⟩
    simp only [World.frozen?, hg]
    rfl
theorem own_put4 {w : World} {base n G c : Nat} {L : List (Opn × Value)} (h : w.ownsRow base 31 4 (.slice (some ⟨G, 0, none⟩) n c) n (cellsO L)) {i : Nat} (hi : i < L.length) (hn : L.length = n) (y : Opn) (tv : Value) :
    ((((w.setCell ⟨G, i * 4, none⟩ (.int .i64 y.room)).setCell ⟨G, i * 4 + 1, none⟩ (.int .i64 y.fr)).setCell ⟨G, i * 4 + 2, none⟩ (.int .i64 y.to)).setCell ⟨G, i * 4 + 3, none⟩ tv).ownsRow base 31 4 (.slice (some ⟨G, 0, none⟩) n c) n (cellsO (L.set i (y, tv))) := by
  rw [← cellsO_set L i (y, tv) hi]
  exact own_cell (own_cell (own_cell (own_cell h (i * 4) (by omega) _) (i * 4 + 1) (by omega) _) (i * 4 + 2) (by omega) _) (i * 4 + 3) (by omega) _
theorem own_grownO {w w' : World} {base e s n : Nat} {v : Value} {xs : List Value} {rr : Option Nat} (h : w.ownsRow base e s v n xs) (hg : w.grownBy w' rr) (hne : ∀ k, v.ownBlock = some k → rr ≠ some k) : w'.ownsRow base e s v n xs := by
  obtain ⟨q, ⟨q1, q2⟩ | ⟨g, c, cur, rfl, hgb, hh, r⟩⟩ := h
  · exact ⟨q, Or.inl ⟨q1, q2⟩⟩
  · exact ⟨q, Or.inr ⟨g, c, cur, rfl, hgb, (hg.block g (Array.getElem?_eq_some_iff.1 hh).1 (fun e => hne g rfl e.symm)).trans hh, r⟩⟩
theorem own_apart {w : World} {b1 b2 e1 e2 s1 s2 n1 n2 : Nat} {v1 v2 : Value} {x1 x2 : List Value} (h1 : w.ownsRow b1 e1 s1 v1 n1 x1) (h2 : w.ownsRow b2 e2 s2 v2 n2 x2) (hne : e1 ≠ e2) : ∀ k, v1.ownBlock = some k → ∀ j, v2.ownBlock = some j → k ≠ j := by
  obtain ⟨_, ⟨rfl, _⟩ | ⟨g, c, cur, rfl, hgb, hh, r⟩⟩ := h1
  · intro k hk; cases hk
  · intro k hk j hj e
    obtain rfl : g = k := Option.some.inj hk
    exact (TBox.ne (W := w) (B := g) hh h2 hne) j hj e.symm
theorem Teams.set {w : World} {base : Nat} {L : List (Opn × Value)} {i : Nat} {x y : Opn} {tv : Value} (h : Teams w base L) (hp : L[i]? = some (x, tv)) (he : y.team = x.team) : Teams w base (L.set i (y, tv)) := by
  have hi := get_lt' hp
  refine ⟨fun p hp2 => ?_, ?_⟩
  · rcases List.mem_or_eq_of_mem_set hp2 with k | rfl
    · exact h.1 p k
    · have := h.1 (x, tv) (List.mem_of_getElem? hp)
      unfold TOwn at *
      simp only at *
      rw [he]; exact this
  · have e : (L.set i (y, tv)).map Prod.snd = L.map Prod.snd := by
      rw [List.map_set]
      refine List.ext_getElem? fun k => ?_
      rw [List.getElem?_set]
      split
      · rename_i hk
        subst hk
        rw [List.length_map, if_pos hi, List.getElem?_map, hp]; rfl
      · rfl
    have h2 : (L.map Prod.snd).Pairwise (fun a b => ∀ k, a.ownBlock = some k → b.ownBlock ≠ some k) := by rw [List.pairwise_map]; exact h.2
    rw [← e, List.pairwise_map] at h2
    exact h2
theorem early_ex (l : List Opn) (o : Opn) (r : Int) : ∃ t, Early l o r t := by
  by_cases h : ∃ s, OkT l o r s
  · obtain ⟨s, hs⟩ := h
    have key : ∀ n : Nat, ∀ s, OkT l o r s → (s - o.fr).toNat = n → ∃ t, OkT l o r t ∧ ∀ s', s' < t → ¬ OkT l o r s' := by
      intro n
      induction n using Nat.strongRecOn with
      | ind n ih =>
        intro s hs hn
        by_cases hm : ∃ s', s' < s ∧ OkT l o r s'
        · obtain ⟨s', h1, h2⟩ := hm
          exact ih (s' - o.fr).toNat (by have := h2.1; omega) s' h2 rfl
        · exact ⟨s, hs, fun s' h1 h2 => hm ⟨s', h1, h2⟩⟩
    obtain ⟨t, h1, h2⟩ := key _ s hs rfl
    exact ⟨t, Or.inl ⟨h1, h2⟩⟩
  · exact ⟨-1, Or.inr ⟨rfl, fun s hs => h ⟨s, hs⟩⟩⟩
theorem earl_early (l : List Opn) (o : Opn) (r : Int) : Early l o r (earl l o r) := by
  obtain ⟨t, ht⟩ := early_ex l o r
  rw [← ht.eq]; exact ht
theorem Teams.base {w : World} {base b2 : Nat} {L : List (Opn × Value)} (h : Teams w base L) (hb : b2 ≤ base) : Teams w b2 L := ⟨fun p hp => own_base (h.1 p hp) hb, h.2⟩
theorem Teams.stdy {w3 w : World} {G base B n : Nat} {L : List (Opn × Value)} {v : Value} {xs : List Value} (h : Teams w3 base L) (hst : Stdy w3 G w) (ho : w3.ownsRow B 31 4 v n xs) (hv : 0 < L.length → v.ownBlock = some G) : Teams w base L :=
  ⟨fun p hp => hst.own (h.1 p hp) (fun k hk => (own_apart (h.1 p hp) ho (by decide)) k hk G (hv (List.length_pos_of_mem hp))), h.2⟩
end Go.Proofs.Ytcapmobhgffnhaa
