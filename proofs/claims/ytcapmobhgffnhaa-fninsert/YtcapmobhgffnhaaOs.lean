/-
  Rows of operations of one's own, and copies of operations.
-/
import Derived.Test.YtcapmobhgffnhaaOq
import Derived.Laws.OwnMore
namespace Go.Proofs.Ytcapmobhgffnhaa
open Go.RowKit Va Oa
set_option linter.unusedVariables false

/-- The cells of operations whose teams are given. -/
def cellsO (L : List (Opn × Value)) : List Value := L.flatMap (fun p => [.int .i64 p.1.room, .int .i64 p.1.fr, .int .i64 p.1.to, p.2])
theorem cellsO_app (L : List (Opn × Value)) (p : Opn × Value) : cellsO (L ++ [p]) = cellsO L ++ [.int .i64 p.1.room, .int .i64 p.1.fr, .int .i64 p.1.to, p.2] := by simp [cellsO]
theorem cellsO_len (L : List (Opn × Value)) : (cellsO L).length = L.length * 4 := by
  induction L with
  | nil => rfl
  | cons p L ih => show (_ ++ cellsO L).length = _; rw [List.length_append, ih, List.length_cons]; simp; omega
theorem cellsO_get (L : List (Opn × Value)) : ∀ i p k, L[i]? = some p → k < 4 → (cellsO L)[i * 4 + k]? = [Value.int .i64 p.1.room, .int .i64 p.1.fr, .int .i64 p.1.to, p.2][k]? := by
  induction L with
  | nil => intro i p k h; cases h
  | cons q L ih =>
    intro i p k h hk
    show ([Value.int .i64 q.1.room, .int .i64 q.1.fr, .int .i64 q.1.to, q.2] ++ cellsO L)[i * 4 + k]? = _
    cases i with
    | zero =>
      simp at h
      subst h
      rw [List.getElem?_append_left (by simp; omega), Nat.zero_mul, Nat.zero_add]
    | succ i =>
      rw [show (i + 1) * 4 + k = 4 + (i * 4 + k) by omega, List.getElem?_append_right (by simp)]
      simp only [List.length_cons, List.length_nil, Nat.zero_add]
      rw [show 4 + (i * 4 + k) - 4 = i * 4 + k by omega]
      exact ih i p k (by simpa using h) hk
/-- The numbers of a team, in a block of one's own. -/
def TOwn (w : World) (base : Nat) (p : Opn × Value) : Prop := w.ownsRow base 2 1 p.2 p.1.team.length (p.1.team.map fun z => Value.int .i64 z)
theorem own_irw {w : World} {base : Nat} {v : Value} {l : List Int} (h : w.ownsRow base 2 1 v l.length (l.map fun z => Value.int .i64 z)) : IRw w v l := by
  obtain ⟨_, ⟨rfl, h2⟩ | ⟨g, cap, cur, rfl, hb, hg, hc, hm, hs, ht⟩⟩ := h
  · exact ⟨none, 0, by rw [h2], by omega, Or.inl h2⟩
  · refine ⟨_, cap, rfl, hc, Or.inr ⟨g, 0, rfl, (Array.getElem?_eq_some_iff.1 hg).1, fun i x hx => ?_⟩⟩
    have hi := get_lt' hx
    have e : (l.map fun z => Value.int .i64 z)[i]? = some (.int .i64 x) := by rw [List.getElem?_map, hx]; rfl
    rw [← ht, List.getElem?_take, if_pos (by omega), Array.getElem?_toList] at e
    rw [Nat.zero_add]
    simp only [World.cell?, hg]
    exact e
/-- Owned operations whose teams can be read are a row of operations. -/
theorem own_orw {w : World} {base : Nat} {v : Value} {L : List (Opn × Value)} (h : w.ownsRow base 31 4 v L.length (cellsO L)) (ht : ∀ p ∈ L, IRw w p.2 p.1.team) : ORw w v (L.map Prod.fst) := by
  obtain ⟨_, ⟨rfl, h2⟩ | ⟨g, cap, cur, rfl, hb, hg, hc, hm, hs, hx⟩⟩ := h
  · exact ⟨none, 0, by rw [List.length_map, h2], by rw [List.length_map]; omega, Or.inl (by rw [List.length_map]; exact h2)⟩
  · refine ⟨_, cap, by rw [List.length_map], by rw [List.length_map]; exact hc, Or.inr ⟨g, 0, rfl, (Array.getElem?_eq_some_iff.1 hg).1, fun i x hix => ?_⟩⟩
    rw [List.getElem?_map] at hix
    obtain ⟨p, hp, rfl⟩ := Option.map_eq_some_iff.1 hix
    have hi := get_lt' hp
    have hcell : ∀ k, k < 4 → w.cell? ⟨g, 0 + i * 4 + k, none⟩ = [Value.int .i64 p.1.room, .int .i64 p.1.fr, .int .i64 p.1.to, p.2][k]? := fun k hk => by
      rw [← cellsO_get L i p k hp hk, ← hx, List.getElem?_take, if_pos (by omega), Array.getElem?_toList, Nat.zero_add]
      simp only [World.cell?, hg]
      rfl
    exact ⟨p.2, ⟨hcell 0 (by omega), hcell 1 (by omega), hcell 2 (by omega), hcell 3 (by omega)⟩, ht p (List.mem_of_getElem? hp)⟩
theorem ints_one (l : List Int) : ∀ u ∈ l.map (fun z => Value.int .i64 z), u.oneCell' = true := by
  intro u hu
  obtain ⟨z, -, rfl⟩ := List.mem_map.1 hu
  rfl

theorem TBox.four {W : World} {B : Nat} {v0 v1 v2 v3 : Value} {t : TypeId} (h : TBox W B #[v0, v1, v2, v3] t) : (W.cell? ⟨B, 0, none⟩ = some v0 ∧ W.cell? ⟨B, 1, none⟩ = some v1 ∧ W.cell? ⟨B, 2, none⟩ = some v2 ∧ W.cell? ⟨B, 3, none⟩ = some v3) ∧ ∀ j, W.frozen? ⟨B, j, none⟩ = false := by
  refine ⟨⟨by rw [h.cell]; rfl, by rw [h.cell]; rfl, by rw [h.cell]; rfl, by rw [h.cell]; rfl⟩, fun j => ?_⟩
  unfold TBox at h
  simp only [World.frozen?, h]
  rfl
theorem TBox.set {W : World} {B : Nat} {vs : Array Value} {t : TypeId} (h : TBox W B vs t) (j : Nat) (v : Value) : TBox (W.setCell ⟨B, j, none⟩ v) B (vs.setIfInBounds j v) t := by
  unfold TBox at *
  simp only [World.setCell, Array.getElem?_modify]
  rw [if_pos trivial, h]
  rfl
theorem TBox.far {W : World} {B : Nat} {vs : Array Value} {t : TypeId} (h : TBox W B vs t) {b : Nat} (hb : b ≠ B) (j : Nat) (v : Value) : TBox (W.setCell ⟨b, j, none⟩ v) B vs t := by
  unfold TBox at *
  rw [Below.heap_setCell _ _ _ _ (by show B ≠ b; omega)]
  exact h
theorem TBox.put4 {W : World} {B : Nat} {v0 v1 v2 v3 : Value} {t : TypeId} (h : TBox W B #[v0, v1, v2, v3] t) (u0 u1 u2 u3 : Value) : TBox ((((W.setCell ⟨B, 0, none⟩ u0).setCell ⟨B, 1, none⟩ u1).setCell ⟨B, 2, none⟩ u2).setCell ⟨B, 3, none⟩ u3) B #[u0, u1, u2, u3] t := (((h.set 0 u0).set 1 u1).set 2 u2).set 3 u3
/-- Two boxes and an empty row behind w. -/
theorem two_boxes (w : World) (a b : Array Value) (t s e : TypeId) : TBox (((w.alloc (.cells a t)).alloc (.cells b s)).alloc (.cells #[] e)) w.heap.size a t ∧ TBox (((w.alloc (.cells a t)).alloc (.cells b s)).alloc (.cells #[] e)) (w.heap.size + 1) b s := by
  constructor
  · exact TBox.below (W := w.alloc (.cells a t)) (heap_alloc_new w _) (((Below.refl _ _).alloc (Nat.le_refl _) _).alloc (by simp) _)
  · have := TBox.below (W := (w.alloc (.cells a t)).alloc (.cells b s)) (heap_alloc_new (w.alloc (.cells a t)) _) ((Below.refl _ _).alloc (Nat.le_refl _) (.cells #[] e))
    simp only [World.size_alloc] at this
    exact this
theorem own_set {w : World} {base e s n : Nat} {v : Value} {xs : List Value} (h : w.ownsRow base e s v n xs) {b o : Nat} (hb : b < base) (u : Value) : (w.setCell ⟨b, o, none⟩ u).ownsRow base e s v n xs := by
  obtain ⟨q, ⟨q1, q2⟩ | ⟨g, c, cur, rfl, hg, hh, r⟩⟩ := h
  · exact ⟨q, Or.inl ⟨q1, q2⟩⟩
  · exact ⟨q, Or.inr ⟨g, c, cur, rfl, hg, by rw [Below.heap_setCell _ _ _ _ (by show g ≠ b; omega)]; exact hh, r⟩⟩
theorem own_base {w : World} {base b2 e s n : Nat} {v : Value} {xs : List Value} (h : w.ownsRow base e s v n xs) (hb : b2 ≤ base) : w.ownsRow b2 e s v n xs := by
  obtain ⟨q, ⟨q1, q2⟩ | ⟨g, c, cur, rfl, hg, hh, r⟩⟩ := h
  · exact ⟨q, Or.inl ⟨q1, q2⟩⟩
  · exact ⟨q, Or.inr ⟨g, c, cur, rfl, by omega, hh, r⟩⟩

set_option maxRecDepth 20000 in
set_option maxHeartbeats 4000000 in
theorem anew_any (x : Opn) (ta : Option Addr) (tn tc : Nat) (w : World) (h : IRw w (.slice ta tn tc) x.team) (hn : x.team.length ≤ 1048576) (hpos : 1 ≤ x.team.length) :
    Calls Try.prog 49 #[aO x (.slice ta tn tc)] w fun e w' => ∃ ad c, e = .returned (aO x (.slice ad x.team.length c)) ∧ w'.ownsRow w.heap.size 2 1 (.slice ad x.team.length c) x.team.length (x.team.map fun z => Value.int .i64 z) ∧ Below w.heap.size w w' := by
  obtain rfl := h.len
  have HH := hidden h
  obtain ⟨y, hy⟩ := some_of x.team 0 (by omega)
  obtain ⟨g, off, rfl, hg, hc⟩ := h.at hy
  obtain ⟨i0, hi0, hz0, hz1, hz2⟩ := info_partsO infoI64
  clear h hy
  unfold aO
  have hA : Below w.heap.size w (((w.alloc (.cells #[.int .i64 x.room, .int .i64 x.fr, .int .i64 x.to, .slice (some ⟨g, off, none⟩) x.team.length tc] 31)).alloc (.cells #[.int .i64 0, .int .i64 0, .int .i64 0, .slice none 0 0] 31)).alloc (.cells #[] 2)) := by repeat (first | exact Below.refl _ _ | assumption | refine st_drew ?_ | refine st_drewN ?_ _ | refine Below.setCell ?_ (by first | omega | (simp; done) | (simp; omega)) _ | refine Below.alloc ?_ (by first | omega | (simp; done) | (simp; omega)) _)
  have tb := two_boxes w #[.int .i64 x.room, .int .i64 x.fr, .int .i64 x.to, .slice (some ⟨g, off, none⟩) x.team.length tc] #[.int .i64 0, .int .i64 0, .int .i64 0, .slice none 0 0] 31 31 2
  have hown := ownO_new ((w.alloc (.cells #[.int .i64 x.room, .int .i64 x.fr, .int .i64 x.to, .slice (some ⟨g, off, none⟩) x.team.length tc] 31)).alloc (.cells #[.int .i64 0, .int .i64 0, .int .i64 0, .slice none 0 0] 31)) 2 1
  have hz3 : (((w.alloc (.cells #[.int .i64 x.room, .int .i64 x.fr, .int .i64 x.to, .slice (some ⟨g, off, none⟩) x.team.length tc] 31)).alloc (.cells #[.int .i64 0, .int .i64 0, .int .i64 0, .slice none 0 0] 31)).alloc (.cells #[] 2)).heap.size = w.heap.size + 1 + 1 + 1 := by simp
  simp only [World.size_alloc] at hown
  generalize hW3 : (((w.alloc (.cells #[.int .i64 x.room, .int .i64 x.fr, .int .i64 x.to, .slice (some ⟨g, off, none⟩) x.team.length tc] 31)).alloc (.cells #[.int .i64 0, .int .i64 0, .int .i64 0, .slice none 0 0] 31)).alloc (.cells #[] 2)) = W3 at *
  have HZ := hidden hz3
  have HB := hidden tb
  have HO := hidden hown
  have HA := hidden hA
  have hsrc := hidden (fun (j : Nat) (u : Value) (hu : (x.team.map fun z => Value.int .i64 z)[j]? = some u) => (show W3.cell? ((⟨g, off, none⟩ : Addr).add j) = some u by
    rw [List.getElem?_map] at hu
    obtain ⟨z, hz, rfl⟩ := Option.map_eq_some_iff.1 hu
    rw [Addr.add_lit]
    exact (hA.cell (p := ⟨g, off + j, none⟩) hg).trans (hc j z hz)))
  obtain ⟨⟨-, -, -, r3⟩, -⟩ := tb.1.four
  clear hc hz3 tb hown hA
  go_enter Try.func49, Try.ntmps49
  go_wp2_with (at_builtin; refine wpList_append_own _ rfl (.tmp 3) (.tmp 5) 29 rfl (w.heap.size + 1 + 1) 2 i0 (.int .i64 0) 1 8 Try.underlying29 hi0 hz0 hz1 hz2 rfl (by decide) _ 0 [] rfl HO.out ⟨g, off, none⟩ x.team.length tc (x.team.map fun z => Value.int .i64 z) rfl (by simp) hsrc.out (ints_one _) (by unfold maxLen; omega) (by omega) (by have := HZ.out; omega) ?_; intro v4 w4 ho4 hg4 hnn4; have hO4 := hidden ho4; obtain ⟨ad4, c4, rfl⟩ := ownO_slice ho4; have hne : ∀ k, (Value.slice (some ⟨w.heap.size + 1 + 1, 0, none⟩) 0 0).ownBlock = some k → k = w.heap.size + 1 + 1 := (fun k hk => (Option.some.inj hk).symm); have T1 := hidden (HB.out.1.grown hg4 (fun k hk => by have := hne k hk; omega)); have T2 := hidden (HB.out.2.grown hg4 (fun k hk => by have := hne k hk; omega)); have b4 := hidden (grown_belowO HA.out (by have := HZ.out; omega) hg4 (fun k hk => by have := hne k hk; omega)); obtain ⟨⟨p0, p1, p2, p3⟩, pf⟩ := T1.out.four; obtain ⟨⟨q0, q1, q2, q3⟩, qf⟩ := T2.out.four; clear ho4 hg4 hnn4 hne)
  have z4 := T2.out.lt
  have hT := (T2.out.far (b := w.heap.size) (by omega) 3 (.slice ad4 x.team.length c4)).put4 (.int .i64 x.room) (.int .i64 x.fr) (.int .i64 x.to) (.slice ad4 x.team.length c4)
  have hfin := own_base (own_set (own_set (own_set (own_set (own_set (b := w.heap.size) (o := 3) hO4.out (by omega) (.slice ad4 x.team.length c4)) (b := w.heap.size + 1) (o := 0) (by omega) (.int .i64 x.room)) (b := w.heap.size + 1) (o := 1) (by omega) (.int .i64 x.fr)) (b := w.heap.size + 1) (o := 2) (by omega) (.int .i64 x.to)) (b := w.heap.size + 1) (o := 3) (by omega) (.slice ad4 x.team.length c4)) (show w.heap.size ≤ w.heap.size + 1 + 1 by omega)
  simp only [Nat.zero_add, List.nil_append] at hfin
  have b5 := hidden (((((b4.out.setCell (p := ⟨w.heap.size, 3, none⟩) (Nat.le_refl _) (.slice ad4 x.team.length c4)).setCell (p := ⟨w.heap.size + 1, 0, none⟩) (by show w.heap.size ≤ w.heap.size + 1; omega) (.int .i64 x.room)).setCell (p := ⟨w.heap.size + 1, 1, none⟩) (by show w.heap.size ≤ w.heap.size + 1; omega) (.int .i64 x.fr)).setCell (p := ⟨w.heap.size + 1, 2, none⟩) (by show w.heap.size ≤ w.heap.size + 1; omega) (.int .i64 x.to)).setCell (p := ⟨w.heap.size + 1, 3, none⟩) (by show w.heap.size ≤ w.heap.size + 1; omega) (.slice ad4 x.team.length c4))
  exact bodyPost_ret (v := .agg #[.int .i64 x.room, .int .i64 x.fr, .int .i64 x.to, .slice ad4 x.team.length c4]) (results_cell_row Try.results49 _ _ (w.heap.size + 1) 31 _ (0, 0) _ rfl hT Try.underlying31 rfl (by kernel_rfl)) rfl ⟨_, _, rfl, hfin, b5.out⟩
end Go.Proofs.Ytcapmobhgffnhaa
