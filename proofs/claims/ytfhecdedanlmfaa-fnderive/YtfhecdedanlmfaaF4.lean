/-
  Laws that are drawn, in blocks of the call's own, beside a cursor; the law that is wrong on purpose.
-/
import Derived.Test.YtfhecdedanlmfaaF3
namespace Go.Proofs.Ytfhecdedanlmfaa
open Go.RowKit Va Rc
set_option linter.all false

abbrev Lp := Lw × Value × Value
theorem ownK_keep {base e s n g : Nat} {w w' : World} {v : Value} {xs : List Value} (h : w.ownsRow base e s v n xs) (hk : Keep g w w') (hg : g < base) : w'.ownsRow base e s v n xs := by
  obtain ⟨q, ⟨q1, q2⟩ | ⟨b, c, cur, rfl, hb, hh, r⟩⟩ := h
  · exact ⟨q, Or.inl ⟨q1, q2⟩⟩
  · exact ⟨q, Or.inr ⟨b, c, cur, rfl, hb, (hk.block b (Array.getElem?_eq_some_iff.1 hh).1 (by omega)).trans hh, r⟩⟩
def cells3 (p : Lp) : List Value := [p.2.1, p.2.2, .int .i64 p.1.thn]
def cellsLw (L : List Lp) : List Value := L.flatMap cells3
theorem cellsLw_app (L : List Lp) (p : Lp) : cellsLw (L ++ [p]) = cellsLw L ++ cells3 p := by simp [cellsLw]
theorem cellsLw_len (L : List Lp) : (cellsLw L).length = L.length * 3 := by
  induction L with
  | nil => rfl
  | cons p L ih => show (cells3 p ++ cellsLw L).length = _; rw [List.length_append, ih, List.length_cons]; simp [cells3]; omega
theorem cellsLw_get (L : List Lp) : ∀ i p k, L[i]? = some p → k < 3 → (cellsLw L)[i * 3 + k]? = (cells3 p)[k]? := by
  induction L with
  | nil => intro i p k h; cases h
  | cons q L ih =>
    intro i p k h hk
    show (cells3 q ++ cellsLw L)[i * 3 + k]? = _
    cases i with
    | zero =>
      simp at h
      subst h
      rw [List.getElem?_append_left (by simp [cells3]; omega), Nat.zero_mul, Nat.zero_add]
    | succ i =>
      rw [show (i + 1) * 3 + k = 3 + (i * 3 + k) by omega, List.getElem?_append_right (by simp [cells3])]
      have : (cells3 q).length = 3 := rfl
      rw [this, show 3 + (i * 3 + k) - 3 = i * 3 + k by omega]
      exact ih i p k (by simpa using h) hk
/-- A slice of numbers in a block of one's own. -/
def NOw (W : World) (b : Nat) (v : Value) (l : List Int) : Prop := W.ownsRow b 2 1 v l.length (l.map fun z => Value.int .i64 z) ∧ l.length ≤ 65
theorem NOw.keep {W W' : World} {b g : Nat} {v : Value} {l : List Int} (h : NOw W b v l) (hk : Keep g W W') (hg : g < b) : NOw W' b v l := ⟨ownK_keep h.1 hk hg, h.2⟩
theorem NOw.base {W : World} {b b' : Nat} {v : Value} {l : List Int} (h : NOw W b v l) (hb : b' ≤ b) : NOw W b' v l := ⟨ownW_base h.1 hb, h.2⟩
theorem NOw.none (W : World) (b : Nat) : NOw W b (.slice none 0 0) [] := ⟨⟨rfl, Or.inl ⟨rfl, rfl⟩⟩, by simp⟩
theorem NOw.form {W : World} {b : Nat} {v : Value} {l : List Int} (h : NOw W b v l) : ∃ ad c, v = .slice ad l.length c := ownW_slice h.1
/-- A law's facts. -/
def AOw (W : World) (b : Nat) (p : Lp) : Prop := NOw W b p.2.1 p.1.ifs ∧ NOw W b p.2.2 p.1.nots
theorem AOw.keep {W W' : World} {b g : Nat} {p : Lp} (h : AOw W b p) (hk : Keep g W W') (hg : g < b) : AOw W' b p := ⟨h.1.keep hk hg, h.2.keep hk hg⟩
theorem AOw.base {W : World} {b b' : Nat} {p : Lp} (h : AOw W b p) (hb : b' ≤ b) : AOw W b' p := ⟨h.1.base hb, h.2.base hb⟩
theorem AOw.grown {W W' : World} {b base n : Nat} {p : Lp} {v : Value} {xs : List Value} (h : AOw W b p) (ho : W.ownsRow base 31 3 v n xs) (hg : W.grownBy W' v.ownBlock) : AOw W' b p :=
  ⟨⟨ownQ_grown h.1.1 hg (fun k hk => ownQ_apart h.1.1 ho (by decide) k hk), h.1.2⟩, ⟨ownQ_grown h.2.1 hg (fun k hk => ownQ_apart h.2.1 ho (by decide) k hk), h.2.2⟩⟩
theorem oneCellS {W : World} {b : Nat} {v : Value} {l : List Int} (h : NOw W b v l) : v.oneCell' = true := by obtain ⟨ad, c, rfl⟩ := h.form; rfl
theorem AOw.one {W : World} {b : Nat} {p : Lp} (h : AOw W b p) : ∀ u ∈ cells3 p, u.oneCell' = true := by
  intro u hu
  simp only [cells3, List.mem_cons, List.not_mem_nil, or_false] at hu
  rcases hu with rfl | rfl | rfl
  · exact oneCellS h.1
  · exact oneCellS h.2
  · rfl
/-- Laws in a block of the call's own, the facts of each too, beside a cursor at g. -/
structure DL (w0 W : World) (g : Nat) (ao : Option Addr) (cap : Nat) (bs : List Int) (v : Value) (L : List Lp) : Prop where
  cur : Cur W g ao cap bs
  keep : Keep g w0 W
  own : W.ownsRow w0.heap.size 31 3 v L.length (cellsLw L)
  rows : ∀ p ∈ L, AOw W w0.heap.size p
  gg : g < w0.heap.size
section
variable {w0 W W' : World} {g cap : Nat} {ao : Option Addr} {bs : List Int} {v : Value} {L : List Lp}
theorem DL.call (h : DL w0 W g ao cap bs v L) (hc : Cur W' g ao cap bs) (hk : Keep g W W') : DL w0 W' g ao cap bs v L :=
  ⟨hc, h.keep.trans hk, ownK_keep h.own hk h.gg, fun p hp => (h.rows p hp).keep hk h.gg, h.gg⟩
theorem DL.alloc (h : DL w0 W g ao cap bs v L) (o : Obj) : DL w0 (W.alloc o) g ao cap bs v L := h.call (h.cur.alloc o) ((Keep.refl g W).alloc o)
theorem DL.drewN (h : DL w0 W g ao cap bs v L) (n : Nat) : DL w0 (W.drewN n) g ao cap bs v L := h.call (h.cur.drewN n) ((Keep.refl g W).drewN n)
theorem DL.form (h : DL w0 W g ao cap bs v L) : ∃ ad c, v = .slice ad L.length c := ownW_slice h.own
theorem DL.row (h : DL w0 W g ao cap bs v L) : LRw W v (L.map Prod.fst) := by
  have ht := h.rows
  obtain ⟨_, ⟨rfl, h2⟩ | ⟨g, cap, cur, rfl, hb, hg, hc, hm, hs, hx⟩⟩ := h.own
  · exact ⟨none, 0, by rw [List.length_map, h2], by rw [List.length_map]; omega, Or.inl (by rw [List.length_map]; exact h2)⟩
  · refine ⟨_, cap, by rw [List.length_map], by rw [List.length_map]; exact hc, Or.inr ⟨g, 0, rfl, (Array.getElem?_eq_some_iff.1 hg).1, fun i x hix => ?_⟩⟩
    rw [List.getElem?_map] at hix
    obtain ⟨p, hp, rfl⟩ := Option.map_eq_some_iff.1 hix
    have hi := get_lt' hp
    have hcell : ∀ k, k < 3 → W.cell? ⟨g, 0 + i * 3 + k, none⟩ = (cells3 p)[k]? := fun k hk => by
      rw [← cellsLw_get L i p k hp hk, ← hx, List.getElem?_take, if_pos (by omega), Array.getElem?_toList, Nat.zero_add]
      simp only [World.cell?, hg]
      rfl
    have hr := ht p (List.mem_of_getElem? hp)
    exact ⟨p.2.1, p.2.2, ⟨hcell 0 (by omega), hcell 1 (by omega), hcell 2 (by omega)⟩, ownQ_irw hr.1.1, ownQ_irw hr.2.1⟩
theorem DL.start (hc : Cur w0 g ao cap bs) : DL w0 (w0.alloc (.cells #[] 31)) g ao cap bs (.slice (some ⟨w0.heap.size, 0, none⟩) 0 0) [] :=
  ⟨hc.alloc _, (Keep.refl _ _).alloc _, ownW_new w0 31 3, (fun p hp => by cases hp), hc.1⟩
/-- One more is put behind. -/
theorem DL.app {v' : Value} {p : Lp} (h : DL w0 W g ao cap bs v L) (ho : W'.ownsRow w0.heap.size 31 3 v' (L.length + 1) (cellsLw L ++ cells3 p)) (hg : W.grownBy W' v.ownBlock) (hp : AOw W w0.heap.size p) : DL w0 W' g ao cap bs v' (L ++ [p]) := by
  have hv := fun k (hk : v.ownBlock = some k) => (ownW_lt h.own k hk).1
  have hgg := h.gg
  have hb : Below w0.heap.size W W' := (Below.refl _ _).grown hg h.keep.size hv
  refine ⟨h.cur.below (hb.mono hgg), ⟨hb.os.trans h.keep.os, hb.tape.trans h.keep.tape, hb.output.trans h.keep.output, Nat.le_trans h.keep.size hg.size, fun i hi hig => (hb.block i hi).trans (h.keep.block i hi hig)⟩, ?_, ?_, h.gg⟩
  · rw [List.length_append, cellsLw_app]; exact ho
  · intro q hq
    rcases List.mem_append.1 hq with hq | hq
    · exact (h.rows q hq).grown h.own hg
    · obtain rfl : q = p := by simpa using hq
      exact hp.grown h.own hg
theorem DL.made {v' : Value} {n : Nat} (h : DL w0 W g ao cap bs v L) (ho : W'.ownsRow w0.heap.size 31 3 v' n (cellsLw (List.replicate n (⟨[], [], 0⟩, .slice none 0 0, .slice none 0 0)))) (hg : W.grownBy W' none) : DL w0 W' g ao cap bs v' (List.replicate n (⟨[], [], 0⟩, .slice none 0 0, .slice none 0 0)) := by
  have hb : Below W.heap.size W W' := (Below.refl _ _).grown hg (Nat.le_refl _) (fun k hk => by cases hk)
  have hgg := h.gg
  have hs := h.keep.size
  refine ⟨h.cur.below (hb.mono (by omega)), ⟨hb.os.trans h.keep.os, hb.tape.trans h.keep.tape, hb.output.trans h.keep.output, Nat.le_trans hs hb.size, fun i hi hig => (hb.block i (by omega)).trans (h.keep.block i hi hig)⟩, by rw [List.length_replicate]; exact ho, fun p hp => ?_, h.gg⟩
  rw [List.eq_of_mem_replicate hp]
  exact ⟨NOw.none _ _, NOw.none _ _⟩
end
theorem made_laws (n : Nat) : (madeCells (Value.agg #[.slice none 0 0, .slice none 0 0, .int .i64 0]).cells (n * 3)).toList = cellsLw (List.replicate n (⟨[], [], 0⟩, .slice none 0 0, .slice none 0 0)) := by
  refine List.ext_getElem? fun j => ?_
  by_cases hj : j < n * 3
  · have e1 : (cellsLw (List.replicate n ((⟨[], [], 0⟩, .slice none 0 0, .slice none 0 0) : Lp)))[j / 3 * 3 + j % 3]? = _ := cellsLw_get _ (j / 3) (⟨[], [], 0⟩, .slice none 0 0, .slice none 0 0) (j % 3) (by rw [List.getElem?_replicate, if_pos (by omega)]) (by omega)
    rw [show j / 3 * 3 + j % 3 = j by omega] at e1
    rw [e1]
    have hz : (Value.agg #[.slice none 0 0, .slice none 0 0, .int .i64 0]).cells = #[.slice none 0 0, .slice none 0 0, .int .i64 0] := rfl
    rw [hz]
    simp only [madeCells, Array.toList_map, List.getElem?_map, Array.toList_range, List.getElem?_range hj, Option.map_some]
    have h3 : (#[Value.slice none 0 0, .slice none 0 0, .int .i64 0] : Array Value).size = 3 := rfl
    rw [h3]
    rcases (show j % 3 = 0 ∨ j % 3 = 1 ∨ j % 3 = 2 by omega) with e | e | e <;> rw [e] <;> rfl
  · rw [List.getElem?_eq_none (by simp [madeCells]; omega), List.getElem?_eq_none (by rw [cellsLw_len]; simp; omega)]
theorem infoL3 : (Try.prog.info? 31).map (fun i => (i.zero, i.size, i.bytes)) = some (some (.agg #[.slice none 0 0, .slice none 0 0, .int .i64 0]), 3, 56) := by kernel_rfl
end Go.Proofs.Ytfhecdedanlmfaa
