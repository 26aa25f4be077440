/-
  A list of operations that grows while it is drawn of a cursor.
-/
import Derived.Test.YtcapmobhgffnhaaPc
import Derived.Test.YtcapmobhgffnhaaPa
namespace Go.Proofs.Ytcapmobhgffnhaa
open Go.RowKit Va Oa
set_option linter.unusedVariables false

/-- The operations L at v, in a block of the call's own, their teams in blocks of their own, beside a cursor at g. -/
structure DL (w0 W : World) (g : Nat) (ao : Option Addr) (cap : Nat) (bs : List Int) (v : Value) (L : List (Opn × Value)) : Prop where
  cur : Cur W g ao cap bs
  keep : Keep g w0 W
  own : W.ownsRow w0.heap.size 31 4 v L.length (cellsO L)
  teams : ∀ p ∈ L, TOwn W w0.heap.size p
  small : ∀ p ∈ L, Small p.1
  gg : g < w0.heap.size
  nn : v ≠ .slice none 0 0
section
variable {w0 W W' : World} {g cap : Nat} {ao : Option Addr} {bs : List Int} {v : Value} {L : List (Opn × Value)}

theorem DL.call (h : DL w0 W g ao cap bs v L) (hc : Cur W' g ao cap bs) (hk : Keep g W W') : DL w0 W' g ao cap bs v L :=
  ⟨hc, h.keep.trans hk, own_keepP h.own hk h.gg, fun p hp => own_keepP (h.teams p hp) hk h.gg, h.small, h.gg, h.nn⟩
theorem DL.below (h : DL w0 W g ao cap bs v L) (hb : Below W.heap.size W W') : DL w0 W' g ao cap bs v L :=
  h.call (h.cur.below (hb.mono h.cur.1)) (Keep.of_below hb)
theorem DL.alloc (h : DL w0 W g ao cap bs v L) (o : Obj) : DL w0 (W.alloc o) g ao cap bs v L := h.below ((Below.refl _ _).alloc (Nat.le_refl _) o)
theorem DL.drewN (h : DL w0 W g ao cap bs v L) (n : Nat) : DL w0 (W.drewN n) g ao cap bs v L := ⟨h.cur, h.keep.drewN n, h.own, h.teams, h.small, h.gg, h.nn⟩
theorem DL.drew (h : DL w0 W g ao cap bs v L) : DL w0 W.drew g ao cap bs v L := h.drewN 1
theorem DL.form (h : DL w0 W g ao cap bs v L) : ∃ ad c, v = .slice ad L.length c := ownO_slice h.own
theorem DL.row (h : DL w0 W g ao cap bs v L) : ORw W v (L.map Prod.fst) := own_orw h.own fun p hp => own_irw (h.teams p hp)
theorem DL.tms (h : DL w0 W g ao cap bs v L) : ∀ y ∈ L.map Prod.fst, Tms y ∧ y.team.length ≤ 1048576 := by
  intro y hy
  obtain ⟨p, hp, rfl⟩ := List.mem_map.1 hy
  obtain ⟨h1, h2, h3, h4, h5⟩ := h.small p hp
  exact ⟨⟨by omega, by omega⟩, by omega⟩
/-- A store into a box that lies apart. -/
theorem DL.far (h : DL w0 W g ao cap bs v L) {V : Nat} {vs : Array Value} (hb : TBox W V vs 31) (hV : w0.heap.size ≤ V) (hne : ∀ k, v.ownBlock = some k → k ≠ V) (j : Nat) (u : Value) : DL w0 (W.setCell ⟨V, j, none⟩ u) g ao cap bs v L := by
  have a1 := h.gg
  have hb' : Below (g + 1) W (W.setCell ⟨V, j, none⟩ u) := (Below.refl _ W).setCell (p := ⟨V, j, none⟩) (show g + 1 ≤ V by omega) _
  refine ⟨h.cur.below hb', ⟨h.keep.os, h.keep.tape, h.keep.output, by have := h.keep.size; simpa [World.setCell] using this, fun b hb2 hbg => ?_⟩, own_far h.own hne u, fun p hp => own_far (h.teams p hp) (fun k hk => TBox.ne hb (h.teams p hp) (by decide) k hk) u, h.small, h.gg, h.nn⟩
  rw [Below.heap_setCell _ _ _ _ (by show b ≠ V; omega)]
  exact h.keep.block b hb2 hbg
/-- One more operation is put behind. -/
theorem DL.app {v' : Value} {p : Opn × Value} (h : DL w0 W g ao cap bs v L) (hp : TOwn W w0.heap.size p) (hs : Small p.1) (ho : W'.ownsRow w0.heap.size 31 4 v' (L.length + 1) (cellsO L ++ [.int .i64 p.1.room, .int .i64 p.1.fr, .int .i64 p.1.to, p.2])) (hg : W.grownBy W' v.ownBlock) (hn : v' = .slice none 0 0 ↔ v = .slice none 0 0 ∧ 1 = 0) : DL w0 W' g ao cap bs v' (L ++ [p]) := by
  have a1 := h.gg
  have hne : ∀ j, j < w0.heap.size → some j ≠ v.ownBlock := by
    intro j hj
    rcases h.own.2 with ⟨rfl, _⟩ | ⟨b, c, cur, rfl, h3, _⟩
    · simp [Value.ownBlock]
    · simp [Value.ownBlock]; omega
  have hsz := h.keep.size
  have ht : ∀ q, TOwn W w0.heap.size q → TOwn W' w0.heap.size q := fun q hq => own_grownO hq hg (fun k hk e => own_apart hq h.own (by decide) k hk k e rfl)
  refine ⟨h.cur.below ⟨hg.os, hg.tape, hg.output, hg.size, fun j hj => hg.block j (by omega) (hne j (by omega))⟩, ?_, ?_, ?_, ?_, h.gg, fun e => absurd (hn.1 e).2 (by omega)⟩
  · exact ⟨hg.os.trans h.keep.os, hg.tape.trans h.keep.tape, hg.output.trans h.keep.output, Nat.le_trans hsz hg.size, fun j hj hjg => (hg.block j (by omega) (hne j hj)).trans (h.keep.block j hj hjg)⟩
  · rw [cellsO_app, List.length_append]; exact ho
  · intro q hq
    rcases List.mem_append.1 hq with k | k
    · exact ht q (h.teams q k)
    · simp at k; subst k; exact ht q hp
  · intro q hq
    rcases List.mem_append.1 hq with k | k
    · exact h.small q k
    · simp at k; subst k; exact hs
theorem DL.anew (h : DL w0 W g ao cap bs v L) : DL w0 (W.alloc (.cells #[] 31)) g ao cap bs (.slice (some ⟨W.heap.size, 0, none⟩) 0 0) [] := by
  have k := h.alloc (.cells #[] 31)
  exact ⟨k.cur, k.keep, ⟨rfl, .inr ⟨W.heap.size, 0, #[], rfl, h.keep.size, heap_alloc_new W _, Nat.le_refl _, Nat.zero_le _, rfl, rfl⟩⟩, (fun p hp => by cases hp), (fun p hp => by cases hp), h.gg, by simp⟩
theorem DL.start (hc : Cur w0 g ao cap bs) : DL w0 (w0.alloc (.cells #[] 31)) g ao cap bs (.slice (some ⟨w0.heap.size, 0, none⟩) 0 0) [] :=
  ⟨hc.below ((Below.refl _ _).alloc hc.1 _), (Keep.refl g w0).alloc _, ⟨rfl, .inr ⟨w0.heap.size, 0, #[], rfl, Nat.le_refl _, heap_alloc_new w0 _, Nat.le_refl _, Nat.zero_le _, rfl, rfl⟩⟩, (fun p hp => by cases hp), (fun p hp => by cases hp), hc.1, by simp⟩
theorem DL.form7 (h : DL w0 W g ao cap bs v L) : ∃ b c, v = .slice (some ⟨b, 0, none⟩) L.length c := by
  rcases h.own.2 with ⟨h1, _⟩ | ⟨b, c, cur, h1, _⟩
  · exact absurd h1 h.nn
  · exact ⟨b, c, h1⟩
theorem DL.lt (h : DL w0 W g ao cap bs v L) : ∀ k, v.ownBlock = some k → k < W.heap.size := fun k hk => (ownO_lt h.own k hk).2
end
theorem one_team (W : World) (base : Nat) (i : Int) (hb : base ≤ W.heap.size) : (W.alloc (.cells #[.int .i64 i] 2)).ownsRow base 2 1 (.slice (some ⟨W.heap.size, 0, none⟩) 1 1) 1 [.int .i64 i] :=
  ⟨rfl, .inr ⟨W.heap.size, 1, #[.int .i64 i], rfl, hb, heap_alloc_new W _, Nat.le_refl _, by unfold maxLen; omega, rfl, rfl⟩⟩

set_option maxHeartbeats 1000000 in
theorem max_any (a b : Int) (w : World) : Calls Try.prog 34 #[.int .i64 a, .int .i64 b] w fun e w' => (∃ z : Int, e = .returned (.int .i64 z) ∧ a ≤ z ∧ b ≤ z ∧ (z = a ∨ z = b)) ∧ w = w' := by
  by_cases h : b < a
  · go_enter Try.func34, Try.ntmps34
    go_wp2
    go_ret
    exact ⟨⟨a, rfl, by omega, by omega, Or.inl rfl⟩, rfl⟩
  · go_enter Try.func34, Try.ntmps34
    go_wp2
    go_ret
    exact ⟨⟨b, rfl, by omega, by omega, Or.inr rfl⟩, rfl⟩

set_option maxRecDepth 20000 in
set_option maxHeartbeats 2000000 in
theorem drest_any (g : Nat) (ao : Option Addr) (cap : Nat) (bs : List Int) (w : World) (hc : Cur w g ao cap bs) :
    Calls Try.prog 32 #[.pointer (some ⟨g, 0, none⟩)] w fun e w' => ∃ r : Int, e = .returned (.int .i64 r) ∧ -1 ≤ r ∧ r ≤ 1441 ∧ Cur w' g ao cap bs ∧ Keep g w w' := by
  go_enter Try.func32, Try.ntmps32
  go_wp2_with fail
  refine (once_any g ao cap bs 16 _ hc (by omega)).mono ?_
  rintro e w1 ⟨t, rfl, hc1, hk1⟩
  rcases t with _ | _
  · go_wp2_with fail
    refine (below_any g ao cap bs 5 _ hc1 (by omega)).mono ?_
    rintro e w2 ⟨y, rfl, y0, y1, hc2, hk2⟩
    go_wp2_with fail
    go_ret
    exact ⟨_, rfl, by omega, by omega, hc2, hk1.trans hk2⟩
  · have hcT : Cur (w1.alloc (.cells #[.int .i64 (-1), .int .i64 1440, .int .i64 1441] 2)) g ao cap bs := hc1.below ((Below.refl _ _).alloc hc1.1 _)
    have hg1 := hc1.1
    go_wp2_with fail
    refine (below_any g ao cap bs 3 _ hcT (by omega)).mono ?_
    rintro e wC ⟨yC, rfl, hyA, hyB, hcC, hkC⟩
    have hzz : ∀ k : Nat, k < 3 → wC.cell? ⟨w1.heap.size, k, none⟩ = [Value.int .i64 (-1), .int .i64 1440, .int .i64 1441][k]? := fun k hk => by
      rw [hkC.cell (by simp) (by omega)]
      have e := heap_alloc_new w1 (.cells #[.int .i64 (-1), .int .i64 1440, .int .i64 1441] 2)
      simp only [World.cell?, e]
      simp
    have hkk := (hk1.alloc (.cells #[.int .i64 (-1), .int .i64 1440, .int .i64 1441] 2)).trans hkC
    clear hkC hcT hc1 hk1
    rcases (show yC = 0 ∨ yC = 1 ∨ yC = 2 by omega) with rfl | rfl | rfl
    · have c0 := hzz 0 (by omega)
      simp at c0
      clear hzz
      go_wp2_with fail
      go_ret
      exact ⟨_, rfl, by omega, by omega, hcC, hkk⟩
    · have c0 := hzz 1 (by omega)
      simp at c0
      clear hzz
      go_wp2_with fail
      go_ret
      exact ⟨_, rfl, by omega, by omega, hcC, hkk⟩
    · have c0 := hzz 2 (by omega)
      simp at c0
      clear hzz
      go_wp2_with fail
      go_ret
      exact ⟨_, rfl, by omega, by omega, hcC, hkk⟩
end Go.Proofs.Ytcapmobhgffnhaa
