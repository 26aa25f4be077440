/-
  The roster, as the specification tells it.
-/
import Derived.Test.YtgcpiinmcbdkmaaRo9
namespace Go.Proofs.Ytgcpiinmcbdkmaa
open Go.RowKit Go.WideShapes Va Lb Sy Ro Go.Maps
set_option linter.all false

theorem blk_of {G n c k : Nat} (h : (Value.slice (some ⟨G, 0, none⟩) n c).ownBlock = some k) : k = G := by simpa [Value.ownBlock, eq_comm] using h
/-- Who works lies in block I, a bool each. -/
def BI (w : World) (I n : Nat) (c : List Int) : Prop := I < w.heap.size ∧ ∀ p, p < n → w.cell? ⟨I, p, none⟩ = some (.bool (decide ((p : Int) ∈ c))) ∧ w.frozen? ⟨I, p, none⟩ = false
theorem BI.below {w w' : World} {I n : Nat} {c : List Int} (h : BI w I n c) (hb : Below w.heap.size w w') : BI w' I n c :=
  ⟨Nat.lt_of_lt_of_le h.1 hb.size, fun p hp => ⟨((bcell hb).1 _ _ h.1).trans (h.2 p hp).1, ((bcell hb).2 _ _ h.1).trans (h.2 p hp).2⟩⟩
theorem BI.put {w : World} {I n q : Nat} {c : List Int} (h : BI w I n c) (hq : q < n) : BI (w.setCell ⟨I, q, none⟩ (.bool true)) I n (c ++ [(q : Int)]) := by
  obtain ⟨u, hu⟩ : ∃ u, w.cell? ⟨I, q, none⟩ = some u := ⟨_, (h.2 q hq).1⟩
  refine ⟨by simpa [World.setCell] using h.1, fun p hp => ⟨?_, ?_⟩⟩
  · by_cases e : q = p
    · subst e
      rw [World.cell?_setCell_same _ _ _ hu]; simp
    · rw [World.cell?_setCell_other _ _ _ _ (by simpa using e), (h.2 p hp).1]
      congr 2
      rw [decide_eq_decide, List.mem_append, List.mem_singleton]
      constructor
      · exact Or.inl
      · rintro (h | h)
        · exact h
        · omega
  · rw [World.frozen?_setCell]; exact (h.2 p hp).2
theorem BI.far {w : World} {I n B j : Nat} {c : List Int} (h : BI w I n c) (hB : B ≠ I) (u : Value) : BI (w.setCell ⟨B, j, none⟩ u) I n c :=
  ⟨by simpa [World.setCell] using h.1, fun p hp => ⟨by rw [World.cell?_setCell_other _ _ _ _ (by simp [hB])]; exact (h.2 p hp).1, by rw [World.frozen?_setCell]; exact (h.2 p hp).2⟩⟩
theorem BI.grown {w w' : World} {I n : Nat} {c : List Int} {row : Option Nat} (h : BI w I n c) (hg : w.grownBy w' row) (hne : ∀ k, row = some k → k ≠ I) : BI w' I n c := by
  have hb := hg.block I h.1 (fun e => hne I e.symm rfl)
  exact ⟨Nat.lt_of_lt_of_le h.1 hg.size, fun p hp => ⟨(World.cell?_of_block (a := ⟨I, p, none⟩) hb).trans (h.2 p hp).1, (World.frozen?_of_block (a := ⟨I, p, none⟩) hb).trans (h.2 p hp).2⟩⟩
theorem infoBool : (Try.prog.info? 4).map (fun i => (i.zero, i.size, i.bytes)) = some (some (.bool false), 1, 1) := by kernel_rfl
theorem BI.made {w : World} {b G n c : Nat} (h : w.ownsRow b 4 1 (.slice (some ⟨G, 0, none⟩) n c) n (madeCells (Value.bool false).cells (n * 1)).toList) : BI w G n [] := by
  rw [show (Value.bool false).cells = #[Value.bool false] from rfl, Nat.mul_one, toList_madeCells_one] at h
  obtain ⟨q, ⟨h1, _⟩ | ⟨g, cap, cur, h1, hb, hg, hc, hm, hs, ht⟩⟩ := h
  · cases h1
  · simp only [Value.slice.injEq, Option.some.injEq, Addr.mk.injEq, and_true, true_and] at h1
    obtain ⟨rfl, rfl⟩ := h1
    have hP : PB w G cur 4 := hg
    refine ⟨(Array.getElem?_eq_some_iff.1 hg).1, fun p hp => ⟨?_, hP.frozen p⟩⟩
    have hk : (List.replicate n (Value.bool false))[p]? = some (.bool false) := by rw [List.getElem?_replicate, if_pos hp]
    rw [← ht, List.getElem?_take, if_pos (by omega), Array.getElem?_toList] at hk
    rw [hP.cell, hk]; rfl
theorem made_intsR (n : Nat) : (madeCells (Value.int .i64 0).cells (n * 1)).toList = (List.replicate n (0 : Int)).map fun z => Value.int .i64 z := by
  rw [show (Value.int .i64 0).cells = #[Value.int .i64 0] from rfl, Nat.mul_one, toList_madeCells_one, List.map_replicate]
theorem SR.far {c : Nat} {w : World} {G B j : Nat} {l : List Int} (h : SR c w G l) (hB : B ≠ G) (u : Value) : SR c (w.setCell ⟨B, j, none⟩ u) G l :=
  own_otherR h (fun k hk => by rw [blk_of hk]; exact fun q => hB q.symm) u
theorem SR.grown {c : Nat} {w w' : World} {G : Nat} {l : List Int} {row : Option Nat} (h : SR c w G l) (hg : w.grownBy w' row) (hne : ∀ k, row = some k → k ≠ G) : SR c w' G l :=
  own_grownR h hg (fun k hk e => hne k e.symm (blk_of hk))

/-- What stands between the days: days worked, days in a row, the list. -/
structure RS (w0 w : World) (n G1 G2 Go L c : Nat) (ws : List Wk) (O : List Int) : Prop where
  wl : ws.length = n
  ol : O.length = L
  r1 : SR n w G1 (ws.map (·.1))
  r2 : SR n w G2 (ws.map (·.2))
  out : w.ownsRow w0.heap.size 2 1 (.slice (some ⟨Go, 0, none⟩) L c) L (O.map fun z => Value.int .i64 z)
  n1 : G1 ≠ G2 ∧ Go ≠ G1 ∧ Go ≠ G2
  lo : w0.heap.size ≤ G1 ∧ w0.heap.size ≤ G2
  bel : Below w0.heap.size w0 w
theorem RS.below {w0 w w' : World} {n G1 G2 Go L c : Nat} {ws : List Wk} {O : List Int} (h : RS w0 w n G1 G2 Go L c ws O) (hb : Below w.heap.size w w') : RS w0 w' n G1 G2 Go L c ws O :=
  ⟨h.wl, h.ol, h.r1.below hb, h.r2.below hb, ownW_below h.out hb, h.n1, h.lo, h.bel.trans (hb.mono h.bel.size)⟩
theorem RS.grown {w0 w w' : World} {n G1 G2 Go L c : Nat} {ws : List Wk} {O : List Int} (h : RS w0 w n G1 G2 Go L c ws O) (hg : w.grownBy w' none) : RS w0 w' n G1 G2 Go L c ws O :=
  ⟨h.wl, h.ol, h.r1.grown hg (fun k hk => by cases hk), h.r2.grown hg (fun k hk => by cases hk), own_grownR h.out hg (fun k _ e => by cases e), h.n1, h.lo, h.bel.grown hg h.bel.size (fun k hk => by cases hk)⟩
theorem RS.goLo {w0 w : World} {n G1 G2 Go L c : Nat} {ws : List Wk} {O : List Int} (h : RS w0 w n G1 G2 Go L c ws O) : w0.heap.size ≤ Go ∧ Go < w.heap.size ∧ G1 < w.heap.size ∧ G2 < w.heap.size :=
  ⟨(own_blkR h.out).1, (own_blkR h.out).2, h.r1.lt, h.r2.lt⟩
theorem RS.far {w0 w : World} {n G1 G2 Go L c B j : Nat} {ws : List Wk} {O : List Int} (h : RS w0 w n G1 G2 Go L c ws O) (h1 : B ≠ G1) (h2 : B ≠ G2) (h3 : B ≠ Go) (h4 : w0.heap.size ≤ B) (u : Value) : RS w0 (w.setCell ⟨B, j, none⟩ u) n G1 G2 Go L c ws O :=
  ⟨h.wl, h.ol, h.r1.far h1 u, h.r2.far h2 u, own_otherR h.out (fun k hk => by rw [blk_of hk]; exact fun q => h3 q.symm) u, h.n1, h.lo, h.bel.setCell (p := ⟨B, j, none⟩) h4 u⟩
theorem RS.cells {w0 w : World} {n G1 G2 Go L c p : Nat} {ws : List Wk} {O : List Int} (h : RS w0 w n G1 G2 Go L c ws O) (hp : p < n) : w.cell? ⟨G1, p, none⟩ = some (.int .i64 (ws.getD p (0, 0)).1) ∧ w.cell? ⟨G2, p, none⟩ = some (.int .i64 (ws.getD p (0, 0)).2) ∧ w.frozen? ⟨G1, p, none⟩ = false ∧ w.frozen? ⟨G2, p, none⟩ = false := by
  have hpl : p < ws.length := by rw [h.wl]; exact hp
  have e1 : (ws.map (·.1))[p]? = some (ws.getD p (0, 0)).1 := by rw [List.getElem?_map, List.getD_eq_getElem?_getD, List.getElem?_eq_getElem hpl]; rfl
  have e2 : (ws.map (·.2))[p]? = some (ws.getD p (0, 0)).2 := by rw [List.getElem?_map, List.getD_eq_getElem?_getD, List.getElem?_eq_getElem hpl]; rfl
  exact ⟨(h.r1.get p _ e1).1, (h.r2.get p _ e2).1, (h.r1.get p _ e1).2, (h.r2.get p _ e2).2⟩
/-- A number is put behind the list. -/
theorem RS.app {w0 w w1 w' : World} {n G1 G2 Go L c : Nat} {ws : List Wk} {O : List Int} {z : Int} {v' : Value} (h : RS w0 w n G1 G2 Go L c ws O) (hb : Below w.heap.size w w1)
    (ho : w'.ownsRow w0.heap.size 2 1 v' (L + 1) (O.map (fun z => Value.int .i64 z) ++ [.int .i64 z])) (hg : w1.grownBy w' (Value.slice (some ⟨Go, 0, none⟩) L c).ownBlock) (hl : v'.ownBlock = (Value.slice (some ⟨Go, 0, none⟩) L c).ownBlock ∨ v'.ownBlock = some w1.heap.size) :
    ∃ Go' c', v' = .slice (some ⟨Go', 0, none⟩) (L + 1) c' ∧ (Go' = Go ∨ Go' = w1.heap.size) ∧ RS w0 w' n G1 G2 Go' (L + 1) c' ws (O ++ [z]) := by
  have h1 := h.below hb
  obtain ⟨ad, c', rfl⟩ := ownW_slice ho
  obtain ⟨Go', rfl, hGo⟩ := own_someR ho (Nat.succ_pos _)
  obtain ⟨q1, q2, q3, q4⟩ := h1.goLo
  have hor : Go' = Go ∨ Go' = w1.heap.size := by
    rcases hl with q | q
    · exact Or.inl (by simpa [Value.ownBlock] using q)
    · exact Or.inr (by simpa [Value.ownBlock] using q)
  have hr : ∀ k, (Value.slice (some ⟨Go, 0, none⟩) L c).ownBlock = some k → k = Go := fun k hk => by simpa [Value.ownBlock, eq_comm] using hk
  obtain ⟨m1, m2, m3⟩ := h.n1
  refine ⟨Go', c', rfl, hor, h.wl, by simp [h.ol], h1.r1.grown hg (fun k hk => by rw [hr k hk]; exact m2), h1.r2.grown hg (fun k hk => by rw [hr k hk]; exact m3), by rw [List.map_append]; exact ho, ⟨m1, ?_, ?_⟩, h.lo, h1.bel.grown hg h1.bel.size (fun k hk => by rw [hr k hk]; exact q1)⟩
  · rcases hor with q | q <;> omega
  · rcases hor with q | q <;> omega
theorem fst_next {ws : List Wk} {c : List Int} {p : Nat} (h : p < ws.length) : (nextTo ws c (p + 1)).map (·.1) = ((nextTo ws c p).map (·.1)).set p (behind (ws.getD p (0, 0)) (decide ((p : Int) ∈ c))).1 := by rw [nextTo_succ h, List.map_set]
theorem snd_next {ws : List Wk} {c : List Int} {p : Nat} (h : p < ws.length) : (nextTo ws c (p + 1)).map (·.2) = ((nextTo ws c p).map (·.2)).set p (behind (ws.getD p (0, 0)) (decide ((p : Int) ∈ c))).2 := by rw [nextTo_succ h, List.map_set]
theorem fst_same {ws : List Wk} {c : List Int} {p : Nat} (h : p < ws.length) (hn : decide ((p : Int) ∈ c) = false) : (nextTo ws c (p + 1)).map (·.1) = (nextTo ws c p).map (·.1) := by
  rw [fst_next h, hn]
  have e : ((nextTo ws c p).map (·.1))[p]? = some (ws.getD p (0, 0)).1 := by
    rw [List.getElem?_map, nextTo_get h, if_neg (Nat.lt_irrefl _)]; rfl
  apply List.ext_getElem?
  intro i
  rw [List.getElem?_set]
  split
  · rename_i q
    subst q
    rw [if_pos (by rw [List.length_map, nextTo_len]; exact h), e]; rfl
  · rfl
end Go.Proofs.Ytgcpiinmcbdkmaa
