/-
  JoinUndo, the specification's: the joins but one.
-/
import Derived.Test.YtdnnenklkfkhcalMj
import Derived.Test.YtdnnenklkfkhcalTp
namespace Go.Proofs.Ytdnnenklkfkhcal
open Go.RowKit Jn Go.Maps

def cellsJ (l : List J) : List Value := l.flatMap (fun j => [.int .i64 j.1, .int .i64 j.2])
theorem cellsJ_app (l : List J) (k g : Int) : cellsJ (l ++ [(k, g)]) = cellsJ l ++ [.int .i64 k, .int .i64 g] := by simp [cellsJ]
theorem cellsJ_get (l : List J) : ∀ i, i < l.length → (cellsJ l)[i * 2]? = some (.int .i64 (l.getD i (0, 0)).1) ∧ (cellsJ l)[i * 2 + 1]? = some (.int .i64 (l.getD i (0, 0)).2) := by
  induction l with
  | nil => intro i h; exact absurd h (by simp)
  | cons j l ih =>
    intro i h
    cases i with
    | zero => exact ⟨rfl, rfl⟩
    | succ i =>
      obtain ⟨h1, h2⟩ := ih i (by simpa using h)
      rw [List.getD_cons_succ, show (i + 1) * 2 = i * 2 + 2 by omega]
      exact ⟨h1, h2⟩
theorem own_of {w : World} {base : Nat} {v : Value} {l : List J} (h : w.ownsRow base 41 2 v l.length (cellsJ l)) : Own w base v l := by
  obtain ⟨h1, ⟨rfl, h2⟩ | ⟨g, cap, cur, rfl, hb, hg, hc, _, hs, ht⟩⟩ := h
  · exact ⟨none, 0, by rw [h2], Or.inl h2⟩
  · have hcell : ∀ j, j < 2 * l.length → w.cell? ⟨g, j, none⟩ = (cellsJ l)[j]? := fun j hj => by
      rw [← ht, List.getElem?_take, if_pos (by omega), Array.getElem?_toList]
      simp only [World.cell?, hg]
      rfl
    refine ⟨_, cap, rfl, Or.inr ⟨g, rfl, hb, (Array.getElem?_eq_some_iff.1 hg).1, fun j hj => ⟨?_, ?_⟩, fun j hj => ⟨?_, ?_⟩⟩⟩
    · rw [hcell j hj, List.getElem?_eq_getElem (by omega)]
      exact ⟨_, rfl⟩
    · simp only [World.frozen?, hg]
      simp
    · rw [hcell _ (by omega)]; exact (cellsJ_get l j hj).1
    · rw [hcell _ (by omega)]; exact (cellsJ_get l j hj).2
theorem own2_lt {w : World} {b e n : Nat} {v : Value} {xs : List Value} (h : w.ownsRow b e 2 v n xs) : ∀ k, v.ownBlock = some k → b ≤ k := by
  obtain ⟨_, ⟨rfl, _⟩ | ⟨g, cap, cur, rfl, hb, _⟩⟩ := h
  · intro k hk; cases hk
  · intro k hk; cases hk; exact hb
theorem own_slice {w : World} {b e s n : Nat} {v : Value} {xs : List Value} (h : w.ownsRow b e s v n xs) : ∃ ad c, v = .slice ad n c := by
  obtain ⟨_, ⟨rfl, rfl⟩ | ⟨g, cap, cur, rfl, _⟩⟩ := h
  · exact ⟨_, _, rfl⟩
  · exact ⟨_, _, rfl⟩
theorem cell_two_new (w : World) (a b : Value) (t : TypeId) : ∀ (j : Nat) (u : Value), [a, b][j]? = some u → (w.alloc (.cells #[a, b] t)).cell? ((⟨w.heap.size, 0, none⟩ : Addr).add j) = some u := fun j u hu => by
  have e := heap_alloc_new w (Obj.cells #[a, b] t)
  match j, hu with
  | 0, hu =>
    show (w.alloc (.cells #[a, b] t)).cell? ⟨w.heap.size, 0, none⟩ = some u
    simp only [World.cell?, e]
    exact hu
  | 1, hu =>
    show (w.alloc (.cells #[a, b] t)).cell? ⟨w.heap.size, 1, none⟩ = some u
    simp only [World.cell?, e]
    exact hu
  | n + 2, hu => cases hu
theorem two_one (a b : Int) : ∀ u ∈ [Value.int .i64 a, Value.int .i64 b], u.oneCell' = true := by
  intro u hu
  simp only [List.mem_cons, List.not_mem_nil, or_false] at hu
  rcases hu with rfl | rfl <;> rfl

/-- What JoinUndo answers. -/
noncomputable def undoL (l : List J) (g : Int) : List J := if okB l then l.filter (fun j => !decide (j.2 = g)) else []
noncomputable def undoC (l : List J) (g : Int) : Int := if okB l then (if isG l g then 0 else 5) else 1
theorem filter_take (l : List J) (g : Int) (i : Nat) (h : i < l.length) :
    (l.take (i + 1)).filter (fun j => !decide (j.2 = g)) = if (l.getD i (0, 0)).2 = g then (l.take i).filter (fun j => !decide (j.2 = g)) else (l.take i).filter (fun j => !decide (j.2 = g)) ++ [((l.getD i (0, 0)).1, (l.getD i (0, 0)).2)] := by
  rw [take_succ l i h, List.filter_append]
  generalize l.getD i (0, 0) = q
  by_cases e : q.2 = g
  · rw [if_pos e]; simp [e]
  · rw [if_neg e]; simp [e]
theorem filter_all (l : List J) (g : Int) (h : isG l g = false) : l.filter (fun j => !decide (j.2 = g)) = l := by
  rw [List.filter_eq_self]
  intro j hj
  have : ¬ j.2 = g := fun e => by
    have : isG l g = true := by rw [← mem_isG]; exact List.mem_map.2 ⟨j, hj, e⟩
    rw [h] at this; cases this
  simp [this]
theorem filter_less (l : List J) (g : Int) (h : isG l g = true) : (l.filter (fun j => !decide (j.2 = g))).length < l.length := by
  rw [← mem_isG] at h
  obtain ⟨j, hj, e⟩ := List.mem_map.1 h
  exact List.length_filter_lt_length_iff_exists.2 ⟨j, hj, by simp [e]⟩

theorem info41 : (Try.prog.info? 41).map (fun i => (i.zero, i.size, i.bytes)) = some (some (.agg #[.int .i64 0, .int .i64 0]), 2, 16) := by kernel_rfl
theorem ownsRow_empty (w : World) : (w.alloc (.cells #[] 41)).ownsRow w.heap.size 41 2 (.slice (some ⟨w.heap.size, 0, none⟩) 0 0) 0 [] :=
  ⟨rfl, Or.inr ⟨w.heap.size, 0, #[], rfl, Nat.le_refl _, heap_alloc_new _ _, Nat.le_refl _, Nat.zero_le _, rfl, rfl⟩⟩

set_option maxRecDepth 20000 in
set_option maxHeartbeats 2000000 in
theorem sundo_any (v : Value) (l : List J) (g : Int) (w : World) (h : JRow w v l) :
    Calls Try.prog 16 #[v, .int .i64 g] w fun e w' => ∃ v', e = .returned (.tuple #[v', .int .i64 (undoC l g)]) ∧ JRow w' v' (undoL l g) ∧ Below w.heap.size w w' := by
  have hS := sok_any v l w h
  rcases Classical.em (Ok l) with hyes | hno
  · rw [okB_true hyes] at hS
    have HC : Hid (undoC l g = if isG l g then 0 else 5) := by unfold undoC; rw [Hid, okB_true hyes]; rfl
    have HL : Hid (undoL l g = l.filter (fun j => !decide (j.2 = g))) := by unfold undoL; rw [Hid, okB_true hyes]; rfl
    have hll := hyes.1
    clear hyes
    obtain ⟨i0, hi, hz0, hz1, hz2⟩ := info_parts info41
    have HJ := hidden h
    obtain ⟨ao, cap, rfl, hrow⟩ := h
    clear hrow
    go_enter Try.func16, Try.ntmps16
    go_wp2_with fail
    refine hS.mono ?_
    rintro e w1 ⟨rfl, b1⟩
    have HJ1 := hidden (HJ.out.below b1)
    clear HJ hS
    go_wp2_with fail
    have ho1 := ownsRow_empty w1
    go_loopw [6, 7] (fun ov iv wr => ∃ (i : Nat) (fl : List J), i ≤ l.length ∧ iv = .int .i64 i ∧ fl.length ≤ i ∧ (∃ ad c0, ov = .slice ad fl.length c0 ∧ wr.ownsRow w1.heap.size 41 2 (.slice ad fl.length c0) fl.length (cellsJ fl)) ∧ Below w1.heap.size w1 wr ∧ Hid (fl = (l.take i).filter (fun j => !decide (j.2 = g)))) (fun _ iv _ => l.length - (intOf iv).toNat)
    case atStart => exact ⟨0, [], Nat.zero_le _, rfl, Nat.le_refl _, ⟨_, _, rfl, ho1⟩, (Below.refl w1.heap.size w1).alloc (Nat.le_refl _) _, rfl⟩
    case round =>
      clear ho1
      obtain ⟨i, fl, hil, rfl, hfl, ⟨ad, c0, rfl, ho⟩, hb, HF⟩ := hrel
      by_cases hlt : i < l.length
      · have hlti : (i : Int) < (l.length : Int) := by omega
        obtain ⟨ao', cap', hv', hrow⟩ := HJ1.out
        obtain ⟨rfl, rfl⟩ : ao = ao' ∧ cap = cap' := by simpa using hv'
        rcases hrow with h0 | ⟨b, off, rfl, hbw, hcells⟩
        · omega
        obtain ⟨hc1, hc2⟩ := hcells i hlt
        have hc1' := (hb.cell (p := ⟨b, off + i * 2, none⟩) hbw).trans hc1
        have hc2' := (hb.cell (p := ⟨b, off + i * 2 + 1, none⟩) hbw).trans hc2
        have HT := hidden (filter_take l g i hlt)
        clear hc1 hc2 hcells hv'
        by_cases hg : (l.getD i (0, 0)).2 = g
        · have HN : Hid (fl = (l.take (i + 1)).filter (fun j => !decide (j.2 = g))) := by rw [Hid, HT.out, if_pos hg]; exact HF.out
          rw [hg] at hc2'
          clear hg HT HF
          generalize (l.getD i (0, 0)).1 = k at *
          go_wp2_with fail
          go_roundw
          case rel => exact ⟨i + 1, fl, by omega, rfl, by omega, ⟨_, _, rfl, ho⟩, hb, HN⟩
          case measure => simp [intOf]; omega
        · have HN : Hid (fl ++ [((l.getD i (0, 0)).1, (l.getD i (0, 0)).2)] = (l.take (i + 1)).filter (fun j => !decide (j.2 = g))) := by rw [Hid, HT.out, if_neg hg, HF.out]
          have hg2 : ((l.getD i (0, 0)).2 == g) = false := by simpa using hg
          clear HT HF
          generalize (l.getD i (0, 0)).1 = k at *
          generalize (l.getD i (0, 0)).2 = z at *
          go_wp2_with (at_builtin; refine wpList_append_own _ rfl (.tmp 26) (.tmp 31) 25 rfl w1.heap.size 41 i0 (.agg #[.int .i64 0, .int .i64 0]) 2 16 Try.underlying25 hi hz0 hz1 hz2 rfl (by decide) _ fl.length (cellsJ fl) rfl (ho.alloc _) ⟨wr.heap.size, 0, none⟩ 1 1 [.int .i64 k, .int .i64 z] rfl rfl (cell_two_new _ _ _ _) (two_one k z) (by unfold maxLen; omega) (by omega) (by have := hb.size; simp; omega) ?_; intro v2 w2 ho2 hgr hnn2)
          have hb2 := (hb.alloc hb.size _).grown hgr (by have := hb.size; simp; omega) (own2_lt ho)
          obtain ⟨ad2, c2, rfl⟩ := own_slice ho2
          go_wp2_with fail
          go_roundw
          case rel => exact ⟨i + 1, fl ++ [(k, z)], by omega, rfl, by simp; omega, ⟨ad2, c2, by rw [List.length_append]; rfl, by rw [cellsJ_app, List.length_append]; exact ho2⟩, hb2, HN⟩
          case measure => simp [intOf]; omega
      · have hlti : ¬ (i : Int) < (l.length : Int) := by omega
        have hil2 : i = l.length := by omega
        subst hil2
        rw [take_all] at HF
        have b2 := onto b1 hb
        have hO := (own_of ho).row
        have HO := hidden hO
        clear hO ho
        cases hg : isG l g with
        | false =>
          have hle : (fl.length : Int) = (l.length : Int) := by rw [HF.out, filter_all l g hg]
          have HC2 : Hid (undoC l g = 5) := by rw [Hid, HC.out, hg]; rfl
          go_wp2_with fail
          exact bodyPost_ret (v := .tuple #[.slice ad fl.length c0, .int .i64 5]) (by simp [results, Try.results16, go_sem]) rfl ⟨_, by rw [HC2.out], by rw [HL.out, ← HF.out]; exact HO.out, b2⟩
        | true =>
          have hle : ¬ (fl.length : Int) = (l.length : Int) := by
            have := filter_less l g hg
            rw [← HF.out] at this
            omega
          have HC2 : Hid (undoC l g = 0) := by rw [Hid, HC.out, hg]; rfl
          go_wp2_with fail
          exact bodyPost_ret (v := .tuple #[.slice ad fl.length c0, .int .i64 0]) (by simp [results, Try.results16, go_sem]) rfl ⟨_, by rw [HC2.out], by rw [HL.out, ← HF.out]; exact HO.out, b2⟩
  · rw [okB_false hno] at hS
    have HC : Hid (undoC l g = 1) := by unfold undoC; rw [Hid, okB_false hno]; rfl
    have HL : Hid (undoL l g = []) := by unfold undoL; rw [Hid, okB_false hno]; rfl
    clear hno h
    go_enter Try.func16, Try.ntmps16
    go_wp2_with fail
    refine hS.mono ?_
    rintro e w1 ⟨rfl, b1⟩
    go_wp2_with fail
    exact bodyPost_ret (v := .tuple #[.slice (some ⟨w1.heap.size, 0, none⟩) 0 0, .int .i64 1]) (by simp [results, Try.results16, go_sem]) rfl ⟨_, by rw [HC.out], by rw [HL.out]; exact ⟨_, 0, rfl, Or.inl rfl⟩, b1.alloc b1.size _⟩
end Go.Proofs.Ytdnnenklkfkhcal
