/-
  Rows of joins; the program's book of them.
-/
import Derived.Test.YtdnnenklkfkhcaaBk
import Derived.Test.YtdnnenklkfkhcaaJm
import Derived.Deep.DeepCutAuto
namespace Go.Proofs.Ytdnnenklkfkhcaa
open Go.RowKit Jn Go.Maps

theorem hidden {p : Prop} (h : p) : Hid p := h
/-- The joins l lie at the slice v. -/
def JRow (w : World) (v : Value) (l : List J) : Prop :=
  ∃ ao cap, v = .slice ao l.length cap ∧ (l.length = 0 ∨ ∃ b off, ao = some ⟨b, off, none⟩ ∧ b < w.heap.size ∧ ∀ i, i < l.length → w.cell? ⟨b, off + i * 2, none⟩ = some (.int .i64 (l.getD i (0, 0)).1) ∧ w.cell? ⟨b, off + i * 2 + 1, none⟩ = some (.int .i64 (l.getD i (0, 0)).2))
theorem JRow.below {w w' : World} {v : Value} {l : List J} (h : JRow w v l) (hb : Below w.heap.size w w') : JRow w' v l := by
  obtain ⟨ao, cap, rfl, h2⟩ := h
  refine ⟨ao, cap, rfl, ?_⟩
  rcases h2 with h2 | ⟨b, off, h3, h4, h5⟩
  · exact Or.inl h2
  · exact Or.inr ⟨b, off, h3, Nat.lt_of_lt_of_le h4 hb.size, fun i hi => ⟨(hb.cell (p := ⟨b, off + i * 2, none⟩) h4).trans (h5 i hi).1, (hb.cell (p := ⟨b, off + i * 2 + 1, none⟩) h4).trans (h5 i hi).2⟩⟩

theorem mk_hint (n : Int) (w : World) : (Instr.makeMap 85 (some (.int .i64 n))).run Try.prog w = .ok (.map (some w.heap.size)) (w.alloc (.map #[] 0)) := by
  simp [Instr.makeMap, run_underlying Try.underlying85, asInt]
  rfl

set_option maxHeartbeats 2000000 in
theorem bookof_any (v : Value) (l : List J) (w : World) (h : JRow w v l) :
    Calls Try.prog 57 #[v] w fun e w' => Below w.heap.size w w' ∧ ((¬ Ok l ∧ e = .returned (.tuple #[.map none, .bool false])) ∨ (Ok l ∧ ∃ B, w.heap.size ≤ B ∧ e = .returned (.tuple #[.map (some B), .bool true]) ∧ Bk w' B l.length (says l))) := by
  obtain ⟨ao, cap, rfl, hrow⟩ := h
  have hmm := mk_hint l.length w
  by_cases h200 : (200 : Int) < (l.length : Int)
  · have hno : Hid (¬ Ok l) := fun q => by have := q.1; omega
    clear hrow
    go_enter Try.func57, Try.ntmps57
    go_wp2_with fail
    exact bodyPost_ret (v := .tuple #[.map none, .bool false]) (by simp [results, Try.results57, go_sem]) rfl ⟨Below.refl _ _, Or.inl ⟨hno.out, rfl⟩⟩
  go_enter Try.func57, Try.ntmps57
  go_wp2_with fail
  go_loopw [15] (fun iv wr => ∃ i : Nat, i ≤ l.length ∧ iv = .int .i64 i ∧ Below w.heap.size w wr ∧ Bk wr w.heap.size i (says (l.take i)) ∧ Hid (okTo l i)) (fun iv _ => l.length - (intOf iv).toNat)
  case atStart => exact ⟨0, Nat.zero_le _, rfl, (Below.refl _ _).alloc (Nat.le_refl _) _, Bk.made w, fun i hi => absurd hi (by omega)⟩
  case round =>
    obtain ⟨i, hi, rfl, hb, hbk, hok⟩ := hrel
    clear hmm
    by_cases hlt : i < l.length
    · have hlti : (i : Int) < (l.length : Int) := by omega
      rcases hrow with h0 | ⟨b, off, rfl, hbw, hcells⟩
      · omega
      obtain ⟨hc1, hc2⟩ := hcells i hlt
      have hc1' := (hb.cell (p := ⟨b, off + i * 2, none⟩) hbw).trans hc1
      have hc2' := (hb.cell (p := ⟨b, off + i * 2 + 1, none⟩) hbw).trans hc2
      clear hc1 hc2
      obtain ⟨k, g, hkg⟩ : ∃ k g, l.getD i (0, 0) = (k, g) := ⟨_, _, rfl⟩
      rw [hkg] at hc1' hc2'
      have hgd : good l i = (may k g && !isG (l.take i) k && !isG (l.take i) g) := by unfold good; rw [hkg]
      have hMA := may_any k g
      clear hcells
      cases hm : may k g with
      | false =>
        have hno : Hid (¬ Ok l) := not_ok i hlt (by rw [hgd, hm]; rfl)
        rw [hm] at hMA
        go_wp2_with fail
        refine (hMA _).mono ?_
        rintro e w1 ⟨rfl, hw1⟩
        have hw2 := hw1.symm
        clear hw1
        subst hw2
        go_wp2_with fail
        exact bodyPost_ret (v := .tuple #[.map none, .bool false]) (by simp [results, Try.results57, go_sem]) rfl ⟨hb.alloc hb.size _, Or.inl ⟨hno.out, rfl⟩⟩
      | true =>
        have hpk := pers_wf (may_pers hm).1
        have hpg := pers_wf (may_pers hm).2
        have hwk : wfI k := wfI_of (by omega) (by omega)
        have hwg : wfI g := wfI_of (by omega) (by omega)
        have hba : Below w.heap.size w (wr.alloc (.cells #[.int .i64 k, .int .i64 g] 50)) := hb.alloc hb.size _
        have hbka : Bk (wr.alloc (.cells #[.int .i64 k, .int .i64 g] 50)) w.heap.size i (says (l.take i)) := hbk.below ((Below.refl _ _).alloc (Nat.le_refl _) _)
        have hAG := anygone_any w.heap.size i (says (l.take i)) k g _ hbka hwk hwg
        rw [says_isSome, says_isSome] at hAG
        rw [hm] at hMA
        have hcell0 : ∀ W, Below (wr.alloc (.cells #[.int .i64 k, .int .i64 g] 50)).heap.size (wr.alloc (.cells #[.int .i64 k, .int .i64 g] 50)) W → W.cell? ⟨wr.heap.size, 0, none⟩ = some (.int .i64 k) ∧ W.cell? ⟨wr.heap.size, 1, none⟩ = some (.int .i64 g) := fun W hW => by
          have e := heap_alloc_new wr (Obj.cells #[.int .i64 k, .int .i64 g] 50)
          have e2 := (hW.block wr.heap.size (by simp)).trans e
          exact ⟨by simp only [World.cell?, e2]; rfl, by simp only [World.cell?, e2]; rfl⟩
        have HC := hidden hcell0
        clear hcell0
        cases hg2 : (isG (l.take i) k || isG (l.take i) g) with
        | true =>
          have hno : Hid (¬ Ok l) := not_ok i hlt (by rw [hgd, hm]; revert hg2; cases isG (l.take i) k <;> cases isG (l.take i) g <;> simp)
          rw [hg2] at hAG
          go_wp2_with fail
          refine (hMA _).mono ?_
          rintro e w1 ⟨rfl, hw1⟩
          have hw2 := hw1.symm
          clear hw1
          subst hw2
          go_wp2_with fail
          refine hAG.mono ?_
          rintro e w2 ⟨rfl, hb2⟩
          have b2 := onto hba hb2
          go_wp2_with fail
          exact bodyPost_ret (v := .tuple #[.map none, .bool false]) (by simp [results, Try.results57, go_sem]) rfl ⟨b2, Or.inl ⟨hno.out, rfl⟩⟩
        | false =>
          have hgi : isG (l.take i) g = false := by revert hg2; cases isG (l.take i) k <;> cases isG (l.take i) g <;> simp
          have hgk : isG (l.take i) k = false := by revert hg2; cases isG (l.take i) k <;> cases isG (l.take i) g <;> simp
          have hok2 : Hid (okTo l (i + 1)) := ok_succ l i hok.out (by rw [hgd, hm, hgk, hgi]; rfl)
          have hsay := says_take l i hlt (by rw [hkg]; exact hgi)
          rw [hkg] at hsay
          have HSY := hidden hsay
          rw [hg2] at hAG
          clear hsay hg2 hgd hkg hgi hgk hm hok
          go_wp2_with fail
          refine (hMA _).mono ?_
          rintro e w1 ⟨rfl, hw1⟩
          have hw2 := hw1.symm
          clear hw1
          subst hw2
          go_wp2_with fail
          refine hAG.mono ?_
          rintro e w2 ⟨rfl, hb2⟩
          have b2 := onto hba hb2
          obtain ⟨hz0, hz1⟩ := HC.out w2 hb2
          obtain ⟨D, hD, hfD⟩ := hbka.below hb2
          have HFD := hidden hfD
          clear hAG hMA hb2 hba hbka hbk hb hfD HC hc1' hc2'
          go_wp2_with (at_mapUpdate; refine wpList_mapUpdate_own _ rfl _ _ _ 85 rfl 2 91 key2 map56 _ w.heap.size i D rfl hD (by unfold maxLen; omega) _ _ _ rfl rfl (keyOf_int_mk Try.underlying2 hwg) (pr k i) [] (pairE_mk k i) ?_; intro w3 ho3 hg3)
          have b3 : Below w.heap.size w w3 := b2.grown hg3 b2.size (fun j hj => by cases hj; exact Nat.le_refl _)
          have hbk3 := (Bk.put hD HFD.out g k i hwg ho3).congr (g := says (l.take (i + 1))) (fun x _ => (HSY.out x).symm)
          go_wp2_with fail
          go_roundw
          case rel => exact ⟨i + 1, by omega, rfl, b3, hbk3, hok2⟩
          case measure => simp [intOf]; omega
    · have hlti : ¬ (i : Int) < (l.length : Int) := by omega
      have hil : i = l.length := by omega
      subst hil
      have hyes : Hid (Ok l) := ⟨by omega, hok.out⟩
      rw [take_all] at hbk
      go_wp2_with fail
      exact bodyPost_ret (v := .tuple #[.map (some w.heap.size), .bool true]) (by simp [results, Try.results57, go_sem]) rfl ⟨hb, Or.inr ⟨hyes.out, w.heap.size, Nat.le_refl _, rfl, hbk⟩⟩

end Go.Proofs.Ytdnnenklkfkhcaa
