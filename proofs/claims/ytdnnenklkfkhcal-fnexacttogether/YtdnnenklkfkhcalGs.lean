/-
  Together, the specification's.
-/
import Derived.Test.YtdnnenklkfkhcalGj
namespace Go.Proofs.Ytdnnenklkfkhcal
open Go.RowKit Jn Go.Maps

theorem info2 : (Try.prog.info? 2).map (fun i => (i.zero, i.size, i.bytes)) = some (some (.int .i64 0), 1, 8) := by kernel_rfl
theorem ownsI_empty (w : World) : (w.alloc (.cells #[] 2)).ownsRow w.heap.size 2 1 (.slice (some ⟨w.heap.size, 0, none⟩) 0 0) 0 [] :=
  ⟨rfl, Or.inr ⟨w.heap.size, 0, #[], rfl, Nat.le_refl _, heap_alloc_new _ _, Nat.le_refl _, Nat.zero_le _, rfl, rfl⟩⟩
theorem own1_lt {w : World} {b e n : Nat} {v : Value} {xs : List Value} (h : w.ownsRow b e 1 v n xs) : ∀ k, v.ownBlock = some k → b ≤ k := by
  obtain ⟨_, ⟨rfl, _⟩ | ⟨g, cap, cur, rfl, hb, _⟩⟩ := h
  · intro k hk; cases hk
  · intro k hk; cases hk; exact hb
theorem one_one (a : Int) : ∀ u ∈ [Value.int .i64 a], u.oneCell' = true := by
  intro u hu
  rw [List.mem_singleton.1 hu]; rfl

set_option maxRecDepth 20000 in
set_option maxHeartbeats 2000000 in
theorem stog_any (v : Value) (l : List J) (x : Int) (w : World) (h : JRow w v l) :
    Calls Try.prog 18 #[v, .int .i64 x] w fun e w' => ∃ v', e = .returned v' ∧ IOwn w' w.heap.size v' (tog l x) ∧ Below w.heap.size w w' := by
  have hbA : Below w.heap.size w (w.alloc (.cells #[] 2)) := (Below.refl _ w).alloc (Nat.le_refl _) _
  have hS := spers_any v l x _ (h.below hbA)
  have hoA := ownsI_empty w
  rcases Classical.em (Ok l ∧ pers x = true) with hyes | hno
  · have HG : Hid (tog l x = togN l (stands l x) 1000) := by unfold tog; rw [Hid, okB_true hyes.1, hyes.2]; rfl
    have hP : person l x = stands l x := by unfold person; rw [okB_true hyes.1, hyes.2]; rfl
    rw [hP] at hS
    have hp0 := (pers_wf (stands_pers l hyes.1.2 x hyes.2)).1
    have HOF := hidden (fun y W (hW : JRow W v l) => of_any v l y W hW hyes.1.2 (by have := hyes.1.1; omega))
    have HJ := hidden h
    obtain ⟨i0, hi, hz0, hz1, hz2⟩ := info_parts info2
    clear hyes hP
    generalize stands l x = p at *
    have hp0' : p ≥ 0 := hp0
    obtain ⟨ao, cap, rfl, hrow⟩ := h
    clear hrow
    go_enter Try.func18, Try.ntmps18
    go_wp2_with fail
    refine hS.mono ?_
    rintro e w1 ⟨rfl, hb1⟩
    have b1 := onto hbA hb1
    have ho1 : w1.ownsRow w.heap.size 2 1 (.slice (some ⟨w.heap.size, 0, none⟩) 0 0) 0 [] := by
      obtain ⟨q, ⟨q1, _⟩ | ⟨g, c, cur, e, hb, hg, r⟩⟩ := hoA
      · cases q1
      · exact ⟨q, Or.inr ⟨g, c, cur, e, hb, (hb1.block g (Array.getElem?_eq_some_iff.1 hg).1).trans hg, r⟩⟩
    have hN := b1.size
    clear hS hoA hb1 hbA
    go_wp2_with fail
    go_loopw [5, 7] (fun ov iv wr => ∃ (i : Nat) (fl : List Int), i ≤ 1000 ∧ iv = .int .i64 i ∧ fl.length ≤ i ∧ (∃ ad c0, ov = .slice ad fl.length c0 ∧ wr.ownsRow w.heap.size 2 1 (.slice ad fl.length c0) fl.length (fl.map encZ)) ∧ Below w.heap.size w wr ∧ Hid (fl = togN l p i)) (fun _ iv _ => 1000 - (intOf iv).toNat)
    case atStart => exact ⟨0, [], by omega, rfl, Nat.le_refl _, ⟨_, _, rfl, ho1⟩, b1, rfl⟩
    case round =>
      clear ho1 b1
      obtain ⟨i, fl, hil, rfl, hfl, ⟨ad, c0, rfl, ho⟩, hb, HF⟩ := hrel
      by_cases hlt : i < 1000
      · have hlti : (i : Int) < 1000 := by omega
        have hO := HOF.out (i : Int) wr (HJ.out.below hb)
        have HT := hidden (togN_succ l p i)
        by_cases hg : stands l i = p
        · rw [hg] at hO
          have HN : Hid (fl ++ [(i : Int)] = togN l p (i + 1)) := by rw [Hid, HT.out, if_pos hg, HF.out]
          clear hg HT HF
          have hN2 := hb.size
          go_wp2_with fail
          refine hO.mono ?_
          rintro e w9 ⟨rfl, hw9⟩
          have hw8 := hw9.symm
          clear hw9
          subst hw8
          go_wp2_with (at_builtin; refine wpList_append_own _ rfl (.tmp 25) (.tmp 27) 34 rfl w.heap.size 2 i0 (.int .i64 0) 1 8 Try.underlying34 hi hz0 hz1 hz2 rfl (by decide) _ fl.length (fl.map encZ) rfl (ho.alloc _) ⟨wr.heap.size, 0, none⟩ 1 1 [.int .i64 i] rfl rfl (cell_one_new _ _ _) (one_one i) (by unfold maxLen; omega) (by omega) (by have := hb.size; simp; omega) ?_; intro v2 w2 ho2 hgr hnn2)
          have hb2 := (hb.alloc hb.size _).grown hgr (by have := hb.size; simp; omega) (own1_lt ho)
          obtain ⟨ad2, c2, rfl⟩ := own_slice ho2
          go_wp2_with fail
          go_roundw
          case rel => exact ⟨i + 1, fl ++ [(i : Int)], by omega, rfl, by simp; omega, ⟨ad2, c2, by rw [List.length_append]; rfl, by rw [List.map_append, List.length_append]; exact ho2⟩, hb2, HN⟩
          case measure => simp [intOf]; omega
        · have HN : Hid (fl = togN l p (i + 1)) := by rw [Hid, HT.out, if_neg hg, HF.out]
          have hg2 : (stands l i == p) = false := by simpa using hg
          clear HT HF
          generalize stands l i = z at *
          go_wp2_with fail
          refine hO.mono ?_
          rintro e w9 ⟨rfl, hw9⟩
          have hw8 := hw9.symm
          clear hw9
          subst hw8
          go_wp2_with fail
          go_roundw
          case rel => exact ⟨i + 1, fl, by omega, rfl, by omega, ⟨_, _, rfl, ho⟩, hb, HN⟩
          case measure => simp [intOf]; omega
      · have hlti : ¬ (i : Int) < 1000 := by omega
        have hin : i = 1000 := by omega
        subst hin
        have HO := hidden (iown_of ho)
        clear ho
        go_wp2_with fail
        go_ret
        exact ⟨_, rfl, by rw [HG.out, ← HF.out]; exact HO.out, hb⟩
  · have hb0 : (okB l && pers x) = false := by
      cases h1 : okB l with
      | false => rfl
      | true =>
        cases h2 : pers x with
        | false => rfl
        | true => exact absurd ⟨by unfold okB at h1; simpa using h1, h2⟩ hno
    have HG : Hid (tog l x = []) := by unfold tog; rw [Hid, hb0]; rfl
    have hP : person l x = -1 := by unfold person; rw [hb0]; rfl
    rw [hP] at hS
    clear hno hP hb0
    obtain ⟨ao, cap, rfl, hrow⟩ := h
    clear hrow
    go_enter Try.func18, Try.ntmps18
    go_wp2_with fail
    refine hS.mono ?_
    rintro e w1 ⟨rfl, hb1⟩
    have b1 := onto hbA hb1
    clear hS hoA hb1 hbA
    go_wp2_with fail
    go_loopw [5, 7] (fun ov iv wr => ov = .slice (some ⟨w.heap.size, 0, none⟩) 0 0 ∧ iv = .int .i64 0 ∧ wr = w1) (fun _ _ _ => 0)
    case atStart => exact ⟨rfl, rfl, rfl⟩
    case round =>
      obtain ⟨rfl, rfl, rfl⟩ := hrel
      go_wp2_with fail
      go_ret
      exact ⟨_, rfl, by rw [HG.out]; exact ⟨_, 0, rfl, Or.inl rfl⟩, b1⟩
end Go.Proofs.Ytdnnenklkfkhcal
