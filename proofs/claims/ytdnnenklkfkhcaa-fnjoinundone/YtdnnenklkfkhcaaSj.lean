/-
  JoinsOk, the specification's and the program's: a book or none.
-/
import Derived.Test.YtdnnenklkfkhcaaBo
import Derived.OwnWalk
import Derived.ProofKit
namespace Go.Proofs.Ytdnnenklkfkhcaa
open Go.RowKit Jn Go.Maps

set_option maxHeartbeats 400000 in
theorem lin_any (n lo hi : Int) (w : World) :
    Calls Try.prog 70 #[.int .i64 n, .int .i64 lo, .int .i64 hi] w fun e w' => e = .returned (.bool (decide (lo ≤ n) && decide (n ≤ hi))) ∧ w' = w := by
  by_cases h0 : lo ≤ n
  · by_cases h1 : n ≤ hi
    · rw [decide_eq_true h0, decide_eq_true h1]
      go_enter Try.func70, Try.ntmps70
      go_wp2
      go_ret
      exact ⟨rfl, rfl⟩
    · rw [decide_eq_true h0, decide_eq_false h1]
      go_enter Try.func70, Try.ntmps70
      go_wp2
      go_ret
      exact ⟨rfl, rfl⟩
  · rw [decide_eq_false h0, Bool.false_and]
    go_enter Try.func70, Try.ntmps70
    go_wp2
    go_ret
    exact ⟨rfl, rfl⟩

set_option maxHeartbeats 400000 in
theorem sper_any (x : Int) (w : World) : Calls Try.prog 61 #[.int .i64 x] w fun e w' => e = .returned (.bool (pers x)) ∧ w' = w := by
  have h := lin_any x 0 999
  rw [show (decide (0 ≤ x) && decide (x ≤ 999)) = pers x from rfl] at h
  generalize pers x = t at *
  go_enter Try.func61, Try.ntmps61
  go_wp2_with fail
  refine (h _).mono ?_
  rintro e w1 ⟨rfl, hw1⟩
  have hw2 := hw1.symm
  clear hw1
  subst hw2
  go_wp2_with fail
  go_ret
  exact ⟨rfl, rfl⟩

theorem info4 : (Try.prog.info? 4).map (fun i => (i.zero, i.size, i.bytes)) = some (some (.bool false), 1, 1) := by kernel_rfl
/-- Block G holds for each person whether it is gone. -/
def Gs (w : World) (G : Nat) (l : List J) : Prop := G < w.heap.size ∧ ∀ x : Nat, x < 1000 → w.cell? ⟨G, x, none⟩ = some (.bool (isG l x)) ∧ w.frozen? ⟨G, x, none⟩ = false
theorem Gs.below {w w' : World} {G : Nat} {l : List J} (h : Gs w G l) (hb : Below w.heap.size w w') : Gs w' G l :=
  ⟨Nat.lt_of_lt_of_le h.1 hb.size, fun x hx => ⟨(hb.cell (p := ⟨G, x, none⟩) h.1).trans (h.2 x hx).1, by
    have := (h.2 x hx).2
    simp only [World.frozen?, hb.block G h.1] at this ⊢
    exact this⟩⟩
theorem Gs.set {w : World} {G : Nat} {l : List J} (h : Gs w G l) (k : Int) (g : Nat) (hg : g < 1000) : Gs (w.setCell ⟨G, g, none⟩ (.bool true)) G (l ++ [(k, (g : Int))]) := by
  refine ⟨by simpa [World.setCell] using h.1, fun x hx => ⟨?_, by rw [World.frozen?_setCell]; exact (h.2 x hx).2⟩⟩
  rw [isG_append]
  by_cases e : x = g
  · subst e
    rw [World.cell?_setCell_same _ _ _ (h.2 x hx).1]
    simp [isG]
  · rw [World.cell?_setCell_other (h := by first | (simp; done) | (simp; exact e)), (h.2 x hx).1]
    have : isG [(k, (g : Int))] (x : Int) = false := by simp [isG]; omega
    rw [this, Bool.or_false]
theorem Gs.made {w w' : World} {b : Nat} (h : w'.ownsRow b 4 1 (.slice (some ⟨w.heap.size, 0, none⟩) 1000 1000) 1000 (madeCells (Value.bool false).cells (1000 * 1)).toList) : Gs w' w.heap.size [] := by
  obtain ⟨h1, h2⟩ := h
  rcases h2 with ⟨h2, h3⟩ | ⟨g, cap, cur, h2, h3, h4, h5, h6, h7, h8⟩
  · cases h2
  · simp only [Value.slice.injEq, Option.some.injEq, Addr.mk.injEq, and_true, true_and] at h2
    obtain ⟨rfl, rfl⟩ := h2
    refine ⟨(Array.getElem?_eq_some_iff.1 h4).1, fun x hx => ⟨?_, ?_⟩⟩
    · have e : (madeCells (Value.bool false).cells (1000 * 1)).toList = List.replicate 1000 (Value.bool false) := toList_madeCells_one (Value.bool false) 1000
      have h9 : (cur.toList.take (1000 * 1))[x]? = (List.replicate 1000 (Value.bool false))[x]? := by rw [h8, e]
      rw [List.getElem?_take, if_pos (by omega), Array.getElem?_toList, List.getElem?_replicate, if_pos hx] at h9
      simp only [World.cell?, h4]
      exact h9
    · simp only [World.frozen?, h4]
      simp

set_option maxRecDepth 20000 in
set_option maxHeartbeats 2000000 in
theorem sok_any (v : Value) (l : List J) (w : World) (h : JRow w v l) :
    Calls Try.prog 27 #[v] w fun e w' => e = .returned (.bool (okB l)) ∧ Below w.heap.size w w' := by
  obtain ⟨ao, cap, rfl, hrow⟩ := h
  obtain ⟨i0, hi, hz0, hz1, hz2⟩ := info_parts info4
  by_cases h200 : (200 : Int) < (l.length : Int)
  · have hno : Hid (okB l = false) := okB_false fun q => by have := q.1; omega
    clear hrow
    go_enter Try.func27, Try.ntmps27
    go_wp2_with fail
    go_ret
    exact ⟨by rw [hno.out]; rfl, Below.refl _ _⟩
  go_enter Try.func27, Try.ntmps27
  go_wp2_with (refine wpList_make_full _ rfl (.const (.int .i64 1000)) (.const (.int .i64 1000)) 94 rfl w.heap.size 4 i0 (.bool false) 1 Try.underlying94 hi hz0 hz1 .i64 .i64 _ _ 1000 rfl rfl rfl rfl (by rw [hz2]; decide) (by unfold maxLen; decide) (Nat.le_refl _) ?_; intro w1 ho1 hg1)
  have b1 : Below w.heap.size w w1 := (Below.refl _ w).grown hg1 (Nat.le_refl _) (by simp)
  have hgs1 := Gs.made ho1
  clear ho1
  go_wp2_with fail
  go_loopw [4] (fun iv wr => ∃ i : Nat, i ≤ l.length ∧ iv = .int .i64 i ∧ Below w.heap.size w wr ∧ Gs wr w.heap.size (l.take i) ∧ Hid (okTo l i)) (fun iv _ => l.length - (intOf iv).toNat)
  case atStart => exact ⟨0, Nat.zero_le _, rfl, b1, hgs1, fun i hi => absurd hi (by omega)⟩
  case round =>
    clear b1 hgs1
    obtain ⟨i, hil, rfl, hb, hgs, hok⟩ := hrel
    by_cases hlt : i < l.length
    · have hlti : (i : Int) < (l.length : Int) := by omega
      rcases hrow with h0 | ⟨b, off, rfl, hbw, hcells⟩
      · omega
      obtain ⟨hc1, hc2⟩ := hcells i hlt
      have hc1' := (hb.cell (p := ⟨b, off + i * 2, none⟩) hbw).trans hc1
      have hc2' := (hb.cell (p := ⟨b, off + i * 2 + 1, none⟩) hbw).trans hc2
      clear hc1 hc2 hcells
      obtain ⟨k, g, hkg⟩ : ∃ k g, l.getD i (0, 0) = (k, g) := ⟨_, _, rfl⟩
      rw [hkg] at hc1' hc2'
      have hgd : good l i = (may k g && !isG (l.take i) k && !isG (l.take i) g) := by unfold good; rw [hkg]
      have hP1 := sper_any k
      have hP2 := sper_any g
      have hba : Below w.heap.size w (wr.alloc (.cells #[.int .i64 k, .int .i64 g] 50)) := hb.alloc hb.size _
      have hgsa : Gs (wr.alloc (.cells #[.int .i64 k, .int .i64 g] 50)) w.heap.size (l.take i) := hgs.below ((Below.refl _ _).alloc (Nat.le_refl _) _)
      cases hpk : pers k with
      | false =>
        have hno : Hid (okB l = false) := okB_false (not_ok i hlt (by rw [hgd]; unfold may; rw [hpk]; rfl))
        rw [hpk] at hP1
        go_wp2_with fail
        refine (hP1 _).mono ?_
        rintro e w2 ⟨rfl, hw2⟩
        have hw3 := hw2.symm
        clear hw2
        subst hw3
        go_wp2_with fail
        go_ret
        exact ⟨by rw [hno.out]; rfl, hba⟩
      | true =>
        rw [hpk] at hP1
        cases hpg : pers g with
        | false =>
          have hno : Hid (okB l = false) := okB_false (not_ok i hlt (by rw [hgd]; unfold may; rw [hpk, hpg]; rfl))
          rw [hpg] at hP2
          go_wp2_with fail
          refine (hP1 _).mono ?_
          rintro e w2 ⟨rfl, hw2⟩
          have hw3 := hw2.symm
          clear hw2
          subst hw3
          go_wp2_with fail
          refine (hP2 _).mono ?_
          rintro e w2 ⟨rfl, hw2⟩
          have hw3 := hw2.symm
          clear hw2
          subst hw3
          go_wp2_with fail
          go_ret
          exact ⟨by rw [hno.out]; rfl, hba⟩
        | true =>
          rw [hpg] at hP2
          have hk9 := pers_wf hpk
          have hg9 := pers_wf hpg
          obtain ⟨kn, rfl⟩ := Int.eq_ofNat_of_zero_le hk9.1
          obtain ⟨gn, rfl⟩ := Int.eq_ofNat_of_zero_le hg9.1
          have hki : (kn : Int) < 1000 := by omega
          have hgi : (gn : Int) < 1000 := by omega
          obtain ⟨hck, hfk⟩ := hgsa.2 kn (by omega)
          obtain ⟨hcg, hfg⟩ := hgsa.2 gn (by omega)
          have hmy : may (kn : Int) gn = !(decide ((kn : Int) = gn)) := by unfold may; rw [hpk, hpg]; rfl
          have HS : Hid (Gs ((wr.alloc (.cells #[.int .i64 kn, .int .i64 gn] 50)).setCell ⟨w.heap.size, gn, none⟩ (.bool true)) w.heap.size (l.take (i + 1))) := by
            rw [Hid, take_succ l i hlt, hkg]
            exact hgsa.set kn gn (by omega)
          have hbs : Below w.heap.size w ((wr.alloc (.cells #[.int .i64 kn, .int .i64 gn] 50)).setCell ⟨w.heap.size, gn, none⟩ (.bool true)) := hba.setCell (Nat.le_refl _) _
          have hmain : ∀ (tk tg tq : Bool), isG (l.take i) (kn : Int) = tk → isG (l.take i) (gn : Int) = tg → decide ((kn : Int) = gn) = tq → good l i = (!tq && !tk && !tg) := fun tk tg tq h1 h2 h3 => by rw [hgd, hmy, h1, h2, h3]
          by_cases hq : (kn : Int) = gn
          · have hno : Hid (okB l = false) := okB_false (not_ok i hlt (by rw [hmain _ _ true rfl rfl (decide_eq_true hq)]; rfl))
            have hqn : kn = gn := by omega
            subst hqn
            clear hq hmain HS hbs
            go_wp2_with fail
            refine (hP1 _).mono ?_
            rintro e w2 ⟨rfl, hw2⟩
            have hw3 := hw2.symm
            clear hw2
            subst hw3
            go_wp2_with fail
            refine (hP2 _).mono ?_
            rintro e w2 ⟨rfl, hw2⟩
            have hw3 := hw2.symm
            clear hw2
            subst hw3
            go_wp2_with fail
            go_ret
            exact ⟨by rw [hno.out]; rfl, hba⟩
          · have hqb : ((kn : Int) == gn) = false := by simpa using hq
            cases htg : isG (l.take i) (gn : Int) with
            | true =>
              have hno : Hid (okB l = false) := okB_false (not_ok i hlt (by rw [hmain _ true _ rfl htg rfl]; simp))
              rw [htg] at hcg
              clear hmain HS hbs
              go_wp2_with fail
              refine (hP1 _).mono ?_
              rintro e w2 ⟨rfl, hw2⟩
              have hw3 := hw2.symm
              clear hw2
              subst hw3
              go_wp2_with fail
              refine (hP2 _).mono ?_
              rintro e w2 ⟨rfl, hw2⟩
              have hw3 := hw2.symm
              clear hw2
              subst hw3
              go_wp2_with fail
              go_ret
              exact ⟨by rw [hno.out]; rfl, hba⟩
            | false =>
              rw [htg] at hcg
              cases htk : isG (l.take i) (kn : Int) with
              | true =>
                have hno : Hid (okB l = false) := okB_false (not_ok i hlt (by rw [hmain true _ _ htk rfl rfl]; simp))
                rw [htk] at hck
                clear hmain HS hbs
                go_wp2_with fail
                refine (hP1 _).mono ?_
                rintro e w2 ⟨rfl, hw2⟩
                have hw3 := hw2.symm
                clear hw2
                subst hw3
                go_wp2_with fail
                refine (hP2 _).mono ?_
                rintro e w2 ⟨rfl, hw2⟩
                have hw3 := hw2.symm
                clear hw2
                subst hw3
                go_wp2_with fail
                go_ret
                exact ⟨by rw [hno.out]; rfl, hba⟩
              | false =>
                rw [htk] at hck
                have hok2 : Hid (okTo l (i + 1)) := ok_succ l i hok.out (by rw [hmain false false false htk htg (decide_eq_false hq)]; rfl)
                clear hmain
                go_wp2_with fail
                refine (hP1 _).mono ?_
                rintro e w2 ⟨rfl, hw2⟩
                have hw3 := hw2.symm
                clear hw2
                subst hw3
                go_wp2_with fail
                refine (hP2 _).mono ?_
                rintro e w2 ⟨rfl, hw2⟩
                have hw3 := hw2.symm
                clear hw2
                subst hw3
                go_wp2_with fail
                go_roundw
                case rel => exact ⟨i + 1, by omega, rfl, hbs, HS.out, hok2⟩
                case measure => simp [intOf]; omega
    · have hlti : ¬ (i : Int) < (l.length : Int) := by omega
      have hil2 : i = l.length := by omega
      subst hil2
      have hyes : Hid (okB l = true) := okB_true ⟨by omega, hok.out⟩
      go_wp2_with fail
      go_ret
      exact ⟨by rw [hyes.out]; rfl, hb⟩

end Go.Proofs.Ytdnnenklkfkhcaa
