/-
  JoinDo, the specification's and the program's.
-/
import Derived.Test.YtdnnenklkfkhcaaIu
namespace Go.Proofs.Ytdnnenklkfkhcaa
open Go.RowKit Jn Go.Maps


/-- The joins l lie at v, at an address; v's row is the call's own. -/
def Own1 (w : World) (base : Nat) (v : Value) (l : List J) : Prop :=
  ∃ G cap, v = .slice (some ⟨G, 0, none⟩) l.length cap ∧ w.ownsRow base 50 2 (.slice (some ⟨G, 0, none⟩) l.length cap) l.length (cellsJ l)
theorem Own1.own {w : World} {base : Nat} {v : Value} {l : List J} (h : Own1 w base v l) : Own w base v l := by
  obtain ⟨G, cap, rfl, ho⟩ := h
  exact own_of ho
theorem own2_below {w w' : World} {base e s n : Nat} {v : Value} {xs : List Value} (h : w.ownsRow base e s v n xs) (hb : Below w.heap.size w w') : w'.ownsRow base e s v n xs := by
  obtain ⟨q, ⟨q1, q2⟩ | ⟨g, c, cur, rfl, hg, hh, r⟩⟩ := h
  · exact ⟨q, Or.inl ⟨q1, q2⟩⟩
  · exact ⟨q, Or.inr ⟨g, c, cur, rfl, hg, (hb.block g (Array.getElem?_eq_some_iff.1 hh).1).trans hh, r⟩⟩
theorem Own1.below {w w' : World} {base : Nat} {v : Value} {l : List J} (h : Own1 w base v l) (hb : Below w.heap.size w w') : Own1 w' base v l := by
  obtain ⟨G, cap, rfl, ho⟩ := h
  exact ⟨_, _, rfl, own2_below ho hb⟩
theorem own1_of {w : World} {base : Nat} {v : Value} {l : List J} (h : w.ownsRow base 50 2 v l.length (cellsJ l)) (hv : v ≠ .slice none 0 0) : Own1 w base v l := by
  have h0 := h
  obtain ⟨h1, ⟨rfl, h2⟩ | ⟨g, cap, cur, rfl, hb, hg, _, _, hs, ht⟩⟩ := h
  · exact absurd rfl hv
  · exact ⟨g, cap, rfl, h0⟩
theorem own1_base {w : World} {b b2 : Nat} {v : Value} {l : List J} (h : Own1 w b v l) (hb : b2 ≤ b) : Own1 w b2 v l := by
  obtain ⟨G, cap, rfl, q, ⟨q1, q2⟩ | ⟨g, c, cur, e, hg, r⟩⟩ := h
  · cases q1
  · exact ⟨G, cap, rfl, q, Or.inr ⟨g, c, cur, e, Nat.le_trans hb hg, r⟩⟩
theorem own1_empty (w : World) : Own1 (w.alloc (.cells #[] 50)) w.heap.size (.slice (some ⟨w.heap.size, 0, none⟩) 0 0) [] :=
  ⟨w.heap.size, 0, rfl, ownsRow_empty w⟩

/-- What JoinDo answers. -/
noncomputable def doC (l : List J) (k g : Int) : Int := if okB l then (if may k g then (if isG l k || isG l g then 3 else if l.length = 200 then 4 else 0) else 2) else 1
noncomputable def doL (l : List J) (k g : Int) : List J := if okB l then (if may k g && !(isG l k || isG l g) && !decide (l.length = 200) then l ++ [(k, g)] else l) else []
theorem ok_app (l : List J) (k g : Int) (h : okTo l l.length) (hm : may k g = true) (hk : isG l k = false) (hg : isG l g = false) : okTo (l ++ [(k, g)]) (l ++ [(k, g)]).length := by
  intro i hi
  rw [List.length_append] at hi
  by_cases e : i = l.length
  · subst e
    unfold good
    rw [getD_app_last, List.take_append_of_le_length (Nat.le_refl _), take_all, hm, hk, hg]; rfl
  · have hlt : i < l.length := by simp at hi; omega
    have := h i hlt
    unfold good at this ⊢
    rw [getD_app_left l _ i hlt, List.take_append_of_le_length (by omega)]
    exact this
theorem cellsJ_len (l : List J) : (cellsJ l).length = l.length * 2 := by
  induction l with
  | nil => rfl
  | cons j l ih => simp [cellsJ] at ih ⊢; omega
theorem cellsJ_one (l : List J) : ∀ u ∈ cellsJ l, u.oneCell' = true := by
  intro u hu
  simp only [cellsJ, List.mem_flatMap] at hu
  obtain ⟨j, _, hj⟩ := hu
  exact two_one j.1 j.2 u hj
theorem cells_src {w : World} {G : Nat} {l : List J} (h : Out w G l.length l l.length) : ∀ (j : Nat) (u : Value), (cellsJ l)[j]? = some u → w.cell? ((⟨G, 0, none⟩ : Addr).add j) = some u := fun j u hu => by
  have hj : j < (cellsJ l).length := (List.getElem?_eq_some_iff.1 hu).1
  rw [cellsJ_len] at hj
  have hadd : w.cell? ((⟨G, 0, none⟩ : Addr).add j) = w.cell? ⟨G, j, none⟩ := by
    unfold Addr.add
    by_cases h0 : j = 0
    · subst h0; rfl
    · simp [h0]
  rw [hadd]
  have h2 := h.2.2 (j / 2) (by omega)
  have h3 := cellsJ_get l (j / 2) (by omega)
  rcases Nat.mod_two_eq_zero_or_one j with e | e
  · have : j / 2 * 2 = j := by omega
    rw [this] at h2 h3
    rw [h2.1, ← h3.1]; exact hu
  · have : j / 2 * 2 + 1 = j := by omega
    rw [this] at h2 h3
    rw [h2.2, ← h3.2]; exact hu

set_option maxRecDepth 20000 in
set_option maxHeartbeats 2000000 in
theorem sis_any (v : Value) (l : List J) (x : Int) (w : World) (h : JRow w v l) (hn : l.length ≤ 1048576) :
    Calls Try.prog 62 #[v, .int .i64 x] w fun e w' => e = .returned (.bool (isG l x)) ∧ w' = w := by
  obtain ⟨ao, cap, rfl, hrow⟩ := h
  go_enter Try.func62, Try.ntmps62
  go_wp2_with fail
  go_loopw [5] (fun iv wr => wr = w ∧ ∃ i : Nat, i ≤ l.length ∧ iv = .int .i64 i ∧ Hid (isG (l.take i) x = false)) (fun iv _ => l.length - (intOf iv).toNat)
  case atStart => exact ⟨rfl, 0, Nat.zero_le _, rfl, rfl⟩
  case round =>
    obtain ⟨rfl, i, hi, rfl, H⟩ := hrel
    by_cases hlt : i < l.length
    · have hlti : (i : Int) < (l.length : Int) := by omega
      rcases hrow with h0 | ⟨b, off, rfl, hbw, hcells⟩
      · omega
      obtain ⟨hc1, hc2⟩ := hcells i hlt
      clear hcells
      by_cases hgx : (l.getD i (0, 0)).2 = x
      · have HE : Hid (isG l x = true) := (isG_iff l x).2 ⟨i, hlt, hgx⟩
        rw [hgx] at hc2
        clear hgx H
        go_wp2_with fail
        go_ret
        exact ⟨by rw [HE.out]; rfl, rfl⟩
      · have HN : Hid (isG (l.take (i + 1)) x = false) := by rw [Hid, isG_take_succ l i hlt, H.out]; simp only [Bool.false_or, decide_eq_false_iff_not]; exact hgx
        have hgx2 : ((l.getD i (0, 0)).2 == x) = false := by simpa using hgx
        clear H
        generalize (l.getD i (0, 0)).2 = z at *
        go_wp2_with fail
        go_roundw
        case rel => exact ⟨trivial, i + 1, by omega, rfl, HN⟩
        case measure => simp [intOf]; omega
    · have hlti : ¬ (i : Int) < (l.length : Int) := by omega
      have hin : i = l.length := by omega
      subst hin
      rw [take_all] at H
      go_wp2_with fail
      go_ret
      exact ⟨by rw [H.out]; rfl, rfl⟩

set_option maxRecDepth 20000 in
set_option maxHeartbeats 4000000 in
theorem sdo_any (v : Value) (l : List J) (k g : Int) (base : Nat) (w : World) (h : Own1 w base v l) :
    Calls Try.prog 25 #[v, .int .i64 k, .int .i64 g] w fun e w' => ∃ v', e = .returned (.tuple #[v', .int .i64 (doC l k g)]) ∧ Own1 w' w.heap.size v' (doL l k g) ∧ Below w.heap.size w w' := by
  have hS := sok_any v l w h.own.row
  rcases Classical.em (Ok l) with hyes | hno
  · rw [okB_true hyes] at hS
    have HOK := hidden (okB_true hyes)
    have hll := hyes.1
    clear hyes
    have hPk := sper_any k
    have hPg := sper_any g
    have hIk := fun W hW => sis_any v l k W hW (by omega)
    have hIg := fun W hW => sis_any v l g W hW (by omega)
    obtain ⟨i0, hi, hz0, hz1, hz2⟩ := info_parts info41
    have HJ := hidden h
    obtain ⟨G, cap, rfl, ho⟩ := h
    clear ho
    go_enter Try.func25, Try.ntmps25
    go_wp2_with fail
    refine hS.mono ?_
    rintro e w1 ⟨rfl, b1⟩
    have HJ1 := hidden (HJ.out.below b1)
    have HJ1' := hidden (HJ1.out.below ((Below.refl w1.heap.size w1).alloc (Nat.le_refl _) (Obj.cells #[] 50)))
    have ho1 := ownsRow_empty w1
    have hsrc : ∀ (j : Nat) (u : Value), (cellsJ l)[j]? = some u → (w1.alloc (Obj.cells #[] 50)).cell? ((⟨G, 0, none⟩ : Addr).add j) = some u := by
      obtain ⟨G', cap', e, ho⟩ := HJ1'.out
      obtain ⟨rfl, rfl⟩ : G = G' ∧ cap = cap' := by simpa using e
      exact ho.cells rfl
    have HSRC := hidden hsrc
    clear HJ hS hsrc
    go_wp2_with (at_builtin; refine wpList_append_own _ rfl (.tmp 13) (.tmp 14) 42 rfl w1.heap.size 50 i0 (.agg #[.int .i64 0, .int .i64 0]) 2 16 Try.underlying42 hi hz0 hz1 hz2 rfl (by decide) _ 0 [] rfl ho1 ⟨G, 0, none⟩ l.length cap (cellsJ l) rfl (cellsJ_len l) HSRC.out (cellsJ_one l) (by unfold maxLen; omega) (by omega) (by simp) ?_; intro v2 w2 ho2 hgr hnn2)
    rw [Nat.zero_add, List.nil_append] at ho2
    have hb2 : Below w1.heap.size w1 w2 := ((Below.refl w1.heap.size w1).alloc (Nat.le_refl _) _).grown hgr (by simp) (own2_lt ho1)
    have bE := onto b1 hb2
    have HR := hidden (HJ1.out.below hb2).own.row
    obtain ⟨ad2, c2, rfl⟩ := own_slice ho2
    have hN1 := b1.size
    have HO := hidden (own1_base (own1_of ho2 (fun e => by have := (hnn2.1 e).1; cases this)) hN1)
    have HW := hidden ho2
    have HB2 := hidden hb2
    have b1N := b1.size
    clear ho1 ho2 hgr hnn2 hb2 HJ1' HJ1 HSRC b1
    have hIk' := hIk w2 HR.out
    have hIg' := hIg w2 HR.out
    clear hIk hIg
    have HM : Hid (may k g = (pers k && pers g && !(decide (k = g)))) := rfl
    cases hpk : pers k with
    | false =>
      rw [hpk] at hPk
      have HC : Hid (doC l k g = 2) := by unfold doC; rw [Hid, HOK.out, HM.out, hpk]; rfl
      have HL : Hid (doL l k g = l) := by unfold doL; rw [Hid, HOK.out, HM.out, hpk]; rfl
      clear HM
      go_wp2_with fail
      refine (hPk _).mono ?_
      rintro e w9 ⟨rfl, hw9⟩
      have hw8 := hw9.symm
      clear hw9
      subst hw8
      go_wp2_with fail
      exact bodyPost_ret (v := .tuple #[.slice ad2 l.length c2, .int .i64 2]) (by simp [results, Try.results25, go_sem]) rfl ⟨_, by rw [HC.out], by rw [HL.out]; exact HO.out, bE⟩
    | true =>
      rw [hpk] at hPk
      cases hpg : pers g with
      | false =>
        rw [hpg] at hPg
        have HC : Hid (doC l k g = 2) := by unfold doC; rw [Hid, HOK.out, HM.out, hpk, hpg]; rfl
        have HL : Hid (doL l k g = l) := by unfold doL; rw [Hid, HOK.out, HM.out, hpk, hpg]; rfl
        clear HM
        go_wp2_with fail
        refine (hPk _).mono ?_
        rintro e w9 ⟨rfl, hw9⟩
        have hw8 := hw9.symm
        clear hw9
        subst hw8
        go_wp2_with fail
        refine (hPg _).mono ?_
        rintro e w9 ⟨rfl, hw9⟩
        have hw8 := hw9.symm
        clear hw9
        subst hw8
        go_wp2_with fail
        exact bodyPost_ret (v := .tuple #[.slice ad2 l.length c2, .int .i64 2]) (by simp [results, Try.results25, go_sem]) rfl ⟨_, by rw [HC.out], by rw [HL.out]; exact HO.out, bE⟩
      | true =>
        rw [hpg] at hPg
        by_cases hkg : k = g
        · have HC : Hid (doC l k g = 2) := by unfold doC; rw [Hid, HOK.out, HM.out, hpk, hpg, decide_eq_true hkg]; rfl
          have HL : Hid (doL l k g = l) := by unfold doL; rw [Hid, HOK.out, HM.out, hpk, hpg, decide_eq_true hkg]; rfl
          have hb : (k == g) = true := by simp [hkg]
          have HKG : Hid (k = g) := hkg
          clear HM hkg
          go_wp2_with fail
          refine (hPk _).mono ?_
          rintro e w9 ⟨rfl, hw9⟩
          have hw8 := hw9.symm
          clear hw9
          subst hw8
          go_wp2_with fail
          refine (hPg _).mono ?_
          rintro e w9 ⟨rfl, hw9⟩
          have hw8 := hw9.symm
          clear hw9
          subst hw8
          go_wp2_with fail
          exact bodyPost_ret (v := .tuple #[.slice ad2 l.length c2, .int .i64 2]) (by simp [results, Try.results25, go_sem]) rfl ⟨_, by rw [HC.out], by rw [HL.out]; exact HO.out, bE⟩
        · have hmay : may k g = true := by rw [HM.out, hpk, hpg, decide_eq_false hkg]; rfl
          have hb : (k == g) = false := by simp [hkg]
          have HKG := hidden hkg
          clear HM hkg
          cases hgk : isG l k with
          | true =>
            rw [hgk] at hIk'
            have HC : Hid (doC l k g = 3) := by unfold doC; rw [Hid, HOK.out, hmay, hgk]; rfl
            have HL : Hid (doL l k g = l) := by unfold doL; rw [Hid, HOK.out, hmay, hgk]; rfl
            clear hmay
            go_wp2_with fail
            refine (hPk _).mono ?_
            rintro e w9 ⟨rfl, hw9⟩
            have hw8 := hw9.symm
            clear hw9
            subst hw8
            go_wp2_with fail
            refine (hPg _).mono ?_
            rintro e w9 ⟨rfl, hw9⟩
            have hw8 := hw9.symm
            clear hw9
            subst hw8
            go_wp2_with fail
            refine hIk'.mono ?_
            rintro e w9 ⟨rfl, hw9⟩
            have hw8 := hw9.symm
            clear hw9
            subst hw8
            go_wp2_with fail
            exact bodyPost_ret (v := .tuple #[.slice ad2 l.length c2, .int .i64 3]) (by simp [results, Try.results25, go_sem]) rfl ⟨_, by rw [HC.out], by rw [HL.out]; exact HO.out, bE⟩
          | false =>
            rw [hgk] at hIk'
            cases hgg : isG l g with
            | true =>
              rw [hgg] at hIg'
              have HC : Hid (doC l k g = 3) := by unfold doC; rw [Hid, HOK.out, hmay, hgk, hgg]; rfl
              have HL : Hid (doL l k g = l) := by unfold doL; rw [Hid, HOK.out, hmay, hgk, hgg]; rfl
              clear hmay
              go_wp2_with fail
              refine (hPk _).mono ?_
              rintro e w9 ⟨rfl, hw9⟩
              have hw8 := hw9.symm
              clear hw9
              subst hw8
              go_wp2_with fail
              refine (hPg _).mono ?_
              rintro e w9 ⟨rfl, hw9⟩
              have hw8 := hw9.symm
              clear hw9
              subst hw8
              go_wp2_with fail
              refine hIk'.mono ?_
              rintro e w9 ⟨rfl, hw9⟩
              have hw8 := hw9.symm
              clear hw9
              subst hw8
              go_wp2_with fail
              refine hIg'.mono ?_
              rintro e w9 ⟨rfl, hw9⟩
              have hw8 := hw9.symm
              clear hw9
              subst hw8
              go_wp2_with fail
              exact bodyPost_ret (v := .tuple #[.slice ad2 l.length c2, .int .i64 3]) (by simp [results, Try.results25, go_sem]) rfl ⟨_, by rw [HC.out], by rw [HL.out]; exact HO.out, bE⟩
            | false =>
              rw [hgg] at hIg'
              by_cases h200 : (l.length : Int) = 200
              · have h200' : l.length = 200 := by omega
                have HC : Hid (doC l k g = 4) := by unfold doC; rw [Hid, HOK.out, hmay, hgk, hgg, if_pos h200']; rfl
                have HL : Hid (doL l k g = l) := by unfold doL; rw [Hid, HOK.out, hmay, hgk, hgg, decide_eq_true h200']; rfl
                clear hmay h200'
                go_wp2_with fail
                refine (hPk _).mono ?_
                rintro e w9 ⟨rfl, hw9⟩
                have hw8 := hw9.symm
                clear hw9
                subst hw8
                go_wp2_with fail
                refine (hPg _).mono ?_
                rintro e w9 ⟨rfl, hw9⟩
                have hw8 := hw9.symm
                clear hw9
                subst hw8
                go_wp2_with fail
                refine hIk'.mono ?_
                rintro e w9 ⟨rfl, hw9⟩
                have hw8 := hw9.symm
                clear hw9
                subst hw8
                go_wp2_with fail
                refine hIg'.mono ?_
                rintro e w9 ⟨rfl, hw9⟩
                have hw8 := hw9.symm
                clear hw9
                subst hw8
                go_wp2_with fail
                exact bodyPost_ret (v := .tuple #[.slice ad2 l.length c2, .int .i64 4]) (by simp [results, Try.results25, go_sem]) rfl ⟨_, by rw [HC.out], by rw [HL.out]; exact HO.out, bE⟩
              · have h200' : ¬ l.length = 200 := by omega
                have HC : Hid (doC l k g = 0) := by unfold doC; rw [Hid, HOK.out, hmay, hgk, hgg, if_neg h200']; rfl
                have HL : Hid (doL l k g = l ++ [(k, g)]) := by unfold doL; rw [Hid, HOK.out, hmay, hgk, hgg, decide_eq_false h200']; rfl
                clear hmay h200'
                go_wp2_with fail
                refine (hPk _).mono ?_
                rintro e w9 ⟨rfl, hw9⟩
                have hw8 := hw9.symm
                clear hw9
                subst hw8
                go_wp2_with fail
                refine (hPg _).mono ?_
                rintro e w9 ⟨rfl, hw9⟩
                have hw8 := hw9.symm
                clear hw9
                subst hw8
                go_wp2_with fail
                refine hIk'.mono ?_
                rintro e w9 ⟨rfl, hw9⟩
                have hw8 := hw9.symm
                clear hw9
                subst hw8
                go_wp2_with fail
                refine hIg'.mono ?_
                rintro e w9 ⟨rfl, hw9⟩
                have hw8 := hw9.symm
                clear hw9
                subst hw8
                go_wp2_with (at_builtin; refine wpList_append_own _ rfl (.tmp 46) (.tmp 50) 42 rfl w1.heap.size 50 i0 (.agg #[.int .i64 0, .int .i64 0]) 2 16 Try.underlying42 hi hz0 hz1 hz2 rfl (by decide) _ l.length (cellsJ l) rfl (HW.out.alloc _) ⟨w2.heap.size, 0, none⟩ 1 1 [.int .i64 k, .int .i64 g] rfl rfl (cell_two_new _ _ _ _) (two_one k g) (by unfold maxLen; omega) (by omega) (by have := HB2.out.size; simp; omega) ?_; intro v3 w3 ho3 hgr3 hnn3)
                have b3 := (bE.alloc bE.size _).grown hgr3 (by have := bE.size; simp; omega) (fun j hj => Nat.le_trans (by have := HB2.out.size; have := b1N; omega) (own2_lt HW.out j hj))
                obtain ⟨ad3, c3, rfl⟩ := own_slice ho3
                have ho3' : w3.ownsRow w1.heap.size 50 2 (.slice ad3 (l ++ [(k, g)]).length c3) (l ++ [(k, g)]).length (cellsJ (l ++ [(k, g)])) := by rw [cellsJ_app, List.length_append]; exact ho3
                have HO3 := hidden (own1_base (own1_of ho3' (fun e => by rw [List.length_append] at e; have := (hnn3.1 e).2; omega)) b1N)
                clear ho3' ho3 hgr3 hnn3
                go_wp2_with fail
                exact bodyPost_ret (v := .tuple #[.slice ad3 (l.length + 1) c3, .int .i64 0]) (by simp [results, Try.results25, go_sem]) rfl ⟨_, by rw [HC.out], by rw [HL.out]; have q := HO3.out; rw [List.length_append] at q; exact q, b3⟩
  · rw [okB_false hno] at hS
    have HC : Hid (doC l k g = 1) := by unfold doC; rw [Hid, okB_false hno]; rfl
    have HL : Hid (doL l k g = []) := by unfold doL; rw [Hid, okB_false hno]; rfl
    clear hno h
    go_enter Try.func25, Try.ntmps25
    go_wp2_with fail
    refine hS.mono ?_
    rintro e w1 ⟨rfl, b1⟩
    go_wp2_with fail
    exact bodyPost_ret (v := .tuple #[.slice (some ⟨w1.heap.size, 0, none⟩) 0 0, .int .i64 1]) (by simp [results, Try.results25, go_sem]) rfl ⟨_, by rw [HC.out], by rw [HL.out]; exact own1_base (own1_empty w1) b1.size, b1.alloc b1.size _⟩
set_option maxRecDepth 20000 in
set_option maxHeartbeats 4000000 in
theorem ido_any (v : Value) (l : List J) (k g : Int) (w : World) (h : JRow w v l) :
    Calls Try.prog 24 #[v, .int .i64 k, .int .i64 g] w fun e w' => ∃ v', e = .returned (.tuple #[v', .int .i64 (doC l k g)]) ∧ Own w' w.heap.size v' (doL l k g) ∧ Below w.heap.size w w' := by
  have hMA := may_any k g
  have HJ := hidden h
  obtain ⟨ao, cap, rfl, hrow⟩ := h
  clear hrow
  go_enter Try.func24, Try.ntmps24
  go_wp2_with fail
  refine (bookof_any _ l w HJ.out).mono ?_
  rintro e w1 ⟨b1, ⟨hno, rfl⟩ | ⟨hyes, B, hB, rfl, hbk⟩⟩
  · have HC : Hid (doC l k g = 1) := by unfold doC; rw [Hid, okB_false hno]; rfl
    have HL : Hid (doL l k g = []) := by unfold doL; rw [Hid, okB_false hno]; rfl
    clear hno
    go_wp2_with fail
    exact bodyPost_ret (v := .tuple #[.slice (some ⟨w1.heap.size, 0, none⟩) 0 0, .int .i64 1]) (by simp [results, Try.results24, go_sem]) rfl ⟨_, by rw [HC.out], by rw [HL.out]; exact ⟨_, 0, rfl, Or.inl rfl⟩, b1.alloc b1.size _⟩
  · have hll := hyes.1
    have HOK := hidden (okB_true hyes)
    have HYES := hidden hyes.2
    have HT := hidden (says_tells l hyes.2)
    have HBK := hidden hbk
    have hN := b1.size
    have HTD := hidden (fun W (hW : Below w1.heap.size w1 W) => told_any B l.length (says l) l W (hbk.below hW) (says_tells l hyes.2) (by omega))
    clear hyes hbk
    cases hm : may k g with
    | false =>
      rw [hm] at hMA
      have HC : Hid (doC l k g = 2) := by unfold doC; rw [Hid, HOK.out, hm]; rfl
      have HL : Hid (doL l k g = l) := by unfold doL; rw [Hid, HOK.out, hm]; rfl
      go_wp2_with fail
      refine (hMA _).mono ?_
      rintro e w9 ⟨rfl, hw9⟩
      have hw8 := hw9.symm
      clear hw9
      subst hw8
      go_wp2_with fail
      refine (HTD.out w1 (Below.refl _ _)).mono ?_
      rintro e w3 ⟨v3, rfl, ho3, hb3⟩
      have b3 := onto b1 hb3
      go_wp2_with fail
      exact bodyPost_ret (v := .tuple #[v3, .int .i64 2]) (by simp [results, Try.results24, go_sem]) rfl ⟨_, by rw [HC.out], by rw [HL.out]; exact ho3.base_le hN, b3⟩
    | true =>
      rw [hm] at hMA
      have hpk := pers_wf (may_pers hm).1
      have hpg := pers_wf (may_pers hm).2
      have hwk : wfI k := wfI_of (by omega) (by omega)
      have hwg : wfI g := wfI_of (by omega) (by omega)
      have hAG := anygone_any B l.length (says l) k g w1 HBK.out hwk hwg
      rw [says_isSome, says_isSome] at hAG
      cases hg2 : (isG l k || isG l g) with
      | true =>
        rw [hg2] at hAG
        have HC : Hid (doC l k g = 3) := by unfold doC; rw [Hid, HOK.out, hm, hg2]; rfl
        have HL : Hid (doL l k g = l) := by unfold doL; rw [Hid, HOK.out, hm, hg2]; rfl
        clear hg2
        go_wp2_with fail
        refine (hMA _).mono ?_
        rintro e w9 ⟨rfl, hw9⟩
        have hw8 := hw9.symm
        clear hw9
        subst hw8
        go_wp2_with fail
        refine hAG.mono ?_
        rintro e w2 ⟨rfl, hb2⟩
        have b2 := onto b1 hb2
        have HT2 := hidden (HTD.out w2 hb2)
        have hN2 := hb2.size
        clear hAG hb2
        go_wp2_with fail
        refine HT2.out.mono ?_
        rintro e w3 ⟨v3, rfl, ho3, hb3⟩
        have b3 := onto b2 hb3
        go_wp2_with fail
        exact bodyPost_ret (v := .tuple #[v3, .int .i64 3]) (by simp [results, Try.results24, go_sem]) rfl ⟨_, by rw [HC.out], by rw [HL.out]; exact ho3.base_le (by omega), b3⟩
      | false =>
        rw [hg2] at hAG
        by_cases h200 : (l.length : Int) = 200
        · have h200' : l.length = 200 := by omega
          have HC : Hid (doC l k g = 4) := by unfold doC; rw [Hid, HOK.out, hm, hg2, if_pos h200']; rfl
          have HL : Hid (doL l k g = l) := by unfold doL; rw [Hid, HOK.out, hm, hg2, decide_eq_true h200']; rfl
          clear hg2 h200'
          go_wp2_with fail
          refine (hMA _).mono ?_
          rintro e w9 ⟨rfl, hw9⟩
          have hw8 := hw9.symm
          clear hw9
          subst hw8
          go_wp2_with fail
          refine hAG.mono ?_
          rintro e w2 ⟨rfl, hb2⟩
          have b2 := onto b1 hb2
          have HT2 := hidden (HTD.out w2 hb2)
          have hN2 := hb2.size
          clear hAG hb2
          go_wp2_with fail
          refine HT2.out.mono ?_
          rintro e w3 ⟨v3, rfl, ho3, hb3⟩
          have b3 := onto b2 hb3
          go_wp2_with fail
          exact bodyPost_ret (v := .tuple #[v3, .int .i64 4]) (by simp [results, Try.results24, go_sem]) rfl ⟨_, by rw [HC.out], by rw [HL.out]; exact ho3.base_le (by omega), b3⟩
        · have h200' : ¬ l.length = 200 := by omega
          have HC : Hid (doC l k g = 0) := by unfold doC; rw [Hid, HOK.out, hm, hg2, if_neg h200']; rfl
          have HL : Hid (doL l k g = l ++ [(k, g)]) := by unfold doL; rw [Hid, HOK.out, hm, hg2, decide_eq_false h200']; rfl
          have hgk : isG l k = false := by revert hg2; cases isG l k <;> cases isG l g <;> simp
          have hgg : isG l g = false := by revert hg2; cases isG l k <;> cases isG l g <;> simp
          have HTA := hidden (says_tells _ (ok_app l k g HYES.out hm hgk hgg))
          have HSY := hidden (fun x => says_app l (k, g) hgg x)
          clear hg2 h200' hgk hgg
          go_wp2_with fail
          refine (hMA _).mono ?_
          rintro e w9 ⟨rfl, hw9⟩
          have hw8 := hw9.symm
          clear hw9
          subst hw8
          go_wp2_with fail
          refine hAG.mono ?_
          rintro e w2 ⟨rfl, hb2⟩
          have b2 := onto b1 hb2
          obtain ⟨D, hD, hfD⟩ := HBK.out.below hb2
          have HFD := hidden hfD
          have hN2 := hb2.size
          clear hAG hb2 hfD HTD
          go_wp2_with (at_mapUpdate; refine wpList_mapUpdate_own _ rfl _ _ _ 85 rfl 2 91 key2 map56 _ B l.length D rfl hD (by unfold maxLen; omega) _ _ _ rfl rfl (keyOf_int_mk Try.underlying2 hwg) (pr k l.length) [] (pairE_mk k l.length) ?_; intro w3 ho3 hg3)
          have b3 : Below w.heap.size w w3 := b2.grown hg3 b2.size (fun j hj => by cases hj; exact hB)
          have hbk3 := (Bk.put hD HFD.out g k l.length hwg ho3).congr (g := says (l ++ [(k, g)])) (fun x _ => (HSY.out x).symm)
          have hTD := told_any B (l.length + 1) _ _ w3 hbk3 HTA.out (by simp; omega)
          have hN3 := b3.size
          clear ho3 hg3 hD hbk3
          go_wp2_with fail
          refine hTD.mono ?_
          rintro e w4 ⟨v4, rfl, ho4, hb4⟩
          have b4 := onto b3 hb4
          go_wp2_with fail
          exact bodyPost_ret (v := .tuple #[v4, .int .i64 0]) (by simp [results, Try.results24, go_sem]) rfl ⟨_, by rw [HC.out], by rw [HL.out]; exact ho4.base_le (by omega), b4⟩
end Go.Proofs.Ytdnnenklkfkhcaa
