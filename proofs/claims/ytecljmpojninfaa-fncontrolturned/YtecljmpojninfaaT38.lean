/-
  Values turned over at the target are told alike: the walk of the law.
-/
import Derived.Test.YtecljmpojninfaaT37
import Derived.Test.YtecljmpojninfaaT31
import Derived.Test.YtecljmpojninfaaT35
import Derived.BigQuiet
namespace Go.Proofs.Ytecljmpojninfaa
open Go.RowKit Va Lb
set_option linter.all false

theorem ctl_said {t s : Int} {l : List Int} {i : Nat} (hi : i < (control t s l).length) : ∃ x c, l[i]? = some x ∧ (control t s l)[i]? = some c ∧ (-100000 ≤ x ∧ x ≤ 100000) ∧ (-100000 ≤ t ∧ t ≤ 100000) ∧ (1 ≤ s ∧ s ≤ 100000) ∧ (c = 0 → ¬ (2 * s < x - t ∨ x - t < -2 * s)) ∧ (c = 1 ↔ (3 * s < x - t ∨ x - t < -3 * s)) := by
  by_cases q : CtlOk t s l
  · have e : control t s l = ctlTo t s l l.length := by unfold Lb.control; rw [if_pos q]
    rw [e, ctlTo_len] at hi
    obtain ⟨x, hx⟩ := some_of l i hi
    have hxb := q.2.2.2 x (List.mem_of_getElem? hx)
    refine ⟨x, _, hx, by rw [e]; exact ctlTo_get hi, hxb, q.1, q.2.1, ?_⟩
    refine code_said (i := i) (d := x - t) ?_ ?_
    · unfold offs; rw [List.length_map, List.length_take]; omega
    · unfold offs
      rw [List.getElem?_map, List.getElem?_take, if_pos (by omega), hx]; rfl
  · exfalso
    have e : control t s l = [] := by unfold Lb.control; rw [if_neg q]
    rw [e] at hi
    exact absurd hi (by simp)
theorem turn_more {l L : List Int} {i : Nat} {x : Int} (h : L = (l.take i).map tn) (hx : l[i]? = some x) : L ++ [wrap64 (-x)] = (l.take (i + 1)).map tn := by
  rw [h, List.take_succ, hx, List.map_append]
  rfl

set_option maxRecDepth 20000 in
set_option maxHeartbeats 2000000 in
theorem sameI_any (a1 : Option Addr) (n1 c1 : Nat) (a2 : Option Addr) (n2 c2 : Nat) (l : List Int) (w : World) (h : VRw 1 cvI w (.slice a1 n1 c1) l) (h' : VRw 1 cvI w (.slice a2 n2 c2) l) (hn : l.length ≤ 1048576) :
    Calls Try.prog 13 #[.slice a1 n1 c1, .slice a2 n2 c2] w fun e w' => e = .returned (.bool true) ∧ Below w.heap.size w w' := by
  obtain rfl := h.len
  obtain rfl := h'.len
  have HH := hidden h
  have HH' := hidden h'
  clear h h'
  go_enter Try.func13, Try.ntmps13
  go_wp2_with fail
  go_loopw [5] (fun iv wr => ∃ i : Nat, i ≤ l.length ∧ iv = .int .i64 i ∧ Below w.heap.size w wr) (fun iv _ => l.length - (intOf iv).toNat)
  case atStart => exact ⟨0, Nat.zero_le _, rfl, Below.refl _ _⟩
  case round =>
    obtain ⟨i, hil, rfl, hb⟩ := hrel
    by_cases hlt : i < l.length
    · have hlti : (i : Int) < (l.length : Int) := by omega
      obtain ⟨x, hx⟩ := some_of l i hlt
      obtain ⟨g, off, rfl, hg, c0⟩ := vint_cell (HH.out.below hb) hx
      obtain ⟨g', off', rfl, hg', d0⟩ := vint_cell (HH'.out.below hb) hx
      clear hx
      go_wp2_with fail
      go_quiet (fail)
      go_wp2_with fail
      go_roundw
      case rel => exact ⟨i + 1, by omega, rfl, by repeat (first | exact Below.refl _ _ | assumption | refine st_drew ?_ | refine st_drewN ?_ _ | refine Below.setCell ?_ (by first | omega | (simp; done) | (simp; omega)) _ | refine Below.alloc ?_ (by first | omega | (simp; done) | (simp; omega)) _)⟩
      case measure => simp [intOf]; omega
    · have hlti : ¬ (i : Int) < (l.length : Int) := by omega
      go_wp2_with fail
      go_ret
      exact ⟨rfl, hb⟩

set_option maxRecDepth 20000 in
set_option maxHeartbeats 8000000 in
theorem fct_walk (ao : Option Addr) (cap : Nat) (bs : List Int) (w : World) (hb : Bytes w w.heap.size ao bs) :
    Calls Try.prog 3 #[.slice ao bs.length cap] w fun e w' => e = .returned (.bool true) ∧ Below w.heap.size w w' := by
  have hB := big_any ao cap bs.length
  have HBY := hidden hb
  clear hb
  by_cases hbig : (4096 : Int) < (bs.length : Int)
  · rw [decide_eq_true hbig] at hB
    go_enter Try.func3, Try.ntmps3
    go_wp2_with fail
    refine (hB _).mono ?_
    rintro e w1 ⟨rfl, rfl⟩
    go_wp2_with fail
    go_ret
    exact ⟨rfl, Below.refl _ _⟩
  rw [decide_eq_false hbig] at hB
  have hl : bs.length ≤ 4096 := by omega
  obtain ⟨i0, hi0, hy0, hy1, hy2⟩ := info_partsW infoW64
  go_enter Try.func3, Try.ntmps3
  go_wp2_with fail
  refine (hB w).mono ?_
  rintro e w1 ⟨rfl, hw1⟩
  subst hw1
  clear hB
  go_wp2_with fail
  refine (dcontrol_any ao cap bs _ HBY.out (by omega)).mono ?_
  rintro e w2 ⟨t, s, v, l, rfl, hr, hll, ht, hlr, b2⟩
  obtain ⟨al, cl, rfl⟩ := hr.form
  have HR := hidden hr
  have HT := hidden ht
  have HLR := hidden hlr
  clear hr ht hlr HBY
  go_wp2_with fail
  refine (icontrol_any t s al l.length cl l _ HR.out (by omega)).mono ?_
  rintro e w3 ⟨v3, rfl, ho3, hb3⟩
  obtain ⟨a3, c3, rfl⟩ := ho3.row.form
  have HD3 := hidden ho3.row
  have b3 := onto b2 hb3
  have HR3 := hidden (HR.out.below hb3)
  clear ho3 hb3 b2 HR
  have HSP := hidden (scontrol_any t s al l.length cl l _ HR3.out (by omega))
  have HSO := hidden (fun i (hi : i < (control t s l).length) => ctl_said hi)
  have HTU := hidden (control_turn (s := s) HT.out HLR.out)
  have hDl := control_len t s l
  generalize control t s l = D at *
  clear HT HLR
  go_wp2_with fail
  refine HSP.out.mono ?_
  rintro e w4 ⟨v4, rfl, ho4, hb4⟩
  obtain ⟨a4, c4, rfl⟩ := ho4.row.form
  have HD := hidden (HD3.out.below hb4)
  have b4 := onto b3 hb4
  have HL := hidden (HR3.out.below hb4)
  clear ho4 hb4 b3 HR3 HD3 HSP
  have HO := hidden (ownW_new w4 2 1)
  have HBA := hidden ((Below.refl w4.heap.size w4).alloc (Nat.le_refl _) (.cells #[] 2))
  generalize hwA : w4.alloc (.cells #[] 2) = wA at *
  generalize hv0 : Value.slice (some ⟨w4.heap.size, 0, none⟩) 0 0 = v0 at *
  go_wp2_with fail
  go_loopw [7, 8] (fun v iv wr => ∃ (i : Nat) (L : List Int), i ≤ l.length ∧ iv = .int .i64 i ∧ Hid (L = (l.take i).map tn) ∧ L.length ≤ 25 ∧ Hid (wr.ownsRow w4.heap.size 2 1 v L.length (L.map fun z => Value.int .i64 z)) ∧ Below w4.heap.size w4 wr) (fun _ iv _ => l.length - (intOf iv).toNat)
  case atStart => exact ⟨0, [], Nat.zero_le _, rfl, rfl, by simp, HO, HBA.out⟩
  case round =>
    clear HO HBA hwA hv0
    obtain ⟨i, L, hi, rfl, HE, hLl, ho, hbr⟩ := hrel
    obtain ⟨ad, c, rfl⟩ := ownW_slice ho.out
    have zr := hbr.size
    by_cases hlt : i < l.length
    · have hlti : (i : Int) < (l.length : Int) := by omega
      obtain ⟨x, hx⟩ := some_of l i hlt
      obtain ⟨g, off, rfl, hg, c0⟩ := vint_cell (HL.out.below hbr) hx
      have HE2 := hidden (turn_more HE.out hx)
      have hL24 : L.length ≤ 24 := by
        have := congrArg List.length HE.out
        rw [List.length_map, List.length_take] at this
        omega
      have HOA := hidden (ownW_below ho.out ((Below.refl _ _).alloc (Nat.le_refl _) (.cells #[.int .i64 (wrap64 (-x))] 2)))
      have HBR := hidden hbr
      clear hx HE ho hbr
      go_wp2_with (at_builtin; refine wpList_append_own _ rfl (.tmp 38) (.tmp 44) 24 rfl w4.heap.size 2 i0 (.int .i64 0) 1 8 Try.underlying24 hi0 hy0 hy1 hy2 rfl (by decide) _ L.length (L.map fun z => Value.int .i64 z) rfl HOA.out ⟨wr.heap.size, 0, none⟩ 1 1 [.int .i64 (wrap64 (-x))] rfl rfl (cell_oneD _ _ _) (by simp [Value.oneCell']) (by unfold maxLen; omega) (by omega) (by simp; omega) ?_; intro v6 w6 ho6 hg6 hnn6)
      have hb6 := (HBR.out.alloc (Nat.le_trans (Nat.le_refl _) zr) (.cells #[.int .i64 (wrap64 (-x))] 2)).grown hg6 (by simp; omega) (fun k hk => (ownW_lt HOA.out k hk).1)
      have ho7 : w6.ownsRow w4.heap.size 2 1 v6 (L ++ [wrap64 (-x)]).length ((L ++ [wrap64 (-x)]).map fun z => Value.int .i64 z) := by rw [List.length_append, List.map_append]; exact ho6
      go_roundw
      case rel => exact ⟨i + 1, L ++ [wrap64 (-x)], by omega, rfl, HE2, by simp; omega, ho7, hb6⟩
      case measure => simp [intOf]; omega
    · have hlti : ¬ (i : Int) < (l.length : Int) := by omega
      have hLe : L = l.map tn := by
        have := HE.out
        rw [List.take_of_length_le (by omega)] at this
        exact this
      have HC := icontrol_any (wrap64 (-t)) s ad L.length c L wr (vownI ho.out).row (by omega)
      rw [show control (wrap64 (-t)) s L = D by rw [hLe]; exact HTU.out] at HC
      have HC := hidden HC
      have HLr := hidden (HL.out.below hbr)
      have HDr := hidden (HD.out.below hbr)
      have br := onto b4 hbr
      clear hLe HE HTU ho hbr HL HD b4
      go_wp2_with fail
      refine HC.out.mono ?_
      rintro e w5 ⟨v5, rfl, ho5, hb5⟩
      obtain ⟨a5, c5, rfl⟩ := ho5.row.form
      have HS := hidden (sameI_any a5 D.length c5 a3 D.length c3 D w5 ho5.row (HDr.out.below hb5) (by omega))
      have HL5 := hidden (HLr.out.below hb5)
      have HD5 := hidden (HDr.out.below hb5)
      have b5 := onto br hb5
      clear ho5 hb5 br HLr HDr HC
      go_wp2_with fail
      refine HS.out.mono ?_
      rintro e w6 ⟨rfl, hb6⟩
      have HL6 := hidden (HL5.out.below hb6)
      have HD6 := hidden (HD5.out.below hb6)
      have b6 := onto b5 hb6
      clear hb6 b5 HL5 HD5 HS
      go_wp2_with fail
      go_loopw [9, 10] (fun iv _ wr => ∃ i : Nat, i ≤ D.length ∧ iv = .int .i64 i ∧ Below w6.heap.size w6 wr) (fun iv _ _ => D.length - (intOf iv).toNat)
      case atStart => exact ⟨0, Nat.zero_le _, rfl, Below.refl _ _⟩
      case round =>
        obtain ⟨j, hj, rfl, hbr⟩ := hrel
        by_cases hjt : j < D.length
        · have hjti : (j : Int) < (D.length : Int) := by omega
          obtain ⟨x, cd, hx, hcd, ⟨x0, x1⟩, ⟨t0, t1⟩, ⟨s0, s1⟩, k0, k1⟩ := HSO.out j hjt
          have hjl : (j : Int) < (l.length : Int) := by have := get_ltL hx; omega
          obtain ⟨g, off, rfl, hg, e0⟩ := vint_cell (HL6.out.below hbr) hx
          obtain ⟨g2, off2, rfl, hg2, e1⟩ := vint_cell (HD6.out.below hbr) hcd
          clear hx hcd
          by_cases q0 : cd = 0
          · subst q0
            have n1 : ¬ 2 * s < x - t := fun h => k0 rfl (.inl h)
            have n2 : ¬ x - t < -2 * s := fun h => k0 rfl (.inr h)
            have n3 : ¬ 3 * s < x - t := by omega
            have n4 : ¬ x - t < -3 * s := by omega
            clear k0 k1
            go_wp2_with fail
            go_roundw
            case rel => exact ⟨j + 1, by omega, rfl, hbr⟩
            case measure => simp [intOf]; omega
          by_cases q1 : cd = 1
          · subst q1
            by_cases n3 : 3 * s < x - t
            · clear k0 k1
              go_wp2_with fail
              go_roundw
              case rel => exact ⟨j + 1, by omega, rfl, hbr⟩
              case measure => simp [intOf]; omega
            · have n4 : x - t < -3 * s := (k1.1 rfl).resolve_left n3
              clear k0 k1
              go_wp2_with fail
              go_roundw
              case rel => exact ⟨j + 1, by omega, rfl, hbr⟩
              case measure => simp [intOf]; omega
          · have n3 : ¬ 3 * s < x - t := fun h => q1 (k1.2 (.inl h))
            have n4 : ¬ x - t < -3 * s := fun h => q1 (k1.2 (.inr h))
            have q2 : (cd == 0) = false := by rw [beq_eq_false_iff_ne]; exact q0
            have q3 : (cd == 1) = false := by rw [beq_eq_false_iff_ne]; exact q1
            clear k0 k1
            go_wp2_with fail
            go_roundw
            case rel => exact ⟨j + 1, by omega, rfl, hbr⟩
            case measure => simp [intOf]; omega
        · have hjti : ¬ (j : Int) < (D.length : Int) := by omega
          go_wp2_with fail
          go_ret
          exact ⟨rfl, onto b6 hbr⟩
end Go.Proofs.Ytecljmpojninfaa
