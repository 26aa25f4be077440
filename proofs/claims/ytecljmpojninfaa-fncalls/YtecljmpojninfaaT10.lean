/-
  Calls: the specification's.
-/
import Derived.Test.YtecljmpojninfaaT9
namespace Go.Proofs.Ytecljmpojninfaa
open Go.RowKit Va Lb
set_option linter.all false

set_option maxRecDepth 20000 in
set_option maxHeartbeats 8000000 in
theorem scalls_any (ao : Option Addr) (n cap : Nat) (l : List Rs) (lo hi : Int) (w : World) (h : VRw 3 cvRs w (.slice ao n cap) l) (hn : l.length ≤ 1048576) :
    Calls Try.prog 27 #[.slice ao n cap, .int .i64 lo, .int .i64 hi] w fun e w' => ∃ v', e = .returned v' ∧ VOwn 1 cvI w' w.heap.size v' (calls l lo hi) ∧ Below w.heap.size w w' := by
  obtain rfl := h.len
  have HR := hidden h
  have HV : Hid (calls l lo hi = if ResOk l then callsTo l lo hi l.length else []) := rfl
  obtain ⟨i0, hi0, hv0, hv1, hv2⟩ := info_partsW infoW64
  have HOA := hidden (ownW_new w 2 1)
  have HBA : Hid (Below w.heap.size w (w.alloc (.cells #[] 2))) := (Below.refl _ _).alloc (Nat.le_refl _) _
  have hK := sres_any ao l.length cap l _ (HR.out.below HBA.out) hn
  generalize calls l lo hi = R at *
  clear h
  by_cases g0 : ResOk l
  · rw [decide_eq_true g0] at hK
    have HG := hidden g0
    have hl2 := g0.1
    have HN : Hid (R = callsTo l lo hi l.length) := by rw [Hid, HV.out, if_pos g0]
    clear HV g0
    go_enter Try.func27, Try.ntmps27
    go_wp2_with (go_at_call 55; refine hK.mono ?_; rintro e w1 ⟨rfl, hb1⟩)
    have HO1 := hidden (ownW_below HOA.out hb1)
    have HB1 := hidden (onto HBA.out hb1)
    clear hK hb1 HOA HBA
    go_loopw [7, 8, 9, 10] (fun ov iv _ _ wr => ∃ (i : Nat) (L : List Int), i ≤ l.length ∧ iv = .int .i64 i ∧ Hid (callsTo l lo hi i = L) ∧ (∃ ad c, ov = .slice ad L.length c ∧ wr.ownsRow w.heap.size 2 1 (.slice ad L.length c) L.length (L.map fun z => Value.int .i64 z)) ∧ Below w.heap.size w wr) (fun _ iv _ _ _ => l.length - (intOf iv).toNat)
    case atStart => exact ⟨0, [], Nat.zero_le _, rfl, rfl, ⟨_, _, rfl, HO1.out⟩, HB1.out⟩
    case round =>
      clear HO1 HB1
      obtain ⟨i, L, hi2, rfl, HL, ⟨ad, c, rfl, ho⟩, hb⟩ := hrel
      have hLn : L.length ≤ 2000 := by rw [← HL.out]; exact Nat.le_trans (calls_len l lo hi i) (by omega)
      have HO := hidden ho
      by_cases hlt : i < l.length
      · have hlti : (i : Int) < (l.length : Int) := by omega
        obtain ⟨x, hx⟩ := some_of l i hlt
        obtain ⟨hxv, hxt⟩ := res_bd HG.out hx
        obtain ⟨g, off, rfl, hg, hcs⟩ := (HR.out.below hb).at hx
        have c0 : wr.cell? ⟨g, off + i * 3, none⟩ = some (.int .i64 x.v) := hcs 0 (by omega)
        have c1 : wr.cell? ⟨g, off + i * 3 + 1, none⟩ = some (.int .i64 x.t) := hcs 1 (by omega)
        have c2 : wr.cell? ⟨g, off + i * 3 + 2, none⟩ = some (.bool x.k) := hcs 2 (by omega)
        have HX := hidden hx
        have bx : Below wr.heap.size wr (wr.alloc (.cells #[.int .i64 x.v, .int .i64 x.t, .bool x.k] 46)) := (Below.refl _ _).alloc (Nat.le_refl _) _
        have HPX := hidden (PB.new wr #[.int .i64 x.v, .int .i64 x.t, .bool x.k] 46)
        have b1 := hb.trans (bx.mono hb.size)
        have HO1 := hidden (ownW_below HO.out bx)
        have HF : Hid (farB lo hi x = (x.k && (decide (x.v < lo) || decide (hi < x.v)))) := rfl
        have HSK : Hid (farB lo hi x = false → callsTo l lo hi (i + 1) = L) := fun q => by rw [(calls_no HX.out q).1, HL.out]
        clear hx hcs
        cases hk : x.k with
        | false =>
          have HL1 : Hid (callsTo l lo hi (i + 1) = L) := HSK.out (by rw [HF.out, hk]; rfl)
          rw [hk] at c2 HO1 b1
          clear HSK HF HPX bx ho hk
          go_wp2_with fail
          go_roundw
          case rel => exact ⟨i + 1, L, by omega, rfl, HL1, ⟨_, _, rfl, HO1.out⟩, b1⟩
          case measure => simp [intOf]; omega
        | true =>
        by_cases qin : lo ≤ x.v ∧ x.v ≤ hi
        · have HL1 : Hid (callsTo l lo hi (i + 1) = L) := HSK.out (by rw [HF.out, hk]; simp; omega)
          obtain ⟨qa, qb⟩ := qin
          rw [hk] at c2 HO1 b1
          clear HSK HF HPX bx ho hk
          go_wp2_with fail
          go_roundw
          case rel => exact ⟨i + 1, L, by omega, rfl, HL1, ⟨_, _, rfl, HO1.out⟩, b1⟩
          case measure => simp [intOf]; omega
        have hfar : farB lo hi x = true := by rw [HF.out, hk]; simp; omega
        obtain ⟨og, j, pt, hao, hol, ho0, hjn, hy0, hpb, HD⟩ : ∃ (og j : Nat) (pt : Int), (0 < L.length → ad = some ⟨og, 0, none⟩) ∧ (0 < L.length → og < wr.heap.size) ∧ (0 < L.length → wr.cell? ⟨og, L.length - 1, none⟩ = some (.int .i64 (j : Int))) ∧ (0 < L.length → j < l.length) ∧ (0 < L.length → wr.cell? ⟨g, off + j * 3 + 1, none⟩ = some (.int .i64 pt)) ∧ (0 ≤ pt ∧ pt ≤ 10000000) ∧ Hid (callsTo l lo hi (i + 1) = if 0 < L.length ∧ x.t - pt < 60 then L else L ++ [(i : Int)]) := by
          rcases calls_last (l := l) (lo := lo) (hi := hi) (i := i) with ⟨q1, q2⟩ | ⟨L', j, p, q1, q2, q3, q4, q5⟩
          · have hL0 : L = [] := by rw [← HL.out]; exact q1
            subst hL0
            refine ⟨0, 0, 0, fun q => absurd q (by simp), fun q => absurd q (by simp), fun q => absurd q (by simp), fun q => absurd q (by simp), fun q => absurd q (by simp), ⟨by omega, by omega⟩, ?_⟩
            rw [Hid, (calls_none HX.out hfar q2).1, q1, if_neg (by simp)]
          · have hLL : L = L' ++ [(j : Int)] := by rw [← HL.out]; exact q1
            have hLp : 0 < L.length := by rw [hLL]; simp
            obtain ⟨og, ha, hgl, hcl⟩ := ownW_someT ho hLp
            obtain ⟨g', off', he, _, hcs'⟩ := (HR.out.below hb).at q4
            obtain ⟨rfl, rfl⟩ : g = g' ∧ off = off' := by simpa using he
            refine ⟨og, j, p.t, fun _ => ha, fun _ => hgl, fun _ => hcl _ _ (by rw [hLL]; simp), fun _ => by omega, fun _ => hcs' 1 (by omega), (res_bd HG.out q4).2, ?_⟩
            by_cases q : x.t - p.t < 60
            · rw [Hid, (calls_near HX.out hfar q2 q).1, HL.out, if_pos ⟨hLp, q⟩]
            · rw [Hid, (calls_far HX.out hfar q2 q).1, HL.out, if_neg (fun z => q z.2)]
        have cc : ∀ b o, b < wr.heap.size → (wr.alloc (.cells #[.int .i64 x.v, .int .i64 x.t, .bool x.k] 46)).cell? ⟨b, o, none⟩ = wr.cell? ⟨b, o, none⟩ := fun b o q => bx.cell (p := ⟨b, o, none⟩) q
        have A1 := hidden hao
        have A2 := hidden (fun q => Nat.lt_of_lt_of_le (hol q) bx.size)
        have A3 := hidden (fun q => (cc _ _ (hol q)).trans (ho0 q))
        have A4 := hidden hjn
        have A5 := hidden (fun q => (cc _ _ hg).trans (hy0 q))
        have A6 := hidden (Nat.lt_of_lt_of_le hg bx.size)
        have A7 := hidden hpb
        have A8 := hidden hxt
        have A9 := hidden (HPX.out.three.2.1)
        have A10 := hidden HPX.out.lt
        have hqf : ¬ (lo ≤ x.v ∧ x.v ≤ hi) := qin
        rw [hk] at c2 HO1 b1 A2 A3 A5 A6 A9 A10
        clear HSK HF HPX bx ho hk hao hol ho0 hjn hy0 hpb hxt hxv cc hfar qin
        have key : ∀ (T : Prop), T → T := fun _ h => h
        by_cases qlo : lo ≤ x.v
        · have qhi : ¬ x.v ≤ hi := fun q => hqf ⟨qlo, q⟩
          clear hqf key
          go_upto_region 10 with fail
          refine regCa10 (og := og) (j := j) (xt := x.t) (pt := pt) rfl rfl rfl rfl rfl (by omega) (by omega) A6.out A10.out A9.out A1.out A2.out A3.out A4.out A5.out A8.out A7.out ?_
          intro b' w3 hf hb3 hv
          rw [layCa10 hf, hv]
          clear hv hf A1 A2 A3 A4 A5 A6 A7 A8 A9 A10
          generalize Rg.out (Rg.opsOf Try.f27 10) b' 0 = y0
          generalize Rg.out (Rg.opsOf Try.f27 10) b' 1 = y1
          generalize Rg.out (Rg.opsOf Try.f27 10) b' 2 = y2
          generalize Rg.out (Rg.opsOf Try.f27 10) b' 3 = y3
          generalize Rg.out (Rg.opsOf Try.f27 10) b' 4 = y4
          generalize Rg.out (Rg.opsOf Try.f27 10) b' 5 = y5
          generalize Rg.out (Rg.opsOf Try.f27 10) b' 6 = y6
          generalize Rg.out (Rg.opsOf Try.f27 10) b' 7 = y7
          generalize Rg.out (Rg.opsOf Try.f27 10) b' 8 = y8
          generalize Rg.out (Rg.opsOf Try.f27 10) b' 9 = y9
          generalize Rg.out (Rg.opsOf Try.f27 10) b' 10 = y10
          generalize Rg.out (Rg.opsOf Try.f27 10) b' 11 = y11
          generalize Rg.out (Rg.opsOf Try.f27 10) b' 12 = y12
          generalize Rg.out (Rg.opsOf Try.f27 10) b' 13 = y13
          generalize Rg.out (Rg.opsOf Try.f27 10) b' 14 = y14
          generalize Rg.out (Rg.opsOf Try.f27 10) b' 15 = y15
          have HO4 := hidden (ownW_below HO1.out hb3)
          have hb5 := b1.trans (hb3.mono b1.size)
          have hsz := hb5.size
          clear hb3 b1 HO1 hb HO
          generalize hBq : ((decide ((0 : Int) < (L.length : Int))) && (decide (x.t - pt < 60))) = Bq at *
          go_frame
          cases Bq with
          | true =>
            simp only [Bool.and_eq_true, decide_eq_true_eq] at hBq
            have HL1 : Hid (callsTo l lo hi (i + 1) = L) := by rw [Hid, HD.out, if_pos ⟨by omega, hBq.2⟩]
            clear hBq HD
            go_wp2_with fail
            go_roundw
            case rel => exact ⟨i + 1, L, by omega, rfl, HL1, ⟨_, _, rfl, HO4.out⟩, hb5⟩
            case measure => simp [intOf]; omega
          | false =>
            have HL1 : Hid (callsTo l lo hi (i + 1) = L ++ [(i : Int)]) := by
              rw [Hid, HD.out, if_neg]
              rintro ⟨z1, z2⟩
              have z3 : (0 : Int) < (L.length : Int) := by omega
              rw [decide_eq_true z3, decide_eq_true z2] at hBq
              cases hBq
            clear hBq HD
            go_wp2_with (at_builtin; refine wpList_append_own _ rfl (.tmp 60) (.tmp 62) 24 rfl w.heap.size 2 i0 (.int .i64 0) 1 8 Try.underlying24 hi0 hv0 hv1 hv2 rfl (by decide) _ L.length (L.map fun z => Value.int .i64 z) rfl (HO4.out.alloc _) ⟨w3.heap.size, 0, none⟩ 1 1 [.int .i64 (i : Int)] rfl rfl (cell_oneW _ _ _) (by simp [Value.oneCell']) (by unfold maxLen; omega) (by omega) (by simp; omega) ?_; intro v5 w5 ho5 hg5 hn5; obtain ⟨ad5, c5, rfl⟩ := ownW_slice ho5)
            have b5 := (hb5.alloc hsz (.cells #[.int .i64 (i : Int)] 2)).grown hg5 (by simp; omega) (fun k hk => (ownW_lt HO4.out k hk).1)
            go_roundw
            case rel => exact ⟨i + 1, L ++ [(i : Int)], by omega, rfl, HL1, ⟨_, _, by rw [List.length_append]; rfl, by rw [List.map_append, List.length_append]; exact ho5⟩, b5⟩
            case measure => simp [intOf]; omega
        · clear hqf key
          go_upto_region 10 with fail
          refine regCa10 (og := og) (j := j) (xt := x.t) (pt := pt) rfl rfl rfl rfl rfl (by omega) (by omega) A6.out A10.out A9.out A1.out A2.out A3.out A4.out A5.out A8.out A7.out ?_
          intro b' w3 hf hb3 hv
          rw [layCa10 hf, hv]
          clear hv hf A1 A2 A3 A4 A5 A6 A7 A8 A9 A10
          generalize Rg.out (Rg.opsOf Try.f27 10) b' 0 = y0
          generalize Rg.out (Rg.opsOf Try.f27 10) b' 1 = y1
          generalize Rg.out (Rg.opsOf Try.f27 10) b' 2 = y2
          generalize Rg.out (Rg.opsOf Try.f27 10) b' 3 = y3
          generalize Rg.out (Rg.opsOf Try.f27 10) b' 4 = y4
          generalize Rg.out (Rg.opsOf Try.f27 10) b' 5 = y5
          generalize Rg.out (Rg.opsOf Try.f27 10) b' 6 = y6
          generalize Rg.out (Rg.opsOf Try.f27 10) b' 7 = y7
          generalize Rg.out (Rg.opsOf Try.f27 10) b' 8 = y8
          generalize Rg.out (Rg.opsOf Try.f27 10) b' 9 = y9
          generalize Rg.out (Rg.opsOf Try.f27 10) b' 10 = y10
          generalize Rg.out (Rg.opsOf Try.f27 10) b' 11 = y11
          generalize Rg.out (Rg.opsOf Try.f27 10) b' 12 = y12
          generalize Rg.out (Rg.opsOf Try.f27 10) b' 13 = y13
          generalize Rg.out (Rg.opsOf Try.f27 10) b' 14 = y14
          generalize Rg.out (Rg.opsOf Try.f27 10) b' 15 = y15
          have HO4 := hidden (ownW_below HO1.out hb3)
          have hb5 := b1.trans (hb3.mono b1.size)
          have hsz := hb5.size
          clear hb3 b1 HO1 hb HO
          generalize hBq : ((decide ((0 : Int) < (L.length : Int))) && (decide (x.t - pt < 60))) = Bq at *
          go_frame
          cases Bq with
          | true =>
            simp only [Bool.and_eq_true, decide_eq_true_eq] at hBq
            have HL1 : Hid (callsTo l lo hi (i + 1) = L) := by rw [Hid, HD.out, if_pos ⟨by omega, hBq.2⟩]
            clear hBq HD
            go_wp2_with fail
            go_roundw
            case rel => exact ⟨i + 1, L, by omega, rfl, HL1, ⟨_, _, rfl, HO4.out⟩, hb5⟩
            case measure => simp [intOf]; omega
          | false =>
            have HL1 : Hid (callsTo l lo hi (i + 1) = L ++ [(i : Int)]) := by
              rw [Hid, HD.out, if_neg]
              rintro ⟨z1, z2⟩
              have z3 : (0 : Int) < (L.length : Int) := by omega
              rw [decide_eq_true z3, decide_eq_true z2] at hBq
              cases hBq
            clear hBq HD
            go_wp2_with (at_builtin; refine wpList_append_own _ rfl (.tmp 60) (.tmp 62) 24 rfl w.heap.size 2 i0 (.int .i64 0) 1 8 Try.underlying24 hi0 hv0 hv1 hv2 rfl (by decide) _ L.length (L.map fun z => Value.int .i64 z) rfl (HO4.out.alloc _) ⟨w3.heap.size, 0, none⟩ 1 1 [.int .i64 (i : Int)] rfl rfl (cell_oneW _ _ _) (by simp [Value.oneCell']) (by unfold maxLen; omega) (by omega) (by simp; omega) ?_; intro v5 w5 ho5 hg5 hn5; obtain ⟨ad5, c5, rfl⟩ := ownW_slice ho5)
            have b5 := (hb5.alloc hsz (.cells #[.int .i64 (i : Int)] 2)).grown hg5 (by simp; omega) (fun k hk => (ownW_lt HO4.out k hk).1)
            go_roundw
            case rel => exact ⟨i + 1, L ++ [(i : Int)], by omega, rfl, HL1, ⟨_, _, by rw [List.length_append]; rfl, by rw [List.map_append, List.length_append]; exact ho5⟩, b5⟩
            case measure => simp [intOf]; omega
      · have hlti : ¬ (i : Int) < (l.length : Int) := by omega
        have hil : i = l.length := by omega
        subst hil
        go_wp2_with fail
        go_ret
        have hRL : R = L := by rw [HN.out, HL.out]
        rw [hRL]
        exact ⟨_, rfl, vownI ho, hb⟩
  · rw [decide_eq_false g0] at hK
    have HN : Hid (R = []) := by rw [Hid, HV.out, if_neg g0]
    clear HV g0
    go_enter Try.func27, Try.ntmps27
    go_wp2_with (go_at_call 55; refine hK.mono ?_; rintro e w1 ⟨rfl, hb1⟩)
    go_ret
    exact vownE (b := 0) HN.out rfl (ownW_below HOA.out hb1) (onto HBA.out hb1)
end Go.Proofs.Ytecljmpojninfaa
