/-
  Delta and Calls: the specification's.
-/
import Derived.Test.YtecljmpojninfabT8
import Derived.Test.YtecljmpojninfabT9a
namespace Go.Proofs.Ytecljmpojninfab
open Go.RowKit Va Lb
set_option linter.all false

def lvOf (o : Option (Nat × Rs)) : Int := match o with | none => -1 | some p => (p.1 : Int)
theorem ownW_someT {w : World} {b e n cc : Nat} {ca : Option Addr} {xs : List Value} (h : w.ownsRow b e 1 (.slice ca n cc) n xs) (hn : 0 < n) : ∃ g, ca = some ⟨g, 0, none⟩ ∧ g < w.heap.size ∧ ∀ (j : Nat) (u : Value), xs[j]? = some u → w.cell? ⟨g, j, none⟩ = some u := by
  obtain ⟨hl, ⟨q1, q2⟩ | ⟨g, cap, cur, q1, hg, hh, h5, h6, h7, h8⟩⟩ := h
  · omega
  · simp only [Value.slice.injEq] at q1
    refine ⟨g, q1.1, (Array.getElem?_eq_some_iff.1 hh).1, fun j u hu => ?_⟩
    have hj : j < xs.length := (List.getElem?_eq_some_iff.1 hu).1
    rw [← h8, List.getElem?_take] at hu
    split at hu
    · simp only [World.cell?, hh]
      rw [← Array.getElem?_toList]; exact hu
    · cases hu
theorem res_bd {l : List Rs} (h : ResOk l) {i : Nat} {x : Rs} (hx : l[i]? = some x) : (-100000 ≤ x.v ∧ x.v ≤ 100000) ∧ (0 ≤ x.t ∧ x.t ≤ 10000000) := by
  have := resB_iff.1 (h.2 i x hx).1
  exact ⟨this.1, this.2.2⟩
theorem vownE {W : World} {b : Nat} {R : List Int} (hR : R = []) {v' : Value} {w : World} (hv : v' = .slice (some ⟨w.heap.size, 0, none⟩) 0 0) (hW : W.ownsRow w.heap.size 2 1 (.slice (some ⟨w.heap.size, 0, none⟩) 0 0) 0 []) (hb : Below w.heap.size w W) : ∃ v'', Ending.returned v' = .returned v'' ∧ VOwn 1 cvI W w.heap.size v'' R ∧ Below w.heap.size w W :=
  ⟨v', rfl, by rw [hv, hR]; exact vownI hW, hb⟩

set_option maxRecDepth 20000 in
set_option maxHeartbeats 8000000 in
theorem sdelta_any (ao : Option Addr) (n cap : Nat) (l : List Rs) (m wi : Int) (w : World) (h : VRw 3 cvRs w (.slice ao n cap) l) (hn : l.length ≤ 1048576) :
    Calls Try.prog 16 #[.slice ao n cap, .int .i64 m, .int .i64 wi] w fun e w' => ∃ v', e = .returned v' ∧ VOwn 1 cvI w' w.heap.size v' (delta l m wi) ∧ Below w.heap.size w w' := by
  obtain rfl := h.len
  have HR := hidden h
  have HV : Hid (delta l m wi = if ResOk l ∧ 0 ≤ m ∧ 0 ≤ wi then deltaTo l m wi l.length else []) := rfl
  obtain ⟨i0, hi0, hv0, hv1, hv2⟩ := info_partsW infoW64
  have HOA := hidden (ownW_new w 2 1)
  have HBA : Hid (Below w.heap.size w (w.alloc (.cells #[] 2))) := (Below.refl _ _).alloc (Nat.le_refl _) _
  have hK := sres_any ao l.length cap l _ (HR.out.below HBA.out) hn
  generalize delta l m wi = R at *
  clear h
  by_cases g0 : ResOk l
  · rw [decide_eq_true g0] at hK
    have HG := hidden g0
    have hl2 := g0.1
    by_cases g1 : m < 0
    · have HN : Hid (R = []) := by rw [Hid, HV.out, if_neg (by omega)]
      clear HV g0
      go_enter Try.func16, Try.ntmps16
      go_wp2_with (go_at_call 27; refine hK.mono ?_; rintro e w1 ⟨rfl, hb1⟩)
      go_ret
      exact vownE (b := 0) HN.out rfl (ownW_below HOA.out hb1) (onto HBA.out hb1)
    by_cases g2 : wi < 0
    · have HN : Hid (R = []) := by rw [Hid, HV.out, if_neg (by omega)]
      clear HV g0
      go_enter Try.func16, Try.ntmps16
      go_wp2_with (go_at_call 27; refine hK.mono ?_; rintro e w1 ⟨rfl, hb1⟩)
      go_ret
      exact vownE (b := 0) HN.out rfl (ownW_below HOA.out hb1) (onto HBA.out hb1)
    have HN : Hid (R = deltaTo l m wi l.length) := by rw [Hid, HV.out, if_pos ⟨g0, by omega, by omega⟩]
    clear HV g0
    go_enter Try.func16, Try.ntmps16
    go_wp2_with (go_at_call 27; refine hK.mono ?_; rintro e w1 ⟨rfl, hb1⟩)
    have HO1 := hidden (ownW_below HOA.out hb1)
    have HB1 := hidden (onto HBA.out hb1)
    clear hK hb1 HOA HBA
    go_loopw [7, 8, 9, 10] (fun ov lv iv _ wr => ∃ (i : Nat) (L : List Int), i ≤ l.length ∧ iv = .int .i64 i ∧ lv = .int .i64 (lvOf (lastK l i)) ∧ Hid (deltaTo l m wi i = L) ∧ (∃ ad c, ov = .slice ad L.length c ∧ wr.ownsRow w.heap.size 2 1 (.slice ad L.length c) L.length (L.map fun z => Value.int .i64 z)) ∧ Below w.heap.size w wr) (fun _ _ iv _ _ => l.length - (intOf iv).toNat)
    case atStart => exact ⟨0, [], Nat.zero_le _, rfl, rfl, rfl, ⟨_, _, rfl, HO1.out⟩, HB1.out⟩
    case round =>
      clear HO1 HB1
      obtain ⟨i, L, hi, rfl, rfl, HL, ⟨ad, c, rfl, ho⟩, hb⟩ := hrel
      have hsz := hb.size
      have hLn : L.length ≤ 2000 := by rw [← HL.out]; exact Nat.le_trans (delta_len l m wi i) (by omega)
      have HO := hidden ho
      by_cases hlt : i < l.length
      · have hlti : (i : Int) < (l.length : Int) := by omega
        obtain ⟨x, hx⟩ := some_of l i hlt
        obtain ⟨hxv, hxt⟩ := res_bd HG.out hx
        obtain ⟨g, off, rfl, hg, hcs⟩ := (HR.out.below hb).at hx
        have c0 : wr.cell? ⟨g, off + i * 3, none⟩ = some (.int .i64 x.v) := hcs 0 (by omega)
        have c1 : wr.cell? ⟨g, off + i * 3 + 1, none⟩ = some (.int .i64 x.t) := hcs 1 (by omega)
        have c2 : wr.cell? ⟨g, off + i * 3 + 2, none⟩ = some (.bool x.k) := hcs 2 (by omega)
        have HX := hidden hx
        clear hx hcs ho
        cases hk : x.k with
        | false =>
          rw [hk] at c2
          have HL1 : Hid (deltaTo l m wi (i + 1) = L) := by rw [Hid, delta_no HX.out hk, HL.out]
          have HK1 : Hid (lastK l (i + 1) = lastK l i) := lastK_no HX.out hk
          clear c0 c1 hk
          go_wp2_with fail
          go_roundw
          case rel => exact ⟨i + 1, L, by omega, rfl, by rw [HK1.out], HL1, ⟨_, _, rfl, HO.out⟩, hb⟩
          case measure => simp [intOf]; omega
        | true =>
          rw [hk] at c2
          have HK1 : Hid (lastK l (i + 1) = some (i, x)) := lastK_yes HX.out hk
          obtain ⟨j, p, hlj, hjn, hpc, hpb, HD⟩ : ∃ (j : Nat) (p : Rs), (0 ≤ lvOf (lastK l i) → lvOf (lastK l i) = (j : Int)) ∧ (0 ≤ lvOf (lastK l i) → j < l.length) ∧ (0 ≤ lvOf (lastK l i) → (wr.cell? ⟨g, off + j * 3 + 1, none⟩ = some (.int .i64 p.t) ∧ wr.cell? ⟨g, off + j * 3, none⟩ = some (.int .i64 p.v))) ∧ ((-100000 ≤ p.v ∧ p.v ≤ 100000) ∧ (0 ≤ p.t ∧ p.t ≤ 10000000)) ∧ Hid (deltaTo l m wi (i + 1) = if 0 ≤ lvOf (lastK l i) ∧ dlB m wi p x = true then L ++ [(i : Int)] else L) := by
            cases hq : lastK l i with
            | none =>
              refine ⟨0, ⟨0, 0, false⟩, fun q => absurd q (by simp [lvOf]), fun q => absurd q (by simp [lvOf]), fun q => absurd q (by simp [lvOf]), ⟨⟨by simp, by simp⟩, ⟨by simp, by simp⟩⟩, ?_⟩
              rw [Hid, delta_none HX.out hq, HL.out, if_neg (by simp [lvOf])]
            | some jp =>
              obtain ⟨j, p⟩ := jp
              obtain ⟨q1, q2, q3⟩ := lastK_some hq
              obtain ⟨g', off', he, _, hcs'⟩ := (HR.out.below hb).at q2
              obtain ⟨rfl, rfl⟩ : g = g' ∧ off = off' := by simpa using he
              refine ⟨j, p, fun _ => rfl, fun _ => by omega, fun _ => ⟨hcs' 1 (by omega), hcs' 0 (by omega)⟩, res_bd HG.out q2, ?_⟩
              rw [Hid, delta_some HX.out hk hq, HL.out]
              cases hdl : dlB m wi p x with
              | false => simp
              | true => simp [lvOf]
          generalize lvOf (lastK l i) = lv at *
          have hpc1 : 0 ≤ lv → wr.cell? ⟨g, off + j * 3 + 1, none⟩ = some (.int .i64 p.t) := fun q => (hpc q).1
          have HPV := hidden (fun q => (hpc q).2)
          have HLJ := hidden hlj
          have HJN := hidden hjn
          have HPC1 := hidden hpc1
          have HXV := hidden hxv
          have HXT := hidden hxt
          have HPB := hidden hpb
          have C0 := hidden c0
          have C1 := hidden c1
          clear hk hpc hlj hjn hpc1 hxv hxt hpb c0 c1
          go_upto_region 9 with fail
          refine regDe9 (j := j) (lv := lv) (wi := wi) (xt := x.t) (pt := p.t) rfl rfl rfl rfl rfl hlt hg C1.out HLJ.out HJN.out HPC1.out HXT.out HPB.out.2 (by omega) ?_
          intro b' w3 hf hb3 hv
          rw [layDe9 hf, hv]
          clear hv hf c2
          generalize Rg.out (Rg.opsOf Try.f16 9) b' 0 = y0
          generalize Rg.out (Rg.opsOf Try.f16 9) b' 1 = y1
          generalize Rg.out (Rg.opsOf Try.f16 9) b' 2 = y2
          generalize Rg.out (Rg.opsOf Try.f16 9) b' 3 = y3
          generalize Rg.out (Rg.opsOf Try.f16 9) b' 4 = y4
          generalize Rg.out (Rg.opsOf Try.f16 9) b' 5 = y5
          generalize Rg.out (Rg.opsOf Try.f16 9) b' 6 = y6
          generalize Rg.out (Rg.opsOf Try.f16 9) b' 7 = y7
          generalize Rg.out (Rg.opsOf Try.f16 9) b' 8 = y8
          generalize Rg.out (Rg.opsOf Try.f16 9) b' 9 = y9
          generalize Rg.out (Rg.opsOf Try.f16 9) b' 10 = y10
          generalize Rg.out (Rg.opsOf Try.f16 9) b' 11 = y11
          generalize Rg.out (Rg.opsOf Try.f16 9) b' 12 = y12
          generalize Rg.out (Rg.opsOf Try.f16 9) b' 13 = y13
          generalize Rg.out (Rg.opsOf Try.f16 9) b' 14 = y14
          generalize Rg.out (Rg.opsOf Try.f16 9) b' 15 = y15
          have C03 := hidden ((hb3.cell (p := ⟨g, off + i * 3, none⟩) hg).trans C0.out)
          have HPV3 := hidden (fun q => (hb3.cell (p := ⟨g, off + j * 3, none⟩) hg).trans (HPV.out q))
          have hg3 := Nat.lt_of_lt_of_le hg hb3.size
          have HO3 := hidden (ownW_below HO.out hb3)
          have HB3 := hidden (hb.trans (hb3.mono hb.size))
          clear hb3 hb C0 C1 HPV HO HPC1 hsz
          generalize hBq : ((decide ((0 : Int) ≤ lv)) && (decide (x.t - p.t ≤ wi))) = Bq at *
          go_frame
          cases Bq with
          | false =>
            have HL1 : Hid (deltaTo l m wi (i + 1) = L) := by
              rw [Hid, HD.out, if_neg]
              rintro ⟨q1, q2⟩
              simp only [dlB, Bool.and_eq_true, decide_eq_true_eq] at q2
              rw [decide_eq_true q1, decide_eq_true q2.1] at hBq
              cases hBq
            clear hBq HD
            go_wp2_with fail
            go_roundw
            case rel => exact ⟨i + 1, L, by omega, rfl, by rw [HK1.out]; rfl, HL1, ⟨_, _, rfl, HO3.out⟩, HB3.out⟩
            case measure => simp [intOf]; omega
          | true =>
            simp only [Bool.and_eq_true, decide_eq_true_eq] at hBq
            obtain ⟨l0, hdt⟩ := hBq
            have hlv := HLJ.out l0
            subst hlv
            have hjl := HJN.out l0
            have hpv := HPV3.out l0
            have HDD : Hid (deltaTo l m wi (i + 1) = if m < x.v - p.v ∨ m < -(x.v - p.v) then L ++ [(i : Int)] else L) := by
              rw [Hid, HD.out]
              by_cases q : m < x.v - p.v ∨ m < -(x.v - p.v)
              · rw [if_pos q, if_pos ⟨l0, by simp only [dlB, Bool.and_eq_true, decide_eq_true_eq, Bool.or_eq_true]; exact ⟨hdt, q⟩⟩]
              · rw [if_neg q, if_neg (fun z => by simp only [dlB, Bool.and_eq_true, decide_eq_true_eq, Bool.or_eq_true] at z; exact q z.2.2)]
            have HPVX := hidden hpv
            have hb3 := HB3.out
            have hsz3 := hb3.size
            clear HPV3 HD HLJ HJN hdt l0 hpv
            go_upto_region 10 with fail
            refine regDe10 (j := j) (xv := x.v) (pv := p.v) rfl rfl rfl rfl hlt hjl hg3 C03.out HPVX.out HXV.out HPB.out.1 (by omega) ?_
            intro b' w4 hf hb4 hv
            rw [layDe10 hf, hv]
            clear hv hf
            generalize Rg.out (Rg.opsOf Try.f16 10) b' 0 = y0
            generalize Rg.out (Rg.opsOf Try.f16 10) b' 1 = y1
            generalize Rg.out (Rg.opsOf Try.f16 10) b' 2 = y2
            generalize Rg.out (Rg.opsOf Try.f16 10) b' 3 = y3
            generalize Rg.out (Rg.opsOf Try.f16 10) b' 4 = y4
            generalize Rg.out (Rg.opsOf Try.f16 10) b' 5 = y5
            generalize Rg.out (Rg.opsOf Try.f16 10) b' 6 = y6
            generalize Rg.out (Rg.opsOf Try.f16 10) b' 7 = y7
            generalize Rg.out (Rg.opsOf Try.f16 10) b' 8 = y8
            generalize Rg.out (Rg.opsOf Try.f16 10) b' 9 = y9
            generalize Rg.out (Rg.opsOf Try.f16 10) b' 10 = y10
            have HO4 := hidden (ownW_below HO3.out hb4)
            have hb := hb3.trans (hb4.mono hb3.size)
            have hsz := hb.size
            obtain ⟨hx1, hx2⟩ := HXV.out
            obtain ⟨⟨hp1, hp2⟩, -⟩ := HPB.out
            have hwn : IntKind.i64.wrap (-(x.v - p.v)) = -(x.v - p.v) := by rw [IntKind.wrap_i64]; omega
            have HWN := hidden hwn
            clear hb4 HB3 hb3 hsz3 HO3 C03 HPVX hwn
            obtain ⟨D, hD⟩ : ∃ D, x.v - p.v = D := ⟨_, rfl⟩
            rw [hD] at HDD HWN ⊢
            have hD1 : -200000 ≤ D := by omega
            have hD2 : D ≤ 200000 := by omega
            clear hD hx1 hx2 hp1 hp2 HXV HPB
            go_frame
            by_cases q1 : m < D
            · have HL1 : Hid (deltaTo l m wi (i + 1) = L ++ [(i : Int)]) := by rw [Hid, HDD.out, if_pos (.inl q1)]
              clear HDD
              go_wp2_with (at_builtin; refine wpList_append_own _ rfl (.tmp 73) (.tmp 75) 22 rfl w.heap.size 2 i0 (.int .i64 0) 1 8 Try.underlying22 hi0 hv0 hv1 hv2 rfl (by decide) _ L.length (L.map fun z => Value.int .i64 z) rfl (HO4.out.alloc _) ⟨w4.heap.size, 0, none⟩ 1 1 [.int .i64 (i : Int)] rfl rfl (cell_oneW _ _ _) (by simp [Value.oneCell']) (by unfold maxLen; omega) (by omega) (by simp; omega) ?_; intro v5 w5 ho5 hg5 hn5; obtain ⟨ad5, c5, rfl⟩ := ownW_slice ho5)
              have b5 := (hb.alloc hsz (.cells #[.int .i64 (i : Int)] 2)).grown hg5 (by simp; omega) (fun k hk => (ownW_lt HO4.out k hk).1)
              go_roundw
              case rel => exact ⟨i + 1, L ++ [(i : Int)], by omega, rfl, by rw [HK1.out]; rfl, HL1, ⟨_, _, by rw [List.length_append]; rfl, by rw [List.map_append, List.length_append]; exact ho5⟩, b5⟩
              case measure => simp [intOf]; omega
            by_cases q2 : m < -D
            · have HL1 : Hid (deltaTo l m wi (i + 1) = L ++ [(i : Int)]) := by rw [Hid, HDD.out, if_pos (.inr q2)]
              clear HDD
              go_wp2_with (at_builtin; refine wpList_append_own _ rfl (.tmp 73) (.tmp 75) 22 rfl w.heap.size 2 i0 (.int .i64 0) 1 8 Try.underlying22 hi0 hv0 hv1 hv2 rfl (by decide) _ L.length (L.map fun z => Value.int .i64 z) rfl (HO4.out.alloc _) ⟨w4.heap.size, 0, none⟩ 1 1 [.int .i64 (i : Int)] rfl rfl (cell_oneW _ _ _) (by simp [Value.oneCell']) (by unfold maxLen; omega) (by omega) (by simp; omega) ?_; intro v5 w5 ho5 hg5 hn5; obtain ⟨ad5, c5, rfl⟩ := ownW_slice ho5)
              have b5 := (hb.alloc hsz (.cells #[.int .i64 (i : Int)] 2)).grown hg5 (by simp; omega) (fun k hk => (ownW_lt HO4.out k hk).1)
              go_roundw
              case rel => exact ⟨i + 1, L ++ [(i : Int)], by omega, rfl, by rw [HK1.out]; rfl, HL1, ⟨_, _, by rw [List.length_append]; rfl, by rw [List.map_append, List.length_append]; exact ho5⟩, b5⟩
              case measure => simp [intOf]; omega
            have HL1 : Hid (deltaTo l m wi (i + 1) = L) := by rw [Hid, HDD.out, if_neg (by omega)]
            clear HDD
            go_wp2_with fail
            go_roundw
            case rel => exact ⟨i + 1, L, by omega, rfl, by rw [HK1.out]; rfl, HL1, ⟨_, _, rfl, HO4.out⟩, hb⟩
            case measure => simp [intOf]; omega
      · have hlti : ¬ (i : Int) < (l.length : Int) := by omega
        have hil : i = l.length := by omega
        subst hil
        go_wp2_with fail
        go_ret
        have hRL : R = L := by rw [HN.out, HL.out]
        rw [hRL]
        exact ⟨_, rfl, vownI ho, hb⟩
  · rw [decide_eq_false g0] at hK
    have HN : Hid (R = []) := by rw [Hid, HV.out, if_neg (fun q => g0 q.1)]
    clear HV g0
    go_enter Try.func16, Try.ntmps16
    go_wp2_with (go_at_call 27; refine hK.mono ?_; rintro e w1 ⟨rfl, hb1⟩)
    go_ret
    exact vownE (b := 0) HN.out rfl (ownW_below HOA.out hb1) (onto HBA.out hb1)
end Go.Proofs.Ytecljmpojninfab
