/-
  What is done fits, and what is not done did not: the walk of the law.
-/
import Derived.Test.YtecljmpojninfaaT24a
import Derived.Test.YtecljmpojninfaaT5
import Derived.Test.YtecljmpojninfaaT6
namespace Go.Proofs.Ytecljmpojninfaa
open Go.RowKit Va Lb
set_option linter.all false

theorem sh_app (m : List Int) : ∀ (r : List Int) (s : Int × List Int), ∃ R, (r.foldl (shStep m) s).2 = s.2 ++ R ∧ ∀ x ∈ R, x ∈ r := by
  intro r
  induction r with
  | nil => intro s; exact ⟨[], by simp, by simp⟩
  | cons a r ih =>
    intro s
    rw [List.foldl_cons]
    obtain ⟨R, h1, h2⟩ := ih (shStep m s a)
    by_cases q : nd m a ≤ s.1
    · refine ⟨a :: R, ?_, ?_⟩
      · rw [h1]; unfold shStep; rw [if_pos q]; simp
      · intro x hx
        rcases List.mem_cons.1 hx with e | e
        · exact e ▸ List.mem_cons_self
        · exact List.mem_cons_of_mem _ (h2 x e)
    · refine ⟨R, ?_, fun x hx => List.mem_cons_of_mem _ (h2 x hx)⟩
      rw [h1]; unfold shStep; rw [if_neg q]
theorem sh_pref (m : List Int) (v : Int) (l : List Int) (i : Nat) : ∃ R, (shOf m v l).2 = (shOf m v (l.take i)).2 ++ R ∧ ∀ x ∈ R, x ∈ l.drop i := by
  obtain ⟨R, h1, h2⟩ := sh_app m (l.drop i) (shOf m v (l.take i))
  refine ⟨R, ?_, h2⟩
  rw [← h1]
  conv => lhs; rw [← List.take_append_drop i l]
  unfold shOf
  rw [List.foldl_append]
theorem sh_yes {m : List Int} {v : Int} {l : List Int} {i : Nat} {x : Int} (hx : l[i]? = some x) (q : nd m x ≤ (shOf m v (l.take i)).1) : (shOf m v l).2[(shOf m v (l.take i)).2.length]? = some x ∧ shOf m v (l.take (i + 1)) = ((shOf m v (l.take i)).1 - nd m x, (shOf m v (l.take i)).2 ++ [x]) := by
  have e : shOf m v (l.take (i + 1)) = ((shOf m v (l.take i)).1 - nd m x, (shOf m v (l.take i)).2 ++ [x]) := by rw [shOf_take hx]; unfold shStep; rw [if_pos q]
  obtain ⟨R, h1, -⟩ := sh_pref m v l (i + 1)
  refine ⟨?_, e⟩
  rw [h1, e]
  simp
theorem sh_no {m : List Int} {v : Int} {l : List Int} {i : Nat} {x : Int} (ha : AsksOk l m) (hx : l[i]? = some x) (q : ¬ nd m x ≤ (shOf m v (l.take i)).1) : (∀ z, (shOf m v l).2[(shOf m v (l.take i)).2.length]? = some z → z ≠ x) ∧ shOf m v (l.take (i + 1)) = shOf m v (l.take i) := by
  have e : shOf m v (l.take (i + 1)) = shOf m v (l.take i) := by rw [shOf_take hx]; unfold shStep; rw [if_neg q]
  refine ⟨fun z hz hzx => ?_, e⟩
  obtain ⟨R, h1, h2⟩ := sh_pref m v l (i + 1)
  rw [h1, e, List.getElem?_append_right (Nat.le_refl _), Nat.sub_self] at hz
  have hz2 := h2 z (List.mem_of_getElem? hz)
  obtain ⟨j, hj⟩ := List.getElem?_of_mem hz2
  rw [List.getElem?_drop] at hj
  have := (ha.2 (i + 1 + j) z hj).2
  refine this ?_
  rw [hzx]
  exact List.mem_of_getElem? (i := i) (by rw [List.getElem?_take, if_pos (by omega)]; exact hx)
theorem share_of {v : Int} {l m : List Int} (h : share v l m ≠ []) : (0 ≤ v ∧ v ≤ 100000) ∧ NeedsOk m ∧ AsksOk l m ∧ share v l m = (shOf m v l).2 := by
  by_cases q : (0 ≤ v ∧ v ≤ 100000) ∧ NeedsOk m ∧ AsksOk l m
  · exact ⟨q.1, q.2.1, q.2.2, by unfold share; rw [if_pos q]⟩
  · exact absurd (by unfold share; rw [if_neg q]) h

set_option maxRecDepth 20000 in
set_option maxHeartbeats 8000000 in
theorem fsh_walk (ao : Option Addr) (cap : Nat) (bs : List Int) (w : World) (hb : Bytes w w.heap.size ao bs) :
    Calls Try.prog 5 #[.slice ao bs.length cap] w fun e w' => e = .returned (.bool true) ∧ Below w.heap.size w w' := by
  have hB := big_any ao cap bs.length
  have HBY := hidden hb
  clear hb
  by_cases hbig : (4096 : Int) < (bs.length : Int)
  · rw [decide_eq_true hbig] at hB
    go_enter Try.func5, Try.ntmps5
    go_wp2_with fail
    refine (hB _).mono ?_
    rintro e w1 ⟨rfl, rfl⟩
    go_wp2_with fail
    go_ret
    exact ⟨rfl, Below.refl _ _⟩
  rw [decide_eq_false hbig] at hB
  have hl : bs.length ≤ 4096 := by omega
  go_enter Try.func5, Try.ntmps5
  go_wp2_with fail
  refine (hB w).mono ?_
  rintro e w1 ⟨rfl, hw1⟩
  subst hw1
  clear hB
  go_wp2_with fail
  refine (dshare_any ao cap bs _ HBY.out (by omega)).mono ?_
  rintro e w2 ⟨y, va, vn, la, ln, rfl, hra, hrn, hla, hln, b2⟩
  obtain ⟨aa, ca, rfl⟩ := hra.form
  obtain ⟨an, cn, rfl⟩ := hrn.form
  have HRA := hidden hra
  have HRN := hidden hrn
  clear hra hrn HBY
  go_wp2_with fail
  refine (ishare_any y aa la.length ca la an ln.length cn ln _ HRA.out HRN.out (by omega) (by omega)).mono ?_
  rintro e w3 ⟨v3, rfl, ho3, hb3⟩
  obtain ⟨a3, c3, rfl⟩ := ho3.row.form
  have HD3 := hidden ho3.row
  have b3 := onto b2 hb3
  have HRA3 := hidden (HRA.out.below hb3)
  have HRN3 := hidden (HRN.out.below hb3)
  clear ho3 hb3 b2 HRA HRN
  have HSP := hidden (sshare_any y aa la.length ca la an ln.length cn ln _ HRA3.out HRN3.out (by omega) (by omega))
  have HSO := hidden (share_of (v := y) (l := la) (m := ln))
  have hDl := share_len y la ln
  generalize share y la ln = D at *
  go_wp2_with fail
  refine HSP.out.mono ?_
  rintro e w4 ⟨v4, rfl, ho4, hb4⟩
  obtain ⟨a4, c4, rfl⟩ := ho4.row.form
  have HD := hidden (HD3.out.below hb4)
  have b4 := onto b3 hb4
  have HA := hidden (HRA3.out.below hb4)
  have HN := hidden (HRN3.out.below hb4)
  clear ho4 hb4 b3 HRA3 HRN3 HD3 HSP
  by_cases hD0 : D.length = 0
  · have hD1 : ¬ (0 : Int) < (D.length : Int) := by omega
    have hD2 : ((D.length : Int) == 0) = true := by rw [beq_iff_eq]; omega
    have hD3 : ((0 : Int) == (D.length : Int)) = true := by rw [beq_iff_eq]; omega
    clear hD0 HSO
    go_wp2_with fail
    go_loopw [3, 7, 8] (fun _ kv iv wr => kv = .int .i64 0 ∧ iv = .int .i64 0 ∧ wr = w4) (fun _ _ _ _ => 0)
    case atStart => exact ⟨rfl, rfl, rfl⟩
    case round =>
      obtain ⟨rfl, rfl, hwr⟩ := hrel
      have hwr' := hwr.symm
      clear hwr
      subst hwr'
      by_cases hla0 : (0 : Int) < (la.length : Int)
      · go_wp2_with fail
        go_ret
        exact ⟨rfl, b4⟩
      · go_wp2_with fail
        go_ret
        exact ⟨rfl, b4⟩
  obtain ⟨hy, hNd, hAs, hDe⟩ := HSO.out (fun e => hD0 (by rw [e]; rfl))
  have hDp : (0 : Int) < (D.length : Int) := by omega
  have hDz : ((D.length : Int) == 0) = false := by rw [beq_eq_false_iff_ne]; omega
  have HDE := hidden hDe
  have HNd := hidden hNd
  have HAs := hidden hAs
  obtain ⟨v0, v1⟩ := hy
  obtain ⟨d0, hd0⟩ := some_of D 0 (by omega)
  obtain ⟨dg, doff, rfl, hdl, -⟩ := vint_cell HD.out hd0
  clear HSO hD0 hDe hNd hAs hd0
  go_wp2_with fail
  go_loopw [3, 7, 8] (fun sv kv iv wr => ∃ (i : Nat) (s : Int) (L : List Int), i ≤ la.length ∧ iv = .int .i64 i ∧ sv = .int .i64 s ∧ kv = .int .i64 L.length ∧ Hid (shOf ln y (la.take i) = (s, L)) ∧ Below w4.heap.size w4 wr) (fun _ _ iv _ => la.length - (intOf iv).toNat)
  case atStart => exact ⟨0, y, [], Nat.zero_le _, rfl, rfl, rfl, rfl, Below.refl _ _⟩
  case round =>
    obtain ⟨i, s, L, hi, rfl, rfl, rfl, HS, hbr⟩ := hrel
    have hbd := sh_takebd HNd.out v0 v1 la i HAs.out.1
    rw [HS.out] at hbd
    obtain ⟨⟨s0, s1⟩, hLn⟩ : (0 ≤ s ∧ s ≤ 100000) ∧ L.length ≤ 20 := hbd
    by_cases hlt : i < la.length
    · have hlti : (i : Int) < (la.length : Int) := by omega
      obtain ⟨x, hx⟩ := some_of la i hlt
      have hxb := (HAs.out.2 i x hx).1
      obtain ⟨X, rfl⟩ : ∃ X : Nat, x = (X : Int) := ⟨x.toNat, by omega⟩
      have hX : (X : Int) < (ln.length : Int) := hxb.2
      obtain ⟨q, hq⟩ := some_of ln X (by omega)
      have hqb := HNd.out.2 q (List.mem_of_getElem? hq)
      have hnd : nd ln (X : Int) = q := nd_get (by simpa using hq)
      obtain ⟨g, off, rfl, hg, c0⟩ := vint_cell (HA.out.below hbr) hx
      obtain ⟨g2, off2, rfl, hg2, n0⟩ := vint_cell (HN.out.below hbr) hq
      obtain ⟨z, hz⟩ : ∃ z : Int, z = (D[L.length]?).getD 0 := ⟨_, rfl⟩
      have hz0 : L.length < D.length → wr.cell? ⟨dg, doff + L.length, none⟩ = some (.int .i64 z) := fun hlt2 => by
        obtain ⟨z2, hz2⟩ := some_of D L.length hlt2
        obtain ⟨dg', doff', he, _, hc⟩ := vint_cell (HD.out.below hbr) hz2
        obtain ⟨rfl, rfl⟩ : dg = dg' ∧ doff = doff' := by simpa using he
        rw [hz, hz2]; exact hc
      have hdl2 := Nat.lt_of_lt_of_le hdl hbr.size
      have HYN : Hid ((q ≤ s → (L.length < D.length ∧ z = (X : Int)) ∧ shOf ln y (la.take (i + 1)) = (s - q, L ++ [(X : Int)])) ∧ (¬ q ≤ s → (L.length < D.length → z ≠ (X : Int)) ∧ shOf ln y (la.take (i + 1)) = (s, L))) := by
        constructor
        · intro hq2
          have k := sh_yes (m := ln) (v := y) hx (by rw [HS.out, hnd]; exact hq2)
          rw [HS.out, hnd, ← HDE.out] at k
          dsimp only at k
          refine ⟨⟨get_ltL k.1, ?_⟩, k.2⟩
          rw [hz, k.1]; rfl
        · intro hq2
          have k := sh_no (m := ln) (v := y) HAs.out hx (by rw [HS.out, hnd]; exact hq2)
          rw [HS.out, ← HDE.out] at k
          dsimp only at k
          refine ⟨fun hlt2 => ?_, k.2⟩
          obtain ⟨z2, hz2⟩ := some_of D L.length hlt2
          have := k.1 z2 hz2
          rw [hz, hz2]; exact this
      clear hx hq HS hxb hnd hz
      have C0 := hidden c0
      have Z0 := hidden hz0
      have N0 := hidden n0
      clear c0 hz0 n0
      go_upto_region 11 with fail
      refine regFs11 (x := (X : Int)) (z := z) rfl rfl rfl rfl rfl hlt (by omega) (by omega) (by omega) hg hdl2 C0.out Z0.out ?_
      intro b' w5 hf hb5 hv
      rw [layFs11 hf, hv]
      clear hv hf
      generalize Rg.out (Rg.opsOf Try.f5 11) b' 0 = y0
      generalize Rg.out (Rg.opsOf Try.f5 11) b' 1 = y1
      generalize Rg.out (Rg.opsOf Try.f5 11) b' 2 = y2
      generalize Rg.out (Rg.opsOf Try.f5 11) b' 3 = y3
      generalize Rg.out (Rg.opsOf Try.f5 11) b' 4 = y4
      generalize Rg.out (Rg.opsOf Try.f5 11) b' 5 = y5
      generalize Rg.out (Rg.opsOf Try.f5 11) b' 6 = y6
      generalize Rg.out (Rg.opsOf Try.f5 11) b' 7 = y7
      generalize Rg.out (Rg.opsOf Try.f5 11) b' 8 = y8
      generalize Rg.out (Rg.opsOf Try.f5 11) b' 9 = y9
      generalize Rg.out (Rg.opsOf Try.f5 11) b' 10 = y10
      generalize Rg.out (Rg.opsOf Try.f5 11) b' 11 = y11
      generalize Rg.out (Rg.opsOf Try.f5 11) b' 12 = y12
      generalize Rg.out (Rg.opsOf Try.f5 11) b' 13 = y13
      have c0 := (hb5.cell (p := ⟨g, off + i, none⟩) hg).trans C0.out
      have n0 := (hb5.cell (p := ⟨g2, off2 + X, none⟩) hg2).trans N0.out
      have b5 := hbr.trans (hb5.mono hbr.size)
      clear hb5 C0 Z0 N0 hbr hdl2
      generalize hBq : ((decide ((L.length : Int) < (D.length : Int))) && (z == (X : Int))) = Bq at *
      go_frame
      by_cases hqs : q ≤ s
      · obtain ⟨⟨k1, k2⟩, k3⟩ := HYN.out.1 hqs
        have hBt : Bq = true := by rw [← hBq, k2]; simp; omega
        subst hBt
        have HK3 := hidden k3
        clear hBq HYN k3
        go_wp2_with fail
        go_roundw
        case rel => exact ⟨i + 1, s - q, L ++ [(X : Int)], by omega, rfl, rfl, by rw [List.length_append]; rfl, HK3, b5⟩
        case measure => simp [intOf]; omega
      · obtain ⟨k1, k3⟩ := HYN.out.2 hqs
        have hBf : Bq = false := by
          rw [← hBq, Bool.and_eq_false_iff]
          by_cases q9 : L.length < D.length
          · exact .inr (by rw [beq_eq_false_iff_ne]; exact k1 q9)
          · exact .inl (by rw [decide_eq_false_iff_not]; omega)
        subst hBf
        have HK3 := hidden k3
        clear hBq HYN k3 k1
        go_wp2_with fail
        go_roundw
        case rel => exact ⟨i + 1, s, L, by omega, rfl, rfl, rfl, HK3, b5⟩
        case measure => simp [intOf]; omega
    · have hlti : ¬ (i : Int) < (la.length : Int) := by omega
      have hLD : L = D := by
        have := HS.out
        rw [List.take_of_length_le (by omega)] at this
        rw [HDE.out, this]
      subst hLD
      have hkk : ((L.length : Int) == (L.length : Int)) = true := by simp
      go_wp2_with fail
      go_ret
      exact ⟨rfl, onto b4 hbr⟩
end Go.Proofs.Ytecljmpojninfaa
