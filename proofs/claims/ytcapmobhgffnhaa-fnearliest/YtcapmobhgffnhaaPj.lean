/-
  The earliest time has no clash, a minute ahead of it has one: the walk of the law.
-/
import Derived.Test.YtcapmobhgffnhaaPi
import Derived.Test.YtcapmobhgffnhaaOj
namespace Go.Proofs.Ytcapmobhgffnhaa
open Go.RowKit Va Oa
set_option linter.unusedVariables false

theorem erl_facts {l : List Opn} {x : Opn} {r : Int} (h : ¬ erl l x r < 0) (hl : l.length ≤ 20) : opB x = true ∧ x.fr ≤ erl l x r ∧ erl l x r + (x.to - x.fr) ≤ 10000000 ∧ (clash (l ++ [mv x (erl l x r)]) r).length = (clash l r).length ∧ (erl l x r ≠ x.fr → (clash l r).length < (clash (l ++ [mv x (erl l x r - 1)]) r).length) := by
  by_cases hc : (osB l && (opB x && rng r 0 1440)) = true
  · have e : erl l x r = earl l x r := by unfold erl; rw [if_pos hc]
    simp only [Bool.and_eq_true] at hc
    obtain ⟨h1, h2, h3⟩ := hc
    have hok := of_osB h1
    have hr : isR r := rng_iff.1 h3
    rw [e] at h ⊢
    obtain ⟨-, hx2, hx3, hx4, -⟩ := of_opB h2
    rcases earl_early l x r with ⟨⟨k1, k2, k3⟩, k4⟩ | ⟨k1, -⟩
    · generalize earl l x r = t at *
      refine ⟨h2, k1, k2, ?_, fun hne => ?_⟩
      · rw [clash_snoc hok hr (opB_mv h2 (by omega) k2) (by omega), filter_none k3]; rfl
      · have hn := k4 (t - 1) (by omega)
        have hf : ¬ Fit l x r (t - 1) := fun q => hn ⟨by omega, by omega, q⟩
        rw [clash_snoc hok hr (opB_mv h2 (by omega) (by omega)) (by omega)]
        have := filter_some hf
        omega
    · omega
  · exact absurd (by unfold erl; rw [if_neg hc]; omega) h

theorem clash_one (L : List (Opn × Value)) (y : Opn) (ta : Option Addr) (tn tc : Nat) (v : Value) (r : Int) (base : Nat) (W : World) (h : W.ownsRow base 31 4 v (L.length + 1) (cellsO L ++ [.int .i64 y.room, .int .i64 y.fr, .int .i64 y.to, .slice ta tn tc])) (hL : L.length ≤ 201)
    (ht : ∀ p ∈ L, IRw W p.2 p.1.team ∧ p.1.team.length ≤ 1048576) (hy : IRw W (.slice ta tn tc) y.team ∧ y.team.length ≤ 1048576) :
    Calls Try.prog 11 #[v, .int .i64 r] W fun e W' => ∃ ad cc, e = .returned (.slice ad (clash (L.map Prod.fst ++ [y]) r).length cc) ∧ Below W.heap.size W W' := by
  have hall : ∀ p ∈ L ++ [(y, Value.slice ta tn tc)], IRw W p.2 p.1.team ∧ p.1.team.length ≤ 1048576 := fun p hp => by
    rcases List.mem_append.1 hp with q | q
    · exact ht p q
    · simp at q; subst q; exact hy
  have ho : W.ownsRow base 31 4 v (L ++ [(y, Value.slice ta tn tc)]).length (cellsO (L ++ [(y, Value.slice ta tn tc)])) := by
    rw [cellsO_app, List.length_append]; exact h
  have hrow := own_orw ho fun p hp => (hall p hp).1
  obtain ⟨ad, c, rfl⟩ := ownO_slice ho
  have hm : (L ++ [(y, Value.slice ta tn tc)]).map Prod.fst = L.map Prod.fst ++ [y] := by simp
  rw [hm] at hrow
  refine (iclash_any ad _ c (L.map Prod.fst ++ [y]) r W hrow (by simp; omega) (fun z hz => ?_)).mono ?_
  · rw [← hm] at hz
    obtain ⟨p, hp, rfl⟩ := List.mem_map.1 hz
    exact (hall p hp).2
  · rintro e W' ⟨ad', c', rfl, -, hb⟩
    exact ⟨ad', c', rfl, hb⟩

set_option maxRecDepth 20000 in
set_option maxHeartbeats 16000000 in
theorem fea_walk (ao : Option Addr) (cap : Nat) (bs : List Int) (w : World) (hb : Bytes w w.heap.size ao bs) :
    Calls Try.prog 4 #[.slice ao bs.length cap] w fun e w' => e = .returned (.bool true) ∧ Below w.heap.size w w' := by
  have hB := big_any ao cap bs.length
  have HBY := hidden hb
  clear hb
  by_cases hbig : (4096 : Int) < (bs.length : Int)
  · rw [decide_eq_true hbig] at hB
    go_enter Try.func4, Try.ntmps4
    go_wp2_with fail
    refine (hB _).mono ?_
    rintro e w1 ⟨rfl, rfl⟩
    go_wp2_with fail
    go_ret
    exact ⟨rfl, Below.refl _ _⟩
  rw [decide_eq_false hbig] at hB
  have hl : bs.length ≤ 4096 := by omega
  go_enter Try.func4, Try.ntmps4
  go_wp2_with fail
  refine (hB w).mono ?_
  rintro e w1 ⟨rfl, hw1⟩
  subst hw1
  clear hB
  go_wp2_with fail
  refine (dea_any ao cap bs _ HBY.out (by omega)).mono ?_
  rintro e w2 ⟨bo, c, L, x, ta, tc, r, rfl, ho, ht, hx, hL, hs, hr0, hr1, b2⟩
  have HO := hidden ho
  have HT := hidden ht
  have HX := hidden hx
  have HROW : Hid (∀ W, Below w2.heap.size w2 W → ORw W (.slice (some ⟨bo, 0, none⟩) L.length c) (L.map Prod.fst)) := fun W hW => own_orw (ownO_below HO.out hW) fun p hp => (own_irw (HT.out p hp).1).below hW
  have HXR : Hid (∀ W, Below w2.heap.size w2 W → IRw W (.slice ta x.team.length tc) x.team) := fun W hW => (own_irw HX.out).below hW
  have HSH : Hid (∀ y ∈ L.map Prod.fst, y.team.length ≤ 1048576) := fun y hy => by
    obtain ⟨p, hp, rfl⟩ := List.mem_map.1 hy
    have := (HT.out p hp).2.2.2.2.1
    omega
  obtain ⟨s1, s2, s3, s4, s5⟩ := hs
  clear ho ht hx
  have hbA : Below w2.heap.size w2 (w2.alloc (.cells #[.int .i64 x.room, .int .i64 x.fr, .int .i64 x.to, .slice ta x.team.length tc] 31)) := (Below.refl _ _).alloc (Nat.le_refl _) _
  have hBA : TBox (w2.alloc (.cells #[.int .i64 x.room, .int .i64 x.fr, .int .i64 x.to, .slice ta x.team.length tc] 31)) w2.heap.size #[.int .i64 x.room, .int .i64 x.fr, .int .i64 x.to, .slice ta x.team.length tc] 31 := heap_alloc_new _ _
  have hlm : (L.map Prod.fst).length ≤ 1048576 := by simp; omega
  have HLM : Hid ((L.map Prod.fst).length = L.length) := by rw [Hid, List.length_map]
  have HF := hidden (fun (h : 0 ≤ erl (L.map Prod.fst) x r) (hl : (L.map Prod.fst).length ≤ 20) => erl_facts (l := L.map Prod.fst) (x := x) (r := r) (by omega) hl)
  have kI := fun W (hW : Below w2.heap.size w2 W) => iearl_any x ta x.team.length tc (some ⟨bo, 0, none⟩) L.length c (L.map Prod.fst) r W (HROW.out W hW) hlm HSH.out (HXR.out W hW) (by omega)
  have kS := fun W (hW : Below w2.heap.size w2 W) => searlT_any x ta x.team.length tc (some ⟨bo, 0, none⟩) L.length c (L.map Prod.fst) r W (HROW.out W hW) hlm HSH.out (HXR.out W hW) (by omega)
  unfold aO at kI kS
  unfold aO
  go_upto_region 4 with fail
  generalize hwA : w2.alloc (.cells #[.int .i64 x.room, .int .i64 x.fr, .int .i64 x.to, .slice ta x.team.length tc] 31) = wA at *
  generalize hOO : w2.heap.size = O at *
  have hOl : O < wA.heap.size := hBA.lt
  obtain ⟨⟨a0, a1, a2, a3⟩, af⟩ := hBA.four
  clear af hwA
  generalize erl (L.map Prod.fst) x r = t at *
  go_wp2_with fail
  refine (kI _ hbA).mono ?_
  rintro e w3 ⟨rfl, hb3⟩
  have hb3' : Below O w2 w3 := hbA.trans (hb3.mono (Nat.le_of_lt hOl))
  have hB3 := hBA.below hb3
  obtain ⟨⟨e0, e1, e2, e3⟩, ef⟩ := hB3.four
  clear hb3 kI hBA a0 a1 a2 a3 ef hbA
  go_wp2_with fail
  refine (kS _ hb3').mono ?_
  rintro e w4 ⟨rfl, hb4⟩
  have hb4' : Below O w2 w4 := hb3'.trans (hb4.mono (by have := hb3'.size; omega))
  have hB4 := hB3.below hb4
  obtain ⟨⟨f0, f1, f2, f3⟩, ff⟩ := hB4.four
  clear hb4 kS hB3 e0 e1 e2 e3 ff hb3'
  have HEND : Hid (∀ W, Below O w2 W → Below w1.heap.size w1 W) := fun W hW => b2.trans (hW.mono (by rw [← hOO]; exact b2.size))
  by_cases htn : t < 0
  · go_wp2_with fail
    go_ret
    exact ⟨rfl, HEND.out _ hb4'⟩
  by_cases hl20 : (20 : Int) < (L.length : Int)
  · go_wp2_with fail
    go_ret
    exact ⟨rfl, HEND.out _ hb4'⟩
  obtain ⟨-, g1, g2, g3, g4⟩ := HF.out (by omega) (by rw [HLM.out]; omega)
  clear HF
  have HG3 := hidden g3
  have HG4 := hidden g4
  clear g3 g4
  have HCS : Hid ((clash (L.map Prod.fst) r).length ≤ 1048576) := clash_short (by rw [HLM.out]; exact hL)
  have kN := sclash_any (some ⟨bo, 0, none⟩) L.length c (L.map Prod.fst) r w4 (HROW.out _ hb4') hlm HSH.out
  generalize hn0 : (clash (L.map Prod.fst) r).length = n0 at *
  clear hn0
  go_upto_region 11 with (go_at_call 12; refine kN.mono ?_; rintro e w6 ⟨ad6, c6, rfl, -, hb6⟩)
  have hb6' : Below O w2 w6 := hb4'.trans (hb6.mono (by have := hb4'.size; omega))
  have hB6 := hB4.below hb6
  obtain ⟨⟨e0, e1, e2, e3⟩, ef⟩ := hB6.four
  have hO6 := hB6.lt
  have hB8 := hB6.below ((Below.refl _ _).alloc (Nat.le_refl _) (.cells #[.int .i64 x.room, .int .i64 t, .int .i64 (t + (x.to - x.fr)), .slice ta x.team.length tc] 31))
  have hb8 : Below O w2 (w6.alloc (.cells #[.int .i64 x.room, .int .i64 t, .int .i64 (t + (x.to - x.fr)), .slice ta x.team.length tc] 31)) := hb6'.alloc (by omega) _
  clear hb6 kN hB4 f0 f1 f2 f3 ef hb4' hB6 hb6'
  have hzO : O ≤ w6.heap.size := Nat.le_of_lt hO6
  have hV1 : TBox (w6.alloc (.cells #[.int .i64 x.room, .int .i64 t, .int .i64 (t + (x.to - x.fr)), .slice ta x.team.length tc] 31)) w6.heap.size #[.int .i64 x.room, .int .i64 t, .int .i64 (t + (x.to - x.fr)), .slice ta x.team.length tc] 31 := heap_alloc_new _ _
  go_upto_region 14 with fail
  generalize hwD : w6.alloc (.cells #[.int .i64 x.room, .int .i64 t, .int .i64 (t + (x.to - x.fr)), .slice ta x.team.length tc] 31) = wD at *
  generalize hVV : w6.heap.size = V at *
  clear hwD e0 e1 e2 e3 hVV
  have hVD : TBox wD V #[.int .i64 (mv x t).room, .int .i64 (mv x t).fr, .int .i64 (mv x t).to, .slice ta (mv x t).team.length tc] 31 := hV1
  have hONE : ∀ u ∈ cellsO L, u.oneCell' = true := cellsO_one (w := w2) fun p hp => ⟨own_irw (HT.out p hp).1, (HT.out p hp).2.2.2.2.1⟩
  have HONE := hidden hONE
  have HVD := hidden hVD
  have hVl := hVD.lt
  clear hV1 hVD hONE
  have HTW : Hid (∀ W, Below O w2 W → ∀ p ∈ L, IRw W p.2 p.1.team ∧ p.1.team.length ≤ 1048576) := fun W hW p hp => ⟨(own_irw (HT.out p hp).1).below (by rw [hOO]; exact hW), by have := (HT.out p hp).2.2.2.2.1; omega⟩
  have HOW : Hid (∀ W, Below O w2 W → W.ownsRow w1.heap.size 31 4 (.slice (some ⟨bo, 0, none⟩) L.length c) L.length (cellsO L)) := fun W hW => ownO_below HO.out (by rw [hOO]; exact hW)
  have hOD : O ≤ wD.heap.size := by have := hb8.size; omega
  have HK : Hid (∀ (W0 W : World) (v : Value) (y : Opn), Below O w2 W0 → O ≤ W0.heap.size → Below W0.heap.size W0 W → y.team = x.team → W.ownsRow W0.heap.size 31 4 v (L.length + 1) (cellsO L ++ [.int .i64 y.room, .int .i64 y.fr, .int .i64 y.to, .slice ta y.team.length tc]) → Calls Try.prog 11 #[v, .int .i64 r] W fun e W' => ∃ ad cc, e = .returned (.slice ad (clash (L.map Prod.fst ++ [y]) r).length cc) ∧ Below W.heap.size W W') :=
    fun W0 W v y h0 hz hW hy hv => clash_one L y ta y.team.length tc v r W0.heap.size W hv hL (HTW.out W (h0.trans (hW.mono hz))) (by rw [hy]; exact ⟨HXR.out W (h0.trans (hW.mono hz)), by omega⟩)
  go_cut [61] (fun tv wx => tv = .bool false ∧ Below wD.heap.size wD wx)
  case first =>
    refine regE14 (bo := bo) (c := c) (N := n0) (n0 := n0) (V := V) (b0 := w1.heap.size) (L := L) (x := mv x t) (ta := ta) (tc := tc) (r := r) rfl rfl rfl rfl rfl (HOW.out _ hb8) HONE.out HVD.out hL HCS.out HCS.out (fun W v hW hv => ?_) rfl ?_
    · have := HK.out wD W v (mv x t) hb8 hOD hW rfl hv
      rw [HG3.out] at this
      exact this
    intro b' w7 hf hb7 h10
    rw [layE14 hf, h10]
    generalize Rg.out (Rg.opsOf Try.f4 14) b' 0 = x0
    generalize Rg.out (Rg.opsOf Try.f4 14) b' 1 = x1
    generalize Rg.out (Rg.opsOf Try.f4 14) b' 2 = x2
    generalize Rg.out (Rg.opsOf Try.f4 14) b' 3 = x3
    generalize Rg.out (Rg.opsOf Try.f4 14) b' 4 = x4
    generalize Rg.out (Rg.opsOf Try.f4 14) b' 5 = x5
    generalize Rg.out (Rg.opsOf Try.f4 14) b' 6 = x6
    generalize Rg.out (Rg.opsOf Try.f4 14) b' 7 = x7
    generalize Rg.out (Rg.opsOf Try.f4 14) b' 8 = x8
    generalize Rg.out (Rg.opsOf Try.f4 14) b' 9 = x9
    go_frame
    go_wp2_with fail
    go_meet
    case rel => exact ⟨rfl, hb7⟩
  case rest =>
    obtain ⟨rfl, hb9⟩ := hcut
    have hb9' : Below O w2 wc := hb8.trans (hb9.mono hOD)
    have hV9 := HVD.out.below hb9
    have hB9 := hB8.below hb9
    obtain ⟨⟨f0, f1, f2, f3⟩, ff⟩ := hV9.four
    have ff1 := ff 1
    have ff2 := ff 2
    have hOV : O ≠ V := by omega
    have hOV2 : O ≤ V := by omega
    have hVA := (hV9.set 1 (.int .i64 (t - 1))).set 2 (.int .i64 (t - 1 + (x.to - x.fr)))
    have hBA := (hB9.far (b := V) (Ne.symm hOV) 1 (.int .i64 (t - 1))).far (b := V) (Ne.symm hOV) 2 (.int .i64 (t - 1 + (x.to - x.fr)))
    have hbA := (hb9'.setCell (p := ⟨V, 1, none⟩) hOV2 (.int .i64 (t - 1))).setCell (p := ⟨V, 2, none⟩) hOV2 (.int .i64 (t - 1 + (x.to - x.fr)))
    have hzc := hb9.size
    clear hb9 hb9' hV9 hB9 ff HVD hB8 hb8
    simp only [mv] at f1 f2
    go_upto_region 18 with fail
    generalize hwE : (wc.setCell ⟨V, 1, none⟩ (.int .i64 (t - 1))).setCell ⟨V, 2, none⟩ (.int .i64 (t - 1 + (x.to - x.fr))) = wE at *
    have hzE : wE.heap.size = wc.heap.size := by rw [← hwE]; simp [World.setCell]
    clear hwE f0 f1 f2 f3 ff1 ff2
    have hVE : TBox wE V #[.int .i64 (mv x (t - 1)).room, .int .i64 (mv x (t - 1)).fr, .int .i64 (mv x (t - 1)).to, .slice ta (mv x (t - 1)).team.length tc] 31 := hVA
    have HVE := hidden hVE
    have hOE : O < wE.heap.size := by omega
    have hO1 := (hBA.four).1.2.1
    clear hVA hVE hBA hzE
    by_cases htf : t = x.fr
    · subst htf
      refine regEq (t := x.fr) (O := O) rfl rfl rfl hO1 hOE ?_
      intro b' w7 hf hb7 h17
      rw [layE18 hf, h17]
      generalize Rg.out (Rg.opsOf Try.f4 18) b' 0 = x0
      generalize Rg.out (Rg.opsOf Try.f4 18) b' 1 = x1
      generalize Rg.out (Rg.opsOf Try.f4 18) b' 2 = x2
      generalize Rg.out (Rg.opsOf Try.f4 18) b' 3 = x3
      generalize Rg.out (Rg.opsOf Try.f4 18) b' 4 = x4
      generalize Rg.out (Rg.opsOf Try.f4 18) b' 5 = x5
      generalize Rg.out (Rg.opsOf Try.f4 18) b' 6 = x6
      generalize Rg.out (Rg.opsOf Try.f4 18) b' 7 = x7
      generalize Rg.out (Rg.opsOf Try.f4 18) b' 8 = x8
      generalize Rg.out (Rg.opsOf Try.f4 18) b' 9 = x9
      generalize Rg.out (Rg.opsOf Try.f4 18) b' 10 = x10
      generalize Rg.out (Rg.opsOf Try.f4 18) b' 11 = x11
      generalize Rg.out (Rg.opsOf Try.f4 18) b' 12 = x12
      generalize Rg.out (Rg.opsOf Try.f4 18) b' 13 = x13
      generalize Rg.out (Rg.opsOf Try.f4 18) b' 14 = x14
      generalize Rg.out (Rg.opsOf Try.f4 18) b' 15 = x15
      generalize Rg.out (Rg.opsOf Try.f4 18) b' 16 = x16
      go_frame
      go_wp2_with fail
      go_ret
      exact ⟨rfl, HEND.out _ (hbA.trans (hb7.mono (Nat.le_of_lt hOE)))⟩
    · have htb : (t == x.fr) = false := by simpa using htf
      refine regE18 (bo := bo) (c := c) (N := (clash (L.map Prod.fst ++ [mv x (t - 1)]) r).length) (n0 := n0) (V := V) (b0 := w1.heap.size) (L := L) (x := mv x (t - 1)) (ta := ta) (tc := tc) (r := r) (t := t) (fr0 := x.fr) (O := O) rfl rfl rfl rfl rfl rfl rfl hO1 hOE htb (HOW.out _ hbA) HONE.out HVE.out hL (clash_short (by rw [List.length_append, HLM.out]; simp; omega)) HCS.out (fun W v hW hv => HK.out wE W v (mv x (t - 1)) hbA (Nat.le_of_lt hOE) hW rfl hv) (HG4.out htf) ?_
      intro b' w7 hf hb7 h17
      rw [layE18 hf, h17]
      generalize Rg.out (Rg.opsOf Try.f4 18) b' 0 = x0
      generalize Rg.out (Rg.opsOf Try.f4 18) b' 1 = x1
      generalize Rg.out (Rg.opsOf Try.f4 18) b' 2 = x2
      generalize Rg.out (Rg.opsOf Try.f4 18) b' 3 = x3
      generalize Rg.out (Rg.opsOf Try.f4 18) b' 4 = x4
      generalize Rg.out (Rg.opsOf Try.f4 18) b' 5 = x5
      generalize Rg.out (Rg.opsOf Try.f4 18) b' 6 = x6
      generalize Rg.out (Rg.opsOf Try.f4 18) b' 7 = x7
      generalize Rg.out (Rg.opsOf Try.f4 18) b' 8 = x8
      generalize Rg.out (Rg.opsOf Try.f4 18) b' 9 = x9
      generalize Rg.out (Rg.opsOf Try.f4 18) b' 10 = x10
      generalize Rg.out (Rg.opsOf Try.f4 18) b' 11 = x11
      generalize Rg.out (Rg.opsOf Try.f4 18) b' 12 = x12
      generalize Rg.out (Rg.opsOf Try.f4 18) b' 13 = x13
      generalize Rg.out (Rg.opsOf Try.f4 18) b' 14 = x14
      generalize Rg.out (Rg.opsOf Try.f4 18) b' 15 = x15
      generalize Rg.out (Rg.opsOf Try.f4 18) b' 16 = x16
      go_frame
      go_wp2_with fail
      go_ret
      exact ⟨rfl, HEND.out _ (hbA.trans (hb7.mono (Nat.le_of_lt hOE)))⟩
end Go.Proofs.Ytcapmobhgffnhaa
