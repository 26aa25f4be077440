/-
  Small counts are masked: the walk of the law.
-/
import Derived.Test.YtinnmebpipnccaaA4
import Derived.Test.YtinnmebpipnccaaA5
import Derived.Test.YtinnmebpipnccaaA15
import Derived.Test.YtinnmebpipnccaaA16
import Derived.Test.YtinnmebpipnccaaA17
import Derived.BigQuiet
import Derived.Deep.CutRange
namespace Go.Proofs.Ytinnmebpipnccaa
open Go.RowKit Va Ax
set_option linter.all false

set_option maxRecDepth 20000 in
set_option maxHeartbeats 2000000 in
theorem sameA_any (a1 : Option Addr) (n1 c1 : Nat) (a2 : Option Addr) (n2 c2 : Nat) (l : List Int) (w : World) (h : VRw 1 cvI w (.slice a1 n1 c1) l) (h' : VRw 1 cvI w (.slice a2 n2 c2) l) (hn : l.length ≤ 1048576) :
    Calls Try.prog 10 #[.slice a1 n1 c1, .slice a2 n2 c2] w fun e w' => e = .returned (.bool true) ∧ Below w.heap.size w w' := by
  obtain rfl := h.len
  obtain rfl := h'.len
  have HH := hidden h
  have HH' := hidden h'
  clear h h'
  go_enter Try.func10, Try.ntmps10
  go_wp2_with fail
  go_loopw [5] (fun iv wr => ∃ i : Nat, i ≤ l.length ∧ iv = .int .i64 i ∧ Below w.heap.size w wr) (fun iv _ => l.length - (intOf iv).toNat)
  case atStart => exact ⟨0, Nat.zero_le _, rfl, Below.refl _ _⟩
  case round =>
    obtain ⟨i, hil, rfl, hb⟩ := hrel
    by_cases hlt : i < l.length
    · have hlti : (i : Int) < (l.length : Int) := by omega
      obtain ⟨x, hx⟩ := some_of l i hlt
      obtain ⟨g, off, rfl, hg, c0⟩ := vint_cell (HH.out.below hb) hx
      obtain ⟨g', off', rfl, hg', d0⟩ := vint_cell (HH'.out.below hb) hx
      clear hx
      go_wp2_with fail
      go_quiet (fail)
      go_wp2_with fail
      go_roundw
      case rel => exact ⟨i + 1, by omega, rfl, by repeat (first | exact Below.refl _ _ | assumption | refine st_drew ?_ | refine st_drewN ?_ _ | refine Below.setCell ?_ (by first | omega | (simp; done) | (simp; omega)) _ | refine Below.alloc ?_ (by first | omega | (simp; done) | (simp; omega)) _)⟩
      case measure => simp [intOf]; omega
    · have hlti : ¬ (i : Int) < (l.length : Int) := by omega
      go_wp2_with fail
      go_ret
      exact ⟨rfl, hb⟩

theorem ontoM {w w1 w2 : World} (h1 : Below w.heap.size w w1) (h2 : Below w1.heap.size w1 w2) : Below w.heap.size w w2 := h1.trans (h2.mono h1.size)
theorem ontoB {w w1 w2 : World} (h1 : Below w.heap.size w w1) (h2 : Below w1.heap.size w1 w2) : Below w.heap.size w w2 := h1.trans (h2.mono h1.size)
theorem cnt_take {l : List Int} {i : Nat} {x s : Int} (h : l[i]? = some x) : (l.take (i + 1)).countP (fun z => decide (s < z)) = (l.take i).countP (fun z => decide (s < z)) + (if s < x then 1 else 0) := by
  rw [take_snA h, List.countP_append]
  by_cases q : s < x
  · simp [q]
  · simp [q]
theorem sum_takeA {l : List Int} {i : Nat} {x : Int} (h : l[i]? = some x) : (l.take (i + 1)).sum = (l.take i).sum + x := by
  rw [take_snA h, List.sum_append]
  simp

set_option maxRecDepth 20000 in
set_option maxHeartbeats 8000000 in
theorem fms_walk (ao : Option Addr) (cap : Nat) (bs : List Int) (w : World) (hb : Bytes w w.heap.size ao bs) :
    Calls Try.prog 3 #[.slice ao bs.length cap] w fun e w' => e = .returned (.bool true) ∧ Below w.heap.size w w' := by
  have hB := big_any ao cap bs.length
  have HBY := hidden hb
  clear hb
  by_cases hbig : (4096 : Int) < (bs.length : Int)
  · rw [decide_eq_true hbig] at hB
    go_enter Try.func3, Try.ntmps3
    go_wp2_with fail
    refine (hB _).mono ?_
    rintro e w1 ⟨rfl, rfl⟩
    go_wp2_with fail
    go_ret
    exact ⟨rfl, Below.refl _ _⟩
  rw [decide_eq_false hbig] at hB
  have hl : bs.length ≤ 4096 := by omega
  go_enter Try.func3, Try.ntmps3
  go_wp2_with fail
  refine (hB w).mono ?_
  rintro e w1 ⟨rfl, hw1⟩
  have hw1' := hw1.symm
  clear hw1
  subst hw1'
  clear hB
  go_wp2_with fail
  refine (dmasked_any ao cap bs _ HBY.out (by omega)).mono ?_
  rintro e w2 ⟨v, l, s, rfl, hrow, hll, b2⟩
  obtain ⟨ad, c, rfl⟩ := hrow.row.form
  have HR := hidden hrow.row
  clear hrow HBY hbig hl
  go_wp2_with fail
  refine (imasked_any ad l.length c l s _ HR.out (by omega)).mono ?_
  rintro e w3 ⟨v3, rfl, ho3, hb3⟩
  obtain ⟨ad3, c3, rfl⟩ := ho3.row.form
  have HR3 := hidden (HR.out.below hb3)
  have HM3 := hidden ho3.row
  have b3 := hidden (ontoM b2 hb3)
  clear ho3 hb3 HR b2
  have HML := hidden (masked_len l s)
  have HSP := hidden (smasked_any ad l.length c l s _ HR3.out (by omega))
  have HBD : Hid ((masked l s).length ≠ 0 → GoodM l s) := fun h => Classical.byContradiction fun q => h (by rw [masked_bad q]; rfl)
  have HGL : Hid (GoodM l s → (masked l s).length = l.length) := masked_leq
  have HAT : Hid (GoodM l s → ∀ (i : Nat) (x : Int), l[i]? = some x → ∃ y, (masked l s)[i]? = some y ∧ (y = -1 ∨ y = x) ∧ (1 ≤ x → x ≤ s → y = -1)) := fun h i x hx => masked_at h hx
  have HG1 : Hid (GoodM l s → hid (masked l s) = 1 → (∀ x ∈ l, ¬ s < x) ∧ guess (masked l s) l.sum = l) := guess_one
  have HGM : Hid (GoodM l s → hid (masked l s) ≠ 1 → guess (masked l s) l.sum = masked l s) := guess_many
  have HNG : Hid (¬ GoodM l s → masked l s = []) := masked_bad
  generalize masked l s = M at *
  go_upto_region 6 with (first | (go_at_call 11; with_reducible refine HSP.out.mono ?_; rintro e w4 ⟨v4, rfl, ho4, hb4⟩; obtain ⟨ad4, c4, rfl⟩ := ho4.row.form; have HR4 := hidden (HR3.out.below hb4); have HM4 := hidden (HM3.out.below hb4); have HS4 := hidden ho4.row; have b4 := hidden (ontoM b3.out hb4); clear ho4 hb4) | (go_at_call 10; with_reducible refine (sameA_any _ _ _ _ _ _ M _ HM4.out HS4.out (by have := HML.out; omega)).mono ?_; rintro e w5 ⟨rfl, hb5⟩; have HR5 := hidden (HR4.out.below hb5); have HM5 := hidden (HM4.out.below hb5); have b5 := hidden (ontoM b4.out hb5); clear hb5))
  clear HR3 HM3 b3 HR4 HM4 HS4 b4 HSP
  go_wp2_with fail
  go_loopw [6, 7, 8, 9] (fun sv hv gv iv wr => ∃ (i : Nat) (t : Int) (hd lg : Nat), i ≤ M.length ∧ iv = .int .i64 i ∧ sv = .int .i64 t ∧ hv = .int .i64 hd ∧ gv = .int .i64 lg ∧ Hid (t = (l.take i).sum) ∧ Hid (hid (M.take i) = hd) ∧ Hid ((l.take i).countP (fun z => decide (s < z)) = lg) ∧ (0 ≤ t ∧ t ≤ 100000 * (i : Int) ∧ hd ≤ i ∧ lg ≤ i) ∧ Below w5.heap.size w5 wr) (fun _ _ _ iv _ => M.length - (intOf iv).toNat)
  case atStart => exact ⟨0, 0, 0, 0, Nat.zero_le _, rfl, rfl, rfl, rfl, by simp [Hid], rfl, by simp [Hid], by simp, Below.refl _ _⟩
  case round =>
    obtain ⟨i, t, hd, lg, hi, rfl, rfl, rfl, rfl, ht, hh, hg, ⟨t0, t1, hd1, lg1⟩, hb⟩ := hrel
    have hM100 := HML.out
    by_cases hlt : i < M.length
    · have hlti : (i : Int) < (M.length : Int) := by omega
      have HGD := hidden (HBD.out (by omega))
      have hMl := HGL.out HGD.out
      have hltl : i < l.length := by omega
      have hltli : (i : Int) < (l.length : Int) := by omega
      obtain ⟨x, hx⟩ := some_of l i hltl
      obtain ⟨y, hy, hyx, hys⟩ := HAT.out HGD.out i x hx
      obtain ⟨ga, oa, rfl, hga, c0⟩ := vint_cell (HR5.out.below hb) hx
      obtain ⟨gb, ob, rfl, hgb, d0⟩ := vint_cell (HM5.out.below hb) hy
      have hxb := (rowB_iff.1 HGD.out.2).2 x (List.mem_of_getElem? hx)
      have hsb := rng_iff.1 HGD.out.1
      have HT : Hid (t + x = (l.take (i + 1)).sum) := by rw [Hid, sum_takeA hx]; have := ht.out; omega
      have HH : Hid (hid (M.take (i + 1)) = hd + (if y < 0 then 1 else 0)) := by rw [Hid, hid_take hy, hh.out]
      have HL : Hid ((l.take (i + 1)).countP (fun z => decide (s < z)) = lg + (if s < x then 1 else 0)) := by rw [Hid, cnt_take hx, hg.out]
      have HF : Hid (((((decide (1 ≤ x)) && (decide (x ≤ s))) && (y != -1)) || ((y != -1) && (y != x))) = false) := by
        rw [Hid]
        rcases hyx with rfl | rfl
        · simp
        · simp
          intro q1 q2
          exact hys q1 q2
      have HML2 := hidden hMl
      have hy1 : y = -1 ∨ 0 ≤ y := by rcases hyx with h | h <;> omega
      clear hx hy hyx hys ht hh hg HAT HGL HBD hMl hltl
      have hinl : i < l.length := by omega
      have hinm : i < M.length := hlt
      by_cases qy : y = -1
      · by_cases qs : s < x
        · have gy : (y == -1) = true := by simp [qy]
          have HQ : Hid ((if y < 0 then 1 else 0) = 1) := by rw [Hid]; rw [if_pos (by omega)]
          clear qy
          go_upto_region 18 with fail
          refine regMs18 (x := x) (y := y) (s := s) rfl rfl rfl rfl rfl hinl hinm (by omega) hga hgb c0 d0 ?_
          intro b' w6 hf hb6 hv
          rw [layMs18 hf, hv, HF.out]
          clear hv hf c0 d0
          generalize Rg.out (Rg.opsOf Try.f3 18) b' 0 = o0
          generalize Rg.out (Rg.opsOf Try.f3 18) b' 1 = o1
          generalize Rg.out (Rg.opsOf Try.f3 18) b' 2 = o2
          generalize Rg.out (Rg.opsOf Try.f3 18) b' 3 = o3
          generalize Rg.out (Rg.opsOf Try.f3 18) b' 4 = o4
          generalize Rg.out (Rg.opsOf Try.f3 18) b' 5 = o5
          generalize Rg.out (Rg.opsOf Try.f3 18) b' 6 = o6
          generalize Rg.out (Rg.opsOf Try.f3 18) b' 7 = o7
          generalize Rg.out (Rg.opsOf Try.f3 18) b' 8 = o8
          generalize Rg.out (Rg.opsOf Try.f3 18) b' 9 = o9
          generalize Rg.out (Rg.opsOf Try.f3 18) b' 10 = o10
          generalize Rg.out (Rg.opsOf Try.f3 18) b' 11 = o11
          generalize Rg.out (Rg.opsOf Try.f3 18) b' 12 = o12
          generalize Rg.out (Rg.opsOf Try.f3 18) b' 13 = o13
          generalize Rg.out (Rg.opsOf Try.f3 18) b' 14 = o14
          generalize Rg.out (Rg.opsOf Try.f3 18) b' 15 = o15
          generalize Rg.out (Rg.opsOf Try.f3 18) b' 16 = o16
          generalize Rg.out (Rg.opsOf Try.f3 18) b' 17 = o17
          generalize Rg.out (Rg.opsOf Try.f3 18) b' 18 = o18
          generalize Rg.out (Rg.opsOf Try.f3 18) b' 19 = o19
          generalize Rg.out (Rg.opsOf Try.f3 18) b' 20 = o20
          generalize Rg.out (Rg.opsOf Try.f3 18) b' 21 = o21
          generalize Rg.out (Rg.opsOf Try.f3 18) b' 22 = o22
          generalize Rg.out (Rg.opsOf Try.f3 18) b' 23 = o23
          generalize Rg.out (Rg.opsOf Try.f3 18) b' 24 = o24
          generalize Rg.out (Rg.opsOf Try.f3 18) b' 25 = o25
          generalize Rg.out (Rg.opsOf Try.f3 18) b' 26 = o26
          generalize Rg.out (Rg.opsOf Try.f3 18) b' 27 = o27
          generalize Rg.out (Rg.opsOf Try.f3 18) b' 28 = o28
          generalize Rg.out (Rg.opsOf Try.f3 18) b' 29 = o29
          generalize Rg.out (Rg.opsOf Try.f3 18) b' 30 = o30
          generalize Rg.out (Rg.opsOf Try.f3 18) b' 31 = o31
          generalize Rg.out (Rg.opsOf Try.f3 18) b' 32 = o32
          generalize Rg.out (Rg.opsOf Try.f3 18) b' 33 = o33
          generalize Rg.out (Rg.opsOf Try.f3 18) b' 34 = o34
          generalize Rg.out (Rg.opsOf Try.f3 18) b' 35 = o35
          generalize Rg.out (Rg.opsOf Try.f3 18) b' 36 = o36
          go_frame
          go_wp2_with fail
          go_roundw
          case rel => exact ⟨i + 1, t + x, hd + 1, lg + 1, by omega, rfl, rfl, by simp, by simp, HT, by rw [Hid, HH.out, HQ.out], by rw [Hid, HL.out, if_pos qs], by omega, ontoB hb hb6⟩
          case measure => simp [intOf]; omega
        · have gy : (y == -1) = true := by simp [qy]
          have HQ : Hid ((if y < 0 then 1 else 0) = 1) := by rw [Hid]; rw [if_pos (by omega)]
          clear qy
          go_upto_region 18 with fail
          refine regMs18 (x := x) (y := y) (s := s) rfl rfl rfl rfl rfl hinl hinm (by omega) hga hgb c0 d0 ?_
          intro b' w6 hf hb6 hv
          rw [layMs18 hf, hv, HF.out]
          clear hv hf c0 d0
          generalize Rg.out (Rg.opsOf Try.f3 18) b' 0 = o0
          generalize Rg.out (Rg.opsOf Try.f3 18) b' 1 = o1
          generalize Rg.out (Rg.opsOf Try.f3 18) b' 2 = o2
          generalize Rg.out (Rg.opsOf Try.f3 18) b' 3 = o3
          generalize Rg.out (Rg.opsOf Try.f3 18) b' 4 = o4
          generalize Rg.out (Rg.opsOf Try.f3 18) b' 5 = o5
          generalize Rg.out (Rg.opsOf Try.f3 18) b' 6 = o6
          generalize Rg.out (Rg.opsOf Try.f3 18) b' 7 = o7
          generalize Rg.out (Rg.opsOf Try.f3 18) b' 8 = o8
          generalize Rg.out (Rg.opsOf Try.f3 18) b' 9 = o9
          generalize Rg.out (Rg.opsOf Try.f3 18) b' 10 = o10
          generalize Rg.out (Rg.opsOf Try.f3 18) b' 11 = o11
          generalize Rg.out (Rg.opsOf Try.f3 18) b' 12 = o12
          generalize Rg.out (Rg.opsOf Try.f3 18) b' 13 = o13
          generalize Rg.out (Rg.opsOf Try.f3 18) b' 14 = o14
          generalize Rg.out (Rg.opsOf Try.f3 18) b' 15 = o15
          generalize Rg.out (Rg.opsOf Try.f3 18) b' 16 = o16
          generalize Rg.out (Rg.opsOf Try.f3 18) b' 17 = o17
          generalize Rg.out (Rg.opsOf Try.f3 18) b' 18 = o18
          generalize Rg.out (Rg.opsOf Try.f3 18) b' 19 = o19
          generalize Rg.out (Rg.opsOf Try.f3 18) b' 20 = o20
          generalize Rg.out (Rg.opsOf Try.f3 18) b' 21 = o21
          generalize Rg.out (Rg.opsOf Try.f3 18) b' 22 = o22
          generalize Rg.out (Rg.opsOf Try.f3 18) b' 23 = o23
          generalize Rg.out (Rg.opsOf Try.f3 18) b' 24 = o24
          generalize Rg.out (Rg.opsOf Try.f3 18) b' 25 = o25
          generalize Rg.out (Rg.opsOf Try.f3 18) b' 26 = o26
          generalize Rg.out (Rg.opsOf Try.f3 18) b' 27 = o27
          generalize Rg.out (Rg.opsOf Try.f3 18) b' 28 = o28
          generalize Rg.out (Rg.opsOf Try.f3 18) b' 29 = o29
          generalize Rg.out (Rg.opsOf Try.f3 18) b' 30 = o30
          generalize Rg.out (Rg.opsOf Try.f3 18) b' 31 = o31
          generalize Rg.out (Rg.opsOf Try.f3 18) b' 32 = o32
          generalize Rg.out (Rg.opsOf Try.f3 18) b' 33 = o33
          generalize Rg.out (Rg.opsOf Try.f3 18) b' 34 = o34
          generalize Rg.out (Rg.opsOf Try.f3 18) b' 35 = o35
          generalize Rg.out (Rg.opsOf Try.f3 18) b' 36 = o36
          go_frame
          go_wp2_with fail
          go_roundw
          case rel => exact ⟨i + 1, t + x, hd + 1, lg + 0, by omega, rfl, rfl, by simp, rfl, HT, by rw [Hid, HH.out, HQ.out], by rw [Hid, HL.out, if_neg qs], by omega, ontoB hb hb6⟩
          case measure => simp [intOf]; omega
      · have qy2 : 0 ≤ y := by omega
        by_cases qs : s < x
        · have gy : (y == -1) = false := by simp [qy]
          have HQ : Hid ((if y < 0 then 1 else 0) = 0) := by rw [Hid]; rw [if_neg (by omega)]
          clear qy
          go_upto_region 18 with fail
          refine regMs18 (x := x) (y := y) (s := s) rfl rfl rfl rfl rfl hinl hinm (by omega) hga hgb c0 d0 ?_
          intro b' w6 hf hb6 hv
          rw [layMs18 hf, hv, HF.out]
          clear hv hf c0 d0
          generalize Rg.out (Rg.opsOf Try.f3 18) b' 0 = o0
          generalize Rg.out (Rg.opsOf Try.f3 18) b' 1 = o1
          generalize Rg.out (Rg.opsOf Try.f3 18) b' 2 = o2
          generalize Rg.out (Rg.opsOf Try.f3 18) b' 3 = o3
          generalize Rg.out (Rg.opsOf Try.f3 18) b' 4 = o4
          generalize Rg.out (Rg.opsOf Try.f3 18) b' 5 = o5
          generalize Rg.out (Rg.opsOf Try.f3 18) b' 6 = o6
          generalize Rg.out (Rg.opsOf Try.f3 18) b' 7 = o7
          generalize Rg.out (Rg.opsOf Try.f3 18) b' 8 = o8
          generalize Rg.out (Rg.opsOf Try.f3 18) b' 9 = o9
          generalize Rg.out (Rg.opsOf Try.f3 18) b' 10 = o10
          generalize Rg.out (Rg.opsOf Try.f3 18) b' 11 = o11
          generalize Rg.out (Rg.opsOf Try.f3 18) b' 12 = o12
          generalize Rg.out (Rg.opsOf Try.f3 18) b' 13 = o13
          generalize Rg.out (Rg.opsOf Try.f3 18) b' 14 = o14
          generalize Rg.out (Rg.opsOf Try.f3 18) b' 15 = o15
          generalize Rg.out (Rg.opsOf Try.f3 18) b' 16 = o16
          generalize Rg.out (Rg.opsOf Try.f3 18) b' 17 = o17
          generalize Rg.out (Rg.opsOf Try.f3 18) b' 18 = o18
          generalize Rg.out (Rg.opsOf Try.f3 18) b' 19 = o19
          generalize Rg.out (Rg.opsOf Try.f3 18) b' 20 = o20
          generalize Rg.out (Rg.opsOf Try.f3 18) b' 21 = o21
          generalize Rg.out (Rg.opsOf Try.f3 18) b' 22 = o22
          generalize Rg.out (Rg.opsOf Try.f3 18) b' 23 = o23
          generalize Rg.out (Rg.opsOf Try.f3 18) b' 24 = o24
          generalize Rg.out (Rg.opsOf Try.f3 18) b' 25 = o25
          generalize Rg.out (Rg.opsOf Try.f3 18) b' 26 = o26
          generalize Rg.out (Rg.opsOf Try.f3 18) b' 27 = o27
          generalize Rg.out (Rg.opsOf Try.f3 18) b' 28 = o28
          generalize Rg.out (Rg.opsOf Try.f3 18) b' 29 = o29
          generalize Rg.out (Rg.opsOf Try.f3 18) b' 30 = o30
          generalize Rg.out (Rg.opsOf Try.f3 18) b' 31 = o31
          generalize Rg.out (Rg.opsOf Try.f3 18) b' 32 = o32
          generalize Rg.out (Rg.opsOf Try.f3 18) b' 33 = o33
          generalize Rg.out (Rg.opsOf Try.f3 18) b' 34 = o34
          generalize Rg.out (Rg.opsOf Try.f3 18) b' 35 = o35
          generalize Rg.out (Rg.opsOf Try.f3 18) b' 36 = o36
          go_frame
          go_wp2_with fail
          go_roundw
          case rel => exact ⟨i + 1, t + x, hd + 0, lg + 1, by omega, rfl, rfl, rfl, by simp, HT, by rw [Hid, HH.out, HQ.out], by rw [Hid, HL.out, if_pos qs], by omega, ontoB hb hb6⟩
          case measure => simp [intOf]; omega
        · have gy : (y == -1) = false := by simp [qy]
          have HQ : Hid ((if y < 0 then 1 else 0) = 0) := by rw [Hid]; rw [if_neg (by omega)]
          clear qy
          go_upto_region 18 with fail
          refine regMs18 (x := x) (y := y) (s := s) rfl rfl rfl rfl rfl hinl hinm (by omega) hga hgb c0 d0 ?_
          intro b' w6 hf hb6 hv
          rw [layMs18 hf, hv, HF.out]
          clear hv hf c0 d0
          generalize Rg.out (Rg.opsOf Try.f3 18) b' 0 = o0
          generalize Rg.out (Rg.opsOf Try.f3 18) b' 1 = o1
          generalize Rg.out (Rg.opsOf Try.f3 18) b' 2 = o2
          generalize Rg.out (Rg.opsOf Try.f3 18) b' 3 = o3
          generalize Rg.out (Rg.opsOf Try.f3 18) b' 4 = o4
          generalize Rg.out (Rg.opsOf Try.f3 18) b' 5 = o5
          generalize Rg.out (Rg.opsOf Try.f3 18) b' 6 = o6
          generalize Rg.out (Rg.opsOf Try.f3 18) b' 7 = o7
          generalize Rg.out (Rg.opsOf Try.f3 18) b' 8 = o8
          generalize Rg.out (Rg.opsOf Try.f3 18) b' 9 = o9
          generalize Rg.out (Rg.opsOf Try.f3 18) b' 10 = o10
          generalize Rg.out (Rg.opsOf Try.f3 18) b' 11 = o11
          generalize Rg.out (Rg.opsOf Try.f3 18) b' 12 = o12
          generalize Rg.out (Rg.opsOf Try.f3 18) b' 13 = o13
          generalize Rg.out (Rg.opsOf Try.f3 18) b' 14 = o14
          generalize Rg.out (Rg.opsOf Try.f3 18) b' 15 = o15
          generalize Rg.out (Rg.opsOf Try.f3 18) b' 16 = o16
          generalize Rg.out (Rg.opsOf Try.f3 18) b' 17 = o17
          generalize Rg.out (Rg.opsOf Try.f3 18) b' 18 = o18
          generalize Rg.out (Rg.opsOf Try.f3 18) b' 19 = o19
          generalize Rg.out (Rg.opsOf Try.f3 18) b' 20 = o20
          generalize Rg.out (Rg.opsOf Try.f3 18) b' 21 = o21
          generalize Rg.out (Rg.opsOf Try.f3 18) b' 22 = o22
          generalize Rg.out (Rg.opsOf Try.f3 18) b' 23 = o23
          generalize Rg.out (Rg.opsOf Try.f3 18) b' 24 = o24
          generalize Rg.out (Rg.opsOf Try.f3 18) b' 25 = o25
          generalize Rg.out (Rg.opsOf Try.f3 18) b' 26 = o26
          generalize Rg.out (Rg.opsOf Try.f3 18) b' 27 = o27
          generalize Rg.out (Rg.opsOf Try.f3 18) b' 28 = o28
          generalize Rg.out (Rg.opsOf Try.f3 18) b' 29 = o29
          generalize Rg.out (Rg.opsOf Try.f3 18) b' 30 = o30
          generalize Rg.out (Rg.opsOf Try.f3 18) b' 31 = o31
          generalize Rg.out (Rg.opsOf Try.f3 18) b' 32 = o32
          generalize Rg.out (Rg.opsOf Try.f3 18) b' 33 = o33
          generalize Rg.out (Rg.opsOf Try.f3 18) b' 34 = o34
          generalize Rg.out (Rg.opsOf Try.f3 18) b' 35 = o35
          generalize Rg.out (Rg.opsOf Try.f3 18) b' 36 = o36
          go_frame
          go_wp2_with fail
          go_roundw
          case rel => exact ⟨i + 1, t + x, hd + 0, lg + 0, by omega, rfl, rfl, rfl, rfl, HT, by rw [Hid, HH.out, HQ.out], by rw [Hid, HL.out, if_neg qs], by omega, ontoB hb hb6⟩
          case measure => simp [intOf]; omega
    · have hlti : ¬ (i : Int) < (M.length : Int) := by omega
      have hiM : i = M.length := by omega
      subst hiM
      have hh2 := hh.out
      rw [List.take_length] at hh2
      have HKG := hidden (iguess_any ad3 M.length c3 M t wr (HM5.out.below hb) (by omega))
      have HR6 := hidden (HR5.out.below hb)
      have HM6 := hidden (HM5.out.below hb)
      have b6 := hidden (ontoM b5.out hb)
      by_cases hG : GoodM l s
      · have hMl := HGL.out hG
        have ht2 := ht.out
        have hg2 := hg.out
        rw [hMl, List.take_length] at ht2 hg2
        by_cases q1 : hd = 1
        · obtain ⟨hno, hgs⟩ := HG1.out hG (by omega)
          have hlg : lg = 0 := by
            rw [← hg2, List.countP_eq_zero]
            intro z hz
            simp [hno z hz]
          rw [← ht2] at hgs
          rw [hgs] at HKG
          subst hlg q1
          clear hgs hno hg2 ht2 hMl HGL HG1 HGM HNG HAT HBD hG hh hg ht hh2 HR5 HM5 b5
          go_wp2_with (first | (go_at_call 12; with_reducible refine HKG.out.mono ?_; rintro e w7 ⟨v7, rfl, ho7, hb7⟩; obtain ⟨ad7, c7, rfl⟩ := ho7.row.form; have HR7 := hidden (HR6.out.below hb7); have HG7 := hidden ho7.row; have b7 := hidden (ontoM b6.out hb7); clear ho7 hb7) | (go_at_call 10; with_reducible refine (sameA_any _ _ _ _ _ _ l _ HG7.out HR7.out (by omega)).mono ?_; rintro e w8 ⟨rfl, hb8⟩; have b8 := ontoM b7.out hb8; clear hb8))
          go_ret
          exact ⟨rfl, b8⟩
        · have hgs := HGM.out hG (by omega)
          rw [← ht2] at hgs
          rw [hgs] at HKG
          have q3 : ((hd : Int) == 1) = false := by simp; omega
          clear hgs hg2 ht2 hMl HGL HG1 HGM HNG HAT HBD hG hh hg ht hh2 HR5 HM5 b5
          go_wp2_with (first | (go_at_call 12; with_reducible refine HKG.out.mono ?_; rintro e w7 ⟨v7, rfl, ho7, hb7⟩; obtain ⟨ad7, c7, rfl⟩ := ho7.row.form; have HR7 := hidden (HM6.out.below hb7); have HG7 := hidden ho7.row; have b7 := hidden (ontoM b6.out hb7); clear ho7 hb7) | (go_at_call 10; with_reducible refine (sameA_any _ _ _ _ _ _ M _ HG7.out HR7.out (by omega)).mono ?_; rintro e w8 ⟨rfl, hb8⟩; have b8 := ontoM b7.out hb8; clear hb8))
          go_ret
          exact ⟨rfl, b8⟩
      · have hM := HNG.out hG
        have hgs : guess M t = M := by
          have ht2 := ht.out
          rw [hM] at ht2 ⊢
          simp at ht2
          rw [ht2]
          exact guess_nil
        have hhd : hd = 0 := by rw [← hh2, hM]; rfl
        rw [hgs] at HKG
        subst hhd
        have q3 : (((0 : Nat) : Int) == 1) = false := by simp
        clear hgs hM HGL HG1 HGM HNG HAT HBD hG hh hg ht hh2 HR5 HM5 b5
        go_wp2_with (first | (go_at_call 12; with_reducible refine HKG.out.mono ?_; rintro e w7 ⟨v7, rfl, ho7, hb7⟩; obtain ⟨ad7, c7, rfl⟩ := ho7.row.form; have HR7 := hidden (HM6.out.below hb7); have HG7 := hidden ho7.row; have b7 := hidden (ontoM b6.out hb7); clear ho7 hb7) | (go_at_call 10; with_reducible refine (sameA_any _ _ _ _ _ _ M _ HG7.out HR7.out (by omega)).mono ?_; rintro e w8 ⟨rfl, hb8⟩; have b8 := ontoM b7.out hb8; clear hb8))
        go_ret
        exact ⟨rfl, b8⟩
end Go.Proofs.Ytinnmebpipnccaa
