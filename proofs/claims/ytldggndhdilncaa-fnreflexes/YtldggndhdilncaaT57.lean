/-
  Reflexes: each test once, all that is asked for in it, and of itself itself: the walk of the law.
-/
import Derived.Test.YtldggndhdilncaaT57a
import Derived.BigQuiet
import Derived.Deep.QuietTactic
namespace Go.Proofs.Ytldggndhdilncaa
open Go.RowKit Va Lb
set_option linter.all false

set_option maxRecDepth 20000 in
set_option maxHeartbeats 2000000 in
theorem hasT_any (ad : Option Addr) (n c : Nat) (zs : List Int) (x : Int) (w : World) (h : VRw 1 cvI w (.slice ad n c) zs) (hn : zs.length ≤ 1048576) :
    Calls Try.prog 8 #[.slice ad n c, .int .i64 x] w fun e w' => e = .returned (.bool (decide (x ∈ zs))) ∧ w' = w := by
  obtain rfl := h.len
  go_enter Try.func8, Try.ntmps8
  go_wp2_with fail
  go_loopw [5] (fun iv wr => wr = w ∧ ∃ i : Nat, i ≤ zs.length ∧ iv = .int .i64 i ∧ Hid (∀ j, j < i → zs[j]? ≠ some x)) (fun iv _ => zs.length - (intOf iv).toNat)
  case atStart => exact ⟨rfl, 0, Nat.zero_le _, rfl, fun j hj => absurd hj (Nat.not_lt_zero _)⟩
  case round =>
    obtain ⟨rfl, i, hi, rfl, HN⟩ := hrel
    by_cases hlt : i < zs.length
    · have hlti : (i : Int) < (zs.length : Int) := by omega
      obtain ⟨y, hy⟩ := some_of zs i hlt
      obtain ⟨G, off, rfl, hG, hc1⟩ := vint_cell h hy
      by_cases hgx : y = x
      · have HM : Hid (decide (x ∈ zs) = true) := by rw [Hid, decide_eq_true_eq, ← hgx]; exact List.mem_of_getElem? hy
        rw [hgx] at hc1
        clear hgx hy h
        go_wp2_with fail
        go_ret
        exact ⟨by rw [HM.out]; rfl, rfl⟩
      · have hgx2 : (y == x) = false := by simpa using hgx
        have HN2 : Hid (∀ j, j < i + 1 → zs[j]? ≠ some x) := fun j hj q => by
          rcases Nat.lt_succ_iff_lt_or_eq.1 hj with z | z
          · exact HN.out j z q
          · rw [z, hy] at q; exact hgx (Option.some.inj q)
        clear hgx hy
        go_wp2_with fail
        go_roundw
        case rel => first | exact ⟨rfl, i + 1, by omega, rfl, HN2⟩ | exact ⟨trivial, i + 1, by omega, rfl, HN2⟩
        case measure => simp [intOf]; omega
    · have hlti : ¬ (i : Int) < (zs.length : Int) := by omega
      have HM : Hid (decide (x ∈ zs) = false) := by
        rw [Hid, decide_eq_false_iff_not]
        intro hx
        obtain ⟨j, hj⟩ := List.getElem?_of_mem hx
        exact HN.out j (by have := get_lt' hj; omega) hj
      go_wp2_with fail
      go_ret
      exact ⟨by rw [HM.out]; rfl, rfl⟩

set_option maxRecDepth 20000 in
set_option maxHeartbeats 2000000 in
theorem sameT_any (a1 : Option Addr) (n1 c1 : Nat) (a2 : Option Addr) (n2 c2 : Nat) (l : List Int) (w : World) (h : VRw 1 cvI w (.slice a1 n1 c1) l) (h' : VRw 1 cvI w (.slice a2 n2 c2) l) (hn : l.length ≤ 1048576) :
    Calls Try.prog 9 #[.slice a1 n1 c1, .slice a2 n2 c2] w fun e w' => e = .returned (.bool true) ∧ Below w.heap.size w w' := by
  obtain rfl := h.len
  obtain rfl := h'.len
  have HH := hidden h
  have HH' := hidden h'
  clear h h'
  go_enter Try.func9, Try.ntmps9
  go_wp2_with fail
  go_loopw [5] (fun iv wr => ∃ i : Nat, i ≤ l.length ∧ iv = .int .i64 i ∧ Below w.heap.size w wr) (fun iv _ => l.length - (intOf iv).toNat)
  case atStart => exact ⟨0, Nat.zero_le _, rfl, Below.refl _ _⟩
  case round =>
    obtain ⟨i, hil, rfl, hb⟩ := hrel
    by_cases hlt : i < l.length
    · have hlti : (i : Int) < (l.length : Int) := by omega
      obtain ⟨x, hx⟩ := some_of l i hlt
      obtain ⟨g, off, rfl, hg, c0⟩ := vint_cell (HH.out.below hb) hx
      obtain ⟨g', off', rfl, hg', d0⟩ := vint_cell (HH'.out.below hb) hx
      clear hx
      go_wp2_with fail
      go_quiet (fail)
      go_wp2_with fail
      go_roundw
      case rel => exact ⟨i + 1, by omega, rfl, by repeat (first | exact Below.refl _ _ | assumption | refine st_drew ?_ | refine st_drewN ?_ _ | refine Below.setCell ?_ (by first | omega | (simp; done) | (simp; omega)) _ | refine Below.alloc ?_ (by first | omega | (simp; done) | (simp; omega)) _)⟩
      case measure => simp [intOf]; omega
    · have hlti : ¬ (i : Int) < (l.length : Int) := by omega
      go_wp2_with fail
      go_ret
      exact ⟨rfl, hb⟩

theorem pre_row {w : World} {a : Option Addr} {c i : Nat} {l : List Int} (h : VRw 1 cvI w (.slice a l.length c) l) (hi : i ≤ l.length) : VRw 1 cvI w (.slice a i c) (l.take i) := by
  obtain ⟨ao', cap', he, hc, h2⟩ := h
  simp only [Value.slice.injEq, true_and] at he
  obtain ⟨rfl, rfl⟩ := he
  refine ⟨a, c, by rw [List.length_take, Nat.min_eq_left hi], by rw [List.length_take]; omega, ?_⟩
  rcases h2 with h2 | ⟨b, off, h3, h4, h5⟩
  · exact Or.inl (by rw [List.length_take]; omega)
  · exact Or.inr ⟨b, off, h3, h4, fun j x hx => h5 j x (by rw [List.getElem?_take] at hx; split at hx; exact hx; cases hx)⟩

set_option maxRecDepth 20000 in
set_option maxHeartbeats 8000000 in
theorem frx_walk (ao : Option Addr) (cap : Nat) (bs : List Int) (w : World) (hb : Bytes w w.heap.size ao bs) :
    Calls Try.prog 3 #[.slice ao bs.length cap] w fun e w' => e = .returned (.bool true) ∧ Below w.heap.size w w' := by
  have hB := big_any ao cap bs.length
  have HBY := hidden hb
  clear hb
  by_cases hbig : (4096 : Int) < (bs.length : Int)
  · rw [decide_eq_true hbig] at hB
    go_enter Try.func3, Try.ntmps3
    go_wp2_with fail
    refine (hB _).mono ?_
    rintro e w1 ⟨rfl, rfl⟩
    go_wp2_with fail
    go_ret
    exact ⟨rfl, Below.refl _ _⟩
  rw [decide_eq_false hbig] at hB
  have hl : bs.length ≤ 4096 := by omega
  have hD := drf_any ao cap bs w HBY.out (by omega)
  go_enter Try.func3, Try.ntmps3
  go_wp2_with fail
  refine (hB _).mono ?_
  rintro e w1 ⟨rfl, hw1⟩
  have hw2 := hw1.symm
  clear hw1
  subst hw2
  go_wp2_with fail
  refine hD.mono ?_
  rintro e w1 ⟨rs, vs, qs, ar, cr, av, cv, aq, cq, rfl, n1, n2, n3, hvb, hR, hV, hQ, b1⟩
  clear hB hD
  have hin : ∀ x ∈ vs, InR x.te ∧ InR x.v := fun x hx => by have := hvb x hx; unfold InR; omega
  have hvl : ∀ x ∈ vs, vlB x.v = true := fun x hx => by have := hvb x hx; unfold vlB rng; simp; omega
  have HR := hidden hR
  have HV := hidden hV
  have HQ := hidden hQ
  have HIN := hidden hin
  have HVL := hidden hvl
  have HFA := hidden (fun (h : RfOk rs vs qs) => reflexes_facts h)
  have HNO := hidden (fun (h : ¬ RfOk rs vs qs) => rf_none h)
  have hI1 := ireflexes_any ar rs.length cr rs av vs.length cv vs aq qs.length cq qs w1 hR hV hQ (by omega) (by omega) (by omega) hin
  have hS1 := fun W hW1 hW2 hW3 => sreflexes_any ar rs.length cr rs av vs.length cv vs aq qs.length cq qs W hW1 hW2 hW3 (by omega) (by omega) (by omega) hvl
  clear hR hV hQ hin hvl hvb
  obtain ⟨L, hL⟩ : ∃ L, L = reflexes rs vs qs := ⟨_, rfl⟩
  rw [← hL] at hI1 hS1
  have HL := hidden hL
  clear hL
  go_wp2_with fail
  refine hI1.mono ?_
  rintro e w2 ⟨v2, rfl, ho2, b2⟩
  obtain ⟨al, cl, rfl⟩ := ho2.row.form
  have HO := hidden ho2.row
  clear ho2 hI1
  go_wp2_with fail
  refine (hS1 w2 (HR.out.below b2) (HV.out.below b2) (HQ.out.below b2)).mono ?_
  rintro e w3 ⟨v3, rfl, ho3, b3⟩
  obtain ⟨a3, c3, rfl⟩ := ho3.row.form
  have b13 := onto b2 b3
  have HR3 := hidden (HR.out.below b13)
  have HV3 := hidden (HV.out.below b13)
  have HQ3 := hidden (HQ.out.below b13)
  have HO3 := hidden (HO.out.below b3)
  have HB3 := hidden (onto b1 b13)
  clear ho3 hS1 HR HV HQ HO b1 b2 b3 b13
  by_cases h0 : L.length = 0
  · have h0i : ((L.length : Int) == 0) = true := by rw [h0]; rfl
    clear h0
    go_wp2_with fail
    go_ret
    exact ⟨rfl, HB3.out⟩
  have h0i : ((L.length : Int) == 0) = false := beq_false_of_ne (by omega)
  have hG : RfOk rs vs qs := Classical.byContradiction fun h => h0 (by rw [HL.out, HNO.out h]; rfl)
  obtain ⟨hA, hin2, hself⟩ := HFA.out hG
  rw [← HL.out] at hA hin2 hself
  have hl100 := apt_len hA
  have HND := hidden hA.1
  have HIN2 := hidden hin2
  have HSF := hidden hself
  clear hA hin2 hself hG h0 HFA HNO
  go_wp2_with fail
  go_loopw [7] (fun iv wr => ∃ (i : Nat), i ≤ qs.length ∧ iv = .int .i64 i ∧ wr = w3) (fun iv _ => qs.length - (intOf iv).toNat)
  case atStart => exact ⟨0, Nat.zero_le _, rfl, rfl⟩
  case round =>
    obtain ⟨i, hi, rfl, hwr⟩ := hrel
    obtain rfl := hwr.symm
    clear hwr
    by_cases hlt : i < qs.length
    · have hlti : (i : Int) < (qs.length : Int) := by omega
      obtain ⟨x, hx⟩ := some_of qs i hlt
      obtain ⟨g, off, rfl, hg, c0⟩ := vint_cell HQ3.out hx
      have hK := hasT_any al L.length cl L x w3 HO3.out (by omega)
      rw [decide_eq_true (HIN2.out x (List.mem_of_getElem? hx))] at hK
      clear hx
      go_wp2_with fail
      refine hK.mono ?_
      rintro e w4 ⟨rfl, hw4⟩
      obtain rfl := hw4.symm
      clear hw4 hK
      go_wp2_with fail
      go_roundw
      case rel => first | exact ⟨i + 1, by omega, rfl, rfl⟩ | exact ⟨i + 1, by omega, rfl, trivial⟩
      case measure => simp [intOf]; omega
    · have hlti : ¬ (i : Int) < (qs.length : Int) := by omega
      go_wp2_with fail
      go_loopw [8] (fun iv wq => ∃ (i : Nat), i ≤ L.length ∧ iv = .int .i64 i ∧ Below w3.heap.size w3 wq) (fun iv _ => L.length - (intOf iv).toNat)
      case atStart => exact ⟨0, Nat.zero_le _, rfl, Below.refl _ _⟩
      case round =>
        obtain ⟨j, hj, rfl, hq⟩ := hrel
        by_cases hlt2 : j < L.length
        · have hlti2 : (j : Int) < (L.length : Int) := by omega
          have hjle : (j : Int) ≤ (L.length : Int) := by omega
          obtain ⟨y, hy⟩ := some_of L j hlt2
          obtain ⟨g, off, rfl, hg, c0⟩ := vint_cell (HO3.out.below hq) hy
          have hnin : y ∉ L.take j := fun hm => by
            obtain ⟨k, hk⟩ := List.getElem?_of_mem hm
            rw [List.getElem?_take] at hk
            split at hk
            · rename_i hkj
              have h1 := (List.getElem?_eq_some_iff.1 hk)
              have h2 := (List.getElem?_eq_some_iff.1 hy)
              obtain ⟨l1, e1⟩ := h1
              obtain ⟨l2, e2⟩ := h2
              exact List.pairwise_iff_getElem.1 HND.out k j l1 l2 hkj (e1.trans e2.symm)
            · cases hk
          have hcl : L.length ≤ cl := by
            obtain ⟨_, _, he, hc, _⟩ := HO3.out
            simp only [Value.slice.injEq, true_and] at he
            omega
          have hK : ∀ W, Below wr.heap.size wr W → Calls Try.prog 8 #[.slice (some ⟨g, off, none⟩) j cl, .int .i64 y] W fun e W' => e = .returned (.bool false) ∧ Below W.heap.size W W' := fun W hW => by
            refine (hasT_any (some ⟨g, off, none⟩) j cl (L.take j) y W (pre_row ((HO3.out.below hq).below hW) hj) (by rw [List.length_take]; omega)).mono ?_
            rintro e w' ⟨rfl, rfl⟩
            exact ⟨by rw [decide_eq_false hnin], Below.refl _ _⟩
          clear hnin
          go_upto_region 17 with fail
          refine regFx17 (t := false) rfl rfl rfl hlt2 (by omega) (by omega) hg c0 hK ?_
          intro b' w4 hf hb4 hv7
          have hbb := onto hq hb4
          rw [layFx17 hf, hv7]
          clear hf hv7 hK
          generalize Rg.out (Rg.opsOf Try.f3 17) b' 0 = y0
          generalize Rg.out (Rg.opsOf Try.f3 17) b' 1 = y1
          generalize Rg.out (Rg.opsOf Try.f3 17) b' 2 = y2
          generalize Rg.out (Rg.opsOf Try.f3 17) b' 3 = y3
          generalize Rg.out (Rg.opsOf Try.f3 17) b' 4 = y4
          generalize Rg.out (Rg.opsOf Try.f3 17) b' 5 = y5
          generalize Rg.out (Rg.opsOf Try.f3 17) b' 6 = y6
          go_frame
          go_wp2_with fail
          go_roundw
          case rel => exact ⟨j + 1, by omega, rfl, hbb⟩
          case measure => simp [intOf]; omega
        · have hlti2 : ¬ (j : Int) < (L.length : Int) := by omega
          have hI2 := ireflexes_any ar rs.length cr rs av vs.length cv vs al L.length cl L wr (HR3.out.below hq) (HV3.out.below hq) (HO3.out.below hq) (by omega) (by omega) (by omega) HIN.out
          rw [HSF.out] at hI2
          go_wp2_with fail
          refine hI2.mono ?_
          rintro e w5 ⟨v5, rfl, ho5, b5⟩
          obtain ⟨a5, c5, rfl⟩ := ho5.row.form
          have HW5 := hidden ho5.row
          clear ho5 hI2
          go_wp2_with fail
          refine (sameT_any a5 L.length c5 al L.length cl L w5 HW5.out ((HO3.out.below hq).below b5) (by omega)).mono ?_
          rintro e w6 ⟨rfl, b6⟩
          have HBF := hidden (onto (onto (onto HB3.out hq) b5) b6)
          go_wp2_with fail
          go_ret
          exact ⟨rfl, HBF.out⟩
end Go.Proofs.Ytldggndhdilncaa
