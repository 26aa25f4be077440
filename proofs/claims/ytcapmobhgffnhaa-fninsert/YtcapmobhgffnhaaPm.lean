/-
  An emergency comes at its times: the walk of the law.
-/
import Derived.Test.YtcapmobhgffnhaaPl
import Derived.Test.YtcapmobhgffnhaaPk
import Derived.Test.YtcapmobhgffnhaaOz
namespace Go.Proofs.Ytcapmobhgffnhaa
open Go.RowKit Va Oa
set_option linter.unusedVariables false

theorem map_snoc_at {L : List (Opn × Value)} {P : List Opn} {u : Opn} (h : L.map Prod.fst = P ++ [u]) : (L.map Prod.fst)[P.length]? = some u := by rw [h]; simp
theorem map_at {L : List (Opn × Value)} {P : List Opn} {u y : Opn} {i : Nat} (h : L.map Prod.fst = P ++ [u]) (hy : P[i]? = some y) : (L.map Prod.fst)[i]? = some y := by
  rw [h, List.getElem?_append_left (get_lt' hy)]; exact hy

set_option maxRecDepth 20000 in
set_option maxHeartbeats 16000000 in
theorem fin_walk (ao : Option Addr) (cap : Nat) (bs : List Int) (w : World) (hb : Bytes w w.heap.size ao bs) :
    Calls Try.prog 5 #[.slice ao bs.length cap] w fun e w' => e = .returned (.bool true) ∧ Below w.heap.size w w' := by
  have hB := big_any ao cap bs.length
  have HBY := hidden hb
  clear hb
  by_cases hbig : (4096 : Int) < (bs.length : Int)
  · rw [decide_eq_true hbig] at hB
    go_enter Try.func5, Try.ntmps5
    go_wp2_with fail
    refine (hB _).mono ?_
    rintro e w1 ⟨rfl, rfl⟩
    go_wp2_with fail
    go_ret
    exact ⟨rfl, Below.refl _ _⟩
  rw [decide_eq_false hbig] at hB
  have hl : bs.length ≤ 4096 := by omega
  go_enter Try.func5, Try.ntmps5
  go_wp2_with fail
  refine (hB w).mono ?_
  rintro e w1 ⟨rfl, hw1⟩
  subst hw1
  clear hB
  go_wp2_with fail
  refine (din_any ao cap bs _ HBY.out (by omega)).mono ?_
  rintro e w2 ⟨bo, c, L, u, ta, tc, r, rfl, ho, ht, hx, hL, hs, hr0, hr1, b2⟩
  have HO := hidden ho
  have HT := hidden ht
  have HX := hidden hx
  have HROW : Hid (∀ W, Below w2.heap.size w2 W → ORw W (.slice (some ⟨bo, 0, none⟩) L.length c) (L.map Prod.fst)) := fun W hW => own_orw (ownO_below HO.out hW) fun p hp => (own_irw (HT.out p hp).1).below hW
  have HXR : Hid (∀ W, Below w2.heap.size w2 W → IRw W (.slice ta u.team.length tc) u.team) := fun W hW => (own_irw HX.out).below hW
  have HSH : Hid (∀ y ∈ L.map Prod.fst, y.team.length ≤ 1048576) := fun y hy => by
    obtain ⟨p, hp, rfl⟩ := List.mem_map.1 hy
    have := (HT.out p hp).2.2.2.2.1
    omega
  have HSM : Hid (∀ y ∈ L.map Prod.fst, Small y) := fun y hy => by
    obtain ⟨p, hp, rfl⟩ := List.mem_map.1 hy
    exact (HT.out p hp).2
  obtain ⟨s1, s2, s3, s4, s5⟩ := hs
  clear ho ht hx
  have hbA : Below w2.heap.size w2 (w2.alloc (.cells #[.int .i64 u.room, .int .i64 u.fr, .int .i64 u.to, .slice ta u.team.length tc] 31)) := (Below.refl _ _).alloc (Nat.le_refl _) _
  have hBA : TBox (w2.alloc (.cells #[.int .i64 u.room, .int .i64 u.fr, .int .i64 u.to, .slice ta u.team.length tc] 31)) w2.heap.size #[.int .i64 u.room, .int .i64 u.fr, .int .i64 u.to, .slice ta u.team.length tc] 31 := heap_alloc_new _ _
  have HLM : Hid ((L.map Prod.fst).length = L.length) := by rw [Hid, List.length_map]
  have HLM2 : Hid ((L.map Prod.fst).length ≤ 1048576) := by rw [Hid, List.length_map]; omega
  have kI := fun W (hW : Below w2.heap.size w2 W) => iinsert_any u ta u.team.length tc (some ⟨bo, 0, none⟩) L.length c (L.map Prod.fst) r W (HROW.out W hW) HLM2.out HSH.out (HXR.out W hW) (by omega)
  have kS := fun W (hW : Below w2.heap.size w2 W) => sinsert_any u ta u.team.length tc (some ⟨bo, 0, none⟩) L.length c (L.map Prod.fst) r W (HROW.out W hW) HLM2.out HSH.out (HXR.out W hW) (by omega)
  unfold aO at kI kS
  unfold aO
  go_upto_region 4 with fail
  generalize hwA : w2.alloc (.cells #[.int .i64 u.room, .int .i64 u.fr, .int .i64 u.to, .slice ta u.team.length tc] 31) = wA at *
  generalize hOO : w2.heap.size = O at *
  have hOl : O < wA.heap.size := hBA.lt
  obtain ⟨⟨a0, a1, a2, a3⟩, af⟩ := hBA.four
  clear af hwA
  generalize hl0 : L.map Prod.fst = l at *
  go_wp2_with fail
  refine (kI _ hbA).mono ?_
  rintro e w3 ⟨M, v3, h3, t3, rfl, hE3, ho3, ht3, hb3⟩
  have hb3' : Below O w2 w3 := hbA.trans (hb3.mono (Nat.le_of_lt hOl))
  have hB3 := hBA.below hb3
  obtain ⟨⟨e0, e1, e2, e3⟩, ef⟩ := hB3.four
  have HE3 := hidden hE3
  have HO3 := hidden ho3
  have HT3 := hidden ht3
  clear hb3 kI hBA a0 a1 a2 a3 ef hbA hE3 ho3 ht3
  obtain ⟨a3, c3, rfl⟩ := ownO_slice HO3.out
  go_wp2_with fail
  refine (kS _ hb3').mono ?_
  rintro e w4 ⟨M4, v4, h4, t4, rfl, hE4, -, -, hb4⟩
  have hb4' : Below O w2 w4 := hb3'.trans (hb4.mono (by have := hb3'.size; omega))
  have hB4 := hB3.below hb4
  obtain ⟨⟨f0, f1, f2, f3⟩, ff⟩ := hB4.four
  have HO4 := hidden (ownO_below HO3.out hb4)
  have HT4 := hidden (HT3.out.below hb4)
  obtain ⟨rfl, rfl⟩ : h4 = h3 ∧ t4 = t3 := by
    have := HE3.out.trans hE4.symm
    simp only [Prod.mk.injEq] at this
    exact ⟨this.2.1.symm, this.2.2.symm⟩
  clear hb4 kS hB3 e0 e1 e2 e3 ff hb3' hE4 HO3 HT3
  have HEND : Hid (∀ W, Below O w2 W → Below w1.heap.size w1 W) := fun W hW => b2.trans (hW.mono (by rw [← hOO]; exact b2.size))
  cases t4 with
  | false =>
    have HM : Hid (M = []) := List.map_eq_nil_iff.1 (insert_false HE3.out.symm)
    have hM := HM.out
    subst hM
    go_wp2_with fail
    go_ret
    exact ⟨rfl, HEND.out _ hb4'⟩
  | true =>
    obtain ⟨P, hP, hPl, hcl, hnear, hsum, hub⟩ := insert_facts HE3.out.symm
    have HP := hidden hP
    have HPL := hidden hPl
    have HCL := hidden hcl
    have HNR := hidden hnear
    have HSUM := hidden hsum
    have hLl : l.length = L.length := HLM.out
    have HMN : Hid (M.length = L.length + 1) := by
      have := congrArg List.length hP
      simp only [List.length_map, List.length_append, List.length_cons, List.length_nil] at this
      rw [Hid]; omega
    have HPS := hidden (psum_bd hPl hnear (fun x hx => (HSM.out x hx).2.1.1))
    clear hP hPl hcl hnear hsum
    have HMR : Hid (∀ W, Below w4.heap.size w4 W → ORw W (.slice a3 M.length c3) (M.map Prod.fst)) := fun W hW => own_orw (ownO_below HO4.out hW) fun p hp => (own_irw (HT4.out.1 p hp)).below hW
    have HMS : Hid (∀ y ∈ M.map Prod.fst, y.team.length ≤ 8) := fun y hy => by
      rw [HP.out] at hy
      rcases List.mem_append.1 hy with q | q
      · obtain ⟨j, hj⟩ := List.getElem?_of_mem q
        obtain ⟨x, hx⟩ : ∃ x, l[j]? = some x := ⟨_, List.getElem?_eq_getElem (by have := get_lt' hj; have := HPL.out; omega)⟩
        have := (HNR.out j x y hx hj).2.1
        rw [this]
        exact (HSM.out x (List.mem_of_getElem? hx)).2.2.2.1
      · simp at q; subst q; exact s4
    obtain ⟨G, og, t2, c2, hag, hGl, htr2, y0, y1, y2, y3⟩ := (HMR.out w4 (Below.refl _ _)).at (map_snoc_at HP.out)
    have HTR2 := hidden htr2
    rw [HPL.out, hLl] at y0 y1 y2 y3
    subst hag
    clear htr2
    have hMl := HMN.out
    rw [hMl] at HMR
    have hLn : L.length ≤ 1048576 := by omega
    have HKS : Hid (∀ W, Below w4.heap.size w4 W → Calls Try.prog 19 #[.agg #[.int .i64 u.room, .int .i64 u.fr, .int .i64 u.to, .slice t2 u.team.length c2], .agg #[.int .i64 u.room, .int .i64 u.fr, .int .i64 u.to, .slice ta u.team.length tc]] W fun e W' => e = .returned (.bool true) ∧ Below W.heap.size W W') :=
      fun W hW => sameO_any u t2 u.team.length c2 ta u.team.length tc W (HTR2.out.below hW) (HXR.out W (hb4'.trans (hW.mono (by have := hb4'.size; omega)))) (by omega)
    have HKC : Hid (∀ W, Below w4.heap.size w4 W → Calls Try.prog 11 #[.slice (some ⟨G, og, none⟩) (L.length + 1) c3, .int .i64 r] W fun e W' => ∃ ad cc, e = .returned (.slice ad 0 cc) ∧ Below W.heap.size W W') :=
      fun W hW => (iclash_any (some ⟨G, og, none⟩) (L.length + 1) c3 (M.map Prod.fst) r W (HMR.out W hW) (by simp; omega) (fun x hx => by have := HMS.out x hx; omega)).mono (fun e W' ⟨ad, cc, he, _, hb⟩ => ⟨ad, cc, by rw [he, HCL.out], hb⟩)
    have HB4 := hidden hB4
    rw [hMl]
    clear hMl HMN hB4 f0 f1 f2 f3
    go_upto_region 11 with fail
    go_cut [74] (fun tv wx => tv = .bool false ∧ Below w4.heap.size w4 wx)
    case first =>
      refine regI11 (G := G) (og := og) (n := L.length) (cl := c3) (V := O) (u := u) (t1 := ta) (t2 := t2) (c1 := tc) (c2 := c2) (r := r) rfl rfl rfl rfl rfl hLn hGl y0 y1 y2 y3 HB4.out HKS.out HKC.out ?_
      intro b' w7 hf hb7 h20
      rw [layI11 hf, h20]
      generalize Rg.out (Rg.opsOf Try.f5 11) b' 0 = z0
      generalize Rg.out (Rg.opsOf Try.f5 11) b' 1 = z1
      generalize Rg.out (Rg.opsOf Try.f5 11) b' 2 = z2
      generalize Rg.out (Rg.opsOf Try.f5 11) b' 3 = z3
      generalize Rg.out (Rg.opsOf Try.f5 11) b' 4 = z4
      generalize Rg.out (Rg.opsOf Try.f5 11) b' 5 = z5
      generalize Rg.out (Rg.opsOf Try.f5 11) b' 6 = z6
      generalize Rg.out (Rg.opsOf Try.f5 11) b' 7 = z7
      generalize Rg.out (Rg.opsOf Try.f5 11) b' 8 = z8
      generalize Rg.out (Rg.opsOf Try.f5 11) b' 9 = z9
      generalize Rg.out (Rg.opsOf Try.f5 11) b' 10 = z10
      generalize Rg.out (Rg.opsOf Try.f5 11) b' 11 = z11
      generalize Rg.out (Rg.opsOf Try.f5 11) b' 12 = z12
      generalize Rg.out (Rg.opsOf Try.f5 11) b' 13 = z13
      generalize Rg.out (Rg.opsOf Try.f5 11) b' 14 = z14
      generalize Rg.out (Rg.opsOf Try.f5 11) b' 15 = z15
      generalize Rg.out (Rg.opsOf Try.f5 11) b' 16 = z16
      generalize Rg.out (Rg.opsOf Try.f5 11) b' 17 = z17
      generalize Rg.out (Rg.opsOf Try.f5 11) b' 18 = z18
      generalize Rg.out (Rg.opsOf Try.f5 11) b' 19 = z19
      go_frame
      go_wp2_with fail
      go_meet
      case rel => exact ⟨rfl, hb7⟩
    case rest =>
      obtain ⟨rfl, hb5⟩ := hcut
      clear y0 y1 y2 y3
      go_wp2_with fail
      go_loopw [13, 14] (fun sv iv wr => ∃ i : Nat, iv = .int .i64 i ∧ i ≤ L.length ∧ sv = .int .i64 (psum l P i) ∧ Below w4.heap.size w4 wr) (fun _ iv _ => L.length - (intOf iv).toNat)
      case atStart => exact ⟨0, rfl, Nat.zero_le _, rfl, hb5⟩
      case round =>
        clear hb5
        obtain ⟨i, rfl, hi, rfl, hbr⟩ := hrel
        have hps := HPS.out i (by omega)
        by_cases hlt : i < L.length
        · have hlti : (i : Int) < (L.length : Int) := by omega
          obtain ⟨x, hx⟩ := some_of l i (by omega)
          obtain ⟨y, hy⟩ := some_of P i (by have := HPL.out; omega)
          obtain ⟨n1, n2, n3, n4, n5⟩ := HNR.out i x y hx hy
          obtain ⟨-, m2, m3, -, -⟩ := of_opB n5
          have hsx := HSM.out x (List.mem_of_getElem? hx)
          obtain ⟨-, x2b, x3b, x4b, -⟩ := hsx
          have hbr2 : Below O w2 wr := hb4'.trans (hbr.mono (by have := hb4'.size; omega))
          obtain ⟨B1, ob, t1, c1, hob, hBl, htr1, x0, x1, x2, x3⟩ := (HROW.out wr hbr2).at hx
          obtain ⟨G1, og1, t2', c2', hog, hGl1, htry, y0, y1, y2, y3⟩ := (HMR.out wr hbr).at (map_at HP.out hy)
          simp only [Option.some.injEq, Addr.mk.injEq, and_true] at hob hog
          obtain ⟨rfl, rfl⟩ := hob
          obtain ⟨rfl, rfl⟩ := hog
          rw [n1] at y0
          rw [n2] at htry y3
          have HPN : Hid (psum l P (i + 1) = psum l P i + (y.fr - x.fr)) := psum_succ hx hy
          have HKI : Hid (∀ W, Below wr.heap.size wr W → Calls Try.prog 20 #[.slice t2' x.team.length c2', .slice t1 x.team.length c1] W fun e W' => e = .returned (.bool true) ∧ Below W.heap.size W W') :=
            fun W hW => sameI_any t2' x.team.length c2' t1 x.team.length c1 x.team W (htry.below hW) (htr1.below hW) (by omega)
          generalize psum l P i = ps at *
          clear hx hy htry htr1 n5 hbr2
          go_upto_region 17 with fail
          go_cut [142] (fun tv wx => tv = .bool false ∧ Below wr.heap.size wr wx)
          case first =>
            refine regI17 (G := G) (og := og) (m := L.length + 1) (cl := c3) (B := bo) (ob := 0) (n := L.length) (cs := c) (i := i) (rm := x.room) (yfr := y.fr) (yto := y.to) (xfr := x.fr) (xto := x.to) (lg := x.to - x.fr) (t1 := t1) (t2 := t2') (nt1 := x.team.length) (nt2 := x.team.length) (c1 := c1) (c2 := c2') rfl rfl rfl rfl hGl1 hBl (by omega) hlt (by omega) hlti y0 y1 y2 y3 x0 x1 x2 x3 n3 rfl (by omega) (by omega) (by omega) (by omega) (by omega) HKI.out ?_
            intro b' w7 hf hb7 h62
            rw [layI17 hf, h62]
            generalize Rg.out (Rg.opsOf Try.f5 17) b' 0 = z0
            generalize Rg.out (Rg.opsOf Try.f5 17) b' 1 = z1
            generalize Rg.out (Rg.opsOf Try.f5 17) b' 2 = z2
            generalize Rg.out (Rg.opsOf Try.f5 17) b' 3 = z3
            generalize Rg.out (Rg.opsOf Try.f5 17) b' 4 = z4
            generalize Rg.out (Rg.opsOf Try.f5 17) b' 5 = z5
            generalize Rg.out (Rg.opsOf Try.f5 17) b' 6 = z6
            generalize Rg.out (Rg.opsOf Try.f5 17) b' 7 = z7
            generalize Rg.out (Rg.opsOf Try.f5 17) b' 8 = z8
            generalize Rg.out (Rg.opsOf Try.f5 17) b' 9 = z9
            generalize Rg.out (Rg.opsOf Try.f5 17) b' 10 = z10
            generalize Rg.out (Rg.opsOf Try.f5 17) b' 11 = z11
            generalize Rg.out (Rg.opsOf Try.f5 17) b' 12 = z12
            generalize Rg.out (Rg.opsOf Try.f5 17) b' 13 = z13
            generalize Rg.out (Rg.opsOf Try.f5 17) b' 14 = z14
            generalize Rg.out (Rg.opsOf Try.f5 17) b' 15 = z15
            generalize Rg.out (Rg.opsOf Try.f5 17) b' 16 = z16
            generalize Rg.out (Rg.opsOf Try.f5 17) b' 17 = z17
            generalize Rg.out (Rg.opsOf Try.f5 17) b' 18 = z18
            generalize Rg.out (Rg.opsOf Try.f5 17) b' 19 = z19
            generalize Rg.out (Rg.opsOf Try.f5 17) b' 20 = z20
            generalize Rg.out (Rg.opsOf Try.f5 17) b' 21 = z21
            generalize Rg.out (Rg.opsOf Try.f5 17) b' 22 = z22
            generalize Rg.out (Rg.opsOf Try.f5 17) b' 23 = z23
            generalize Rg.out (Rg.opsOf Try.f5 17) b' 24 = z24
            generalize Rg.out (Rg.opsOf Try.f5 17) b' 25 = z25
            generalize Rg.out (Rg.opsOf Try.f5 17) b' 26 = z26
            generalize Rg.out (Rg.opsOf Try.f5 17) b' 27 = z27
            generalize Rg.out (Rg.opsOf Try.f5 17) b' 28 = z28
            generalize Rg.out (Rg.opsOf Try.f5 17) b' 29 = z29
            generalize Rg.out (Rg.opsOf Try.f5 17) b' 30 = z30
            generalize Rg.out (Rg.opsOf Try.f5 17) b' 31 = z31
            generalize Rg.out (Rg.opsOf Try.f5 17) b' 32 = z32
            generalize Rg.out (Rg.opsOf Try.f5 17) b' 33 = z33
            generalize Rg.out (Rg.opsOf Try.f5 17) b' 34 = z34
            generalize Rg.out (Rg.opsOf Try.f5 17) b' 35 = z35
            generalize Rg.out (Rg.opsOf Try.f5 17) b' 36 = z36
            generalize Rg.out (Rg.opsOf Try.f5 17) b' 37 = z37
            generalize Rg.out (Rg.opsOf Try.f5 17) b' 38 = z38
            generalize Rg.out (Rg.opsOf Try.f5 17) b' 39 = z39
            generalize Rg.out (Rg.opsOf Try.f5 17) b' 40 = z40
            generalize Rg.out (Rg.opsOf Try.f5 17) b' 41 = z41
            generalize Rg.out (Rg.opsOf Try.f5 17) b' 42 = z42
            generalize Rg.out (Rg.opsOf Try.f5 17) b' 43 = z43
            generalize Rg.out (Rg.opsOf Try.f5 17) b' 44 = z44
            generalize Rg.out (Rg.opsOf Try.f5 17) b' 45 = z45
            generalize Rg.out (Rg.opsOf Try.f5 17) b' 46 = z46
            generalize Rg.out (Rg.opsOf Try.f5 17) b' 47 = z47
            generalize Rg.out (Rg.opsOf Try.f5 17) b' 48 = z48
            generalize Rg.out (Rg.opsOf Try.f5 17) b' 49 = z49
            generalize Rg.out (Rg.opsOf Try.f5 17) b' 50 = z50
            generalize Rg.out (Rg.opsOf Try.f5 17) b' 51 = z51
            generalize Rg.out (Rg.opsOf Try.f5 17) b' 52 = z52
            generalize Rg.out (Rg.opsOf Try.f5 17) b' 53 = z53
            generalize Rg.out (Rg.opsOf Try.f5 17) b' 54 = z54
            generalize Rg.out (Rg.opsOf Try.f5 17) b' 55 = z55
            generalize Rg.out (Rg.opsOf Try.f5 17) b' 56 = z56
            generalize Rg.out (Rg.opsOf Try.f5 17) b' 57 = z57
            generalize Rg.out (Rg.opsOf Try.f5 17) b' 58 = z58
            generalize Rg.out (Rg.opsOf Try.f5 17) b' 59 = z59
            generalize Rg.out (Rg.opsOf Try.f5 17) b' 60 = z60
            generalize Rg.out (Rg.opsOf Try.f5 17) b' 61 = z61
            go_frame
            go_wp2_with fail
            go_meet
            case rel => exact ⟨rfl, hb7⟩
          case rest =>
            obtain ⟨rfl, hb8⟩ := hcut
            have z1 := ((bcell hb8).1 _ _ hGl1).trans y1
            have z2 := ((bcell hb8).1 _ _ hBl).trans x1
            simp only [Nat.zero_add] at z2
            have hlt1 : (i : Int) < (L.length : Int) + 1 := by omega
            have hbq := onto hbr hb8
            clear y0 y1 y2 y3 x0 x1 x2 x3 hb8
            go_upto_region 19 with fail
            go_quiet (fail)
            go_wp2_with fail
            go_roundw
            case rel => exact ⟨i + 1, rfl, by omega, by rw [HPN.out]; first | rfl | (congr 1; omega), by repeat (first | exact Below.refl _ _ | assumption | refine st_drew ?_ | refine st_drewN ?_ _ | refine Below.setCell ?_ (by first | omega | (simp; done) | (simp; omega)) _ | refine Below.alloc ?_ (by first | omega | (simp; done) | (simp; omega)) _)⟩
            case measure => simp [intOf]; omega
        · have hlti : ¬ (i : Int) < (L.length : Int) := by omega
          have hil : i = L.length := by omega
          have HH : Hid (psum l P i = h4) := by rw [Hid, hil, ← hLl]; exact HSUM.out.symm
          rw [HH.out]
          clear hil
          go_wp2_with fail
          go_ret
          exact ⟨rfl, HEND.out _ (hb4'.trans (hbr.mono (by have := hb4'.size; omega)))⟩
end Go.Proofs.Ytcapmobhgffnhaa
