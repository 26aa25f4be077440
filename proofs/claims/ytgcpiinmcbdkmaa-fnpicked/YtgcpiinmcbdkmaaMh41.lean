/-
  Merged: Pk25.
-/
import Derived.Test.YtgcpiinmcbdkmaaMh40
namespace Go.Proofs.Ytgcpiinmcbdkmaa
open Go.RowKit Va Bl Pq
set_option linter.all false
theorem pick_len2 (l : List Ut) (n : Nd) (t c : Int) : (pick l n t c).length ≤ 100 := by
  unfold pick
  split
  · rename_i h
    have := pickB_iff.1 h
    rw [List.length_map, List.length_take]
    omega
  · simp
theorem bdo_len2 (l : List Ut) (n : Nd) (a : Da) : (bankDo l n a).length ≤ l.length := by
  unfold bankDo
  split
  · split
    · split
      · exact Nat.le_refl _
      · rw [List.length_set]; exact Nat.le_refl _
    · exact Nat.le_refl _
  · exact Nat.zero_le _
theorem trace_len2 (l : List Ut) (p : Int) : (trace l p).length ≤ l.length := by
  unfold trace traceL
  split
  · rw [List.length_map]; exact List.length_filter_le _ _
  · exact Nat.zero_le _
set_option maxRecDepth 20000 in
set_option maxHeartbeats 16000000 in
theorem fpk_walk (ao : Option Addr) (cap : Nat) (bs : List Int) (w : World) (hb : Bytes w w.heap.size ao bs) :
    Calls Try.prog 3 #[.slice ao bs.length cap] w fun e w' => e = .returned (.bool true) ∧ Below w.heap.size w w' := by
  have hB := big_any ao cap bs.length
  have HBY := hidden hb
  clear hb
  by_cases hbig : (4096 : Int) < (bs.length : Int)
  · rw [decide_eq_true hbig] at hB
    go_enter Try.func3, Try.ntmps3
    go_wp2_with fail
    refine (hB _).mono ?_
    rintro e w1 ⟨rfl, rfl⟩
    go_wp2_with fail
    go_ret
    exact ⟨rfl, Below.refl _ _⟩
  rw [decide_eq_false hbig] at hB
  have hl : bs.length ≤ 4096 := by omega
  have hD := dpickU_any ao cap bs w HBY.out (by omega)
  go_enter Try.func3, Try.ntmps3
  go_wp2_with fail
  refine (hB _).mono ?_
  rintro e w1 ⟨rfl, hw1⟩
  obtain rfl := hw1.symm
  clear hw1
  go_wp2_with fail
  refine hD.mono ?_
  rintro e w1 ⟨l, ad, c, n, na, nc, t, k, rfl, hl3, hant, hag, hU, hN, hb1⟩
  clear hB hD
  go_upto_region 4 with fail
  have bx : Below w1.heap.size w1 (w1.alloc (.cells #[.int .i64 n.p, .int .i64 n.g, .slice na n.ag.length nc] 27)) := by repeat (first | exact Below.refl _ _ | refine st_drew ?_ | refine st_drewN ?_ _ | refine Below.setCell ?_ (by first | omega | (simp; done) | (simp; omega)) _ | refine Below.alloc ?_ (by first | omega | (simp; done) | (simp; omega)) _)
  have HP := hidden (PB.new w1 #[.int .i64 n.p, .int .i64 n.g, .slice na n.ag.length nc] 27)
  have HB := hidden (onto hb1 bx)
  have HU := hidden (hU.below bx)
  have HN := hidden (hN.below bx)
  generalize w1.alloc (.cells #[.int .i64 n.p, .int .i64 n.g, .slice na n.ag.length nc] 27) = w2 at *
  generalize w1.heap.size = PP at *
  clear hb1 bx hU hN
  have HAN := hidden hant
  clear hant
  have hIM := fun W h1 h2 => ipick_any ad l.length c l n na n.ag.length nc t k W h1 (by omega) (fun x hx => by have := HAN.out x hx; omega) h2 (by omega)
  have hSP := fun W h1 h2 => spick_any ad l.length c l n na n.ag.length nc t k W h1 (by omega) (fun x hx => by have := HAN.out x hx; omega) h2 (by omega)
  have hRl := pick_len2 l n t k
  have HPK := hidden (fun z (hz : z ∈ pick l n t k) => picked hz)
  generalize pick l n t k = R at *
  unfold aN at hIM hSP
  obtain ⟨c0, c1, c2⟩ := HP.out.three
  go_wp2_with fail
  refine (hIM _ HU.out HN.out).mono ?_
  rintro e w3 ⟨adR, kR, rfl, ho3, hb3⟩
  have HR3 := hidden ho3
  have HP3 := hidden (HP.out.below hb3)
  have HU3 := hidden (HU.out.below hb3)
  have HN3 := hidden (HN.out.below hb3)
  have HB3 := hidden (onto HB.out hb3)
  clear c0 c1 c2 ho3 hb3 HP HU HN HB hIM
  obtain ⟨c0, c1, c2⟩ := HP3.out.three
  go_wp2_with fail
  refine (hSP _ HU3.out HN3.out).mono ?_
  rintro e w4 ⟨adS, kS, rfl, ho4, hb4⟩
  have HS4 := hidden ho4
  have HR4 := hidden (ownW_below HR3.out hb4)
  have HP4 := hidden (HP3.out.below hb4)
  have HU4 := hidden (HU3.out.below hb4)
  have HN4 := hidden (HN3.out.below hb4)
  have HB4 := hidden (onto HB3.out hb4)
  clear c0 c1 c2 ho4 hb4 HR3 HP3 HU3 HN3 HB3 hSP
  go_wp2_with fail
  refine (sameI_any _ _ _ _ _ _ R _ (ownQ_irw HR4.out) (ownQ_irw HS4.out) (by omega)).mono ?_
  rintro e w5 ⟨rfl, hb5⟩
  have HR5 := hidden (ownW_below HR4.out hb5)
  have HP5 := hidden (HP4.out.below hb5)
  have HU5 := hidden (HU4.out.below hb5)
  have HN5 := hidden (HN4.out.below hb5)
  have HB5 := hidden (onto HB4.out hb5)
  clear hb5 HS4 HR4 HP4 HU4 HN4 HB4
  go_wp2_with fail
  go_loopw [8, 9, 10, 11, 12] (fun iv _ _ _ _ wr => ∃ i : Nat, i ≤ R.length ∧ iv = .int .i64 i ∧ Below w5.heap.size w5 wr) (fun iv _ _ _ _ _ => R.length - (intOf iv).toNat)
  case atStart => exact ⟨0, Nat.zero_le _, rfl, Below.refl _ _⟩
  case round =>
    obtain ⟨i, hi, rfl, hbr⟩ := hrel
    by_cases hlt : i < R.length
    · have hlti : (i : Int) < (R.length : Int) := by omega
      by_cases h5 : i < 5
      · have h5i : (i : Int) < 5 := by omega
        obtain ⟨z, hz⟩ := some_of R i hlt
        obtain ⟨e1, e2, e3⟩ := HPK.out z (List.mem_of_getElem? hz)
        have HRr := ownW_below HR5.out hbr
        obtain ⟨G, hadR, hG, -, hcl⟩ := ownI_at HRr hz
        subst hadR
        have hcz := hcl i z hz
        have HPr := hidden (HP5.out.below hbr)
        have HUr := hidden (HU5.out.below hbr)
        have HNr := hidden (fun W (hW : Below wr.heap.size wr W) => (HN5.out.below hbr).below hW)
        have HBr := hidden (onto HB5.out hbr)
        have hI := hidden (fun W hU hN => ibdoU_any ad l.length c l n na nc ⟨1, z, t⟩ W hU (by omega) HAN.out hN hag)
        rw [e1] at hI
        have hl1 : (bankDo l n ⟨1, z, t⟩).length ≤ 1048576 := Nat.le_trans (bdo_len2 l n _) (by omega)
        have hA1 : ∀ x ∈ bankDo l n ⟨1, z, t⟩, x.ant.length ≤ 4 := fun x hx => by obtain ⟨y, hy, he⟩ := do_ant x hx; rw [he]; exact HAN.out y hy
        have hJ := hidden (fun ao len cap W hU hN => ibdoU_any ao len cap (bankDo l n ⟨1, z, t⟩) n na nc ⟨3, z, t⟩ W hU hl1 hA1 hN hag)
        rw [e2] at hJ
        have hl2 : (bankDo (bankDo l n ⟨1, z, t⟩) n ⟨3, z, t⟩).length ≤ 1048576 := Nat.le_trans (bdo_len2 _ n _) hl1
        have hA2 : ∀ x ∈ bankDo (bankDo l n ⟨1, z, t⟩) n ⟨3, z, t⟩, x.ant.length ≤ 4 := fun x hx => by obtain ⟨y, hy, he⟩ := do_ant x hx; rw [he]; exact hA1 y hy
        have hTR := hidden (fun ao len cap W hU => itrace_any ao len cap (bankDo (bankDo l n ⟨1, z, t⟩) n ⟨3, z, t⟩) n.p W hU hl2 (fun x hx => by have := hA2 x hx; omega))
        have hTl := trace_len2 (bankDo (bankDo l n ⟨1, z, t⟩) n ⟨3, z, t⟩) n.p
        have E3 := hidden e3
        generalize bankDo (bankDo l n ⟨1, z, t⟩) n ⟨3, z, t⟩ = L2 at *
        generalize bankDo l n ⟨1, z, t⟩ = L1 at *
        generalize trace L2 n.p = TL at *
        clear hA1 hA2 hcl hz e1 e2 e3 HRr
        go_upto_region 10 with fail
        refine regFp10 (BN := PP) (G := G) (m := R.length) (kR := kR) (i := i) (n := n) (z := z) (t9 := t) (L1 := L1) rfl rfl rfl rfl rfl rfl HPr.out hG hcz hlt (fun W hW => hI.out W (HUr.out.below hW) (HNr.out W hW)) ?_
        intro b' w6 hf hb6 ⟨ad6, c6, hv1, hu6⟩ hv2
        rw [layFp10 hf, hv1, hv2]
        clear hv1 hv2 hf
        generalize Rg.out (Rg.opsOf Try.f3 10) b' 0 = y0
        generalize Rg.out (Rg.opsOf Try.f3 10) b' 1 = y1
        generalize Rg.out (Rg.opsOf Try.f3 10) b' 2 = y2
        generalize Rg.out (Rg.opsOf Try.f3 10) b' 3 = y3
        generalize Rg.out (Rg.opsOf Try.f3 10) b' 4 = y4
        generalize Rg.out (Rg.opsOf Try.f3 10) b' 5 = y5
        generalize Rg.out (Rg.opsOf Try.f3 10) b' 6 = y6
        generalize Rg.out (Rg.opsOf Try.f3 10) b' 7 = y7
        generalize Rg.out (Rg.opsOf Try.f3 10) b' 8 = y8
        generalize Rg.out (Rg.opsOf Try.f3 10) b' 9 = y9
        generalize Rg.out (Rg.opsOf Try.f3 10) b' 10 = y10
        generalize Rg.out (Rg.opsOf Try.f3 10) b' 11 = y11
        have HU6 := hidden hu6
        have HP6 := hidden (HPr.out.below hb6)
        have hG6 : G < w6.heap.size := Nat.lt_of_lt_of_le hG hb6.size
        have hcz6 := (hb6.cell (p := ⟨G, i, none⟩) hG).trans hcz
        have B6 := hidden hb6
        clear hu6 hb6
        go_frame
        go_upto_region 11 with fail
        refine regFp11 (BN := PP) (G := G) (m := R.length) (kR := kR) (i := i) (n := n) (z := z) (t9 := t) (L1 := L2) rfl rfl rfl rfl rfl rfl HP6.out hG6 hcz6 hlt (fun W hW => hJ.out _ _ _ W (HU6.out.below hW) (HNr.out W (onto B6.out hW))) ?_
        intro b' w7 hf hb7 ⟨ad7, c7, hv1, hu7⟩ hv2
        rw [layFp11 hf, hv1, hv2]
        clear hv1 hv2 hf
        generalize Rg.out (Rg.opsOf Try.f3 11) b' 0 = y0
        generalize Rg.out (Rg.opsOf Try.f3 11) b' 1 = y1
        generalize Rg.out (Rg.opsOf Try.f3 11) b' 2 = y2
        generalize Rg.out (Rg.opsOf Try.f3 11) b' 3 = y3
        generalize Rg.out (Rg.opsOf Try.f3 11) b' 4 = y4
        generalize Rg.out (Rg.opsOf Try.f3 11) b' 5 = y5
        generalize Rg.out (Rg.opsOf Try.f3 11) b' 6 = y6
        generalize Rg.out (Rg.opsOf Try.f3 11) b' 7 = y7
        generalize Rg.out (Rg.opsOf Try.f3 11) b' 8 = y8
        generalize Rg.out (Rg.opsOf Try.f3 11) b' 9 = y9
        generalize Rg.out (Rg.opsOf Try.f3 11) b' 10 = y10
        generalize Rg.out (Rg.opsOf Try.f3 11) b' 11 = y11
        have HU7 := hidden hu7
        have HP7 := hidden (HP6.out.below hb7)
        have hG7 : G < w7.heap.size := Nat.lt_of_lt_of_le hG6 hb7.size
        have hcz7 := (hb7.cell (p := ⟨G, i, none⟩) hG6).trans hcz6
        have B7 := hidden (onto B6.out hb7)
        clear hu7 hb7
        go_frame
        go_upto_region 12 with fail
        refine regFp12 (BN := PP) (G := G) (m := R.length) (kR := kR) (i := i) (n := n) (z := z) (TL := TL) rfl rfl rfl rfl rfl rfl rfl HP7.out hG7 hcz7 hlt (fun W hW => hTR.out _ _ _ W (HU7.out.below hW)) (fun ad c b9 W ho => hasZ_any ad c b9 _ TL z W ho (by omega) E3.out) ?_
        intro b' w8 hf hb8 hv
        rw [layFp12 hf, hv]
        clear hv hf
        generalize Rg.out (Rg.opsOf Try.f3 12) b' 0 = y0
        generalize Rg.out (Rg.opsOf Try.f3 12) b' 1 = y1
        generalize Rg.out (Rg.opsOf Try.f3 12) b' 2 = y2
        generalize Rg.out (Rg.opsOf Try.f3 12) b' 3 = y3
        generalize Rg.out (Rg.opsOf Try.f3 12) b' 4 = y4
        generalize Rg.out (Rg.opsOf Try.f3 12) b' 5 = y5
        generalize Rg.out (Rg.opsOf Try.f3 12) b' 6 = y6
        generalize Rg.out (Rg.opsOf Try.f3 12) b' 7 = y7
        generalize Rg.out (Rg.opsOf Try.f3 12) b' 8 = y8
        generalize Rg.out (Rg.opsOf Try.f3 12) b' 9 = y9
        generalize Rg.out (Rg.opsOf Try.f3 12) b' 10 = y10
        generalize Rg.out (Rg.opsOf Try.f3 12) b' 11 = y11
        generalize Rg.out (Rg.opsOf Try.f3 12) b' 12 = y12
        generalize Rg.out (Rg.opsOf Try.f3 12) b' 13 = y13
        generalize Rg.out (Rg.opsOf Try.f3 12) b' 14 = y14
        generalize Rg.out (Rg.opsOf Try.f3 12) b' 15 = y15
        generalize Rg.out (Rg.opsOf Try.f3 12) b' 16 = y16
        have B8 := hidden (onto B7.out hb8)
        have hbF := hbr.trans (B8.out.mono hbr.size)
        clear hb8
        go_frame
        go_wp2_with fail
        go_roundw
        case rel => exact ⟨i + 1, by omega, by simp, hbF⟩
        case measure => simp [intOf]; omega
      · have h5i : ¬ (i : Int) < 5 := by omega
        go_wp2_with fail
        go_ret
        exact ⟨rfl, onto HB5.out hbr⟩
    · have hlti : ¬ (i : Int) < (R.length : Int) := by omega
      go_wp2_with fail
      go_ret
      exact ⟨rfl, onto HB5.out hbr⟩
end Go.Proofs.Ytgcpiinmcbdkmaa
