/-
  Operations clash by twos: the walk of the law.
-/
import Derived.Test.YtcapmobhgffnhaaPg
namespace Go.Proofs.Ytcapmobhgffnhaa
open Go.RowKit Va Oa
set_option linter.unusedVariables false

theorem clash_short {l : List Opn} {r : Int} (h : l.length ≤ 201) : (clash l r).length ≤ 1048576 := by
  by_cases q : OpsOk l ∧ isR r
  · rw [clash_yes q.1 q.2]
    have h1 := upto_len l r l.length
    have h2 : l.length * l.length ≤ 201 * 201 := Nat.mul_le_mul h h
    omega
  · rw [clash_no q]; simp
theorem IRw.two {w w' : World} {v : Value} {l : List Int} (h : IRw w v l) (hb : Below w.heap.size w w') : IRw w' v l := h.below hb

set_option maxRecDepth 20000 in
set_option maxHeartbeats 16000000 in
theorem fcl_walk (ao : Option Addr) (cap : Nat) (bs : List Int) (w : World) (hb : Bytes w w.heap.size ao bs) :
    Calls Try.prog 3 #[.slice ao bs.length cap] w fun e w' => e = .returned (.bool true) ∧ Below w.heap.size w w' := by
  obtain ⟨i0, hi0, hy0, hy1, hy2⟩ := info_partsO infoOpP
  have hB := big_any ao cap bs.length
  have HBY := hidden hb
  clear hb
  by_cases hbig : (4096 : Int) < (bs.length : Int)
  · rw [decide_eq_true hbig] at hB
    go_enter Try.func3, Try.ntmps3
    go_wp2_with fail
    refine (hB _).mono ?_
    rintro e w1 ⟨rfl, rfl⟩
    go_wp2_with fail
    go_ret
    exact ⟨rfl, Below.refl _ _⟩
  rw [decide_eq_false hbig] at hB
  have hl : bs.length ≤ 4096 := by omega
  go_enter Try.func3, Try.ntmps3
  go_wp2_with fail
  refine (hB w).mono ?_
  rintro e w1 ⟨rfl, hw1⟩
  subst hw1
  clear hB
  go_wp2_with fail
  refine (dcl_any ao cap bs _ HBY.out (by omega)).mono ?_
  rintro e w2 ⟨ad, c, l, r, rfl, hrow, hll, hsm, hr0, hr1, b2⟩
  have HR2 := hidden hrow
  have HSM := hidden hsm
  have HT : Hid (∀ x ∈ l, x.team.length ≤ 1048576) := fun x hx => by have := (hsm x hx).2.2.2.1; omega
  clear hrow hsm
  go_wp2_with fail
  refine (iclash_any ad l.length c l r _ HR2.out (by omega) HT.out).mono ?_
  rintro e w3 ⟨ad3, c3, rfl, ho3, hb3⟩
  have b3 := onto b2 hb3
  have HR3 := hidden (HR2.out.below hb3)
  clear b2 hb3 HR2
  have HO3 := hidden ho3
  clear ho3
  go_wp2_with fail
  refine (sclash_any ad l.length c l r _ HR3.out (by omega) HT.out).mono ?_
  rintro e w4 ⟨ad4, c4, rfl, -, hb4⟩
  have b4 := onto b3 hb4
  have HR := hidden (HR3.out.below hb4)
  have HO := hidden (ownO_below HO3.out hb4)
  clear b3 hb4 HR3 HO3
  have HCI : Hid (∀ c ∈ clash l r, 0 ≤ c.a ∧ c.a < c.b ∧ c.b < (l.length : Int)) := fun c hc => clash_in hc
  have HREV := hidden (clash_reverse l r)
  have HRWC := hidden ((own_of rfl HO.out).row)
  clear HO
  have hCLn : (clash l r).length ≤ 1048576 := clash_short (by omega)
  generalize hCL : clash l r = CL at *
  clear hCL
  have HS := hidden (FB.start w4)
  go_upto_region 10 with fail
  generalize hWA : (w4.alloc (.cells #[] 31)).alloc (.cells #[] 31) = wA at *
  generalize hV6 : Value.slice (some ⟨w4.heap.size, 0, none⟩) 0 0 = v6s at *
  generalize hV7 : Value.slice (some ⟨w4.heap.size + 1, 0, none⟩) 0 0 = v7s at *
  clear hWA hV6 hV7
  go_loopw [6, 7, 8] (fun v6 v7 iv wr => ∃ (i : Nat) (F B : List (Opn × Value)), iv = .int .i64 i ∧ i ≤ l.length ∧ Hid (F.length = i ∧ B.length = i) ∧ Hid (FB w4 wr v6 v7 F B) ∧ Hid (B.map Prod.fst = (l.take i).reverse)) (fun _ _ iv _ => l.length - (intOf iv).toNat)
  case atStart => exact ⟨0, [], [], rfl, Nat.zero_le _, ⟨rfl, rfl⟩, HS, rfl⟩
  case round =>
    clear HS
    obtain ⟨i, F, B, rfl, hil, HLn, HFB, HBM⟩ := hrel
    by_cases hlt : i < l.length
    · have hlti : (i : Int) < (l.length : Int) := by omega
      obtain ⟨x, hx⟩ := some_of l i hlt
      obtain ⟨g, off, ta, tc, rfl, hgl, htr, c0, c1, c2, c3⟩ := HR.out.at hx
      have HTR : Hid (IRw w4 (.slice ta x.team.length tc) x.team ∧ x.team.length ≤ 8) := ⟨htr, (HSM.out x (List.mem_of_getElem? hx)).2.2.2.1⟩
      obtain ⟨-, s2, s3, -, -⟩ := HSM.out x (List.mem_of_getElem? hx)
      have HX := hidden hx
      have hbw := HFB.out.below
      have d0 := ((bcell hbw).1 _ _ hgl).trans c0
      have d1 := ((bcell hbw).1 _ _ hgl).trans c1
      have d2 := ((bcell hbw).1 _ _ hgl).trans c2
      have d3 := ((bcell hbw).1 _ _ hgl).trans c3
      have hzw := hbw.size
      obtain ⟨a6, c6, rfl⟩ := HFB.out.form6
      obtain ⟨b7, c7, rfl⟩ := HFB.out.form7
      have hb7 := HFB.out.lt7 b7 rfl
      have HL6 := hidden HFB.out.lt6
      clear hx htr c0 c1 c2 c3 hbw
      have hVb : TBox ((wr.alloc (.cells #[.int .i64 x.room, .int .i64 x.fr, .int .i64 x.to, .slice ta x.team.length tc] 31)).alloc (.cells #[.int .i64 x.room, .int .i64 x.fr, .int .i64 x.to, .slice ta x.team.length tc] 31)) wr.heap.size #[.int .i64 x.room, .int .i64 x.fr, .int .i64 x.to, .slice ta x.team.length tc] 31 :=
        TBox.below (W := wr.alloc (.cells #[.int .i64 x.room, .int .i64 x.fr, .int .i64 x.to, .slice ta x.team.length tc] 31)) (heap_alloc_new _ _) ((Below.refl _ _).alloc (Nat.le_refl _) _)
      have hOS : ((wr.alloc (.cells #[.int .i64 x.room, .int .i64 x.fr, .int .i64 x.to, .slice ta x.team.length tc] 31)).alloc (.cells #[.int .i64 x.room, .int .i64 x.fr, .int .i64 x.to, .slice ta x.team.length tc] 31)).ownsRow (wr.heap.size + 1) 31 4 (.slice (some ⟨wr.heap.size + 1, 0, none⟩) 1 1) 1 [.int .i64 x.room, .int .i64 x.fr, .int .i64 x.to, .slice ta x.team.length tc] := by
        refine ⟨rfl, .inr ⟨wr.heap.size + 1, 1, #[.int .i64 x.room, .int .i64 x.fr, .int .i64 x.to, .slice ta x.team.length tc], rfl, Nat.le_refl _, ?_, Nat.le_refl _, by unfold maxLen; omega, rfl, rfl⟩⟩
        have := heap_alloc_new (wr.alloc (.cells #[.int .i64 x.room, .int .i64 x.fr, .int .i64 x.to, .slice ta x.team.length tc] 31)) (.cells #[.int .i64 x.room, .int .i64 x.fr, .int .i64 x.to, .slice ta x.team.length tc] 31)
        simp only [World.size_alloc] at this
        exact this
      have hFB2 := (HFB.out.alloc (.cells #[.int .i64 x.room, .int .i64 x.fr, .int .i64 x.to, .slice ta x.team.length tc] 31)).alloc (.cells #[.int .i64 x.room, .int .i64 x.fr, .int .i64 x.to, .slice ta x.team.length tc] 31)
      have HSRC := hidden (own_src hFB2.back.own)
      have HONE := hidden (cellsO_one hFB2.back.teams)
      have HLEN : Hid ((cellsO B).length = B.length * 4) := cellsO_len B
      have HVB := hidden hVb
      have HOS := hidden hOS
      have HFB2 := hidden hFB2
      clear hVb hOS hFB2
      go_upto_region 15 with (at_builtin; refine wpList_append_own _ rfl (.tmp 47) (.tmp 48) 24 rfl (wr.heap.size + 1) 31 i0 (.agg #[.int .i64 0, .int .i64 0, .int .i64 0, .slice none 0 0]) 4 48 Try.underlying24 hi0 hy0 hy1 hy2 rfl (by decide) _ 1 [.int .i64 x.room, .int .i64 x.fr, .int .i64 x.to, .slice ta x.team.length tc] rfl HOS.out ⟨b7, 0, none⟩ B.length c7 (cellsO B) rfl HLEN.out HSRC.out HONE.out (by unfold maxLen; have := HLn.out; omega) (by have := HLn.out; omega) (by simp) ?_; intro v5 w5 ho5 hg5 hn5)
      have HFB5 := hidden (FB.goback (p := (x, .slice ta x.team.length tc)) HFB2.out (fun k hk => by have := HL6.out k hk; omega) (by omega) HTR.out ho5 hg5 (by rw [World.size_alloc, World.size_alloc]; omega) (by intro e; have := (hn5.1 e).1; cases this))
      have hV5 := HVB.out.grown hg5 (fun k hk => by cases hk; show wr.heap.size + 1 ≠ wr.heap.size; omega)
      have hz5 := hg5.size
      simp only [World.size_alloc] at hz5
      have hn7 : ∀ k, v5.ownBlock = some k → k ≠ wr.heap.size := fun k hk => by have := (ownO_lt ho5 k hk).1; omega
      have hn6 : ∀ k, (Value.slice a6 F.length c6).ownBlock = some k → k ≠ wr.heap.size := fun k hk => by have := HL6.out k hk; omega
      clear ho5 hg5 hn5 HFB HFB2 HOS HVB HSRC HONE HLEN hb7 d0 d1 d2 d3
      have HBM5 : Hid ((((x, Value.slice ta x.team.length tc) :: B)).map Prod.fst = (l.take (i + 1)).reverse) := by
        have := HBM.out
        rw [Hid, take_snocW HX.out, List.reverse_append]
        simp [this]
      have hV6 := (hV5.set 1 (.int .i64 ((i : Int) * 10000))).set 2 (.int .i64 ((i : Int) * 10000 + (x.to - x.fr)))
      have HFB6 := hidden ((HFB5.out.set hzw hn6 hn7 1 (.int .i64 ((i : Int) * 10000))).set hzw hn6 hn7 2 (.int .i64 ((i : Int) * 10000 + (x.to - x.fr))))
      obtain ⟨⟨e0, e1, e2, e3⟩, ef⟩ := hV5.four
      have ef1 := ef 1
      have ef2 := ef 2
      clear ef HFB5 hV5
      go_upto_region 17 with fail
      generalize hwD : (w5.setCell ⟨wr.heap.size, 1, none⟩ (.int .i64 ((i : Int) * 10000))).setCell ⟨wr.heap.size, 2, none⟩ (.int .i64 ((i : Int) * 10000 + (x.to - x.fr))) = wD at *
      clear hwD e0 e1 e2 e3 ef1 ef2 hz5
      have hV7 : TBox wD wr.heap.size #[.int .i64 x.room, .int .i64 ((i : Int) * 10000), .int .i64 ((i : Int) * 10000 + (x.to - x.fr)), .slice ta x.team.length tc] 31 := hV6
      obtain ⟨⟨e0, e1, e2, e3⟩, ef⟩ := hV7.four
      have HOF := hidden (HFB6.out.alloc (.cells #[.int .i64 x.room, .int .i64 ((i : Int) * 10000), .int .i64 ((i : Int) * 10000 + (x.to - x.fr)), .slice ta x.team.length tc] 31))
      have hzD := HFB6.out.below.size
      clear hV6 hV7 ef HFB6
      go_wp2_with (at_builtin; refine wpList_append_own_at _ rfl (.tmp 58) (.tmp 60) 24 rfl w4.heap.size 31 i0 (.agg #[.int .i64 0, .int .i64 0, .int .i64 0, .slice none 0 0]) 4 48 Try.underlying24 hi0 hy0 hy1 hy2 rfl (by decide) _ F.length (cellsO F) rfl HOF.out.far.own ⟨wD.heap.size, 0, none⟩ 1 1 [.int .i64 x.room, .int .i64 ((i : Int) * 10000), .int .i64 ((i : Int) * 10000 + (x.to - x.fr)), .slice ta x.team.length tc] rfl rfl (cell4O _ _ _ _ _ _) (four_oneO _ _ _ _ _ _) (by unfold maxLen; have := HLn.out; omega) (by have := HLn.out; omega) (by simp; omega) ?_; intro v8 w8 ho8 hg8 hnn8 hat8; have HFB8 := hidden (FB.gofar (p := (⟨x.room, (i : Int) * 10000, (i : Int) * 10000 + (x.to - x.fr), x.team⟩, .slice ta x.team.length tc)) HOF.out HTR.out ho8 hg8 hat8); obtain ⟨a8, c8, rfl⟩ := ownO_slice ho8; clear ho8 hg8 hnn8 hat8)
      go_roundw
      case rel => exact ⟨i + 1, F ++ [_], (x, .slice ta x.team.length tc) :: B, rfl, by omega, ⟨by have := HLn.out; simp; omega, by have := HLn.out; simp; omega⟩, HFB8, HBM5⟩
      case measure => simp [intOf]; omega
    · have hlti : ¬ (i : Int) < (l.length : Int) := by omega
      have hil2 : i = l.length := by omega
      have HBR : Hid (B.map Prod.fst = l.reverse) := by have := HBM.out; rw [hil2, List.take_length] at this; exact this
      have HIL := hidden hil2
      clear HBM hil hil2
      obtain ⟨a6, c6, rfl⟩ := HFB.out.form6
      obtain ⟨b7, c7, rfl⟩ := HFB.out.form7
      go_wp2_with fail
      go_loopw [11] (fun iv wx => ∃ j : Nat, iv = .int .i64 j ∧ j ≤ CL.length ∧ Hid (FB w4 wx (.slice a6 F.length c6) (.slice (some ⟨b7, 0, none⟩) B.length c7) F B)) (fun iv _ => CL.length - (intOf iv).toNat)
      case atStart => exact ⟨0, rfl, Nat.zero_le _, HFB⟩
      case round =>
        clear HFB
        obtain ⟨j, rfl, hj, HFB⟩ := hrel
        by_cases hjl : j < CL.length
        · have hji : (j : Int) < (CL.length : Int) := by omega
          obtain ⟨y, hy⟩ := some_of CL j hjl
          have hyb := HCI.out y (List.mem_of_getElem? hy)
          obtain ⟨g, off, rfl, hgl, hcs⟩ := (HRWC.out.below HFB.out.below).at hy
          have c0 : wr.cell? ⟨g, off + j * 3, none⟩ = some (.int .i64 y.a) := hcs 0 (by omega)
          have c1 : wr.cell? ⟨g, off + j * 3 + 1, none⟩ = some (.int .i64 y.b) := hcs 1 (by omega)
          have q1 : decide (y.b ≤ y.a) = false := by simp; omega
          have q2 : decide ((l.length : Int) ≤ y.b) = false := by simp; omega
          clear hcs hy
          go_upto_region 21 with fail
          go_quiet (fail)
          go_wp2_with fail
          go_roundw
          case rel => exact ⟨j + 1, rfl, by omega, by first | exact hidden (HFB.out.drewN _) | exact HFB⟩
          case measure => simp [intOf]; omega
        · have hji : ¬ (j : Int) < (CL.length : Int) := by omega
          have bF := HFB.out.below
          have bW := onto b4 bF
          have HRB := hidden (HFB.out.back.row bF)
          have HRF := hidden (HFB.out.far.row bF)
          have HTB := hidden HFB.out.back.short
          have HTF := hidden HFB.out.far.short
          have HNB : Hid ((clash (B.map Prod.fst) r).length = CL.length) := by rw [HBR.out]; exact HREV.out
          have HKB := hidden (iclash_any (some ⟨b7, 0, none⟩) B.length c7 (B.map Prod.fst) r _ HRB.out (by have := HLn.out; have := HIL.out; simp; omega) HTB.out)
          rw [HNB.out] at HKB
          go_wp2_with fail
          refine HKB.out.mono ?_
          rintro e w6 ⟨ad6, c6', rfl, -, hb6⟩
          have b6 := onto bW hb6
          have HRF6 := hidden (HRF.out.below hb6)
          clear HKB bW hb6 HRF
          by_cases h40 : (40 : Int) < (l.length : Int)
          · go_wp2_with fail
            go_ret
            exact ⟨rfl, b6⟩
          · go_wp2_with fail
            refine (iclash_any a6 F.length c6 (F.map Prod.fst) r _ HRF6.out (by have := HLn.out; have := HIL.out; simp; omega) HTF.out).mono ?_
            rintro e w7 ⟨ad7, c7', rfl, -, hb7⟩
            have b7' := onto b6 hb7
            have HRF7 := hidden (HRF6.out.below hb7)
            clear hb7 b6 HRF6
            go_wp2_with fail
            refine (sclash_any a6 F.length c6 (F.map Prod.fst) r _ HRF7.out (by have := HLn.out; have := HIL.out; simp; omega) HTF.out).mono ?_
            rintro e w8 ⟨ad8, c8', rfl, -, hb8⟩
            have b8 := onto b7' hb8
            clear hb8 b7' HRF7
            go_wp2_with fail
            go_ret
            exact ⟨rfl, b8⟩
end Go.Proofs.Ytcapmobhgffnhaa
