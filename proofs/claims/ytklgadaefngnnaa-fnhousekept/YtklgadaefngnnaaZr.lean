/-
  Whatever a move does to a house, the house stays right: the walk of the law.
-/
import Derived.Test.YtklgadaefngnnaaZq
import Derived.BigQuiet
namespace Go.Proofs.Ytklgadaefngnnaa
open Go.RowKit Hm
set_option linter.all false

set_option maxRecDepth 20000 in
set_option maxHeartbeats 8000000 in
theorem fhk_walk (ao : Option Addr) (cap : Nat) (bs : List Int) (w : World) (hb : Bytes w w.heap.size ao bs) :
    Calls Try.prog 3 #[.slice ao bs.length cap] w fun e w' => e = .returned (.bool true) ∧ Below w.heap.size w w' := by
  have hBg := big_any ao cap bs.length
  have HBY := hidden hb
  clear hb
  by_cases hbig : (4096 : Int) < (bs.length : Int)
  · rw [decide_eq_true hbig] at hBg
    go_enter Try.func3, Try.ntmps3
    go_wp2_with fail
    refine (hBg _).mono ?_
    rintro e w1 ⟨rfl, rfl⟩
    go_wp2_with fail
    go_ret
    exact ⟨rfl, Below.refl _ _⟩
  rw [decide_eq_false hbig] at hBg
  have hl : bs.length ≤ 4096 := by omega
  go_enter Try.func3, Try.ntmps3
  go_wp2_with fail
  refine (hBg w).mono ?_
  rintro e w1 ⟨rfl, hw1⟩
  subst hw1
  clear hBg
  go_wp2_with fail
  refine (dhd_any ao cap bs _ HBY.out (by omega)).mono ?_
  rintro e w2 ⟨vb, vs, B, S, m, rfl, hq2, hB7, hS1, b2⟩
  obtain ⟨a1, c1, rfl⟩ := hq2.1.form
  obtain ⟨a2, c2, rfl⟩ := hq2.2.form
  have HB7 := hidden hB7
  have hBl : B.length ≤ 7 := by omega
  have hS1' : S.length ≤ 1001 := hS1
  clear hB7 hS1 HBY
  have bA : Below w2.heap.size w2 ((w2.alloc (.cells #[.slice a1 B.length c1, .slice a2 S.length c2] 27)).alloc (.cells #[.int .i64 m.kind, .int .i64 m.person, .int .i64 m.sex, .int .i64 m.need, .int .i64 m.bed, .int .i64 m.time] 29)) := ((Below.refl _ w2).alloc (Nat.le_refl _) _).alloc (by simp) _
  have hXA : ((w2.alloc (.cells #[.slice a1 B.length c1, .slice a2 S.length c2] 27)).alloc (.cells #[.int .i64 m.kind, .int .i64 m.person, .int .i64 m.sex, .int .i64 m.need, .int .i64 m.bed, .int .i64 m.time] 29)).heap[w2.heap.size]? = some (.cells #[.slice a1 B.length c1, .slice a2 S.length c2] 27 (0, 0)) := (((Below.refl (w2.heap.size + 1) (w2.alloc (.cells #[.slice a1 B.length c1, .slice a2 S.length c2] 27))).alloc (by simp) _).block w2.heap.size (by omega)).trans (heap_alloc_new _ _)
  have hMA : ((w2.alloc (.cells #[.slice a1 B.length c1, .slice a2 S.length c2] 27)).alloc (.cells #[.int .i64 m.kind, .int .i64 m.person, .int .i64 m.sex, .int .i64 m.need, .int .i64 m.bed, .int .i64 m.time] 29)).heap[w2.heap.size + 1]? = some (.cells #[.int .i64 m.kind, .int .i64 m.person, .int .i64 m.sex, .int .i64 m.need, .int .i64 m.bed, .int .i64 m.time] 29 (0, 0)) := by
    have := heap_alloc_new (w2.alloc (.cells #[.slice a1 B.length c1, .slice a2 S.length c2] 27)) (.cells #[.int .i64 m.kind, .int .i64 m.person, .int .i64 m.sex, .int .i64 m.need, .int .i64 m.bed, .int .i64 m.time] 29)
    simpa using this
  have hq3 := hq2.below bA
  have b3 : Below w1.heap.size w1 _ := onto b2 bA
  unfold aM
  generalize hW3 : (w2.alloc (.cells #[.slice a1 B.length c1, .slice a2 S.length c2] 27)).alloc (.cells #[.int .i64 m.kind, .int .i64 m.person, .int .i64 m.sex, .int .i64 m.need, .int .i64 m.bed, .int .i64 m.time] 29) = w3 at *
  generalize hX : w2.heap.size = X at *
  have HIM := hidden (ido_any a1 a2 B.length c1 S.length c2 B S m w3 hq3)
  have HSP := hidden (fun W hW => sdo_any a1 a2 B.length c1 S.length c2 B S m W hW (fun W2 hW2 => sok_any a1 a2 B.length c1 S.length c2 B S W2 hW2))
  obtain ⟨x0, x1, -, -⟩ := two_ofH hXA
  obtain ⟨⟨m0, m1, m2, m3, m4, m5⟩, -⟩ := six_ofH hMA
  have hlX := (Array.getElem?_eq_some_iff.1 hXA).1
  have hlM := (Array.getElem?_eq_some_iff.1 hMA).1
  have HXA := hidden hXA
  have HMA := hidden hMA
  have HQ3 := hidden hq3
  have B3 := hidden b3
  clear bA hq2 b2 hXA hMA hq3 b3
  unfold aM at HIM HSP
  go_wp2_with fail
  refine HIM.out.mono ?_
  rintro e w4 ⟨b1, b2, b3, s1, s2, s3, rfl, hn4, hb4⟩
  clear hW3 hX x0 x1 m0 m1 m2 m3 m4 m5 HIM
  obtain ⟨p1, p2, p3, p4, hp1, hp2⟩ := hn4.form
  simp only [Value.slice.injEq] at hp1 hp2
  obtain ⟨rfl, rfl, rfl⟩ := hp1
  obtain ⟨rfl, rfl, rfl⟩ := hp2
  have bB : Below w3.heap.size w3 (w4.alloc (.cells #[.slice b1 (doB B S).length b3, .slice s1 (doS B S m).length s3] 27)) := hb4.alloc hb4.size _
  have hYB := heap_alloc_new w4 (.cells #[.slice b1 (doB B S).length b3, .slice s1 (doS B S m).length s3] 27)
  have hnB := hn4.below ((Below.refl _ w4).alloc (Nat.le_refl _) (.cells #[.slice b1 (doB B S).length b3, .slice s1 (doS B S m).length s3] 27))
  generalize hW5 : w4.alloc (.cells #[.slice b1 (doB B S).length b3, .slice s1 (doS B S m).length s3] 27) = w5 at *
  generalize hY : w4.heap.size = Y at *
  obtain ⟨x0, x1, -, -⟩ := two_ofH ((bB.block _ hlX).trans HXA.out)
  obtain ⟨⟨m0, m1, m2, m3, m4, m5⟩, -⟩ := six_ofH ((bB.block _ hlM).trans HMA.out)
  have HSQ := hidden (HSP.out w5 (HQ3.out.below bB))
  have HYB := hidden hYB
  have HNB := hidden hnB
  have BB := hidden bB
  clear hn4 hb4 hYB hnB bB HSP
  go_wp2_with fail
  refine HSQ.out.mono ?_
  rintro e w6 ⟨q1, q2, q3, r1, r2, r3, rfl, hn6, hb6⟩
  clear hW5 hY x0 x1 m0 m1 m2 m3 m4 m5 HSQ hn6
  have bC : Below w5.heap.size w5 (w6.alloc (.cells #[.slice q1 q2 q3, .slice r1 r2 r3] 27)) := hb6.alloc hb6.size _
  generalize hW7 : w6.alloc (.cells #[.slice q1 q2 q3, .slice r1 r2 r3] 27) = w7 at *
  have hYl := (Array.getElem?_eq_some_iff.1 HYB.out).1
  have hY7 := (bC.block _ hYl).trans HYB.out
  have hX7 := (bC.block _ (Nat.lt_of_lt_of_le hlX BB.out.size)).trans ((BB.out.block _ hlX).trans HXA.out)
  have hq7 := (HQ3.out.below BB.out).below bC
  have hg7 := (HNB.out.below bC).own.row
  have b7 : Below w1.heap.size w1 w7 := onto (onto B3.out BB.out) bC
  obtain ⟨y0, y1, -, -⟩ := two_ofH hY7
  obtain ⟨x0, x1, -, -⟩ := two_ofH hX7
  have hlY7 := (Array.getElem?_eq_some_iff.1 hY7).1
  have HY7 := hidden hY7
  have HQ7 := hidden hq7
  have HG7 := hidden hg7
  have B7' := hidden b7
  clear hb6 bC hY7 hX7 hq7 hg7 b7 HYB HNB HXA HMA HQ3 B3 BB
  cases hk : okB B S with
  | false =>
    obtain ⟨e1, e2, e3⟩ := do_no (m := m) hk
    have HE1 : Hid ((doB B S).length = 0) := by rw [Hid, e1]; rfl
    have HE2 : Hid ((doS B S m).length = 0) := by rw [Hid, e2]; rfl
    rw [e3]
    clear e1 e2 e3 hk HQ7 HG7 HY7
    rw [HE1.out] at y0
    rw [HE2.out] at y1
    go_wp2_with fail
    go_ret
    exact ⟨rfl, B7'.out⟩
  | true =>
    obtain ⟨e1, e2, e3⟩ := do_ok (m := m) hk
    have hmc := move_code B S m
    have hmo := move_ok (ok_of hk) m
    rw [e1, e2] at HG7 HY7
    rw [e1] at y0
    rw [e2] at y1
    rw [e3]
    rw [e1, e2]
    generalize hS' : (moveR B S m).1 = S' at *
    generalize hcd : (moveR B S m).2 = code at *
    have HS' := hidden hS'
    clear e1 e2 e3 hcd hS'
    have qc1 : (code == 1) = false := by simpa using hmc.2
    by_cases hc0 : code = 0
    · subst hc0
      have HOK := hidden hmo
      clear hmc hmo qc1 x0 x1 HQ7
      have hok7 := fun W (hW : Below w7.heap.size w7 W) => And.intro (sok_any b1 s1 B.length b3 S'.length s3 B S' W (HG7.out.below hW)) (iok_any b1 s1 B.length b3 S'.length s3 B S' W (HG7.out.below hW))
      rw [okB_true HOK.out] at hok7
      have HOK7 := hidden hok7
      have hSl : S'.length ≤ 1000 := HOK.out.2.1
      clear hok7
      go_wp2_with fail
      go_loopw [9] (fun iv wr => ∃ i : Nat, i ≤ S'.length ∧ iv = .int .i64 i ∧ Below w7.heap.size w7 wr) (fun iv _ => S'.length - (intOf iv).toNat)
      case atStart => exact ⟨0, Nat.zero_le _, rfl, Below.refl _ _⟩
      case round =>
        clear y0 y1
        obtain ⟨i, hi, rfl, br⟩ := hrel
        obtain ⟨y0, y1, -, -⟩ := two_ofH ((br.block _ hlY7).trans HY7.out)
        by_cases hlt : i < S'.length
        · have hlti : (i : Int) < (S'.length : Int) := by omega
          go_wp2_with fail
          go_loopw [10] (fun kv wr => ∃ k : Nat, k ≤ i ∧ kv = .int .i64 k ∧ Below w7.heap.size w7 wr) (fun kv _ => i - (intOf kv).toNat)
          case atStart => exact ⟨0, Nat.zero_le _, rfl, br⟩
          case round =>
            clear y0 y1 br
            obtain ⟨k, hk, rfl, br⟩ := hrel
            obtain ⟨y0, y1, -, -⟩ := two_ofH ((br.block _ hlY7).trans HY7.out)
            have hlYr : Y < wr.heap.size := Nat.lt_of_lt_of_le hlY7 br.size
            by_cases hki : k < i
            · have hkii : (k : Int) < (i : Int) := by omega
              by_cases h100 : (S'.length : Int) < 100
              · obtain ⟨x, hx⟩ := some_at S' i hlt
                obtain ⟨y, hy⟩ := some_at S' k (by omega)
                have hap := ok_apart HOK.out hki hx hy
                obtain ⟨g1, o1, rfl, hg1, c0, -, -, c3, -, c5⟩ := stay_cells (HG7.out.below br).2 hx
                obtain ⟨g2, o2, eg, hg2, d0, -, -, d3, -, d5⟩ := stay_cells (HG7.out.below br).2 hy
                obtain ⟨rfl, rfl⟩ : g1 = g2 ∧ o1 = o2 := by simpa using eg
                have hkl : (k : Int) < (S'.length : Int) := by omega
                obtain ⟨xp, xs, xn, xb, xf, xt⟩ := x
                obtain ⟨yp, ys, yn, yb, yf, yt⟩ := y
                simp only at c0 c3 c5 d0 d3 d5
                simp only [here, decide_eq_true_eq] at hap
                clear hx hy eg HG7 HY7 HOK HOK7 y0
                by_cases t1 : xt = -1
                · subst t1
                  by_cases t2 : yt = -1
                  · subst t2
                    have hbb : (xb == yb) = false := by simpa using (hap rfl rfl).1
                    have hpp : (xp == yp) = false := by simpa using (hap rfl rfl).2
                    clear hap
                    go_wp2_with fail
                    go_quiet (fail)
                    all_goals go_wp2_with fail
                    all_goals go_roundw
                    all_goals first
                      | exact ⟨k + 1, by omega, rfl, by first | exact br | exact st_drew br | exact st_drewN br _⟩
                      | (simp [intOf]; omega)
                  · have ht2 : (yt == -1) = false := by simpa using t2
                    clear hap
                    go_wp2_with fail
                    go_quiet (fail)
                    all_goals go_wp2_with fail
                    all_goals go_roundw
                    all_goals first
                      | exact ⟨k + 1, by omega, rfl, by first | exact br | exact st_drew br | exact st_drewN br _⟩
                      | (simp [intOf]; omega)
                · have ht1 : (xt == -1) = false := by simpa using t1
                  clear hap
                  go_wp2_with fail
                  go_quiet (fail)
                  all_goals go_wp2_with fail
                  all_goals go_roundw
                  all_goals first
                    | exact ⟨k + 1, by omega, rfl, by first | exact br | exact st_drew br | exact st_drewN br _⟩
                    | (simp [intOf]; omega)
              · go_wp2_with fail
                go_roundw
                case rel => exact ⟨i + 1, by omega, rfl, br⟩
                case measure => simp [intOf]; omega
            · have hkii : ¬ (k : Int) < (i : Int) := by omega
              go_wp2_with fail
              go_roundw
              case rel => exact ⟨i + 1, by omega, rfl, br⟩
              case measure => simp [intOf]; omega
        · have hlti : ¬ (i : Int) < (S'.length : Int) := by omega
          go_wp2_with fail
          refine ((HOK7.out wr br).1).mono ?_
          rintro e w8 ⟨rfl, hb8⟩
          have b8 : Below w7.heap.size w7 w8 := onto br hb8
          obtain ⟨z0, z1, -, -⟩ := two_ofH ((b8.block _ hlY7).trans HY7.out)
          clear y0 y1 hb8
          go_wp2_with fail
          refine ((HOK7.out w8 b8).2).mono ?_
          rintro e w9 ⟨rfl, hb9⟩
          go_wp2_with fail
          go_ret
          exact ⟨rfl, onto (onto B7'.out b8) hb9⟩
    · have HE : Hid (S' = S) := hmc.1.resolve_left hc0
      have qc0 : (code == 0) = false := by simpa using hc0
      rw [HE.out] at HG7 y1
      have hsm := fun W (hW : Below w7.heap.size w7 W) => same_house_any b1 s1 a1 a2 B.length S.length B.length S.length b3 s3 c1 c2 B S W (HG7.out.below hW) (HQ7.out.below hW) (by omega) (by omega)
      rw [HE.out]
      clear hmc hmo
      go_wp2_with fail
      refine (hsm w7 (Below.refl _ _)).mono ?_
      rintro e w8 ⟨rfl, hb8⟩
      go_wp2_with fail
      go_ret
      exact ⟨rfl, onto B7'.out hb8⟩
end Go.Proofs.Ytklgadaefngnnaa
