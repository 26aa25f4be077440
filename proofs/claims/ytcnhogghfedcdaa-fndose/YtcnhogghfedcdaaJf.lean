/-
  A drug, a weight and how kidneys work, drawn.
-/
import Derived.Test.YtcnhogghfedcdaaJk
namespace Go.Proofs.Ytcnhogghfedcdaa
open Go.RowKit Va Ga
set_option linter.unusedVariables false

set_option maxRecDepth 20000 in
set_option maxHeartbeats 8000000 in
theorem ddose_any (ao : Option Addr) (cap : Nat) (bs : List Int) (w : World) (hb : Bytes w w.heap.size ao bs) (hl : bs.length ≤ 1048576) :
    Calls Try.prog 10 #[.slice ao bs.length cap] w fun e w' => ∃ (x : Dg) (ad : Option Addr) (c : Nat) (G K : Int), e = .returned (.tuple #[aD x (.slice ad x.cls.length c), .int .i64 G, .int .i64 K]) ∧ x.cls.length ≤ 4 ∧ IRw w' (.slice ad x.cls.length c) x.cls ∧ Below w.heap.size w w' := by
  have hbA : Below w.heap.size w (w.alloc (.cells #[.int .i64 0, .slice none 0 0, .int .i64 0, .int .i64 0, .int .i64 0, .int .i64 0] 26)) := (Below.refl _ _).alloc (Nat.le_refl _) _
  have hby := bytes_upY hb hbA
  have hR := PB.new w #[.int .i64 0, .slice none 0 0, .int .i64 0, .int .i64 0, .int .i64 0, .int .i64 0] 26
  clear hb
  go_enter Try.func10, Try.ntmps10
  go_upto_region 1 with fail
  generalize w.alloc (.cells #[.int .i64 0, .slice none 0 0, .int .i64 0, .int .i64 0, .int .i64 0, .int .i64 0] 26) = wA at *
  go_wp2_with fail
  refine (new_any ao cap bs wA hby hl).mono ?_
  rintro e wN ⟨rfl, hcN, hbN⟩
  have hRg0 : w.heap.size < wA.heap.size := hR.lt
  have hRN := hR.below hbN
  have hbW := onto hbA hbN
  have hwN : w.heap.size < wN.heap.size := hRN.lt
  clear hR hbA hbN hby
  generalize wA.heap.size = g at *
  have hRg : w.heap.size ≠ g := by omega
  have HW := hidden (fun W (hk : Keep g wN W) => hbW.trans (hk.below (by omega) hbW.size))
  clear hbW
  have hDD := ddrug_any g ao cap bs wN hcN
  unfold aD at hDD
  go_wp2_with fail
  refine hDD.mono ?_
  rintro e w1 ⟨x, ad, c, rfl, hlen, hdi⟩
  clear hDD
  go_upto_region 3 with fail
  have PV := PB.new w1 #[.int .i64 x.id, .slice ad x.cls.length c, .int .i64 x.pk, .int .i64 x.most, .int .i64 x.day, .int .i64 x.kid] 26
  have PR := (hRN.keep hdi.keep hRg).alloc (.cells #[.int .i64 x.id, .slice ad x.cls.length c, .int .i64 x.pk, .int .i64 x.most, .int .i64 x.day, .int .i64 x.kid] 26)
  have hi := hdi.alloc (.cells #[.int .i64 x.id, .slice ad x.cls.length c, .int .i64 x.pk, .int .i64 x.most, .int .i64 x.day, .int .i64 x.kid] 26)
  have hVg : w1.heap.size ≠ g := Nat.ne_of_gt hdi.cur.1
  clear hRN hdi hcN
  generalize w1.alloc (.cells #[.int .i64 x.id, .slice ad x.cls.length c, .int .i64 x.pk, .int .i64 x.most, .int .i64 x.day, .int .i64 x.kid] 26) = w2 at *
  generalize w1.heap.size = V at *
  go_wp2_with fail
  refine (below_any g ao cap bs 120000 _ hi.cur (by omega)).mono ?_
  rintro e w3 ⟨b1, rfl, b10, b11, hc3, hk3⟩
  have hi3 := hi.call hc3 hk3
  have PR3 := PR.keep hk3 hRg
  have PV3 := PV.keep hk3 hVg
  clear hi PR PV hc3 hk3
  go_wp2_with fail
  refine (below_any g ao cap bs 101 _ hi3.cur (by omega)).mono ?_
  rintro e w4 ⟨b2, rfl, b20, b21, hc4, hk4⟩
  have hi4 := hi3.call hc4 hk4
  have PR4 := PR3.keep hk4 hRg
  have PV4 := PV3.keep hk4 hVg
  clear hi3 PR3 PV3 hc4 hk4
  go_wp2_with fail
  refine (once_any g ao cap bs 12 _ hi4.cur (by omega)).mono ?_
  rintro e w5 ⟨t5, rfl, hc5, hk5⟩
  have hi := hi4.call hc5 hk5
  have PR := PR4.keep hk5 hRg
  have PV := PV4.keep hk5 hVg
  clear hi4 PR4 PV4 hc5 hk5
  rcases t5 with _ | _
  · obtain ⟨e0, e1, e2, e3, e4, e5⟩ := PV.six
    obtain ⟨z0, z1, z2, z3, z4, z5⟩ := PR.six
    obtain ⟨f0, f1, f2, f3, f4, f5, -⟩ := PR.cold
    have HR := hidden (PR.fill6 (.int .i64 x.id) (.slice ad x.cls.length c) (.int .i64 x.pk) (.int .i64 x.most) (.int .i64 x.day) (.int .i64 x.kid))
    have hb0 := HW.out _ hi.keep
    have HBf := hidden ((((((hb0.setCell (p := ⟨w.heap.size, 0, none⟩) (Nat.le_refl _) (.int .i64 x.id)).setCell (p := ⟨w.heap.size, 1, none⟩) (Nat.le_refl _) (.slice ad x.cls.length c)).setCell (p := ⟨w.heap.size, 2, none⟩) (Nat.le_refl _) (.int .i64 x.pk)).setCell (p := ⟨w.heap.size, 3, none⟩) (Nat.le_refl _) (.int .i64 x.most)).setCell (p := ⟨w.heap.size, 4, none⟩) (Nat.le_refl _) (.int .i64 x.day)).setCell (p := ⟨w.heap.size, 5, none⟩) (Nat.le_refl _) (.int .i64 x.kid))
    have HRow := hidden (fun (W' : World) (hs : W'.heap.size = _) (hh : ∀ b, wN.heap.size ≤ b → W'.heap[b]? = _) => hi.row_of (W' := W') hs hh)
    clear hi PR PV hb0
    go_wp2_with fail
    try simp only [Exit.inBlock, Exit.then]
    refine bodyPost_ret (results_ctt Try.results10 _ _ w.heap.size 26 _ _ rfl HR.out Try.underlying26 rfl (by kernel_rfl)) rfl ⟨x, ad, c, _, _, rfl, hlen, HRow.out _ (by simp [World.setCell]) (fun b hb => ?_), HBf.out⟩
    have hbw : b ≠ w.heap.size := by omega
    repeat rw [heap_setCell_other _ _ b _ (show b ≠ w.heap.size from hbw)]
  · have hT := Tb.new (g := g) (w := w5) [0, 1, 500000, 500001] hi.cur.1
    have HT := hidden hT
    have hiT := hi.alloc (.cells #[.int .i64 0, .int .i64 1, .int .i64 500000, .int .i64 500001] 2)
    have PRT := PR.alloc (.cells #[.int .i64 0, .int .i64 1, .int .i64 500000, .int .i64 500001] 2)
    have PVT := PV.alloc (.cells #[.int .i64 0, .int .i64 1, .int .i64 500000, .int .i64 500001] 2)
    clear hT hi PR PV
    go_wp2_with fail
    refine (below_any g ao cap bs 4 _ hiT.cur (by omega)).mono ?_
    rintro e w6 ⟨a6, rfl, a60, a61, hc6, hk6⟩
    obtain ⟨k6, rfl⟩ := Int.eq_ofNat_of_zero_le a60
    have hkl6 : k6 < 4 := by omega
    have hcell6 := (HT.out.keep hk6).at (k := k6) hkl6
    generalize hz6 : ([0, 1, 500000, 500001] : List Int)[k6] = z6 at hcell6
    have hi := hiT.call hc6 hk6
    have PR := PRT.keep hk6 hRg
    have PV := PVT.keep hk6 hVg
    clear hz6 HT hiT PRT PVT hc6 hk6
    have hT := Tb.new (g := g) (w := w6) [(-1), 0, 100, 101] hi.cur.1
    have HT := hidden hT
    have hiT := hi.alloc (.cells #[.int .i64 (-1), .int .i64 0, .int .i64 100, .int .i64 101] 2)
    have PRT := PR.alloc (.cells #[.int .i64 (-1), .int .i64 0, .int .i64 100, .int .i64 101] 2)
    have PVT := PV.alloc (.cells #[.int .i64 (-1), .int .i64 0, .int .i64 100, .int .i64 101] 2)
    clear hT hi PR PV
    go_wp2_with fail
    refine (below_any g ao cap bs 4 _ hiT.cur (by omega)).mono ?_
    rintro e w7 ⟨a7, rfl, a70, a71, hc7, hk7⟩
    obtain ⟨k7, rfl⟩ := Int.eq_ofNat_of_zero_le a70
    have hkl7 : k7 < 4 := by omega
    have hcell7 := (HT.out.keep hk7).at (k := k7) hkl7
    generalize hz7 : ([(-1), 0, 100, 101] : List Int)[k7] = z7 at hcell7
    have hi := hiT.call hc7 hk7
    have PR := PRT.keep hk7 hRg
    have PV := PVT.keep hk7 hVg
    clear hz7 HT hiT PRT PVT hc7 hk7
    obtain ⟨e0, e1, e2, e3, e4, e5⟩ := PV.six
    obtain ⟨z0, z1, z2, z3, z4, z5⟩ := PR.six
    obtain ⟨f0, f1, f2, f3, f4, f5, -⟩ := PR.cold
    have HR := hidden (PR.fill6 (.int .i64 x.id) (.slice ad x.cls.length c) (.int .i64 x.pk) (.int .i64 x.most) (.int .i64 x.day) (.int .i64 x.kid))
    have hb0 := HW.out _ hi.keep
    have HBf := hidden ((((((hb0.setCell (p := ⟨w.heap.size, 0, none⟩) (Nat.le_refl _) (.int .i64 x.id)).setCell (p := ⟨w.heap.size, 1, none⟩) (Nat.le_refl _) (.slice ad x.cls.length c)).setCell (p := ⟨w.heap.size, 2, none⟩) (Nat.le_refl _) (.int .i64 x.pk)).setCell (p := ⟨w.heap.size, 3, none⟩) (Nat.le_refl _) (.int .i64 x.most)).setCell (p := ⟨w.heap.size, 4, none⟩) (Nat.le_refl _) (.int .i64 x.day)).setCell (p := ⟨w.heap.size, 5, none⟩) (Nat.le_refl _) (.int .i64 x.kid))
    have HRow := hidden (fun (W' : World) (hs : W'.heap.size = _) (hh : ∀ b, wN.heap.size ≤ b → W'.heap[b]? = _) => hi.row_of (W' := W') hs hh)
    clear hi PR PV hb0
    go_wp2_with fail
    try simp only [Exit.inBlock, Exit.then]
    refine bodyPost_ret (results_ctt Try.results10 _ _ w.heap.size 26 _ _ rfl HR.out Try.underlying26 rfl (by kernel_rfl)) rfl ⟨x, ad, c, _, _, rfl, hlen, HRow.out _ (by simp [World.setCell]) (fun b hb => ?_), HBf.out⟩
    have hbw : b ≠ w.heap.size := by omega
    repeat rw [heap_setCell_other _ _ b _ (show b ≠ w.heap.size from hbw)]
end Go.Proofs.Ytcnhogghfedcdaa
