/-
  Values, knowns and criteria, drawn of bytes.
-/
import Derived.Test.YthenphbmkmagaaaTr33
import Derived.Laws.AppendOwn
namespace Go.Proofs.Ythenphbmkmagaaa
open Go.RowKit Go.WideShapes Va Lb El Go.Maps
set_option linter.all false

theorem D3.drew {w0 W : World} {g cap : Nat} {ao : Option Addr} {bs : List Int} {v1 v2 v3 : Value} {l1 : List Int} {l2 : List Bool} {l3 : List Cr} (h : D3 w0 W g ao cap bs v1 l1 v2 l2 v3 l3) : D3 w0 W.drew g ao cap bs v1 l1 v2 l2 v3 l3 := ⟨h.cur, h.keep.drewN 1, h.o1, h.o2, h.o3, h.gg⟩
def slE (v : Value) : Nat := match v with | .slice _ n _ => n | _ => 0
theorem infoCrE : (Try.prog.info? 31).map (fun i => (i.zero, i.size, i.bytes)) = some (some (.agg #[.int .i64 0, .int .i64 0, .int .i64 0, .bool false]), 4, 32) := by kernel_rfl
theorem cell_fourD (w : World) (a b c d : Value) (t : TypeId) : ∀ (j : Nat) (u : Value), [a, b, c, d][j]? = some u → (w.alloc (.cells #[a, b, c, d] t)).cell? ((⟨w.heap.size, 0, none⟩ : Addr).add j) = some u := fun j u hu => by
  have e0 := heap_alloc_new w (Obj.cells #[a, b, c, d] t)
  rw [Addr.add_lit, Nat.zero_add]
  simp only [World.cell?, e0]
  simpa using hu
theorem bytes_upE {w W : World} {ao : Option Addr} {bs : List Int} (h : Bytes w w.heap.size ao bs) (hb : Below w.heap.size w W) : Bytes W W.heap.size ao bs := by
  have k := h.below hb
  refine ⟨k.1, ?_⟩
  rcases k.2 with h2 | ⟨b, off, h1, h2, h4⟩
  · exact Or.inl h2
  · exact Or.inr ⟨b, off, h1, Nat.lt_of_lt_of_le h2 hb.size, h4⟩

set_option maxRecDepth 20000 in
set_option maxHeartbeats 16000000 in
theorem delig_any (ao : Option Addr) (cap : Nat) (bs : List Int) (w : World) (hb : Bytes w w.heap.size ao bs) (hl : bs.length ≤ 1048576) :
    Calls Try.prog 8 #[.slice ao bs.length cap] w fun e w' => ∃ (v1 v2 v3 : Value) (l1 : List Int) (l2 : List Bool) (l3 : List Cr), e = .returned (.tuple #[v1, v2, v3]) ∧ VRw 1 cvI w' v1 l1 ∧ VRw 1 cvB w' v2 l2 ∧ VRw 4 cvCr w' v3 l3 ∧ 1 ≤ l1.length ∧ l1.length ≤ 30 ∧ l2.length ≤ 30 ∧ l3.length ≤ 10 ∧ Below w.heap.size w w' := by
  obtain ⟨i1, hi1, hy1, hz1, hw1⟩ := info_partsW infoW64
  obtain ⟨i2, hi2, hy2, hz2, hw2⟩ := info_partsW infoWB
  obtain ⟨i3, hi3, hy3, hz3, hw3⟩ := info_partsW infoCrE
  go_enter Try.func8, Try.ntmps8
  go_wp2_with fail
  refine (new_any ao cap bs w hb hl).mono ?_
  rintro e wN ⟨rfl, hcN, hbN⟩
  have HBN := hidden hbN
  have hgN : w.heap.size < wN.heap.size := hcN.1
  have h0 : D3 wN ((wN.alloc (.cells #[] 2)).alloc (.cells #[] 4)) w.heap.size ao cap bs (.slice (some ⟨wN.heap.size, 0, none⟩) 0 0) [] (.slice (some ⟨wN.heap.size + 1, 0, none⟩) 0 0) [] (.slice none 0 0) [] := by
    have hA := (Keep.refl w.heap.size wN).alloc (.cells #[] 2)
    have hB := hA.alloc (.cells #[] 4)
    refine ⟨hcN.below (((Below.refl _ _).alloc hgN _).alloc (by simp; omega) _), hB, (ownW_new wN 2 1).alloc _, ?_, ⟨rfl, .inl ⟨rfl, rfl⟩⟩, hgN⟩
    have hn := ownW_new (wN.alloc (.cells #[] 2)) 4 1
    simp only [World.size_alloc] at hn
    exact ownW_base hn (by omega)
  clear hbN hb
  generalize hG : w.heap.size = g at *
  generalize hwA : (wN.alloc (.cells #[] 2)).alloc (.cells #[] 4) = wA at *
  go_wp2_with fail
  refine (below_any g ao cap bs 5 _ h0.cur (by omega)).mono ?_
  rintro e w1 ⟨y1, rfl, p1, q1, hc1, hk1⟩
  have h1 := h0.call hc1 hk1
  clear hwA h0 hc1 hk1
  obtain ⟨n1, rfl⟩ := Int.eq_ofNat_of_zero_le p1
  generalize hv1 : Value.slice (some ⟨wN.heap.size, 0, none⟩) 0 0 = va at *
  generalize hv2 : Value.slice (some ⟨wN.heap.size + 1, 0, none⟩) 0 0 = vb at *
  have HH1 := hidden h1
  clear h1 hv1 hv2
  go_wp2_with fail
  go_loopw [6, 7, 8] (fun v1 v2 nv wr => ∃ k : Nat, nv = .int .i64 k ∧ ∃ (l1 : List Int) (l2 : List Bool), l1.length + k ≤ 5 ∧ 1 ≤ l1.length + k ∧ l2.length = l1.length ∧ D3 wN wr g ao cap bs v1 l1 v2 l2 (.slice none 0 0) []) (fun _ _ nv _ => (intOf nv).toNat)
  case atStart => exact ⟨n1 + 1, by simp; omega, [], [], by simp; omega, by simp, rfl, HH1.out⟩
  case round =>
    clear HH1 p1 q1
    obtain ⟨k, rfl, l1, l2, hlk, hl1, hll, hD⟩ := hrel
    have hl25 : l2.length ≤ 5 := by omega
    have HLL := hidden hll
    clear hll
    obtain ⟨ad1, c1, rfl⟩ := ownW_slice hD.o1
    obtain ⟨ad2, c2, rfl⟩ := ownW_slice hD.o2
    by_cases hk0 : 0 < k
    · have hk1 : (0 : Int) < (k : Int) := by omega
      go_wp2_with fail
      refine (below_any g ao cap bs 20 _ hD.cur (by omega)).mono ?_
      rintro e w2 ⟨z2, rfl, p2, q2, hc2, hk2⟩
      have hD2 := hD.call hc2 hk2
      clear hc2 hk2 hD
      go_upto_region 8 with (at_builtin; refine wpList_append_own _ rfl (.tmp 23) (.tmp 26) 24 rfl wN.heap.size 2 i1 (.int .i64 0) 1 8 Try.underlying24 hi1 hy1 hz1 hw1 rfl (by decide) _ l1.length (l1.map fun z => Value.int .i64 z) rfl (hD2.alloc _).o1 ⟨w2.heap.size, 0, none⟩ 1 1 [.int .i64 z2] rfl rfl (cell_oneD _ _ _) (by simp [Value.oneCell']) (by unfold maxLen; omega) (by omega) (by have := hD2.keep.size; simp; omega) ?_; intro v5 w5 ho5 hg5 hn5; have hD5 := (hD2.alloc _).app1 ho5 hg5)
      clear hD2
      obtain ⟨ad5, c5, rfl⟩ := ownW_slice hD5.o1
      have HD5 := hidden hD5
      clear hD5 ho5 hg5 hn5
      go_wp2_with fail
      refine (once_any g ao cap bs 5 _ HD5.out.cur (by omega)).mono ?_
      rintro e w3 ⟨t3, rfl, hc3, hk3⟩
      have hD3 := HD5.out.call hc3 hk3
      clear hc3 hk3 HD5
      go_wp2_with (at_builtin; refine wpList_append_own _ rfl (.tmp 28) (.tmp 32) 25 rfl wN.heap.size 4 i2 (.bool false) 1 1 Try.underlying25 hi2 hy2 hz2 hw2 rfl (by decide) _ l2.length (vcellsL 1 cvB l2) rfl (hD3.alloc _).o2 ⟨w3.heap.size, 0, none⟩ 1 1 [.bool (!t3)] rfl rfl (cell_oneD _ _ _) (by simp [Value.oneCell']) (by unfold maxLen; omega) (by omega) (by have := hD3.keep.size; simp; omega) ?_; intro v6 w6 ho6 hg6 hn6; have hD6 := (hD3.alloc _).app2 ho6 hg6)
      have HD6 := hidden hD6
      clear hD3 hD6 ho6 hg6 hn6
      go_roundw
      case rel => exact ⟨k - 1, by rw [show ((k - 1 : Nat) : Int) = (k : Int) - 1 by omega], l1 ++ [z2], l2 ++ [!t3], by simp; omega, by simp; omega, by have := HLL.out; simp; omega, (by have h9 := HD6.out; rw [show (l1 ++ [z2]).length = l1.length + 1 by simp] at h9; exact h9)⟩
      case measure => simp [intOf]; omega
    · have hk1 : ¬ (0 : Int) < (k : Int) := by omega
      have hl15 : l1.length ≤ 5 := by omega
      have hl11 : 1 ≤ l1.length := by omega
      have h3 : D3 wN (wr.alloc (.cells #[] 31)) g ao cap bs (.slice ad1 l1.length c1) l1 (.slice ad2 l2.length c2) l2 (.slice (some ⟨wr.heap.size, 0, none⟩) 0 0) [] := by
        have hA := hD.alloc (.cells #[] 31)
        exact ⟨hA.cur, hA.keep, hA.o1, hA.o2, ownW_base (ownW_new wr 31 4) hD.keep.size, hD.gg⟩
      clear hD hlk hl1 hk0
      generalize hwC : wr.alloc (.cells #[] 31) = wC at *
      go_wp2_with fail
      refine (below_any g ao cap bs 5 _ h3.cur (by omega)).mono ?_
      rintro e w2 ⟨y2, rfl, p2, q2, hc2, hk2⟩
      have h4 := h3.call hc2 hk2
      clear hwC h3 hc2 hk2
      obtain ⟨n2, rfl⟩ := Int.eq_ofNat_of_zero_le p2
      generalize hv3 : Value.slice (some ⟨wr.heap.size, 0, none⟩) 0 0 = vc at *
      have HH2 := hidden h4
      clear h4 hv3
      go_wp2_with fail
      go_loopw [9, 10, 11] (fun v3 nv bv wt => ∃ k : Nat, nv = .int .i64 k ∧ ∃ l3 : List Cr, l3.length + k ≤ 5 ∧ D3 wN wt g ao cap bs (.slice ad1 l1.length c1) l1 (.slice ad2 l2.length c2) l2 v3 l3) (fun _ nv _ _ => (intOf nv).toNat)
      case atStart => exact ⟨n2, rfl, [], by simp; omega, HH2.out⟩
      case round =>
        clear HH2 p2 q2
        obtain ⟨k, rfl, l3, hlk, hD⟩ := hrel
        obtain ⟨ad3, c3, rfl⟩ := ownW_slice hD.o3
        by_cases hk0 : 0 < k
        · have hk1 : (0 : Int) < (k : Int) := by omega
          have hlp : (0 : Int) < (l1.length : Int) := by omega
          go_wp2_with fail
          refine (below_any g ao cap bs (l1.length : Int) _ hD.cur hlp).mono ?_
          rintro e w3 ⟨fv, rfl, p3, q3, hc3, hk3⟩
          have hD3 := hD.call hc3 hk3
          clear hc3 hk3 hD
          go_wp2_with fail
          refine (from_any g ao cap bs (-3) 10 _ hD3.cur (by omega) (by omega) (by omega)).mono ?_
          rintro e w4 ⟨lo, rfl, p4, q4, hc4, hk4⟩
          have hD4 := hD3.call hc4 hk4
          clear hc4 hk4 hD3
          go_wp2_with fail
          refine (once_any g ao cap bs 4 _ hD4.cur (by omega)).mono ?_
          rintro e w5 ⟨t5, rfl, hc5, hk5⟩
          have hD5 := hD4.call hc5 hk5
          clear hc5 hk5 hD4
          obtain ⟨b1, b2, b3⟩ := hD5.lo
          have hB0 : wN.heap.size ≤ w5.heap.size := hD5.keep.size
          have h0I : D3 wN (w5.alloc (.cells #[.int .i64 fv, .int .i64 lo, .int .i64 0, .bool (!t5)] 31)) g ao cap bs (.slice ad1 l1.length c1) l1 (.slice ad2 l2.length c2) l2 (.slice ad3 l3.length c3) l3 ∧ (∃ hi, PB (w5.alloc (.cells #[.int .i64 fv, .int .i64 lo, .int .i64 0, .bool (!t5)] 31)) w5.heap.size #[.int .i64 fv, .int .i64 lo, .int .i64 hi, .bool (!t5)] 31) := ⟨hD5.alloc _, 0, PB.new w5 _ _⟩
          have HI := hidden h0I
          clear h0I hD5
          go_upto_region 14 with fail
          generalize w5.alloc (.cells #[.int .i64 fv, .int .i64 lo, .int .i64 0, .bool (!t5)] 31) = wB at *
          have hB1 : ∀ j, (Value.slice ad1 l1.length c1).ownBlock = some j → j ≠ w5.heap.size := fun j hj => by have := (b1 j hj).2; omega
          have hB2 : ∀ j, (Value.slice ad2 l2.length c2).ownBlock = some j → j ≠ w5.heap.size := fun j hj => by have := (b2 j hj).2; omega
          have hB3 : ∀ j, (Value.slice ad3 l3.length c3).ownBlock = some j → j ≠ w5.heap.size := fun j hj => by have := (b3 j hj).2; omega
          have HB1 := hidden hB1
          have HB2 := hidden hB2
          have HB3 := hidden hB3
          clear hB1 hB2 hB3 b1 b2 b3
          generalize w5.heap.size = B at *
          refine regDe14 (lo := lo) (f := fv) (mu := !t5) rfl rfl rfl ⟨HI.out.1.drew, HI.out.2⟩ hB0 HB1.out HB2.out HB3.out ?_
          rintro b' w6 hf ⟨hD6, hi, hp6⟩
          rw [layDe14 hf]
          clear hf HI
          generalize Rg.out (Rg.opsOf Try.f8 14) b' 0 = yy0
          generalize Rg.out (Rg.opsOf Try.f8 14) b' 1 = yy1
          generalize Rg.out (Rg.opsOf Try.f8 14) b' 2 = yy2
          generalize Rg.out (Rg.opsOf Try.f8 14) b' 3 = yy3
          generalize Rg.out (Rg.opsOf Try.f8 14) b' 4 = yy4
          generalize Rg.out (Rg.opsOf Try.f8 14) b' 5 = yy5
          generalize Rg.out (Rg.opsOf Try.f8 14) b' 6 = yy6
          go_frame
          generalize hmu : (!t5) = mu at *
          clear hmu
          obtain ⟨r0, r1, r2, r3⟩ := hp6.four
          have HD6 := hidden hD6
          have HP6 := hidden hp6
          clear hD6 hp6
          have hBg : B ≠ g := by have := HD6.out.gg; omega
          clear p3 q3 p4 q4
          go_upto_region 15 with fail
          go_cut [63] from 37 to 69 (fun sv wc => ∃ tb : Bool, sv = .bool tb ∧ D3 wN wc g ao cap bs (.slice ad1 l1.length c1) l1 (.slice ad2 l2.length c2) l2 (.slice ad3 l3.length c3) l3 ∧ PB wc B #[.int .i64 fv, .int .i64 lo, .int .i64 hi, .bool mu] 31)
          case first =>
            rcases mu with _ | _
            · go_wp2_with fail
              go_meet
              case rel => exact ⟨_, rfl, HD6.out, HP6.out⟩
            · go_wp2_with (go_at_call 26; refine (once_any g ao cap bs 4 _ HD6.out.cur (by omega)).mono ?_; rintro e w7 ⟨t7, rfl, hc7, hk7⟩; have hD7 := hidden (HD6.out.call hc7 hk7); have hP7 := hidden ((hk7.block B HP6.out.lt hBg).trans HP6.out); clear hc7 hk7)
              go_meet
              case rel => exact ⟨_, rfl, hD7.out, hP7.out⟩
          case rest =>
            clear HD6 HP6 r0 r1 r2 r3
            obtain ⟨tb, rfl, hD7, hp7⟩ := hcut
            have HD7 := hidden hD7
            have HP7 := hidden hp7
            clear hD7 hp7
            go_upto_if 63 with fail
            go_cut [] from 37 to 69 (fun wd => ∃ lo2 hi2 : Int, D3 wN wd g ao cap bs (.slice ad1 l1.length c1) l1 (.slice ad2 l2.length c2) l2 (.slice ad3 l3.length c3) l3 ∧ PB wd B #[.int .i64 fv, .int .i64 lo2, .int .i64 hi2, .bool mu] 31)
            case first =>
              rcases tb with _ | _
              · go_wp2_with fail
                go_meet
                case rel => exact ⟨lo, hi, HD7.out, HP7.out⟩
              · obtain ⟨r0, r1, r2, r3⟩ := HP7.out.four
                obtain ⟨f0, f1, f2, f3, -⟩ := HP7.out.cold
                have hD8 := hidden ((HD7.out.put hB0 HB1.out HB2.out HB3.out 1 (.int .i64 0)).put hB0 HB1.out HB2.out HB3.out 2 (.int .i64 20))
                have hP8 := hidden ((HP7.out.put 1 (.int .i64 0) (vs' := #[.int .i64 fv, .int .i64 0, .int .i64 hi, .bool mu]) (by simp)).put 2 (.int .i64 20) (vs' := #[.int .i64 fv, .int .i64 0, .int .i64 20, .bool mu]) (by simp))
                go_wp2_with fail
                go_meet
                case rel => exact ⟨0, 20, hD8.out, hP8.out⟩
            case rest =>
              clear HD7 HP7
              obtain ⟨lo2, hi2, hD8, hp8⟩ := hcut
              obtain ⟨r0, r1, r2, r3⟩ := hp8.four
              go_wp2_with (at_builtin; refine wpList_append_own _ rfl (.tmp 66) (.tmp 68) 26 rfl wN.heap.size 31 i3 (.agg #[.int .i64 0, .int .i64 0, .int .i64 0, .bool false]) 4 32 Try.underlying26 hi3 hy3 hz3 hw3 rfl (by decide) _ l3.length (vcellsL 4 cvCr l3) rfl (hD8.alloc _).o3 ⟨wc.heap.size, 0, none⟩ 1 1 [.int .i64 fv, .int .i64 lo2, .int .i64 hi2, .bool mu] rfl rfl (cell_fourD _ _ _ _ _ _) (by simp [Value.oneCell']) (by unfold maxLen; omega) (by omega) (by have := hD8.keep.size; simp; omega) ?_; intro v7 w7 ho7 hg7 hn7; have hD9 := (hD8.alloc _).app3 (x := ⟨fv, lo2, hi2, mu⟩) ho7 hg7)
              have HD9 := hidden hD9
              clear hD9 hD8 hp8 ho7 hg7 hn7
              go_roundw
              case rel => exact ⟨k - 1, by rw [show ((k - 1 : Nat) : Int) = (k : Int) - 1 by omega], l3 ++ [⟨fv, lo2, hi2, mu⟩], by simp; omega, HD9.out⟩
              case measure => simp [intOf]; omega
        · have hk1 : ¬ (0 : Int) < (k : Int) := by omega
          have hl35 : l3.length ≤ 5 := by omega
          clear hlk hk0
          go_upto_if 71 with (go_at_call 26; refine (once_any g ao cap bs 20 _ hD.cur (by omega)).mono ?_; rintro e w7 ⟨t7, rfl, hc7, hk7⟩)
          have hD7 := hD.call hc7 hk7
          clear hc7 hk7 hD
          go_cut [6, 7, 9] (fun v1 v2 v3 wx => ∃ (m1 : List Int) (m2 : List Bool) (m3 : List Cr), 1 ≤ m1.length ∧ m1.length ≤ 30 ∧ m2.length ≤ 30 ∧ m3.length ≤ 10 ∧ D3 wN wx g ao cap bs v1 m1 v2 m2 v3 m3)
          case first =>
            rcases t7 with _ | _
            · go_wp2_with fail
              go_meet
              case rel => exact ⟨l1, l2, l3, hl11, by omega, by omega, by omega, hD7⟩
            · go_wp2_with fail
              refine (below_any g ao cap bs 3 _ hD7.cur (by omega)).mono ?_
              rintro e w8 ⟨y8, rfl, p8, q8, hc8, hk8⟩
              have hD8 := hD7.call hc8 hk8
              clear hc8 hk8 hD7
              rcases (show y8 = 0 ∨ y8 = 1 ∨ y8 = 2 by omega) with rfl | rfl | rfl
              · clear p8 q8
                go_wp2_with (at_builtin; refine wpList_append_own _ rfl (.tmp 76) (.tmp 77) 25 rfl wN.heap.size 4 i2 (.bool false) 1 1 Try.underlying25 hi2 hy2 hz2 hw2 rfl (by decide) _ l2.length (vcellsL 1 cvB l2) rfl (hD8.alloc _).o2 ⟨w8.heap.size, 0, none⟩ 1 1 [.bool true] rfl rfl (cell_oneD _ _ _) (by simp [Value.oneCell']) (by unfold maxLen; omega) (by omega) (by have := hD8.keep.size; simp; omega) ?_; intro v6 w6 ho6 hg6 hn6; have hD6 := (hD8.alloc _).app2 ho6 hg6)
                have HD6 := hidden hD6
                clear hD6 ho6 hg6 hn6 hD8
                go_meet
                case rel => exact ⟨l1, l2 ++ [true], l3, hl11, by omega, by simp; omega, by omega, HD6.out⟩
              · clear p8 q8
                have hgr := hD8.cur.1
                have hDT := hD8.alloc (.cells #[.int .i64 (-1), .int .i64 (l1.length : Int), .int .i64 4611686018427387904] 2)
                go_wp2_with fail
                refine (below_any g ao cap bs 3 _ hDT.cur (by omega)).mono ?_
                rintro e w9 ⟨y9, rfl, p9, q9, hc9, hk9⟩
                obtain ⟨k9, rfl⟩ := Int.eq_ofNat_of_zero_le p9
                obtain ⟨z9, hz9⟩ := tab_at [-1, (l1.length : Int), 4611686018427387904] w8 w9 g 2 hk9 hgr k9 (by simp; omega)
                have hD9 := hDT.call hc9 hk9
                clear hc9 hk9 hDT hD8
                go_wp2_with (at_builtin; refine wpList_append_own _ rfl (.tmp 81) (.tmp 90) 26 rfl wN.heap.size 31 i3 (.agg #[.int .i64 0, .int .i64 0, .int .i64 0, .bool false]) 4 32 Try.underlying26 hi3 hy3 hz3 hw3 rfl (by decide) _ l3.length (vcellsL 4 cvCr l3) rfl (hD9.alloc _).o3 ⟨w9.heap.size, 0, none⟩ 1 1 [.int .i64 z9, .int .i64 0, .int .i64 0, .bool false] rfl rfl (cell_fourD _ _ _ _ _ _) (by simp [Value.oneCell']) (by unfold maxLen; omega) (by omega) (by have := hD9.keep.size; simp; omega) ?_; intro v7 w7 ho7 hg7 hn7; have hD10 := (hD9.alloc _).app3 (x := ⟨z9, 0, 0, false⟩) ho7 hg7)
                have HD10 := hidden hD10
                clear hD10 ho7 hg7 hn7 hD9
                go_meet
                case rel => exact ⟨l1, l2, l3 ++ [⟨z9, 0, 0, false⟩], hl11, by omega, by omega, by simp; omega, HD10.out⟩
              · clear p8 q8
                have hD3' := hidden hD8
                clear hD8
                go_wp2_with fail
                go_loopw [6, 7] (fun v1 v2 wt => ∃ m1 : List Int, 1 ≤ m1.length ∧ m1.length ≤ 21 ∧ slE v1 = m1.length ∧ ∃ m2 : List Bool, m2.length ≤ 5 + m1.length ∧ D3 wN wt g ao cap bs v1 m1 v2 m2 (.slice ad3 l3.length c3) l3) (fun v1 _ _ => 22 - slE v1)
                case atStart => exact ⟨l1, hl11, by omega, rfl, l2, by omega, hD3'.out⟩
                case round =>
                  clear hD3'
                  obtain ⟨m1, j1, j2, j3, m2, j4, hD⟩ := hrel
                  obtain ⟨ad1', c1', rfl⟩ := ownW_slice hD.o1
                  obtain ⟨ad2', c2', rfl⟩ := ownW_slice hD.o2
                  clear j3
                  go_wp2_with fail
                  refine (below_any g ao cap bs 2 _ hD.cur (by omega)).mono ?_
                  rintro e w9 ⟨y9, rfl, p9, q9, hc9, hk9⟩
                  have hD9 := hD.call hc9 hk9
                  clear hc9 hk9 hD
                  by_cases hlt : (m1.length : Int) < 20 + y9
                  · have hm20 : m1.length ≤ 20 := by omega
                    go_upto_region 28 with (at_builtin; refine wpList_append_own _ rfl (.tmp 100) (.tmp 101) 24 rfl wN.heap.size 2 i1 (.int .i64 0) 1 8 Try.underlying24 hi1 hy1 hz1 hw1 rfl (by decide) _ m1.length (m1.map fun z => Value.int .i64 z) rfl (hD9.alloc _).o1 ⟨w9.heap.size, 0, none⟩ 1 1 [.int .i64 1] rfl rfl (cell_oneD _ _ _) (by simp [Value.oneCell']) (by unfold maxLen; omega) (by omega) (by have := hD9.keep.size; simp; omega) ?_; intro v5 w5 ho5 hg5 hn5; have hD5 := (hD9.alloc _).app1 ho5 hg5)
                    obtain ⟨ad5, c5, rfl⟩ := ownW_slice hD5.o1
                    have HD5 := hidden hD5
                    clear hD5 ho5 hg5 hn5 hD9
                    go_wp2_with (at_builtin; refine wpList_append_own _ rfl (.tmp 103) (.tmp 104) 25 rfl wN.heap.size 4 i2 (.bool false) 1 1 Try.underlying25 hi2 hy2 hz2 hw2 rfl (by decide) _ m2.length (vcellsL 1 cvB m2) rfl (HD5.out.alloc _).o2 ⟨w5.heap.size, 0, none⟩ 1 1 [.bool true] rfl rfl (cell_oneD _ _ _) (by simp [Value.oneCell']) (by unfold maxLen; omega) (by omega) (by have := HD5.out.keep.size; simp; omega) ?_; intro v6 w6 ho6 hg6 hn6; have hD6 := (HD5.out.alloc _).app2 ho6 hg6)
                    have HD6 := hidden hD6
                    clear hD6 ho6 hg6 hn6 HD5
                    go_roundw
                    case rel => exact ⟨m1 ++ [1], by simp, by simp; omega, by simp [slE], m2 ++ [true], by simp; omega, (by have h9 := HD6.out; rw [show (m1 ++ [(1 : Int)]).length = m1.length + 1 by simp] at h9; exact h9)⟩
                    case measure => simp [slE]; omega
                  · have HD9 := hidden hD9
                    clear hD9
                    go_wp2_with fail
                    go_meet
                    case rel => exact ⟨m1, m2, l3, j1, by omega, by omega, by omega, HD9.out⟩
          case rest =>
            clear hD7
            obtain ⟨m1, m2, m3, n1, n2, n3, n4, hD8⟩ := hcut
            have R1 := hidden (vownI (base := wN.heap.size) hD8.o1).row
            have R2 := hidden (vown_of rfl hD8.o2).row
            have R3 := hidden (vown_of rfl hD8.o3).row
            have HF := hidden (HBN.out.trans (hD8.keep.below (by omega) (by omega)))
            clear hD8
            go_wp2_with fail
            exact bodyPost_ret (v := .tuple #[_, _, _]) (by simp [results, Try.results8, go_sem]) rfl ⟨_, _, _, m1, m2, m3, rfl, R1.out, R2.out, R3.out, n1, n2, n3, n4, (by rw [hG]; exact HF.out)⟩
end Go.Proofs.Ythenphbmkmagaaa
