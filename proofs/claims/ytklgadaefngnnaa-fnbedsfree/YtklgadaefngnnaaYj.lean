/-
  A move drawn of a cursor.
-/
import Derived.Test.YtklgadaefngnnaaYh
import Derived.Deep.CutBlock
namespace Go.Proofs.Ytklgadaefngnnaa
open Go.RowKit Hm
set_option linter.all false

theorem tab_inM (zs : List Int) (W W' : World) (g : Nat) (t : TypeId) (hk : Keep g (W.alloc (.cells (zs.map (fun z => Value.int .i64 z)).toArray t)) W') (hg : g < W.heap.size) (k : Nat) (hz : k < zs.length) : ∃ z : Int, z ∈ zs ∧ W'.cell? ⟨W.heap.size, k, none⟩ = some (.int .i64 z) := by
  refine ⟨zs[k], List.getElem_mem _, ?_⟩
  rw [hk.cell (by simp) (by omega)]
  have e := heap_alloc_new W (.cells (zs.map (fun z => Value.int .i64 z)).toArray t)
  simp only [World.cell?, e]
  simp [hz]
theorem tab_atM (zs : List Int) (W W' : World) (g : Nat) (t : TypeId) (hk : Keep g (W.alloc (.cells (zs.map (fun z => Value.int .i64 z)).toArray t)) W') (hg : g < W.heap.size) (k : Nat) (hz : k < zs.length) : ∃ z : Int, W'.cell? ⟨W.heap.size, k, none⟩ = some (.int .i64 z) := by
  refine ⟨zs[k], ?_⟩
  rw [hk.cell (by simp) (by omega)]
  have e := heap_alloc_new W (.cells (zs.map (fun z => Value.int .i64 z)).toArray t)
  simp only [World.cell?, e]
  simp [hz]

set_option maxRecDepth 20000 in
set_option maxHeartbeats 8000000 in
theorem dmove_any (g : Nat) (ao : Option Addr) (cap : Nat) (bs : List Int) (tm : Int) (w : World) (hc : Cur w g ao cap bs) :
    Calls Try.prog 36 #[.pointer (some ⟨g, 0, none⟩), .int .i64 tm] w fun e w' => ∃ x : Mv, e = .returned (aM x) ∧ Cur w' g ao cap bs ∧ Keep g w w' ∧ x.person ≠ 700 := by
  have hcA : Cur (w.alloc (.cells #[.int .i64 0, .int .i64 0, .int .i64 0, .int .i64 0, .int .i64 0, .int .i64 0] 29)) g ao cap bs := hc.below ((Below.refl _ _).alloc hc.1 _)
  have hkA : Keep g w (w.alloc (.cells #[.int .i64 0, .int .i64 0, .int .i64 0, .int .i64 0, .int .i64 0, .int .i64 0] 29)) := (Keep.refl g w).alloc _
  have hrA : (w.alloc (.cells #[.int .i64 0, .int .i64 0, .int .i64 0, .int .i64 0, .int .i64 0, .int .i64 0] 29)).heap[w.heap.size]? = some (.cells #[.int .i64 0, .int .i64 0, .int .i64 0, .int .i64 0, .int .i64 0, .int .i64 0] 29 (0, 0)) := heap_alloc_new _ _
  have hgl := hc.1
  go_enter Try.func36, Try.ntmps36
  generalize hwA : w.alloc (.cells #[.int .i64 0, .int .i64 0, .int .i64 0, .int .i64 0, .int .i64 0, .int .i64 0] 29) = wA at *
  go_upto_region 1 with fail
  go_cut [5] (fun bv wx => ∃ B x, bv = .pointer (some ⟨B, 0, none⟩) ∧ DM w wx g w.heap.size B ao cap bs x ∧ x.person ≠ 700)
  case first =>
    refine regM (tm := tm) rfl rfl rfl hcA hkA hgl (Nat.le_refl _) hrA ?_
    intro b' W B m hf hD hmf hB
    rw [layM hf, hB]
    generalize Rg.out (Rg.opsOf Try.f36 1) b' 0 = x0
    generalize Rg.out (Rg.opsOf Try.f36 1) b' 1 = x1
    generalize Rg.out (Rg.opsOf Try.f36 1) b' 2 = x2
    generalize Rg.out (Rg.opsOf Try.f36 1) b' 3 = x3
    generalize Rg.out (Rg.opsOf Try.f36 1) b' 4 = x4
    generalize Rg.out (Rg.opsOf Try.f36 1) b' 5 = x5
    generalize Rg.out (Rg.opsOf Try.f36 1) b' 6 = x6
    generalize Rg.out (Rg.opsOf Try.f36 1) b' 7 = x7
    generalize Rg.out (Rg.opsOf Try.f36 1) b' 8 = x8
    generalize Rg.out (Rg.opsOf Try.f36 1) b' 9 = x9
    generalize Rg.out (Rg.opsOf Try.f36 1) b' 10 = x10
    generalize Rg.out (Rg.opsOf Try.f36 1) b' 11 = x11
    generalize Rg.out (Rg.opsOf Try.f36 1) b' 12 = x12
    generalize Rg.out (Rg.opsOf Try.f36 1) b' 13 = x13
    generalize Rg.out (Rg.opsOf Try.f36 1) b' 14 = x14
    generalize Rg.out (Rg.opsOf Try.f36 1) b' 15 = x15
    generalize Rg.out (Rg.opsOf Try.f36 1) b' 16 = x16
    generalize Rg.out (Rg.opsOf Try.f36 1) b' 17 = x17
    generalize Rg.out (Rg.opsOf Try.f36 1) b' 18 = x18
    go_frame
    go_wp2_with fail
    go_meet
    case rel => exact ⟨B, m, rfl, hD, hmf⟩
  case rest =>
    obtain ⟨V, x0, rfl, hd, hx0⟩ := hcut
    clear hcA hkA hrA hwA
    go_upto_if 26 with (go_at_call 50; refine (once_any g ao cap bs 20 _ hd.cur (by omega)).mono ?_; rintro e w8 ⟨t8, rfl, hc8, hk8⟩)
    have hd8 := hd.call hc8 hk8
    clear hc8 hk8 hd
    go_cut [] (fun wx => ∃ x, DM w wx g w.heap.size V ao cap bs x ∧ x.person ≠ 700)
    case first =>
      rcases t8 with _ | _
      · go_wp2_with fail
        go_meet
        case rel => exact ⟨_, hd8, hx0⟩
      · go_wp2_with fail
        refine (below_any g ao cap bs 6 _ hd8.cur (by omega)).mono ?_
        rintro e w9 ⟨y, rfl, hy0, hy1, hc9, hk9⟩
        have hd := hd8.call hc9 hk9
        clear hc9 hk9 hd8
        rcases (show y = 0 ∨ y = 1 ∨ y = 2 ∨ y = 3 ∨ y = 4 ∨ y = 5 by omega) with rfl | rfl | rfl | rfl | rfl | rfl
        · go_wp2_with fail
          refine (from_any g ao cap bs (-1) 5 _ hd.cur (by omega) (by omega) (by omega)).mono ?_
          rintro e w3 ⟨z, rfl, -, -, hc3, hk3⟩
          have hd3 := hd.call hc3 hk3
          have m0 : w3.cell? ⟨V, 0, none⟩ = some _ := hd3.cell 0 _ rfl
          have n0 : w3.frozen? ⟨V, 0, none⟩ = false := hd3.fro 0
          have m1 : w3.cell? ⟨V, 1, none⟩ = some _ := hd3.cell 1 _ rfl
          have n1 : w3.frozen? ⟨V, 1, none⟩ = false := hd3.fro 1
          have m2 : w3.cell? ⟨V, 2, none⟩ = some _ := hd3.cell 2 _ rfl
          have n2 : w3.frozen? ⟨V, 2, none⟩ = false := hd3.fro 2
          have m3 : w3.cell? ⟨V, 3, none⟩ = some _ := hd3.cell 3 _ rfl
          have n3 : w3.frozen? ⟨V, 3, none⟩ = false := hd3.fro 3
          have m4 : w3.cell? ⟨V, 4, none⟩ = some _ := hd3.cell 4 _ rfl
          have n4 : w3.frozen? ⟨V, 4, none⟩ = false := hd3.fro 4
          have m5 : w3.cell? ⟨V, 5, none⟩ = some _ := hd3.cell 5 _ rfl
          have n5 : w3.frozen? ⟨V, 5, none⟩ = false := hd3.fro 5
          clear hc3 hk3 hd
          go_wp2_with fail
          go_meet
          case rel => exact ⟨_, hd3.set 0 (by omega) z, hx0⟩
        · go_wp2_with fail
          refine (below_any g ao cap bs 2 _ (hd.alloc _).cur (by omega)).mono ?_
          rintro e w3 ⟨y, rfl, hy0, hy1, hc3, hk3⟩
          obtain ⟨k, rfl⟩ := Int.eq_ofNat_of_zero_le hy0
          have hk8 : k < 2 := by omega
          have hd3 := (hd.alloc _).call hc3 hk3
          obtain ⟨z, hzm, hz⟩ := tab_inM [-1, 1000] w9 w3 g _ hk3 (Nat.lt_trans hd.gg.2 hd.lt.1) k hk8
          have hzf : z ≠ 700 := by
            simp only [List.mem_cons, List.not_mem_nil, or_false] at hzm
            omega
          clear hzm
          have m0 : w3.cell? ⟨V, 0, none⟩ = some _ := hd3.cell 0 _ rfl
          have n0 : w3.frozen? ⟨V, 0, none⟩ = false := hd3.fro 0
          have m1 : w3.cell? ⟨V, 1, none⟩ = some _ := hd3.cell 1 _ rfl
          have n1 : w3.frozen? ⟨V, 1, none⟩ = false := hd3.fro 1
          have m2 : w3.cell? ⟨V, 2, none⟩ = some _ := hd3.cell 2 _ rfl
          have n2 : w3.frozen? ⟨V, 2, none⟩ = false := hd3.fro 2
          have m3 : w3.cell? ⟨V, 3, none⟩ = some _ := hd3.cell 3 _ rfl
          have n3 : w3.frozen? ⟨V, 3, none⟩ = false := hd3.fro 3
          have m4 : w3.cell? ⟨V, 4, none⟩ = some _ := hd3.cell 4 _ rfl
          have n4 : w3.frozen? ⟨V, 4, none⟩ = false := hd3.fro 4
          have m5 : w3.cell? ⟨V, 5, none⟩ = some _ := hd3.cell 5 _ rfl
          have n5 : w3.frozen? ⟨V, 5, none⟩ = false := hd3.fro 5
          clear hc3 hk3 hd
          go_wp2_with fail
          go_meet
          case rel => exact ⟨_, hd3.set 1 (by omega) z, hzf⟩
        · go_wp2_with fail
          refine (from_any g ao cap bs 0 3 _ hd.cur (by omega) (by omega) (by omega)).mono ?_
          rintro e w3 ⟨z, rfl, -, -, hc3, hk3⟩
          have hd3 := hd.call hc3 hk3
          have m0 : w3.cell? ⟨V, 0, none⟩ = some _ := hd3.cell 0 _ rfl
          have n0 : w3.frozen? ⟨V, 0, none⟩ = false := hd3.fro 0
          have m1 : w3.cell? ⟨V, 1, none⟩ = some _ := hd3.cell 1 _ rfl
          have n1 : w3.frozen? ⟨V, 1, none⟩ = false := hd3.fro 1
          have m2 : w3.cell? ⟨V, 2, none⟩ = some _ := hd3.cell 2 _ rfl
          have n2 : w3.frozen? ⟨V, 2, none⟩ = false := hd3.fro 2
          have m3 : w3.cell? ⟨V, 3, none⟩ = some _ := hd3.cell 3 _ rfl
          have n3 : w3.frozen? ⟨V, 3, none⟩ = false := hd3.fro 3
          have m4 : w3.cell? ⟨V, 4, none⟩ = some _ := hd3.cell 4 _ rfl
          have n4 : w3.frozen? ⟨V, 4, none⟩ = false := hd3.fro 4
          have m5 : w3.cell? ⟨V, 5, none⟩ = some _ := hd3.cell 5 _ rfl
          have n5 : w3.frozen? ⟨V, 5, none⟩ = false := hd3.fro 5
          clear hc3 hk3 hd
          go_wp2_with fail
          go_meet
          case rel => exact ⟨_, hd3.set 2 (by omega) z, hx0⟩
        · go_wp2_with fail
          refine (from_any g ao cap bs 0 4 _ hd.cur (by omega) (by omega) (by omega)).mono ?_
          rintro e w3 ⟨z, rfl, -, -, hc3, hk3⟩
          have hd3 := hd.call hc3 hk3
          have m0 : w3.cell? ⟨V, 0, none⟩ = some _ := hd3.cell 0 _ rfl
          have n0 : w3.frozen? ⟨V, 0, none⟩ = false := hd3.fro 0
          have m1 : w3.cell? ⟨V, 1, none⟩ = some _ := hd3.cell 1 _ rfl
          have n1 : w3.frozen? ⟨V, 1, none⟩ = false := hd3.fro 1
          have m2 : w3.cell? ⟨V, 2, none⟩ = some _ := hd3.cell 2 _ rfl
          have n2 : w3.frozen? ⟨V, 2, none⟩ = false := hd3.fro 2
          have m3 : w3.cell? ⟨V, 3, none⟩ = some _ := hd3.cell 3 _ rfl
          have n3 : w3.frozen? ⟨V, 3, none⟩ = false := hd3.fro 3
          have m4 : w3.cell? ⟨V, 4, none⟩ = some _ := hd3.cell 4 _ rfl
          have n4 : w3.frozen? ⟨V, 4, none⟩ = false := hd3.fro 4
          have m5 : w3.cell? ⟨V, 5, none⟩ = some _ := hd3.cell 5 _ rfl
          have n5 : w3.frozen? ⟨V, 5, none⟩ = false := hd3.fro 5
          clear hc3 hk3 hd
          go_wp2_with fail
          go_meet
          case rel => exact ⟨_, hd3.set 3 (by omega) z, hx0⟩
        · go_wp2_with fail
          refine (below_any g ao cap bs 3 _ (hd.alloc _).cur (by omega)).mono ?_
          rintro e w3 ⟨y, rfl, hy0, hy1, hc3, hk3⟩
          obtain ⟨k, rfl⟩ := Int.eq_ofNat_of_zero_le hy0
          have hk8 : k < 3 := by omega
          have hd3 := (hd.alloc _).call hc3 hk3
          obtain ⟨z, hz⟩ := tab_atM [-1, 4611686018427387904, 7] w9 w3 g _ hk3 (Nat.lt_trans hd.gg.2 hd.lt.1) k hk8
          have m0 : w3.cell? ⟨V, 0, none⟩ = some _ := hd3.cell 0 _ rfl
          have n0 : w3.frozen? ⟨V, 0, none⟩ = false := hd3.fro 0
          have m1 : w3.cell? ⟨V, 1, none⟩ = some _ := hd3.cell 1 _ rfl
          have n1 : w3.frozen? ⟨V, 1, none⟩ = false := hd3.fro 1
          have m2 : w3.cell? ⟨V, 2, none⟩ = some _ := hd3.cell 2 _ rfl
          have n2 : w3.frozen? ⟨V, 2, none⟩ = false := hd3.fro 2
          have m3 : w3.cell? ⟨V, 3, none⟩ = some _ := hd3.cell 3 _ rfl
          have n3 : w3.frozen? ⟨V, 3, none⟩ = false := hd3.fro 3
          have m4 : w3.cell? ⟨V, 4, none⟩ = some _ := hd3.cell 4 _ rfl
          have n4 : w3.frozen? ⟨V, 4, none⟩ = false := hd3.fro 4
          have m5 : w3.cell? ⟨V, 5, none⟩ = some _ := hd3.cell 5 _ rfl
          have n5 : w3.frozen? ⟨V, 5, none⟩ = false := hd3.fro 5
          clear hc3 hk3 hd
          go_wp2_with fail
          go_meet
          case rel => exact ⟨_, hd3.set 4 (by omega) z, hx0⟩
        · go_wp2_with fail
          refine (below_any g ao cap bs 4 _ (hd.alloc _).cur (by omega)).mono ?_
          rintro e w3 ⟨y, rfl, hy0, hy1, hc3, hk3⟩
          obtain ⟨k, rfl⟩ := Int.eq_ofNat_of_zero_le hy0
          have hk8 : k < 4 := by omega
          have hd3 := (hd.alloc _).call hc3 hk3
          obtain ⟨z, hz⟩ := tab_atM [-1, 10000000, 10000001, 0] w9 w3 g _ hk3 (Nat.lt_trans hd.gg.2 hd.lt.1) k hk8
          have m0 : w3.cell? ⟨V, 0, none⟩ = some _ := hd3.cell 0 _ rfl
          have n0 : w3.frozen? ⟨V, 0, none⟩ = false := hd3.fro 0
          have m1 : w3.cell? ⟨V, 1, none⟩ = some _ := hd3.cell 1 _ rfl
          have n1 : w3.frozen? ⟨V, 1, none⟩ = false := hd3.fro 1
          have m2 : w3.cell? ⟨V, 2, none⟩ = some _ := hd3.cell 2 _ rfl
          have n2 : w3.frozen? ⟨V, 2, none⟩ = false := hd3.fro 2
          have m3 : w3.cell? ⟨V, 3, none⟩ = some _ := hd3.cell 3 _ rfl
          have n3 : w3.frozen? ⟨V, 3, none⟩ = false := hd3.fro 3
          have m4 : w3.cell? ⟨V, 4, none⟩ = some _ := hd3.cell 4 _ rfl
          have n4 : w3.frozen? ⟨V, 4, none⟩ = false := hd3.fro 4
          have m5 : w3.cell? ⟨V, 5, none⟩ = some _ := hd3.cell 5 _ rfl
          have n5 : w3.frozen? ⟨V, 5, none⟩ = false := hd3.fro 5
          clear hc3 hk3 hd
          go_wp2_with fail
          go_meet
          case rel => exact ⟨_, hd3.set 5 (by omega) z, hx0⟩
    case rest =>
      obtain ⟨x, hd, hxf⟩ := hcut
      clear hd8
      have c0 : wc.cell? ⟨V, 0, none⟩ = some _ := hd.cell 0 _ rfl
      obtain ⟨r0, s0⟩ := hd.rcell 0 (by omega)
      have c1 : wc.cell? ⟨V, 1, none⟩ = some _ := hd.cell 1 _ rfl
      obtain ⟨r1, s1⟩ := hd.rcell 1 (by omega)
      have c2 : wc.cell? ⟨V, 2, none⟩ = some _ := hd.cell 2 _ rfl
      obtain ⟨r2, s2⟩ := hd.rcell 2 (by omega)
      have c3 : wc.cell? ⟨V, 3, none⟩ = some _ := hd.cell 3 _ rfl
      obtain ⟨r3, s3⟩ := hd.rcell 3 (by omega)
      have c4 : wc.cell? ⟨V, 4, none⟩ = some _ := hd.cell 4 _ rfl
      obtain ⟨r4, s4⟩ := hd.rcell 4 (by omega)
      have c5 : wc.cell? ⟨V, 5, none⟩ = some _ := hd.cell 5 _ rfl
      obtain ⟨r5, s5⟩ := hd.rcell 5 (by omega)
      have hT := hd.told _ (six_setsM hd.r (.int .i64 x.kind) (.int .i64 x.person) (.int .i64 x.sex) (.int .i64 x.need) (.int .i64 x.bed) (.int .i64 x.time))
      obtain ⟨hT1, hT2, hT3⟩ := hT
      go_wp2_with fail
      exact bodyPost_ret (v := aM x) (results_cell_row Try.results36 _ _ w.heap.size 29 _ (0, 0) _ rfl hT1 Try.underlying29 rfl (by kernel_rfl)) rfl ⟨x, rfl, hT2, hT3, hxf⟩
end Go.Proofs.Ytklgadaefngnnaa
