/-
  A need that is drawn of a cursor: the walk.
-/
import Derived.Test.YtaidhcbchpcemaaD5
import Derived.Test.YtaidhcbchpcemaaQ14
import Derived.Deep.DeepCutAuto
namespace Go.Proofs.Ytaidhcbchpcemaa
open Go.RowKit Va Bl
set_option linter.all false

theorem PB.fill3 {W : World} {B : Nat} {t : TypeId} {v0 v1 v2 : Value} (h : PB W B #[v0, v1, v2] t) (x0 x1 x2 : Value) : PB (((W.setCell ⟨B, 0, none⟩ x0).setCell ⟨B, 1, none⟩ x1).setCell ⟨B, 2, none⟩ x2) B #[x0, x1, x2] t :=
  ((h.put 0 x0 (vs' := #[x0, v1, v2]) (by simp)).put 1 x1 (vs' := #[x0, x1, v2]) (by simp)).put 2 x2 (by simp)
theorem Ap.of {w : World} {base B R n : Nat} {t : TypeId} {v : Value} {vs : Array Value} {xs : List Value} (h : w.ownsRow base 2 1 v n xs) (hP : PB w B vs t) (ht : t ≠ 2) (hR : R < base) : Ap v B R := by
  intro k hk
  rcases h.2 with ⟨rfl, -⟩ | ⟨b, c, cur, rfl, hb, hh, -⟩
  · simp [Value.ownBlock] at hk
  · simp only [Value.ownBlock, Option.map_some, Option.some.injEq] at hk
    have e : b = k := hk
    subst e
    refine ⟨?_, by omega⟩
    rintro rfl
    have e2 := hh.symm.trans hP
    simp only [Option.some.injEq, Obj.cells.injEq] at e2
    exact ht e2.2.1.symm

set_option maxRecDepth 20000 in
set_option maxHeartbeats 16000000 in
theorem dneed_any (g : Nat) (ao : Option Addr) (cap : Nat) (bs : List Int) (w : World) (hc : Cur w g ao cap bs) :
    Calls Try.prog 32 #[.pointer (some ⟨g, 0, none⟩)] w fun e w' => ∃ (x : Nd) (ad : Option Addr) (c : Nat), e = .returned (aN x (.slice ad x.ag.length c)) ∧ x.ag.length ≤ 4 ∧ DI w w' g ao cap bs (.slice ad x.ag.length c) x.ag := by
  have hgl := hc.1
  have hcR := hc.alloc (.cells #[.int .i64 0, .int .i64 0, .slice none 0 0] 28)
  have hkR : Keep g w (w.alloc (.cells #[.int .i64 0, .int .i64 0, .slice none 0 0] 28)) := (Keep.refl g w).alloc _
  have hbR := PB.new w #[.int .i64 0, .int .i64 0, .slice none 0 0] 28
  have hzR : (w.alloc (.cells #[.int .i64 0, .int .i64 0, .slice none 0 0] 28)).heap.size = w.heap.size + 1 := by simp
  clear hc
  go_enter Try.func32, Try.ntmps32
  go_upto_region 1 with fail
  generalize w.alloc (.cells #[.int .i64 0, .int .i64 0, .slice none 0 0] 28) = wR at *
  refine regNd1 rfl rfl hcR ?_
  intro b' w1 V x ad c hf hc1 hk1 hv12 hVl hP1 hO1 hL1
  rw [layNd1 hf, hv12]
  clear hf hv12
  generalize Rg.out (Rg.opsOf Try.f32 1) b' 0 = y0
  generalize Rg.out (Rg.opsOf Try.f32 1) b' 1 = y1
  generalize Rg.out (Rg.opsOf Try.f32 1) b' 2 = y2
  generalize Rg.out (Rg.opsOf Try.f32 1) b' 3 = y3
  generalize Rg.out (Rg.opsOf Try.f32 1) b' 4 = y4
  generalize Rg.out (Rg.opsOf Try.f32 1) b' 5 = y5
  generalize Rg.out (Rg.opsOf Try.f32 1) b' 6 = y6
  generalize Rg.out (Rg.opsOf Try.f32 1) b' 7 = y7
  generalize Rg.out (Rg.opsOf Try.f32 1) b' 8 = y8
  generalize Rg.out (Rg.opsOf Try.f32 1) b' 9 = y9
  generalize Rg.out (Rg.opsOf Try.f32 1) b' 10 = y10
  generalize Rg.out (Rg.opsOf Try.f32 1) b' 11 = y11
  have hK1 := hkR.trans hk1
  have hR1 := hbR.keep hk1 (by omega)
  have hap := Ap.of (R := w.heap.size) hO1 hP1 (by decide) (by omega)
  have hd1 : DX w w1 g ao cap bs w.heap.size V #[.int .i64 0, .int .i64 0, .slice none 0 0] #[.int .i64 0, .int .i64 0, .slice none 0 0] 28 := ⟨hc1, hK1, hR1, hP1, hgl, Nat.le_refl _, by omega, by omega⟩
  have hi1 : DI w w1 g ao cap bs (.slice ad x.ag.length c) x.ag := ⟨hc1, hK1, ownW_base hO1 (by omega), hgl⟩
  have hd := ((hd1.put 0 (.int .i64 x.p) (vs' := #[.int .i64 x.p, .int .i64 0, .slice none 0 0]) (by simp)).put 1 (.int .i64 x.g) (vs' := #[.int .i64 x.p, .int .i64 x.g, .slice none 0 0]) (by simp)).put 2 (.slice ad x.ag.length c) (vs' := #[.int .i64 x.p, .int .i64 x.g, .slice ad x.ag.length c]) (by simp)
  have hi := ((hi1.far hd1.vv hap 0 (.int .i64 x.p)).far hd1.vv hap 1 (.int .i64 x.g)).far hd1.vv hap 2 (.slice ad x.ag.length c)
  have hlen := hL1
  clear hd1 hi1 hK1 hR1 hO1 hP1 hk1 hc1 hVl hL1 hcR hkR hbR hzR
  generalize (((w1.setCell ⟨V, 0, none⟩ (.int .i64 x.p)).setCell ⟨V, 1, none⟩ (.int .i64 x.g)).setCell ⟨V, 2, none⟩ (.slice ad x.ag.length c)) = w7 at *
  go_frame
  go_wp2_with fail
  refine (once_any g ao cap bs 30 _ hd.cur (by omega)).mono ?_
  rintro e w8 ⟨t8, rfl, hc8, hk8⟩
  have hd8 := hd.call hc8 hk8
  have hi8 := hi.call hc8 hk8
  clear hc8 hk8 hd hi
  have hd := hd8
  have hi := hi8
  clear hd8 hi8
  go_upto_if 17 with fail
  go_cut [] (fun wx => ∃ (x : Nd) (ad : Option Addr) (c : Nat), DX w wx g ao cap bs w.heap.size V #[.int .i64 0, .int .i64 0, .slice none 0 0] #[.int .i64 x.p, .int .i64 x.g, .slice ad x.ag.length c] 28 ∧ DI w wx g ao cap bs (.slice ad x.ag.length c) x.ag ∧ Ap (.slice ad x.ag.length c) V w.heap.size ∧ x.ag.length ≤ 4)
  case first =>
    rcases t8 with _ | _
    · go_wp2_with fail
      go_meet
      case rel => exact ⟨x, ad, c, hd, hi, hap, by omega⟩
    · go_wp2_with fail
      refine (below_any g ao cap bs 3 _ hd.cur (by omega)).mono ?_
      rintro e w9 ⟨y9, rfl, y90, y91, hc9, hk9⟩
      have hd9 := hd.call hc9 hk9
      have hi9 := hi.call hc9 hk9
      clear hc9 hk9 hd hi
      have hd := hd9
      have hi := hi9
      clear hd9 hi9
      have hlen2 : x.ag.length ≤ 4 := by omega
      have hlen3 := hlen
      clear hlen
      have hlen := hlen2
      clear hlen2
      rcases (show y9 = 0 ∨ y9 = 1 ∨ y9 = 2 by omega) with rfl | rfl | rfl
      · have hT := Tb.new (g := g) (w := w9) [(-1), 1000] hd.cur.1
        have HD := hidden (hd.alloc (.cells #[.int .i64 (-1), .int .i64 1000] 2))
        have HI := hidden (hi.alloc (.cells #[.int .i64 (-1), .int .i64 1000] 2))
        have HT := hidden hT
        clear hT hd hi
        go_wp2_with fail
        refine (below_any g ao cap bs 2 _ HD.out.cur (by omega)).mono ?_
        rintro e wA ⟨aA, rfl, aA0, aA1, hcA, hkA⟩
        obtain ⟨k, rfl⟩ := Int.eq_ofNat_of_zero_le aA0
        have hkl : k < 2 := by omega
        have hcell := (HT.out.keep hkA).at (k := k) hkl
        generalize hz : ([(-1), 1000] : List Int)[k] = z at hcell
        have hd8 := hidden ((HD.out.call hcA hkA).put 0 (.int .i64 z) (vs' := #[.int .i64 z, .int .i64 x.g, .slice ad x.ag.length c]) (by simp))
        have hi8 := hidden ((HI.out.call hcA hkA).far HD.out.vv hap 0 (.int .i64 z))
        obtain ⟨e0, e1, e2⟩ := (HD.out.call hcA hkA).box.three
        obtain ⟨f0, f1, f2, -⟩ := (HD.out.call hcA hkA).box.cold
        clear hz HT hcA hkA HD HI
        go_wp2_with fail
        go_meet
        case rel => exact ⟨{ x with p := z }, ad, c, hd8.out, hi8.out, hap, hlen⟩
      · have hT := Tb.new (g := g) (w := w9) [(-1), 8] hd.cur.1
        have HD := hidden (hd.alloc (.cells #[.int .i64 (-1), .int .i64 8] 2))
        have HI := hidden (hi.alloc (.cells #[.int .i64 (-1), .int .i64 8] 2))
        have HT := hidden hT
        clear hT hd hi
        go_wp2_with fail
        refine (below_any g ao cap bs 2 _ HD.out.cur (by omega)).mono ?_
        rintro e wA ⟨aA, rfl, aA0, aA1, hcA, hkA⟩
        obtain ⟨k, rfl⟩ := Int.eq_ofNat_of_zero_le aA0
        have hkl : k < 2 := by omega
        have hcell := (HT.out.keep hkA).at (k := k) hkl
        generalize hz : ([(-1), 8] : List Int)[k] = z at hcell
        have hd8 := hidden ((HD.out.call hcA hkA).put 1 (.int .i64 z) (vs' := #[.int .i64 x.p, .int .i64 z, .slice ad x.ag.length c]) (by simp))
        have hi8 := hidden ((HI.out.call hcA hkA).far HD.out.vv hap 1 (.int .i64 z))
        obtain ⟨e0, e1, e2⟩ := (HD.out.call hcA hkA).box.three
        obtain ⟨f0, f1, f2, -⟩ := (HD.out.call hcA hkA).box.cold
        clear hz HT hcA hkA HD HI
        go_wp2_with fail
        go_meet
        case rel => exact ⟨{ x with g := z }, ad, c, hd8.out, hi8.out, hap, hlen⟩
      · clear y90 y91
        go_upto_region 9 with fail
        refine regDn9 (x := x) rfl rfl rfl hd hi hap (by omega) ?_
        intro b' wB ad' c' z hf hdB hiB hapB
        have HDB := hidden hdB
        have HIB := hidden hiB
        have HAB := hidden hapB
        rw [layDn9 hf]
        clear hdB hiB hapB hd hi
        generalize Rg.out (Rg.opsOf Try.f32 9) b' 0 = y0
        generalize Rg.out (Rg.opsOf Try.f32 9) b' 1 = y1
        generalize Rg.out (Rg.opsOf Try.f32 9) b' 2 = y2
        generalize Rg.out (Rg.opsOf Try.f32 9) b' 3 = y3
        generalize Rg.out (Rg.opsOf Try.f32 9) b' 4 = y4
        generalize Rg.out (Rg.opsOf Try.f32 9) b' 5 = y5
        generalize Rg.out (Rg.opsOf Try.f32 9) b' 6 = y6
        generalize Rg.out (Rg.opsOf Try.f32 9) b' 7 = y7
        generalize Rg.out (Rg.opsOf Try.f32 9) b' 8 = y8
        generalize Rg.out (Rg.opsOf Try.f32 9) b' 9 = y9
        go_frame
        go_wp2_with fail
        go_meet
        case rel => exact ⟨{ x with ag := x.ag ++ [z] }, ad', c', by simpa using HDB.out, by simpa using HIB.out, by simpa using HAB.out, by simp; omega⟩
  case rest =>
  clear hd hi hap hlen
  obtain ⟨x, ad, c, hd, hi, hap, hlen⟩ := hcut
  obtain ⟨e0, e1, e2⟩ := hd.box.three
  obtain ⟨z0, z1, z2⟩ := hd.res.three
  obtain ⟨f0, f1, f2, -⟩ := hd.res.cold
  have HR := hidden (hd.res.fill3 (.int .i64 x.p) (.int .i64 x.g) (.slice ad x.ag.length c))
  have HI := hidden (((hi.far (Nat.le_refl _) hap.swap 0 (.int .i64 x.p)).far (Nat.le_refl _) hap.swap 1 (.int .i64 x.g)).far (Nat.le_refl _) hap.swap 2 (.slice ad x.ag.length c))
  clear hd hi
  go_wp2_with fail
  try simp only [Exit.inBlock, Exit.then]
  exact bodyPost_ret (v := aN x (.slice ad x.ag.length c)) (results_cell_row Try.results32 _ _ w.heap.size 28 _ (0, 0) _ rfl HR.out Try.underlying28 rfl (by kernel_rfl)) rfl ⟨x, ad, c, rfl, hlen, HI.out⟩
end Go.Proofs.Ytaidhcbchpcemaa
