/-
  What a move does, the program's: somebody is moved.
-/
import Derived.Test.YtklgadaefngnnaaIc
namespace Go.Proofs.Ytklgadaefngnnaa
open Go.RowKit Hm
set_option linter.unusedVariables false

set_option maxRecDepth 20000 in
set_option maxHeartbeats 4000000 in
theorem moved_to (ao ao2 : Option Addr) (n cap m cap2 : Nat) (B : List Bd) (S : List St) (pr sx nd tm : Int) (kb : Nat) (w : World) (h : HRw w (.slice ao n cap) (.slice ao2 m cap2) B S) (hn : B.length ≤ 200) (hm : S.length ≤ 1000) (hok : mvOk B.length ⟨2, pr, sx, nd, kb, tm⟩ = true) (hlt : late tm S = false) (k : Nat) (hpl : thereAt pr S = (k : Int)) (xs xn xb xf : Int) (hx : S[k]? = some ⟨pr, xs, xn, xb, xf, -1⟩) (hfi : fits B.length S) (hkb : kb < B.length) (htm : 0 ≤ tm) (hs1 : 1 ≤ xs) (hs2 : xs ≤ 2) :
    Calls Try.prog 38 #[.agg #[.slice ao n cap, .slice ao2 m cap2], .agg #[.int .i64 2, .int .i64 pr, .int .i64 sx, .int .i64 nd, .int .i64 kb, .int .i64 tm]] w fun e w' => ∃ b1 b2 b3 s1 s2 s3, e = .returned (.tuple #[.agg #[.slice b1 b2 b3, .slice s1 s2 s3], .int .i64 (placed B S (ended S k tm) ⟨pr, xs, xn, kb, tm, -1⟩).2]) ∧ Ans w.heap.size B (placed B S (ended S k tm) ⟨pr, xs, xn, kb, tm, -1⟩).1 (placed B S (ended S k tm) ⟨pr, xs, xn, kb, tm, -1⟩).2 (.slice b1 b2 b3) (.slice s1 s2 s3) w' ∧ Below w.heap.size w w' := by
  obtain ⟨go, off, rfl, hgo, o0, o1, o2, o3, o4, o5⟩ := stay_cells h.2 hx
  obtain rfl := h.2.len
  obtain rfl := h.1.len
  have HM := hidden (moveok_any ao (some ⟨go, off, none⟩) B.length cap S.length cap2 ⟨2, pr, sx, nd, kb, tm⟩)
  unfold aM at HM
  rw [hok] at HM
  have HL := hidden (fun W (hW : Below w.heap.size w W) => islate_any ao (some ⟨go, off, none⟩) B.length cap S.length cap2 S tm W (h.below hW).2 (by omega))
  rw [hlt] at HL
  have HP := hidden (fun W (hW : Below w.heap.size w W) => placeof_any ao (some ⟨go, off, none⟩) B.length cap S.length cap2 S pr W (h.below hW).2 (by omega))
  rw [hpl] at HP
  have HA := hidden (fun W (hW : Below w.heap.size w W) => anew_any ao (some ⟨go, off, none⟩) B.length cap S.length cap2 B S W (h.below hW) (by omega) (by omega))
  have HX := hidden hx
  have HFI : Hid (fits B.length (ended S k tm)) := ended_fits hx htm hfi
  have HKB := hidden hkb
  have HS1 := hidden hs1
  have HS2 := hidden hs2
  have k0 : ¬ (k : Int) < 0 := by omega
  have k1 : (0 : Int) ≤ (k : Int) := by omega
  have k2 : (k : Int) < (S.length : Int) := by have := get_lt hx; omega
  clear h hok hlt hpl hx hfi hs1 hs2
  go_enter Try.func38, Try.ntmps38
  go_wp2_with (first | (go_at_call 75; refine (HM.out _).mono ?_; rintro e w1 ⟨rfl, hb1⟩; have bA1 := onto (show Below w.heap.size w _ from by repeat (first | exact Below.refl _ _ | assumption | refine st_drew ?_ | refine st_drewN ?_ _ | refine Below.setCell ?_ (by first | omega | (simp; done) | (simp; omega)) _ | refine Below.alloc ?_ (by first | omega | (simp; done) | (simp; omega)) _)) hb1; have z1 := hb1.size; simp only [World.size_alloc] at z1; have B1 := (Bx.start w _ _ _ _ _ _ _ _).below hb1 (by simp); have ⟨q1h0, q1h1, q1m0, q1m1, q1m2, q1m3, q1m4, q1m5, q1r0, q1r1, q1f0, q1f1, q1ty⟩ := B1) | (go_at_call 76; refine (HL.out _ bA1).mono ?_; rintro e w2 ⟨rfl, hb2⟩; have bA2 := onto bA1 hb2; have z2 := hb2.size; have B2 := B1.below hb2 (by omega); have ⟨q2h0, q2h1, q2m0, q2m1, q2m2, q2m3, q2m4, q2m5, q2r0, q2r1, q2f0, q2f1, q2ty⟩ := B2) | (go_at_call 77; refine (HP.out _ bA2).mono ?_; rintro e w3 ⟨rfl, hb3⟩; have bA3 := onto bA2 hb3; have z3 := hb3.size; have B3 := B2.below hb3 (by omega); have ⟨q3h0, q3h1, q3m0, q3m1, q3m2, q3m3, q3m4, q3m5, q3r0, q3r1, q3f0, q3f1, q3ty⟩ := B3) | fail)
  refine (HA.out _ bA3).mono ?_
  rintro e w4 ⟨a1, c1, a2, c2, rfl, hN4, hb4⟩
  have z4 := hb4.size
  have bA4 := onto bA3 hb4
  have B4 := B3.below hb4 (by omega)
  have ⟨q4h0, q4h1, q4m0, q4m1, q4m2, q4m3, q4m4, q4m5, q4r0, q4r1, q4f0, q4f1, q4ty⟩ := B4
  obtain ⟨g, c, hgv, hg1, hg2, -, -, -⟩ := hN4.stay HX.out
  injection hgv with hgv1 hgv0 hgv2
  clear hgv0
  subst hgv1
  subst hgv2
  have b5 : Below w4.heap.size w4 (w4.alloc (.cells #[.slice a1 B.length c1, .slice (some ⟨g, 0, none⟩) S.length c2] 27)) := (Below.refl _ _).alloc (Nat.le_refl _) _
  have B5 := B4.below b5 (by omega)
  have ⟨q5h0, q5h1, q5m0, q5m1, q5m2, q5m3, q5m4, q5m5, q5r0, q5r1, q5f0, q5f1, q5ty⟩ := B5
  have hN5 := hN4.below b5
  obtain ⟨g', c', hgv', -, -, ⟨u, hcu⟩, hfz, hset⟩ := hN5.stay HX.out
  injection hgv' with hgv1' hgv0' hgv2'
  clear hgv0' hgv2'
  injection hgv1' with hgv1'
  injection hgv1' with hgv1' hgv0' hgv2'
  clear hgv0' hgv2'
  subst hgv1'
  have HSET := hidden hset
  clear hset
  have x0 : (w4.alloc (.cells #[.slice a1 B.length c1, .slice (some ⟨g, 0, none⟩) S.length c2] 27)).cell? ⟨w4.heap.size, 0, none⟩ = some (.slice a1 B.length c1) := by simp [go_sem]
  have x1 : (w4.alloc (.cells #[.slice a1 B.length c1, .slice (some ⟨g, 0, none⟩) S.length c2] 27)).cell? ⟨w4.heap.size, 1, none⟩ = some (.slice (some ⟨g, 0, none⟩) S.length c2) := by simp [go_sem]
  have bA5 := onto bA4 b5
  have t5 : IsT (w4.alloc (.cells #[.slice a1 B.length c1, .slice (some ⟨g, 0, none⟩) S.length c2] 27)) w4.heap.size 27 := ⟨_, blk_new _ _ _ rfl⟩
  have z5 : w4.heap.size < (w4.alloc (.cells #[.slice a1 B.length c1, .slice (some ⟨g, 0, none⟩) S.length c2] 27)).heap.size := by simp
  obtain ⟨y0, -⟩ := far (show w.heap.size ≠ g by omega)
  obtain ⟨y1, -⟩ := far (show w.heap.size + 1 ≠ g by omega)
  obtain ⟨y2, y2f⟩ := far (show w.heap.size + 1 + 1 ≠ g by omega)
  obtain ⟨y4, -⟩ := far (show w4.heap.size ≠ g by omega)
  clear hN4 hN5 hb4 b5
  generalize hWX : (w4.alloc (.cells #[.slice a1 B.length c1, .slice (some ⟨g, 0, none⟩) S.length c2] 27)) = WX at *
  have NY := hidden (HSET.out tm)
  have bY := bA5.setCell (p := ⟨g, k * 6 + 5, none⟩) (by show w.heap.size ≤ g; omega) (.int .i64 tm)
  have BY := B5.below ((Below.refl (w.heap.size + 1 + 1 + 1) _).setCell (p := ⟨g, k * 6 + 5, none⟩) (by show w.heap.size + 1 + 1 + 1 ≤ g; omega) (.int .i64 tm)) (by omega)
  have xy0 := (y4 WX (k * 6 + 5) 0 (.int .i64 tm)).trans x0
  have xy1 := (y4 WX (k * 6 + 5) 1 (.int .i64 tm)).trans x1
  have zY : w4.heap.size < (WX.setCell ⟨g, k * 6 + 5, none⟩ (.int .i64 tm)).heap.size := by simp; omega
  clear y0 y1 y2 y2f y4 HSET
  generalize hWY : WX.setCell ⟨g, k * 6 + 5, none⟩ (.int .i64 tm) = WY at *
  have ⟨qYh0, qYh1, qYm0, qYm1, qYm2, qYm3, qYm4, qYm5, qYr0, qYr1, qYf0, qYf1, qYty⟩ := BY
  have oy0 := (bY.cell (p := ⟨go, off + k * 6, none⟩) hgo).trans o0
  have oy1 := (bY.cell (p := ⟨go, off + k * 6 + 1, none⟩) hgo).trans o1
  have oy2 := (bY.cell (p := ⟨go, off + k * 6 + 2, none⟩) hgo).trans o2
  have oy3 := (bY.cell (p := ⟨go, off + k * 6 + 3, none⟩) hgo).trans o3
  have oy4 := (bY.cell (p := ⟨go, off + k * 6 + 4, none⟩) hgo).trans o4
  have oy5 := (bY.cell (p := ⟨go, off + k * 6 + 5, none⟩) hgo).trans o5
  go_wp2_with fail
  have zc0 : (WY.alloc (.cells #[.int .i64 pr, .int .i64 xs, .int .i64 xn, .int .i64 xb, .int .i64 xf, .int .i64 (-1)] 36)).cell? ⟨WY.heap.size, 0, none⟩ = some (.int .i64 pr) := by simp [go_sem]
  have zc1 : (WY.alloc (.cells #[.int .i64 pr, .int .i64 xs, .int .i64 xn, .int .i64 xb, .int .i64 xf, .int .i64 (-1)] 36)).cell? ⟨WY.heap.size, 1, none⟩ = some (.int .i64 xs) := by simp [go_sem]
  have zc2 : (WY.alloc (.cells #[.int .i64 pr, .int .i64 xs, .int .i64 xn, .int .i64 xb, .int .i64 xf, .int .i64 (-1)] 36)).cell? ⟨WY.heap.size, 2, none⟩ = some (.int .i64 xn) := by simp [go_sem]
  have zc3 : (WY.alloc (.cells #[.int .i64 pr, .int .i64 xs, .int .i64 xn, .int .i64 xb, .int .i64 xf, .int .i64 (-1)] 36)).cell? ⟨WY.heap.size, 3, none⟩ = some (.int .i64 xb) := by simp [go_sem]
  have zc4 : (WY.alloc (.cells #[.int .i64 pr, .int .i64 xs, .int .i64 xn, .int .i64 xb, .int .i64 xf, .int .i64 (-1)] 36)).cell? ⟨WY.heap.size, 4, none⟩ = some (.int .i64 xf) := by simp [go_sem]
  have zc5 : (WY.alloc (.cells #[.int .i64 pr, .int .i64 xs, .int .i64 xn, .int .i64 xb, .int .i64 xf, .int .i64 (-1)] 36)).cell? ⟨WY.heap.size, 5, none⟩ = some (.int .i64 (-1)) := by simp [go_sem]
  have zf3 : (WY.alloc (.cells #[.int .i64 pr, .int .i64 xs, .int .i64 xn, .int .i64 xb, .int .i64 xf, .int .i64 (-1)] 36)).frozen? ⟨WY.heap.size, 3, none⟩ = false := by simp [go_sem]
  have zf4 : (WY.alloc (.cells #[.int .i64 pr, .int .i64 xs, .int .i64 xn, .int .i64 xb, .int .i64 xf, .int .i64 (-1)] 36)).frozen? ⟨WY.heap.size, 4, none⟩ = false := by simp [go_sem]
  have bYZ : Below WY.heap.size WY (WY.alloc (.cells #[.int .i64 pr, .int .i64 xs, .int .i64 xn, .int .i64 xb, .int .i64 xf, .int .i64 (-1)] 36)) := (Below.refl _ _).alloc (Nat.le_refl _) _
  have bZ := onto bY bYZ
  have BZ := BY.below bYZ (by omega)
  have xz0 := (bYZ.cell (p := ⟨w4.heap.size, 0, none⟩) (by show w4.heap.size < WY.heap.size; omega)).trans xy0
  have xz1 := (bYZ.cell (p := ⟨w4.heap.size, 1, none⟩) (by show w4.heap.size < WY.heap.size; omega)).trans xy1
  have zZ : WY.heap.size < (WY.alloc (.cells #[.int .i64 pr, .int .i64 xs, .int .i64 xn, .int .i64 xb, .int .i64 xf, .int .i64 (-1)] 36)).heap.size := by simp
  have HEL : Hid ((ended S k tm).length ≤ 1000) := by rw [Hid, ended_len]; exact hm
  generalize (WY.alloc (.cells #[.int .i64 pr, .int .i64 xs, .int .i64 xn, .int .i64 xb, .int .i64 xf, .int .i64 (-1)] 36)) = WZ at *
  have ⟨qZh0, qZh1, qZm0, qZm1, qZm2, qZm3, qZm4, qZm5, qZr0, qZr1, qZf0, qZf1, qZty⟩ := BZ
  obtain ⟨v0, -⟩ := far (show w.heap.size + 1 ≠ WY.heap.size by omega)
  obtain ⟨v1, -⟩ := far (show w4.heap.size ≠ WY.heap.size by omega)
  go_region
  all_goals go_wp2_with (first | (go_at_call 78; refine (withstay2 a1 (some ⟨g, 0, none⟩) B.length c1 S.length c2 w3.heap.size kb B S (ended S k tm) pr xs xn tm (-1) _ (NY.out.below (bYZ.trans (show Below WY.heap.size WZ _ from by repeat (first | exact Below.refl _ _ | refine st_drew ?_ | refine st_drewN ?_ _ | refine Below.setCell ?_ (by first | omega | (simp; done) | (simp; omega)) _ | refine Below.alloc ?_ (by first | omega | (simp; done) | (simp; omega)) _)))) (by simp; omega) hn HEL.out HFI.out HKB.out HS1.out HS2.out).mono ?_; rintro e w5 ⟨b1, b2, b3, s1, s2, s3, rfl, hA5, hb5⟩; have bE := (bZ.trans (show Below w.heap.size WZ _ from by repeat (first | exact Below.refl _ _ | refine st_drew ?_ | refine st_drewN ?_ _ | refine Below.setCell ?_ (by first | omega | (simp; done) | (simp; omega)) _ | refine Below.alloc ?_ (by first | omega | (simp; done) | (simp; omega)) _))).trans (hb5.mono (by omega)); have BE := (BZ.below (show Below (w.heap.size + 1 + 1 + 1) WZ _ from by repeat (first | exact Below.refl _ _ | refine st_drew ?_ | refine st_drewN ?_ _ | refine Below.setCell ?_ (by first | omega | (simp; done) | (simp; omega)) _ | refine Below.alloc ?_ (by first | omega | (simp; done) | (simp; omega)) _)) (by omega)).below hb5 (by omega); have ⟨qEh0, qEh1, qEm0, qEm1, qEm2, qEm3, qEm4, qEm5, qEr0, qEr1, qEf0, qEf1, qEty⟩ := BE) | fail)
  all_goals exact bodyPost_ret (v := .tuple #[.agg #[.slice b1 b2 b3, .slice s1 s2 s3], .int .i64 (placed B S (ended S k tm) ⟨pr, xs, xn, kb, tm, -1⟩).2]) (by simp [results, Try.results38, go_sem, qEr0, qEr1]) rfl ⟨_, _, _, _, _, _, rfl, ((hA5.base_le (by omega)).ty qEty _).ty (qEty.setCell _ _) _, (bE.setCell (p := ⟨w.heap.size + 1 + 1, 0, none⟩) (by show w.heap.size ≤ w.heap.size + 1 + 1; omega) _).setCell (p := ⟨w.heap.size + 1 + 1, 1, none⟩) (by show w.heap.size ≤ w.heap.size + 1 + 1; omega) _⟩

end Go.Proofs.Ytklgadaefngnnaa
