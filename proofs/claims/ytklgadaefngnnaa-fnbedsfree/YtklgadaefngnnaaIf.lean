/-
  What a move does, the program's: somebody goes.
-/
import Derived.Test.YtklgadaefngnnaaIc
namespace Go.Proofs.Ytklgadaefngnnaa
open Go.RowKit Hm
set_option linter.unusedVariables false

set_option maxRecDepth 20000 in
set_option maxHeartbeats 4000000 in
theorem moved_out (ao ao2 : Option Addr) (n cap m cap2 : Nat) (B : List Bd) (S : List St) (pr sx nd bd tm : Int) (w : World) (h : HRw w (.slice ao n cap) (.slice ao2 m cap2) B S) (hn : B.length ≤ 200) (hm : S.length ≤ 1000) (hok : mvOk B.length ⟨3, pr, sx, nd, bd, tm⟩ = true) (hlt : late tm S = false) (k : Nat) (hpl : thereAt pr S = (k : Int)) (x : St) (hx : S[k]? = some x) :
    Calls Try.prog 38 #[.agg #[.slice ao n cap, .slice ao2 m cap2], .agg #[.int .i64 3, .int .i64 pr, .int .i64 sx, .int .i64 nd, .int .i64 bd, .int .i64 tm]] w fun e w' => ∃ b1 b2 b3 s1 s2 s3, e = .returned (.tuple #[.agg #[.slice b1 b2 b3, .slice s1 s2 s3], .int .i64 0]) ∧ Ans w.heap.size B (ended S k tm) 0 (.slice b1 b2 b3) (.slice s1 s2 s3) w' ∧ Below w.heap.size w w' := by
  obtain rfl := h.1.len
  have HM := hidden (moveok_any ao ao2 B.length cap m cap2 ⟨3, pr, sx, nd, bd, tm⟩)
  unfold aM at HM
  rw [hok] at HM
  have HL := hidden (fun W (hW : Below w.heap.size w W) => islate_any ao ao2 B.length cap m cap2 S tm W (h.below hW).2 (by omega))
  rw [hlt] at HL
  have HP := hidden (fun W (hW : Below w.heap.size w W) => placeof_any ao ao2 B.length cap m cap2 S pr W (h.below hW).2 (by omega))
  rw [hpl] at HP
  have HA := hidden (fun W (hW : Below w.heap.size w W) => anew_any ao ao2 B.length cap m cap2 B S W (h.below hW) (by omega) (by omega))
  have HX := hidden hx
  have k0 : ¬ (k : Int) < 0 := by omega
  have k1 : (0 : Int) ≤ (k : Int) := by omega
  have k2 : (k : Int) < (S.length : Int) := by have := get_lt hx; omega
  clear h hok hlt hpl hx
  go_enter Try.func38, Try.ntmps38
  go_wp2_with (first | (go_at_call 75; refine (HM.out _).mono ?_; rintro e w1 ⟨rfl, hb1⟩; have bA1 := onto (show Below w.heap.size w _ from by repeat (first | exact Below.refl _ _ | assumption | refine st_drew ?_ | refine st_drewN ?_ _ | refine Below.setCell ?_ (by first | omega | (simp; done) | (simp; omega)) _ | refine Below.alloc ?_ (by first | omega | (simp; done) | (simp; omega)) _)) hb1; have z1 := hb1.size; simp only [World.size_alloc] at z1; have B1 := (Bx.start w _ _ _ _ _ _ _ _).below hb1 (by simp); have ⟨q1h0, q1h1, q1m0, q1m1, q1m2, q1m3, q1m4, q1m5, q1r0, q1r1, q1f0, q1f1, q1ty⟩ := B1) | (go_at_call 76; refine (HL.out _ bA1).mono ?_; rintro e w2 ⟨rfl, hb2⟩; have bA2 := onto bA1 hb2; have z2 := hb2.size; have B2 := B1.below hb2 (by omega); have ⟨q2h0, q2h1, q2m0, q2m1, q2m2, q2m3, q2m4, q2m5, q2r0, q2r1, q2f0, q2f1, q2ty⟩ := B2) | (go_at_call 77; refine (HP.out _ bA2).mono ?_; rintro e w3 ⟨rfl, hb3⟩; have bA3 := onto bA2 hb3; have z3 := hb3.size; have B3 := B2.below hb3 (by omega); have ⟨q3h0, q3h1, q3m0, q3m1, q3m2, q3m3, q3m4, q3m5, q3r0, q3r1, q3f0, q3f1, q3ty⟩ := B3) | fail)
  refine (HA.out _ bA3).mono ?_
  rintro e w4 ⟨a1, c1, a2, c2, rfl, hN4, hb4⟩
  have z4 := hb4.size
  have bA4 := onto bA3 hb4
  have B4 := B3.below hb4 (by omega)
  have ⟨q4h0, q4h1, q4m0, q4m1, q4m2, q4m3, q4m4, q4m5, q4r0, q4r1, q4f0, q4f1, q4ty⟩ := B4
  obtain ⟨g, c, hgv, hg1, hg2, -, -, -⟩ := hN4.stay HX.out
  injection hgv with hgv1 hgv0 hgv2
  clear hgv0
  subst hgv1
  subst hgv2
  have b5 : Below w4.heap.size w4 (w4.alloc (.cells #[.slice a1 B.length c1, .slice (some ⟨g, 0, none⟩) S.length c2] 27)) := (Below.refl _ _).alloc (Nat.le_refl _) _
  have B5 := B4.below b5 (by omega)
  have ⟨q5h0, q5h1, q5m0, q5m1, q5m2, q5m3, q5m4, q5m5, q5r0, q5r1, q5f0, q5f1, q5ty⟩ := B5
  have hN5 := hN4.below b5
  obtain ⟨g', c', hgv', -, -, ⟨u, hcu⟩, hfz, hset⟩ := hN5.stay HX.out
  injection hgv' with hgv1' hgv0' hgv2'
  clear hgv0' hgv2'
  injection hgv1' with hgv1'
  injection hgv1' with hgv1' hgv0' hgv2'
  clear hgv0' hgv2'
  subst hgv1'
  have HSET := hidden hset
  clear hset
  have x0 : (w4.alloc (.cells #[.slice a1 B.length c1, .slice (some ⟨g, 0, none⟩) S.length c2] 27)).cell? ⟨w4.heap.size, 0, none⟩ = some (.slice a1 B.length c1) := by simp [go_sem]
  have x1 : (w4.alloc (.cells #[.slice a1 B.length c1, .slice (some ⟨g, 0, none⟩) S.length c2] 27)).cell? ⟨w4.heap.size, 1, none⟩ = some (.slice (some ⟨g, 0, none⟩) S.length c2) := by simp [go_sem]
  have bA5 := onto bA4 b5
  have t5 : IsT (w4.alloc (.cells #[.slice a1 B.length c1, .slice (some ⟨g, 0, none⟩) S.length c2] 27)) w4.heap.size 27 := ⟨_, blk_new _ _ _ rfl⟩
  have z5 : w4.heap.size < (w4.alloc (.cells #[.slice a1 B.length c1, .slice (some ⟨g, 0, none⟩) S.length c2] 27)).heap.size := by simp
  obtain ⟨y0, -⟩ := far (show w.heap.size ≠ g by omega)
  obtain ⟨y1, -⟩ := far (show w.heap.size + 1 ≠ g by omega)
  obtain ⟨y2, y2f⟩ := far (show w.heap.size + 1 + 1 ≠ g by omega)
  obtain ⟨y4, -⟩ := far (show w4.heap.size ≠ g by omega)
  clear hN4 hN5 hb4 b5
  generalize hWX : (w4.alloc (.cells #[.slice a1 B.length c1, .slice (some ⟨g, 0, none⟩) S.length c2] 27)) = WX at *
  go_wp2_with fail
  exact bodyPost_ret (v := .tuple #[.agg #[.slice a1 B.length c1, .slice (some ⟨g, 0, none⟩) S.length c2], .int .i64 0]) (by simp [results, Try.results38, go_sem, y2, q5r0, q5r1]) rfl ⟨_, _, _, _, _, _, rfl, (((Ans.yes (HSET.out tm)).base_le (by omega)).ty (q5ty.setCell _ _) _).ty ((q5ty.setCell _ _).setCell _ _) _, ((bA5.setCell (p := ⟨g, k * 6 + 5, none⟩) (by show w.heap.size ≤ g; omega) _).setCell (p := ⟨w.heap.size + 1 + 1, 0, none⟩) (by show w.heap.size ≤ w.heap.size + 1 + 1; omega) _).setCell (p := ⟨w.heap.size + 1 + 1, 1, none⟩) (by show w.heap.size ≤ w.heap.size + 1 + 1; omega) _⟩

end Go.Proofs.Ytklgadaefngnnaa
