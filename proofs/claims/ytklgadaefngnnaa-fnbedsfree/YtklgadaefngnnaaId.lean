/-
  What a move does, the program's.
-/
import Derived.Test.YtklgadaefngnnaaIc
namespace Go.Proofs.Ytklgadaefngnnaa
open Go.RowKit Hm
set_option linter.unusedVariables false

set_option maxRecDepth 20000 in
set_option maxHeartbeats 4000000 in
theorem moved_bad (ao ao2 : Option Addr) (n cap m cap2 : Nat) (B : List Bd) (S : List St) (kd pr sx nd bd tm : Int) (w : World) (h : HRw w (.slice ao n cap) (.slice ao2 m cap2) B S) (hn : B.length ≤ 200) (hm : S.length ≤ 1000) (hok : mvOk B.length ⟨kd, pr, sx, nd, bd, tm⟩ = false) :
    Calls Try.prog 38 #[.agg #[.slice ao n cap, .slice ao2 m cap2], .agg #[.int .i64 kd, .int .i64 pr, .int .i64 sx, .int .i64 nd, .int .i64 bd, .int .i64 tm]] w fun e w' => ∃ b1 b2 b3 s1 s2 s3, e = .returned (.tuple #[.agg #[.slice b1 b2 b3, .slice s1 s2 s3], .int .i64 2]) ∧ Ans w.heap.size B S 2 (.slice b1 b2 b3) (.slice s1 s2 s3) w' ∧ Below w.heap.size w w' := by
  obtain rfl := h.1.len
  have HM := hidden (moveok_any ao ao2 B.length cap m cap2 ⟨kd, pr, sx, nd, bd, tm⟩)
  unfold aM at HM
  rw [hok] at HM
  clear h hok
  go_enter Try.func38, Try.ntmps38
  go_wp2_with (go_at_call 75; refine (HM.out _).mono ?_; rintro e w1 ⟨rfl, hb1⟩; have bA1 := onto (show Below w.heap.size w _ from by repeat (first | exact Below.refl _ _ | assumption | refine st_drew ?_ | refine st_drewN ?_ _ | refine Below.setCell ?_ (by first | omega | (simp; done) | (simp; omega)) _ | refine Below.alloc ?_ (by first | omega | (simp; done) | (simp; omega)) _)) hb1; have z1 := hb1.size; simp only [World.size_alloc] at z1; have B1 := (Bx.start w _ _ _ _ _ _ _ _).below hb1 (by simp); have ⟨q1h0, q1h1, q1m0, q1m1, q1m2, q1m3, q1m4, q1m5, q1r0, q1r1, q1f0, q1f1, q1ty⟩ := B1)
  exact bodyPost_ret (v := .tuple #[.agg #[.slice none 0 0, .slice none 0 0], .int .i64 2]) (by simp [results, Try.results38, go_sem, q1r0, q1r1]) rfl ⟨_, _, _, _, _, _, rfl, Ans.no (by decide), by repeat (first | exact Below.refl _ _ | assumption | refine st_drew ?_ | refine st_drewN ?_ _ | refine Below.setCell ?_ (by first | omega | (simp; done) | (simp; omega)) _ | refine Below.alloc ?_ (by first | omega | (simp; done) | (simp; omega)) _)⟩

set_option maxRecDepth 20000 in
set_option maxHeartbeats 4000000 in
theorem moved_late (ao ao2 : Option Addr) (n cap m cap2 : Nat) (B : List Bd) (S : List St) (kd pr sx nd bd tm : Int) (w : World) (h : HRw w (.slice ao n cap) (.slice ao2 m cap2) B S) (hn : B.length ≤ 200) (hm : S.length ≤ 1000) (hok : mvOk B.length ⟨kd, pr, sx, nd, bd, tm⟩ = true) (hlt : late tm S = true) :
    Calls Try.prog 38 #[.agg #[.slice ao n cap, .slice ao2 m cap2], .agg #[.int .i64 kd, .int .i64 pr, .int .i64 sx, .int .i64 nd, .int .i64 bd, .int .i64 tm]] w fun e w' => ∃ b1 b2 b3 s1 s2 s3, e = .returned (.tuple #[.agg #[.slice b1 b2 b3, .slice s1 s2 s3], .int .i64 3]) ∧ Ans w.heap.size B S 3 (.slice b1 b2 b3) (.slice s1 s2 s3) w' ∧ Below w.heap.size w w' := by
  obtain rfl := h.1.len
  have HM := hidden (moveok_any ao ao2 B.length cap m cap2 ⟨kd, pr, sx, nd, bd, tm⟩)
  unfold aM at HM
  rw [hok] at HM
  have HL := hidden (fun W (hW : Below w.heap.size w W) => islate_any ao ao2 B.length cap m cap2 S tm W (h.below hW).2 (by omega))
  rw [hlt] at HL
  clear h hok hlt
  go_enter Try.func38, Try.ntmps38
  go_wp2_with (first | (go_at_call 75; refine (HM.out _).mono ?_; rintro e w1 ⟨rfl, hb1⟩; have bA1 := onto (show Below w.heap.size w _ from by repeat (first | exact Below.refl _ _ | assumption | refine st_drew ?_ | refine st_drewN ?_ _ | refine Below.setCell ?_ (by first | omega | (simp; done) | (simp; omega)) _ | refine Below.alloc ?_ (by first | omega | (simp; done) | (simp; omega)) _)) hb1; have z1 := hb1.size; simp only [World.size_alloc] at z1; have B1 := (Bx.start w _ _ _ _ _ _ _ _).below hb1 (by simp); have ⟨q1h0, q1h1, q1m0, q1m1, q1m2, q1m3, q1m4, q1m5, q1r0, q1r1, q1f0, q1f1, q1ty⟩ := B1) | (go_at_call 76; refine (HL.out _ bA1).mono ?_; rintro e w2 ⟨rfl, hb2⟩; have bA2 := onto bA1 hb2; have z2 := hb2.size; have B2 := B1.below hb2 (by omega); have ⟨q2h0, q2h1, q2m0, q2m1, q2m2, q2m3, q2m4, q2m5, q2r0, q2r1, q2f0, q2f1, q2ty⟩ := B2) | fail)
  exact bodyPost_ret (v := .tuple #[.agg #[.slice none 0 0, .slice none 0 0], .int .i64 3]) (by simp [results, Try.results38, go_sem, q2r0, q2r1]) rfl ⟨_, _, _, _, _, _, rfl, Ans.no (by decide), by repeat (first | exact Below.refl _ _ | assumption | refine st_drew ?_ | refine st_drewN ?_ _ | refine Below.setCell ?_ (by first | omega | (simp; done) | (simp; omega)) _ | refine Below.alloc ?_ (by first | omega | (simp; done) | (simp; omega)) _)⟩

set_option maxRecDepth 20000 in
set_option maxHeartbeats 4000000 in
theorem moved_there (ao ao2 : Option Addr) (n cap m cap2 : Nat) (B : List Bd) (S : List St) (pr sx nd bd tm : Int) (w : World) (h : HRw w (.slice ao n cap) (.slice ao2 m cap2) B S) (hn : B.length ≤ 200) (hm : S.length ≤ 1000) (hok : mvOk B.length ⟨1, pr, sx, nd, bd, tm⟩ = true) (hlt : late tm S = false) (k : Nat) (hpl : thereAt pr S = (k : Int)) :
    Calls Try.prog 38 #[.agg #[.slice ao n cap, .slice ao2 m cap2], .agg #[.int .i64 1, .int .i64 pr, .int .i64 sx, .int .i64 nd, .int .i64 bd, .int .i64 tm]] w fun e w' => ∃ b1 b2 b3 s1 s2 s3, e = .returned (.tuple #[.agg #[.slice b1 b2 b3, .slice s1 s2 s3], .int .i64 4]) ∧ Ans w.heap.size B S 4 (.slice b1 b2 b3) (.slice s1 s2 s3) w' ∧ Below w.heap.size w w' := by
  obtain rfl := h.1.len
  have HM := hidden (moveok_any ao ao2 B.length cap m cap2 ⟨1, pr, sx, nd, bd, tm⟩)
  unfold aM at HM
  rw [hok] at HM
  have HL := hidden (fun W (hW : Below w.heap.size w W) => islate_any ao ao2 B.length cap m cap2 S tm W (h.below hW).2 (by omega))
  rw [hlt] at HL
  have HP := hidden (fun W (hW : Below w.heap.size w W) => placeof_any ao ao2 B.length cap m cap2 S pr W (h.below hW).2 (by omega))
  rw [hpl] at HP
  clear h hok hlt hpl
  have k0 : (0 : Int) ≤ (k : Int) := by omega
  go_enter Try.func38, Try.ntmps38
  go_wp2_with (first | (go_at_call 75; refine (HM.out _).mono ?_; rintro e w1 ⟨rfl, hb1⟩; have bA1 := onto (show Below w.heap.size w _ from by repeat (first | exact Below.refl _ _ | assumption | refine st_drew ?_ | refine st_drewN ?_ _ | refine Below.setCell ?_ (by first | omega | (simp; done) | (simp; omega)) _ | refine Below.alloc ?_ (by first | omega | (simp; done) | (simp; omega)) _)) hb1; have z1 := hb1.size; simp only [World.size_alloc] at z1; have B1 := (Bx.start w _ _ _ _ _ _ _ _).below hb1 (by simp); have ⟨q1h0, q1h1, q1m0, q1m1, q1m2, q1m3, q1m4, q1m5, q1r0, q1r1, q1f0, q1f1, q1ty⟩ := B1) | (go_at_call 76; refine (HL.out _ bA1).mono ?_; rintro e w2 ⟨rfl, hb2⟩; have bA2 := onto bA1 hb2; have z2 := hb2.size; have B2 := B1.below hb2 (by omega); have ⟨q2h0, q2h1, q2m0, q2m1, q2m2, q2m3, q2m4, q2m5, q2r0, q2r1, q2f0, q2f1, q2ty⟩ := B2) | (go_at_call 77; refine (HP.out _ bA2).mono ?_; rintro e w3 ⟨rfl, hb3⟩; have bA3 := onto bA2 hb3; have z3 := hb3.size; have B3 := B2.below hb3 (by omega); have ⟨q3h0, q3h1, q3m0, q3m1, q3m2, q3m3, q3m4, q3m5, q3r0, q3r1, q3f0, q3f1, q3ty⟩ := B3) | fail)
  exact bodyPost_ret (v := .tuple #[.agg #[.slice none 0 0, .slice none 0 0], .int .i64 4]) (by simp [results, Try.results38, go_sem, q3r0, q3r1]) rfl ⟨_, _, _, _, _, _, rfl, Ans.no (by decide), by repeat (first | exact Below.refl _ _ | assumption | refine st_drew ?_ | refine st_drewN ?_ _ | refine Below.setCell ?_ (by first | omega | (simp; done) | (simp; omega)) _ | refine Below.alloc ?_ (by first | omega | (simp; done) | (simp; omega)) _)⟩

set_option maxRecDepth 20000 in
set_option maxHeartbeats 4000000 in
theorem moved_none (ao ao2 : Option Addr) (n cap m cap2 : Nat) (B : List Bd) (S : List St) (kd pr sx nd bd tm : Int) (w : World) (h : HRw w (.slice ao n cap) (.slice ao2 m cap2) B S) (hn : B.length ≤ 200) (hm : S.length ≤ 1000) (hok : mvOk B.length ⟨kd, pr, sx, nd, bd, tm⟩ = true) (hlt : late tm S = false) (hpl : thereAt pr S = -1) (hkd : (kd == 1) = false) :
    Calls Try.prog 38 #[.agg #[.slice ao n cap, .slice ao2 m cap2], .agg #[.int .i64 kd, .int .i64 pr, .int .i64 sx, .int .i64 nd, .int .i64 bd, .int .i64 tm]] w fun e w' => ∃ b1 b2 b3 s1 s2 s3, e = .returned (.tuple #[.agg #[.slice b1 b2 b3, .slice s1 s2 s3], .int .i64 5]) ∧ Ans w.heap.size B S 5 (.slice b1 b2 b3) (.slice s1 s2 s3) w' ∧ Below w.heap.size w w' := by
  obtain rfl := h.1.len
  have HM := hidden (moveok_any ao ao2 B.length cap m cap2 ⟨kd, pr, sx, nd, bd, tm⟩)
  unfold aM at HM
  rw [hok] at HM
  have HL := hidden (fun W (hW : Below w.heap.size w W) => islate_any ao ao2 B.length cap m cap2 S tm W (h.below hW).2 (by omega))
  rw [hlt] at HL
  have HP := hidden (fun W (hW : Below w.heap.size w W) => placeof_any ao ao2 B.length cap m cap2 S pr W (h.below hW).2 (by omega))
  rw [hpl] at HP
  clear h hok hlt hpl
  go_enter Try.func38, Try.ntmps38
  go_wp2_with (first | (go_at_call 75; refine (HM.out _).mono ?_; rintro e w1 ⟨rfl, hb1⟩; have bA1 := onto (show Below w.heap.size w _ from by repeat (first | exact Below.refl _ _ | assumption | refine st_drew ?_ | refine st_drewN ?_ _ | refine Below.setCell ?_ (by first | omega | (simp; done) | (simp; omega)) _ | refine Below.alloc ?_ (by first | omega | (simp; done) | (simp; omega)) _)) hb1; have z1 := hb1.size; simp only [World.size_alloc] at z1; have B1 := (Bx.start w _ _ _ _ _ _ _ _).below hb1 (by simp); have ⟨q1h0, q1h1, q1m0, q1m1, q1m2, q1m3, q1m4, q1m5, q1r0, q1r1, q1f0, q1f1, q1ty⟩ := B1) | (go_at_call 76; refine (HL.out _ bA1).mono ?_; rintro e w2 ⟨rfl, hb2⟩; have bA2 := onto bA1 hb2; have z2 := hb2.size; have B2 := B1.below hb2 (by omega); have ⟨q2h0, q2h1, q2m0, q2m1, q2m2, q2m3, q2m4, q2m5, q2r0, q2r1, q2f0, q2f1, q2ty⟩ := B2) | (go_at_call 77; refine (HP.out _ bA2).mono ?_; rintro e w3 ⟨rfl, hb3⟩; have bA3 := onto bA2 hb3; have z3 := hb3.size; have B3 := B2.below hb3 (by omega); have ⟨q3h0, q3h1, q3m0, q3m1, q3m2, q3m3, q3m4, q3m5, q3r0, q3r1, q3f0, q3f1, q3ty⟩ := B3) | fail)
  exact bodyPost_ret (v := .tuple #[.agg #[.slice none 0 0, .slice none 0 0], .int .i64 5]) (by simp [results, Try.results38, go_sem, q3r0, q3r1]) rfl ⟨_, _, _, _, _, _, rfl, Ans.no (by decide), by repeat (first | exact Below.refl _ _ | assumption | refine st_drew ?_ | refine st_drewN ?_ _ | refine Below.setCell ?_ (by first | omega | (simp; done) | (simp; omega)) _ | refine Below.alloc ?_ (by first | omega | (simp; done) | (simp; omega)) _)⟩

end Go.Proofs.Ytklgadaefngnnaa
