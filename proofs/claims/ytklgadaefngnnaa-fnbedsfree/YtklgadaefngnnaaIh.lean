/-
  What a move does, the program's: every way, and HouseDo.
-/
import Derived.Test.YtklgadaefngnnaaHj
import Derived.Test.YtklgadaefngnnaaId
import Derived.Test.YtklgadaefngnnaaIe
import Derived.Test.YtklgadaefngnnaaIf
import Derived.Test.YtklgadaefngnnaaIg
namespace Go.Proofs.Ytklgadaefngnnaa
open Go.RowKit Hm
set_option linter.unusedVariables false

theorem mv_facts {nb : Nat} {kd pr sx nd bd tm : Int} (h : mvOk nb ⟨kd, pr, sx, nd, bd, tm⟩ = true) : (1 ≤ kd ∧ kd ≤ 3) ∧ 0 ≤ tm ∧ (kd = 1 → 1 ≤ sx ∧ sx ≤ 2) ∧ (kd ≠ 3 → ∃ kb : Nat, bd = (kb : Int) ∧ kb < nb) := by
  unfold mvOk at h
  simp only [Bool.and_eq_true, Bool.or_eq_true, decide_eq_true_eq, Bool.not_eq_true', decide_eq_false_iff_not, pers_iff, tm_iff, sx_iff, kd_iff, inB_iff] at h
  obtain ⟨h1, h2, _, h3, h4, h5⟩ := h
  refine ⟨⟨h1, h2⟩, h3.1, fun q => (h4.resolve_left (fun n => n q)).1, fun q => ?_⟩
  have := h5.resolve_left q
  exact ⟨bd.toNat, by omega, by omega⟩
theorem there_facts {p : Int} {x : St} (h : thereB p x = true) : x = ⟨p, x.sex, x.need, x.bed, x.frm, -1⟩ ∧ here x = true := by
  unfold thereB at h
  rw [Bool.and_eq_true] at h
  have h2 := h.2
  unfold here at h2
  simp at h h2
  refine ⟨?_, h.2⟩
  cases x
  simp_all
theorem moveR_ne {B : List Bd} {S : List St} {m : Mv} (h : (moveR B S m).2 ≠ 0) : (moveR B S m).1 = S := by
  unfold moveR placed at *
  repeat' split
  all_goals first
    | rfl
    | (simp_all; done)
theorem moved_any (ao ao2 : Option Addr) (n cap m cap2 : Nat) (B : List Bd) (S : List St) (mv : Mv) (w : World) (h : HRw w (.slice ao n cap) (.slice ao2 m cap2) B S) (hn : B.length ≤ 200) (hm : S.length ≤ 1000) (hst : staysTo B.length S S.length) :
    Calls Try.prog 38 #[.agg #[.slice ao n cap, .slice ao2 m cap2], aM mv] w fun e w' => ∃ b1 b2 b3 s1 s2 s3, e = .returned (.tuple #[.agg #[.slice b1 b2 b3, .slice s1 s2 s3], .int .i64 (moveR B S mv).2]) ∧ Ans w.heap.size B (moveR B S mv).1 (moveR B S mv).2 (.slice b1 b2 b3) (.slice s1 s2 s3) w' ∧ Below w.heap.size w w' := by
  obtain ⟨kd, pr, sx, nd, bd, tm⟩ := mv
  unfold aM moveR
  cases hok : mvOk B.length ⟨kd, pr, sx, nd, bd, tm⟩ with
  | false => exact moved_bad ao ao2 n cap m cap2 B S kd pr sx nd bd tm w h hn hm hok
  | true =>
    obtain ⟨f1, f2, f3, f4⟩ := mv_facts hok
    have hfi := fits_of hst
    cases hlt : late tm S with
    | true => simp only [Bool.not_true, Bool.false_eq_true, ↓reduceIte]; exact moved_late ao ao2 n cap m cap2 B S kd pr sx nd bd tm w h hn hm hok hlt
    | false =>
      simp only [Bool.not_true, Bool.false_eq_true, ↓reduceIte]
      rcases thereAt_cases pr S with ⟨hpl, _⟩ | ⟨k, x, hpl, hx, hb, _⟩
      · rw [hpl, if_pos (by decide)]
        by_cases q : kd = 1
        · subst q
          obtain ⟨kb, rfl, hkb⟩ := f4 (by decide)
          rw [if_pos rfl]
          exact moved_in ao ao2 n cap m cap2 B S pr sx nd tm kb w h hn hm hok hlt hpl hfi hkb (f3 rfl).1 (f3 rfl).2
        · rw [if_neg q]
          exact moved_none ao ao2 n cap m cap2 B S kd pr sx nd bd tm w h hn hm hok hlt hpl (by simpa using q)
      · rw [hpl, if_neg (by omega)]
        by_cases q : kd = 1
        · subst q
          rw [if_pos rfl]
          exact moved_there ao ao2 n cap m cap2 B S pr sx nd bd tm w h hn hm hok hlt k hpl
        · rw [if_neg q]
          by_cases q3 : kd = 3
          · subst q3
            rw [if_pos rfl]
            exact moved_out ao ao2 n cap m cap2 B S pr sx nd bd tm w h hn hm hok hlt k hpl x hx
          · rw [if_neg q3]
            have q2 : kd = 2 := by omega
            subst q2
            obtain ⟨kb, rfl, hkb⟩ := f4 (by decide)
            have hsx := (hfi x (List.mem_of_getElem? hx) (there_facts hb).2).2
            have e : S.getD (k : Int).toNat default = x := by rw [Int.toNat_natCast, List.getD_eq_getElem?_getD, hx]; rfl
            unfold nextStay
            rw [e, Int.toNat_natCast]
            rw [(there_facts hb).1] at hx
            exact moved_to ao ao2 n cap m cap2 B S pr sx nd tm kb w h hn hm hok hlt k hpl x.sex x.need x.bed x.frm hx hfi hkb f2 hsx.1 hsx.2

set_option maxRecDepth 20000 in
set_option maxHeartbeats 4000000 in
theorem ido_any (ao ao2 : Option Addr) (n cap m cap2 : Nat) (B : List Bd) (S : List St) (mv : Mv) (w : World) (h : HRw w (.slice ao n cap) (.slice ao2 m cap2) B S) :
    Calls Try.prog 10 #[.agg #[.slice ao n cap, .slice ao2 m cap2], aM mv] w fun e w' => ∃ b1 b2 b3 s1 s2 s3, e = .returned (.tuple #[.agg #[.slice b1 b2 b3, .slice s1 s2 s3], .int .i64 (doC B S mv)]) ∧ HNew w' w.heap.size (.slice b1 b2 b3) (.slice s1 s2 s3) (doB B S) (doS B S mv) ∧ Below w.heap.size w w' := by
  have HO := hidden (fun W (hW : Below w.heap.size w W) => iok_any ao ao2 n cap m cap2 B S W (h.below hW))
  cases hk : okB B S with
  | false =>
    have E1 : Hid (doC B S mv = 1) := by unfold doC; rw [Hid, hk]; rfl
    have E2 : Hid (doB B S = []) := by unfold doB; rw [Hid, hk]; rfl
    have E3 : Hid (doS B S mv = []) := by unfold doS; rw [Hid, hk]; rfl
    rw [E1.out, E2.out, E3.out]
    rw [hk] at HO
    unfold aM
    clear h hk
    go_enter Try.func10, Try.ntmps10
    go_wp2_with (go_at_call 14; refine (HO.out _ (by repeat (first | exact Below.refl _ _ | assumption | refine st_drew ?_ | refine st_drewN ?_ _ | refine Below.setCell ?_ (by first | omega | (simp; done) | (simp; omega)) _ | refine Below.alloc ?_ (by first | omega | (simp; done) | (simp; omega)) _))).mono ?_; rintro e w1 ⟨rfl, hb1⟩; have bA1 := onto (show Below w.heap.size w _ from by repeat (first | exact Below.refl _ _ | assumption | refine st_drew ?_ | refine st_drewN ?_ _ | refine Below.setCell ?_ (by first | omega | (simp; done) | (simp; omega)) _ | refine Below.alloc ?_ (by first | omega | (simp; done) | (simp; omega)) _)) hb1; have z1 := hb1.size; simp only [World.size_alloc] at z1; have B1 := (Bx.start w _ _ _ _ _ _ _ _).below hb1 (by simp); have ⟨qh0, qh1, qm0, qm1, qm2, qm3, qm4, qm5, qr0, qr1, qf0, qf1, qty⟩ := B1)
    exact bodyPost_ret (v := .tuple #[.agg #[.slice none 0 0, .slice none 0 0], .int .i64 1]) (by simp [results, Try.results10, go_sem, qr0, qr1]) rfl ⟨_, _, _, _, _, _, rfl, ⟨⟨rfl, Or.inl ⟨rfl, rfl⟩⟩, ⟨rfl, Or.inl ⟨rfl, rfl⟩⟩⟩, by repeat (first | exact Below.refl _ _ | assumption | refine st_drew ?_ | refine st_drewN ?_ _ | refine Below.setCell ?_ (by first | omega | (simp; done) | (simp; omega)) _ | refine Below.alloc ?_ (by first | omega | (simp; done) | (simp; omega)) _)⟩
  | true =>
    obtain ⟨o1, o2, _, o3, _⟩ := ok_of hk
    have E1 : Hid (doC B S mv = (moveR B S mv).2) := by unfold doC; rw [Hid, hk]; rfl
    have E2 : Hid (doB B S = B) := by unfold doB; rw [Hid, hk]; rfl
    have E3 : Hid (doS B S mv = (moveR B S mv).1) := by unfold doS; rw [Hid, hk]; rfl
    have HV := hidden (fun W (hW : Below w.heap.size w W) => moved_any ao ao2 n cap m cap2 B S mv W (h.below hW) o1 o2 o3)
    have HA := hidden (fun W (hW : Below w.heap.size w W) => anew_any ao ao2 n cap m cap2 B S W (h.below hW) (by omega) (by omega))
    rw [E1.out, E2.out, E3.out]
    rw [hk] at HO
    unfold aM at *
    have HNE := hidden (moveR_ne (B := B) (S := S) (m := mv))
    clear h hk E1 E2 E3 o1 o2 o3
    by_cases hc : (moveR B S mv).2 = 0
    · rw [hc] at HV ⊢
      clear HNE hc HA
      generalize (moveR B S mv).1 = R at *
      go_enter Try.func10, Try.ntmps10
      go_wp2_with (first | (go_at_call 14; refine (HO.out _ (by repeat (first | exact Below.refl _ _ | assumption | refine st_drew ?_ | refine st_drewN ?_ _ | refine Below.setCell ?_ (by first | omega | (simp; done) | (simp; omega)) _ | refine Below.alloc ?_ (by first | omega | (simp; done) | (simp; omega)) _))).mono ?_; rintro e w1 ⟨rfl, hb1⟩; have bA1 := onto (show Below w.heap.size w _ from by repeat (first | exact Below.refl _ _ | assumption | refine st_drew ?_ | refine st_drewN ?_ _ | refine Below.setCell ?_ (by first | omega | (simp; done) | (simp; omega)) _ | refine Below.alloc ?_ (by first | omega | (simp; done) | (simp; omega)) _)) hb1; have z1 := hb1.size; simp only [World.size_alloc] at z1; have B1 := (Bx.start w _ _ _ _ _ _ _ _).below hb1 (by simp); have ⟨q1h0, q1h1, q1m0, q1m1, q1m2, q1m3, q1m4, q1m5, q1r0, q1r1, q1f0, q1f1, q1ty⟩ := B1) | fail)
      refine (HV.out _ bA1).mono ?_
      rintro e w2 ⟨b1, b2, b3, s1, s2, s3, rfl, hA2, hb2⟩
      have bA2 := onto bA1 hb2
      have z2 := hb2.size
      have B2 := B1.below hb2 (by omega)
      have b3x : Below w2.heap.size w2 (w2.alloc (.cells #[.slice b1 b2 b3, .slice s1 s2 s3] 27)) := (Below.refl _ _).alloc (Nat.le_refl _) _
      have bA3 := onto bA2 b3x
      have B3 := B2.below b3x (by omega)
      have hA3 := hA2.below b3x
      have x0 : (w2.alloc (.cells #[.slice b1 b2 b3, .slice s1 s2 s3] 27)).cell? ⟨w2.heap.size, 0, none⟩ = some (.slice b1 b2 b3) := by simp [go_sem]
      have x1 : (w2.alloc (.cells #[.slice b1 b2 b3, .slice s1 s2 s3] 27)).cell? ⟨w2.heap.size, 1, none⟩ = some (.slice s1 s2 s3) := by simp [go_sem]
      have zx : w2.heap.size < (w2.alloc (.cells #[.slice b1 b2 b3, .slice s1 s2 s3] 27)).heap.size := by simp
      clear b3x
      generalize hWX : (w2.alloc (.cells #[.slice b1 b2 b3, .slice s1 s2 s3] 27)) = WX at *
      have ⟨q3h0, q3h1, q3m0, q3m1, q3m2, q3m3, q3m4, q3m5, q3r0, q3r1, q3f0, q3f1, q3ty⟩ := B3
      go_wp2_with fail
      exact bodyPost_ret (v := .tuple #[.agg #[.slice b1 b2 b3, .slice s1 s2 s3], .int .i64 0]) (by simp [results, Try.results10, go_sem, q3r0, q3r1]) rfl ⟨_, _, _, _, _, _, rfl, (((hA3.1 rfl).2.base_le (by omega)).ty q3ty (by decide) (by decide) _).ty (q3ty.setCell _ _) (by decide) (by decide) _, (bA3.setCell (p := ⟨w.heap.size + 1 + 1, 0, none⟩) (by show w.heap.size ≤ w.heap.size + 1 + 1; omega) _).setCell (p := ⟨w.heap.size + 1 + 1, 1, none⟩) (by show w.heap.size ≤ w.heap.size + 1 + 1; omega) _⟩
    · rw [HNE.out hc]
      have hc2 : ((moveR B S mv).2 == 0) = false := by simpa using hc
      clear HNE hc
      generalize (moveR B S mv).2 = c at *
      generalize (moveR B S mv).1 = R at *
      go_enter Try.func10, Try.ntmps10
      go_wp2_with (first | (go_at_call 14; refine (HO.out _ (by repeat (first | exact Below.refl _ _ | assumption | refine st_drew ?_ | refine st_drewN ?_ _ | refine Below.setCell ?_ (by first | omega | (simp; done) | (simp; omega)) _ | refine Below.alloc ?_ (by first | omega | (simp; done) | (simp; omega)) _))).mono ?_; rintro e w1 ⟨rfl, hb1⟩; have bA1 := onto (show Below w.heap.size w _ from by repeat (first | exact Below.refl _ _ | assumption | refine st_drew ?_ | refine st_drewN ?_ _ | refine Below.setCell ?_ (by first | omega | (simp; done) | (simp; omega)) _ | refine Below.alloc ?_ (by first | omega | (simp; done) | (simp; omega)) _)) hb1; have z1 := hb1.size; simp only [World.size_alloc] at z1; have B1 := (Bx.start w _ _ _ _ _ _ _ _).below hb1 (by simp); have ⟨q1h0, q1h1, q1m0, q1m1, q1m2, q1m3, q1m4, q1m5, q1r0, q1r1, q1f0, q1f1, q1ty⟩ := B1) | fail)
      refine (HV.out _ bA1).mono ?_
      rintro e w2 ⟨b1, b2, b3, s1, s2, s3, rfl, hA2, hb2⟩
      have bA2 := onto bA1 hb2
      have z2 := hb2.size
      have B2 := B1.below hb2 (by omega)
      have b3x : Below w2.heap.size w2 (w2.alloc (.cells #[.slice b1 b2 b3, .slice s1 s2 s3] 27)) := (Below.refl _ _).alloc (Nat.le_refl _) _
      have bA3 := onto bA2 b3x
      have B3 := B2.below b3x (by omega)
      have hA3 := hA2.below b3x
      have x0 : (w2.alloc (.cells #[.slice b1 b2 b3, .slice s1 s2 s3] 27)).cell? ⟨w2.heap.size, 0, none⟩ = some (.slice b1 b2 b3) := by simp [go_sem]
      have x1 : (w2.alloc (.cells #[.slice b1 b2 b3, .slice s1 s2 s3] 27)).cell? ⟨w2.heap.size, 1, none⟩ = some (.slice s1 s2 s3) := by simp [go_sem]
      have zx : w2.heap.size < (w2.alloc (.cells #[.slice b1 b2 b3, .slice s1 s2 s3] 27)).heap.size := by simp
      clear b3x
      generalize hWX : (w2.alloc (.cells #[.slice b1 b2 b3, .slice s1 s2 s3] 27)) = WX at *
      have ⟨q3h0, q3h1, q3m0, q3m1, q3m2, q3m3, q3m4, q3m5, q3r0, q3r1, q3f0, q3f1, q3ty⟩ := B3
      go_wp2_with (first | (go_at_call 39; refine (HA.out _ bA3).mono ?_; rintro e w4 ⟨a1, c1, a2, c2, rfl, hN4, hb4⟩; have bA4 := onto bA3 hb4; have B4 := B3.below hb4 (by omega); have ⟨q4h0, q4h1, q4m0, q4m1, q4m2, q4m3, q4m4, q4m5, q4r0, q4r1, q4f0, q4f1, q4ty⟩ := B4) | fail)
      exact bodyPost_ret (v := .tuple #[.agg #[.slice a1 B.length c1, .slice a2 S.length c2], .int .i64 c]) (by simp [results, Try.results10, go_sem, q4r0, q4r1]) rfl ⟨_, _, _, _, _, _, rfl, ((hN4.base_le (by omega)).ty q4ty (by decide) (by decide) _).ty (q4ty.setCell _ _) (by decide) (by decide) _, (bA4.setCell (p := ⟨w.heap.size + 1 + 1, 0, none⟩) (by show w.heap.size ≤ w.heap.size + 1 + 1; omega) _).setCell (p := ⟨w.heap.size + 1 + 1, 1, none⟩) (by show w.heap.size ≤ w.heap.size + 1 + 1; omega) _⟩

end Go.Proofs.Ytklgadaefngnnaa
