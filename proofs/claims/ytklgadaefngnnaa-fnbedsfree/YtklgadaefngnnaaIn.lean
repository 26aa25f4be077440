/-
  What a move does, the specification's: every way, and HouseDo.
-/
import Derived.Test.YtklgadaefngnnaaIk
import Derived.Test.YtklgadaefngnnaaIl
import Derived.Test.YtklgadaefngnnaaIm
namespace Go.Proofs.Ytklgadaefngnnaa
open Go.RowKit Hm
set_option linter.unusedVariables false

theorem l3do_any (ao ao2 : Option Addr) (n cap m cap2 : Nat) (B : List Bd) (S : List St) (mv : Mv) (w : World) (h : HRw w (.slice ao n cap) (.slice ao2 m cap2) B S) (hn : B.length ≤ 200) (hm : S.length ≤ 1000) (hst : staysTo B.length S S.length) :
    Calls Try.prog 40 #[.agg #[.slice ao n cap, .slice ao2 m cap2], aM mv] w fun e w' => ∃ b1 b2 b3 s1 s2 s3, e = .returned (.tuple #[.agg #[.slice b1 b2 b3, .slice s1 s2 s3], .int .i64 (moveR B S mv).2]) ∧ HNew w' w.heap.size (.slice b1 b2 b3) (.slice s1 s2 s3) B (moveR B S mv).1 ∧ Below w.heap.size w w' := by
  obtain rfl := h.1.len
  obtain rfl := h.2.len
  obtain ⟨kd, pr, sx, nd, bd, tm⟩ := mv
  unfold aM moveR
  cases hok : mvOk B.length ⟨kd, pr, sx, nd, bd, tm⟩ with
  | false => exact sdo_bad ao ao2 cap cap2 B S kd pr sx nd bd tm w h hn hm hok
  | true =>
    obtain ⟨f1, f2, f3, f4⟩ := mv_facts hok
    have hfi := fits_of hst
    cases hlt : late tm S with
    | true => simp only [Bool.not_true, Bool.false_eq_true, ↓reduceIte]; exact sdo_late ao ao2 cap cap2 B S kd pr sx nd bd tm w h hn hm hok hlt
    | false =>
      simp only [Bool.not_true, Bool.false_eq_true, ↓reduceIte]
      rcases thereAt_cases pr S with ⟨hpl, _⟩ | ⟨k, x, hpl, hx, hb, _⟩
      · rw [hpl, if_pos (by decide)]
        by_cases q : kd = 1
        · subst q
          obtain ⟨kb, rfl, hkb⟩ := f4 (by decide)
          rw [if_pos rfl]
          exact sdo_in ao ao2 cap cap2 B S pr sx nd tm kb w h hn hm hok hlt hpl hfi hkb
        · rw [if_neg q]
          by_cases q3 : kd = 3
          · subst q3
            exact sdo_none3 ao ao2 cap cap2 B S pr sx nd bd tm w h hn hm hok hlt hpl
          · have q2 : kd = 2 := by omega
            subst q2
            exact sdo_none2 ao ao2 cap cap2 B S pr sx nd bd tm w h hn hm hok hlt hpl
      · rw [hpl, if_neg (by omega)]
        by_cases q : kd = 1
        · subst q
          rw [if_pos rfl]
          exact sdo_there ao ao2 cap cap2 B S pr sx nd bd tm w h hn hm hok hlt k hpl
        · rw [if_neg q]
          by_cases q3 : kd = 3
          · subst q3
            rw [if_pos rfl]
            exact sdo_out ao ao2 cap cap2 B S pr sx nd bd tm w h hn hm hok hlt k hpl x.person x.sex x.need x.bed x.frm x.til hx
          · rw [if_neg q3]
            have q2 : kd = 2 := by omega
            subst q2
            obtain ⟨kb, rfl, hkb⟩ := f4 (by decide)
            have e : S.getD (k : Int).toNat default = x := by rw [Int.toNat_natCast, List.getD_eq_getElem?_getD, hx]; rfl
            unfold nextStay
            rw [e, Int.toNat_natCast]
            rw [(there_facts hb).1] at hx
            exact sdo_to ao ao2 cap cap2 B S pr sx nd tm kb w h hn hm hok hlt k hpl x.sex x.need x.bed x.frm hx hfi hkb f2

set_option maxRecDepth 20000 in
set_option maxHeartbeats 4000000 in
theorem sdo_any (ao ao2 : Option Addr) (n cap m cap2 : Nat) (B : List Bd) (S : List St) (mv : Mv) (w : World) (h : HRw w (.slice ao n cap) (.slice ao2 m cap2) B S)
    (hOK0 : ∀ W, HRw W (.slice ao n cap) (.slice ao2 m cap2) B S → Calls Try.prog 13 #[.agg #[.slice ao n cap, .slice ao2 m cap2]] W fun e w' => e = .returned (.bool (okB B S)) ∧ Below W.heap.size W w') :
    Calls Try.prog 11 #[.agg #[.slice ao n cap, .slice ao2 m cap2], aM mv] w fun e w' => ∃ b1 b2 b3 s1 s2 s3, e = .returned (.tuple #[.agg #[.slice b1 b2 b3, .slice s1 s2 s3], .int .i64 (doC B S mv)]) ∧ HNew w' w.heap.size (.slice b1 b2 b3) (.slice s1 s2 s3) (doB B S) (doS B S mv) ∧ Below w.heap.size w w' := by
  have HO := hidden (fun W (hW : Below w.heap.size w W) => hOK0 W (h.below hW))
  clear hOK0
  cases hk : okB B S with
  | false =>
    have E1 : Hid (doC B S mv = 1) := by unfold doC; rw [Hid, hk]; rfl
    have E2 : Hid (doB B S = []) := by unfold doB; rw [Hid, hk]; rfl
    have E3 : Hid (doS B S mv = []) := by unfold doS; rw [Hid, hk]; rfl
    rw [E1.out, E2.out, E3.out]
    rw [hk] at HO
    unfold aM
    clear h hk
    go_enter Try.func11, Try.ntmps11
    go_wp2_with (go_at_call 13; refine (HO.out _ (by repeat (first | exact Below.refl _ _ | assumption | refine st_drew ?_ | refine st_drewN ?_ _ | refine Below.setCell ?_ (by first | omega | (simp; done) | (simp; omega)) _ | refine Below.alloc ?_ (by first | omega | (simp; done) | (simp; omega)) _))).mono ?_; rintro e w1 ⟨rfl, hb1⟩; have bA1 := onto (show Below w.heap.size w _ from by repeat (first | exact Below.refl _ _ | assumption | refine st_drew ?_ | refine st_drewN ?_ _ | refine Below.setCell ?_ (by first | omega | (simp; done) | (simp; omega)) _ | refine Below.alloc ?_ (by first | omega | (simp; done) | (simp; omega)) _)) hb1; have z1 := hb1.size; simp only [World.size_alloc] at z1; have B1 := (Bx.start w _ _ _ _ _ _ _ _).below hb1 (by simp); have ⟨qh0, qh1, qm0, qm1, qm2, qm3, qm4, qm5, qr0, qr1, qf0, qf1, qty⟩ := B1)
    exact bodyPost_ret (v := .tuple #[.agg #[.slice none 0 0, .slice none 0 0], .int .i64 1]) (by simp [results, Try.results11, go_sem, qr0, qr1]) rfl ⟨_, _, _, _, _, _, rfl, ⟨⟨rfl, Or.inl ⟨rfl, rfl⟩⟩, ⟨rfl, Or.inl ⟨rfl, rfl⟩⟩⟩, by repeat (first | exact Below.refl _ _ | assumption | refine st_drew ?_ | refine st_drewN ?_ _ | refine Below.setCell ?_ (by first | omega | (simp; done) | (simp; omega)) _ | refine Below.alloc ?_ (by first | omega | (simp; done) | (simp; omega)) _)⟩
  | true =>
    obtain ⟨o1, o2, _, o3, _⟩ := ok_of hk
    have E1 : Hid (doC B S mv = (moveR B S mv).2) := by unfold doC; rw [Hid, hk]; rfl
    have E2 : Hid (doB B S = B) := by unfold doB; rw [Hid, hk]; rfl
    have E3 : Hid (doS B S mv = (moveR B S mv).1) := by unfold doS; rw [Hid, hk]; rfl
    have HV := hidden (fun W (hW : Below w.heap.size w W) => l3do_any ao ao2 n cap m cap2 B S mv W (h.below hW) o1 o2 o3)
    rw [E1.out, E2.out, E3.out]
    rw [hk] at HO
    unfold aM at *
    clear h hk E1 E2 E3 o1 o2 o3
    generalize (moveR B S mv).2 = c at *
    generalize (moveR B S mv).1 = R at *
    go_enter Try.func11, Try.ntmps11
    go_wp2_with (first | (go_at_call 13; refine (HO.out _ (by repeat (first | exact Below.refl _ _ | assumption | refine st_drew ?_ | refine st_drewN ?_ _ | refine Below.setCell ?_ (by first | omega | (simp; done) | (simp; omega)) _ | refine Below.alloc ?_ (by first | omega | (simp; done) | (simp; omega)) _))).mono ?_; rintro e w1 ⟨rfl, hb1⟩; have bA1 := onto (show Below w.heap.size w _ from by repeat (first | exact Below.refl _ _ | assumption | refine st_drew ?_ | refine st_drewN ?_ _ | refine Below.setCell ?_ (by first | omega | (simp; done) | (simp; omega)) _ | refine Below.alloc ?_ (by first | omega | (simp; done) | (simp; omega)) _)) hb1; have z1 := hb1.size; simp only [World.size_alloc] at z1; have B1 := (Bx.start w _ _ _ _ _ _ _ _).below hb1 (by simp); have ⟨qh0, qh1, qm0, qm1, qm2, qm3, qm4, qm5, qr0, qr1, qf0, qf1, qty⟩ := B1) | (go_at_call 40; refine (HV.out _ bA1).mono ?_; rintro e w2 ⟨b1, b2, b3, s1, s2, s3, rfl, hN2, hb2⟩; have bA2 := onto bA1 hb2; have B2 := B1.below hb2 (by omega); have ⟨ph0, ph1, pm0, pm1, pm2, pm3, pm4, pm5, pr0, pr1, pf0, pf1, pty⟩ := B2) | fail)
    exact bodyPost_ret (v := .tuple #[.agg #[.slice b1 b2 b3, .slice s1 s2 s3], .int .i64 c]) (by simp [results, Try.results11, go_sem, pr0, pr1]) rfl ⟨_, _, _, _, _, _, rfl, ((hN2.base_le (by omega)).ty pty (by decide) (by decide) _).ty (pty.setCell _ _) (by decide) (by decide) _, (bA2.setCell (p := ⟨w.heap.size + 1 + 1, 0, none⟩) (by show w.heap.size ≤ w.heap.size + 1 + 1; omega) _).setCell (p := ⟨w.heap.size + 1 + 1, 1, none⟩) (by show w.heap.size ≤ w.heap.size + 1 + 1; omega) _⟩

end Go.Proofs.Ytklgadaefngnnaa
