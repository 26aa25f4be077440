/-
  HouseOk, the program's.
-/
import Derived.Test.YtklgadaefngnnaaHf
import Derived.Test.YtklgadaefngnnaaHi
namespace Go.Proofs.Ytklgadaefngnnaa
open Go.RowKit Hm
set_option linter.unusedVariables false

set_option maxRecDepth 20000 in
set_option maxHeartbeats 2000000 in
theorem iok_any (ao ao2 : Option Addr) (n cap m cap2 : Nat) (B : List Bd) (S : List St) (w : World) (h : HRw w (.slice ao n cap) (.slice ao2 m cap2) B S) :
    Calls Try.prog 14 #[.agg #[.slice ao n cap, .slice ao2 m cap2]] w fun e w' => e = .returned (.bool (okB B S)) ∧ Below w.heap.size w w' := by
  have HH := hidden h
  obtain ⟨hB, hS⟩ := h
  obtain rfl := hB.len
  obtain rfl := hS.len
  clear hB hS
  by_cases h200 : (200 : Int) < (B.length : Int)
  · have hno : Hid (okB B S = false) := okB_false fun q => by have := q.1; omega
    go_enter Try.func14, Try.ntmps14
    go_wp2_with fail
    go_ret
    exact ⟨by rw [hno.out]; rfl, by repeat (first | exact Below.refl _ _ | assumption | refine st_drew ?_ | refine st_drewN ?_ _ | refine Below.setCell ?_ (by first | omega | (simp; done) | (simp; omega)) _ | refine Below.alloc ?_ (by first | omega | (simp; done) | (simp; omega)) _)⟩
  by_cases h1000 : (1000 : Int) < (S.length : Int)
  · have hno : Hid (okB B S = false) := okB_false fun q => by have := q.2.1; omega
    go_enter Try.func14, Try.ntmps14
    go_wp2_with fail
    go_ret
    exact ⟨by rw [hno.out]; rfl, by repeat (first | exact Below.refl _ _ | assumption | refine st_drew ?_ | refine st_drewN ?_ _ | refine Below.setCell ?_ (by first | omega | (simp; done) | (simp; omega)) _ | refine Below.alloc ?_ (by first | omega | (simp; done) | (simp; omega)) _)⟩
  have h1 := hidden (fun W (hW : Below w.heap.size w W) => ibeds_any ao B.length cap B W (HH.out.below hW).1 (by omega))
  have h2 := hidden (fun W (hW : Below w.heap.size w W) => istays_any ao ao2 B.length cap S.length cap2 S W (HH.out.below hW).2 (by omega))
  have h3 := hidden (fun (hq : staysTo B.length S S.length) W (hW : Below w.heap.size w W) => irules_any ao ao2 B.length cap S.length cap2 B S W (HH.out.below hW) (by omega) (by omega) hq)
  have hb0 : Below w.heap.size w (w.alloc (.cells #[.slice ao B.length cap, .slice ao2 S.length cap2] 27)) := (Below.refl _ _).alloc (Nat.le_refl _) _
  rcases Classical.em (bedsTo B B.length) with p1 | p1
  · rw [pB_true p1] at h1
    rcases Classical.em (staysTo B.length S S.length) with p2 | p2
    · rw [pB_true p2] at h2
      have h3 := hidden (h3.out p2)
      have HQ : Hid (okB B S = pB (rulesTo B S S.length)) := by
        rcases Classical.em (rulesTo B S S.length) with p3 | p3
        · rw [Hid, pB_true p3, okB_true ⟨by omega, by omega, p1, p2, p3⟩]
        · rw [Hid, pB_false p3, okB_false (fun q => p3 q.2.2.2.2)]
      clear p1 p2
      generalize pB (rulesTo B S S.length) = t at *
      go_enter Try.func14, Try.ntmps14
      go_wp2_with (first | (go_at_call 46; refine (h1.out _ hb0).mono ?_; rintro e w1 ⟨rfl, hb1⟩; have b1 := onto hb0 hb1; obtain ⟨hc1, hf1⟩ := bcell hb1; have z1 := hb1.size; simp only [World.size_alloc] at z1; have z1' : w.heap.size < w1.heap.size := by omega) | (go_at_call 47; refine (h2.out _ b1).mono ?_; rintro e w2 ⟨rfl, hb2⟩; have b2 := onto b1 hb2; obtain ⟨hc2, hf2⟩ := bcell hb2) | (go_at_call 48; refine (h3.out _ b2).mono ?_; rintro e w3 ⟨rfl, hb3⟩; have b3 := onto b2 hb3))
      all_goals go_ret
      all_goals exact ⟨ret_bool (by first | (rw [HQ.out]; done) | (rw [HQ.out]; simp_all; done)), by assumption⟩
    · rw [pB_false p2] at h2
      have HQ : Hid (okB B S = false) := okB_false (fun q => p2 q.2.2.2.1)
      clear p1 p2 h3
      go_enter Try.func14, Try.ntmps14
      go_wp2_with (first | (go_at_call 46; refine (h1.out _ hb0).mono ?_; rintro e w1 ⟨rfl, hb1⟩; have b1 := onto hb0 hb1; obtain ⟨hc1, hf1⟩ := bcell hb1; have z1 := hb1.size; simp only [World.size_alloc] at z1; have z1' : w.heap.size < w1.heap.size := by omega) | (go_at_call 47; refine (h2.out _ b1).mono ?_; rintro e w2 ⟨rfl, hb2⟩; have b2 := onto b1 hb2; obtain ⟨hc2, hf2⟩ := bcell hb2))
      all_goals go_ret
      all_goals exact ⟨ret_bool (by rw [HQ.out]), by assumption⟩
  · rw [pB_false p1] at h1
    have HQ : Hid (okB B S = false) := okB_false (fun q => p1 q.2.2.1)
    clear p1 h3 h2
    go_enter Try.func14, Try.ntmps14
    go_wp2_with (go_at_call 46; refine (h1.out _ hb0).mono ?_; rintro e w1 ⟨rfl, hb1⟩; have b1 := onto hb0 hb1)
    all_goals go_ret
    all_goals exact ⟨ret_bool (by rw [HQ.out]), by assumption⟩

end Go.Proofs.Ytklgadaefngnnaa
