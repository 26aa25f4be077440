/-
  Reflexes: the program's, at every input.
-/
import Derived.Test.YtldggndhdilncaaT53
namespace Go.Proofs.Ytldggndhdilncaa
open Go.RowKit Go.Shelf Go.Maps Va Lb
set_option linter.all false

set_option maxRecDepth 20000 in
set_option maxHeartbeats 4000000 in
theorem ireflexes_any (ao : Option Addr) (n cap : Nat) (rs : List Rx) (av : Option Addr) (nv cv : Nat) (vs : List Vl) (aa : Option Addr) (na ca : Nat) (qs : List Int) (w : World)
    (h : VRw 4 cvRx w (.slice ao n cap) rs) (hv : VRw 2 cvVl w (.slice av nv cv) vs) (ha : VRw 1 cvI w (.slice aa na ca) qs) (hn : rs.length ≤ 1048576) (hnv : vs.length ≤ 1048576) (hna : qs.length ≤ 1048576) (hr : ∀ x ∈ vs, InR x.te ∧ InR x.v) :
    Calls Try.prog 6 #[.slice ao n cap, .slice av nv cv, .slice aa na ca] w fun e w' => ∃ v', e = .returned v' ∧ VOwn 1 cvI w' w.heap.size v' (reflexes rs vs qs) ∧ Below w.heap.size w w' := by
  obtain rfl := h.len
  obtain rfl := hv.len
  obtain rfl := ha.len
  by_cases hG : RfOk rs vs qs
  · have e : reflexes rs vs qs = growR rs vs 100 (onceL qs) := by unfold reflexes; rw [if_pos hG]
    rw [e]
    refine (callsIn_wide (n := 4)).1 (irf_in Fence.wide 4 (fun _ => trivial) rfl (by omega) ao cap rs av cv vs aa ca qs w h hv ha hG (fun W hW => callsIn_wide.2 ?_) (fun W hW => callsIn_wide.2 ?_) (fun W hW => callsIn_wide.2 ?_) (fun W b D hW hb hm hD => callsIn_wide.2 ?_) (fun b2 ar cr us A ST W hl hR hS => callsIn_wide.2 ?_))
    · refine (ifound_any av vs.length cv vs W hW hnv hr).mono ?_
      rintro e w' ⟨rfl, h1, h2, h3⟩
      exact ⟨by rw [decide_eq_true hG.2.1], h1 hG.2.1, h2, h3⟩
    · refine (irules_any ao rs.length cap rs W hW hn).mono ?_
      rintro e w' ⟨rfl, h1⟩
      exact ⟨by rw [decide_eq_true hG.1], h1⟩
    · refine (iasked_any aa qs.length ca qs W hW hna).mono ?_
      rintro e w' ⟨rfl, rfl⟩
      exact ⟨by rw [decide_eq_true hG.2.2], Below.refl _ _⟩
    · refine (irr_any ao rs.length cap rs vs b 100 D W hW hG.1 hb hm hD).mono ?_
      rintro e w' ⟨v, us, rfl, h1, h2, h3⟩
      obtain ⟨ar, cr, rfl⟩ := ownW_slice h1.1
      exact ⟨ar, cr, us, rfl, h1, h2, h3⟩
    · exact ifirst_any ar us.length cr A us ST W hR.at hS.at hl
  · have HE := hidden (rf_none hG)
    have bA : Below w.heap.size w ((w.alloc (.cells #[] 2)).alloc (.cells #[.slice (some ⟨w.heap.size, 0, none⟩) 0 0] 26)) := by repeat (first | exact Below.refl _ _ | assumption | refine st_drew ?_ | refine st_drewN ?_ _ | refine Below.setCell ?_ (by first | omega | (simp; done) | (simp; omega)) _ | refine Below.alloc ?_ (by first | omega | (simp; done) | (simp; omega)) _)
    have P7 : PB ((w.alloc (.cells #[] 2)).alloc (.cells #[.slice (some ⟨w.heap.size, 0, none⟩) 0 0] 26)) (w.heap.size + 1) #[.slice (some ⟨w.heap.size, 0, none⟩) 0 0] 26 := by
      have := PB.new (w.alloc (.cells #[] 2)) #[.slice (some ⟨w.heap.size, 0, none⟩) 0 0] 26
      rw [World.size_alloc] at this; exact this
    have hK1 := ifound_any av vs.length cv vs _ (hv.below bA) hnv hr
    have hK2 := fun W hW => irules_any ao rs.length cap rs W hW hn
    have hK3 := fun W hW => iasked_any aa qs.length ca qs W hW hna
    have HH := hidden (And.intro h ha)
    have HP := hidden (And.intro P7 bA)
    clear h hv ha bA P7
    by_cases g1 : VlOk vs
    · rw [decide_eq_true g1] at hK1
      by_cases g2 : RxOk rs
      · rw [decide_eq_true g2] at hK2
        have g3 : ¬ AkOk qs := fun g3 => hG ⟨g2, g1, g3⟩
        rw [decide_eq_false g3] at hK3
        clear g1 g2 g3 hG
        go_enter Try.func6, Try.ntmps6
        go_wp2_with fail
        refine hK1.mono ?_
        rintro e w1 ⟨rfl, -, -, hb1⟩
        have b1 := onto HP.out.2 hb1
        have HP1 := hidden (HP.out.1.below hb1)
        clear hb1
        go_wp2_with fail
        refine (hK2 w1 (HH.out.1.below b1)).mono ?_
        rintro e w2 ⟨rfl, hb2⟩
        have b2 := onto b1 hb2
        have c7 := (HP1.out.below hb2).cell 0
        clear hb2
        go_wp2_with fail
        refine (hK3 w2 (HH.out.2.below b2)).mono ?_
        rintro e w3 ⟨rfl, rfl⟩
        go_wp2_with fail
        go_ret
        rw [HE.out]
        exact ⟨_, rfl, VOwn.nil _ _ _ _, b2⟩
      · rw [decide_eq_false g2] at hK2
        clear g1 g2 hG hK3
        go_enter Try.func6, Try.ntmps6
        go_wp2_with fail
        refine hK1.mono ?_
        rintro e w1 ⟨rfl, -, -, hb1⟩
        have b1 := onto HP.out.2 hb1
        have HP1 := hidden (HP.out.1.below hb1)
        clear hb1
        go_wp2_with fail
        refine (hK2 w1 (HH.out.1.below b1)).mono ?_
        rintro e w2 ⟨rfl, hb2⟩
        have b2 := onto b1 hb2
        have c7 := (HP1.out.below hb2).cell 0
        clear hb2
        go_wp2_with fail
        go_ret
        rw [HE.out]
        exact ⟨_, rfl, VOwn.nil _ _ _ _, b2⟩
    · rw [decide_eq_false g1] at hK1
      clear g1 hG hK2 hK3
      go_enter Try.func6, Try.ntmps6
      go_wp2_with fail
      refine hK1.mono ?_
      rintro e w1 ⟨rfl, -, -, hb1⟩
      have b1 := onto HP.out.2 hb1
      have c7 := (HP.out.1.below hb1).cell 0
      clear hb1
      go_wp2_with fail
      go_ret
      rw [HE.out]
      exact ⟨_, rfl, VOwn.nil _ _ _ _, b1⟩
end Go.Proofs.Ytldggndhdilncaa
