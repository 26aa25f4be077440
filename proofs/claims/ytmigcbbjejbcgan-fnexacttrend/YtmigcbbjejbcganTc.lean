/-
  Trend, the program's: the last two whole looks.
-/
import Derived.Test.YtmigcbbjejbcganTc0
import Derived.Test.YtmigcbbjejbcganTb
namespace Go.Proofs.Ytmigcbbjejbcgan
open Go.RowKit Va
set_option linter.unusedVariables false

set_option maxRecDepth 20000 in
set_option maxHeartbeats 4000000 in
theorem itrend_any (ao : Option Addr) (n cap : Nat) (l : List Vt) (w : World) (h : Rw 6 csV w (.slice ao n cap) l) (hn : l.length ≤ 1048576) :
    Calls Try.prog 25 #[.slice ao n cap] w fun e w' => e = .returned (.int .i64 (trend l)) ∧ Below w.heap.size w w' := by
  obtain rfl := h.len
  have hcap := h.cap
  have HH := hidden h
  clear h
  by_cases hbig : (4096 : Int) < (l.length : Int)
  · have hno : Hid (trend l = 0) := by unfold trend; rw [if_pos (by omega)]; rfl
    go_enter Try.func25, Try.ntmps25
    go_wp2_with fail
    go_ret
    exact ⟨ret_int hno.out.symm, Below.refl _ _⟩
  have hsm : l.length ≤ 4096 := by omega
  have hL := hidden (lw_any ao l.length cap l hsm w HH.out)
  go_enter Try.func25, Try.ntmps25
  go_wp2_with fail
  refine hL.out.mono ?_
  rintro e w1 ⟨⟨r, rfl, hr⟩, b1⟩
  rcases hr with ⟨rfl, hnone⟩ | ⟨k, x, rfl, hx, hw, hd⟩
  · have HR := hidden (trend_none hnone)
    clear hnone
    go_wp2_with fail
    go_ret
    exact ⟨ret_int HR.out.symm, b1⟩
  have hkl := (List.getElem?_eq_some_iff.1 hx).1
  have hkl2 : (k : Int) < (l.length : Int) := by omega
  have hkc : (k : Int) ≤ (cap : Int) := by omega
  have hk0 : ¬ (k : Int) < 0 := by omega
  have HX := hidden hx
  have HD := hidden hd
  have HW := hidden hw
  have R1 := hidden ((HH.out.below b1).take k cap (by omega) (by omega))
  have hL2 := hidden (fun W (hW : Below w.heap.size w W) => lw_any ao k cap (l.take k) (by rw [List.length_take]; omega) W ((HH.out.below hW).take k cap (by omega) (by omega)))
  clear hx hd hw hL
  go_wp2_with fail
  refine (hL2.out _ b1).mono ?_
  rintro e w2 ⟨⟨r, rfl, hr⟩, hb2⟩
  have b2 := onto b1 hb2
  clear hb2 R1
  rcases hr with ⟨rfl, hnone⟩ | ⟨j, z, rfl, hz, hw2, hd2⟩
  · have HR := hidden (trend_one HX.out HW.out HD.out hnone)
    clear hnone
    go_wp2_with fail
    go_ret
    exact ⟨ret_int HR.out.symm, b2⟩
  have HR := hidden (trend_two hsm HX.out HW.out HD.out hz hw2 hd2)
  have hjl := (List.getElem?_eq_some_iff.1 hz).1
  rw [List.length_take] at hjl
  have hz' : l[j]? = some z := by rw [List.getElem?_take, if_pos (by omega)] at hz; exact hz
  have hjl2 : (j : Int) < (l.length : Int) := by omega
  have hj0 : ¬ (j : Int) < 0 := by omega
  obtain ⟨g, off, rfl, hg, c0, c1, c2, c3, c4, c5⟩ := vit_cells (HH.out.below b2) HX.out
  have HZ := hidden hz'
  have P1 := ipts_any x
  have P2 := ipts_any z
  have q1 := psum_bd x
  have q2 := psum_bd z
  clear hz hz' hw2 hd2 hjl
  unfold aV at P1 P2
  go_wp2_with fail
  refine (P1 _).mono ?_
  rintro e w3 ⟨rfl, hb3⟩
  have b3 := onto b2 hb3
  obtain ⟨g', off', hgo, hg', d0, d1, d2, d3, d4, d5⟩ := vit_cells (HH.out.below b3) HZ.out
  obtain ⟨rfl, rfl⟩ : g = g' ∧ off = off' := by simpa using hgo
  clear c0 c1 c2 c3 c4 c5 hgo
  generalize psum x = s1 at *
  generalize psum z = s2 at *
  go_wp2_with fail
  refine (P2 _).mono ?_
  rintro e w4 ⟨rfl, hb4⟩
  have b4 := onto b3 hb4
  go_wp2_with fail
  go_ret
  exact ⟨ret_int HR.out.symm, b4⟩
end Go.Proofs.Ytmigcbbjejbcgan
