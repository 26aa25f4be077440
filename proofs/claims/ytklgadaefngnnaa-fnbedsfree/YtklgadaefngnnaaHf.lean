/-
  The program's look at all beds: right, and none beside one for who must be alone.
-/
import Derived.Test.YtklgadaefngnnaaHe
import Derived.Deep.RegionWith
namespace Go.Proofs.Ytklgadaefngnnaa
open Go.RowKit Hm
set_option linter.unusedVariables false

set_option maxRecDepth 20000 in
set_option maxHeartbeats 2000000 in
theorem ibeds_any (ao : Option Addr) (n cap : Nat) (l : List Bd) (w : World) (h : Rw 2 csB w (.slice ao n cap) l) (hn : l.length ≤ 1048576) :
    Calls Try.prog 46 #[.slice ao n cap] w fun e w' => e = .returned (.bool (pB (bedsTo l l.length))) ∧ Below w.heap.size w w' := by
  obtain rfl := h.len
  have hcap := h.cap
  have HH := hidden h
  clear h
  go_enter Try.func46, Try.ntmps46
  go_wp2_with fail
  go_loopw [7] (fun iv wr => ∃ i : Nat, i ≤ l.length ∧ iv = .int .i64 i ∧ Below w.heap.size w wr ∧ Hid (bedsTo l i)) (fun iv _ => l.length - (intOf iv).toNat)
  case atStart => exact ⟨0, Nat.zero_le _, rfl, Below.refl _ _, bedsTo_zero _⟩
  case round =>
    obtain ⟨i, hi, rfl, hb, hok⟩ := hrel
    have hsz := hb.size
    by_cases hlt : i < l.length
    · have hlti : (i : Int) < (l.length : Int) := by omega
      obtain ⟨x, hx⟩ := some_at l i hlt
      obtain ⟨g, off, rfl, hg, c0, c1⟩ := bed_cells (HH.out.below hb) hx
      have HX := hidden hx
      have hcapi : (i : Int) ≤ (cap : Int) := by omega
      clear hx
      have hK := ikind_any x.kind
      by_cases hr0 : x.room < 0
      · have hno : Hid (pB (bedsTo l l.length) = false) := pB_false fun q => by have := (q i x hlt HX.out).1; unfold bedOk rm at this; simp at this; omega
        clear hok
        go_wp2_with fail
        go_ret
        exact ⟨by rw [hno.out]; rfl, by repeat (first | exact Below.refl _ _ | assumption | refine st_drew ?_ | refine st_drewN ?_ _ | refine Below.setCell ?_ (by first | omega | (simp; done) | (simp; omega)) _ | refine Below.alloc ?_ (by first | omega | (simp; done) | (simp; omega)) _)⟩
      by_cases hr1 : 999 < x.room
      · have hno : Hid (pB (bedsTo l l.length) = false) := pB_false fun q => by have := (q i x hlt HX.out).1; unfold bedOk rm at this; simp at this; omega
        clear hok
        go_wp2_with fail
        go_ret
        exact ⟨by rw [hno.out]; rfl, by repeat (first | exact Below.refl _ _ | assumption | refine st_drew ?_ | refine st_drewN ?_ _ | refine Below.setCell ?_ (by first | omega | (simp; done) | (simp; omega)) _ | refine Below.alloc ?_ (by first | omega | (simp; done) | (simp; omega)) _)⟩
      cases hk : kd x.kind with
      | false =>
        have hno : Hid (pB (bedsTo l l.length) = false) := pB_false fun q => by have := (q i x hlt HX.out).1; unfold bedOk at this; rw [hk] at this; simp at this
        rw [hk] at hK
        clear hok
        go_wp2_with (go_at_call 52; refine (hK _).mono ?_; rintro e w1 ⟨rfl, rfl⟩)
        go_ret
        exact ⟨by rw [hno.out]; rfl, by repeat (first | exact Below.refl _ _ | assumption | refine st_drew ?_ | refine st_drewN ?_ _ | refine Below.setCell ?_ (by first | omega | (simp; done) | (simp; omega)) _ | refine Below.alloc ?_ (by first | omega | (simp; done) | (simp; omega)) _)⟩
      | true =>
        rw [hk] at hK
        have hok1 : bedOk x = true := by unfold bedOk rm; rw [hk]; simp; omega
        have hcall := fun W hW => hasbeds_any (some ⟨g, off, none⟩) i cap (l.take i) x W hW (by rw [List.length_take]; omega)
        have HT := hidden (fun W (hW : Below w.heap.size w W) => (HH.out.below hW).take i cap (by omega) (by omega))
        unfold aB at hcall
        cases hq : (l.take i).any (fun y => excl y x) with
        | true =>
          obtain ⟨k, y, hk1, hk2, hk3⟩ := takes_any.1 hq
          have hno : Hid (pB (bedsTo l l.length) = false) := pB_false fun q => by have := (q i x hlt HX.out).2 k y hk1 hk2; rw [hk3] at this; cases this
          rw [hq] at hcall
          clear hok hk1 hk2 hk3 hq
          go_wp2_with (go_at_call 52; refine (hK _).mono ?_; rintro e w1 ⟨rfl, rfl⟩)
          go_region_with (go_at_call 83; refine (hcall _ (HT.out _ (by first | exact hb.alloc hb.size _ | exact st_drew (hb.alloc hb.size _)))).mono ?_; rintro e w2 ⟨rfl, hb2⟩; have bA := onto (show Below w.heap.size w _ from by first | exact hb.alloc hb.size _ | exact st_drew (hb.alloc hb.size _)) hb2)
          all_goals go_wp2_with fail
          all_goals go_ret
          all_goals exact ⟨by rw [hno.out]; rfl, by repeat (first | exact Below.refl _ _ | assumption | refine st_drew ?_ | refine st_drewN ?_ _ | refine Below.setCell ?_ (by first | omega | (simp; done) | (simp; omega)) _ | refine Below.alloc ?_ (by first | omega | (simp; done) | (simp; omega)) _)⟩
        | false =>
          have hok2 : Hid (bedsTo l (i + 1)) := bedsTo_succ hok.out HX.out hok1 fun k y hk1 hk2 => by
            cases he : excl y x with
            | false => rfl
            | true => rw [takes_any.2 ⟨k, y, hk1, hk2, he⟩] at hq; cases hq
          rw [hq] at hcall
          clear hok hq
          go_wp2_with (go_at_call 52; refine (hK _).mono ?_; rintro e w1 ⟨rfl, rfl⟩)
          go_region_with (go_at_call 83; refine (hcall _ (HT.out _ (by first | exact hb.alloc hb.size _ | exact st_drew (hb.alloc hb.size _)))).mono ?_; rintro e w2 ⟨rfl, hb2⟩; have bA := onto (show Below w.heap.size w _ from by first | exact hb.alloc hb.size _ | exact st_drew (hb.alloc hb.size _)) hb2)
          all_goals go_wp2_with fail
          all_goals go_roundw
          all_goals first
            | exact ⟨i + 1, by omega, rfl, by repeat (first | exact Below.refl _ _ | assumption | refine st_drew ?_ | refine st_drewN ?_ _ | refine Below.setCell ?_ (by first | omega | (simp; done) | (simp; omega)) _ | refine Below.alloc ?_ (by first | omega | (simp; done) | (simp; omega)) _), hok2⟩
            | (simp [intOf]; omega)
    · have hlti : ¬ (i : Int) < (l.length : Int) := by omega
      have hil : i = l.length := by omega
      subst hil
      have hyes : Hid (pB (bedsTo l l.length) = true) := pB_true hok.out
      go_wp2_with fail
      go_ret
      exact ⟨by rw [hyes.out]; rfl, hb⟩

end Go.Proofs.Ytklgadaefngnnaa
