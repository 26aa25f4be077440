/-
  PersonOf, the program's and the specification's: who stands for a record.
-/
import Derived.Test.YtdnnenklkfkhcaaRj
namespace Go.Proofs.Ytdnnenklkfkhcaa
open Go.RowKit Jn Go.Maps

/-- What PersonOf answers. -/
noncomputable def person (l : List J) (x : Int) : Int := if okB l && pers x then stands l x else -1

theorem fld0 (z q : Int) (w : World) : (Instr.field 91 (.agg #[.int .i64 z, .int .i64 q]) 0).run Try.prog w = .ok (.int .i64 z) w := by kernel_rfl
theorem says_some {l : List J} {x : Int} (h : isG l x = true) : says l x = some (keepAt l x, (place l x : Int)) := by unfold says; rw [if_pos h]

set_option maxRecDepth 20000 in
set_option maxHeartbeats 1000000 in
theorem standing_any (B n : Nat) (l : List J) (x : Int) (w : World) (h : Bk w B n (says l)) (hok : okTo l l.length) (hx : pers x = true) :
    Calls Try.prog 65 #[.map (some B), .int .i64 x] w fun e w' => e = .returned (.int .i64 (stands l x)) ∧ Below w.heap.size w w' := by
  go_enter Try.func65, Try.ntmps65
  go_wp2_with fail
  go_loopw [1] (fun v wr => ∃ y, v = .int .i64 y ∧ Below w.heap.size w wr ∧ Hid (pers y = true ∧ stands l y = stands l x)) (fun v _ => l.length - place l (intOf v))
  case atStart => exact ⟨x, rfl, Below.refl _ _, hx, rfl⟩
  case round =>
    obtain ⟨y, rfl, hb, H⟩ := hrel
    have hy9 := pers_wf H.out.1
    have hwy : wfI y := wfI_of (by omega) (by omega)
    have hbk := h.below hb
    have hIG := isgone_any B n (says l) y wr hbk hwy
    rw [says_isSome] at hIG
    cases hg : isG l y with
    | false =>
      rw [hg] at hIG
      have HE : Hid (y = stands l x) := by rw [Hid, ← H.out.2, stands_none l y hg]
      go_wp2_with fail
      refine hIG.mono ?_
      rintro e w1 ⟨rfl, hb1⟩
      have b1 := onto hb hb1
      go_wp2_with fail
      go_ret
      exact ⟨by rw [← HE.out]; rfl, b1⟩
    | true =>
      rw [hg] at hIG
      have hL := fun W (hW : Below wr.heap.size wr W) => (hbk.below hW).look y hwy _ (says_some hg)
      have HL := hidden hL
      clear hL
      have HN : Hid (pers (keepAt l y) = true ∧ stands l (keepAt l y) = stands l x) := ⟨pers_keep l hok y hg, by rw [← H.out.2, stands_hop l hok y hg]⟩
      have HM : Hid (l.length - place l (keepAt l y) < l.length - place l y) := by
        have h1 := hop l hok y hg
        have h2 := (isG_place l y).1 hg
        rw [Hid]; omega
      generalize keepAt l y = z at *
      generalize (place l y : Int) = pl at *
      go_wp2_with fail
      refine hIG.mono ?_
      rintro e w1 ⟨rfl, hb1⟩
      have b1 := onto hb hb1
      have hlk := HL.out w1 hb1
      clear HL hIG hb1 hb hbk
      have hfl := fld0 z pl w1
      go_wp2_with fail
      go_roundw
      case rel => exact ⟨z, rfl, b1, HN⟩
      case measure => exact HM.out

set_option maxRecDepth 20000 in
set_option maxHeartbeats 1000000 in
theorem ipers_any (v : Value) (l : List J) (x : Int) (w : World) (h : JRow w v l) :
    Calls Try.prog 29 #[v, .int .i64 x] w fun e w' => e = .returned (.int .i64 (person l x)) ∧ Below w.heap.size w w' := by
  have hP := pers_any x
  go_enter Try.func29, Try.ntmps29
  go_wp2_with fail
  refine (bookof_any v l w h).mono ?_
  rintro e w1 ⟨b1, ⟨hno, rfl⟩ | ⟨hyes, B, _, rfl, hbk⟩⟩
  · have HE : Hid (person l x = -1) := by unfold person; rw [Hid, okB_false hno]; rfl
    clear hno
    go_wp2_with fail
    go_ret
    exact ⟨by rw [HE.out]; rfl, b1⟩
  · cases hx : pers x with
    | false =>
      have HE : Hid (person l x = -1) := by unfold person; rw [Hid, hx, Bool.and_false]; rfl
      rw [hx] at hP
      clear hyes hbk
      go_wp2_with fail
      refine (hP _).mono ?_
      rintro e w2 ⟨rfl, hw2⟩
      have hw3 := hw2.symm
      clear hw2
      subst hw3
      go_wp2_with fail
      go_ret
      exact ⟨by rw [HE.out]; rfl, b1⟩
    | true =>
      have HE : Hid (person l x = stands l x) := by unfold person; rw [Hid, okB_true hyes, hx]; rfl
      have HS := hidden (standing_any B l.length l x w1 hbk hyes.2 hx)
      rw [hx] at hP
      clear hyes hbk
      go_wp2_with fail
      refine (hP _).mono ?_
      rintro e w2 ⟨rfl, hw2⟩
      have hw3 := hw2.symm
      clear hw2
      subst hw3
      go_wp2_with fail
      refine HS.out.mono ?_
      rintro e w2 ⟨rfl, hb2⟩
      have b2 := onto b1 hb2
      go_wp2_with fail
      go_ret
      exact ⟨by rw [HE.out]; rfl, b2⟩

end Go.Proofs.Ytdnnenklkfkhcaa
