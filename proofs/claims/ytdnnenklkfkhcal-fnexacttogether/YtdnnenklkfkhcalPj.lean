/-
  PersonOf, the program's and the specification's: who stands for a record.
-/
import Derived.Test.YtdnnenklkfkhcalRj
namespace Go.Proofs.Ytdnnenklkfkhcal
open Go.RowKit Jn Go.Maps

/-- What PersonOf answers. -/
noncomputable def person (l : List J) (x : Int) : Int := if okB l && pers x then stands l x else -1

theorem fld0 (z q : Int) (w : World) : (Instr.field 54 (.agg #[.int .i64 z, .int .i64 q]) 0).run Try.prog w = .ok (.int .i64 z) w := by kernel_rfl
theorem says_some {l : List J} {x : Int} (h : isG l x = true) : says l x = some (keepAt l x, (place l x : Int)) := by unfold says; rw [if_pos h]

set_option maxRecDepth 20000 in
set_option maxHeartbeats 1000000 in
theorem standing_any (B n : Nat) (l : List J) (x : Int) (w : World) (h : Bk w B n (says l)) (hok : okTo l l.length) (hx : pers x = true) :
    Calls Try.prog 29 #[.map (some B), .int .i64 x] w fun e w' => e = .returned (.int .i64 (stands l x)) ∧ Below w.heap.size w w' := by
  go_enter Try.func29, Try.ntmps29
  go_wp2_with fail
  go_loopw [1] (fun v wr => ∃ y, v = .int .i64 y ∧ Below w.heap.size w wr ∧ Hid (pers y = true ∧ stands l y = stands l x)) (fun v _ => l.length - place l (intOf v))
  case atStart => exact ⟨x, rfl, Below.refl _ _, hx, rfl⟩
  case round =>
    obtain ⟨y, rfl, hb, H⟩ := hrel
    have hy9 := pers_wf H.out.1
    have hwy : wfI y := wfI_of (by omega) (by omega)
    have hbk := h.below hb
    have hIG := isgone_any B n (says l) y wr hbk hwy
    rw [says_isSome] at hIG
    cases hg : isG l y with
    | false =>
      rw [hg] at hIG
      have HE : Hid (y = stands l x) := by rw [Hid, ← H.out.2, stands_none l y hg]
      go_wp2_with fail
      refine hIG.mono ?_
      rintro e w1 ⟨rfl, hb1⟩
      have b1 := onto hb hb1
      go_wp2_with fail
      go_ret
      exact ⟨by rw [← HE.out]; rfl, b1⟩
    | true =>
      rw [hg] at hIG
      have hL := fun W (hW : Below wr.heap.size wr W) => (hbk.below hW).look y hwy _ (says_some hg)
      have HL := hidden hL
      clear hL
      have HN : Hid (pers (keepAt l y) = true ∧ stands l (keepAt l y) = stands l x) := ⟨pers_keep l hok y hg, by rw [← H.out.2, stands_hop l hok y hg]⟩
      have HM : Hid (l.length - place l (keepAt l y) < l.length - place l y) := by
        have h1 := hop l hok y hg
        have h2 := (isG_place l y).1 hg
        rw [Hid]; omega
      generalize keepAt l y = z at *
      generalize (place l y : Int) = pl at *
      go_wp2_with fail
      refine hIG.mono ?_
      rintro e w1 ⟨rfl, hb1⟩
      have b1 := onto hb hb1
      have hlk := HL.out w1 hb1
      clear HL hIG hb1 hb hbk
      have hfl := fld0 z pl w1
      go_wp2_with fail
      go_roundw
      case rel => exact ⟨z, rfl, b1, HN⟩
      case measure => exact HM.out

set_option maxRecDepth 20000 in
set_option maxHeartbeats 1000000 in
theorem ipers_any (v : Value) (l : List J) (x : Int) (w : World) (h : JRow w v l) :
    Calls Try.prog 10 #[v, .int .i64 x] w fun e w' => e = .returned (.int .i64 (person l x)) ∧ Below w.heap.size w w' := by
  have hP := pers_any x
  go_enter Try.func10, Try.ntmps10
  go_wp2_with fail
  refine (bookof_any v l w h).mono ?_
  rintro e w1 ⟨b1, ⟨hno, rfl⟩ | ⟨hyes, B, _, rfl, hbk⟩⟩
  · have HE : Hid (person l x = -1) := by unfold person; rw [Hid, okB_false hno]; rfl
    clear hno
    go_wp2_with fail
    go_ret
    exact ⟨by rw [HE.out]; rfl, b1⟩
  · cases hx : pers x with
    | false =>
      have HE : Hid (person l x = -1) := by unfold person; rw [Hid, hx, Bool.and_false]; rfl
      rw [hx] at hP
      clear hyes hbk
      go_wp2_with fail
      refine (hP _).mono ?_
      rintro e w2 ⟨rfl, hw2⟩
      have hw3 := hw2.symm
      clear hw2
      subst hw3
      go_wp2_with fail
      go_ret
      exact ⟨by rw [HE.out]; rfl, b1⟩
    | true =>
      have HE : Hid (person l x = stands l x) := by unfold person; rw [Hid, okB_true hyes, hx]; rfl
      have HS := hidden (standing_any B l.length l x w1 hbk hyes.2 hx)
      rw [hx] at hP
      clear hyes hbk
      go_wp2_with fail
      refine (hP _).mono ?_
      rintro e w2 ⟨rfl, hw2⟩
      have hw3 := hw2.symm
      clear hw2
      subst hw3
      go_wp2_with fail
      refine HS.out.mono ?_
      rintro e w2 ⟨rfl, hb2⟩
      have b2 := onto b1 hb2
      go_wp2_with fail
      go_ret
      exact ⟨by rw [HE.out]; rfl, b2⟩

set_option maxRecDepth 20000 in
set_option maxHeartbeats 1000000 in
theorem of_any (v : Value) (l : List J) (x : Int) (w : World) (h : JRow w v l) (hok : okTo l l.length) (hn : l.length ≤ 1048576) :
    Calls Try.prog 25 #[v, .int .i64 x] w fun e w' => e = .returned (.int .i64 (stands l x)) ∧ w' = w := by
  obtain ⟨ao, cap, rfl, hrow⟩ := h
  go_enter Try.func25, Try.ntmps25
  go_wp2_with fail
  go_loopw [1, 5] (fun v iv wr => wr = w ∧ ∃ (y : Int) (i : Nat), i ≤ l.length ∧ v = .int .i64 y ∧ iv = .int .i64 i ∧ Hid (stands l y = stands l x ∧ i ≤ place l y)) (fun v iv _ => (l.length - place l (intOf v)) * (l.length + 2) + (l.length - (intOf iv).toNat))
  case atStart => exact ⟨rfl, x, 0, Nat.zero_le _, rfl, rfl, rfl, Nat.zero_le _⟩
  case round =>
    obtain ⟨rfl, y, i, hil, rfl, rfl, H⟩ := hrel
    by_cases hlt : i < l.length
    · have hlti : (i : Int) < (l.length : Int) := by omega
      rcases hrow with h0 | ⟨b, off, rfl, hbw, hcells⟩
      · omega
      obtain ⟨hc1, hc2⟩ := hcells i hlt
      clear hcells
      by_cases hgy : (l.getD i (0, 0)).2 = y
      · have hpl : place l y = i := by
          have h1 := H.out.2
          rcases Nat.lt_or_ge i (place l y) with q | q
          · exact absurd hgy (place_first l y i q)
          · omega
        have hg : isG l y = true := (isG_place l y).2 (by omega)
        have hka : keepAt l y = (l.getD i (0, 0)).1 := by unfold keepAt; rw [hpl]
        have hh := hop l hok y hg
        rw [hka] at hh
        have HN : Hid (stands l (l.getD i (0, 0)).1 = stands l x ∧ 0 ≤ place l (l.getD i (0, 0)).1) := ⟨by rw [← hka, ← stands_hop l hok y hg]; exact H.out.1, Nat.zero_le _⟩
        have HM : Hid ((l.length - place l (l.getD i (0, 0)).1) * (l.length + 2) + (l.length - 0) < (l.length - place l y) * (l.length + 2) + (l.length - i)) := by
          have e : l.length - place l y = (l.length - place l (l.getD i (0, 0)).1) + ((l.length - place l y) - (l.length - place l (l.getD i (0, 0)).1)) := by omega
          have e2 : 1 ≤ (l.length - place l y) - (l.length - place l (l.getD i (0, 0)).1) := by omega
          have e3 := Nat.mul_le_mul_right (l.length + 2) e2
          rw [Hid, e, Nat.add_mul]
          omega
        have hgy2 : ((l.getD i (0, 0)).2 == y) = true := by simpa using hgy
        rw [hgy] at hc2
        clear hgy hpl hg hka hh hgy2
        generalize (l.getD i (0, 0)).1 = z at *
        go_wp2_with fail
        go_roundw
        case rel => exact ⟨trivial, z, 0, Nat.zero_le _, rfl, rfl, HN⟩
        case measure => simpa [intOf] using HM.out
      · have hgy2 : ((l.getD i (0, 0)).2 == y) = false := by simpa using hgy
        have HN : Hid (stands l y = stands l x ∧ i + 1 ≤ place l y) := ⟨H.out.1, by
          have h1 := H.out.2
          rcases Nat.lt_or_ge i (place l y) with q | q
          · omega
          · have hpl : place l y = i := by omega
            exact absurd (by rw [← hpl]; exact place_get l y (by omega)) hgy⟩
        clear hgy
        generalize (l.getD i (0, 0)).2 = z at *
        go_wp2_with fail
        go_roundw
        case rel => exact ⟨trivial, y, i + 1, by omega, rfl, rfl, HN⟩
        case measure => simp [intOf]; omega
    · have hlti : ¬ (i : Int) < (l.length : Int) := by omega
      have HE : Hid (y = stands l x) := by
        have hg : isG l y = false := by
          cases hh : isG l y with
          | false => rfl
          | true => have := (isG_place l y).1 hh; have := H.out.2; omega
        rw [Hid, ← H.out.1, stands_none l y hg]
      go_wp2_with fail
      go_ret
      exact ⟨by rw [← HE.out]; rfl, rfl⟩

set_option maxRecDepth 20000 in
set_option maxHeartbeats 1000000 in
theorem spers_any (v : Value) (l : List J) (x : Int) (w : World) (h : JRow w v l) :
    Calls Try.prog 8 #[v, .int .i64 x] w fun e w' => e = .returned (.int .i64 (person l x)) ∧ Below w.heap.size w w' := by
  have hP := sper_any x
  have hS := sok_any v l w h
  rcases Classical.em (Ok l) with hyes | hno
  · rw [okB_true hyes] at hS
    cases hx : pers x with
    | false =>
      have HE : Hid (person l x = -1) := by unfold person; rw [Hid, hx, Bool.and_false]; rfl
      rw [hx] at hP
      clear hyes
      go_enter Try.func8, Try.ntmps8
      go_wp2_with fail
      refine hS.mono ?_
      rintro e w1 ⟨rfl, b1⟩
      go_wp2_with fail
      refine (hP _).mono ?_
      rintro e w2 ⟨rfl, hw2⟩
      have hw3 := hw2.symm
      clear hw2
      subst hw3
      go_wp2_with fail
      go_ret
      exact ⟨by rw [HE.out]; rfl, b1⟩
    | true =>
      have HE : Hid (person l x = stands l x) := by unfold person; rw [Hid, okB_true hyes, hx]; rfl
      have HO := hidden (fun W hW => of_any v l x W hW hyes.2 (by have := hyes.1; omega))
      have HJ := hidden h
      rw [hx] at hP
      clear hyes h
      go_enter Try.func8, Try.ntmps8
      go_wp2_with fail
      refine hS.mono ?_
      rintro e w1 ⟨rfl, b1⟩
      go_wp2_with fail
      refine (hP _).mono ?_
      rintro e w2 ⟨rfl, hw2⟩
      have hw3 := hw2.symm
      clear hw2
      subst hw3
      go_wp2_with fail
      refine (HO.out _ (HJ.out.below b1)).mono ?_
      rintro e w2 ⟨rfl, hw2⟩
      have hw3 := hw2.symm
      clear hw2
      subst hw3
      go_wp2_with fail
      go_ret
      exact ⟨by rw [HE.out]; rfl, b1⟩
  · rw [okB_false hno] at hS
    have HE : Hid (person l x = -1) := by unfold person; rw [Hid, okB_false hno]; rfl
    clear hno
    go_enter Try.func8, Try.ntmps8
    go_wp2_with fail
    refine hS.mono ?_
    rintro e w1 ⟨rfl, b1⟩
    go_wp2_with fail
    go_ret
    exact ⟨by rw [HE.out]; rfl, b1⟩

end Go.Proofs.Ytdnnenklkfkhcal
