/-
  Who is called: the program's Ladder and the specification's.
-/
import Derived.Test.YtohedolfefklfaaOc
import Derived.Test.YtohedolfefklfaaAa
namespace Go.Proofs.Ytohedolfefklfaa
open Go.RowKit Va Oa
set_option linter.unusedVariables false

theorem all_snoc {p : Int → Bool} {l : List Int} {i : Nat} {x : Int} (h : ∀ y ∈ l.take i, p y = true) (hx : l[i]? = some x) (hp : p x = true) : ∀ y ∈ l.take (i + 1), p y = true := by
  rw [take_snocW hx]
  intro y hy
  rcases List.mem_append.1 hy with q | q
  · exact h y q
  · simp at q; subst q; exact hp
theorem not_wts {l : List Int} {i : Nat} {x : Int} (hx : l[i]? = some x) (hp : wtB x = false) : wtsOk l = false := by
  cases hc : wtsOk l with
  | false => rfl
  | true => have := (wtsOk_iff.1 hc).2 x (List.mem_of_getElem? hx); rw [hp] at this; cases this
theorem long_wts {l : List Int} (h : 20 < l.length) : wtsOk l = false := by
  cases hc : wtsOk l with
  | false => rfl
  | true => have := (wtsOk_iff.1 hc).1; omega
theorem wtB_false {x : Int} (h : x < 1 ∨ 1000 < x) : wtB x = false := by
  cases hc : wtB x with
  | false => rfl
  | true => have := wtB_iff.1 hc; omega

set_option maxRecDepth 20000 in
set_option maxHeartbeats 1000000 in
theorem iwts_any (ao : Option Addr) (n cap : Nat) (l : List Int) (w : World) (h : IRw w (.slice ao n cap) l) (hn : l.length ≤ 1048576) :
    Calls Try.prog 34 #[.slice ao n cap] w fun e w' => e = .returned (.bool (wtsOk l)) ∧ w = w' := by
  obtain rfl := h.len
  have HH := hidden h
  clear h
  by_cases hs : l.length ≤ 20
  · have hs1 : ¬ (20 : Int) < (l.length : Int) := by omega
    go_enter Try.func34, Try.ntmps34
    go_wp2_with fail
    go_loopw [4, 10] (fun _ iv wr => ∃ i : Nat, i ≤ l.length ∧ iv = .int .i64 i ∧ wr = w ∧ Hid (∀ y ∈ l.take i, wtB y = true)) (fun _ iv _ => l.length - (intOf iv).toNat)
    case atStart => exact ⟨0, Nat.zero_le _, rfl, rfl, by intro y hy; simp at hy⟩
    case round =>
      obtain ⟨i, hi, rfl, rfl, hok⟩ := hrel
      by_cases hlt : i < l.length
      · have hlti : (i : Int) < (l.length : Int) := by omega
        obtain ⟨y, hy⟩ := some_of l i hlt
        obtain ⟨g, off, rfl, hg, hc⟩ := HH.out.at hy
        have c0 := hc i y hy
        have HX := hidden hy
        clear hy hc
        by_cases q1 : y < 1
        · have HY : Hid (wtsOk l = false) := not_wts HX.out (wtB_false (.inl q1))
          go_wp2_with fail
          go_ret
          exact ⟨ret_bool HY.out.symm, rfl⟩
        · by_cases q2 : 1000 < y
          · have HY : Hid (wtsOk l = false) := not_wts HX.out (wtB_false (.inr q2))
            go_wp2_with fail
            go_ret
            exact ⟨ret_bool HY.out.symm, rfl⟩
          · have HN : Hid (∀ y ∈ l.take (i + 1), wtB y = true) := all_snoc hok.out HX.out (wtB_iff.2 ⟨by omega, by omega⟩)
            go_wp2_with fail
            go_roundw
            case rel => exact ⟨i + 1, by omega, rfl, by simp, HN⟩
            case measure => simp [intOf]; omega
      · have hlti : ¬ (i : Int) < (l.length : Int) := by omega
        have hil : i = l.length := by omega
        subst hil
        have HY : Hid (wtsOk l = true) := wtsOk_iff.2 ⟨hs, by have := hok.out; rw [List.take_length] at this; exact this⟩
        go_wp2_with fail
        go_ret
        exact ⟨ret_bool HY.out.symm, rfl⟩
  · have hs1 : (20 : Int) < (l.length : Int) := by omega
    have HY : Hid (wtsOk l = false) := long_wts (by omega)
    go_enter Try.func34, Try.ntmps34
    go_wp2_with fail
    go_ret
    exact ⟨ret_bool HY.out.symm, rfl⟩

theorem lad_step {l : List Int} {i : Nat} {x h : Int} (hx : l[i]? = some x) : lad (l.take (i + 1)) 0 h 1 = (if (l.take i).sum + x ≤ h then lad (l.take i) 0 h 1 + 1 else lad (l.take i) 0 h 1) ∧ (l.take (i + 1)).sum = (l.take i).sum + x := by
  rw [take_snocW hx]
  constructor
  · rw [lad_snoc]; simp
  · simp
theorem lad_small {l : List Int} (i : Nat) (h : Int) (hl : l.length ≤ 20) (hw : ∀ y ∈ l.take i, wtB y = true) : (0 ≤ (l.take i).sum ∧ (l.take i).sum ≤ 20000) ∧ (1 ≤ lad (l.take i) 0 h 1 ∧ lad (l.take i) 0 h 1 ≤ 21) := by
  have a := sum_bd (l.take i) fun x hx => wtB_iff.1 (hw x hx)
  have b := lad_bd (l.take i) 0 h 1
  have c : (l.take i).length ≤ 20 := by rw [List.length_take]; omega
  omega

set_option maxRecDepth 20000 in
set_option maxHeartbeats 2000000 in
theorem iladder_any (ao : Option Addr) (n cap : Nat) (l : List Int) (h : Int) (w : World) (hr : IRw w (.slice ao n cap) l) (hn : l.length ≤ 1048576) :
    Calls Try.prog 11 #[.slice ao n cap, .int .i64 h] w fun e w' => e = .returned (.int .i64 (ladder l h)) ∧ w = w' := by
  have hcall := iwts_any ao n cap l w hr hn
  obtain rfl := hr.len
  have HH := hidden hr
  clear hr
  by_cases hs : wtsOk l = true
  · rw [hs] at hcall
    by_cases h0 : h < 0
    · have HY : Hid (ladder l h = 0) := by unfold ladder; rw [if_neg (by simp; omega)]; rfl
      go_enter Try.func11, Try.ntmps11
      go_wp2_with (go_at_call 34; refine hcall.mono ?_; rintro e w1 ⟨rfl, rfl⟩)
      go_ret
      exact ⟨ret_int HY.out.symm, rfl⟩
    · have HY : Hid (ladder l h = lad l 0 h 1) := by unfold ladder; rw [if_pos (by simp [hs]; omega)]; rfl
      have HA := hidden (wtsOk_iff.1 hs)
      go_enter Try.func11, Try.ntmps11
      go_wp2_with (go_at_call 34; refine hcall.mono ?_; rintro e w1 ⟨rfl, rfl⟩)
      go_loopw [5, 6, 8, 18] (fun cv mv _ iv wr => ∃ i : Nat, i ≤ l.length ∧ iv = .int .i64 i ∧ wr = w ∧ cv = .int .i64 (lad (l.take i) 0 h 1) ∧ mv = .int .i64 (l.take i).sum) (fun _ _ _ iv _ => l.length - (intOf iv).toNat)
      case atStart => exact ⟨0, Nat.zero_le _, rfl, rfl, rfl, rfl⟩
      case round =>
        obtain ⟨i, hi, rfl, rfl, rfl, rfl⟩ := hrel
        have hsm := lad_small i h HA.out.1 (fun y hy => HA.out.2 y (List.mem_of_mem_take hy))
        by_cases hlt : i < l.length
        · have hlti : (i : Int) < (l.length : Int) := by omega
          obtain ⟨y, hy⟩ := some_of l i hlt
          have hyb := wtB_iff.1 (HA.out.2 y (List.mem_of_getElem? hy))
          obtain ⟨g, off, rfl, hg, hc⟩ := HH.out.at hy
          have c0 := hc i y hy
          have HX := hidden (lad_step (h := h) hy)
          clear hy hc
          generalize hC : lad (l.take i) 0 h 1 = C at *
          generalize hM : (l.take i).sum = M at *
          by_cases q : M + y ≤ h
          · have e1 : Hid (lad (l.take (i + 1)) 0 h 1 = C + 1) := by have := HX.out.1; rw [if_pos q] at this; exact this
            have e2 : Hid ((l.take (i + 1)).sum = M + y) := HX.out.2
            clear HX hC hM
            go_wp2_with fail
            go_roundw
            case rel => exact ⟨i + 1, by omega, rfl, by simp, by rw [e1.out], by rw [e2.out]⟩
            case measure => simp [intOf]; omega
          · have e1 : Hid (lad (l.take (i + 1)) 0 h 1 = C) := by have := HX.out.1; rw [if_neg q] at this; exact this
            have e2 : Hid ((l.take (i + 1)).sum = M + y) := HX.out.2
            clear HX hC hM
            go_wp2_with fail
            go_roundw
            case rel => exact ⟨i + 1, by omega, rfl, by simp, by rw [e1.out], by rw [e2.out]⟩
            case measure => simp [intOf]; omega
        · have hlti : ¬ (i : Int) < (l.length : Int) := by omega
          have hil : i = l.length := by omega
          subst hil
          rw [List.take_length]
          go_wp2_with fail
          go_ret
          exact ⟨ret_int HY.out.symm, rfl⟩
  · have hs2 : wtsOk l = false := by simpa using hs
    rw [hs2] at hcall
    have HY : Hid (ladder l h = 0) := by unfold ladder; rw [hs2]; rfl
    go_enter Try.func11, Try.ntmps11
    go_wp2_with (go_at_call 34; refine hcall.mono ?_; rintro e w1 ⟨rfl, rfl⟩)
    go_ret
    exact ⟨ret_int HY.out.symm, rfl⟩

set_option maxRecDepth 20000 in
set_option maxHeartbeats 2000000 in
theorem sladder_any (ao : Option Addr) (n cap : Nat) (l : List Int) (h : Int) (w : World) (hr : IRw w (.slice ao n cap) l) (hn : l.length ≤ 1048576) :
    Calls Try.prog 12 #[.slice ao n cap, .int .i64 h] w fun e w' => e = .returned (.int .i64 (ladder l h)) ∧ w = w' := by
  obtain rfl := hr.len
  have HH := hidden hr
  clear hr
  by_cases hs : l.length ≤ 20
  · have hs1 : ¬ (20 : Int) < (l.length : Int) := by omega
    by_cases h0 : h < 0
    · have HY : Hid (ladder l h = 0) := by unfold ladder; rw [if_neg (by simp; omega)]; rfl
      go_enter Try.func12, Try.ntmps12
      go_wp2_with fail
      go_ret
      exact ⟨ret_int HY.out.symm, rfl⟩
    · go_enter Try.func12, Try.ntmps12
      go_wp2_with fail
      go_loopw [5, 6, 7] (fun cv mv iv wr => ∃ i : Nat, i ≤ l.length ∧ iv = .int .i64 i ∧ wr = w ∧ cv = .int .i64 (lad (l.take i) 0 h 1) ∧ mv = .int .i64 (l.take i).sum ∧ Hid (∀ y ∈ l.take i, wtB y = true)) (fun _ _ iv _ => l.length - (intOf iv).toNat)
      case atStart => exact ⟨0, Nat.zero_le _, rfl, rfl, rfl, rfl, by intro y hy; simp at hy⟩
      case round =>
        obtain ⟨i, hi, rfl, rfl, rfl, rfl, hok⟩ := hrel
        have hsm := lad_small i h hs hok.out
        by_cases hlt : i < l.length
        · have hlti : (i : Int) < (l.length : Int) := by omega
          obtain ⟨y, hy⟩ := some_of l i hlt
          have hcall := lin_any y 1 1000
          rw [show rng y 1 1000 = wtB y from rfl] at hcall
          obtain ⟨g, off, rfl, hg, hc⟩ := HH.out.at hy
          have c0 := hc i y hy
          have HX := hidden (lad_step (h := h) hy)
          have HZ := hidden hy
          clear hy hc
          by_cases hb : wtB y = true
          · have hyb := wtB_iff.1 hb
            have HN : Hid (∀ y ∈ l.take (i + 1), wtB y = true) := all_snoc hok.out HZ.out hb
            rw [hb] at hcall
            generalize hC : lad (l.take i) 0 h 1 = C at *
            generalize hM : (l.take i).sum = M at *
            by_cases q : M + y ≤ h
            · have e1 : Hid (lad (l.take (i + 1)) 0 h 1 = C + 1) := by have := HX.out.1; rw [if_pos q] at this; exact this
              have e2 : Hid ((l.take (i + 1)).sum = M + y) := HX.out.2
              clear HX hC hM hb
              go_wp2_with (go_at_call 35; refine (hcall _).mono ?_; rintro e w1 ⟨rfl, rfl⟩)
              go_roundw
              case rel => exact ⟨i + 1, by omega, rfl, by simp, by rw [e1.out], by rw [e2.out], HN⟩
              case measure => simp [intOf]; omega
            · have e1 : Hid (lad (l.take (i + 1)) 0 h 1 = C) := by have := HX.out.1; rw [if_neg q] at this; exact this
              have e2 : Hid ((l.take (i + 1)).sum = M + y) := HX.out.2
              clear HX hC hM hb
              go_wp2_with (go_at_call 35; refine (hcall _).mono ?_; rintro e w1 ⟨rfl, rfl⟩)
              go_roundw
              case rel => exact ⟨i + 1, by omega, rfl, by simp, by rw [e1.out], by rw [e2.out], HN⟩
              case measure => simp [intOf]; omega
          · have hb2 : wtB y = false := by simpa using hb
            have HY : Hid (ladder l h = 0) := by unfold ladder; rw [not_wts HZ.out hb2]; rfl
            rw [hb2] at hcall
            generalize hC : lad (l.take i) 0 h 1 = C at *
            generalize hM : (l.take i).sum = M at *
            clear HX hC hM hb hb2
            go_wp2_with (go_at_call 35; refine (hcall _).mono ?_; rintro e w1 ⟨rfl, rfl⟩)
            go_ret
            exact ⟨ret_int HY.out.symm, rfl⟩
        · have hlti : ¬ (i : Int) < (l.length : Int) := by omega
          have hil : i = l.length := by omega
          subst hil
          have HY : Hid (ladder l h = lad l 0 h 1) := by
            unfold ladder
            rw [if_pos]
            · rfl
            · have := hok.out
              rw [List.take_length] at this
              simp [wtsOk_iff.2 ⟨hs, this⟩]
              omega
          rw [List.take_length]
          go_wp2_with fail
          go_ret
          exact ⟨ret_int HY.out.symm, rfl⟩
  · have hs1 : (20 : Int) < (l.length : Int) := by omega
    have HY : Hid (ladder l h = 0) := by unfold ladder; rw [long_wts (by omega)]; rfl
    go_enter Try.func12, Try.ntmps12
    go_wp2_with fail
    go_ret
    exact ⟨ret_int HY.out.symm, rfl⟩
end Go.Proofs.Ytohedolfefklfaa
