/-
  Rows of counts: the program's small functions.
-/
import Derived.Test.YtinnmebpipnccaaT2
import Derived.Test.YtinnmebpipnccaaA1
import Derived.Test.YtinnmebpipnccaaVb
import Derived.BigQuiet
namespace Go.Proofs.Ytinnmebpipnccaa
open Go.RowKit Va Ax
set_option linter.all false

theorem ret_boolA {a b : Bool} (h : a = b) : Ending.returned (.bool a) = .returned (.bool b) := by rw [h]
theorem ret_intA {a b : Int} (h : a = b) : Ending.returned (.int .i64 a) = .returned (.int .i64 b) := by rw [h]

set_option maxRecDepth 20000 in
set_option maxHeartbeats 1000000 in
theorem indexA_any (ao : Option Addr) (n cap : Nat) (l : List Int) (x : Int) (w : World) (h : VRw 1 cvI w (.slice ao n cap) l) (hn : l.length ≤ 1048576) :
    Calls Try.prog 50 #[.slice ao n cap, .int .i64 x] w fun e w' => (∃ r : Int, e = .returned (.int .i64 r) ∧ ((r = -1 ∧ Ax.has l x = false) ∨ (∃ i : Nat, r = (i : Int) ∧ l[i]? = some x ∧ Ax.has (l.take i) x = false))) ∧ w' = w := by
  obtain rfl := h.len
  have HH := hidden h
  clear h
  go_enter Try.func50, Try.ntmps50
  go_wp2_with fail
  go_loopw [5, 8] (fun _ iv wr => ∃ i : Nat, i ≤ l.length ∧ iv = .int .i64 i ∧ wr = w ∧ Hid (Ax.has (l.take i) x = false)) (fun _ iv _ => l.length - (intOf iv).toNat)
  case atStart => exact ⟨0, Nat.zero_le _, rfl, rfl, rfl⟩
  case round =>
    obtain ⟨i, hi, rfl, rfl, hok⟩ := hrel
    by_cases hlt : i < l.length
    · have hlti : (i : Int) < (l.length : Int) := by omega
      obtain ⟨y, hy⟩ := some_of l i hlt
      obtain ⟨g, off, rfl, hg, c0⟩ := vint_cell HH.out hy
      have HX := hidden hy
      clear hy
      by_cases hq : x = y
      · subst hq
        go_wp2_with fail
        go_ret
        exact ⟨⟨i, rfl, .inr ⟨i, rfl, HX.out, hok.out⟩⟩, rfl⟩
      · have HN : Hid (Ax.has (l.take (i + 1)) x = false) := Ax.has_take hok.out HX.out hq
        go_wp2_with fail
        go_roundw
        case rel => exact ⟨i + 1, by omega, rfl, by simp, HN⟩
        case measure => simp [intOf]; omega
    · have hlti : ¬ (i : Int) < (l.length : Int) := by omega
      have hil : i = l.length := by omega
      subst hil
      go_wp2_with fail
      go_ret
      exact ⟨⟨-1, rfl, .inl ⟨rfl, by have := hok.out; rw [List.take_length] at this; exact this⟩⟩, rfl⟩

set_option maxHeartbeats 400000 in
theorem contA_any (ao : Option Addr) (n cap : Nat) (l : List Int) (x : Int) (w : World) (h : VRw 1 cvI w (.slice ao n cap) l) (hn : l.length ≤ 1048576) :
    Calls Try.prog 51 #[.slice ao n cap, .int .i64 x] w fun e w' => e = .returned (.bool (Ax.has l x)) ∧ w' = w := by
  have hcall := indexA_any ao n cap l x w h hn
  clear h
  go_enter Try.func51, Try.ntmps51
  go_wp2_with (go_at_call 50; refine hcall.mono ?_; rintro e w1 ⟨⟨r, rfl, hr⟩, rfl⟩; have HR := hidden hr; clear hr)
  go_ret
  refine ⟨ret_boolA ?_, rfl⟩
  rcases HR.out with ⟨rfl, h1⟩ | ⟨i, rfl, h1, h2⟩
  · rw [h1]; rfl
  · rw [Ax.has_true h1]; simp

set_option maxRecDepth 20000 in
set_option maxHeartbeats 2000000 in
theorem irow_any (ao : Option Addr) (n cap : Nat) (l : List Int) (lo : Int) (w : World) (h : VRw 1 cvI w (.slice ao n cap) l) (hn : l.length ≤ 1048576) :
    Calls Try.prog 27 #[.slice ao n cap, .int .i64 lo] w fun e w' => e = .returned (.bool (rowB lo l)) ∧ w' = w := by
  obtain rfl := h.len
  have HH := hidden h
  clear h
  by_cases hb : (100 : Int) < (l.length : Int)
  · have HV : Hid (rowB lo l = false) := by
      rw [Hid]
      unfold rowB
      rw [decide_eq_false (by omega)]
      rfl
    go_enter Try.func27, Try.ntmps27
    go_wp2_with fail
    go_ret
    exact ⟨ret_boolA HV.out.symm, rfl⟩
  have HLn : Hid (∀ t, (l.all fun x => rng x lo 100000) = t → rowB lo l = t) := fun t ht => by
    unfold rowB
    rw [decide_eq_true (show l.length ≤ 100 by omega), ht]
    simp
  go_enter Try.func27, Try.ntmps27
  go_wp2_with fail
  go_loopw [6, 12] (fun _ iv wr => ∃ i : Nat, i ≤ l.length ∧ iv = .int .i64 i ∧ wr = w ∧ Hid ((l.take i).all (fun x => rng x lo 100000) = true)) (fun _ iv _ => l.length - (intOf iv).toNat)
  case atStart => exact ⟨0, Nat.zero_le _, rfl, rfl, rfl⟩
  case round =>
    obtain ⟨i, hi, rfl, rfl, hok⟩ := hrel
    by_cases hlt : i < l.length
    · have hlti : (i : Int) < (l.length : Int) := by omega
      obtain ⟨y, hy⟩ := some_of l i hlt
      obtain ⟨g, off, rfl, hg, c0⟩ := vint_cell HH.out hy
      have HX := hidden hy
      clear hy
      by_cases q1 : y < lo
      · have HF : Hid (rowB lo l = false) := HLn.out _ (all_falseA HX.out (by unfold rng; rw [decide_eq_false (by omega)]; rfl))
        go_wp2_with fail
        go_ret
        exact ⟨ret_boolA HF.out.symm, rfl⟩
      by_cases q2 : 100000 < y
      · have HF : Hid (rowB lo l = false) := HLn.out _ (all_falseA HX.out (by unfold rng; rw [decide_eq_false (show ¬ y ≤ 100000 by omega)]; simp))
        go_wp2_with fail
        go_ret
        exact ⟨ret_boolA HF.out.symm, rfl⟩
      have HN : Hid ((l.take (i + 1)).all (fun x => rng x lo 100000) = true) := all_takeA hok.out HX.out (rng_iff.2 ⟨by omega, by omega⟩)
      go_wp2_with fail
      go_roundw
      case rel => exact ⟨i + 1, by omega, rfl, by simp, HN⟩
      case measure => simp [intOf]; omega
    · have hlti : ¬ (i : Int) < (l.length : Int) := by omega
      have HF : Hid (rowB lo l = true) := HLn.out _ (all_endA hok.out hlt)
      go_wp2_with fail
      go_ret
      exact ⟨ret_boolA HF.out.symm, rfl⟩

theorem row_dropA {w : World} {g off n cap : Nat} {l : List Int} (h : VRw 1 cvI w (.slice (some ⟨g, off, none⟩) n cap) l) (hg : g < w.heap.size) (k : Nat) (hk : k ≤ l.length) : VRw 1 cvI w (.slice (some ⟨g, off + k, none⟩) (n - k) (cap - k)) (l.drop k) := by
  have hc := h.cap
  obtain rfl := h.len
  refine ⟨_, _, by rw [List.length_drop], by rw [List.length_drop]; omega, ?_⟩
  by_cases h0 : (l.drop k).length = 0
  · exact Or.inl h0
  · refine Or.inr ⟨g, off + k, rfl, hg, fun i x hx j hj => ?_⟩
    rw [List.getElem?_drop] at hx
    obtain ⟨g', off', h1, h2, h3⟩ := h.at hx
    simp only [Option.some.injEq, Addr.mk.injEq, and_true] at h1
    obtain ⟨rfl, rfl⟩ := h1
    have := h3 j hj
    rw [show off + (k + i) * 1 + j = off + k + i * 1 + j by omega] at this
    exact this

set_option maxRecDepth 20000 in
set_option maxHeartbeats 2000000 in
theorem ilone_any (ao : Option Addr) (n cap : Nat) (l : List Int) (w : World) (h : VRw 1 cvI w (.slice ao n cap) l) (hn : l.length ≤ 1048576) (hg : Ge l) :
    Calls Try.prog 28 #[.slice ao n cap] w fun e w' => e = .returned (.int .i64 (Ax.lone l)) ∧ w' = w := by
  obtain rfl := h.len
  have hcap := h.cap
  have hcall := indexA_any ao l.length cap l (-1) w h hn
  have HH := hidden h
  have HG := hidden hg
  clear h hg
  go_enter Try.func28, Try.ntmps28
  go_upto_region 2 with (go_at_call 50; refine hcall.mono ?_; rintro e w1 ⟨⟨r, rfl, hr⟩, rfl⟩; have HR := hidden hr; clear hr)
  clear hcall
  rcases HR.out with ⟨rfl, h1⟩ | ⟨i, rfl, h1, h2⟩
  · have HV : Hid (Ax.lone l = -1) := lone_none HG.out h1
    clear h1 HR
    go_wp2_with fail
    go_ret
    exact ⟨ret_intA HV.out.symm, rfl⟩
  · have hil := get_ltA h1
    obtain ⟨g, off, rfl, hg, c0⟩ := vint_cell HH.out h1
    have HV : Hid (∀ t, Ax.has (l.drop (i + 1)) (-1) = t → Ax.lone l = if t = true then -1 else (i : Int)) := fun t ht => by
      cases t with
      | true => rw [if_pos rfl]; exact lone_two h1 ht
      | false => rw [if_neg (by simp)]; exact lone_one HG.out h1 h2 ht
    have hc : ∃ (a : Option Addr) (c : Nat), Hid (∀ (W : World), W = w1 → VRw 1 cvI W (.slice a (l.length - (i + 1)) c) (l.drop (i + 1))) ∧ Hid (a = if cap = i + 1 then some ⟨g, off, none⟩ else some ⟨g, off + (i + 1), none⟩) ∧ Hid (c = if cap = i + 1 then 0 else cap - (i + 1)) := by
      by_cases q : cap = i + 1
      · refine ⟨_, _, fun W hW => ?_, by rw [Hid, if_pos q], by rw [Hid, if_pos q]⟩
        have e1 : l.drop (i + 1) = [] := List.drop_eq_nil_of_le (by omega)
        have e2 : l.length - (i + 1) = 0 := by omega
        rw [e1, e2]
        exact VRw.nil _ _ _
      · exact ⟨_, _, fun W hW => hW ▸ row_dropA HH.out hg (i + 1) (by omega), by rw [Hid, if_neg q], by rw [Hid, if_neg q]⟩
    obtain ⟨a, c, HRow, HA, HC⟩ := hc
    have hcall := contA_any a (l.length - (i + 1)) c (l.drop (i + 1)) (-1) w1 (HRow.out _ rfl) (by rw [List.length_drop]; omega)
    generalize Ax.has (l.drop (i + 1)) (-1) = t at *
    have HL := hidden (HV.out t rfl)
    have hi1 : (i : Int) + 1 ≤ (l.length : Int) := by omega
    clear h1 h2 HR HV c0 HRow HG HH
    by_cases q : cap = i + 1
    · have hA := HA.out
      have hC := HC.out
      rw [if_pos q] at hA hC
      subst hA hC
      clear HA HC
      cases t
      all_goals
        go_wp2_with (go_at_call 51; with_reducible refine hcall.mono ?_; rintro e w2 ⟨rfl, rfl⟩)
        go_ret
        exact ⟨ret_intA (by rw [HL.out]; rfl), rfl⟩
    · have hA := HA.out
      have hC := HC.out
      rw [if_neg q] at hA hC
      subst hA hC
      clear HA HC
      cases t
      all_goals
        go_wp2_with (go_at_call 51; with_reducible refine hcall.mono ?_; rintro e w2 ⟨rfl, rfl⟩)
        go_ret
        exact ⟨ret_intA (by rw [HL.out]; rfl), rfl⟩

set_option maxRecDepth 20000 in
set_option maxHeartbeats 4000000 in
theorem ileast_any (ao : Option Addr) (n cap : Nat) (l : List Int) (s : Int) (w : World) (h : VRw 1 cvI w (.slice ao n cap) l) (hn : l.length ≤ 1048576) :
    Calls Try.prog 29 #[.slice ao n cap, .int .i64 s] w fun e w' => e = .returned (.int .i64 (leTo s l l.length)) ∧ w' = w := by
  obtain rfl := h.len
  have HH := hidden h
  clear h
  go_enter Try.func29, Try.ntmps29
  go_wp2_with fail
  go_loopw [5, 6, 7, 10] (fun pv _ _ iv wr => ∃ (i : Nat) (p : Int), i ≤ l.length ∧ iv = .int .i64 i ∧ pv = .int .i64 p ∧ wr = w ∧ Hid (leTo s l i = p)) (fun _ _ _ iv _ => l.length - (intOf iv).toNat)
  case atStart => exact ⟨0, -1, Nat.zero_le _, rfl, rfl, rfl, rfl⟩
  case round =>
    obtain ⟨i, p, hi, rfl, rfl, rfl, hok⟩ := hrel
    have hpb := leTo_bd s l i
    rw [hok.out] at hpb
    by_cases hlt : i < l.length
    · have hlti : (i : Int) < (l.length : Int) := by omega
      obtain ⟨y, hy⟩ := some_of l i hlt
      obtain ⟨g, off, rfl, hg, c0⟩ := vint_cell HH.out hy
      have HX := hidden hy
      clear hy
      by_cases q1 : s < y
      · by_cases q2 : p < 0
        · have HN : Hid (leTo s l (i + 1) = (i : Int)) := leTo_new HX.out q1 (by rw [hok.out]; exact q2)
          go_wp2_with fail
          go_roundw
          case rel => exact ⟨i + 1, (i : Int), by omega, rfl, rfl, by simp, HN⟩
          case measure => simp [intOf]; omega
        · obtain ⟨P, rfl⟩ := Int.eq_ofNat_of_zero_le (show 0 ≤ p by omega)
          obtain ⟨z, hz⟩ := some_of l P (by omega)
          obtain ⟨g2, off2, he2, -, c1⟩ := vint_cell HH.out hz
          simp only [Option.some.injEq, Addr.mk.injEq, and_true] at he2
          obtain ⟨rfl, rfl⟩ := he2
          have HZ := hidden hz
          have hP1 : (P : Int) < (l.length : Int) := by omega
          clear hz
          by_cases q3 : y < z
          · have HN : Hid (leTo s l (i + 1) = (i : Int)) := leTo_less HX.out q1 hok.out HZ.out q3
            go_wp2_with fail
            go_roundw
            case rel => exact ⟨i + 1, (i : Int), by omega, rfl, rfl, by simp, HN⟩
            case measure => simp [intOf]; omega
          · have HN : Hid (leTo s l (i + 1) = (P : Int)) := leTo_not HX.out hok.out HZ.out q3
            go_wp2_with fail
            go_roundw
            case rel => exact ⟨i + 1, (P : Int), by omega, rfl, rfl, by simp, HN⟩
            case measure => simp [intOf]; omega
      · have HN : Hid (leTo s l (i + 1) = p) := (leTo_low HX.out q1).trans hok.out
        go_wp2_with fail
        go_roundw
        case rel => exact ⟨i + 1, p, by omega, rfl, rfl, by simp, HN⟩
        case measure => simp [intOf]; omega
    · have hlti : ¬ (i : Int) < (l.length : Int) := by omega
      have hil : i = l.length := by omega
      subst hil
      go_wp2_with fail
      go_ret
      exact ⟨ret_intA hok.out.symm, rfl⟩

set_option maxRecDepth 20000 in
set_option maxHeartbeats 1000000 in
theorem ilack_any (ao : Option Addr) (n cap : Nat) (l : List Int) (t : Int) (w : World) (h : VRw 1 cvI w (.slice ao n cap) l) (hn : l.length ≤ 100) (ht : 0 ≤ t ∧ t ≤ 10000000) (hb : ∀ x ∈ l, 0 ≤ x ∧ x ≤ 100000) :
    Calls Try.prog 31 #[.int .i64 t, .slice ao n cap] w fun e w' => e = .returned (.int .i64 (t - l.sum)) ∧ w' = w := by
  obtain rfl := h.len
  have HH := hidden h
  have HB := hidden hb
  clear h hb
  go_enter Try.func31, Try.ntmps31
  go_wp2_with fail
  go_loopw [0, 6, 9] (fun tv _ iv wr => ∃ (i : Nat) (s : Int), i ≤ l.length ∧ iv = .int .i64 i ∧ tv = .int .i64 s ∧ wr = w ∧ Hid (s = t - (l.take i).sum) ∧ (s ≤ 10000000 ∧ -100000 * (i : Int) ≤ s)) (fun _ _ iv _ => l.length - (intOf iv).toNat)
  case atStart => exact ⟨0, t, Nat.zero_le _, rfl, rfl, rfl, by simp [Hid], by omega⟩
  case round =>
    obtain ⟨i, s, hi, rfl, rfl, rfl, hok, hs⟩ := hrel
    by_cases hlt : i < l.length
    · have hlti : (i : Int) < (l.length : Int) := by omega
      obtain ⟨y, hy⟩ := some_of l i hlt
      obtain ⟨g, off, rfl, hg, c0⟩ := vint_cell HH.out hy
      have hyb := HB.out y (List.mem_of_getElem? hy)
      have HN : Hid (s - y = t - (l.take (i + 1)).sum) := by
        have := hok.out
        rw [Hid, take_snA hy, List.sum_append, this]
        simp
        omega
      clear hy
      go_wp2_with fail
      go_roundw
      case rel => exact ⟨i + 1, s - y, by omega, rfl, rfl, by simp, HN, by omega⟩
      case measure => simp [intOf]; omega
    · have hlti : ¬ (i : Int) < (l.length : Int) := by omega
      have hil : i = l.length := by omega
      subst hil
      go_wp2_with fail
      go_ret
      exact ⟨ret_intA (by have := hok.out; rw [List.take_length] at this; exact this), rfl⟩
end Go.Proofs.Ytinnmebpipnccaa
