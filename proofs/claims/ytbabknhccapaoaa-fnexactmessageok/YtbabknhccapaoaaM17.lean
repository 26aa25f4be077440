/-
  Messages that are right, both sides.
-/
import Derived.Test.YtbabknhccapaoaaM16
import Derived.Test.YtbabknhccapaoaaM12
namespace Go.Proofs.Ytbabknhccapaoaa
open Go.RowKit Va Ms
set_option linter.all false

theorem not_empty {y : ByteArray} (h : ¬ y = .empty) : y.toList.isEmpty = false := by
  rw [ByteArray.toList_eq]
  cases q : y.data.toList.isEmpty with
  | false => rfl
  | true =>
    have e : y.data.toList = [] := by simpa using q
    have e2 : y.data = #[] := Array.toList_inj.1 (by rw [e])
    exact absurd (show y = .empty by obtain ⟨d⟩ := y; simp only at e2; rw [e2]; rfl) h
theorem fields_nil : fieldsB [] = true := rfl
theorem fields_many {l : List ByteArray} (h : 30 < l.length) : fieldsB l = false := by
  unfold fieldsB
  rw [decide_eq_false (show ¬ l.length = 0 by omega), decide_eq_false (show ¬ l.length ≤ 30 by omega)]
  rfl
theorem fields_last {l : List ByteArray} {m : Nat} {y : ByteArray} (h : l.length = m + 1) (h2 : m + 1 ≤ 30) (hy : l[m]? = some y) : fieldsB l = !decide (y = .empty) := by
  have hm : m + 1 - 1 = m := by omega
  unfold fieldsB
  rw [h, hm, decide_eq_false (show ¬ m + 1 = 0 by omega), decide_eq_true h2, List.getD_eq_getElem?_getD, hy]
  rfl

set_option maxRecDepth 20000 in
set_option maxHeartbeats 4000000 in
theorem ifields_any (ao : Option Addr) (n cap : Nat) (l : List ByteArray) (w : World) (h : VRw 1 cvS w (.slice ao n cap) l) (hn : l.length ≤ 1048576) :
    Calls Try.prog 33 #[.slice ao n cap] w fun e w' => e = .returned (.bool (fieldsB l)) ∧ w = w' := by
  obtain rfl := h.len
  by_cases h0 : l.length = 0
  · obtain rfl := List.eq_nil_of_length_eq_zero h0
    clear h h0
    go_enter Try.func33, Try.ntmps33
    go_wp2
    go_ret
    exact ⟨rfl, rfl⟩
  by_cases h1 : 30 < l.length
  · have HV := hidden (fields_many h1)
    have h1i : ¬ ((l.length : Int) ≤ 30) := by omega
    have h0i : ((l.length : Int) == 0) = false := beq_eq_false_iff_ne.2 (by omega)
    clear h h0 h1
    go_enter Try.func33, Try.ntmps33
    go_wp2
    go_ret
    exact ⟨by rw [HV.out]; first | done | rfl, rfl⟩
  obtain ⟨m, hm⟩ : ∃ m, l.length = m + 1 := ⟨l.length - 1, by omega⟩
  obtain ⟨y, hy⟩ := some_of l m (by omega)
  obtain ⟨g, off, rfl, hg, c0⟩ := str_cell h hy
  have HV := hidden (fields_last hm (by omega) hy)
  have hm30 : m + 1 ≤ 30 := by omega
  rw [hm]
  clear h h0 h1 hy hm hn
  have h1i : (((m + 1 : Nat) : Int) ≤ 30) := by omega
  have h0i : ((m : Int) + 1 == 0) = false := beq_eq_false_iff_ne.2 (by omega)
  by_cases q : y = .empty
  · rw [decide_eq_true q] at HV
    subst q
    go_enter Try.func33, Try.ntmps33
    go_wp2
    go_ret
    exact ⟨by rw [HV.out]; first | done | rfl, rfl⟩
  · rw [decide_eq_false q] at HV
    have q2 := not_empty q
    go_enter Try.func33, Try.ntmps33
    go_wp2
    go_ret
    exact ⟨by rw [HV.out]; first | done | rfl, rfl⟩

/- the specification -/
set_option maxRecDepth 20000 in
set_option maxHeartbeats 8000000 in
theorem smess_any (ao : Option Addr) (n cap : Nat) (l : List Pt) (w : World) (h : PRw w (.slice ao n cap) l) (hn : l.length ≤ 1048576) (ht : ∀ x ∈ l, PSm x) :
    Calls Try.prog 13 #[.agg #[.slice ao n cap]] w fun e w' => e = .returned (.bool (messB l)) ∧ Below w.heap.size w w' := by
  obtain rfl := h.len
  have HV : Hid (messB l = (decide (1 ≤ l.length) && (decide (l.length ≤ 20) && allP l l.length))) := rfl
  have HT := hidden ht
  have b0 : Below w.heap.size w (w.alloc (.cells #[.slice ao l.length cap] 42)) := (Below.refl _ _).alloc (Nat.le_refl _) _
  have P0 := hidden (PB.new w #[.slice ao l.length cap] 42)
  have HH := hidden h
  clear h ht
  by_cases h1 : l.length < 1
  · have HR : Hid (messB l = false) := by rw [Hid, HV.out, decide_eq_false (by omega)]; rfl
    have h1i : (l.length : Int) < 1 := by omega
    clear HV
    go_enter Try.func13, Try.ntmps13
    go_wp2_with fail
    go_ret
    exact ⟨by rw [HR.out]; first | done | rfl, b0⟩
  have h1i : ¬ (l.length : Int) < 1 := by omega
  by_cases h2 : 20 < l.length
  · have HR : Hid (messB l = false) := by rw [Hid, HV.out, decide_eq_true (show 1 ≤ l.length by omega), decide_eq_false (by omega)]; rfl
    have h2i : (20 : Int) < (l.length : Int) := by omega
    clear HV
    go_enter Try.func13, Try.ntmps13
    go_wp2_with fail
    go_ret
    exact ⟨by rw [HR.out]; first | done | rfl, b0⟩
  have h2i : ¬ (20 : Int) < (l.length : Int) := by omega
  have HM : Hid (messB l = allP l l.length) := by rw [Hid, HV.out, decide_eq_true (show 1 ≤ l.length by omega), decide_eq_true (show l.length ≤ 20 by omega)]; rfl
  clear HV
  go_enter Try.func13, Try.ntmps13
  go_wp2_with fail
  go_loopw [3, 4] (fun iv _ wr => ∃ i : Nat, i ≤ l.length ∧ iv = .int .i64 i ∧ Hid (allP l i = true) ∧ Hid (PB wr w.heap.size #[.slice ao l.length cap] 42) ∧ Below w.heap.size w wr) (fun iv _ _ => l.length - (intOf iv).toNat)
  case atStart => exact ⟨0, Nat.zero_le _, rfl, allP_zero l, P0, b0⟩
  case round =>
    clear P0 b0
    obtain ⟨i, hi, rfl, HA, HP, hb⟩ := hrel
    have p0 : wr.cell? ⟨w.heap.size, 0, none⟩ = some (.slice ao l.length cap) := HP.out.cell 0
    by_cases hlt : i < l.length
    · have hlti : (i : Int) < (l.length : Int) := by omega
      obtain ⟨x, hx⟩ := some_of l i hlt
      obtain ⟨g, off, fa, fc, rfl, hg, hr1, c0, c1⟩ := (HH.out.below hb).at hx
      have hS := HT.out x (List.mem_of_getElem? hx)
      have k := sname_any x.n hS.1
      have hfl := hS.2.1
      have HX := hidden hx
      have HF := hidden hr1
      have no : partB x = false → Hid (messB l = false) := fun q => by rw [Hid, HM.out]; exact allP_false HX.out q
      have yes : partB x = true → Hid (allP l (i + 1) = true) := fun q => by rw [Hid, allP_succ HX.out, HA.out, q]; rfl
      have HPB : Hid (partB x = (nameB x.n && fieldsB x.fs)) := rfl
      clear hx hr1 hS
      cases hq : nameB x.n with
      | false =>
        rw [hq] at k
        have HR := no (by rw [HPB.out, hq]; rfl)
        clear no yes hq
        go_wp2_with (go_at_call 30; (with_reducible refine (k _).mono ?_); rintro e w1 ⟨rfl, rfl⟩)
        go_ret
        exact ⟨by rw [HR.out]; first | done | rfl, hb⟩
      | true =>
        rw [hq] at k
        have HPB2 : Hid (partB x = fieldsB x.fs) := by rw [Hid, HPB.out, hq]; rfl
        clear HPB hq
        by_cases g1 : 30 < x.fs.length
        · have HR := no (by rw [HPB2.out]; exact fields_many g1)
          have g1i : (30 : Int) < (x.fs.length : Int) := by omega
          clear no yes g1
          go_wp2_with (go_at_call 30; (with_reducible refine (k _).mono ?_); rintro e w1 ⟨rfl, rfl⟩)
          go_ret
          exact ⟨by rw [HR.out]; first | done | rfl, hb⟩
        have g1i : ¬ (30 : Int) < (x.fs.length : Int) := by omega
        by_cases g0 : x.fs.length = 0
        · have HY := yes (by rw [HPB2.out, List.eq_nil_of_length_eq_zero g0]; rfl)
          rw [g0] at c1
          clear no yes
          go_wp2_with (go_at_call 30; (with_reducible refine (k _).mono ?_); rintro e w1 ⟨rfl, rfl⟩)
          go_roundw
          case rel => exact ⟨i + 1, by omega, rfl, HY, HP, hb⟩
          case measure => simp [intOf]; omega
        obtain ⟨m, hm⟩ : ∃ m, x.fs.length = m + 1 := ⟨x.fs.length - 1, by omega⟩
        obtain ⟨y, hy⟩ := some_of x.fs m (by omega)
        obtain ⟨gf, offf, rfl, hgf, d0⟩ := str_cell HF.out hy
        have HL := hidden (fields_last hm (by omega) hy)
        rw [hm] at c1
        have hm30 : ¬ (30 : Int) < (m : Int) + 1 := by omega
        have hm0 : (0 : Int) < (m : Int) + 1 := by omega
        clear hy g1 g0 g1i HF
        by_cases q : y = .empty
        · have HR := no (by rw [HPB2.out, HL.out, decide_eq_true q]; rfl)
          subst q
          clear no yes hm
          go_wp2_with (go_at_call 30; (with_reducible refine (k _).mono ?_); rintro e w1 ⟨rfl, rfl⟩)
          go_ret
          exact ⟨by rw [HR.out]; first | done | rfl, hb⟩
        · have HY := yes (by rw [HPB2.out, HL.out, decide_eq_false q]; rfl)
          have q2 := not_empty q
          clear no yes hm q
          go_wp2_with (go_at_call 30; (with_reducible refine (k _).mono ?_); rintro e w1 ⟨rfl, rfl⟩)
          go_roundw
          case rel => exact ⟨i + 1, by omega, rfl, HY, HP, hb⟩
          case measure => simp [intOf]; omega
    · have hlti : ¬ (i : Int) < (l.length : Int) := by omega
      have hil : i = l.length := by omega
      have HR : Hid (messB l = true) := by rw [Hid, HM.out, ← hil]; exact HA.out
      clear hil
      go_wp2_with fail
      go_ret
      exact ⟨by rw [HR.out]; first | done | rfl, hb⟩

/- the program -/
set_option maxRecDepth 20000 in
set_option maxHeartbeats 8000000 in
theorem imess_any (ao : Option Addr) (n cap : Nat) (l : List Pt) (w : World) (h : PRw w (.slice ao n cap) l) (hn : l.length ≤ 1048576) (ht : ∀ x ∈ l, PSm x) :
    Calls Try.prog 15 #[.agg #[.slice ao n cap]] w fun e w' => e = .returned (.bool (messB l)) ∧ Below w.heap.size w w' := by
  obtain rfl := h.len
  have HV : Hid (messB l = (decide (1 ≤ l.length) && (decide (l.length ≤ 20) && allP l l.length))) := rfl
  have HT := hidden ht
  have b0 : Below w.heap.size w (w.alloc (.cells #[.slice ao l.length cap] 42)) := (Below.refl _ _).alloc (Nat.le_refl _) _
  have HH := hidden h
  clear h ht
  by_cases h1 : l.length = 0
  · have HR : Hid (messB l = false) := by rw [Hid, HV.out, decide_eq_false (by omega)]; rfl
    have h1i : ((l.length : Int) == 0) = true := by rw [h1]; rfl
    clear HV
    go_enter Try.func15, Try.ntmps15
    go_wp2_with fail
    go_ret
    exact ⟨by rw [HR.out]; first | done | rfl, by repeat (first | exact Below.refl _ _ | assumption | refine st_drew ?_ | refine st_drewN ?_ _ | refine Below.setCell ?_ (by first | omega | (simp; done) | (simp; omega)) _ | refine Below.alloc ?_ (by first | omega | (simp; done) | (simp; omega)) _)⟩
  have h1i : ((l.length : Int) == 0) = false := beq_eq_false_iff_ne.2 (by omega)
  by_cases h2 : 20 < l.length
  · have HR : Hid (messB l = false) := by rw [Hid, HV.out, decide_eq_true (show 1 ≤ l.length by omega), decide_eq_false (by omega)]; rfl
    have h2i : (20 : Int) < (l.length : Int) := by omega
    clear HV h1
    go_enter Try.func15, Try.ntmps15
    go_wp2_with fail
    go_ret
    exact ⟨by rw [HR.out]; first | done | rfl, b0⟩
  have h2i : ¬ (20 : Int) < (l.length : Int) := by omega
  have HM : Hid (messB l = allP l l.length) := by rw [Hid, HV.out, decide_eq_true (show 1 ≤ l.length by omega), decide_eq_true (show l.length ≤ 20 by omega)]; rfl
  clear HV h1
  go_enter Try.func15, Try.ntmps15
  go_wp2_with fail
  go_loopw [4, 18] (fun _ iv wr => ∃ i : Nat, i ≤ l.length ∧ iv = .int .i64 i ∧ Hid (allP l i = true) ∧ Below w.heap.size w wr) (fun _ iv _ => l.length - (intOf iv).toNat)
  case atStart => exact ⟨0, Nat.zero_le _, rfl, allP_zero l, b0⟩
  case round =>
    clear b0
    obtain ⟨i, hi, rfl, HA, hb⟩ := hrel
    by_cases hlt : i < l.length
    · have hlti : (i : Int) < (l.length : Int) := by omega
      obtain ⟨x, hx⟩ := some_of l i hlt
      obtain ⟨g, off, fa, fc, rfl, hg, hr1, c0, c1⟩ := (HH.out.below hb).at hx
      have hS := HT.out x (List.mem_of_getElem? hx)
      have k := iname_any x.n hS.1
      have bx : Below wr.heap.size wr (wr.alloc (.cells #[.string x.n, .slice fa x.fs.length fc] 67)) := (Below.refl _ _).alloc (Nat.le_refl _) _
      have k2 := ifields_any fa x.fs.length fc x.fs _ (hr1.below bx) hS.2.1
      have bA := ontoT hb bx
      have HX := hidden hx
      have no : partB x = false → Hid (messB l = false) := fun q => by rw [Hid, HM.out]; exact allP_false HX.out q
      have yes : partB x = true → Hid (allP l (i + 1) = true) := fun q => by rw [Hid, allP_succ HX.out, HA.out, q]; rfl
      have HPB : Hid (partB x = (nameB x.n && fieldsB x.fs)) := rfl
      clear hx hr1 hS bx
      cases hq : nameB x.n with
      | false =>
        rw [hq] at k
        have HR := no (by rw [HPB.out, hq]; rfl)
        clear no yes hq
        go_wp2_with (go_at_call 32; (with_reducible refine (k _).mono ?_); rintro e w1 ⟨rfl, rfl⟩)
        go_ret
        exact ⟨by rw [HR.out]; first | done | rfl, bA⟩
      | true =>
        rw [hq] at k
        cases hq2 : fieldsB x.fs with
        | false =>
          rw [hq2] at k2
          have HR := no (by rw [HPB.out, hq, hq2]; rfl)
          clear no yes hq hq2
          go_wp2_with (first | (go_at_call 32; (with_reducible refine (k _).mono ?_); rintro e w1 ⟨rfl, rfl⟩) | (go_at_call 33; (with_reducible refine k2.mono ?_); rintro e w1 ⟨rfl, rfl⟩))
          go_ret
          exact ⟨by rw [HR.out]; first | done | rfl, bA⟩
        | true =>
          rw [hq2] at k2
          have HY := yes (by rw [HPB.out, hq, hq2]; rfl)
          clear no yes hq hq2
          go_wp2_with (first | (go_at_call 32; (with_reducible refine (k _).mono ?_); rintro e w1 ⟨rfl, rfl⟩) | (go_at_call 33; (with_reducible refine k2.mono ?_); rintro e w1 ⟨rfl, rfl⟩))
          go_roundw
          case rel => exact ⟨i + 1, by omega, rfl, HY, bA⟩
          case measure => simp [intOf]; omega
    · have hlti : ¬ (i : Int) < (l.length : Int) := by omega
      have hil : i = l.length := by omega
      have HR : Hid (messB l = true) := by rw [Hid, HM.out, ← hil]; exact HA.out
      clear hil
      go_wp2_with fail
      go_ret
      exact ⟨by rw [HR.out]; first | done | rfl, hb⟩
end Go.Proofs.Ytbabknhccapaoaa
