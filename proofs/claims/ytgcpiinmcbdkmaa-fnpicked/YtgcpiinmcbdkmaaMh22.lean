/-
  Merged: Q16.
-/
import Derived.Test.YtgcpiinmcbdkmaaMh7
namespace Go.Proofs.Ytgcpiinmcbdkmaa
open Go.RowKit Va Bl
set_option linter.all false
theorem take_snocQ {α : Type} {l : List α} {i : Nat} {x : α} (h : l[i]? = some x) : l.take (i + 1) = l.take i ++ [x] := by
  rw [List.take_add_one, h]; rfl
theorem any_trueQ {α : Type} {l : List α} {i : Nat} {x : α} {p : α → Bool} (h : l[i]? = some x) (hp : p x = true) : l.any p = true := by
  simp only [List.any_eq_true]
  exact ⟨x, List.mem_of_getElem? h, hp⟩
theorem any_takeQ {α : Type} {l : List α} {i : Nat} {x : α} {p : α → Bool} (h : (l.take i).any p = false) (hx : l[i]? = some x) (hp : p x = false) : (l.take (i + 1)).any p = false := by
  rw [take_snocQ hx, List.any_append, h]
  simp [hp]
theorem hasQ_true {l : List Int} {i : Nat} {x : Int} (h : l[i]? = some x) : hasB l x = true := any_trueQ h (by simp)
theorem hasQ_take {l : List Int} {i : Nat} {x y : Int} (h : hasB (l.take i) x = false) (hy : l[i]? = some y) (hq : ¬ x = y) : hasB (l.take (i + 1)) x = false := any_takeQ h hy (by simp; exact fun e => hq e.symm)
set_option maxRecDepth 20000 in
set_option maxHeartbeats 1000000 in
theorem shas_any (ao : Option Addr) (n cap : Nat) (l : List Int) (x : Int) (w : World) (h : IRw w (.slice ao n cap) l) (hn : l.length ≤ 1048576) :
    Calls Try.prog 96 #[.slice ao n cap, .int .i64 x] w fun e w' => e = .returned (.bool (hasB l x)) ∧ w' = w := by
  obtain rfl := h.len
  have HH := hidden h
  clear h
  go_enter Try.func96, Try.ntmps96
  go_wp2_with fail
  go_loopw [5] (fun iv wr => ∃ i : Nat, i ≤ l.length ∧ iv = .int .i64 i ∧ wr = w ∧ Hid (hasB (l.take i) x = false)) (fun iv _ => l.length - (intOf iv).toNat)
  case atStart => exact ⟨0, Nat.zero_le _, rfl, rfl, rfl⟩
  case round =>
    obtain ⟨i, hi, rfl, rfl, hok⟩ := hrel
    by_cases hlt : i < l.length
    · have hlti : (i : Int) < (l.length : Int) := by omega
      obtain ⟨y, hy⟩ := some_of l i hlt
      obtain ⟨g, off, rfl, hg, hc⟩ := HH.out.at hy
      have c0 := hc i y hy
      have HX := hidden hy
      clear hy hc
      by_cases hq : x = y
      · have HY : Hid (hasB l x = true) := by rw [hq]; exact hasQ_true HX.out
        subst hq
        go_wp2_with fail
        go_ret
        exact ⟨ret_boolQ HY.out.symm, rfl⟩
      · have HN : Hid (hasB (l.take (i + 1)) x = false) := hasQ_take hok.out HX.out hq
        have hq2 : ¬ y = x := fun e => hq e.symm
        go_wp2_with fail
        go_roundw
        case rel => exact ⟨i + 1, by omega, rfl, by simp, HN⟩
        case measure => simp [intOf]; omega
    · have hlti : ¬ (i : Int) < (l.length : Int) := by omega
      have hil : i = l.length := by omega
      subst hil
      go_wp2_with fail
      go_ret
      exact ⟨ret_boolQ (by have := hok.out; rw [List.take_length] at this; rw [this]), rfl⟩
set_option maxRecDepth 20000 in
set_option maxHeartbeats 1000000 in
theorem iindex_any (ao : Option Addr) (n cap : Nat) (l : List Int) (x : Int) (w : World) (h : IRw w (.slice ao n cap) l) (hn : l.length ≤ 1048576) :
    Calls Try.prog 104 #[.slice ao n cap, .int .i64 x] w fun e w' => ∃ k : Int, e = .returned (.int .i64 k) ∧ (-1 ≤ k ∧ k ≤ 1048576) ∧ decide (0 ≤ k) = hasB l x ∧ w' = w := by
  obtain rfl := h.len
  have HH := hidden h
  clear h
  go_enter Try.func104, Try.ntmps104
  go_wp2_with fail
  go_loopw [5, 8] (fun _ iv wr => ∃ i : Nat, i ≤ l.length ∧ iv = .int .i64 i ∧ wr = w ∧ Hid (hasB (l.take i) x = false)) (fun _ iv _ => l.length - (intOf iv).toNat)
  case atStart => exact ⟨0, Nat.zero_le _, rfl, rfl, rfl⟩
  case round =>
    obtain ⟨i, hi, rfl, rfl, hok⟩ := hrel
    by_cases hlt : i < l.length
    · have hlti : (i : Int) < (l.length : Int) := by omega
      obtain ⟨y, hy⟩ := some_of l i hlt
      obtain ⟨g, off, rfl, hg, hc⟩ := HH.out.at hy
      have c0 := hc i y hy
      have HX := hidden hy
      clear hy hc
      by_cases hq : x = y
      · have HY : Hid (hasB l x = true) := by rw [hq]; exact hasQ_true HX.out
        subst hq
        go_wp2_with fail
        go_ret
        exact ⟨(i : Int), rfl, ⟨by omega, by omega⟩, by rw [HY.out]; simp, rfl⟩
      · have HN : Hid (hasB (l.take (i + 1)) x = false) := hasQ_take hok.out HX.out hq
        have hq2 : ¬ y = x := fun e => hq e.symm
        go_wp2_with fail
        go_roundw
        case rel => exact ⟨i + 1, by omega, rfl, by simp, HN⟩
        case measure => simp [intOf]; omega
    · have hlti : ¬ (i : Int) < (l.length : Int) := by omega
      have hil : i = l.length := by omega
      subst hil
      go_wp2_with fail
      go_ret
      exact ⟨-1, rfl, ⟨by omega, by omega⟩, by have := hok.out; rw [List.take_length] at this; rw [this]; rfl, rfl⟩
set_option maxRecDepth 20000 in
set_option maxHeartbeats 1000000 in
theorem icont_any (ao : Option Addr) (n cap : Nat) (l : List Int) (x : Int) (w : World) (h : IRw w (.slice ao n cap) l) (hn : l.length ≤ 1048576) :
    Calls Try.prog 61 #[.slice ao n cap, .int .i64 x] w fun e w' => e = .returned (.bool (hasB l x)) ∧ w' = w := by
  have k := iindex_any ao n cap l x w h hn
  clear h
  generalize hasB l x = t at *
  go_enter Try.func61, Try.ntmps61
  go_wp2_with (go_at_call 104; refine k.mono ?_; rintro e w1 ⟨k, rfl, hk, hd, rfl⟩; have HD := hidden hd; clear hd)
  all_goals go_ret
  all_goals exact ⟨ret_boolQ (by first | exact HD.out | (rw [← HD.out]; done) | (rw [← HD.out]; simp; done)), rfl⟩
set_option maxRecDepth 20000 in
set_option maxHeartbeats 1000000 in
theorem iagainst_any (n : Nd) (na : Option Addr) (nn nc : Nat) (x : Int) (w : World) (h : IRw w (.slice na nn nc) n.ag) (hn : n.ag.length ≤ 1048576) :
    Calls Try.prog 143 #[aN n (.slice na nn nc), .int .i64 x] w fun e w' => e = .returned (.bool (hasB n.ag x)) ∧ Below w.heap.size w w' := by
  have k := fun W hW => icont_any na nn nc n.ag x W hW hn
  have HH := hidden (fun W (hW : Below w.heap.size w W) => h.below hW)
  clear h
  unfold aN
  go_enter Try.func143, Try.ntmps143
  go_wp2_with (go_at_call 61; refine (k _ (HH.out _ (by repeat (first | exact Below.refl _ _ | assumption | refine st_drew ?_ | refine st_drewN ?_ _ | refine Below.setCell ?_ (by first | omega | (simp; done) | (simp; omega)) _ | refine Below.alloc ?_ (by first | omega | (simp; done) | (simp; omega)) _)))).mono ?_; rintro e w1 ⟨rfl, rfl⟩)
  go_ret
  exact ⟨rfl, by repeat (first | exact Below.refl _ _ | assumption | refine st_drew ?_ | refine st_drewN ?_ _ | refine Below.setCell ?_ (by first | omega | (simp; done) | (simp; omega)) _ | refine Below.alloc ?_ (by first | omega | (simp; done) | (simp; omega)) _)⟩
set_option maxRecDepth 20000 in
set_option maxHeartbeats 2000000 in
theorem iindexf_any (n : Nd) (na : Option Addr) (nn nc : Nat) (ao : Option Addr) (m cap : Nat) (l : List Int) (w : World) (hN : IRw w (.slice na nn nc) n.ag) (hnn : n.ag.length ≤ 1048576) (h : IRw w (.slice ao m cap) l) (hn : l.length ≤ 1048576) :
    Calls Try.prog 165 #[.slice ao m cap, .func (.func 143) #[aN n (.slice na nn nc)] #[]] w fun e w' => ∃ k : Int, e = .returned (.int .i64 k) ∧ (-1 ≤ k ∧ k ≤ 1048576) ∧ decide (0 ≤ k) = l.any (hasB n.ag) ∧ Below w.heap.size w w' := by
  obtain rfl := h.len
  have HH := hidden h
  have HN := hidden hN
  clear h hN
  have hK := fun x W hW => iagainst_any n na nn nc x W hW hnn
  unfold aN at *
  go_enter Try.func165, Try.ntmps165
  go_wp2_with fail
  go_loopw [5, 8] (fun _ iv wr => ∃ i : Nat, i ≤ l.length ∧ iv = .int .i64 i ∧ Below w.heap.size w wr ∧ Hid ((l.take i).any (hasB n.ag) = false)) (fun _ iv _ => l.length - (intOf iv).toNat)
  case atStart => exact ⟨0, Nat.zero_le _, rfl, Below.refl _ _, rfl⟩
  case round =>
    obtain ⟨i, hi, rfl, hb, hok⟩ := hrel
    by_cases hlt : i < l.length
    · have hlti : (i : Int) < (l.length : Int) := by omega
      obtain ⟨y, hy⟩ := some_of l i hlt
      obtain ⟨g, off, rfl, hg, hc⟩ := (HH.out.below hb).at hy
      have c0 := hc i y hy
      have HX := hidden hy
      have hK2 := hK y wr (HN.out.below hb)
      clear hy hc
      cases hp : hasB n.ag y with
      | true =>
        rw [hp] at hK2
        have HY : Hid (l.any (hasB n.ag) = true) := any_trueQ HX.out hp
        clear hp
        go_wp2_with (go_at_call 143; refine hK2.mono ?_; rintro e w1 ⟨rfl, hb1⟩; have bA := onto hb hb1; clear hb1)
        go_ret
        exact ⟨(i : Int), rfl, ⟨by omega, by omega⟩, by rw [HY.out]; simp, bA⟩
      | false =>
        rw [hp] at hK2
        have HZ : Hid ((l.take (i + 1)).any (hasB n.ag) = false) := any_takeQ hok.out HX.out hp
        clear hp
        go_wp2_with (go_at_call 143; refine hK2.mono ?_; rintro e w1 ⟨rfl, hb1⟩; have bA := onto hb hb1; clear hb1)
        go_roundw
        case rel => exact ⟨i + 1, by omega, rfl, bA, HZ⟩
        case measure => simp [intOf]; omega
    · have hlti : ¬ (i : Int) < (l.length : Int) := by omega
      have hil : i = l.length := by omega
      subst hil
      go_wp2_with fail
      go_ret
      exact ⟨-1, rfl, ⟨by omega, by omega⟩, by have := hok.out; rw [List.take_length] at this; rw [this]; rfl, hb⟩
set_option maxRecDepth 20000 in
set_option maxHeartbeats 1000000 in
theorem icontf_any (n : Nd) (na : Option Addr) (nn nc : Nat) (ao : Option Addr) (m cap : Nat) (l : List Int) (w : World) (hN : IRw w (.slice na nn nc) n.ag) (hnn : n.ag.length ≤ 1048576) (h : IRw w (.slice ao m cap) l) (hn : l.length ≤ 1048576) :
    Calls Try.prog 142 #[.slice ao m cap, .func (.func 143) #[aN n (.slice na nn nc)] #[]] w fun e w' => e = .returned (.bool (l.any (hasB n.ag))) ∧ Below w.heap.size w w' := by
  have k := iindexf_any n na nn nc ao m cap l w hN hnn h hn
  clear h hN
  generalize l.any (hasB n.ag) = t at *
  unfold aN at *
  go_enter Try.func142, Try.ntmps142
  go_wp2_with (go_at_call 165; refine k.mono ?_; rintro e w1 ⟨k, rfl, hk, hd, hb1⟩; have HD := hidden hd; clear hd)
  all_goals go_ret
  all_goals exact ⟨ret_boolQ (by first | exact HD.out | (rw [← HD.out]; done) | (rw [← HD.out]; simp; done)), hb1⟩
end Go.Proofs.Ytgcpiinmcbdkmaa
