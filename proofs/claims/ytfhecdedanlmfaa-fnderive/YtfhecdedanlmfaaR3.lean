/-
  The program's sets of facts: an array of 64 bools.
-/
import Derived.Test.YtfhecdedanlmfaaR2
import Derived.Test.YtfhecdedanlmfaaGx
import Derived.Laws.Rows
import Derived.Laws.Tables
import Derived.Great.BuildSlice
import Derived.BigFrame
namespace Go.Proofs.Ytfhecdedanlmfaa
open Go.RowKit Va Rc
set_option linter.all false

theorem ret_boolQ {a b : Bool} (h : a = b) : Ending.returned (.bool a) = .returned (.bool b) := by rw [h]
theorem ret_intQ {a b : Int} (h : a = b) : Ending.returned (.int .i64 a) = .returned (.int .i64 b) := by rw [h]
theorem take_snocQ {α : Type} {l : List α} {i : Nat} {x : α} (h : l[i]? = some x) : l.take (i + 1) = l.take i ++ [x] := by
  rw [List.take_add_one, h]; rfl
theorem any_trueQ {α : Type} {l : List α} {i : Nat} {x : α} {p : α → Bool} (h : l[i]? = some x) (hp : p x = true) : l.any p = true := by
  simp only [List.any_eq_true]
  exact ⟨x, List.mem_of_getElem? h, hp⟩
theorem any_takeQ {α : Type} {l : List α} {i : Nat} {x : α} {p : α → Bool} (h : (l.take i).any p = false) (hx : l[i]? = some x) (hp : p x = false) : (l.take (i + 1)).any p = false := by
  rw [take_snocQ hx, List.any_append, h]
  simp [hp]
theorem all_falseQ {α : Type} {l : List α} {i : Nat} {x : α} {p : α → Bool} (h : l[i]? = some x) (hp : p x = false) : l.all p = false := by
  rw [List.all_eq_false]
  exact ⟨x, List.mem_of_getElem? h, by simp [hp]⟩
theorem all_takeQ {α : Type} {l : List α} {i : Nat} {x : α} {p : α → Bool} (h : (l.take i).all p = true) (hx : l[i]? = some x) (hp : p x = true) : (l.take (i + 1)).all p = true := by
  rw [take_snocQ hx, List.all_append, h]
  simp [hp]

/-- The array A says of each fact whether it is in S. -/
structure SetA (A : Array Value) (S : Nat → Bool) : Prop where
  sz : A.size = 64
  at' : ∀ j, j < 64 → A[j]? = some (.bool (S j))

set_option maxRecDepth 20000 in
set_option maxHeartbeats 1000000 in
theorem ilacks_any (A : Array Value) (S : Nat → Bool) (x : Int) (w : World) (hA : SetA A S) (h0 : 0 ≤ x) (h1 : x < 64) :
    Calls Try.prog 22 #[.agg A, .int .i64 x] w fun e w' => e = .returned (.bool (!S x.toNat)) ∧ Below w.heap.size w w' := by
  obtain ⟨k, rfl⟩ := Int.eq_ofNat_of_zero_le h0
  have hk : k < 64 := by omega
  have hp := PB.new w A 42
  have hc : (w.alloc (.cells A 42)).cell? ⟨w.heap.size, k, none⟩ = some (.bool (S k)) := (hp.cell k).trans (hA.at' k hk)
  go_enter Try.func22, Try.ntmps22
  go_wp2_with fail
  go_ret
  exact ⟨rfl, by repeat (first | exact Below.refl _ _ | assumption | refine st_drew ?_ | refine st_drewN ?_ _ | refine Below.setCell ?_ (by first | omega | (simp; done) | (simp; omega)) _ | refine Below.alloc ?_ (by first | omega | (simp; done) | (simp; omega)) _)⟩

set_option maxRecDepth 20000 in
set_option maxHeartbeats 1000000 in
theorem ihasS_any (A : Array Value) (S : Nat → Bool) (x : Int) (w : World) (hA : SetA A S) (h0 : 0 ≤ x) (h1 : x < 64) :
    Calls Try.prog 37 #[.agg A, .int .i64 x] w fun e w' => e = .returned (.bool (S x.toNat)) ∧ Below w.heap.size w w' := by
  obtain ⟨k, rfl⟩ := Int.eq_ofNat_of_zero_le h0
  have hk : k < 64 := by omega
  have hp := PB.new w A 42
  have hc : (w.alloc (.cells A 42)).cell? ⟨w.heap.size, k, none⟩ = some (.bool (S k)) := (hp.cell k).trans (hA.at' k hk)
  go_enter Try.func37, Try.ntmps37
  go_wp2_with fail
  go_ret
  exact ⟨rfl, by repeat (first | exact Below.refl _ _ | assumption | refine st_drew ?_ | refine st_drewN ?_ _ | refine Below.setCell ?_ (by first | omega | (simp; done) | (simp; omega)) _ | refine Below.alloc ?_ (by first | omega | (simp; done) | (simp; omega)) _)⟩

set_option maxRecDepth 20000 in
set_option maxHeartbeats 2000000 in
theorem iindexfL_any (V : Value) (p : Int → Bool) (w : World) (ao : Option Addr) (m cap : Nat) (l : List Int)
    (hK : ∀ x ∈ l, ∀ W, Below w.heap.size w W → Calls Try.prog 22 #[V, .int .i64 x] W fun e W' => e = .returned (.bool (p x)) ∧ Below W.heap.size W W')
    (h : IRw w (.slice ao m cap) l) (hn : l.length ≤ 1048576) :
    Calls Try.prog 40 #[.slice ao m cap, .func (.func 22) #[V] #[]] w fun e w' => ∃ k : Int, e = .returned (.int .i64 k) ∧ (-1 ≤ k ∧ k ≤ 1048576) ∧ decide (0 ≤ k) = l.any p ∧ Below w.heap.size w w' := by
  obtain rfl := h.len
  have HH := hidden h
  have HK := hidden hK
  clear h hK
  go_enter Try.func40, Try.ntmps40
  go_wp2_with fail
  go_loopw [5, 8] (fun _ iv wr => ∃ i : Nat, i ≤ l.length ∧ iv = .int .i64 i ∧ Below w.heap.size w wr ∧ Hid ((l.take i).any p = false)) (fun _ iv _ => l.length - (intOf iv).toNat)
  case atStart => exact ⟨0, Nat.zero_le _, rfl, Below.refl _ _, rfl⟩
  case round =>
    obtain ⟨i, hi, rfl, hb, hok⟩ := hrel
    by_cases hlt : i < l.length
    · have hlti : (i : Int) < (l.length : Int) := by omega
      obtain ⟨y, hy⟩ := some_of l i hlt
      obtain ⟨g, off, rfl, hg, hc⟩ := (HH.out.below hb).at hy
      have c0 := hc i y hy
      have HX := hidden hy
      have hK2 := HK.out y (List.mem_of_getElem? hy) wr hb
      clear hy hc
      cases hp : p y with
      | true =>
        rw [hp] at hK2
        have HY : Hid (l.any p = true) := any_trueQ HX.out hp
        clear hp
        go_wp2_with (go_at_call 22; refine hK2.mono ?_; rintro e w1 ⟨rfl, hb1⟩; have bA := onto hb hb1; clear hb1)
        go_ret
        exact ⟨(i : Int), rfl, ⟨by omega, by omega⟩, by rw [HY.out]; simp, bA⟩
      | false =>
        rw [hp] at hK2
        have HZ : Hid ((l.take (i + 1)).any p = false) := any_takeQ hok.out HX.out hp
        clear hp
        go_wp2_with (go_at_call 22; refine hK2.mono ?_; rintro e w1 ⟨rfl, hb1⟩; have bA := onto hb hb1; clear hb1)
        go_roundw
        case rel => exact ⟨i + 1, by omega, rfl, bA, HZ⟩
        case measure => simp [intOf]; omega
    · have hlti : ¬ (i : Int) < (l.length : Int) := by omega
      have hil : i = l.length := by omega
      subst hil
      go_wp2_with fail
      go_ret
      exact ⟨-1, rfl, ⟨by omega, by omega⟩, by have := hok.out; rw [List.take_length] at this; rw [this]; rfl, hb⟩

set_option maxRecDepth 20000 in
set_option maxHeartbeats 1000000 in
theorem icontfL_any (V : Value) (p : Int → Bool) (w : World) (ao : Option Addr) (m cap : Nat) (l : List Int)
    (hK : ∀ x ∈ l, ∀ W, Below w.heap.size w W → Calls Try.prog 22 #[V, .int .i64 x] W fun e W' => e = .returned (.bool (p x)) ∧ Below W.heap.size W W')
    (h : IRw w (.slice ao m cap) l) (hn : l.length ≤ 1048576) :
    Calls Try.prog 36 #[.slice ao m cap, .func (.func 22) #[V] #[]] w fun e w' => e = .returned (.bool (l.any p)) ∧ Below w.heap.size w w' := by
  have k := iindexfL_any V p w ao m cap l hK h hn
  clear h hK
  generalize l.any p = t at *
  go_enter Try.func36, Try.ntmps36
  go_wp2_with (go_at_call 40; refine k.mono ?_; rintro e w1 ⟨k, rfl, hk, hd, hb1⟩; have HD := hidden hd; clear hd)
  all_goals go_ret
  all_goals exact ⟨ret_boolQ (by first | exact HD.out | (rw [← HD.out]; done) | (rw [← HD.out]; simp; done)), hb1⟩
set_option maxRecDepth 20000 in
set_option maxHeartbeats 2000000 in
theorem iindexfH_any (V : Value) (p : Int → Bool) (w : World) (ao : Option Addr) (m cap : Nat) (l : List Int)
    (hK : ∀ x ∈ l, ∀ W, Below w.heap.size w W → Calls Try.prog 37 #[V, .int .i64 x] W fun e W' => e = .returned (.bool (p x)) ∧ Below W.heap.size W W')
    (h : IRw w (.slice ao m cap) l) (hn : l.length ≤ 1048576) :
    Calls Try.prog 40 #[.slice ao m cap, .func (.func 37) #[V] #[]] w fun e w' => ∃ k : Int, e = .returned (.int .i64 k) ∧ (-1 ≤ k ∧ k ≤ 1048576) ∧ decide (0 ≤ k) = l.any p ∧ Below w.heap.size w w' := by
  obtain rfl := h.len
  have HH := hidden h
  have HK := hidden hK
  clear h hK
  go_enter Try.func40, Try.ntmps40
  go_wp2_with fail
  go_loopw [5, 8] (fun _ iv wr => ∃ i : Nat, i ≤ l.length ∧ iv = .int .i64 i ∧ Below w.heap.size w wr ∧ Hid ((l.take i).any p = false)) (fun _ iv _ => l.length - (intOf iv).toNat)
  case atStart => exact ⟨0, Nat.zero_le _, rfl, Below.refl _ _, rfl⟩
  case round =>
    obtain ⟨i, hi, rfl, hb, hok⟩ := hrel
    by_cases hlt : i < l.length
    · have hlti : (i : Int) < (l.length : Int) := by omega
      obtain ⟨y, hy⟩ := some_of l i hlt
      obtain ⟨g, off, rfl, hg, hc⟩ := (HH.out.below hb).at hy
      have c0 := hc i y hy
      have HX := hidden hy
      have hK2 := HK.out y (List.mem_of_getElem? hy) wr hb
      clear hy hc
      cases hp : p y with
      | true =>
        rw [hp] at hK2
        have HY : Hid (l.any p = true) := any_trueQ HX.out hp
        clear hp
        go_wp2_with (go_at_call 37; refine hK2.mono ?_; rintro e w1 ⟨rfl, hb1⟩; have bA := onto hb hb1; clear hb1)
        go_ret
        exact ⟨(i : Int), rfl, ⟨by omega, by omega⟩, by rw [HY.out]; simp, bA⟩
      | false =>
        rw [hp] at hK2
        have HZ : Hid ((l.take (i + 1)).any p = false) := any_takeQ hok.out HX.out hp
        clear hp
        go_wp2_with (go_at_call 37; refine hK2.mono ?_; rintro e w1 ⟨rfl, hb1⟩; have bA := onto hb hb1; clear hb1)
        go_roundw
        case rel => exact ⟨i + 1, by omega, rfl, bA, HZ⟩
        case measure => simp [intOf]; omega
    · have hlti : ¬ (i : Int) < (l.length : Int) := by omega
      have hil : i = l.length := by omega
      subst hil
      go_wp2_with fail
      go_ret
      exact ⟨-1, rfl, ⟨by omega, by omega⟩, by have := hok.out; rw [List.take_length] at this; rw [this]; rfl, hb⟩

set_option maxRecDepth 20000 in
set_option maxHeartbeats 1000000 in
theorem icontfH_any (V : Value) (p : Int → Bool) (w : World) (ao : Option Addr) (m cap : Nat) (l : List Int)
    (hK : ∀ x ∈ l, ∀ W, Below w.heap.size w W → Calls Try.prog 37 #[V, .int .i64 x] W fun e W' => e = .returned (.bool (p x)) ∧ Below W.heap.size W W')
    (h : IRw w (.slice ao m cap) l) (hn : l.length ≤ 1048576) :
    Calls Try.prog 36 #[.slice ao m cap, .func (.func 37) #[V] #[]] w fun e w' => e = .returned (.bool (l.any p)) ∧ Below w.heap.size w w' := by
  have k := iindexfH_any V p w ao m cap l hK h hn
  clear h hK
  generalize l.any p = t at *
  go_enter Try.func36, Try.ntmps36
  go_wp2_with (go_at_call 40; refine k.mono ?_; rintro e w1 ⟨k, rfl, hk, hd, hb1⟩; have HD := hidden hd; clear hd)
  all_goals go_ret
  all_goals exact ⟨ret_boolQ (by first | exact HD.out | (rw [← HD.out]; done) | (rw [← HD.out]; simp; done)), hb1⟩
set_option maxRecDepth 20000 in
set_option maxHeartbeats 2000000 in
theorem iindexfN_any (V : Value) (p : Int → Bool) (w : World) (ao : Option Addr) (m cap : Nat) (l : List Int)
    (hK : ∀ x ∈ l, ∀ W, Below w.heap.size w W → Calls Try.prog 41 #[V, .int .i64 x] W fun e W' => e = .returned (.bool (p x)) ∧ Below W.heap.size W W')
    (h : IRw w (.slice ao m cap) l) (hn : l.length ≤ 1048576) :
    Calls Try.prog 40 #[.slice ao m cap, .func (.func 41) #[V] #[]] w fun e w' => ∃ k : Int, e = .returned (.int .i64 k) ∧ (-1 ≤ k ∧ k ≤ 1048576) ∧ decide (0 ≤ k) = l.any p ∧ Below w.heap.size w w' := by
  obtain rfl := h.len
  have HH := hidden h
  have HK := hidden hK
  clear h hK
  go_enter Try.func40, Try.ntmps40
  go_wp2_with fail
  go_loopw [5, 8] (fun _ iv wr => ∃ i : Nat, i ≤ l.length ∧ iv = .int .i64 i ∧ Below w.heap.size w wr ∧ Hid ((l.take i).any p = false)) (fun _ iv _ => l.length - (intOf iv).toNat)
  case atStart => exact ⟨0, Nat.zero_le _, rfl, Below.refl _ _, rfl⟩
  case round =>
    obtain ⟨i, hi, rfl, hb, hok⟩ := hrel
    by_cases hlt : i < l.length
    · have hlti : (i : Int) < (l.length : Int) := by omega
      obtain ⟨y, hy⟩ := some_of l i hlt
      obtain ⟨g, off, rfl, hg, hc⟩ := (HH.out.below hb).at hy
      have c0 := hc i y hy
      have HX := hidden hy
      have hK2 := HK.out y (List.mem_of_getElem? hy) wr hb
      clear hy hc
      cases hp : p y with
      | true =>
        rw [hp] at hK2
        have HY : Hid (l.any p = true) := any_trueQ HX.out hp
        clear hp
        go_wp2_with (go_at_call 41; refine hK2.mono ?_; rintro e w1 ⟨rfl, hb1⟩; have bA := onto hb hb1; clear hb1)
        go_ret
        exact ⟨(i : Int), rfl, ⟨by omega, by omega⟩, by rw [HY.out]; simp, bA⟩
      | false =>
        rw [hp] at hK2
        have HZ : Hid ((l.take (i + 1)).any p = false) := any_takeQ hok.out HX.out hp
        clear hp
        go_wp2_with (go_at_call 41; refine hK2.mono ?_; rintro e w1 ⟨rfl, hb1⟩; have bA := onto hb hb1; clear hb1)
        go_roundw
        case rel => exact ⟨i + 1, by omega, rfl, bA, HZ⟩
        case measure => simp [intOf]; omega
    · have hlti : ¬ (i : Int) < (l.length : Int) := by omega
      have hil : i = l.length := by omega
      subst hil
      go_wp2_with fail
      go_ret
      exact ⟨-1, rfl, ⟨by omega, by omega⟩, by have := hok.out; rw [List.take_length] at this; rw [this]; rfl, hb⟩

set_option maxRecDepth 20000 in
set_option maxHeartbeats 1000000 in
theorem icontfN_any (V : Value) (p : Int → Bool) (w : World) (ao : Option Addr) (m cap : Nat) (l : List Int)
    (hK : ∀ x ∈ l, ∀ W, Below w.heap.size w W → Calls Try.prog 41 #[V, .int .i64 x] W fun e W' => e = .returned (.bool (p x)) ∧ Below W.heap.size W W')
    (h : IRw w (.slice ao m cap) l) (hn : l.length ≤ 1048576) :
    Calls Try.prog 36 #[.slice ao m cap, .func (.func 41) #[V] #[]] w fun e w' => e = .returned (.bool (l.any p)) ∧ Below w.heap.size w w' := by
  have k := iindexfN_any V p w ao m cap l hK h hn
  clear h hK
  generalize l.any p = t at *
  go_enter Try.func36, Try.ntmps36
  go_wp2_with (go_at_call 40; refine k.mono ?_; rintro e w1 ⟨k, rfl, hk, hd, hb1⟩; have HD := hidden hd; clear hd)
  all_goals go_ret
  all_goals exact ⟨ret_boolQ (by first | exact HD.out | (rw [← HD.out]; done) | (rw [← HD.out]; simp; done)), hb1⟩
end Go.Proofs.Ytfhecdedanlmfaa
