/-
  The first rule that adds.
-/
import Derived.Test.YtldggndhdilncaaT43
import Derived.Test.YtldggndhdilncaaGx
namespace Go.Proofs.Ytldggndhdilncaa
open Go.RowKit Va Lb
set_option linter.all false

/-- A rule as a function: the box of its reflex, the box of whether it calls, and what lies there. -/
structure Ru where
  R : Nat
  C : Nat
  te : Nat
  th : Nat
  cb : Bool
def cvRu (x : Ru) (_ : Nat) : Value := .func (.func 29) #[] #[.pointer (some ⟨x.R, 0, none⟩), .pointer (some ⟨x.C, 0, none⟩)]
structure RuAt (W : World) (x : Ru) : Prop where
  pr : ∃ lo hi : Int, PB W x.R #[.int .i64 (x.te : Nat), .int .i64 lo, .int .i64 hi, .int .i64 (x.th : Nat)] 37
  pc : PB W x.C #[.bool x.cb] 4
  t0 : x.te < 100
  t1 : x.th < 100
section
variable {W W' : World} {x : Ru}
theorem RuAt.rl (h : RuAt W x) : x.R < W.heap.size := by obtain ⟨_, _, k⟩ := h.pr; exact k.lt
theorem RuAt.cl (h : RuAt W x) : x.C < W.heap.size := h.pc.lt
theorem RuAt.r0 (h : RuAt W x) : W.cell? ⟨x.R, 0, none⟩ = some (.int .i64 (x.te : Nat)) := by obtain ⟨_, _, k⟩ := h.pr; exact k.cell 0
theorem RuAt.r3 (h : RuAt W x) : W.cell? ⟨x.R, 3, none⟩ = some (.int .i64 (x.th : Nat)) := by obtain ⟨_, _, k⟩ := h.pr; exact k.cell 3
theorem RuAt.c0 (h : RuAt W x) : W.cell? ⟨x.C, 0, none⟩ = some (.bool x.cb) := h.pc.cell 0
theorem RuAt.below (h : RuAt W x) (hb : Below W.heap.size W W') : RuAt W' x := by
  obtain ⟨lo, hi, k⟩ := h.pr
  exact ⟨⟨lo, hi, k.below hb⟩, h.pc.below hb, h.t0, h.t1⟩
end
def RusAt (W : World) (v : Value) (us : List Ru) : Prop := VRw 1 cvRu W v us ∧ ∀ x ∈ us, RuAt W x
theorem RusAt.below {W W' : World} {v : Value} {us : List Ru} (h : RusAt W v us) (hb : Below W.heap.size W W') : RusAt W' v us := ⟨h.1.below hb, fun x hx => (h.2 x hx).below hb⟩
/-- The tests that are asked for, as an array of bools behind a pointer. -/
structure SetAt (W : World) (A : Nat) (ST : Nat → Bool) : Prop where
  lt : A < W.heap.size
  cells : ∀ j, j < 100 → W.cell? ⟨A, j, none⟩ = some (.bool (ST j))
theorem SetAt.below {W W' : World} {A : Nat} {ST : Nat → Bool} (h : SetAt W A ST) (hb : Below W.heap.size W W') : SetAt W' A ST :=
  ⟨Nat.lt_of_lt_of_le h.lt hb.size, fun j hj => (hb.cell (p := ⟨A, j, none⟩) h.lt).trans (h.cells j hj)⟩
def ruB (ST : Nat → Bool) (x : Ru) : Bool := x.cb && ST x.te && !ST x.th
def firstU (ST : Nat → Bool) (us : List Ru) : Option Nat := (us.find? (ruB ST)).map Ru.th
theorem firstU_drop {ST : Nat → Bool} {us : List Ru} {i : Nat} {x : Ru} (h : us[i]? = some x) : firstU ST (us.drop i) = if ruB ST x then some x.th else firstU ST (us.drop (i + 1)) := by
  have hlt := get_ltL h
  have e : us[i]'hlt = x := by have := List.getElem?_eq_getElem hlt; rw [h] at this; exact (Option.some.inj this).symm
  unfold firstU
  rw [List.drop_eq_getElem_cons hlt, e, List.find?_cons]
  cases hq : ruB ST x <;> simp

set_option maxRecDepth 20000 in
set_option maxHeartbeats 4000000 in
theorem ifirst_any (ao : Option Addr) (n cap : Nat) (A : Nat) (us : List Ru) (ST : Nat → Bool) (w : World) (h : RusAt w (.slice ao n cap) us) (hA : SetAt w A ST) (hn : us.length ≤ 200) :
    Calls Try.prog 26 #[.slice ao n cap, .pointer (some ⟨A, 0, none⟩)] w fun e w' => e = .returned (.tuple #[.int .i64 (((firstU ST us).getD 0 : Nat) : Int), .bool (firstU ST us).isSome]) ∧ Below w.heap.size w w' := by
  obtain rfl := h.1.len
  have HR := hidden h
  have HA := hidden hA
  clear h hA
  go_enter Try.func26, Try.ntmps26
  go_wp2_with fail
  go_loopw [7, 8, 9, 12] (fun _ _ _ iv wr => ∃ i : Nat, i ≤ us.length ∧ iv = .int .i64 i ∧ Hid (firstU ST us = firstU ST (us.drop i)) ∧ Below w.heap.size w wr) (fun _ _ _ iv _ => us.length - (intOf iv).toNat)
  case atStart => exact ⟨0, Nat.zero_le _, rfl, rfl, Below.refl _ _⟩
  case round =>
    obtain ⟨i, hi, rfl, HF, hb⟩ := hrel
    by_cases hlt : i < us.length
    · have hlti : (i : Int) < (us.length : Int) := by omega
      obtain ⟨x, hx⟩ := some_of us i hlt
      have hru := (HR.out.below hb).2 x (List.mem_of_getElem? hx)
      obtain ⟨g, off, rfl, hg, hcs⟩ := (HR.out.below hb).1.at hx
      have c0 : wr.cell? ⟨g, off + i, none⟩ = some (.func (.func 29) #[] #[.pointer (some ⟨x.R, 0, none⟩), .pointer (some ⟨x.C, 0, none⟩)]) := by
        have := hcs 0 (by omega)
        rw [Nat.mul_one, Nat.add_zero] at this
        exact this
      have hS := HA.out.below hb
      have HK := hidden (irule_any A x.R x.C x.te x.th x.cb ST wr hru.rl hru.cl hS.lt hru.r0 hru.r3 hru.c0 hS.cells hru.t0 hru.t1)
      have hth := hru.t1
      have HX := hidden (firstU_drop (ST := ST) hx)
      clear hx hru hS hcs
      cases hq : ruB ST x with
      | true =>
        rw [show (x.cb && ST x.te && !ST x.th) = true from hq] at HK
        have HE : Hid (firstU ST us = some x.th) := by have := HX.out; rw [hq, if_pos rfl] at this; exact HF.out.trans this
        clear hq HX HF
        go_wp2_with (go_at_call 29; refine HK.out.mono ?_; rintro e w1 ⟨rfl, hb1⟩)
        refine bodyPost_ret (v := .tuple #[.int .i64 (x.th : Int), .bool true]) (by simp [results, Try.results26, go_sem]) rfl ?_
        exact ⟨by rw [HE.out]; rfl, onto hb hb1⟩
      | false =>
        rw [show (x.cb && ST x.te && !ST x.th) = false from hq] at HK
        have HE : Hid (firstU ST us = firstU ST (us.drop (i + 1))) := by have := HX.out; rw [hq, if_neg (by simp)] at this; exact HF.out.trans this
        clear hq HX HF
        go_wp2_with (go_at_call 29; refine HK.out.mono ?_; rintro e w1 ⟨rfl, hb1⟩)
        go_roundw
        case rel => exact ⟨i + 1, by omega, rfl, HE, onto hb hb1⟩
        case measure => simp [intOf]; omega
    · have hlti : ¬ (i : Int) < (us.length : Int) := by omega
      have HE : Hid (firstU ST us = none) := by have := HF.out; rw [List.drop_of_length_le (by omega)] at this; exact this
      clear HF
      go_wp2_with fail
      refine bodyPost_ret (v := .tuple #[.int .i64 0, .bool false]) (by simp [results, Try.results26, go_sem]) rfl ?_
      exact ⟨by rw [HE.out]; rfl, hb⟩
end Go.Proofs.Ytldggndhdilncaa
