/-
  What is due put in order: the library's sort; the program's DueAt.
-/
import Derived.Test.YtkejjlgeiaeicaaU14
import Derived.Test.YtkejjlgeiaeicaaU11
import Derived.Test.YtkejjlgeiaeicaaShelf
namespace Go.Proofs.Ytkejjlgeiaeicaa
open Go.RowKit Go.Lib Go.Sort Go.Shelf Va Uo
set_option linter.all false

def encDu (x : Du) : List Value := [.int .i64 x.o, .int .i64 x.t, .int .i64 x.s]
theorem encDu_at (x : Du) (q : Nat) (hq : q < 3) : (encDu x)[q]! = cvDu x q := by
  match q, hq with
  | 0, _ => rfl
  | 1, _ => rfl
  | 2, _ => rfl
def orI (a b : Int) : Int := if a = 0 then b else a
def cfDu (x y : Du) : Int := orI (Lib.compareInt x.s y.s) (Lib.compareInt x.o y.o)
theorem ltDu (x y : Du) : ltOf cfDu x y = decide (x.s < y.s ∨ x.s = y.s ∧ x.o < y.o) := by
  unfold ltOf cfDu orI Lib.compareInt
  by_cases h1 : x.s < y.s
  · simp [h1]
  · by_cases h2 : y.s < x.s
    · simp [h1, h2]; omega
    · have h3 : x.s = y.s := by omega
      by_cases h4 : x.o < y.o
      · simp [h3, h4]
      · by_cases h5 : y.o < x.o <;> simp [h3, h4, h5]
theorem swoDu : SWO (ltOf cfDu) where
  irrefl x := by rw [ltDu]; simp
  trans x y z h1 h2 := by rw [ltDu] at *; simp at *; omega
  ntrans x y z h1 h2 := by rw [ltDu] at *; simp at *; omega

set_option maxHeartbeats 1000000 in
theorem icmpL_any (a b : Int) (w : World) : Calls Try.prog 48 #[.int .i64 a, .int .i64 b] w fun e w' => e = .returned (.int .i64 (Lib.compareInt a b)) ∧ w' = w :=
  (icmp_any a b w).mono fun e w' ⟨h1, h2⟩ => ⟨by rw [h1]; rfl, h2.symm⟩

set_option maxRecDepth 20000 in
set_option maxHeartbeats 2000000 in
theorem ior_any (a b : Int) (B : Nat) (w : World) (hP : PB w B #[.int .i64 a, .int .i64 b] 3) : Calls Try.prog 47 #[.slice (some ⟨B, 0, none⟩) 2 2] w fun e w' => e = .returned (.int .i64 (orI a b)) ∧ w' = w := by
  obtain ⟨p0, p1⟩ := hP.two
  have HV : Hid (orI a b = if a = 0 then b else a) := rfl
  generalize orI a b = R at *
  go_enter Try.func47, Try.ntmps47
  go_wp2_with fail
  go_loopw [5, 8] (fun _ iv wr => wr = w ∧ ∃ i : Nat, i ≤ 2 ∧ iv = .int .i64 i ∧ Hid ((0 < i → a = 0) ∧ (1 < i → b = 0))) (fun _ iv _ => 2 - (intOf iv).toNat)
  case atStart => exact ⟨rfl, 0, by omega, rfl, ⟨fun h => by omega, fun h => by omega⟩⟩
  case round =>
    obtain ⟨hw, i, hi, rfl, hok⟩ := hrel
    have hw' := hw.symm
    clear hw
    subst hw'
    rcases (show i = 0 ∨ i = 1 ∨ i = 2 by omega) with rfl | rfl | rfl
    · by_cases h0 : a = 0
      · have HA := hidden h0
        have q0 : (a == 0) = true := by simpa using h0
        subst h0
        go_wp2_with fail
        go_roundw
        case rel => exact ⟨by first | rfl | trivial, 1, by omega, rfl, ⟨fun _ => by first | rfl | trivial, fun h => by omega⟩⟩
        case measure => simp [intOf]
      · have HR : Hid (R = a) := by rw [Hid, HV.out, if_neg h0]
        have q0 : (a != 0) = true := by simpa using h0
        go_wp2_with fail
        go_ret
        exact ⟨by rw [HR.out]; rfl, rfl⟩
    · have HA : Hid (a = 0) := hok.out.1 (by omega)
      have HR : Hid (R = b) := by rw [Hid, HV.out, if_pos HA.out]
      by_cases h0 : b = 0
      · have HB2 := hidden h0
        subst h0
        go_wp2_with fail
        go_roundw
        case rel => exact ⟨by first | rfl | trivial, 2, by omega, rfl, ⟨fun _ => HA.out, fun _ => by first | rfl | trivial⟩⟩
        case measure => simp [intOf]
      · have q0 : (b != 0) = true := by simpa using h0
        go_wp2_with fail
        go_ret
        exact ⟨by rw [HR.out]; rfl, rfl⟩
    · have HR : Hid (R = 0) := by rw [Hid, HV.out, if_pos (hok.out.1 (by omega))]; exact hok.out.2 (by omega)
      go_wp2_with fail
      go_ret
      exact ⟨by rw [HR.out]; rfl, rfl⟩

def FS1 (X Y H : Nat) (x y : Du) (k : Nat) (v : Value) (w : World) : Prop :=
  match k with
  | 0 => v = .pointer (some ⟨X, 2, none⟩)
  | 1 => v = .int .i64 x.s
  | 2 => v = .pointer (some ⟨Y, 2, none⟩)
  | 3 => v = .int .i64 y.s
  | 4 => v = .int .i64 (Lib.compareInt x.s y.s)
  | 5 => v = .pointer (some ⟨X, 0, none⟩)
  | 6 => v = .int .i64 x.o
  | 7 => v = .pointer (some ⟨Y, 0, none⟩)
  | 8 => v = .int .i64 y.o
  | 9 => v = .int .i64 (Lib.compareInt x.o y.o)
  | 10 => v = .slice (some ⟨H, 0, none⟩) 2 2
  | 11 => v = .int .i64 (cfDu x y)
  | 12 => v = .int .i64 (cfDu x y)
  | _ => True
def IS1 (w9 : World) (x y : Du) (l : Array Bool) (w : World) : Prop := (l.getD 10 false = false → w = w9.drew) ∧ (l.getD 10 false = true → w = w9.drew.alloc (.cells #[.int .i64 (Lib.compareInt x.s y.s), .int .i64 (Lib.compareInt x.o y.o)] 3))
theorem sameS1 {w9 w : World} {x y : Du} {l : Array Bool} {i : Nat} (hi : i ≠ 10) (h : IS1 w9 x y l w) : IS1 w9 x y (l.setIfInBounds i true) w := by
  unfold IS1
  rw [Rg.set_ne hi]
  exact h
theorem boxS1 {w9 w : World} {x y : Du} {l : Array Bool} {B : Nat} {vs : Array Value} {t : TypeId} (h : PB w9 B vs t) (hI : IS1 w9 x y l w) : PB w B vs t := by
  cases hl : l.getD 10 false with
  | false => rw [hI.1 hl]; exact h
  | true =>
    rw [hI.2 hl]
    exact PB.alloc (W := w9.drew) h _
theorem sizeS1 : (Rg.opsOf Try.f46 1).size = 13 := by kernel_rfl

set_option maxRecDepth 20000 in
set_option maxHeartbeats 8000000 in
theorem regS1 {Q : Exit → Act → World → Prop} {a : Act} {w9 : World} {X Y : Nat} {x y : Du} (ha : a.tmps.size = 17) (k2 : a.tmps[2]? = some (.pointer (some ⟨X, 0, none⟩))) (k3 : a.tmps[3]? = some (.pointer (some ⟨Y, 0, none⟩))) (hX : PB w9 X #[.int .i64 x.o, .int .i64 x.t, .int .i64 x.s] 80) (hY : PB w9 Y #[.int .i64 y.o, .int .i64 y.t, .int .i64 y.s] 80)
    (hcm : ∀ a b W, Calls Try.prog 48 #[.int .i64 a, .int .i64 b] W fun e w' => e = .returned (.int .i64 (Lib.compareInt a b)) ∧ w' = W)
    (hco : ∀ W, PB W w9.heap.size #[.int .i64 (Lib.compareInt x.s y.s), .int .i64 (Lib.compareInt x.o y.o)] 3 → Calls Try.prog 47 #[.slice (some ⟨w9.heap.size, 0, none⟩) 2 2] W fun e w' => e = .returned (.int .i64 (cfDu x y)) ∧ w' = W)
    (hend : ∀ b' w', Rg.Fr (Rg.opsOf Try.f46 1) a b' → w' = w9.drew.alloc (.cells #[.int .i64 (Lib.compareInt x.s y.s), .int .i64 (Lib.compareInt x.o y.o)] 3) → Rg.out (Rg.opsOf Try.f46 1) b' 12 = .int .i64 (cfDu x y) → Q .normal b' w') : (Code.region 1 (Rg.opsOf Try.f46 1) true).wp Try.prog Q a w9 := by
  refine Rg.region_set4 (by kernel_rfl) (IS1 w9 x y) (FS1 X Y w9.heap.size x y) (by rw [ha, sizeS1]; kernel_rfl) ⟨fun _ => rfl, fun h => (by rw [Rg.none_yet] at h; cases h)⟩ ?_ ?_
  case refine_2 =>
    intro l b' w' hf hall hI hA
    rw [sizeS1] at hA hall
    exact hend b' w' hf (hI.2 (hall 10 (by omega))) (hA 12 (by decide))
  case refine_1 =>
    clear hend
    intro i' hi'
    rw [sizeS1] at hi'
    rcases (show i' = 0 ∨ i' = 1 ∨ i' = 2 ∨ i' = 3 ∨ i' = 4 ∨ i' = 5 ∨ i' = 6 ∨ i' = 7 ∨ i' = 8 ∨ i' = 9 ∨ i' = 10 ∨ i' = 11 ∨ i' = 12 by omega) with rfl | rfl | rfl | rfl | rfl | rfl | rfl | rfl | rfl | rfl | rfl | rfl | rfl
    · intro ll bb w' hs hlf hN hO hf hI hL hA
      clear hi'
      have q2 := hf.kept (s := 2) (by rw [sizeS1]; kernel_rfl) k2
      exact Rg.op_value (o := ⟨some 5, Op.fieldAddr 80 (Operand.tmp 2) 2, _, _, _, _⟩) (x := .pointer (some ⟨X, 2, none⟩)) rfl rfl (by clear hA hN hO hL hI hcm hco; simp only [execOp]; go_simp) ⟨_, rfl, (fun h => by cases h), rfl, sameS1 (by decide) hI, fun _ _ _ _ h => h⟩
    · intro ll bb w' hs hlf hN hO hf hI hL hA
      clear hi'
      have q5 : bb.tmps[5]? = some _ := hf.tmp (k := 0) rfl (by rw [ha]; decide) (hA 0 (by kernel_rfl))
      obtain ⟨e0, e1, e2⟩ := (boxS1 hX hI).three
      exact Rg.op_value (o := ⟨some 6, Op.load 2 (Operand.tmp 5), _, _, _, _⟩) (x := .int .i64 x.s) rfl rfl (by clear hA hN hO hL hI hcm hco; simp only [execOp]; go_simp) ⟨_, rfl, (fun h => by cases h), rfl, sameS1 (by decide) hI, fun _ _ _ _ h => h⟩
    · intro ll bb w' hs hlf hN hO hf hI hL hA
      clear hi'
      have q3 := hf.kept (s := 3) (by rw [sizeS1]; kernel_rfl) k3
      exact Rg.op_value (o := ⟨some 7, Op.fieldAddr 80 (Operand.tmp 3) 2, _, _, _, _⟩) (x := .pointer (some ⟨Y, 2, none⟩)) rfl rfl (by clear hA hN hO hL hI hcm hco; simp only [execOp]; go_simp) ⟨_, rfl, (fun h => by cases h), rfl, sameS1 (by decide) hI, fun _ _ _ _ h => h⟩
    · intro ll bb w' hs hlf hN hO hf hI hL hA
      clear hi'
      have q7 : bb.tmps[7]? = some _ := hf.tmp (k := 2) rfl (by rw [ha]; decide) (hA 2 (by kernel_rfl))
      obtain ⟨e0, e1, e2⟩ := (boxS1 hY hI).three
      exact Rg.op_value (o := ⟨some 8, Op.load 2 (Operand.tmp 7), _, _, _, _⟩) (x := .int .i64 y.s) rfl rfl (by clear hA hN hO hL hI hcm hco; simp only [execOp]; go_simp) ⟨_, rfl, (fun h => by cases h), rfl, sameS1 (by decide) hI, fun _ _ _ _ h => h⟩
    · intro ll bb w' hs hlf hN hO hf hI hL hA
      clear hi'
      have q6 : bb.tmps[6]? = some _ := hf.tmp (k := 1) rfl (by rw [ha]; decide) (hA 1 (by kernel_rfl))
      have q8 : bb.tmps[8]? = some _ := hf.tmp (k := 3) rfl (by rw [ha]; decide) (hA 3 (by kernel_rfl))
      refine Rg.op_call (o := ⟨some 9, Op.call { callee := Callee.value (Operand.func 48), args := #[Operand.tmp 6, Operand.tmp 8], argTypes := _ }, _, _, _, _⟩) rfl rfl (by clear hA hN hO hL hI hcm hco; simp only [execOp, resolve]; go_simp) (hcm x.s y.s w') ?_
      rintro e w2 ⟨rfl, hw2⟩
      have hw3 := hw2.symm
      clear hw2
      subst hw3
      exact ⟨_, rfl, _, rfl, (fun h => by cases h), rfl, sameS1 (by decide) hI, fun _ _ _ _ h => h⟩
    · intro ll bb w' hs hlf hN hO hf hI hL hA
      clear hi'
      have q2 := hf.kept (s := 2) (by rw [sizeS1]; kernel_rfl) k2
      exact Rg.op_value (o := ⟨some 10, Op.fieldAddr 80 (Operand.tmp 2) 0, _, _, _, _⟩) (x := .pointer (some ⟨X, 0, none⟩)) rfl rfl (by clear hA hN hO hL hI hcm hco; simp only [execOp]; go_simp) ⟨_, rfl, (fun h => by cases h), rfl, sameS1 (by decide) hI, fun _ _ _ _ h => h⟩
    · intro ll bb w' hs hlf hN hO hf hI hL hA
      clear hi'
      have q10 : bb.tmps[10]? = some _ := hf.tmp (k := 5) rfl (by rw [ha]; decide) (hA 5 (by kernel_rfl))
      obtain ⟨e0, e1, e2⟩ := (boxS1 hX hI).three
      exact Rg.op_value (o := ⟨some 11, Op.load 2 (Operand.tmp 10), _, _, _, _⟩) (x := .int .i64 x.o) rfl rfl (by clear hA hN hO hL hI hcm hco; simp only [execOp]; go_simp) ⟨_, rfl, (fun h => by cases h), rfl, sameS1 (by decide) hI, fun _ _ _ _ h => h⟩
    · intro ll bb w' hs hlf hN hO hf hI hL hA
      clear hi'
      have q3 := hf.kept (s := 3) (by rw [sizeS1]; kernel_rfl) k3
      exact Rg.op_value (o := ⟨some 12, Op.fieldAddr 80 (Operand.tmp 3) 0, _, _, _, _⟩) (x := .pointer (some ⟨Y, 0, none⟩)) rfl rfl (by clear hA hN hO hL hI hcm hco; simp only [execOp]; go_simp) ⟨_, rfl, (fun h => by cases h), rfl, sameS1 (by decide) hI, fun _ _ _ _ h => h⟩
    · intro ll bb w' hs hlf hN hO hf hI hL hA
      clear hi'
      have q12 : bb.tmps[12]? = some _ := hf.tmp (k := 7) rfl (by rw [ha]; decide) (hA 7 (by kernel_rfl))
      obtain ⟨e0, e1, e2⟩ := (boxS1 hY hI).three
      exact Rg.op_value (o := ⟨some 13, Op.load 2 (Operand.tmp 12), _, _, _, _⟩) (x := .int .i64 y.o) rfl rfl (by clear hA hN hO hL hI hcm hco; simp only [execOp]; go_simp) ⟨_, rfl, (fun h => by cases h), rfl, sameS1 (by decide) hI, fun _ _ _ _ h => h⟩
    · intro ll bb w' hs hlf hN hO hf hI hL hA
      clear hi'
      have q11 : bb.tmps[11]? = some _ := hf.tmp (k := 6) rfl (by rw [ha]; decide) (hA 6 (by kernel_rfl))
      have q13 : bb.tmps[13]? = some _ := hf.tmp (k := 8) rfl (by rw [ha]; decide) (hA 8 (by kernel_rfl))
      refine Rg.op_call (o := ⟨some 14, Op.call { callee := Callee.value (Operand.func 48), args := #[Operand.tmp 11, Operand.tmp 13], argTypes := _ }, _, _, _, _⟩) rfl rfl (by clear hA hN hO hL hI hcm hco; simp only [execOp, resolve]; go_simp) (hcm x.o y.o w') ?_
      rintro e w2 ⟨rfl, hw2⟩
      have hw3 := hw2.symm
      clear hw2
      subst hw3
      exact ⟨_, rfl, _, rfl, (fun h => by cases h), rfl, sameS1 (by decide) hI, fun _ _ _ _ h => h⟩
    · intro ll bb w' hs hlf hN hO hf hI hL hA
      clear hi'
      have q9 : bb.tmps[9]? = some _ := hf.tmp (k := 4) rfl (by rw [ha]; decide) (hA 4 (by kernel_rfl))
      have q14 : bb.tmps[14]? = some _ := hf.tmp (k := 9) rfl (by rw [ha]; decide) (hA 9 (by kernel_rfl))
      have hw : w' = w9.drew := hI.1 hlf
      subst hw
      exact Rg.op_value (o := ⟨some 15, Op.buildSlice 105 2 #[(0, Operand.tmp 9), (1, Operand.tmp 14)], _, _, _, _⟩) (x := .slice (some ⟨w9.heap.size, 0, none⟩) 2 2) (w' := w9.drew.alloc (.cells #[.int .i64 (Lib.compareInt x.s y.s), .int .i64 (Lib.compareInt x.o y.o)] 3)) rfl rfl (by clear hA hN hO hL hI hcm hco; simp only [execOp]; go_simp) ⟨_, rfl, (fun h => by cases h), rfl, ⟨fun h => (by rw [Rg.set_self hs (by rw [sizeS1]; decide)] at h; cases h), fun _ => rfl⟩, fun _ _ _ _ h => h⟩
    · intro ll bb w' hs hlf hN hO hf hI hL hA
      clear hi'
      have q15 : bb.tmps[15]? = some _ := hf.tmp (k := 10) rfl (by rw [ha]; decide) (hA 10 (by kernel_rfl))
      have hw : w' = w9.drew.alloc (.cells #[.int .i64 (Lib.compareInt x.s y.s), .int .i64 (Lib.compareInt x.o y.o)] 3) := hI.2 (hL 10 (by kernel_rfl))
      refine Rg.op_call (o := ⟨some 16, Op.call { callee := Callee.value (Operand.func 47), args := #[Operand.tmp 15], argTypes := _ }, _, _, _, _⟩) rfl rfl (by clear hA hN hO hL hI hcm hco; simp only [execOp, resolve]; go_simp) (hco w' (by rw [hw]; exact PB.new w9.drew _ _)) ?_
      rintro e w2 ⟨rfl, hw2⟩
      have hw3 := hw2.symm
      clear hw2
      subst hw3
      exact ⟨_, rfl, _, rfl, (fun h => by cases h), rfl, sameS1 (by decide) hI, fun _ _ _ _ h => h⟩
    · intro ll bb w' hs hlf hN hO hf hI hL hA
      clear hi'
      have q16 : bb.tmps[16]? = some _ := hf.tmp (k := 11) rfl (by rw [ha]; decide) (hA 11 (by kernel_rfl))
      exact Rg.op_value (o := ⟨some 4, Op.assign (Operand.tmp 16), _, _, _, _⟩) (x := .int .i64 (cfDu x y)) rfl rfl (by clear hA hN hO hL hI hcm hco; simp only [execOp]; go_simp) ⟨_, rfl, (fun h => by cases h), rfl, sameS1 (by decide) hI, fun _ _ _ _ h => h⟩

theorem dS1_0 : Rg.dstAt (Rg.opsOf Try.f46 1) 0 = some 5 := by kernel_rfl
theorem dS1_1 : Rg.dstAt (Rg.opsOf Try.f46 1) 1 = some 6 := by kernel_rfl
theorem dS1_2 : Rg.dstAt (Rg.opsOf Try.f46 1) 2 = some 7 := by kernel_rfl
theorem dS1_3 : Rg.dstAt (Rg.opsOf Try.f46 1) 3 = some 8 := by kernel_rfl
theorem dS1_4 : Rg.dstAt (Rg.opsOf Try.f46 1) 4 = some 9 := by kernel_rfl
theorem dS1_5 : Rg.dstAt (Rg.opsOf Try.f46 1) 5 = some 10 := by kernel_rfl
theorem dS1_6 : Rg.dstAt (Rg.opsOf Try.f46 1) 6 = some 11 := by kernel_rfl
theorem dS1_7 : Rg.dstAt (Rg.opsOf Try.f46 1) 7 = some 12 := by kernel_rfl
theorem dS1_8 : Rg.dstAt (Rg.opsOf Try.f46 1) 8 = some 13 := by kernel_rfl
theorem dS1_9 : Rg.dstAt (Rg.opsOf Try.f46 1) 9 = some 14 := by kernel_rfl
theorem dS1_10 : Rg.dstAt (Rg.opsOf Try.f46 1) 10 = some 15 := by kernel_rfl
theorem dS1_11 : Rg.dstAt (Rg.opsOf Try.f46 1) 11 = some 16 := by kernel_rfl
theorem dS1_12 : Rg.dstAt (Rg.opsOf Try.f46 1) 12 = some 4 := by kernel_rfl
theorem layS1 {a b : Act} (hf : Rg.Fr (Rg.opsOf Try.f46 1) a b) : b = ((((((((((((a.put (some 5) (Rg.out (Rg.opsOf Try.f46 1) b 0)).put (some 6) (Rg.out (Rg.opsOf Try.f46 1) b 1)).put (some 7) (Rg.out (Rg.opsOf Try.f46 1) b 2)).put (some 8) (Rg.out (Rg.opsOf Try.f46 1) b 3)).put (some 9) (Rg.out (Rg.opsOf Try.f46 1) b 4)).put (some 10) (Rg.out (Rg.opsOf Try.f46 1) b 5)).put (some 11) (Rg.out (Rg.opsOf Try.f46 1) b 6)).put (some 12) (Rg.out (Rg.opsOf Try.f46 1) b 7)).put (some 13) (Rg.out (Rg.opsOf Try.f46 1) b 8)).put (some 14) (Rg.out (Rg.opsOf Try.f46 1) b 9)).put (some 15) (Rg.out (Rg.opsOf Try.f46 1) b 10)).put (some 16) (Rg.out (Rg.opsOf Try.f46 1) b 11)).put (some 4) (Rg.out (Rg.opsOf Try.f46 1) b 12) := by
  have h := hf.chain
  rw [sizeS1, show List.range 13 = [0, 1, 2, 3, 4, 5, 6, 7, 8, 9, 10, 11, 12] from by decide] at h
  simp only [List.foldl_cons, List.foldl_nil, dS1_0, dS1_1, dS1_2, dS1_3, dS1_4, dS1_5, dS1_6, dS1_7, dS1_8, dS1_9, dS1_10, dS1_11, dS1_12] at h
  exact h

theorem grow3 (W : World) (A B C : Obj) : ((W.alloc A).alloc B).drew.alloc C = grow (W.drewN 1) (#[A] ++ (#[B] ++ #[C])) := by
  have e : ((W.alloc A).alloc B).drew = ((W.drewN 1).alloc A).alloc B := rfl
  rw [e, alloc_eq_grow, alloc_eq_grow, alloc_eq_grow, grow_grow, grow_grow]

set_option maxRecDepth 20000 in
set_option maxHeartbeats 2000000 in
theorem icloD_any (x y : Du) (W : World) : Calls Try.prog 46 #[.agg #[.int .i64 x.o, .int .i64 x.t, .int .i64 x.s], .agg #[.int .i64 y.o, .int .i64 y.t, .int .i64 y.s]] W fun e w' => e = .returned (.int .i64 (cfDu x y)) ∧ ∃ q os', w' = grow (W.drewN q) os' := by
  go_enter Try.func46, Try.ntmps46
  go_upto_region 1 with fail
  have hX := (PB.new W #[.int .i64 x.o, .int .i64 x.t, .int .i64 x.s] 80).alloc (.cells #[.int .i64 y.o, .int .i64 y.t, .int .i64 y.s] 80)
  have hY := PB.new (W.alloc (.cells #[.int .i64 x.o, .int .i64 x.t, .int .i64 x.s] 80)) #[.int .i64 y.o, .int .i64 y.t, .int .i64 y.s] 80
  have e9 : (W.alloc (.cells #[.int .i64 x.o, .int .i64 x.t, .int .i64 x.s] 80)).heap.size = W.heap.size + 1 := by simp
  rw [e9] at hY
  refine regS1 (x := x) (y := y) rfl rfl rfl hX hY (fun a b W' => icmpL_any a b W') (fun W' hW => ior_any _ _ _ W' hW) ?_
  intro b' w' hf hw hv
  rw [layS1 hf, hv]
  clear hv hf hX hY e9
  subst hw
  generalize Rg.out (Rg.opsOf Try.f46 1) b' 0 = y0
  generalize Rg.out (Rg.opsOf Try.f46 1) b' 1 = y1
  generalize Rg.out (Rg.opsOf Try.f46 1) b' 2 = y2
  generalize Rg.out (Rg.opsOf Try.f46 1) b' 3 = y3
  generalize Rg.out (Rg.opsOf Try.f46 1) b' 4 = y4
  generalize Rg.out (Rg.opsOf Try.f46 1) b' 5 = y5
  generalize Rg.out (Rg.opsOf Try.f46 1) b' 6 = y6
  generalize Rg.out (Rg.opsOf Try.f46 1) b' 7 = y7
  generalize Rg.out (Rg.opsOf Try.f46 1) b' 8 = y8
  generalize Rg.out (Rg.opsOf Try.f46 1) b' 9 = y9
  generalize Rg.out (Rg.opsOf Try.f46 1) b' 10 = y10
  generalize Rg.out (Rg.opsOf Try.f46 1) b' 11 = y11
  go_frame
  go_wp2_with fail
  go_ret
  exact ⟨rfl, 1, _, grow3 _ _ _ _⟩
theorem cmpLaysD (blk off size : Nat) (w : World) : CmpLays Try.prog 46 #[] encDu 3 cfDu blk off size w := fun _ _ _ _ x y => icloD_any x y _
end Go.Proofs.Ytkejjlgeiaeicaa
