/-
  Merged: Rm11.
-/
import Derived.Test.YtgcpiinmcbdkmaaMw21
import Derived.Deep.QuietTactic
namespace Go.Proofs.Ytgcpiinmcbdkmaa
open Go.RowKit Va Ms
set_option linter.all false
theorem ib_bound : ∀ (l : List UInt8) (c : UInt8), -1 ≤ Lib.indexByte l c ∧ Lib.indexByte l c < l.length := by
  intro l c
  induction l with
  | nil => unfold Lib.indexByte; simp
  | cons b l ih =>
    unfold Lib.indexByte
    split
    · simp
    · split
      · simp; omega
      · simp; omega
def ReEnd (u : ByteArray) (w : World) (e : Ending) (w' : World) : Prop :=
  ∃ (x k : Nat) (ok : Bool), e = .returned (.tuple #[.int .u8 (x : Int), .int .i64 (k : Int), .bool ok]) ∧ x < 256 ∧ (ok = true → EscAt u 0 x ∧ k = (escL x).length) ∧ (ok = false → ∀ y, ¬ EscAt u 0 y) ∧ Below w.heap.size w w'
theorem bs_size (l : List Nat) : (bsOf l).size = l.length := by show (bsOf l).data.size = _; rw [← Array.length_toList, bsOf_list, List.length_map]
def FRe12 (w9 : World) (st : Nat) (u : ByteArray) (i9 : Nat) (v : Value) (w : World) : Prop :=
  match i9 with
  | 0 => v = .int .u8 (st : Nat)
  | 1 => v = .int .u8 (st : Nat)
  | 2 => ∃ ad c, v = .slice ad (escL st).length c ∧ w.ownsRow w9.heap.size 5 1 (.slice ad (escL st).length c) (escL st).length (bytV (escL st))
  | 3 => v = .string (bsOf (escL st))
  | 4 => v = .string u
  | 5 => v = .string (u.extract 0 5)
  | 6 => v = .bool ((bsOf (escL st)).toList == (u.extract 0 5).toList)
  | 7 => v = .int .u8 (st : Nat)
  | 8 => v = .int .i64 5
  | 9 => v = .bool ((bsOf (escL st)).toList == (u.extract 0 5).toList)
  | _ => True
theorem sizeRe12 : (Rg.opsOf Try.f139 12).size = 10 := by kernel_rfl
set_option maxRecDepth 20000 in
set_option maxHeartbeats 8000000 in
theorem regRe12 {Q : Exit → Act → World → Prop} {a : Act} {w9 : World} {st : Nat} {u : ByteArray} (ha : a.tmps.size = 48)
    (k10 : a.tmps[10]? = some (.int .u8 (st : Nat))) (k0 : a.tmps[0]? = some (.string u)) (hst : st < 256) (hu5 : 5 ≤ u.size) (hAB : ∀ W, Calls Try.prog 162 #[.slice none 0 0, .int .u8 (st : Int)] W fun e w' => ∃ ad c, e = .returned (.slice ad (escL st).length c) ∧ w'.ownsRow W.heap.size 5 1 (.slice ad (escL st).length c) (escL st).length (bytV (escL st)) ∧ Below W.heap.size W w')
    (hend : ∀ b' w', Rg.Fr (Rg.opsOf Try.f139 12) a b' → Below w9.heap.size w9 w' → Rg.out (Rg.opsOf Try.f139 12) b' 7 = .int .u8 (st : Nat) → Rg.out (Rg.opsOf Try.f139 12) b' 8 = .int .i64 5 → Rg.out (Rg.opsOf Try.f139 12) b' 9 = .bool ((bsOf (escL st)).toList == (u.extract 0 5).toList) → Q .normal b' w') :
    (Code.region 12 (Rg.opsOf Try.f139 12) true).wp Try.prog Q a w9 := by
  refine Rg.region_set3 (by kernel_rfl) (fun _ w' => Below w9.heap.size w9 w') (FRe12 w9 st u) (by rw [ha, sizeRe12]; kernel_rfl) (st_drew (Below.refl _ _)) ?_ ?_
  case refine_2 =>
    intro l b' w' hf hall hI hA
    rw [sizeRe12] at hA
    exact hend b' w' hf hI (hA 7 (by decide)) (hA 8 (by decide)) (hA 9 (by decide))
  case refine_1 =>
    clear hend
    have HS : ∀ {w w' : World}, Below w.heap.size w w' → ∀ k9 y9, FRe12 w9 st u k9 y9 w → FRe12 w9 st u k9 y9 w' := fun hb k9 y9 h => by
      unfold FRe12 at *
      split at h <;> first | exact h | (obtain ⟨ad, c, h1', ho⟩ := h; exact ⟨ad, c, h1', ownW_below ho hb⟩)
    intro i' hi'
    rw [sizeRe12] at hi'
    rcases (show i' = 0 ∨ i' = 1 ∨ i' = 2 ∨ i' = 3 ∨ i' = 4 ∨ i' = 5 ∨ i' = 6 ∨ i' = 7 ∨ i' = 8 ∨ i' = 9 by omega) with rfl | rfl | rfl | rfl | rfl | rfl | rfl | rfl | rfl | rfl
    · intro ll bb w' hs hlf hN hO hf hI hA
      clear hi'
      have q0 := hf.kept (s := 10) (by rw [sizeRe12]; kernel_rfl) k10
      exact Rg.op_value (o := ⟨some 41, Op.move (Operand.tmp 10), _, _, _, _⟩) (x := .int .u8 (st : Nat)) rfl rfl (by clear hA HS hN hO hAB; simp only [execOp]; go_simp) ⟨_, rfl, (fun h => by cases h), rfl, hI, fun _ _ _ _ h => h⟩
    · intro ll bb w' hs hlf hN hO hf hI hA
      clear hi'
      have q0 := hf.kept (s := 10) (by rw [sizeRe12]; kernel_rfl) k10
      exact Rg.op_value (o := ⟨some 42, Op.move (Operand.tmp 10), _, _, _, _⟩) (x := .int .u8 (st : Nat)) rfl rfl (by clear hA HS hN hO hAB; simp only [execOp]; go_simp) ⟨_, rfl, (fun h => by cases h), rfl, hI, fun _ _ _ _ h => h⟩
    · intro ll bb w' hs hlf hN hO hf hI hA
      clear hi'
      have q42 : bb.tmps[42]? = some _ := hf.tmp (k := 1) rfl (by rw [ha]; decide) (hA 1 (by kernel_rfl))
      refine Rg.op_call (o := ⟨some 43, Op.call { callee := Callee.value (Operand.func 162), args := #[Operand.const (.slice none 0 0), (Operand.tmp 42)], argTypes := _ }, _, _, _, _⟩) rfl rfl (by clear hA HS hN hO hAB; simp only [execOp, resolve]; go_simp) (hAB w') ?_
      rintro e w2 ⟨ad, c, rfl, ho, hb2⟩
      exact ⟨_, rfl, _, rfl, (fun h => by cases h), ⟨ad, c, rfl, ownW_base ho hI.size⟩, onto hI hb2, fun k9 y9 _ _ h => HS hb2 k9 y9 h⟩
    · intro ll bb w' hs hlf hN hO hf hI hA
      clear hi'
      obtain ⟨ad, c, h1', ho⟩ := hA 2 (by kernel_rfl)
      have q43 : bb.tmps[43]? = some (.slice ad (escL st).length c) := hf.tmp (k := 2) rfl (by rw [ha]; decide) h1'
      have hcv := conv_own ho (esc_bytes st hst)
      exact Rg.op_value (o := ⟨some 44, Op.convert 22 9 (Operand.tmp 43), _, _, _, _⟩) (x := .string (bsOf (escL st))) rfl rfl (by clear hA HS hN hO hAB h1' ho; simp only [execOp]; go_simp) ⟨_, rfl, (fun h => by cases h), rfl, hI, fun _ _ _ _ h => h⟩
    · intro ll bb w' hs hlf hN hO hf hI hA
      clear hi'
      have q0 := hf.kept (s := 0) (by rw [sizeRe12]; kernel_rfl) k0
      exact Rg.op_value (o := ⟨some 45, Op.move (Operand.tmp 0), _, _, _, _⟩) (x := .string u) rfl rfl (by clear hA HS hN hO hAB; simp only [execOp]; go_simp) ⟨_, rfl, (fun h => by cases h), rfl, hI, fun _ _ _ _ h => h⟩
    · intro ll bb w' hs hlf hN hO hf hI hA
      clear hi'
      have q45 : bb.tmps[45]? = some _ := hf.tmp (k := 4) rfl (by rw [ha]; decide) (hA 4 (by kernel_rfl))
      have l1 : (5 : Int) ≤ (u.size : Int) := by omega
      exact Rg.op_value (o := ⟨some 46, Op.slice 9 (Operand.tmp 45) none (some (Operand.const (Value.int .i64 5))) none, _, _, _, _⟩) (x := .string (u.extract 0 5)) rfl rfl (by clear hA HS hN hO hAB; simp only [execOp]; go_simp) ⟨_, rfl, (fun h => by cases h), rfl, hI, fun _ _ _ _ h => h⟩
    · intro ll bb w' hs hlf hN hO hf hI hA
      clear hi'
      have q44 : bb.tmps[44]? = some _ := hf.tmp (k := 3) rfl (by rw [ha]; decide) (hA 3 (by kernel_rfl))
      have q46 : bb.tmps[46]? = some _ := hf.tmp (k := 5) rfl (by rw [ha]; decide) (hA 5 (by kernel_rfl))
      exact Rg.op_value (o := ⟨some 47, Op.binOp BinOp.eql 9 (Operand.tmp 44) (Operand.tmp 46) 9, _, _, _, _⟩) (x := .bool ((bsOf (escL st)).toList == (u.extract 0 5).toList)) rfl rfl (by clear hA HS hN hO hAB; simp only [execOp]; go_simp) ⟨_, rfl, (fun h => by cases h), rfl, hI, fun _ _ _ _ h => h⟩
    · intro ll bb w' hs hlf hN hO hf hI hA
      clear hi'
      have q41 : bb.tmps[41]? = some _ := hf.tmp (k := 0) rfl (by rw [ha]; decide) (hA 0 (by kernel_rfl))
      exact Rg.op_value (o := ⟨some 2, Op.assign (Operand.tmp 41), _, _, _, _⟩) (x := .int .u8 (st : Nat)) rfl rfl (by clear hA HS hN hO hAB; simp only [execOp]; go_simp) ⟨_, rfl, (fun h => by cases h), rfl, hI, fun _ _ _ _ h => h⟩
    · intro ll bb w' hs hlf hN hO hf hI hA
      clear hi'
      exact Rg.op_value (o := ⟨some 3, Op.assign (Operand.const (Value.int .i64 5)), _, _, _, _⟩) (x := .int .i64 5) rfl rfl (by clear hA HS hN hO hAB; simp only [execOp]; go_simp) ⟨_, rfl, (fun h => by cases h), rfl, hI, fun _ _ _ _ h => h⟩
    · intro ll bb w' hs hlf hN hO hf hI hA
      clear hi'
      have q47 : bb.tmps[47]? = some _ := hf.tmp (k := 6) rfl (by rw [ha]; decide) (hA 6 (by kernel_rfl))
      exact Rg.op_value (o := ⟨some 4, Op.assign (Operand.tmp 47), _, _, _, _⟩) (x := .bool ((bsOf (escL st)).toList == (u.extract 0 5).toList)) rfl rfl (by clear hA HS hN hO hAB; simp only [execOp]; go_simp) ⟨_, rfl, (fun h => by cases h), rfl, hI, fun _ _ _ _ h => h⟩
theorem dRe12_0 : Rg.dstAt (Rg.opsOf Try.f139 12) 0 = some 41 := by kernel_rfl
theorem dRe12_1 : Rg.dstAt (Rg.opsOf Try.f139 12) 1 = some 42 := by kernel_rfl
theorem dRe12_2 : Rg.dstAt (Rg.opsOf Try.f139 12) 2 = some 43 := by kernel_rfl
theorem dRe12_3 : Rg.dstAt (Rg.opsOf Try.f139 12) 3 = some 44 := by kernel_rfl
theorem dRe12_4 : Rg.dstAt (Rg.opsOf Try.f139 12) 4 = some 45 := by kernel_rfl
theorem dRe12_5 : Rg.dstAt (Rg.opsOf Try.f139 12) 5 = some 46 := by kernel_rfl
theorem dRe12_6 : Rg.dstAt (Rg.opsOf Try.f139 12) 6 = some 47 := by kernel_rfl
theorem dRe12_7 : Rg.dstAt (Rg.opsOf Try.f139 12) 7 = some 2 := by kernel_rfl
theorem dRe12_8 : Rg.dstAt (Rg.opsOf Try.f139 12) 8 = some 3 := by kernel_rfl
theorem dRe12_9 : Rg.dstAt (Rg.opsOf Try.f139 12) 9 = some 4 := by kernel_rfl
theorem layRe12 {a b : Act} (hf : Rg.Fr (Rg.opsOf Try.f139 12) a b) : b = ((((((((((a.put (some 41) (Rg.out (Rg.opsOf Try.f139 12) b 0)).put (some 42) (Rg.out (Rg.opsOf Try.f139 12) b 1)).put (some 43) (Rg.out (Rg.opsOf Try.f139 12) b 2)).put (some 44) (Rg.out (Rg.opsOf Try.f139 12) b 3)).put (some 45) (Rg.out (Rg.opsOf Try.f139 12) b 4)).put (some 46) (Rg.out (Rg.opsOf Try.f139 12) b 5)).put (some 47) (Rg.out (Rg.opsOf Try.f139 12) b 6)).put (some 2) (Rg.out (Rg.opsOf Try.f139 12) b 7)).put (some 3) (Rg.out (Rg.opsOf Try.f139 12) b 8)).put (some 4) (Rg.out (Rg.opsOf Try.f139 12) b 9)) := by
  have h := hf.chain
  rw [sizeRe12, show List.range 10 = [0, 1, 2, 3, 4, 5, 6, 7, 8, 9] from by decide] at h
  simp only [List.foldl_cons, List.foldl_nil, dRe12_0, dRe12_1, dRe12_2, dRe12_3, dRe12_4, dRe12_5, dRe12_6, dRe12_7, dRe12_8, dRe12_9] at h
  exact h
set_option maxRecDepth 20000 in
set_option maxHeartbeats 16000000 in
theorem readE_any (u : ByteArray) (hu : u.size ≤ 1048576) (w : World) :
    Calls Try.prog 139 #[.string u] w fun e w' => ReEnd u w e w' := by
  have kO := ownE_any
  have x0 := ix0
  have x1 := ix1
  have x2 := ix2
  have x3 := ix3
  have kh := fun p W => Try.strings_HasPrefix u p W
  go_enter Try.func139, Try.ntmps139
  go_wp2_with fail
  refine (kO _).mono ?_
  rintro e w1 ⟨rfl, hb1⟩
  go_wp2_with fail
  go_loopw [6, 7, 12] (fun _ _ iv wr => ∃ k : Nat, k ≤ 4 ∧ iv = .int .i64 k ∧ Hid ((0 < k → ¬ EscAt u 0 124) ∧ (1 < k → ¬ EscAt u 0 92) ∧ (2 < k → ¬ EscAt u 0 13) ∧ (3 < k → ¬ EscAt u 0 10)) ∧ Below w.heap.size w wr) (fun _ _ iv _ => 4 - (intOf iv).toNat)
  case atStart => exact ⟨0, Nat.zero_le _, rfl, ⟨by omega, by omega, by omega, by omega⟩, hb1⟩
  case round =>
    obtain ⟨k, hk, rfl, hne, hb⟩ := hrel
    have hsz := hb.size
    by_cases hk4 : k < 4
    · rcases (show k = 0 ∨ k = 1 ∨ k = 2 ∨ k = 3 by omega) with rfl | rfl | rfl | rfl
      · have ka := fun W => appB_any 124 (by omega) W
        rw [show ((124 : Nat) : Int) = 124 from rfl] at ka
        have HX := hidden ((show EscAt u 0 124 ↔ Stands u 0 (escL 124) from ⟨fun h => h.2.2, fun h => ⟨by omega, by decide, h⟩⟩).trans (prefix_stands (esc_bytes 124 (by omega))).symm)
        have P0 := PB.new wr #[.int .u8 124, .int .u8 70] 199
        have b0 : Below w.heap.size w (wr.alloc (.cells #[.int .u8 124, .int .u8 70] 199)) := by repeat (first | exact Below.refl _ _ | assumption | refine st_drew ?_ | refine st_drewN ?_ _ | refine Below.setCell ?_ (by first | omega | (simp; done) | (simp; omega)) _ | refine Below.alloc ?_ (by first | omega | (simp; done) | (simp; omega)) _)
        have kh2 := kh (bsOf (escL 124))
        go_upto_region 4 with fail
        generalize wr.alloc (.cells #[.int .u8 124, .int .u8 70] 199) = w2 at *
        generalize wr.heap.size = B at *
        obtain ⟨p0, p1⟩ := P0.two
        go_wp2_with fail
        refine (ka _).mono ?_
        rintro e w3 ⟨ad, c, rfl, ho, hb3⟩
        have hcv := conv_own ho (esc_bytes 124 (by omega))
        have hbz := bs_size (escL 124)
        have P3 := hidden (P0.below hb3)
        have HB3 := hidden (onto b0 hb3)
        clear ho hb3 P0 b0 p0 p1
        obtain ⟨p0, p1⟩ := P3.out.two
        cases hp : Lib.hasPrefix u.data.toList (bsOf (escL 124)).data.toList with
        | true =>
          rw [hp] at kh2
          have HE := hidden (HX.out.2 hp)
          have HZ := hidden (bs_size (escL 124))
          clear hp HX hbz
          go_wp2_with (go_at_call 163; (with_reducible refine (kh2 _).mono ?_); rintro e w4 ⟨rfl, h4⟩; obtain rfl := h4.symm; clear h4)
          go_ret3
          exact ⟨124, (bsOf (escL 124)).size, true, rfl, by omega, fun _ => ⟨HE.out, HZ.out⟩, (fun h => by cases h), HB3.out⟩
        | false =>
          rw [hp] at kh2
          have HE : Hid (¬ EscAt u 0 124) := fun q => by have := HX.out.1 q; rw [hp] at this; cases this
          have hN : Hid ((0 < 0 + 1 → ¬ EscAt u 0 124) ∧ (1 < 0 + 1 → ¬ EscAt u 0 92) ∧ (2 < 0 + 1 → ¬ EscAt u 0 13) ∧ (3 < 0 + 1 → ¬ EscAt u 0 10)) := ⟨fun _ => HE.out, fun h => absurd h (by omega), fun h => absurd h (by omega), fun h => absurd h (by omega)⟩
          clear hp HX hbz hne
          go_wp2_with (go_at_call 163; (with_reducible refine (kh2 _).mono ?_); rintro e w4 ⟨rfl, h4⟩; obtain rfl := h4.symm; clear h4)
          go_roundw
          case rel => exact ⟨0 + 1, by omega, by simp, hN, HB3.out⟩
          case measure => simp [intOf]
      · have ka := fun W => appB_any 92 (by omega) W
        rw [show ((92 : Nat) : Int) = 92 from rfl] at ka
        have HX := hidden ((show EscAt u 0 92 ↔ Stands u 0 (escL 92) from ⟨fun h => h.2.2, fun h => ⟨by omega, by decide, h⟩⟩).trans (prefix_stands (esc_bytes 92 (by omega))).symm)
        have P0 := PB.new wr #[.int .u8 92, .int .u8 69] 199
        have b0 : Below w.heap.size w (wr.alloc (.cells #[.int .u8 92, .int .u8 69] 199)) := by repeat (first | exact Below.refl _ _ | assumption | refine st_drew ?_ | refine st_drewN ?_ _ | refine Below.setCell ?_ (by first | omega | (simp; done) | (simp; omega)) _ | refine Below.alloc ?_ (by first | omega | (simp; done) | (simp; omega)) _)
        have kh2 := kh (bsOf (escL 92))
        go_upto_region 4 with fail
        generalize wr.alloc (.cells #[.int .u8 92, .int .u8 69] 199) = w2 at *
        generalize wr.heap.size = B at *
        obtain ⟨p0, p1⟩ := P0.two
        go_wp2_with fail
        refine (ka _).mono ?_
        rintro e w3 ⟨ad, c, rfl, ho, hb3⟩
        have hcv := conv_own ho (esc_bytes 92 (by omega))
        have hbz := bs_size (escL 92)
        have P3 := hidden (P0.below hb3)
        have HB3 := hidden (onto b0 hb3)
        clear ho hb3 P0 b0 p0 p1
        obtain ⟨p0, p1⟩ := P3.out.two
        cases hp : Lib.hasPrefix u.data.toList (bsOf (escL 92)).data.toList with
        | true =>
          rw [hp] at kh2
          have HE := hidden (HX.out.2 hp)
          have HZ := hidden (bs_size (escL 92))
          clear hp HX hbz
          go_wp2_with (go_at_call 163; (with_reducible refine (kh2 _).mono ?_); rintro e w4 ⟨rfl, h4⟩; obtain rfl := h4.symm; clear h4)
          go_ret3
          exact ⟨92, (bsOf (escL 92)).size, true, rfl, by omega, fun _ => ⟨HE.out, HZ.out⟩, (fun h => by cases h), HB3.out⟩
        | false =>
          rw [hp] at kh2
          have HE : Hid (¬ EscAt u 0 92) := fun q => by have := HX.out.1 q; rw [hp] at this; cases this
          have hN : Hid ((0 < 1 + 1 → ¬ EscAt u 0 124) ∧ (1 < 1 + 1 → ¬ EscAt u 0 92) ∧ (2 < 1 + 1 → ¬ EscAt u 0 13) ∧ (3 < 1 + 1 → ¬ EscAt u 0 10)) := ⟨fun _ => hne.out.1 (by omega), fun _ => HE.out, fun h => absurd h (by omega), fun h => absurd h (by omega)⟩
          clear hp HX hbz hne
          go_wp2_with (go_at_call 163; (with_reducible refine (kh2 _).mono ?_); rintro e w4 ⟨rfl, h4⟩; obtain rfl := h4.symm; clear h4)
          go_roundw
          case rel => exact ⟨1 + 1, by omega, by simp, hN, HB3.out⟩
          case measure => simp [intOf]
      · have ka := fun W => appB_any 13 (by omega) W
        rw [show ((13 : Nat) : Int) = 13 from rfl] at ka
        have HX := hidden ((show EscAt u 0 13 ↔ Stands u 0 (escL 13) from ⟨fun h => h.2.2, fun h => ⟨by omega, by decide, h⟩⟩).trans (prefix_stands (esc_bytes 13 (by omega))).symm)
        have P0 := PB.new wr #[.int .u8 13, .int .u8 82] 199
        have b0 : Below w.heap.size w (wr.alloc (.cells #[.int .u8 13, .int .u8 82] 199)) := by repeat (first | exact Below.refl _ _ | assumption | refine st_drew ?_ | refine st_drewN ?_ _ | refine Below.setCell ?_ (by first | omega | (simp; done) | (simp; omega)) _ | refine Below.alloc ?_ (by first | omega | (simp; done) | (simp; omega)) _)
        have kh2 := kh (bsOf (escL 13))
        go_upto_region 4 with fail
        generalize wr.alloc (.cells #[.int .u8 13, .int .u8 82] 199) = w2 at *
        generalize wr.heap.size = B at *
        obtain ⟨p0, p1⟩ := P0.two
        go_wp2_with fail
        refine (ka _).mono ?_
        rintro e w3 ⟨ad, c, rfl, ho, hb3⟩
        have hcv := conv_own ho (esc_bytes 13 (by omega))
        have hbz := bs_size (escL 13)
        have P3 := hidden (P0.below hb3)
        have HB3 := hidden (onto b0 hb3)
        clear ho hb3 P0 b0 p0 p1
        obtain ⟨p0, p1⟩ := P3.out.two
        cases hp : Lib.hasPrefix u.data.toList (bsOf (escL 13)).data.toList with
        | true =>
          rw [hp] at kh2
          have HE := hidden (HX.out.2 hp)
          have HZ := hidden (bs_size (escL 13))
          clear hp HX hbz
          go_wp2_with (go_at_call 163; (with_reducible refine (kh2 _).mono ?_); rintro e w4 ⟨rfl, h4⟩; obtain rfl := h4.symm; clear h4)
          go_ret3
          exact ⟨13, (bsOf (escL 13)).size, true, rfl, by omega, fun _ => ⟨HE.out, HZ.out⟩, (fun h => by cases h), HB3.out⟩
        | false =>
          rw [hp] at kh2
          have HE : Hid (¬ EscAt u 0 13) := fun q => by have := HX.out.1 q; rw [hp] at this; cases this
          have hN : Hid ((0 < 2 + 1 → ¬ EscAt u 0 124) ∧ (1 < 2 + 1 → ¬ EscAt u 0 92) ∧ (2 < 2 + 1 → ¬ EscAt u 0 13) ∧ (3 < 2 + 1 → ¬ EscAt u 0 10)) := ⟨fun _ => hne.out.1 (by omega), fun _ => hne.out.2.1 (by omega), fun _ => HE.out, fun h => absurd h (by omega)⟩
          clear hp HX hbz hne
          go_wp2_with (go_at_call 163; (with_reducible refine (kh2 _).mono ?_); rintro e w4 ⟨rfl, h4⟩; obtain rfl := h4.symm; clear h4)
          go_roundw
          case rel => exact ⟨2 + 1, by omega, by simp, hN, HB3.out⟩
          case measure => simp [intOf]
      · have ka := fun W => appB_any 10 (by omega) W
        rw [show ((10 : Nat) : Int) = 10 from rfl] at ka
        have HX := hidden ((show EscAt u 0 10 ↔ Stands u 0 (escL 10) from ⟨fun h => h.2.2, fun h => ⟨by omega, by decide, h⟩⟩).trans (prefix_stands (esc_bytes 10 (by omega))).symm)
        have P0 := PB.new wr #[.int .u8 10, .int .u8 78] 199
        have b0 : Below w.heap.size w (wr.alloc (.cells #[.int .u8 10, .int .u8 78] 199)) := by repeat (first | exact Below.refl _ _ | assumption | refine st_drew ?_ | refine st_drewN ?_ _ | refine Below.setCell ?_ (by first | omega | (simp; done) | (simp; omega)) _ | refine Below.alloc ?_ (by first | omega | (simp; done) | (simp; omega)) _)
        have kh2 := kh (bsOf (escL 10))
        go_upto_region 4 with fail
        generalize wr.alloc (.cells #[.int .u8 10, .int .u8 78] 199) = w2 at *
        generalize wr.heap.size = B at *
        obtain ⟨p0, p1⟩ := P0.two
        go_wp2_with fail
        refine (ka _).mono ?_
        rintro e w3 ⟨ad, c, rfl, ho, hb3⟩
        have hcv := conv_own ho (esc_bytes 10 (by omega))
        have hbz := bs_size (escL 10)
        have P3 := hidden (P0.below hb3)
        have HB3 := hidden (onto b0 hb3)
        clear ho hb3 P0 b0 p0 p1
        obtain ⟨p0, p1⟩ := P3.out.two
        cases hp : Lib.hasPrefix u.data.toList (bsOf (escL 10)).data.toList with
        | true =>
          rw [hp] at kh2
          have HE := hidden (HX.out.2 hp)
          have HZ := hidden (bs_size (escL 10))
          clear hp HX hbz
          go_wp2_with (go_at_call 163; (with_reducible refine (kh2 _).mono ?_); rintro e w4 ⟨rfl, h4⟩; obtain rfl := h4.symm; clear h4)
          go_ret3
          exact ⟨10, (bsOf (escL 10)).size, true, rfl, by omega, fun _ => ⟨HE.out, HZ.out⟩, (fun h => by cases h), HB3.out⟩
        | false =>
          rw [hp] at kh2
          have HE : Hid (¬ EscAt u 0 10) := fun q => by have := HX.out.1 q; rw [hp] at this; cases this
          have hN : Hid ((0 < 3 + 1 → ¬ EscAt u 0 124) ∧ (1 < 3 + 1 → ¬ EscAt u 0 92) ∧ (2 < 3 + 1 → ¬ EscAt u 0 13) ∧ (3 < 3 + 1 → ¬ EscAt u 0 10)) := ⟨fun _ => hne.out.1 (by omega), fun _ => hne.out.2.1 (by omega), fun _ => hne.out.2.2.1 (by omega), fun _ => HE.out⟩
          clear hp HX hbz hne
          go_wp2_with (go_at_call 163; (with_reducible refine (kh2 _).mono ?_); rintro e w4 ⟨rfl, h4⟩; obtain rfl := h4.symm; clear h4)
          go_roundw
          case rel => exact ⟨3 + 1, by omega, by simp, hN, HB3.out⟩
          case measure => simp [intOf]
    · obtain rfl : k = 4 := by omega
      have hn9 := hne.out
      have hno : Hid (¬ EscAt u 0 124 ∧ ¬ EscAt u 0 92 ∧ ¬ EscAt u 0 13 ∧ ¬ EscAt u 0 10) := ⟨hn9.1 (by omega), hn9.2.1 (by omega), hn9.2.2.1 (by omega), hn9.2.2.2 (by omega)⟩
      have h5l : Hid (∀ y, EscAt u 0 y → (escL y).length = 5) := fun y hy => by
        rcases esc_len5 y hy.1 with q | q | q
        · have := hy.2.1; omega
        · obtain ⟨n1, n2, n3, n4⟩ := hno.out
          rcases esc_own3 y hy.1 q with rfl | rfl | rfl | rfl
          · exact absurd hy n1
          · exact absurd hy n2
          · exact absurd hy n3
          · exact absurd hy n4
        · exact q
      clear hne hn9 hno
      by_cases h5 : u.size < 5
      · have h5i : (u.size : Int) < 5 := by omega
        have HN : Hid (∀ y, ¬ EscAt u 0 y) := fun y hy => by have e1 := h5l.out y hy; have := hy.2.2.1; omega
        clear h5 h5l
        go_wp2_with fail
        go_ret3
        exact ⟨0, 0, false, rfl, by omega, fun h => (by cases h), fun _ => HN.out, hb⟩
      · have h5i : ¬ (u.size : Int) < 5 := by omega
        have hx2 := idx_at u 2 2 rfl (by omega)
        have hx3 := idx_at u 3 3 rfl (by omega)
        obtain ⟨hi0, hi1⟩ := ib_bound hexS.data.toList (nb u 2).toUInt8
        obtain ⟨lo0, lo1⟩ := ib_bound hexS.data.toList (nb u 3).toUInt8
        rw [show hexS.data.toList.length = 16 from rfl] at hi1 lo1
        have ki2 := fun W => Try.strings_IndexByte hexS (nb u 2 : Int) W
        have ki3 := fun W => Try.strings_IndexByte hexS (nb u 3 : Int) W
        rw [Int.toNat_natCast] at ki2 ki3
        have HH2 : Hid (∀ d, d < 16 → nb u 2 = hexN d → Lib.indexByte hexS.data.toList (nb u 2).toUInt8 = d) := fun d hd he => by rw [he]; exact idx_hex d hd
        have HH3 : Hid (∀ d, d < 16 → nb u 3 = hexN d → Lib.indexByte hexS.data.toList (nb u 3).toUInt8 = d) := fun d hd he => by rw [he]; exact idx_hex d hd
        generalize Lib.indexByte hexS.data.toList (nb u 2).toUInt8 = hi at *
        generalize Lib.indexByte hexS.data.toList (nb u 3).toUInt8 = lo at *
        obtain ⟨st, hst⟩ : ∃ st : Nat, (st : Int) = (16 * hi + lo) % 256 := ⟨((16 * hi + lo) % 256).toNat, by omega⟩
        have hw1 : IntKind.i64.wrap (16 * hi) = 16 * hi := by rw [IntKind.wrap_i64]; omega
        have hw2 : IntKind.i64.wrap (16 * hi + lo) = 16 * hi + lo := by rw [IntKind.wrap_i64]; omega
        have hw3 : IntKind.u8.wrap (16 * hi + lo) = (st : Int) := by rw [IntKind.wrap_u8]; omega
        have hst2 : st < 256 := by omega
        have HST := hidden hst
        have HI := hidden (And.intro hi0 (And.intro hi1 (And.intro lo0 lo1)))
        have ka := fun W => appB_any st hst2 W
        unfold hexS at ki2 ki3
        clear hst hi0 hi1 lo0 lo1
        go_upto_region 10 with fail
        go_quiet ((first | (go_at_call 164; exact Calls.quiet_of_same (ki2 _)) | (go_at_call 164; exact Calls.quiet_of_same (ki3 _))))
        have ht : (bsOf (escL st)).toList == (u.extract 0 5).toList ↔ bsOf (escL st) = u.extract 0 5 := by
          rw [beq_iff_eq]
          exact ⟨fun h => ByteArray.ext (Array.toList_inj.1 (by rw [← ByteArray.toList_eq, ← ByteArray.toList_eq, h])), fun h => by rw [h]⟩
        have HF := hidden (ht.trans (five_stands (by omega) hst2))
        clear ht
        go_upto_region 12 with fail
        refine regRe12 (st := st) (u := u) rfl rfl rfl hst2 (by omega) ka ?_
        intro b' w5 hf hb5 hv1 hv2 hv3
        rw [layRe12 hf, hv1, hv2, hv3]
        clear hv1 hv2 hv3 hf
        generalize Rg.out (Rg.opsOf Try.f139 12) b' 0 = y0
        generalize Rg.out (Rg.opsOf Try.f139 12) b' 1 = y1
        generalize Rg.out (Rg.opsOf Try.f139 12) b' 2 = y2
        generalize Rg.out (Rg.opsOf Try.f139 12) b' 3 = y3
        generalize Rg.out (Rg.opsOf Try.f139 12) b' 4 = y4
        generalize Rg.out (Rg.opsOf Try.f139 12) b' 5 = y5
        generalize Rg.out (Rg.opsOf Try.f139 12) b' 6 = y6
        have HB5 := hidden (onto (st_drewN hb _) hb5)
        clear hb5
        cases hq : (bsOf (escL st)).toList == (u.extract 0 5).toList with
        | true =>
          have HE := hidden (HF.out.1 hq)
          clear hq
          go_frame
          go_wp2_with fail
          go_ret3
          exact ⟨st, 5, true, rfl, hst2, fun _ => ⟨⟨hst2, by rw [HE.out.1]; omega, HE.out.2⟩, HE.out.1.symm⟩, (fun h => by cases h), HB5.out⟩
        | false =>
          have HE : Hid (∀ y, ¬ EscAt u 0 y) := fun y hy => by
            have e5 := h5l.out y hy
            obtain ⟨e2, e3⟩ := esc_hex y hy.1 e5
            have g2 := stands_get hy.2.2 (i := 2) (by omega)
            have g3 := stands_get hy.2.2 (i := 3) (by omega)
            rw [Nat.zero_add] at g2 g3
            have y1 := hy.1
            have hh := HH2.out (y / 16) (by omega) (by rw [← g2, e2])
            have hl := HH3.out (y % 16) (by omega) (by rw [← g3, e3])
            have hys : y = st := by have := HST.out; omega
            subst hys
            have := HF.out.2 ⟨e5, hy.2.2⟩
            rw [hq] at this; cases this
          clear hq
          go_frame
          go_wp2_with fail
          go_ret3
          exact ⟨st, 5, false, rfl, hst2, (fun h => by cases h), fun _ => HE.out, HB5.out⟩
end Go.Proofs.Ytgcpiinmcbdkmaa
