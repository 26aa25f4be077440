/-
  Merged: Rm9.
-/
import Derived.Test.YtgcpiinmcbdkmaaMw19
import Derived.Test.YtgcpiinmcbdkmaaMw14
namespace Go.Proofs.Ytgcpiinmcbdkmaa
open Go.RowKit Va Ms
set_option linter.all false
theorem cell_newQ {w : World} {g : Nat} (hg : g = w.heap.size) (xs : List Value) (t : TypeId) : ∀ (j : Nat) (u : Value), xs[j]? = some u → (w.alloc (.cells xs.toArray t)).cell? ((⟨g, 0, none⟩ : Addr).add j) = some u := by subst hg; exact cell_new w xs t
theorem idx_u8 (s : ByteArray) (i : Nat) (h : i < s.size) (W : World) : (Instr.index 9 (.string s) (.int .u8 (i : Int))).run Try.prog W = .ok (.int .u8 (nb s i)) W := by
  rw [run_index_string W 9 s .u8 (i : Int) Try.underlying9, dif_pos ⟨by omega, by omega⟩]
  have : s.get! i = s[i] := by
    show s.data[i]! = s.data[i]
    rw [getElem!_pos]
  simp [nb, this]
theorem grownQ9 {w0 w w' : World} {v : Value} {b : Nat} (h : Below b w0 w) (hl : b ≤ w.heap.size) (hg : w.grownBy w' v.ownBlock) (hv : ∀ k, v.ownBlock = some k → b ≤ k) : Below b w0 w' := h.grown hg hl (fun k hk => hv k hk)
def hexS : ByteArray := ⟨#[48, 49, 50, 51, 52, 53, 54, 55, 56, 57, 65, 66, 67, 68, 69, 70]⟩
theorem hex_nb : ∀ d, d < 16 → nb hexS d = hexN d := by decide +kernel
theorem hex_ix (d : Nat) (hd : d < 16) (W : World) : (Instr.index 9 (.string hexS) (.int .u8 (d : Int))).run Try.prog W = .ok (.int .u8 (hexN d)) W := by
  rw [← hex_nb d hd]
  exact idx_u8 hexS d hd W
def FAb9 (w9 : World) (x d1 d2 h1 h2 : Nat) (i0 : TypeInfo) (i9 : Nat) (v : Value) (w : World) : Prop :=
  match i9 with
  | 0 => v = .slice none 0 0
  | 1 => v = .int .u8 (x : Nat)
  | 2 => v = .int .u8 (d1 : Nat)
  | 3 => v = .int .u8 (h1 : Nat)
  | 4 => v = .int .u8 (x : Nat)
  | 5 => v = .int .u8 (d2 : Nat)
  | 6 => v = .int .u8 (h2 : Nat)
  | 7 => ∃ G, v = .slice (some ⟨G, 0, none⟩) 5 5 ∧ PB w G #[.int .u8 92, .int .u8 88, .int .u8 (h1 : Nat), .int .u8 (h2 : Nat), .int .u8 92] 5
  | 8 => ∃ a1 c1, v = .slice a1 5 c1 ∧ w.ownsRow w9.heap.size 5 1 (.slice a1 5 c1) 5 [.int .u8 92, .int .u8 88, .int .u8 (h1 : Nat), .int .u8 (h2 : Nat), .int .u8 92]
  | 9 => ∃ a1 c1, v = .slice a1 5 c1 ∧ w.ownsRow w9.heap.size 5 1 (.slice a1 5 c1) 5 [.int .u8 92, .int .u8 88, .int .u8 (h1 : Nat), .int .u8 (h2 : Nat), .int .u8 92]
  | _ => True
theorem sizeAb9 : (Rg.opsOf Try.f162 9).size = 10 := by kernel_rfl
set_option maxRecDepth 20000 in
set_option maxHeartbeats 8000000 in
theorem regAb9 {Q : Exit → Act → World → Prop} {a : Act} {w9 : World} {x d1 d2 h1 h2 : Nat} {i0 : TypeInfo} (ha : a.tmps.size = 36)
    (k0 : a.tmps[0]? = some (.slice none 0 0)) (k1 : a.tmps[1]? = some (.int .u8 (x : Nat))) (hi0 : Try.prog.info? 5 = some i0) (hz0 : i0.zero = some (.int .u8 0)) (hz1 : i0.size = 1) (hz2 : i0.bytes = 1) (hwr1 : IntKind.u8.wrap (d1 : Int) = (d1 : Int)) (hw1 : ((x : Int).tdiv 16) = (d1 : Int)) (hw2 : ((x : Int).tmod 16) = (d2 : Int)) (hx1 : ∀ W, (Instr.index 9 (.string ⟨#[48, 49, 50, 51, 52, 53, 54, 55, 56, 57, 65, 66, 67, 68, 69, 70]⟩) (.int .u8 (d1 : Int))).run Try.prog W = .ok (.int .u8 h1) W) (hx2 : ∀ W, (Instr.index 9 (.string ⟨#[48, 49, 50, 51, 52, 53, 54, 55, 56, 57, 65, 66, 67, 68, 69, 70]⟩) (.int .u8 (d2 : Int))).run Try.prog W = .ok (.int .u8 h2) W)
    (hend : ∀ b' w', Rg.Fr (Rg.opsOf Try.f162 9) a b' → Below w9.heap.size w9 w' → FAb9 w9 x d1 d2 h1 h2 i0 9 (Rg.out (Rg.opsOf Try.f162 9) b' 9) w' → Q .normal b' w') :
    (Code.region 9 (Rg.opsOf Try.f162 9) true).wp Try.prog Q a w9 := by
  refine Rg.region_set3 (by kernel_rfl) (fun _ w' => Below w9.heap.size w9 w') (FAb9 w9 x d1 d2 h1 h2 i0) (by rw [ha, sizeAb9]; kernel_rfl) (st_drew (Below.refl _ _)) ?_ ?_
  case refine_2 =>
    intro l b' w' hf hall hI hA
    rw [sizeAb9] at hA
    exact hend b' w' hf hI (hA 9 (by decide))
  case refine_1 =>
    clear hend
    have HS : ∀ {w w' : World}, Below w.heap.size w w' → ∀ k9 y9, FAb9 w9 x d1 d2 h1 h2 i0 k9 y9 w → FAb9 w9 x d1 d2 h1 h2 i0 k9 y9 w' := fun hb k9 y9 h => by
      unfold FAb9 at *
      split at h <;> first | exact h | (obtain ⟨G, h1', hP⟩ := h; exact ⟨G, h1', hP.below hb⟩) | (obtain ⟨a1, c1, h1', o2⟩ := h; exact ⟨a1, c1, h1', ownW_below o2 hb⟩)
    intro i' hi'
    rw [sizeAb9] at hi'
    rcases (show i' = 0 ∨ i' = 1 ∨ i' = 2 ∨ i' = 3 ∨ i' = 4 ∨ i' = 5 ∨ i' = 6 ∨ i' = 7 ∨ i' = 8 ∨ i' = 9 by omega) with rfl | rfl | rfl | rfl | rfl | rfl | rfl | rfl | rfl | rfl
    · intro ll bb w' hs hlf hN hO hf hI hA
      clear hi'
      have q0 := hf.kept (s := 0) (by rw [sizeAb9]; kernel_rfl) k0
      exact Rg.op_value (o := ⟨some 27, Op.move (Operand.tmp 0), _, _, _, _⟩) (x := .slice none 0 0) rfl rfl (by clear hA HS hN hO hx1 hx2; simp only [execOp]; go_simp) ⟨_, rfl, (fun h => by cases h), rfl, hI, fun _ _ _ _ h => h⟩
    · intro ll bb w' hs hlf hN hO hf hI hA
      clear hi'
      have q0 := hf.kept (s := 1) (by rw [sizeAb9]; kernel_rfl) k1
      exact Rg.op_value (o := ⟨some 28, Op.move (Operand.tmp 1), _, _, _, _⟩) (x := .int .u8 (x : Nat)) rfl rfl (by clear hA HS hN hO hx1 hx2; simp only [execOp]; go_simp) ⟨_, rfl, (fun h => by cases h), rfl, hI, fun _ _ _ _ h => h⟩
    · intro ll bb w' hs hlf hN hO hf hI hA
      clear hi'
      have q28 : bb.tmps[28]? = some _ := hf.tmp (k := 1) rfl (by rw [ha]; decide) (hA 1 (by kernel_rfl))
      have hw9 := hw1
      have hwr9 := hwr1
      exact Rg.op_value (o := ⟨some 29, Op.binOp BinOp.quo 5 (Operand.tmp 28) (Operand.const (Value.int .u8 16)) 5, _, _, _, _⟩) (x := .int .u8 (d1 : Nat)) rfl rfl (by clear hA HS hN hO hx1 hx2; simp only [execOp]; go_simp) ⟨_, rfl, (fun h => by cases h), rfl, hI, fun _ _ _ _ h => h⟩
    · intro ll bb w' hs hlf hN hO hf hI hA
      clear hi'
      have q29 : bb.tmps[29]? = some _ := hf.tmp (k := 2) rfl (by rw [ha]; decide) (hA 2 (by kernel_rfl))
      have hx9 := hx1
      exact Rg.op_value (o := ⟨some 30, Op.index 9 (Operand.const (Value.string { data := #[48, 49, 50, 51, 52, 53, 54, 55, 56, 57, 65, 66, 67, 68, 69, 70] })) (Operand.tmp 29), _, _, _, _⟩) (x := .int .u8 (h1 : Nat)) rfl rfl (by clear hA HS hN hO hx1 hx2; simp only [execOp]; go_simp) ⟨_, rfl, (fun h => by cases h), rfl, hI, fun _ _ _ _ h => h⟩
    · intro ll bb w' hs hlf hN hO hf hI hA
      clear hi'
      have q0 := hf.kept (s := 1) (by rw [sizeAb9]; kernel_rfl) k1
      exact Rg.op_value (o := ⟨some 31, Op.move (Operand.tmp 1), _, _, _, _⟩) (x := .int .u8 (x : Nat)) rfl rfl (by clear hA HS hN hO hx1 hx2; simp only [execOp]; go_simp) ⟨_, rfl, (fun h => by cases h), rfl, hI, fun _ _ _ _ h => h⟩
    · intro ll bb w' hs hlf hN hO hf hI hA
      clear hi'
      have q31 : bb.tmps[31]? = some _ := hf.tmp (k := 4) rfl (by rw [ha]; decide) (hA 4 (by kernel_rfl))
      have hw9 := hw2
      exact Rg.op_value (o := ⟨some 32, Op.binOp BinOp.rem 5 (Operand.tmp 31) (Operand.const (Value.int .u8 16)) 5, _, _, _, _⟩) (x := .int .u8 (d2 : Nat)) rfl rfl (by clear hA HS hN hO hx1 hx2; simp only [execOp]; go_simp) ⟨_, rfl, (fun h => by cases h), rfl, hI, fun _ _ _ _ h => h⟩
    · intro ll bb w' hs hlf hN hO hf hI hA
      clear hi'
      have q32 : bb.tmps[32]? = some _ := hf.tmp (k := 5) rfl (by rw [ha]; decide) (hA 5 (by kernel_rfl))
      have hx9 := hx2
      exact Rg.op_value (o := ⟨some 33, Op.index 9 (Operand.const (Value.string { data := #[48, 49, 50, 51, 52, 53, 54, 55, 56, 57, 65, 66, 67, 68, 69, 70] })) (Operand.tmp 32), _, _, _, _⟩) (x := .int .u8 (h2 : Nat)) rfl rfl (by clear hA HS hN hO hx1 hx2; simp only [execOp]; go_simp) ⟨_, rfl, (fun h => by cases h), rfl, hI, fun _ _ _ _ h => h⟩
    · intro ll bb w' hs hlf hN hO hf hI hA
      clear hi'
      have q30 : bb.tmps[30]? = some _ := hf.tmp (k := 3) rfl (by rw [ha]; decide) (hA 3 (by kernel_rfl))
      have q33 : bb.tmps[33]? = some _ := hf.tmp (k := 6) rfl (by rw [ha]; decide) (hA 6 (by kernel_rfl))
      have hal : Below w'.heap.size w' (w'.alloc (.cells #[.int .u8 92, .int .u8 88, .int .u8 (h1 : Nat), .int .u8 (h2 : Nat), .int .u8 92] 5)) := (Below.refl _ _).alloc (Nat.le_refl _) _
      exact Rg.op_value (o := ⟨some 34, Op.buildSlice 22 5 #[(0, Operand.const (.int .u8 92)), (1, Operand.const (.int .u8 88)), (2, Operand.tmp 30), (3, Operand.tmp 33), (4, Operand.const (.int .u8 92))], _, _, _, _⟩) (x := .slice (some ⟨w'.heap.size, 0, none⟩) 5 5) (w' := w'.alloc (.cells #[.int .u8 92, .int .u8 88, .int .u8 (h1 : Nat), .int .u8 (h2 : Nat), .int .u8 92] 5)) rfl rfl (by clear hA HS hN hO hx1 hx2; simp only [execOp]; go_simp) ⟨_, rfl, (fun h => by cases h), ⟨w'.heap.size, rfl, PB.new w' _ _⟩, onto hI hal, fun k9 y9 _ _ h => HS hal k9 y9 h⟩
    · intro ll bb w' hs hlf hN hO hf hI hA
      clear hi'
      have q27 : bb.tmps[27]? = some _ := hf.tmp (k := 0) rfl (by rw [ha]; decide) (hA 0 (by kernel_rfl))
      obtain ⟨G, h1', hP⟩ := hA 7 (by kernel_rfl)
      have q34 : bb.tmps[34]? = some (.slice (some ⟨G, 0, none⟩) 5 5) := hf.tmp (k := 7) rfl (by rw [ha]; decide) h1'
      refine Rg.op_append (o := ⟨some 35, Op.call { callee := Callee.builtin Builtin.append, args := #[Operand.tmp 27, Operand.tmp 34], argTypes := #[22, 22] }, _, _, _, _⟩) rfl rfl (Operand.tmp 27) (Operand.tmp 34) 22 rfl w9.heap.size 5 i0 _ 1 1 Try.underlying22 hi0 hz0 hz1 hz2 rfl (by decide) (.slice none 0 0) 0 [] (by simp [Act.eval, q27]) (own_nil _ _ _ _) ⟨G, 0, none⟩ 5 5 [.int .u8 92, .int .u8 88, .int .u8 (h1 : Nat), .int .u8 (h2 : Nat), .int .u8 92] (by simp [Act.eval, q34]) rfl (fun j u hu => (by rw [Addr.add_lit, Nat.zero_add, hP.cell j]; simpa using hu)) (by simp [Value.oneCell']) (by unfold maxLen; omega) (by omega) hI.size ?_
      intro v' w2 o2 g2 b2
      have hb2 : Below w'.heap.size w' w2 := (Below.refl _ w').grown g2 (Nat.le_refl _) (fun k hk => by cases hk)
      obtain ⟨a1, c1, rfl⟩ := ownW_slice o2
      exact ⟨_, rfl, (fun h => by cases h), ⟨a1, c1, rfl, o2⟩, onto hI hb2, fun k9 y9 _ _ h => HS hb2 k9 y9 h⟩
    · intro ll bb w' hs hlf hN hO hf hI hA
      clear hi'
      obtain ⟨a1, c1, h1', o2⟩ := hA 8 (by kernel_rfl)
      have q35 : bb.tmps[35]? = some (.slice a1 5 c1) := hf.tmp (k := 8) rfl (by rw [ha]; decide) h1'
      exact Rg.op_value (o := ⟨some 4, Op.assign (Operand.tmp 35), _, _, _, _⟩) (x := .slice a1 5 c1) rfl rfl (by clear hA HS hN hO hx1 hx2 h1'; simp only [execOp]; go_simp) ⟨_, rfl, (fun h => by cases h), ⟨a1, c1, rfl, o2⟩, hI, fun _ _ _ _ h => h⟩
theorem dAb9_0 : Rg.dstAt (Rg.opsOf Try.f162 9) 0 = some 27 := by kernel_rfl
theorem dAb9_1 : Rg.dstAt (Rg.opsOf Try.f162 9) 1 = some 28 := by kernel_rfl
theorem dAb9_2 : Rg.dstAt (Rg.opsOf Try.f162 9) 2 = some 29 := by kernel_rfl
theorem dAb9_3 : Rg.dstAt (Rg.opsOf Try.f162 9) 3 = some 30 := by kernel_rfl
theorem dAb9_4 : Rg.dstAt (Rg.opsOf Try.f162 9) 4 = some 31 := by kernel_rfl
theorem dAb9_5 : Rg.dstAt (Rg.opsOf Try.f162 9) 5 = some 32 := by kernel_rfl
theorem dAb9_6 : Rg.dstAt (Rg.opsOf Try.f162 9) 6 = some 33 := by kernel_rfl
theorem dAb9_7 : Rg.dstAt (Rg.opsOf Try.f162 9) 7 = some 34 := by kernel_rfl
theorem dAb9_8 : Rg.dstAt (Rg.opsOf Try.f162 9) 8 = some 35 := by kernel_rfl
theorem dAb9_9 : Rg.dstAt (Rg.opsOf Try.f162 9) 9 = some 4 := by kernel_rfl
theorem layAb9 {a b : Act} (hf : Rg.Fr (Rg.opsOf Try.f162 9) a b) : b = ((((((((((a.put (some 27) (Rg.out (Rg.opsOf Try.f162 9) b 0)).put (some 28) (Rg.out (Rg.opsOf Try.f162 9) b 1)).put (some 29) (Rg.out (Rg.opsOf Try.f162 9) b 2)).put (some 30) (Rg.out (Rg.opsOf Try.f162 9) b 3)).put (some 31) (Rg.out (Rg.opsOf Try.f162 9) b 4)).put (some 32) (Rg.out (Rg.opsOf Try.f162 9) b 5)).put (some 33) (Rg.out (Rg.opsOf Try.f162 9) b 6)).put (some 34) (Rg.out (Rg.opsOf Try.f162 9) b 7)).put (some 35) (Rg.out (Rg.opsOf Try.f162 9) b 8)).put (some 4) (Rg.out (Rg.opsOf Try.f162 9) b 9)) := by
  have h := hf.chain
  rw [sizeAb9, show List.range 10 = [0, 1, 2, 3, 4, 5, 6, 7, 8, 9] from by decide] at h
  simp only [List.foldl_cons, List.foldl_nil, dAb9_0, dAb9_1, dAb9_2, dAb9_3, dAb9_4, dAb9_5, dAb9_6, dAb9_7, dAb9_8, dAb9_9] at h
  exact h
set_option maxRecDepth 20000 in
set_option maxHeartbeats 8000000 in
theorem appB_any (x : Nat) (hx : x < 256) (w : World) :
    Calls Try.prog 162 #[.slice none 0 0, .int .u8 (x : Int)] w fun e w' => ∃ ad c, e = .returned (.slice ad (escL x).length c) ∧ w'.ownsRow w.heap.size 5 1 (.slice ad (escL x).length c) (escL x).length (bytV (escL x)) ∧ Below w.heap.size w w' := by
  obtain ⟨i0, hi0, hz0, hz1, hz2⟩ := info_parts infoU8r
  have kO := ownE_any
  have x0 := ix0
  have x1 := ix1
  have x2 := ix2
  have x3 := ix3
  have kp := iplain_any x
  go_enter Try.func162, Try.ntmps162
  go_wp2_with fail
  refine (kO _).mono ?_
  rintro e w1 ⟨rfl, hb1⟩
  go_wp2_with fail
  go_loopw [6, 8] (fun _ iv wr => ∃ k : Nat, k ≤ 4 ∧ iv = .int .i64 k ∧ Hid ((0 < k → x ≠ 124) ∧ (1 < k → x ≠ 92) ∧ (2 < k → x ≠ 13) ∧ (3 < k → x ≠ 10)) ∧ Below w.heap.size w wr) (fun _ iv _ => 4 - (intOf iv).toNat)
  case atStart => exact ⟨0, Nat.zero_le _, rfl, ⟨by omega, by omega, by omega, by omega⟩, hb1⟩
  case round =>
    obtain ⟨k, hk, rfl, hne, hb⟩ := hrel
    have hsz := hb.size
    by_cases hk4 : k < 4
    · rcases (show k = 0 ∨ k = 1 ∨ k = 2 ∨ k = 3 by omega) with rfl | rfl | rfl | rfl
      · by_cases hxs : x = 124
        · subst hxs
          have hE : Hid (escL 124 = [92, 70, 92]) := by rw [Hid]; decide
          clear hne
          go_wp2_with (at_builtin; refine wpList_append_own _ rfl (.tmp 15) (.tmp 18) 22 rfl w.heap.size 5 i0 (.int .u8 0) 1 1 Try.underlying22 hi0 hz0 hz1 hz2 rfl (by decide) _ 0 [] rfl (own_nil _ _ _ _) ⟨(wr.heap.size + 1), 0, none⟩ 3 3 [.int .u8 92, .int .u8 70, .int .u8 92] rfl rfl (cell_newQ (by simp) [.int .u8 92, .int .u8 70, .int .u8 92] _) (by simp [Value.oneCell']) (by unfold maxLen; omega) (by omega) (by simp; omega) ?_; intro v4 w4 ho4 hg4 hnn4; have hO4 := hidden ho4; obtain ⟨ad4, c4, rfl⟩ := ownW_slice ho4)
          have b4 := grownQ9 (show Below w.heap.size w ((wr.alloc (.cells #[.int .u8 124, .int .u8 70] 199)).alloc (.cells #[.int .u8 92, .int .u8 70, .int .u8 92] 5)) from by repeat (first | exact Below.refl _ _ | assumption | refine st_drew ?_ | refine st_drewN ?_ _ | refine Below.setCell ?_ (by first | omega | (simp; done) | (simp; omega)) _ | refine Below.alloc ?_ (by first | omega | (simp; done) | (simp; omega)) _)) (by simp; omega) hg4 (fun k hk => by cases hk)
          go_ret
          exact ⟨ad4, c4, by rw [hE.out]; rfl, by rw [hE.out]; exact hO4.out, b4⟩
        · have hxb : ((x : Int) == 124) = false := by rw [beq_eq_false_iff_ne]; omega
          have hxb2 : ((124 : Int) == (x : Int)) = false := by rw [beq_eq_false_iff_ne]; omega
          have hN : Hid ((0 < 0 + 1 → x ≠ 124) ∧ (1 < 0 + 1 → x ≠ 92) ∧ (2 < 0 + 1 → x ≠ 13) ∧ (3 < 0 + 1 → x ≠ 10)) := by have := hne.out; rw [Hid]; omega
          clear hne hxs
          go_wp2_with fail
          go_roundw
          case rel => exact ⟨0 + 1, by omega, by simp, hN, by repeat (first | exact Below.refl _ _ | assumption | refine st_drew ?_ | refine st_drewN ?_ _ | refine Below.setCell ?_ (by first | omega | (simp; done) | (simp; omega)) _ | refine Below.alloc ?_ (by first | omega | (simp; done) | (simp; omega)) _)⟩
          case measure => simp [intOf]
      · by_cases hxs : x = 92
        · subst hxs
          have hE : Hid (escL 92 = [92, 69, 92]) := by rw [Hid]; decide
          clear hne
          go_wp2_with (at_builtin; refine wpList_append_own _ rfl (.tmp 15) (.tmp 18) 22 rfl w.heap.size 5 i0 (.int .u8 0) 1 1 Try.underlying22 hi0 hz0 hz1 hz2 rfl (by decide) _ 0 [] rfl (own_nil _ _ _ _) ⟨(wr.heap.size + 1), 0, none⟩ 3 3 [.int .u8 92, .int .u8 69, .int .u8 92] rfl rfl (cell_newQ (by simp) [.int .u8 92, .int .u8 69, .int .u8 92] _) (by simp [Value.oneCell']) (by unfold maxLen; omega) (by omega) (by simp; omega) ?_; intro v4 w4 ho4 hg4 hnn4; have hO4 := hidden ho4; obtain ⟨ad4, c4, rfl⟩ := ownW_slice ho4)
          have b4 := grownQ9 (show Below w.heap.size w ((wr.alloc (.cells #[.int .u8 92, .int .u8 69] 199)).alloc (.cells #[.int .u8 92, .int .u8 69, .int .u8 92] 5)) from by repeat (first | exact Below.refl _ _ | assumption | refine st_drew ?_ | refine st_drewN ?_ _ | refine Below.setCell ?_ (by first | omega | (simp; done) | (simp; omega)) _ | refine Below.alloc ?_ (by first | omega | (simp; done) | (simp; omega)) _)) (by simp; omega) hg4 (fun k hk => by cases hk)
          go_ret
          exact ⟨ad4, c4, by rw [hE.out]; rfl, by rw [hE.out]; exact hO4.out, b4⟩
        · have hxb : ((x : Int) == 92) = false := by rw [beq_eq_false_iff_ne]; omega
          have hxb2 : ((92 : Int) == (x : Int)) = false := by rw [beq_eq_false_iff_ne]; omega
          have hN : Hid ((0 < 1 + 1 → x ≠ 124) ∧ (1 < 1 + 1 → x ≠ 92) ∧ (2 < 1 + 1 → x ≠ 13) ∧ (3 < 1 + 1 → x ≠ 10)) := by have := hne.out; rw [Hid]; omega
          clear hne hxs
          go_wp2_with fail
          go_roundw
          case rel => exact ⟨1 + 1, by omega, by simp, hN, by repeat (first | exact Below.refl _ _ | assumption | refine st_drew ?_ | refine st_drewN ?_ _ | refine Below.setCell ?_ (by first | omega | (simp; done) | (simp; omega)) _ | refine Below.alloc ?_ (by first | omega | (simp; done) | (simp; omega)) _)⟩
          case measure => simp [intOf]
      · by_cases hxs : x = 13
        · subst hxs
          have hE : Hid (escL 13 = [92, 82, 92]) := by rw [Hid]; decide
          clear hne
          go_wp2_with (at_builtin; refine wpList_append_own _ rfl (.tmp 15) (.tmp 18) 22 rfl w.heap.size 5 i0 (.int .u8 0) 1 1 Try.underlying22 hi0 hz0 hz1 hz2 rfl (by decide) _ 0 [] rfl (own_nil _ _ _ _) ⟨(wr.heap.size + 1), 0, none⟩ 3 3 [.int .u8 92, .int .u8 82, .int .u8 92] rfl rfl (cell_newQ (by simp) [.int .u8 92, .int .u8 82, .int .u8 92] _) (by simp [Value.oneCell']) (by unfold maxLen; omega) (by omega) (by simp; omega) ?_; intro v4 w4 ho4 hg4 hnn4; have hO4 := hidden ho4; obtain ⟨ad4, c4, rfl⟩ := ownW_slice ho4)
          have b4 := grownQ9 (show Below w.heap.size w ((wr.alloc (.cells #[.int .u8 13, .int .u8 82] 199)).alloc (.cells #[.int .u8 92, .int .u8 82, .int .u8 92] 5)) from by repeat (first | exact Below.refl _ _ | assumption | refine st_drew ?_ | refine st_drewN ?_ _ | refine Below.setCell ?_ (by first | omega | (simp; done) | (simp; omega)) _ | refine Below.alloc ?_ (by first | omega | (simp; done) | (simp; omega)) _)) (by simp; omega) hg4 (fun k hk => by cases hk)
          go_ret
          exact ⟨ad4, c4, by rw [hE.out]; rfl, by rw [hE.out]; exact hO4.out, b4⟩
        · have hxb : ((x : Int) == 13) = false := by rw [beq_eq_false_iff_ne]; omega
          have hxb2 : ((13 : Int) == (x : Int)) = false := by rw [beq_eq_false_iff_ne]; omega
          have hN : Hid ((0 < 2 + 1 → x ≠ 124) ∧ (1 < 2 + 1 → x ≠ 92) ∧ (2 < 2 + 1 → x ≠ 13) ∧ (3 < 2 + 1 → x ≠ 10)) := by have := hne.out; rw [Hid]; omega
          clear hne hxs
          go_wp2_with fail
          go_roundw
          case rel => exact ⟨2 + 1, by omega, by simp, hN, by repeat (first | exact Below.refl _ _ | assumption | refine st_drew ?_ | refine st_drewN ?_ _ | refine Below.setCell ?_ (by first | omega | (simp; done) | (simp; omega)) _ | refine Below.alloc ?_ (by first | omega | (simp; done) | (simp; omega)) _)⟩
          case measure => simp [intOf]
      · by_cases hxs : x = 10
        · subst hxs
          have hE : Hid (escL 10 = [92, 78, 92]) := by rw [Hid]; decide
          clear hne
          go_wp2_with (at_builtin; refine wpList_append_own _ rfl (.tmp 15) (.tmp 18) 22 rfl w.heap.size 5 i0 (.int .u8 0) 1 1 Try.underlying22 hi0 hz0 hz1 hz2 rfl (by decide) _ 0 [] rfl (own_nil _ _ _ _) ⟨(wr.heap.size + 1), 0, none⟩ 3 3 [.int .u8 92, .int .u8 78, .int .u8 92] rfl rfl (cell_newQ (by simp) [.int .u8 92, .int .u8 78, .int .u8 92] _) (by simp [Value.oneCell']) (by unfold maxLen; omega) (by omega) (by simp; omega) ?_; intro v4 w4 ho4 hg4 hnn4; have hO4 := hidden ho4; obtain ⟨ad4, c4, rfl⟩ := ownW_slice ho4)
          have b4 := grownQ9 (show Below w.heap.size w ((wr.alloc (.cells #[.int .u8 10, .int .u8 78] 199)).alloc (.cells #[.int .u8 92, .int .u8 78, .int .u8 92] 5)) from by repeat (first | exact Below.refl _ _ | assumption | refine st_drew ?_ | refine st_drewN ?_ _ | refine Below.setCell ?_ (by first | omega | (simp; done) | (simp; omega)) _ | refine Below.alloc ?_ (by first | omega | (simp; done) | (simp; omega)) _)) (by simp; omega) hg4 (fun k hk => by cases hk)
          go_ret
          exact ⟨ad4, c4, by rw [hE.out]; rfl, by rw [hE.out]; exact hO4.out, b4⟩
        · have hxb : ((x : Int) == 10) = false := by rw [beq_eq_false_iff_ne]; omega
          have hxb2 : ((10 : Int) == (x : Int)) = false := by rw [beq_eq_false_iff_ne]; omega
          have hN : Hid ((0 < 3 + 1 → x ≠ 124) ∧ (1 < 3 + 1 → x ≠ 92) ∧ (2 < 3 + 1 → x ≠ 13) ∧ (3 < 3 + 1 → x ≠ 10)) := by have := hne.out; rw [Hid]; omega
          clear hne hxs
          go_wp2_with fail
          go_roundw
          case rel => exact ⟨3 + 1, by omega, by simp, hN, by repeat (first | exact Below.refl _ _ | assumption | refine st_drew ?_ | refine st_drewN ?_ _ | refine Below.setCell ?_ (by first | omega | (simp; done) | (simp; omega)) _ | refine Below.alloc ?_ (by first | omega | (simp; done) | (simp; omega)) _)⟩
          case measure => simp [intOf]
    · obtain rfl : k = 4 := by omega
      have hn9 := hne.out
      have hno : x ≠ 124 ∧ x ≠ 92 ∧ x ≠ 13 ∧ x ≠ 10 := ⟨hn9.1 (by omega), hn9.2.1 (by omega), hn9.2.2.1 (by omega), hn9.2.2.2 (by omega)⟩
      have he : escL x = if plainN x = true then [x] else [92, 88, hexN (x / 16), hexN (x % 16), 92] := by
        unfold escL; rw [if_neg hno.1, if_neg hno.2.1, if_neg hno.2.2.1, if_neg hno.2.2.2]
      clear hne hn9 hno
      cases hp : plainN x with
      | true =>
        rw [hp] at kp
        have hE : Hid (escL x = [x]) := by rw [Hid, he, hp]; rfl
        clear hp he
        go_wp2_with (first
          | (go_at_call 107; (with_reducible refine (kp _).mono ?_); rintro e w2 ⟨rfl, rfl⟩)
          | (at_builtin; refine wpList_append_own _ rfl (.tmp 23) (.tmp 25) 22 rfl w.heap.size 5 i0 (.int .u8 0) 1 1 Try.underlying22 hi0 hz0 hz1 hz2 rfl (by decide) _ 0 [] rfl (own_nil _ _ _ _) ⟨wr.heap.size, 0, none⟩ 1 1 [.int .u8 (x : Int)] rfl rfl (cell_newQ (by simp) [.int .u8 (x : Int)] _) (by simp [Value.oneCell']) (by unfold maxLen; omega) (by omega) (by simp; omega) ?_; intro v4 w4 ho4 hg4 hnn4; have hO4 := hidden ho4; obtain ⟨ad4, c4, rfl⟩ := ownW_slice ho4))
        have b4 := grownQ9 (show Below w.heap.size w (wr.alloc (.cells #[.int .u8 (x : Int)] 5)) from by repeat (first | exact Below.refl _ _ | assumption | refine st_drew ?_ | refine st_drewN ?_ _ | refine Below.setCell ?_ (by first | omega | (simp; done) | (simp; omega)) _ | refine Below.alloc ?_ (by first | omega | (simp; done) | (simp; omega)) _)) (by simp; omega) hg4 (fun k hk => by cases hk)
        go_ret
        exact ⟨ad4, c4, by rw [hE.out]; rfl, by rw [hE.out]; exact hO4.out, b4⟩
      | false =>
        rw [hp] at kp
        have hE : Hid (escL x = [92, 88, hexN (x / 16), hexN (x % 16), 92]) := by rw [Hid, he, hp]; rfl
        have h1 := hex_ix (x / 16) (by omega)
        have h2 := hex_ix (x % 16) (by omega)
        clear hp he
        go_wp2_with (first
          | (go_at_call 107; (with_reducible refine (kp _).mono ?_); rintro e w2 ⟨rfl, rfl⟩)
          | fail)
        unfold hexS at h1 h2
        go_upto_region 9 with fail
        refine regAb9 (x := x) (d1 := x / 16) (d2 := x % 16) (h1 := hexN (x / 16)) (h2 := hexN (x % 16)) rfl rfl rfl hi0 hz0 hz1 hz2 (by rw [IntKind.wrap_u8]; omega) (by rw [Int.tdiv_eq_ediv_of_nonneg (by omega)]; omega) (by rw [Int.tmod_eq_emod_of_nonneg (by omega)]; omega) h1 h2 ?_
        intro b' w4 hf hb4 ⟨ad4, c4, hv, ho4⟩
        rw [layAb9 hf, hv]
        clear hv hf
        generalize Rg.out (Rg.opsOf Try.f162 9) b' 0 = y0
        generalize Rg.out (Rg.opsOf Try.f162 9) b' 1 = y1
        generalize Rg.out (Rg.opsOf Try.f162 9) b' 2 = y2
        generalize Rg.out (Rg.opsOf Try.f162 9) b' 3 = y3
        generalize Rg.out (Rg.opsOf Try.f162 9) b' 4 = y4
        generalize Rg.out (Rg.opsOf Try.f162 9) b' 5 = y5
        generalize Rg.out (Rg.opsOf Try.f162 9) b' 6 = y6
        generalize Rg.out (Rg.opsOf Try.f162 9) b' 7 = y7
        generalize Rg.out (Rg.opsOf Try.f162 9) b' 8 = y8
        have HO := hidden (ownW_base ho4 hsz)
        have HB := hidden (onto hb hb4)
        clear ho4 hb4
        go_frame
        go_wp2_with fail
        go_ret
        exact ⟨ad4, c4, by rw [hE.out]; rfl, by rw [hE.out]; exact HO.out, HB.out⟩
end Go.Proofs.Ytgcpiinmcbdkmaa
