/-
  An emergency: two regions of the law, whatever their order.
-/
import Derived.Test.YtcapmobhgffnhaaPg
import Derived.Test.YtcapmobhgffnhaaRh
import Derived.BigQuiet
namespace Go.Proofs.Ytcapmobhgffnhaa
open Go.RowKit Va Oa
set_option linter.all false

theorem wrS2 {n : Int} (h : -9223372036854775808 ≤ n) (h2 : n ≤ 9223372036854775807) : IntKind.i64.wrap n = n := by rw [IntKind.wrap_i64]; omega

set_option maxRecDepth 20000 in
set_option maxHeartbeats 2000000 in
theorem sameI_any (a1 : Option Addr) (n1 c1 : Nat) (a2 : Option Addr) (n2 c2 : Nat) (l : List Int) (w : World) (h : IRw w (.slice a1 n1 c1) l) (h' : IRw w (.slice a2 n2 c2) l) (hn : l.length ≤ 1048576) :
    Calls Try.prog 20 #[.slice a1 n1 c1, .slice a2 n2 c2] w fun e w' => e = .returned (.bool true) ∧ Below w.heap.size w w' := by
  obtain rfl := h.len
  obtain rfl := h'.len
  have HH := hidden h
  have HH' := hidden h'
  clear h h'
  go_enter Try.func20, Try.ntmps20
  go_wp2_with fail
  go_loopw [5] (fun iv wr => ∃ i : Nat, i ≤ l.length ∧ iv = .int .i64 i ∧ Below w.heap.size w wr) (fun iv _ => l.length - (intOf iv).toNat)
  case atStart => exact ⟨0, Nat.zero_le _, rfl, Below.refl _ _⟩
  case round =>
    obtain ⟨i, hil, rfl, hb⟩ := hrel
    by_cases hlt : i < l.length
    · have hlti : (i : Int) < (l.length : Int) := by omega
      obtain ⟨x, hx⟩ := some_of l i hlt
      obtain ⟨g, off, rfl, hg, hcs⟩ := (HH.out.below hb).at hx
      obtain ⟨g', off', rfl, hg', hcs'⟩ := (HH'.out.below hb).at hx
      have c0 := hcs i x hx
      have d0 := hcs' i x hx
      clear hcs hcs' hx
      go_wp2_with fail
      go_quiet (fail)
      go_wp2_with fail
      go_roundw
      case rel => exact ⟨i + 1, by omega, rfl, by repeat (first | exact Below.refl _ _ | assumption | refine st_drew ?_ | refine st_drewN ?_ _ | refine Below.setCell ?_ (by first | omega | (simp; done) | (simp; omega)) _ | refine Below.alloc ?_ (by first | omega | (simp; done) | (simp; omega)) _)⟩
      case measure => simp [intOf]; omega
    · have hlti : ¬ (i : Int) < (l.length : Int) := by omega
      go_wp2_with fail
      go_ret
      exact ⟨rfl, hb⟩

set_option maxRecDepth 20000 in
set_option maxHeartbeats 2000000 in
theorem sameO_any (x : Opn) (a1 : Option Addr) (n1 c1 : Nat) (a2 : Option Addr) (n2 c2 : Nat) (w : World) (h : IRw w (.slice a1 n1 c1) x.team) (h' : IRw w (.slice a2 n2 c2) x.team) (hn : x.team.length ≤ 1048576) :
    Calls Try.prog 19 #[aO x (.slice a1 n1 c1), aO x (.slice a2 n2 c2)] w fun e w' => e = .returned (.bool true) ∧ Below w.heap.size w w' := by
  have HK := hidden (fun W (hW : Below w.heap.size w W) => sameI_any a1 n1 c1 a2 n2 c2 x.team W (h.below hW) (h'.below hW) hn)
  clear h h'
  unfold aO
  go_enter Try.func19, Try.ntmps19
  go_wp2_with (go_at_call 20; refine (HK.out _ (by repeat (first | exact Below.refl _ _ | assumption | refine st_drew ?_ | refine st_drewN ?_ _ | refine Below.setCell ?_ (by first | omega | (simp; done) | (simp; omega)) _ | refine Below.alloc ?_ (by first | omega | (simp; done) | (simp; omega)) _))).mono ?_; rintro e w1 ⟨rfl, hb1⟩; have bB := onto (show Below w.heap.size w _ from by repeat (first | exact Below.refl _ _ | assumption | refine st_drew ?_ | refine st_drewN ?_ _ | refine Below.setCell ?_ (by first | omega | (simp; done) | (simp; omega)) _ | refine Below.alloc ?_ (by first | omega | (simp; done) | (simp; omega)) _)) hb1; clear hb1)
  go_ret
  exact ⟨rfl, bB⟩

def FI11 (G og n cl : Nat) (u : Opn) (t1 t2 : Option Addr) (c1 c2 : Nat) (r : Int) (k : Nat) (v : Value) (w : World) : Prop :=
  match k with
  | 0 => v = .slice (some ⟨G, og, none⟩) (n + 1) cl
  | 1 => v = .int .i64 ((n : Int) + 1)
  | 2 => v = .int .i64 (n : Nat)
  | 3 => v = .int .i64 ((n : Int) + 1)
  | 4 => v = .bool false
  | 5 => v = .bool false
  | 6 => v = .slice (some ⟨G, og, none⟩) (n + 1) cl
  | 7 => v = .int .i64 (n : Nat)
  | 8 => v = .pointer (some ⟨G, og + n * 4, none⟩)
  | 9 => v = .agg #[.int .i64 u.room, .int .i64 u.fr, .int .i64 u.to, .slice t2 u.team.length c2]
  | 10 => v = .agg #[.int .i64 u.room, .int .i64 u.fr, .int .i64 u.to, .slice t1 u.team.length c1]
  | 11 => v = .bool true
  | 12 => v = .bool false
  | 13 => v = .bool false
  | 14 => v = .bool false
  | 15 => v = .slice (some ⟨G, og, none⟩) (n + 1) cl
  | 16 => v = .int .i64 r
  | 17 => ∃ ad cc, v = .slice ad 0 cc
  | 18 => v = .int .i64 0
  | 19 => v = .bool false
  | 20 => v = .bool false
  | _ => True
theorem sizesI11 : (Rg.opsOf Try.f5 11).size = 21 := by kernel_rfl

set_option maxRecDepth 20000 in
set_option maxHeartbeats 8000000 in
theorem regI11 {Q : Exit → Act → World → Prop} {a : Act} {w9 : World} {G og n cl V : Nat} {u : Opn} {t1 t2 : Option Addr} {c1 c2 : Nat} {r : Int} (ha : a.tmps.size = 159)
    (k6 : a.tmps[6]? = some (.slice (some ⟨G, og, none⟩) (n + 1) cl)) (k12 : a.tmps[12]? = some (.int .i64 (n : Nat))) (k4 : a.tmps[4]? = some (.pointer (some ⟨V, 0, none⟩))) (k5 : a.tmps[5]? = some (.int .i64 r)) (hnl : n ≤ 1048576) (hGl : G < w9.heap.size)
    (g0 : w9.cell? ⟨G, og + n * 4, none⟩ = some (.int .i64 u.room)) (g1 : w9.cell? ⟨G, og + n * 4 + 1, none⟩ = some (.int .i64 u.fr)) (g2 : w9.cell? ⟨G, og + n * 4 + 2, none⟩ = some (.int .i64 u.to)) (g3 : w9.cell? ⟨G, og + n * 4 + 3, none⟩ = some (.slice t2 u.team.length c2)) (hbox : TBox w9 V #[.int .i64 u.room, .int .i64 u.fr, .int .i64 u.to, .slice t1 u.team.length c1] 31)
    (kS : ∀ W, Below w9.heap.size w9 W → Calls Try.prog 19 #[.agg #[.int .i64 u.room, .int .i64 u.fr, .int .i64 u.to, .slice t2 u.team.length c2], .agg #[.int .i64 u.room, .int .i64 u.fr, .int .i64 u.to, .slice t1 u.team.length c1]] W fun e W' => e = .returned (.bool true) ∧ Below W.heap.size W W')
    (kC : ∀ W, Below w9.heap.size w9 W → Calls Try.prog 11 #[.slice (some ⟨G, og, none⟩) (n + 1) cl, .int .i64 r] W fun e W' => ∃ ad cc, e = .returned (.slice ad 0 cc) ∧ Below W.heap.size W W')
    (hend : ∀ b' w', Rg.Fr (Rg.opsOf Try.f5 11) a b' → Below w9.heap.size w9 w' → Rg.out (Rg.opsOf Try.f5 11) b' 20 = .bool false → Q .normal b' w') :
    (Code.region 11 (Rg.opsOf Try.f5 11) true).wp Try.prog Q a w9 := by
  refine Rg.region_dead (by kernel_rfl) (fun w' => Below w9.heap.size w9 w') (FI11 G og n cl u t1 t2 c1 c2 r) (fun _ => none) (by rw [ha, sizesI11]; kernel_rfl) (st_drew (Below.refl _ _)) ?_ ?_
  case refine_2 =>
    intro b' w' hf hI hA
    exact hend b' w' hf hI (hA 20 (by rw [sizesI11]; decide) rfl)
  case refine_1 =>
    clear hend
    have HS : ∀ {w w' : World}, Below w.heap.size w w' → ∀ k y, FI11 G og n cl u t1 t2 c1 c2 r k y w → FI11 G og n cl u t1 t2 c1 c2 r k y w' := fun hb k y h => by
      unfold FI11 at *
      split at h <;> exact h
    intro i' hi'
    rw [sizesI11] at hi'
    rcases (show i' = 0 ∨ i' = 1 ∨ i' = 2 ∨ i' = 3 ∨ i' = 4 ∨ i' = 5 ∨ i' = 6 ∨ i' = 7 ∨ i' = 8 ∨ i' = 9 ∨ i' = 10 ∨ i' = 11 ∨ i' = 12 ∨ i' = 13 ∨ i' = 14 ∨ i' = 15 ∨ i' = 16 ∨ i' = 17 ∨ i' = 18 ∨ i' = 19 ∨ i' = 20 by omega) with rfl | rfl | rfl | rfl | rfl | rfl | rfl | rfl | rfl | rfl | rfl | rfl | rfl | rfl | rfl | rfl | rfl | rfl | rfl | rfl | rfl
    · intro bb w' hf hI hA
      clear hi'
      have q0 := hf.kept (s := 6) (by rw [sizesI11]; kernel_rfl) k6
      exact Rg.op_value (o := ⟨some 54, Op.move (Operand.tmp 6), _, _, _, _⟩) rfl rfl rfl ⟨_, rfl, (fun h => by cases h), (by show Act.eval bb _ = _; simp [Act.eval, q0]), hI, fun _ _ _ h => h⟩
    · intro bb w' hf hI hA
      clear hi'
      have q0 : bb.tmps[54]? = some _ := hf.tmp (k := 0) rfl (by rw [ha]; decide) (hA 0 (by kernel_rfl) (.inl rfl))
      clear hA HS kS kC
      exact Rg.op_value (o := ⟨some 55, Op.call { callee := Callee.builtin Builtin.len, args := #[Operand.tmp 54], argTypes := _ }, _, _, _, _⟩) (x := .int .i64 ((n : Int) + 1)) rfl rfl (by simp only [execOp]; go_simp) ⟨_, rfl, (fun h => by cases h), rfl, hI, fun _ _ _ h => h⟩
    · intro bb w' hf hI hA
      clear hi'
      have q0 := hf.kept (s := 12) (by rw [sizesI11]; kernel_rfl) k12
      exact Rg.op_value (o := ⟨some 56, Op.move (Operand.tmp 12), _, _, _, _⟩) rfl rfl rfl ⟨_, rfl, (fun h => by cases h), (by show Act.eval bb _ = _; simp [Act.eval, q0]), hI, fun _ _ _ h => h⟩
    · intro bb w' hf hI hA
      clear hi'
      have q2 : bb.tmps[56]? = some _ := hf.tmp (k := 2) rfl (by rw [ha]; decide) (hA 2 (by kernel_rfl) (.inl rfl))
      clear hA HS kS kC
      exact Rg.op_value (o := ⟨some 57, Op.binOp BinOp.add 3 (Operand.tmp 56) (Operand.const (Value.int .i64 1)) 3, _, _, _, _⟩) (x := .int .i64 ((n : Int) + 1)) rfl rfl (by simp only [execOp]; go_simp; exact wrS2 (by omega) (by omega)) ⟨_, rfl, (fun h => by cases h), rfl, hI, fun _ _ _ h => h⟩
    · intro bb w' hf hI hA
      clear hi'
      have q1 : bb.tmps[55]? = some _ := hf.tmp (k := 1) rfl (by rw [ha]; decide) (hA 1 (by kernel_rfl) (.inl rfl))
      have q3 : bb.tmps[57]? = some _ := hf.tmp (k := 3) rfl (by rw [ha]; decide) (hA 3 (by kernel_rfl) (.inl rfl))
      clear hA HS kS kC
      exact Rg.op_value (o := ⟨some 58, Op.binOp BinOp.neq 3 (Operand.tmp 55) (Operand.tmp 57) 3, _, _, _, _⟩) (x := .bool false) rfl rfl (by simp only [execOp]; go_simp) ⟨_, rfl, (fun h => by cases h), rfl, hI, fun _ _ _ h => h⟩
    · intro bb w' hf hI hA
      clear hi'
      have q4 : bb.tmps[58]? = some _ := hf.tmp (k := 4) rfl (by rw [ha]; decide) (hA 4 (by kernel_rfl) (.inl rfl))
      clear hA HS kS kC
      exact Rg.op_value (o := ⟨some 59, Op.move (Operand.tmp 58), _, _, _, _⟩) (x := .bool false) rfl rfl (by simp only [execOp]; go_simp) ⟨_, rfl, (fun h => by cases h), rfl, hI, fun _ _ _ h => h⟩
    · intro bb w' hf hI hA
      clear hi'
      have qg : bb.tmps[59]? = some _ := hf.tmp (k := 5) rfl (by rw [ha]; decide) (hA 5 (by kernel_rfl) (.inl rfl))
      have q0 := hf.kept (s := 6) (by rw [sizesI11]; kernel_rfl) k6
      exact Rg.op_value (o := ⟨some 60, Op.move (Operand.tmp 6), _, _, _, _⟩) rfl (Rg.wanted_of (g := 5) rfl rfl qg) rfl ⟨_, rfl, (fun h => by cases h), (by show Act.eval bb _ = _; simp [Act.eval, q0]), hI, fun _ _ _ h => h⟩
    · intro bb w' hf hI hA
      clear hi'
      have qg : bb.tmps[59]? = some _ := hf.tmp (k := 5) rfl (by rw [ha]; decide) (hA 5 (by kernel_rfl) (.inl rfl))
      have q0 := hf.kept (s := 12) (by rw [sizesI11]; kernel_rfl) k12
      exact Rg.op_value (o := ⟨some 61, Op.move (Operand.tmp 12), _, _, _, _⟩) rfl (Rg.wanted_of (g := 5) rfl rfl qg) rfl ⟨_, rfl, (fun h => by cases h), (by show Act.eval bb _ = _; simp [Act.eval, q0]), hI, fun _ _ _ h => h⟩
    · intro bb w' hf hI hA
      clear hi'
      have qg : bb.tmps[59]? = some _ := hf.tmp (k := 5) rfl (by rw [ha]; decide) (hA 5 (by kernel_rfl) (.inl rfl))
      have q6 : bb.tmps[60]? = some _ := hf.tmp (k := 6) rfl (by rw [ha]; decide) (hA 6 (by kernel_rfl) (.inl rfl))
      have q7 : bb.tmps[61]? = some _ := hf.tmp (k := 7) rfl (by rw [ha]; decide) (hA 7 (by kernel_rfl) (.inl rfl))
      have hn1 : n < n + 1 := by omega
      have hn2 : (n : Int) < (n : Int) + 1 := by omega
      clear hA HS kS kC
      exact Rg.op_value (o := ⟨some 62, Op.indexAddr 24 (Operand.tmp 60) (Operand.tmp 61), _, _, _, _⟩) (x := .pointer (some ⟨G, og + n * 4, none⟩)) rfl (Rg.wanted_of (g := 5) rfl rfl qg) (by simp only [execOp]; go_simp) ⟨_, rfl, (fun h => by cases h), rfl, hI, fun _ _ _ h => h⟩
    · intro bb w' hf hI hA
      clear hi'
      have qg : bb.tmps[59]? = some _ := hf.tmp (k := 5) rfl (by rw [ha]; decide) (hA 5 (by kernel_rfl) (.inl rfl))
      have q8 : bb.tmps[62]? = some _ := hf.tmp (k := 8) rfl (by rw [ha]; decide) (hA 8 (by kernel_rfl) (.inl rfl))
      have e0 := (hI.cell (p := ⟨G, og + n * 4, none⟩) hGl).trans g0
      have e1 := (hI.cell (p := ⟨G, og + n * 4 + 1, none⟩) hGl).trans g1
      have e2 := (hI.cell (p := ⟨G, og + n * 4 + 2, none⟩) hGl).trans g2
      have e3 := (hI.cell (p := ⟨G, og + n * 4 + 3, none⟩) hGl).trans g3
      clear hA HS kS kC
      exact Rg.op_value (o := ⟨some 63, Op.load 31 (Operand.tmp 62), _, _, _, _⟩) (x := .agg #[.int .i64 u.room, .int .i64 u.fr, .int .i64 u.to, .slice t2 u.team.length c2]) rfl (Rg.wanted_of (g := 5) rfl rfl qg) (by simp only [execOp]; go_simp) ⟨_, rfl, (fun h => by cases h), rfl, hI, fun _ _ _ h => h⟩
    · intro bb w' hf hI hA
      clear hi'
      have qg : bb.tmps[59]? = some _ := hf.tmp (k := 5) rfl (by rw [ha]; decide) (hA 5 (by kernel_rfl) (.inl rfl))
      have q4 := hf.kept (s := 4) (by rw [sizesI11]; kernel_rfl) k4
      obtain ⟨⟨e0, e1, e2, e3⟩, -⟩ := (hbox.below hI).four
      clear hA HS kS kC
      exact Rg.op_value (o := ⟨some 64, Op.load 31 (Operand.tmp 4), _, _, _, _⟩) (x := .agg #[.int .i64 u.room, .int .i64 u.fr, .int .i64 u.to, .slice t1 u.team.length c1]) rfl (Rg.wanted_of (g := 5) rfl rfl qg) (by simp only [execOp]; go_simp) ⟨_, rfl, (fun h => by cases h), rfl, hI, fun _ _ _ h => h⟩
    · intro bb w' hf hI hA
      clear hi'
      have qg : bb.tmps[59]? = some _ := hf.tmp (k := 5) rfl (by rw [ha]; decide) (hA 5 (by kernel_rfl) (.inl rfl))
      have q9 : bb.tmps[63]? = some _ := hf.tmp (k := 9) rfl (by rw [ha]; decide) (hA 9 (by kernel_rfl) (.inl rfl))
      have q10 : bb.tmps[64]? = some _ := hf.tmp (k := 10) rfl (by rw [ha]; decide) (hA 10 (by kernel_rfl) (.inl rfl))
      refine Rg.op_call (o := ⟨some 65, Op.call { callee := Callee.value (Operand.func 19), args := #[Operand.tmp 63, Operand.tmp 64], argTypes := _ }, _, _, _, _⟩) rfl (Rg.wanted_of (g := 5) rfl rfl qg) (by clear hA HS kS kC; simp only [execOp, resolve]; go_simp) (kS w' hI) ?_
      rintro e w2 ⟨rfl, hb2⟩
      exact ⟨_, rfl, _, rfl, (fun h => by cases h), rfl, onto hI hb2, fun k y _ h => HS hb2 k y h⟩
    · intro bb w' hf hI hA
      clear hi'
      have qg : bb.tmps[59]? = some _ := hf.tmp (k := 5) rfl (by rw [ha]; decide) (hA 5 (by kernel_rfl) (.inl rfl))
      have q11 : bb.tmps[65]? = some _ := hf.tmp (k := 11) rfl (by rw [ha]; decide) (hA 11 (by kernel_rfl) (.inl rfl))
      clear hA HS kS kC
      exact Rg.op_value (o := ⟨some 66, Op.unOp UnOp.not 4 (Operand.tmp 65), _, _, _, _⟩) (x := .bool false) rfl (Rg.wanted_of (g := 5) rfl rfl qg) (by simp only [execOp]; go_simp) ⟨_, rfl, (fun h => by cases h), rfl, hI, fun _ _ _ h => h⟩
    · intro bb w' hf hI hA
      clear hi'
      have q5 : bb.tmps[59]? = some _ := hf.tmp (k := 5) rfl (by rw [ha]; decide) (hA 5 (by kernel_rfl) (.inl rfl))
      have q12 : bb.tmps[66]? = some _ := hf.tmp (k := 12) rfl (by rw [ha]; decide) (hA 12 (by kernel_rfl) (.inl rfl))
      clear hA HS kS kC
      exact Rg.op_value (o := ⟨some 67, Op.pick (Operand.tmp 59) (Operand.const (Value.bool true)) (Operand.tmp 66), _, _, _, _⟩) (x := .bool false) rfl rfl (by simp only [execOp]; go_simp) ⟨_, rfl, (fun h => by cases h), rfl, hI, fun _ _ _ h => h⟩
    · intro bb w' hf hI hA
      clear hi'
      have q13 : bb.tmps[67]? = some _ := hf.tmp (k := 13) rfl (by rw [ha]; decide) (hA 13 (by kernel_rfl) (.inl rfl))
      clear hA HS kS kC
      exact Rg.op_value (o := ⟨some 68, Op.move (Operand.tmp 67), _, _, _, _⟩) (x := .bool false) rfl rfl (by simp only [execOp]; go_simp) ⟨_, rfl, (fun h => by cases h), rfl, hI, fun _ _ _ h => h⟩
    · intro bb w' hf hI hA
      clear hi'
      have qg : bb.tmps[68]? = some _ := hf.tmp (k := 14) rfl (by rw [ha]; decide) (hA 14 (by kernel_rfl) (.inl rfl))
      have q0 := hf.kept (s := 6) (by rw [sizesI11]; kernel_rfl) k6
      exact Rg.op_value (o := ⟨some 69, Op.move (Operand.tmp 6), _, _, _, _⟩) rfl (Rg.wanted_of (g := 14) rfl rfl qg) rfl ⟨_, rfl, (fun h => by cases h), (by show Act.eval bb _ = _; simp [Act.eval, q0]), hI, fun _ _ _ h => h⟩
    · intro bb w' hf hI hA
      clear hi'
      have qg : bb.tmps[68]? = some _ := hf.tmp (k := 14) rfl (by rw [ha]; decide) (hA 14 (by kernel_rfl) (.inl rfl))
      have q0 := hf.kept (s := 5) (by rw [sizesI11]; kernel_rfl) k5
      exact Rg.op_value (o := ⟨some 70, Op.move (Operand.tmp 5), _, _, _, _⟩) rfl (Rg.wanted_of (g := 14) rfl rfl qg) rfl ⟨_, rfl, (fun h => by cases h), (by show Act.eval bb _ = _; simp [Act.eval, q0]), hI, fun _ _ _ h => h⟩
    · intro bb w' hf hI hA
      clear hi'
      have qg : bb.tmps[68]? = some _ := hf.tmp (k := 14) rfl (by rw [ha]; decide) (hA 14 (by kernel_rfl) (.inl rfl))
      have q15 : bb.tmps[69]? = some _ := hf.tmp (k := 15) rfl (by rw [ha]; decide) (hA 15 (by kernel_rfl) (.inl rfl))
      have q16 : bb.tmps[70]? = some _ := hf.tmp (k := 16) rfl (by rw [ha]; decide) (hA 16 (by kernel_rfl) (.inl rfl))
      refine Rg.op_call (o := ⟨some 71, Op.call { callee := Callee.value (Operand.func 11), args := #[Operand.tmp 69, Operand.tmp 70], argTypes := _ }, _, _, _, _⟩) rfl (Rg.wanted_of (g := 14) rfl rfl qg) (by clear hA HS kS kC; simp only [execOp, resolve]; go_simp) (kC w' hI) ?_
      rintro e w2 ⟨ad, cc, rfl, hb2⟩
      exact ⟨_, rfl, _, rfl, (fun h => by cases h), ⟨ad, cc, rfl⟩, onto hI hb2, fun k y _ h => HS hb2 k y h⟩
    · intro bb w' hf hI hA
      clear hi'
      have qg : bb.tmps[68]? = some _ := hf.tmp (k := 14) rfl (by rw [ha]; decide) (hA 14 (by kernel_rfl) (.inl rfl))
      obtain ⟨ad, cc, hv⟩ := hA 17 (by kernel_rfl) (.inl rfl)
      have q17 : bb.tmps[71]? = some _ := hf.tmp (k := 17) rfl (by rw [ha]; decide) hv
      clear hA HS kS kC hv
      exact Rg.op_value (o := ⟨some 72, Op.call { callee := Callee.builtin Builtin.len, args := #[Operand.tmp 71], argTypes := _ }, _, _, _, _⟩) (x := .int .i64 0) rfl (Rg.wanted_of (g := 14) rfl rfl qg) (by simp only [execOp]; go_simp) ⟨_, rfl, (fun h => by cases h), rfl, hI, fun _ _ _ h => h⟩
    · intro bb w' hf hI hA
      clear hi'
      have qg : bb.tmps[68]? = some _ := hf.tmp (k := 14) rfl (by rw [ha]; decide) (hA 14 (by kernel_rfl) (.inl rfl))
      have q18 : bb.tmps[72]? = some _ := hf.tmp (k := 18) rfl (by rw [ha]; decide) (hA 18 (by kernel_rfl) (.inl rfl))
      clear hA HS kS kC
      exact Rg.op_value (o := ⟨some 73, Op.binOp BinOp.gtr 3 (Operand.tmp 72) (Operand.const (Value.int .i64 0)) 3, _, _, _, _⟩) (x := .bool false) rfl (Rg.wanted_of (g := 14) rfl rfl qg) (by simp only [execOp]; go_simp) ⟨_, rfl, (fun h => by cases h), rfl, hI, fun _ _ _ h => h⟩
    · intro bb w' hf hI hA
      clear hi'
      have q14 : bb.tmps[68]? = some _ := hf.tmp (k := 14) rfl (by rw [ha]; decide) (hA 14 (by kernel_rfl) (.inl rfl))
      have q19 : bb.tmps[73]? = some _ := hf.tmp (k := 19) rfl (by rw [ha]; decide) (hA 19 (by kernel_rfl) (.inl rfl))
      clear hA HS kS kC
      exact Rg.op_value (o := ⟨some 74, Op.pick (Operand.tmp 68) (Operand.const (Value.bool true)) (Operand.tmp 73), _, _, _, _⟩) (x := .bool false) rfl rfl (by simp only [execOp]; go_simp) ⟨_, rfl, (fun h => by cases h), rfl, hI, fun _ _ _ h => h⟩

theorem dI11_0 : Rg.dstAt (Rg.opsOf Try.f5 11) 0 = some 54 := by kernel_rfl
theorem dI11_1 : Rg.dstAt (Rg.opsOf Try.f5 11) 1 = some 55 := by kernel_rfl
theorem dI11_2 : Rg.dstAt (Rg.opsOf Try.f5 11) 2 = some 56 := by kernel_rfl
theorem dI11_3 : Rg.dstAt (Rg.opsOf Try.f5 11) 3 = some 57 := by kernel_rfl
theorem dI11_4 : Rg.dstAt (Rg.opsOf Try.f5 11) 4 = some 58 := by kernel_rfl
theorem dI11_5 : Rg.dstAt (Rg.opsOf Try.f5 11) 5 = some 59 := by kernel_rfl
theorem dI11_6 : Rg.dstAt (Rg.opsOf Try.f5 11) 6 = some 60 := by kernel_rfl
theorem dI11_7 : Rg.dstAt (Rg.opsOf Try.f5 11) 7 = some 61 := by kernel_rfl
theorem dI11_8 : Rg.dstAt (Rg.opsOf Try.f5 11) 8 = some 62 := by kernel_rfl
theorem dI11_9 : Rg.dstAt (Rg.opsOf Try.f5 11) 9 = some 63 := by kernel_rfl
theorem dI11_10 : Rg.dstAt (Rg.opsOf Try.f5 11) 10 = some 64 := by kernel_rfl
theorem dI11_11 : Rg.dstAt (Rg.opsOf Try.f5 11) 11 = some 65 := by kernel_rfl
theorem dI11_12 : Rg.dstAt (Rg.opsOf Try.f5 11) 12 = some 66 := by kernel_rfl
theorem dI11_13 : Rg.dstAt (Rg.opsOf Try.f5 11) 13 = some 67 := by kernel_rfl
theorem dI11_14 : Rg.dstAt (Rg.opsOf Try.f5 11) 14 = some 68 := by kernel_rfl
theorem dI11_15 : Rg.dstAt (Rg.opsOf Try.f5 11) 15 = some 69 := by kernel_rfl
theorem dI11_16 : Rg.dstAt (Rg.opsOf Try.f5 11) 16 = some 70 := by kernel_rfl
theorem dI11_17 : Rg.dstAt (Rg.opsOf Try.f5 11) 17 = some 71 := by kernel_rfl
theorem dI11_18 : Rg.dstAt (Rg.opsOf Try.f5 11) 18 = some 72 := by kernel_rfl
theorem dI11_19 : Rg.dstAt (Rg.opsOf Try.f5 11) 19 = some 73 := by kernel_rfl
theorem dI11_20 : Rg.dstAt (Rg.opsOf Try.f5 11) 20 = some 74 := by kernel_rfl
theorem layI11 {a b : Act} (hf : Rg.Fr (Rg.opsOf Try.f5 11) a b) : b = (((((((((((((((((((((a.put (some 54) (Rg.out (Rg.opsOf Try.f5 11) b 0)).put (some 55) (Rg.out (Rg.opsOf Try.f5 11) b 1)).put (some 56) (Rg.out (Rg.opsOf Try.f5 11) b 2)).put (some 57) (Rg.out (Rg.opsOf Try.f5 11) b 3)).put (some 58) (Rg.out (Rg.opsOf Try.f5 11) b 4)).put (some 59) (Rg.out (Rg.opsOf Try.f5 11) b 5)).put (some 60) (Rg.out (Rg.opsOf Try.f5 11) b 6)).put (some 61) (Rg.out (Rg.opsOf Try.f5 11) b 7)).put (some 62) (Rg.out (Rg.opsOf Try.f5 11) b 8)).put (some 63) (Rg.out (Rg.opsOf Try.f5 11) b 9)).put (some 64) (Rg.out (Rg.opsOf Try.f5 11) b 10)).put (some 65) (Rg.out (Rg.opsOf Try.f5 11) b 11)).put (some 66) (Rg.out (Rg.opsOf Try.f5 11) b 12)).put (some 67) (Rg.out (Rg.opsOf Try.f5 11) b 13)).put (some 68) (Rg.out (Rg.opsOf Try.f5 11) b 14)).put (some 69) (Rg.out (Rg.opsOf Try.f5 11) b 15)).put (some 70) (Rg.out (Rg.opsOf Try.f5 11) b 16)).put (some 71) (Rg.out (Rg.opsOf Try.f5 11) b 17)).put (some 72) (Rg.out (Rg.opsOf Try.f5 11) b 18)).put (some 73) (Rg.out (Rg.opsOf Try.f5 11) b 19)).put (some 74) (Rg.out (Rg.opsOf Try.f5 11) b 20)) := by
  have h := hf.chain
  rw [sizesI11, show List.range 21 = [0, 1, 2, 3, 4, 5, 6, 7, 8, 9, 10, 11, 12, 13, 14, 15, 16, 17, 18, 19, 20] from by decide] at h
  simp only [List.foldl_cons, List.foldl_nil, dI11_0, dI11_1, dI11_2, dI11_3, dI11_4, dI11_5, dI11_6, dI11_7, dI11_8, dI11_9, dI11_10, dI11_11, dI11_12, dI11_13, dI11_14, dI11_15, dI11_16, dI11_17, dI11_18, dI11_19, dI11_20] at h
  exact h

def FI17 (G og m cl B ob n cs i : Nat) (rm yfr yto xfr xto lg : Int) (t1 t2 : Option Addr) (nt1 nt2 c1 c2 : Nat) (k : Nat) (v : Value) (w : World) : Prop :=
  match k with
  | 0 => v = .slice (some ⟨G, og, none⟩) m cl
  | 1 => v = .int .i64 (i : Nat)
  | 2 => v = .pointer (some ⟨G, og + i * 4, none⟩)
  | 3 => v = .pointer (some ⟨G, og + i * 4, none⟩)
  | 4 => v = .int .i64 rm
  | 5 => v = .slice (some ⟨B, ob, none⟩) n cs
  | 6 => v = .int .i64 (i : Nat)
  | 7 => v = .pointer (some ⟨B, ob + i * 4, none⟩)
  | 8 => v = .pointer (some ⟨B, ob + i * 4, none⟩)
  | 9 => v = .int .i64 rm
  | 10 => v = .bool false
  | 11 => v = .bool false
  | 12 => v = .slice (some ⟨G, og, none⟩) m cl
  | 13 => v = .int .i64 (i : Nat)
  | 14 => v = .pointer (some ⟨G, og + i * 4, none⟩)
  | 15 => v = .pointer (some ⟨G, og + i * 4 + 3, none⟩)
  | 16 => v = .slice t2 nt2 c2
  | 17 => v = .slice (some ⟨B, ob, none⟩) n cs
  | 18 => v = .int .i64 (i : Nat)
  | 19 => v = .pointer (some ⟨B, ob + i * 4, none⟩)
  | 20 => v = .pointer (some ⟨B, ob + i * 4 + 3, none⟩)
  | 21 => v = .slice t1 nt1 c1
  | 22 => v = .bool true
  | 23 => v = .bool false
  | 24 => v = .bool false
  | 25 => v = .bool false
  | 26 => v = .slice (some ⟨G, og, none⟩) m cl
  | 27 => v = .int .i64 (i : Nat)
  | 28 => v = .pointer (some ⟨G, og + i * 4, none⟩)
  | 29 => v = .pointer (some ⟨G, og + i * 4 + 2, none⟩)
  | 30 => v = .int .i64 yto
  | 31 => v = .slice (some ⟨G, og, none⟩) m cl
  | 32 => v = .int .i64 (i : Nat)
  | 33 => v = .pointer (some ⟨G, og + i * 4, none⟩)
  | 34 => v = .pointer (some ⟨G, og + i * 4 + 1, none⟩)
  | 35 => v = .int .i64 yfr
  | 36 => v = .int .i64 lg
  | 37 => v = .slice (some ⟨B, ob, none⟩) n cs
  | 38 => v = .int .i64 (i : Nat)
  | 39 => v = .pointer (some ⟨B, ob + i * 4, none⟩)
  | 40 => v = .pointer (some ⟨B, ob + i * 4 + 2, none⟩)
  | 41 => v = .int .i64 xto
  | 42 => v = .slice (some ⟨B, ob, none⟩) n cs
  | 43 => v = .int .i64 (i : Nat)
  | 44 => v = .pointer (some ⟨B, ob + i * 4, none⟩)
  | 45 => v = .pointer (some ⟨B, ob + i * 4 + 1, none⟩)
  | 46 => v = .int .i64 xfr
  | 47 => v = .int .i64 lg
  | 48 => v = .bool false
  | 49 => v = .bool false
  | 50 => v = .bool false
  | 51 => v = .slice (some ⟨G, og, none⟩) m cl
  | 52 => v = .int .i64 (i : Nat)
  | 53 => v = .pointer (some ⟨G, og + i * 4, none⟩)
  | 54 => v = .pointer (some ⟨G, og + i * 4 + 1, none⟩)
  | 55 => v = .int .i64 yfr
  | 56 => v = .slice (some ⟨B, ob, none⟩) n cs
  | 57 => v = .int .i64 (i : Nat)
  | 58 => v = .pointer (some ⟨B, ob + i * 4, none⟩)
  | 59 => v = .pointer (some ⟨B, ob + i * 4 + 1, none⟩)
  | 60 => v = .int .i64 xfr
  | 61 => v = .bool false
  | 62 => v = .bool false
  | _ => True
theorem sizesI17 : (Rg.opsOf Try.f5 17).size = 63 := by kernel_rfl

set_option maxRecDepth 20000 in
set_option maxHeartbeats 8000000 in
theorem regI17 {Q : Exit → Act → World → Prop} {a : Act} {w9 : World} {G og m cl B ob n cs i : Nat} {rm yfr yto xfr xto lg : Int} {t1 t2 : Option Addr} {nt1 nt2 c1 c2 : Nat} (ha : a.tmps.size = 159)
    (k6 : a.tmps[6]? = some (.slice (some ⟨G, og, none⟩) m cl)) (k3 : a.tmps[3]? = some (.slice (some ⟨B, ob, none⟩) n cs)) (k14 : a.tmps[14]? = some (.int .i64 (i : Nat))) (hGl : G < w9.heap.size) (hBl : B < w9.heap.size) (him : i < m) (hin : i < n) (himi : (i : Int) < (m : Int)) (hini : (i : Int) < (n : Int))
    (y0 : w9.cell? ⟨G, og + i * 4, none⟩ = some (.int .i64 rm)) (y1 : w9.cell? ⟨G, og + i * 4 + 1, none⟩ = some (.int .i64 yfr)) (y2 : w9.cell? ⟨G, og + i * 4 + 2, none⟩ = some (.int .i64 yto)) (y3 : w9.cell? ⟨G, og + i * 4 + 3, none⟩ = some (.slice t2 nt2 c2))
    (x0 : w9.cell? ⟨B, ob + i * 4, none⟩ = some (.int .i64 rm)) (x1 : w9.cell? ⟨B, ob + i * 4 + 1, none⟩ = some (.int .i64 xfr)) (x2 : w9.cell? ⟨B, ob + i * 4 + 2, none⟩ = some (.int .i64 xto)) (x3 : w9.cell? ⟨B, ob + i * 4 + 3, none⟩ = some (.slice t1 nt1 c1))
    (hyl : yto - yfr = lg) (hxl : xto - xfr = lg) (hle : ¬ yfr < xfr) (hb1 : -100000000 ≤ yfr ∧ yfr ≤ 100000000) (hb2 : -100000000 ≤ yto ∧ yto ≤ 100000000) (hb3 : -100000000 ≤ xfr ∧ xfr ≤ 100000000) (hb4 : -100000000 ≤ xto ∧ xto ≤ 100000000)
    (kS : ∀ W, Below w9.heap.size w9 W → Calls Try.prog 20 #[.slice t2 nt2 c2, .slice t1 nt1 c1] W fun e W' => e = .returned (.bool true) ∧ Below W.heap.size W W')
    (hend : ∀ b' w', Rg.Fr (Rg.opsOf Try.f5 17) a b' → Below w9.heap.size w9 w' → Rg.out (Rg.opsOf Try.f5 17) b' 62 = .bool false → Q .normal b' w') :
    (Code.region 17 (Rg.opsOf Try.f5 17) true).wp Try.prog Q a w9 := by
  refine Rg.region_dead (by kernel_rfl) (fun w' => Below w9.heap.size w9 w') (FI17 G og m cl B ob n cs i rm yfr yto xfr xto lg t1 t2 nt1 nt2 c1 c2) (fun _ => none) (by rw [ha, sizesI17]; kernel_rfl) (st_drew (Below.refl _ _)) ?_ ?_
  case refine_2 =>
    intro b' w' hf hI hA
    exact hend b' w' hf hI (hA 62 (by rw [sizesI17]; decide) rfl)
  case refine_1 =>
    clear hend
    have HS : ∀ {w w' : World}, Below w.heap.size w w' → ∀ k y, FI17 G og m cl B ob n cs i rm yfr yto xfr xto lg t1 t2 nt1 nt2 c1 c2 k y w → FI17 G og m cl B ob n cs i rm yfr yto xfr xto lg t1 t2 nt1 nt2 c1 c2 k y w' := fun hb k y h => by
      unfold FI17 at *
      split at h <;> exact h
    intro i' hi'
    rw [sizesI17] at hi'
    rcases (show i' = 0 ∨ i' = 1 ∨ i' = 2 ∨ i' = 3 ∨ i' = 4 ∨ i' = 5 ∨ i' = 6 ∨ i' = 7 ∨ i' = 8 ∨ i' = 9 ∨ i' = 10 ∨ i' = 11 ∨ i' = 12 ∨ i' = 13 ∨ i' = 14 ∨ i' = 15 ∨ i' = 16 ∨ i' = 17 ∨ i' = 18 ∨ i' = 19 ∨ i' = 20 ∨ i' = 21 ∨ i' = 22 ∨ i' = 23 ∨ i' = 24 ∨ i' = 25 ∨ i' = 26 ∨ i' = 27 ∨ i' = 28 ∨ i' = 29 ∨ i' = 30 ∨ i' = 31 ∨ i' = 32 ∨ i' = 33 ∨ i' = 34 ∨ i' = 35 ∨ i' = 36 ∨ i' = 37 ∨ i' = 38 ∨ i' = 39 ∨ i' = 40 ∨ i' = 41 ∨ i' = 42 ∨ i' = 43 ∨ i' = 44 ∨ i' = 45 ∨ i' = 46 ∨ i' = 47 ∨ i' = 48 ∨ i' = 49 ∨ i' = 50 ∨ i' = 51 ∨ i' = 52 ∨ i' = 53 ∨ i' = 54 ∨ i' = 55 ∨ i' = 56 ∨ i' = 57 ∨ i' = 58 ∨ i' = 59 ∨ i' = 60 ∨ i' = 61 ∨ i' = 62 by omega) with rfl | rfl | rfl | rfl | rfl | rfl | rfl | rfl | rfl | rfl | rfl | rfl | rfl | rfl | rfl | rfl | rfl | rfl | rfl | rfl | rfl | rfl | rfl | rfl | rfl | rfl | rfl | rfl | rfl | rfl | rfl | rfl | rfl | rfl | rfl | rfl | rfl | rfl | rfl | rfl | rfl | rfl | rfl | rfl | rfl | rfl | rfl | rfl | rfl | rfl | rfl | rfl | rfl | rfl | rfl | rfl | rfl | rfl | rfl | rfl | rfl | rfl | rfl
    · intro bb w' hf hI hA
      clear hi'
      have q0 := hf.kept (s := 6) (by rw [sizesI17]; kernel_rfl) k6
      exact Rg.op_value (o := ⟨some 80, Op.move (Operand.tmp 6), _, _, _, _⟩) rfl rfl rfl ⟨_, rfl, (fun h => by cases h), (by show Act.eval bb _ = _; simp [Act.eval, q0]), hI, fun _ _ _ h => h⟩
    · intro bb w' hf hI hA
      clear hi'
      have q0 := hf.kept (s := 14) (by rw [sizesI17]; kernel_rfl) k14
      exact Rg.op_value (o := ⟨some 81, Op.move (Operand.tmp 14), _, _, _, _⟩) rfl rfl rfl ⟨_, rfl, (fun h => by cases h), (by show Act.eval bb _ = _; simp [Act.eval, q0]), hI, fun _ _ _ h => h⟩
    · intro bb w' hf hI hA
      clear hi'
      have q0 : bb.tmps[80]? = some _ := hf.tmp (k := 0) rfl (by rw [ha]; decide) (hA 0 (by kernel_rfl) (.inl rfl))
      have q1 : bb.tmps[81]? = some _ := hf.tmp (k := 1) rfl (by rw [ha]; decide) (hA 1 (by kernel_rfl) (.inl rfl))
      clear hA HS kS
      exact Rg.op_value (o := ⟨some 82, Op.indexAddr 24 (Operand.tmp 80) (Operand.tmp 81), _, _, _, _⟩) (x := .pointer (some ⟨G, og + i * 4, none⟩)) rfl rfl (by simp only [execOp]; go_simp) ⟨_, rfl, (fun h => by cases h), rfl, hI, fun _ _ _ h => h⟩
    · intro bb w' hf hI hA
      clear hi'
      have q2 : bb.tmps[82]? = some _ := hf.tmp (k := 2) rfl (by rw [ha]; decide) (hA 2 (by kernel_rfl) (.inl rfl))
      clear hA HS kS
      exact Rg.op_value (o := ⟨some 83, Op.fieldAddr 31 (Operand.tmp 82) 0, _, _, _, _⟩) (x := .pointer (some ⟨G, og + i * 4, none⟩)) rfl rfl (by simp only [execOp]; go_simp) ⟨_, rfl, (fun h => by cases h), rfl, hI, fun _ _ _ h => h⟩
    · intro bb w' hf hI hA
      clear hi'
      have q3 : bb.tmps[83]? = some _ := hf.tmp (k := 3) rfl (by rw [ha]; decide) (hA 3 (by kernel_rfl) (.inl rfl))
      have e0 := (hI.cell (p := ⟨G, og + i * 4, none⟩) hGl).trans y0
      clear hA HS kS
      exact Rg.op_value (o := ⟨some 84, Op.load 2 (Operand.tmp 83), _, _, _, _⟩) (x := .int .i64 rm) rfl rfl (by simp only [execOp]; go_simp) ⟨_, rfl, (fun h => by cases h), rfl, hI, fun _ _ _ h => h⟩
    · intro bb w' hf hI hA
      clear hi'
      have q0 := hf.kept (s := 3) (by rw [sizesI17]; kernel_rfl) k3
      exact Rg.op_value (o := ⟨some 85, Op.move (Operand.tmp 3), _, _, _, _⟩) rfl rfl rfl ⟨_, rfl, (fun h => by cases h), (by show Act.eval bb _ = _; simp [Act.eval, q0]), hI, fun _ _ _ h => h⟩
    · intro bb w' hf hI hA
      clear hi'
      have q0 := hf.kept (s := 14) (by rw [sizesI17]; kernel_rfl) k14
      exact Rg.op_value (o := ⟨some 86, Op.move (Operand.tmp 14), _, _, _, _⟩) rfl rfl rfl ⟨_, rfl, (fun h => by cases h), (by show Act.eval bb _ = _; simp [Act.eval, q0]), hI, fun _ _ _ h => h⟩
    · intro bb w' hf hI hA
      clear hi'
      have q5 : bb.tmps[85]? = some _ := hf.tmp (k := 5) rfl (by rw [ha]; decide) (hA 5 (by kernel_rfl) (.inl rfl))
      have q6 : bb.tmps[86]? = some _ := hf.tmp (k := 6) rfl (by rw [ha]; decide) (hA 6 (by kernel_rfl) (.inl rfl))
      clear hA HS kS
      exact Rg.op_value (o := ⟨some 87, Op.indexAddr 24 (Operand.tmp 85) (Operand.tmp 86), _, _, _, _⟩) (x := .pointer (some ⟨B, ob + i * 4, none⟩)) rfl rfl (by simp only [execOp]; go_simp) ⟨_, rfl, (fun h => by cases h), rfl, hI, fun _ _ _ h => h⟩
    · intro bb w' hf hI hA
      clear hi'
      have q7 : bb.tmps[87]? = some _ := hf.tmp (k := 7) rfl (by rw [ha]; decide) (hA 7 (by kernel_rfl) (.inl rfl))
      clear hA HS kS
      exact Rg.op_value (o := ⟨some 88, Op.fieldAddr 31 (Operand.tmp 87) 0, _, _, _, _⟩) (x := .pointer (some ⟨B, ob + i * 4, none⟩)) rfl rfl (by simp only [execOp]; go_simp) ⟨_, rfl, (fun h => by cases h), rfl, hI, fun _ _ _ h => h⟩
    · intro bb w' hf hI hA
      clear hi'
      have q8 : bb.tmps[88]? = some _ := hf.tmp (k := 8) rfl (by rw [ha]; decide) (hA 8 (by kernel_rfl) (.inl rfl))
      have e0 := (hI.cell (p := ⟨B, ob + i * 4, none⟩) hBl).trans x0
      clear hA HS kS
      exact Rg.op_value (o := ⟨some 89, Op.load 2 (Operand.tmp 88), _, _, _, _⟩) (x := .int .i64 rm) rfl rfl (by simp only [execOp]; go_simp) ⟨_, rfl, (fun h => by cases h), rfl, hI, fun _ _ _ h => h⟩
    · intro bb w' hf hI hA
      clear hi'
      have q4 : bb.tmps[84]? = some _ := hf.tmp (k := 4) rfl (by rw [ha]; decide) (hA 4 (by kernel_rfl) (.inl rfl))
      have q9 : bb.tmps[89]? = some _ := hf.tmp (k := 9) rfl (by rw [ha]; decide) (hA 9 (by kernel_rfl) (.inl rfl))
      clear hA HS kS
      exact Rg.op_value (o := ⟨some 90, Op.binOp BinOp.neq 2 (Operand.tmp 84) (Operand.tmp 89) 2, _, _, _, _⟩) (x := .bool false) rfl rfl (by simp only [execOp]; go_simp) ⟨_, rfl, (fun h => by cases h), rfl, hI, fun _ _ _ h => h⟩
    · intro bb w' hf hI hA
      clear hi'
      have q10 : bb.tmps[90]? = some _ := hf.tmp (k := 10) rfl (by rw [ha]; decide) (hA 10 (by kernel_rfl) (.inl rfl))
      clear hA HS kS
      exact Rg.op_value (o := ⟨some 91, Op.move (Operand.tmp 90), _, _, _, _⟩) (x := .bool false) rfl rfl (by simp only [execOp]; go_simp) ⟨_, rfl, (fun h => by cases h), rfl, hI, fun _ _ _ h => h⟩
    · intro bb w' hf hI hA
      clear hi'
      have qg : bb.tmps[91]? = some _ := hf.tmp (k := 11) rfl (by rw [ha]; decide) (hA 11 (by kernel_rfl) (.inl rfl))
      have q0 := hf.kept (s := 6) (by rw [sizesI17]; kernel_rfl) k6
      exact Rg.op_value (o := ⟨some 92, Op.move (Operand.tmp 6), _, _, _, _⟩) rfl (Rg.wanted_of (g := 11) rfl rfl qg) rfl ⟨_, rfl, (fun h => by cases h), (by show Act.eval bb _ = _; simp [Act.eval, q0]), hI, fun _ _ _ h => h⟩
    · intro bb w' hf hI hA
      clear hi'
      have qg : bb.tmps[91]? = some _ := hf.tmp (k := 11) rfl (by rw [ha]; decide) (hA 11 (by kernel_rfl) (.inl rfl))
      have q0 := hf.kept (s := 14) (by rw [sizesI17]; kernel_rfl) k14
      exact Rg.op_value (o := ⟨some 93, Op.move (Operand.tmp 14), _, _, _, _⟩) rfl (Rg.wanted_of (g := 11) rfl rfl qg) rfl ⟨_, rfl, (fun h => by cases h), (by show Act.eval bb _ = _; simp [Act.eval, q0]), hI, fun _ _ _ h => h⟩
    · intro bb w' hf hI hA
      clear hi'
      have qg : bb.tmps[91]? = some _ := hf.tmp (k := 11) rfl (by rw [ha]; decide) (hA 11 (by kernel_rfl) (.inl rfl))
      have q12 : bb.tmps[92]? = some _ := hf.tmp (k := 12) rfl (by rw [ha]; decide) (hA 12 (by kernel_rfl) (.inl rfl))
      have q13 : bb.tmps[93]? = some _ := hf.tmp (k := 13) rfl (by rw [ha]; decide) (hA 13 (by kernel_rfl) (.inl rfl))
      clear hA HS kS
      exact Rg.op_value (o := ⟨some 94, Op.indexAddr 24 (Operand.tmp 92) (Operand.tmp 93), _, _, _, _⟩) (x := .pointer (some ⟨G, og + i * 4, none⟩)) rfl (Rg.wanted_of (g := 11) rfl rfl qg) (by simp only [execOp]; go_simp) ⟨_, rfl, (fun h => by cases h), rfl, hI, fun _ _ _ h => h⟩
    · intro bb w' hf hI hA
      clear hi'
      have qg : bb.tmps[91]? = some _ := hf.tmp (k := 11) rfl (by rw [ha]; decide) (hA 11 (by kernel_rfl) (.inl rfl))
      have q14 : bb.tmps[94]? = some _ := hf.tmp (k := 14) rfl (by rw [ha]; decide) (hA 14 (by kernel_rfl) (.inl rfl))
      clear hA HS kS
      exact Rg.op_value (o := ⟨some 95, Op.fieldAddr 31 (Operand.tmp 94) 3, _, _, _, _⟩) (x := .pointer (some ⟨G, og + i * 4 + 3, none⟩)) rfl (Rg.wanted_of (g := 11) rfl rfl qg) (by simp only [execOp]; go_simp) ⟨_, rfl, (fun h => by cases h), rfl, hI, fun _ _ _ h => h⟩
    · intro bb w' hf hI hA
      clear hi'
      have qg : bb.tmps[91]? = some _ := hf.tmp (k := 11) rfl (by rw [ha]; decide) (hA 11 (by kernel_rfl) (.inl rfl))
      have q15 : bb.tmps[95]? = some _ := hf.tmp (k := 15) rfl (by rw [ha]; decide) (hA 15 (by kernel_rfl) (.inl rfl))
      have e0 := (hI.cell (p := ⟨G, og + i * 4 + 3, none⟩) hGl).trans y3
      clear hA HS kS
      exact Rg.op_value (o := ⟨some 96, Op.load 29 (Operand.tmp 95), _, _, _, _⟩) (x := .slice t2 nt2 c2) rfl (Rg.wanted_of (g := 11) rfl rfl qg) (by simp only [execOp]; go_simp) ⟨_, rfl, (fun h => by cases h), rfl, hI, fun _ _ _ h => h⟩
    · intro bb w' hf hI hA
      clear hi'
      have qg : bb.tmps[91]? = some _ := hf.tmp (k := 11) rfl (by rw [ha]; decide) (hA 11 (by kernel_rfl) (.inl rfl))
      have q0 := hf.kept (s := 3) (by rw [sizesI17]; kernel_rfl) k3
      exact Rg.op_value (o := ⟨some 97, Op.move (Operand.tmp 3), _, _, _, _⟩) rfl (Rg.wanted_of (g := 11) rfl rfl qg) rfl ⟨_, rfl, (fun h => by cases h), (by show Act.eval bb _ = _; simp [Act.eval, q0]), hI, fun _ _ _ h => h⟩
    · intro bb w' hf hI hA
      clear hi'
      have qg : bb.tmps[91]? = some _ := hf.tmp (k := 11) rfl (by rw [ha]; decide) (hA 11 (by kernel_rfl) (.inl rfl))
      have q0 := hf.kept (s := 14) (by rw [sizesI17]; kernel_rfl) k14
      exact Rg.op_value (o := ⟨some 98, Op.move (Operand.tmp 14), _, _, _, _⟩) rfl (Rg.wanted_of (g := 11) rfl rfl qg) rfl ⟨_, rfl, (fun h => by cases h), (by show Act.eval bb _ = _; simp [Act.eval, q0]), hI, fun _ _ _ h => h⟩
    · intro bb w' hf hI hA
      clear hi'
      have qg : bb.tmps[91]? = some _ := hf.tmp (k := 11) rfl (by rw [ha]; decide) (hA 11 (by kernel_rfl) (.inl rfl))
      have q17 : bb.tmps[97]? = some _ := hf.tmp (k := 17) rfl (by rw [ha]; decide) (hA 17 (by kernel_rfl) (.inl rfl))
      have q18 : bb.tmps[98]? = some _ := hf.tmp (k := 18) rfl (by rw [ha]; decide) (hA 18 (by kernel_rfl) (.inl rfl))
      clear hA HS kS
      exact Rg.op_value (o := ⟨some 99, Op.indexAddr 24 (Operand.tmp 97) (Operand.tmp 98), _, _, _, _⟩) (x := .pointer (some ⟨B, ob + i * 4, none⟩)) rfl (Rg.wanted_of (g := 11) rfl rfl qg) (by simp only [execOp]; go_simp) ⟨_, rfl, (fun h => by cases h), rfl, hI, fun _ _ _ h => h⟩
    · intro bb w' hf hI hA
      clear hi'
      have qg : bb.tmps[91]? = some _ := hf.tmp (k := 11) rfl (by rw [ha]; decide) (hA 11 (by kernel_rfl) (.inl rfl))
      have q19 : bb.tmps[99]? = some _ := hf.tmp (k := 19) rfl (by rw [ha]; decide) (hA 19 (by kernel_rfl) (.inl rfl))
      clear hA HS kS
      exact Rg.op_value (o := ⟨some 100, Op.fieldAddr 31 (Operand.tmp 99) 3, _, _, _, _⟩) (x := .pointer (some ⟨B, ob + i * 4 + 3, none⟩)) rfl (Rg.wanted_of (g := 11) rfl rfl qg) (by simp only [execOp]; go_simp) ⟨_, rfl, (fun h => by cases h), rfl, hI, fun _ _ _ h => h⟩
    · intro bb w' hf hI hA
      clear hi'
      have qg : bb.tmps[91]? = some _ := hf.tmp (k := 11) rfl (by rw [ha]; decide) (hA 11 (by kernel_rfl) (.inl rfl))
      have q20 : bb.tmps[100]? = some _ := hf.tmp (k := 20) rfl (by rw [ha]; decide) (hA 20 (by kernel_rfl) (.inl rfl))
      have e0 := (hI.cell (p := ⟨B, ob + i * 4 + 3, none⟩) hBl).trans x3
      clear hA HS kS
      exact Rg.op_value (o := ⟨some 101, Op.load 29 (Operand.tmp 100), _, _, _, _⟩) (x := .slice t1 nt1 c1) rfl (Rg.wanted_of (g := 11) rfl rfl qg) (by simp only [execOp]; go_simp) ⟨_, rfl, (fun h => by cases h), rfl, hI, fun _ _ _ h => h⟩
    · intro bb w' hf hI hA
      clear hi'
      have qg : bb.tmps[91]? = some _ := hf.tmp (k := 11) rfl (by rw [ha]; decide) (hA 11 (by kernel_rfl) (.inl rfl))
      have q16 : bb.tmps[96]? = some _ := hf.tmp (k := 16) rfl (by rw [ha]; decide) (hA 16 (by kernel_rfl) (.inl rfl))
      have q21 : bb.tmps[101]? = some _ := hf.tmp (k := 21) rfl (by rw [ha]; decide) (hA 21 (by kernel_rfl) (.inl rfl))
      refine Rg.op_call (o := ⟨some 102, Op.call { callee := Callee.value (Operand.func 20), args := #[Operand.tmp 96, Operand.tmp 101], argTypes := _ }, _, _, _, _⟩) rfl (Rg.wanted_of (g := 11) rfl rfl qg) (by clear hA HS kS; simp only [execOp, resolve]; go_simp) (kS w' hI) ?_
      rintro e w2 ⟨rfl, hb2⟩
      exact ⟨_, rfl, _, rfl, (fun h => by cases h), rfl, onto hI hb2, fun k y _ h => HS hb2 k y h⟩
    · intro bb w' hf hI hA
      clear hi'
      have qg : bb.tmps[91]? = some _ := hf.tmp (k := 11) rfl (by rw [ha]; decide) (hA 11 (by kernel_rfl) (.inl rfl))
      have q22 : bb.tmps[102]? = some _ := hf.tmp (k := 22) rfl (by rw [ha]; decide) (hA 22 (by kernel_rfl) (.inl rfl))
      clear hA HS kS
      exact Rg.op_value (o := ⟨some 103, Op.unOp UnOp.not 4 (Operand.tmp 102), _, _, _, _⟩) (x := .bool false) rfl (Rg.wanted_of (g := 11) rfl rfl qg) (by simp only [execOp]; go_simp) ⟨_, rfl, (fun h => by cases h), rfl, hI, fun _ _ _ h => h⟩
    · intro bb w' hf hI hA
      clear hi'
      have q11 : bb.tmps[91]? = some _ := hf.tmp (k := 11) rfl (by rw [ha]; decide) (hA 11 (by kernel_rfl) (.inl rfl))
      have q23 : bb.tmps[103]? = some _ := hf.tmp (k := 23) rfl (by rw [ha]; decide) (hA 23 (by kernel_rfl) (.inl rfl))
      clear hA HS kS
      exact Rg.op_value (o := ⟨some 104, Op.pick (Operand.tmp 91) (Operand.const (Value.bool true)) (Operand.tmp 103), _, _, _, _⟩) (x := .bool false) rfl rfl (by simp only [execOp]; go_simp) ⟨_, rfl, (fun h => by cases h), rfl, hI, fun _ _ _ h => h⟩
    · intro bb w' hf hI hA
      clear hi'
      have q24 : bb.tmps[104]? = some _ := hf.tmp (k := 24) rfl (by rw [ha]; decide) (hA 24 (by kernel_rfl) (.inl rfl))
      clear hA HS kS
      exact Rg.op_value (o := ⟨some 105, Op.move (Operand.tmp 104), _, _, _, _⟩) (x := .bool false) rfl rfl (by simp only [execOp]; go_simp) ⟨_, rfl, (fun h => by cases h), rfl, hI, fun _ _ _ h => h⟩
    · intro bb w' hf hI hA
      clear hi'
      have qg : bb.tmps[105]? = some _ := hf.tmp (k := 25) rfl (by rw [ha]; decide) (hA 25 (by kernel_rfl) (.inl rfl))
      have q0 := hf.kept (s := 6) (by rw [sizesI17]; kernel_rfl) k6
      exact Rg.op_value (o := ⟨some 106, Op.move (Operand.tmp 6), _, _, _, _⟩) rfl (Rg.wanted_of (g := 25) rfl rfl qg) rfl ⟨_, rfl, (fun h => by cases h), (by show Act.eval bb _ = _; simp [Act.eval, q0]), hI, fun _ _ _ h => h⟩
    · intro bb w' hf hI hA
      clear hi'
      have qg : bb.tmps[105]? = some _ := hf.tmp (k := 25) rfl (by rw [ha]; decide) (hA 25 (by kernel_rfl) (.inl rfl))
      have q0 := hf.kept (s := 14) (by rw [sizesI17]; kernel_rfl) k14
      exact Rg.op_value (o := ⟨some 107, Op.move (Operand.tmp 14), _, _, _, _⟩) rfl (Rg.wanted_of (g := 25) rfl rfl qg) rfl ⟨_, rfl, (fun h => by cases h), (by show Act.eval bb _ = _; simp [Act.eval, q0]), hI, fun _ _ _ h => h⟩
    · intro bb w' hf hI hA
      clear hi'
      have qg : bb.tmps[105]? = some _ := hf.tmp (k := 25) rfl (by rw [ha]; decide) (hA 25 (by kernel_rfl) (.inl rfl))
      have q26 : bb.tmps[106]? = some _ := hf.tmp (k := 26) rfl (by rw [ha]; decide) (hA 26 (by kernel_rfl) (.inl rfl))
      have q27 : bb.tmps[107]? = some _ := hf.tmp (k := 27) rfl (by rw [ha]; decide) (hA 27 (by kernel_rfl) (.inl rfl))
      clear hA HS kS
      exact Rg.op_value (o := ⟨some 108, Op.indexAddr 24 (Operand.tmp 106) (Operand.tmp 107), _, _, _, _⟩) (x := .pointer (some ⟨G, og + i * 4, none⟩)) rfl (Rg.wanted_of (g := 25) rfl rfl qg) (by simp only [execOp]; go_simp) ⟨_, rfl, (fun h => by cases h), rfl, hI, fun _ _ _ h => h⟩
    · intro bb w' hf hI hA
      clear hi'
      have qg : bb.tmps[105]? = some _ := hf.tmp (k := 25) rfl (by rw [ha]; decide) (hA 25 (by kernel_rfl) (.inl rfl))
      have q28 : bb.tmps[108]? = some _ := hf.tmp (k := 28) rfl (by rw [ha]; decide) (hA 28 (by kernel_rfl) (.inl rfl))
      clear hA HS kS
      exact Rg.op_value (o := ⟨some 109, Op.fieldAddr 31 (Operand.tmp 108) 2, _, _, _, _⟩) (x := .pointer (some ⟨G, og + i * 4 + 2, none⟩)) rfl (Rg.wanted_of (g := 25) rfl rfl qg) (by simp only [execOp]; go_simp) ⟨_, rfl, (fun h => by cases h), rfl, hI, fun _ _ _ h => h⟩
    · intro bb w' hf hI hA
      clear hi'
      have qg : bb.tmps[105]? = some _ := hf.tmp (k := 25) rfl (by rw [ha]; decide) (hA 25 (by kernel_rfl) (.inl rfl))
      have q29 : bb.tmps[109]? = some _ := hf.tmp (k := 29) rfl (by rw [ha]; decide) (hA 29 (by kernel_rfl) (.inl rfl))
      have e0 := (hI.cell (p := ⟨G, og + i * 4 + 2, none⟩) hGl).trans y2
      clear hA HS kS
      exact Rg.op_value (o := ⟨some 110, Op.load 2 (Operand.tmp 109), _, _, _, _⟩) (x := .int .i64 yto) rfl (Rg.wanted_of (g := 25) rfl rfl qg) (by simp only [execOp]; go_simp) ⟨_, rfl, (fun h => by cases h), rfl, hI, fun _ _ _ h => h⟩
    · intro bb w' hf hI hA
      clear hi'
      have qg : bb.tmps[105]? = some _ := hf.tmp (k := 25) rfl (by rw [ha]; decide) (hA 25 (by kernel_rfl) (.inl rfl))
      have q0 := hf.kept (s := 6) (by rw [sizesI17]; kernel_rfl) k6
      exact Rg.op_value (o := ⟨some 111, Op.move (Operand.tmp 6), _, _, _, _⟩) rfl (Rg.wanted_of (g := 25) rfl rfl qg) rfl ⟨_, rfl, (fun h => by cases h), (by show Act.eval bb _ = _; simp [Act.eval, q0]), hI, fun _ _ _ h => h⟩
    · intro bb w' hf hI hA
      clear hi'
      have qg : bb.tmps[105]? = some _ := hf.tmp (k := 25) rfl (by rw [ha]; decide) (hA 25 (by kernel_rfl) (.inl rfl))
      have q0 := hf.kept (s := 14) (by rw [sizesI17]; kernel_rfl) k14
      exact Rg.op_value (o := ⟨some 112, Op.move (Operand.tmp 14), _, _, _, _⟩) rfl (Rg.wanted_of (g := 25) rfl rfl qg) rfl ⟨_, rfl, (fun h => by cases h), (by show Act.eval bb _ = _; simp [Act.eval, q0]), hI, fun _ _ _ h => h⟩
    · intro bb w' hf hI hA
      clear hi'
      have qg : bb.tmps[105]? = some _ := hf.tmp (k := 25) rfl (by rw [ha]; decide) (hA 25 (by kernel_rfl) (.inl rfl))
      have q31 : bb.tmps[111]? = some _ := hf.tmp (k := 31) rfl (by rw [ha]; decide) (hA 31 (by kernel_rfl) (.inl rfl))
      have q32 : bb.tmps[112]? = some _ := hf.tmp (k := 32) rfl (by rw [ha]; decide) (hA 32 (by kernel_rfl) (.inl rfl))
      clear hA HS kS
      exact Rg.op_value (o := ⟨some 113, Op.indexAddr 24 (Operand.tmp 111) (Operand.tmp 112), _, _, _, _⟩) (x := .pointer (some ⟨G, og + i * 4, none⟩)) rfl (Rg.wanted_of (g := 25) rfl rfl qg) (by simp only [execOp]; go_simp) ⟨_, rfl, (fun h => by cases h), rfl, hI, fun _ _ _ h => h⟩
    · intro bb w' hf hI hA
      clear hi'
      have qg : bb.tmps[105]? = some _ := hf.tmp (k := 25) rfl (by rw [ha]; decide) (hA 25 (by kernel_rfl) (.inl rfl))
      have q33 : bb.tmps[113]? = some _ := hf.tmp (k := 33) rfl (by rw [ha]; decide) (hA 33 (by kernel_rfl) (.inl rfl))
      clear hA HS kS
      exact Rg.op_value (o := ⟨some 114, Op.fieldAddr 31 (Operand.tmp 113) 1, _, _, _, _⟩) (x := .pointer (some ⟨G, og + i * 4 + 1, none⟩)) rfl (Rg.wanted_of (g := 25) rfl rfl qg) (by simp only [execOp]; go_simp) ⟨_, rfl, (fun h => by cases h), rfl, hI, fun _ _ _ h => h⟩
    · intro bb w' hf hI hA
      clear hi'
      have qg : bb.tmps[105]? = some _ := hf.tmp (k := 25) rfl (by rw [ha]; decide) (hA 25 (by kernel_rfl) (.inl rfl))
      have q34 : bb.tmps[114]? = some _ := hf.tmp (k := 34) rfl (by rw [ha]; decide) (hA 34 (by kernel_rfl) (.inl rfl))
      have e0 := (hI.cell (p := ⟨G, og + i * 4 + 1, none⟩) hGl).trans y1
      clear hA HS kS
      exact Rg.op_value (o := ⟨some 115, Op.load 2 (Operand.tmp 114), _, _, _, _⟩) (x := .int .i64 yfr) rfl (Rg.wanted_of (g := 25) rfl rfl qg) (by simp only [execOp]; go_simp) ⟨_, rfl, (fun h => by cases h), rfl, hI, fun _ _ _ h => h⟩
    · intro bb w' hf hI hA
      clear hi'
      have qg : bb.tmps[105]? = some _ := hf.tmp (k := 25) rfl (by rw [ha]; decide) (hA 25 (by kernel_rfl) (.inl rfl))
      have q30 : bb.tmps[110]? = some _ := hf.tmp (k := 30) rfl (by rw [ha]; decide) (hA 30 (by kernel_rfl) (.inl rfl))
      have q35 : bb.tmps[115]? = some _ := hf.tmp (k := 35) rfl (by rw [ha]; decide) (hA 35 (by kernel_rfl) (.inl rfl))
      clear hA HS kS
      exact Rg.op_value (o := ⟨some 116, Op.binOp BinOp.sub 2 (Operand.tmp 110) (Operand.tmp 115) 2, _, _, _, _⟩) (x := .int .i64 lg) rfl (Rg.wanted_of (g := 25) rfl rfl qg) (by simp only [execOp]; go_simp; rw [wrS2 (by omega) (by omega)]) ⟨_, rfl, (fun h => by cases h), rfl, hI, fun _ _ _ h => h⟩
    · intro bb w' hf hI hA
      clear hi'
      have qg : bb.tmps[105]? = some _ := hf.tmp (k := 25) rfl (by rw [ha]; decide) (hA 25 (by kernel_rfl) (.inl rfl))
      have q0 := hf.kept (s := 3) (by rw [sizesI17]; kernel_rfl) k3
      exact Rg.op_value (o := ⟨some 117, Op.move (Operand.tmp 3), _, _, _, _⟩) rfl (Rg.wanted_of (g := 25) rfl rfl qg) rfl ⟨_, rfl, (fun h => by cases h), (by show Act.eval bb _ = _; simp [Act.eval, q0]), hI, fun _ _ _ h => h⟩
    · intro bb w' hf hI hA
      clear hi'
      have qg : bb.tmps[105]? = some _ := hf.tmp (k := 25) rfl (by rw [ha]; decide) (hA 25 (by kernel_rfl) (.inl rfl))
      have q0 := hf.kept (s := 14) (by rw [sizesI17]; kernel_rfl) k14
      exact Rg.op_value (o := ⟨some 118, Op.move (Operand.tmp 14), _, _, _, _⟩) rfl (Rg.wanted_of (g := 25) rfl rfl qg) rfl ⟨_, rfl, (fun h => by cases h), (by show Act.eval bb _ = _; simp [Act.eval, q0]), hI, fun _ _ _ h => h⟩
    · intro bb w' hf hI hA
      clear hi'
      have qg : bb.tmps[105]? = some _ := hf.tmp (k := 25) rfl (by rw [ha]; decide) (hA 25 (by kernel_rfl) (.inl rfl))
      have q37 : bb.tmps[117]? = some _ := hf.tmp (k := 37) rfl (by rw [ha]; decide) (hA 37 (by kernel_rfl) (.inl rfl))
      have q38 : bb.tmps[118]? = some _ := hf.tmp (k := 38) rfl (by rw [ha]; decide) (hA 38 (by kernel_rfl) (.inl rfl))
      clear hA HS kS
      exact Rg.op_value (o := ⟨some 119, Op.indexAddr 24 (Operand.tmp 117) (Operand.tmp 118), _, _, _, _⟩) (x := .pointer (some ⟨B, ob + i * 4, none⟩)) rfl (Rg.wanted_of (g := 25) rfl rfl qg) (by simp only [execOp]; go_simp) ⟨_, rfl, (fun h => by cases h), rfl, hI, fun _ _ _ h => h⟩
    · intro bb w' hf hI hA
      clear hi'
      have qg : bb.tmps[105]? = some _ := hf.tmp (k := 25) rfl (by rw [ha]; decide) (hA 25 (by kernel_rfl) (.inl rfl))
      have q39 : bb.tmps[119]? = some _ := hf.tmp (k := 39) rfl (by rw [ha]; decide) (hA 39 (by kernel_rfl) (.inl rfl))
      clear hA HS kS
      exact Rg.op_value (o := ⟨some 120, Op.fieldAddr 31 (Operand.tmp 119) 2, _, _, _, _⟩) (x := .pointer (some ⟨B, ob + i * 4 + 2, none⟩)) rfl (Rg.wanted_of (g := 25) rfl rfl qg) (by simp only [execOp]; go_simp) ⟨_, rfl, (fun h => by cases h), rfl, hI, fun _ _ _ h => h⟩
    · intro bb w' hf hI hA
      clear hi'
      have qg : bb.tmps[105]? = some _ := hf.tmp (k := 25) rfl (by rw [ha]; decide) (hA 25 (by kernel_rfl) (.inl rfl))
      have q40 : bb.tmps[120]? = some _ := hf.tmp (k := 40) rfl (by rw [ha]; decide) (hA 40 (by kernel_rfl) (.inl rfl))
      have e0 := (hI.cell (p := ⟨B, ob + i * 4 + 2, none⟩) hBl).trans x2
      clear hA HS kS
      exact Rg.op_value (o := ⟨some 121, Op.load 2 (Operand.tmp 120), _, _, _, _⟩) (x := .int .i64 xto) rfl (Rg.wanted_of (g := 25) rfl rfl qg) (by simp only [execOp]; go_simp) ⟨_, rfl, (fun h => by cases h), rfl, hI, fun _ _ _ h => h⟩
    · intro bb w' hf hI hA
      clear hi'
      have qg : bb.tmps[105]? = some _ := hf.tmp (k := 25) rfl (by rw [ha]; decide) (hA 25 (by kernel_rfl) (.inl rfl))
      have q0 := hf.kept (s := 3) (by rw [sizesI17]; kernel_rfl) k3
      exact Rg.op_value (o := ⟨some 122, Op.move (Operand.tmp 3), _, _, _, _⟩) rfl (Rg.wanted_of (g := 25) rfl rfl qg) rfl ⟨_, rfl, (fun h => by cases h), (by show Act.eval bb _ = _; simp [Act.eval, q0]), hI, fun _ _ _ h => h⟩
    · intro bb w' hf hI hA
      clear hi'
      have qg : bb.tmps[105]? = some _ := hf.tmp (k := 25) rfl (by rw [ha]; decide) (hA 25 (by kernel_rfl) (.inl rfl))
      have q0 := hf.kept (s := 14) (by rw [sizesI17]; kernel_rfl) k14
      exact Rg.op_value (o := ⟨some 123, Op.move (Operand.tmp 14), _, _, _, _⟩) rfl (Rg.wanted_of (g := 25) rfl rfl qg) rfl ⟨_, rfl, (fun h => by cases h), (by show Act.eval bb _ = _; simp [Act.eval, q0]), hI, fun _ _ _ h => h⟩
    · intro bb w' hf hI hA
      clear hi'
      have qg : bb.tmps[105]? = some _ := hf.tmp (k := 25) rfl (by rw [ha]; decide) (hA 25 (by kernel_rfl) (.inl rfl))
      have q42 : bb.tmps[122]? = some _ := hf.tmp (k := 42) rfl (by rw [ha]; decide) (hA 42 (by kernel_rfl) (.inl rfl))
      have q43 : bb.tmps[123]? = some _ := hf.tmp (k := 43) rfl (by rw [ha]; decide) (hA 43 (by kernel_rfl) (.inl rfl))
      clear hA HS kS
      exact Rg.op_value (o := ⟨some 124, Op.indexAddr 24 (Operand.tmp 122) (Operand.tmp 123), _, _, _, _⟩) (x := .pointer (some ⟨B, ob + i * 4, none⟩)) rfl (Rg.wanted_of (g := 25) rfl rfl qg) (by simp only [execOp]; go_simp) ⟨_, rfl, (fun h => by cases h), rfl, hI, fun _ _ _ h => h⟩
    · intro bb w' hf hI hA
      clear hi'
      have qg : bb.tmps[105]? = some _ := hf.tmp (k := 25) rfl (by rw [ha]; decide) (hA 25 (by kernel_rfl) (.inl rfl))
      have q44 : bb.tmps[124]? = some _ := hf.tmp (k := 44) rfl (by rw [ha]; decide) (hA 44 (by kernel_rfl) (.inl rfl))
      clear hA HS kS
      exact Rg.op_value (o := ⟨some 125, Op.fieldAddr 31 (Operand.tmp 124) 1, _, _, _, _⟩) (x := .pointer (some ⟨B, ob + i * 4 + 1, none⟩)) rfl (Rg.wanted_of (g := 25) rfl rfl qg) (by simp only [execOp]; go_simp) ⟨_, rfl, (fun h => by cases h), rfl, hI, fun _ _ _ h => h⟩
    · intro bb w' hf hI hA
      clear hi'
      have qg : bb.tmps[105]? = some _ := hf.tmp (k := 25) rfl (by rw [ha]; decide) (hA 25 (by kernel_rfl) (.inl rfl))
      have q45 : bb.tmps[125]? = some _ := hf.tmp (k := 45) rfl (by rw [ha]; decide) (hA 45 (by kernel_rfl) (.inl rfl))
      have e0 := (hI.cell (p := ⟨B, ob + i * 4 + 1, none⟩) hBl).trans x1
      clear hA HS kS
      exact Rg.op_value (o := ⟨some 126, Op.load 2 (Operand.tmp 125), _, _, _, _⟩) (x := .int .i64 xfr) rfl (Rg.wanted_of (g := 25) rfl rfl qg) (by simp only [execOp]; go_simp) ⟨_, rfl, (fun h => by cases h), rfl, hI, fun _ _ _ h => h⟩
    · intro bb w' hf hI hA
      clear hi'
      have qg : bb.tmps[105]? = some _ := hf.tmp (k := 25) rfl (by rw [ha]; decide) (hA 25 (by kernel_rfl) (.inl rfl))
      have q41 : bb.tmps[121]? = some _ := hf.tmp (k := 41) rfl (by rw [ha]; decide) (hA 41 (by kernel_rfl) (.inl rfl))
      have q46 : bb.tmps[126]? = some _ := hf.tmp (k := 46) rfl (by rw [ha]; decide) (hA 46 (by kernel_rfl) (.inl rfl))
      clear hA HS kS
      exact Rg.op_value (o := ⟨some 127, Op.binOp BinOp.sub 2 (Operand.tmp 121) (Operand.tmp 126) 2, _, _, _, _⟩) (x := .int .i64 lg) rfl (Rg.wanted_of (g := 25) rfl rfl qg) (by simp only [execOp]; go_simp; rw [wrS2 (by omega) (by omega)]) ⟨_, rfl, (fun h => by cases h), rfl, hI, fun _ _ _ h => h⟩
    · intro bb w' hf hI hA
      clear hi'
      have qg : bb.tmps[105]? = some _ := hf.tmp (k := 25) rfl (by rw [ha]; decide) (hA 25 (by kernel_rfl) (.inl rfl))
      have q36 : bb.tmps[116]? = some _ := hf.tmp (k := 36) rfl (by rw [ha]; decide) (hA 36 (by kernel_rfl) (.inl rfl))
      have q47 : bb.tmps[127]? = some _ := hf.tmp (k := 47) rfl (by rw [ha]; decide) (hA 47 (by kernel_rfl) (.inl rfl))
      clear hA HS kS
      exact Rg.op_value (o := ⟨some 128, Op.binOp BinOp.neq 2 (Operand.tmp 116) (Operand.tmp 127) 2, _, _, _, _⟩) (x := .bool false) rfl (Rg.wanted_of (g := 25) rfl rfl qg) (by simp only [execOp]; go_simp) ⟨_, rfl, (fun h => by cases h), rfl, hI, fun _ _ _ h => h⟩
    · intro bb w' hf hI hA
      clear hi'
      have q25 : bb.tmps[105]? = some _ := hf.tmp (k := 25) rfl (by rw [ha]; decide) (hA 25 (by kernel_rfl) (.inl rfl))
      have q48 : bb.tmps[128]? = some _ := hf.tmp (k := 48) rfl (by rw [ha]; decide) (hA 48 (by kernel_rfl) (.inl rfl))
      clear hA HS kS
      exact Rg.op_value (o := ⟨some 129, Op.pick (Operand.tmp 105) (Operand.const (Value.bool true)) (Operand.tmp 128), _, _, _, _⟩) (x := .bool false) rfl rfl (by simp only [execOp]; go_simp) ⟨_, rfl, (fun h => by cases h), rfl, hI, fun _ _ _ h => h⟩
    · intro bb w' hf hI hA
      clear hi'
      have q49 : bb.tmps[129]? = some _ := hf.tmp (k := 49) rfl (by rw [ha]; decide) (hA 49 (by kernel_rfl) (.inl rfl))
      clear hA HS kS
      exact Rg.op_value (o := ⟨some 130, Op.move (Operand.tmp 129), _, _, _, _⟩) (x := .bool false) rfl rfl (by simp only [execOp]; go_simp) ⟨_, rfl, (fun h => by cases h), rfl, hI, fun _ _ _ h => h⟩
    · intro bb w' hf hI hA
      clear hi'
      have qg : bb.tmps[130]? = some _ := hf.tmp (k := 50) rfl (by rw [ha]; decide) (hA 50 (by kernel_rfl) (.inl rfl))
      have q0 := hf.kept (s := 6) (by rw [sizesI17]; kernel_rfl) k6
      exact Rg.op_value (o := ⟨some 131, Op.move (Operand.tmp 6), _, _, _, _⟩) rfl (Rg.wanted_of (g := 50) rfl rfl qg) rfl ⟨_, rfl, (fun h => by cases h), (by show Act.eval bb _ = _; simp [Act.eval, q0]), hI, fun _ _ _ h => h⟩
    · intro bb w' hf hI hA
      clear hi'
      have qg : bb.tmps[130]? = some _ := hf.tmp (k := 50) rfl (by rw [ha]; decide) (hA 50 (by kernel_rfl) (.inl rfl))
      have q0 := hf.kept (s := 14) (by rw [sizesI17]; kernel_rfl) k14
      exact Rg.op_value (o := ⟨some 132, Op.move (Operand.tmp 14), _, _, _, _⟩) rfl (Rg.wanted_of (g := 50) rfl rfl qg) rfl ⟨_, rfl, (fun h => by cases h), (by show Act.eval bb _ = _; simp [Act.eval, q0]), hI, fun _ _ _ h => h⟩
    · intro bb w' hf hI hA
      clear hi'
      have qg : bb.tmps[130]? = some _ := hf.tmp (k := 50) rfl (by rw [ha]; decide) (hA 50 (by kernel_rfl) (.inl rfl))
      have q51 : bb.tmps[131]? = some _ := hf.tmp (k := 51) rfl (by rw [ha]; decide) (hA 51 (by kernel_rfl) (.inl rfl))
      have q52 : bb.tmps[132]? = some _ := hf.tmp (k := 52) rfl (by rw [ha]; decide) (hA 52 (by kernel_rfl) (.inl rfl))
      clear hA HS kS
      exact Rg.op_value (o := ⟨some 133, Op.indexAddr 24 (Operand.tmp 131) (Operand.tmp 132), _, _, _, _⟩) (x := .pointer (some ⟨G, og + i * 4, none⟩)) rfl (Rg.wanted_of (g := 50) rfl rfl qg) (by simp only [execOp]; go_simp) ⟨_, rfl, (fun h => by cases h), rfl, hI, fun _ _ _ h => h⟩
    · intro bb w' hf hI hA
      clear hi'
      have qg : bb.tmps[130]? = some _ := hf.tmp (k := 50) rfl (by rw [ha]; decide) (hA 50 (by kernel_rfl) (.inl rfl))
      have q53 : bb.tmps[133]? = some _ := hf.tmp (k := 53) rfl (by rw [ha]; decide) (hA 53 (by kernel_rfl) (.inl rfl))
      clear hA HS kS
      exact Rg.op_value (o := ⟨some 134, Op.fieldAddr 31 (Operand.tmp 133) 1, _, _, _, _⟩) (x := .pointer (some ⟨G, og + i * 4 + 1, none⟩)) rfl (Rg.wanted_of (g := 50) rfl rfl qg) (by simp only [execOp]; go_simp) ⟨_, rfl, (fun h => by cases h), rfl, hI, fun _ _ _ h => h⟩
    · intro bb w' hf hI hA
      clear hi'
      have qg : bb.tmps[130]? = some _ := hf.tmp (k := 50) rfl (by rw [ha]; decide) (hA 50 (by kernel_rfl) (.inl rfl))
      have q54 : bb.tmps[134]? = some _ := hf.tmp (k := 54) rfl (by rw [ha]; decide) (hA 54 (by kernel_rfl) (.inl rfl))
      have e0 := (hI.cell (p := ⟨G, og + i * 4 + 1, none⟩) hGl).trans y1
      clear hA HS kS
      exact Rg.op_value (o := ⟨some 135, Op.load 2 (Operand.tmp 134), _, _, _, _⟩) (x := .int .i64 yfr) rfl (Rg.wanted_of (g := 50) rfl rfl qg) (by simp only [execOp]; go_simp) ⟨_, rfl, (fun h => by cases h), rfl, hI, fun _ _ _ h => h⟩
    · intro bb w' hf hI hA
      clear hi'
      have qg : bb.tmps[130]? = some _ := hf.tmp (k := 50) rfl (by rw [ha]; decide) (hA 50 (by kernel_rfl) (.inl rfl))
      have q0 := hf.kept (s := 3) (by rw [sizesI17]; kernel_rfl) k3
      exact Rg.op_value (o := ⟨some 136, Op.move (Operand.tmp 3), _, _, _, _⟩) rfl (Rg.wanted_of (g := 50) rfl rfl qg) rfl ⟨_, rfl, (fun h => by cases h), (by show Act.eval bb _ = _; simp [Act.eval, q0]), hI, fun _ _ _ h => h⟩
    · intro bb w' hf hI hA
      clear hi'
      have qg : bb.tmps[130]? = some _ := hf.tmp (k := 50) rfl (by rw [ha]; decide) (hA 50 (by kernel_rfl) (.inl rfl))
      have q0 := hf.kept (s := 14) (by rw [sizesI17]; kernel_rfl) k14
      exact Rg.op_value (o := ⟨some 137, Op.move (Operand.tmp 14), _, _, _, _⟩) rfl (Rg.wanted_of (g := 50) rfl rfl qg) rfl ⟨_, rfl, (fun h => by cases h), (by show Act.eval bb _ = _; simp [Act.eval, q0]), hI, fun _ _ _ h => h⟩
    · intro bb w' hf hI hA
      clear hi'
      have qg : bb.tmps[130]? = some _ := hf.tmp (k := 50) rfl (by rw [ha]; decide) (hA 50 (by kernel_rfl) (.inl rfl))
      have q56 : bb.tmps[136]? = some _ := hf.tmp (k := 56) rfl (by rw [ha]; decide) (hA 56 (by kernel_rfl) (.inl rfl))
      have q57 : bb.tmps[137]? = some _ := hf.tmp (k := 57) rfl (by rw [ha]; decide) (hA 57 (by kernel_rfl) (.inl rfl))
      clear hA HS kS
      exact Rg.op_value (o := ⟨some 138, Op.indexAddr 24 (Operand.tmp 136) (Operand.tmp 137), _, _, _, _⟩) (x := .pointer (some ⟨B, ob + i * 4, none⟩)) rfl (Rg.wanted_of (g := 50) rfl rfl qg) (by simp only [execOp]; go_simp) ⟨_, rfl, (fun h => by cases h), rfl, hI, fun _ _ _ h => h⟩
    · intro bb w' hf hI hA
      clear hi'
      have qg : bb.tmps[130]? = some _ := hf.tmp (k := 50) rfl (by rw [ha]; decide) (hA 50 (by kernel_rfl) (.inl rfl))
      have q58 : bb.tmps[138]? = some _ := hf.tmp (k := 58) rfl (by rw [ha]; decide) (hA 58 (by kernel_rfl) (.inl rfl))
      clear hA HS kS
      exact Rg.op_value (o := ⟨some 139, Op.fieldAddr 31 (Operand.tmp 138) 1, _, _, _, _⟩) (x := .pointer (some ⟨B, ob + i * 4 + 1, none⟩)) rfl (Rg.wanted_of (g := 50) rfl rfl qg) (by simp only [execOp]; go_simp) ⟨_, rfl, (fun h => by cases h), rfl, hI, fun _ _ _ h => h⟩
    · intro bb w' hf hI hA
      clear hi'
      have qg : bb.tmps[130]? = some _ := hf.tmp (k := 50) rfl (by rw [ha]; decide) (hA 50 (by kernel_rfl) (.inl rfl))
      have q59 : bb.tmps[139]? = some _ := hf.tmp (k := 59) rfl (by rw [ha]; decide) (hA 59 (by kernel_rfl) (.inl rfl))
      have e0 := (hI.cell (p := ⟨B, ob + i * 4 + 1, none⟩) hBl).trans x1
      clear hA HS kS
      exact Rg.op_value (o := ⟨some 140, Op.load 2 (Operand.tmp 139), _, _, _, _⟩) (x := .int .i64 xfr) rfl (Rg.wanted_of (g := 50) rfl rfl qg) (by simp only [execOp]; go_simp) ⟨_, rfl, (fun h => by cases h), rfl, hI, fun _ _ _ h => h⟩
    · intro bb w' hf hI hA
      clear hi'
      have qg : bb.tmps[130]? = some _ := hf.tmp (k := 50) rfl (by rw [ha]; decide) (hA 50 (by kernel_rfl) (.inl rfl))
      have q55 : bb.tmps[135]? = some _ := hf.tmp (k := 55) rfl (by rw [ha]; decide) (hA 55 (by kernel_rfl) (.inl rfl))
      have q60 : bb.tmps[140]? = some _ := hf.tmp (k := 60) rfl (by rw [ha]; decide) (hA 60 (by kernel_rfl) (.inl rfl))
      clear hA HS kS
      exact Rg.op_value (o := ⟨some 141, Op.binOp BinOp.lss 2 (Operand.tmp 135) (Operand.tmp 140) 2, _, _, _, _⟩) (x := .bool false) rfl (Rg.wanted_of (g := 50) rfl rfl qg) (by simp only [execOp]; go_simp) ⟨_, rfl, (fun h => by cases h), rfl, hI, fun _ _ _ h => h⟩
    · intro bb w' hf hI hA
      clear hi'
      have q50 : bb.tmps[130]? = some _ := hf.tmp (k := 50) rfl (by rw [ha]; decide) (hA 50 (by kernel_rfl) (.inl rfl))
      have q61 : bb.tmps[141]? = some _ := hf.tmp (k := 61) rfl (by rw [ha]; decide) (hA 61 (by kernel_rfl) (.inl rfl))
      clear hA HS kS
      exact Rg.op_value (o := ⟨some 142, Op.pick (Operand.tmp 130) (Operand.const (Value.bool true)) (Operand.tmp 141), _, _, _, _⟩) (x := .bool false) rfl rfl (by simp only [execOp]; go_simp) ⟨_, rfl, (fun h => by cases h), rfl, hI, fun _ _ _ h => h⟩

theorem dI17_0 : Rg.dstAt (Rg.opsOf Try.f5 17) 0 = some 80 := by kernel_rfl
theorem dI17_1 : Rg.dstAt (Rg.opsOf Try.f5 17) 1 = some 81 := by kernel_rfl
theorem dI17_2 : Rg.dstAt (Rg.opsOf Try.f5 17) 2 = some 82 := by kernel_rfl
theorem dI17_3 : Rg.dstAt (Rg.opsOf Try.f5 17) 3 = some 83 := by kernel_rfl
theorem dI17_4 : Rg.dstAt (Rg.opsOf Try.f5 17) 4 = some 84 := by kernel_rfl
theorem dI17_5 : Rg.dstAt (Rg.opsOf Try.f5 17) 5 = some 85 := by kernel_rfl
theorem dI17_6 : Rg.dstAt (Rg.opsOf Try.f5 17) 6 = some 86 := by kernel_rfl
theorem dI17_7 : Rg.dstAt (Rg.opsOf Try.f5 17) 7 = some 87 := by kernel_rfl
theorem dI17_8 : Rg.dstAt (Rg.opsOf Try.f5 17) 8 = some 88 := by kernel_rfl
theorem dI17_9 : Rg.dstAt (Rg.opsOf Try.f5 17) 9 = some 89 := by kernel_rfl
theorem dI17_10 : Rg.dstAt (Rg.opsOf Try.f5 17) 10 = some 90 := by kernel_rfl
theorem dI17_11 : Rg.dstAt (Rg.opsOf Try.f5 17) 11 = some 91 := by kernel_rfl
theorem dI17_12 : Rg.dstAt (Rg.opsOf Try.f5 17) 12 = some 92 := by kernel_rfl
theorem dI17_13 : Rg.dstAt (Rg.opsOf Try.f5 17) 13 = some 93 := by kernel_rfl
theorem dI17_14 : Rg.dstAt (Rg.opsOf Try.f5 17) 14 = some 94 := by kernel_rfl
theorem dI17_15 : Rg.dstAt (Rg.opsOf Try.f5 17) 15 = some 95 := by kernel_rfl
theorem dI17_16 : Rg.dstAt (Rg.opsOf Try.f5 17) 16 = some 96 := by kernel_rfl
theorem dI17_17 : Rg.dstAt (Rg.opsOf Try.f5 17) 17 = some 97 := by kernel_rfl
theorem dI17_18 : Rg.dstAt (Rg.opsOf Try.f5 17) 18 = some 98 := by kernel_rfl
theorem dI17_19 : Rg.dstAt (Rg.opsOf Try.f5 17) 19 = some 99 := by kernel_rfl
theorem dI17_20 : Rg.dstAt (Rg.opsOf Try.f5 17) 20 = some 100 := by kernel_rfl
theorem dI17_21 : Rg.dstAt (Rg.opsOf Try.f5 17) 21 = some 101 := by kernel_rfl
theorem dI17_22 : Rg.dstAt (Rg.opsOf Try.f5 17) 22 = some 102 := by kernel_rfl
theorem dI17_23 : Rg.dstAt (Rg.opsOf Try.f5 17) 23 = some 103 := by kernel_rfl
theorem dI17_24 : Rg.dstAt (Rg.opsOf Try.f5 17) 24 = some 104 := by kernel_rfl
theorem dI17_25 : Rg.dstAt (Rg.opsOf Try.f5 17) 25 = some 105 := by kernel_rfl
theorem dI17_26 : Rg.dstAt (Rg.opsOf Try.f5 17) 26 = some 106 := by kernel_rfl
theorem dI17_27 : Rg.dstAt (Rg.opsOf Try.f5 17) 27 = some 107 := by kernel_rfl
theorem dI17_28 : Rg.dstAt (Rg.opsOf Try.f5 17) 28 = some 108 := by kernel_rfl
theorem dI17_29 : Rg.dstAt (Rg.opsOf Try.f5 17) 29 = some 109 := by kernel_rfl
theorem dI17_30 : Rg.dstAt (Rg.opsOf Try.f5 17) 30 = some 110 := by kernel_rfl
theorem dI17_31 : Rg.dstAt (Rg.opsOf Try.f5 17) 31 = some 111 := by kernel_rfl
theorem dI17_32 : Rg.dstAt (Rg.opsOf Try.f5 17) 32 = some 112 := by kernel_rfl
theorem dI17_33 : Rg.dstAt (Rg.opsOf Try.f5 17) 33 = some 113 := by kernel_rfl
theorem dI17_34 : Rg.dstAt (Rg.opsOf Try.f5 17) 34 = some 114 := by kernel_rfl
theorem dI17_35 : Rg.dstAt (Rg.opsOf Try.f5 17) 35 = some 115 := by kernel_rfl
theorem dI17_36 : Rg.dstAt (Rg.opsOf Try.f5 17) 36 = some 116 := by kernel_rfl
theorem dI17_37 : Rg.dstAt (Rg.opsOf Try.f5 17) 37 = some 117 := by kernel_rfl
theorem dI17_38 : Rg.dstAt (Rg.opsOf Try.f5 17) 38 = some 118 := by kernel_rfl
theorem dI17_39 : Rg.dstAt (Rg.opsOf Try.f5 17) 39 = some 119 := by kernel_rfl
theorem dI17_40 : Rg.dstAt (Rg.opsOf Try.f5 17) 40 = some 120 := by kernel_rfl
theorem dI17_41 : Rg.dstAt (Rg.opsOf Try.f5 17) 41 = some 121 := by kernel_rfl
theorem dI17_42 : Rg.dstAt (Rg.opsOf Try.f5 17) 42 = some 122 := by kernel_rfl
theorem dI17_43 : Rg.dstAt (Rg.opsOf Try.f5 17) 43 = some 123 := by kernel_rfl
theorem dI17_44 : Rg.dstAt (Rg.opsOf Try.f5 17) 44 = some 124 := by kernel_rfl
theorem dI17_45 : Rg.dstAt (Rg.opsOf Try.f5 17) 45 = some 125 := by kernel_rfl
theorem dI17_46 : Rg.dstAt (Rg.opsOf Try.f5 17) 46 = some 126 := by kernel_rfl
theorem dI17_47 : Rg.dstAt (Rg.opsOf Try.f5 17) 47 = some 127 := by kernel_rfl
theorem dI17_48 : Rg.dstAt (Rg.opsOf Try.f5 17) 48 = some 128 := by kernel_rfl
theorem dI17_49 : Rg.dstAt (Rg.opsOf Try.f5 17) 49 = some 129 := by kernel_rfl
theorem dI17_50 : Rg.dstAt (Rg.opsOf Try.f5 17) 50 = some 130 := by kernel_rfl
theorem dI17_51 : Rg.dstAt (Rg.opsOf Try.f5 17) 51 = some 131 := by kernel_rfl
theorem dI17_52 : Rg.dstAt (Rg.opsOf Try.f5 17) 52 = some 132 := by kernel_rfl
theorem dI17_53 : Rg.dstAt (Rg.opsOf Try.f5 17) 53 = some 133 := by kernel_rfl
theorem dI17_54 : Rg.dstAt (Rg.opsOf Try.f5 17) 54 = some 134 := by kernel_rfl
theorem dI17_55 : Rg.dstAt (Rg.opsOf Try.f5 17) 55 = some 135 := by kernel_rfl
theorem dI17_56 : Rg.dstAt (Rg.opsOf Try.f5 17) 56 = some 136 := by kernel_rfl
theorem dI17_57 : Rg.dstAt (Rg.opsOf Try.f5 17) 57 = some 137 := by kernel_rfl
theorem dI17_58 : Rg.dstAt (Rg.opsOf Try.f5 17) 58 = some 138 := by kernel_rfl
theorem dI17_59 : Rg.dstAt (Rg.opsOf Try.f5 17) 59 = some 139 := by kernel_rfl
theorem dI17_60 : Rg.dstAt (Rg.opsOf Try.f5 17) 60 = some 140 := by kernel_rfl
theorem dI17_61 : Rg.dstAt (Rg.opsOf Try.f5 17) 61 = some 141 := by kernel_rfl
theorem dI17_62 : Rg.dstAt (Rg.opsOf Try.f5 17) 62 = some 142 := by kernel_rfl
theorem layI17 {a b : Act} (hf : Rg.Fr (Rg.opsOf Try.f5 17) a b) : b = (((((((((((((((((((((((((((((((((((((((((((((((((((((((((((((((a.put (some 80) (Rg.out (Rg.opsOf Try.f5 17) b 0)).put (some 81) (Rg.out (Rg.opsOf Try.f5 17) b 1)).put (some 82) (Rg.out (Rg.opsOf Try.f5 17) b 2)).put (some 83) (Rg.out (Rg.opsOf Try.f5 17) b 3)).put (some 84) (Rg.out (Rg.opsOf Try.f5 17) b 4)).put (some 85) (Rg.out (Rg.opsOf Try.f5 17) b 5)).put (some 86) (Rg.out (Rg.opsOf Try.f5 17) b 6)).put (some 87) (Rg.out (Rg.opsOf Try.f5 17) b 7)).put (some 88) (Rg.out (Rg.opsOf Try.f5 17) b 8)).put (some 89) (Rg.out (Rg.opsOf Try.f5 17) b 9)).put (some 90) (Rg.out (Rg.opsOf Try.f5 17) b 10)).put (some 91) (Rg.out (Rg.opsOf Try.f5 17) b 11)).put (some 92) (Rg.out (Rg.opsOf Try.f5 17) b 12)).put (some 93) (Rg.out (Rg.opsOf Try.f5 17) b 13)).put (some 94) (Rg.out (Rg.opsOf Try.f5 17) b 14)).put (some 95) (Rg.out (Rg.opsOf Try.f5 17) b 15)).put (some 96) (Rg.out (Rg.opsOf Try.f5 17) b 16)).put (some 97) (Rg.out (Rg.opsOf Try.f5 17) b 17)).put (some 98) (Rg.out (Rg.opsOf Try.f5 17) b 18)).put (some 99) (Rg.out (Rg.opsOf Try.f5 17) b 19)).put (some 100) (Rg.out (Rg.opsOf Try.f5 17) b 20)).put (some 101) (Rg.out (Rg.opsOf Try.f5 17) b 21)).put (some 102) (Rg.out (Rg.opsOf Try.f5 17) b 22)).put (some 103) (Rg.out (Rg.opsOf Try.f5 17) b 23)).put (some 104) (Rg.out (Rg.opsOf Try.f5 17) b 24)).put (some 105) (Rg.out (Rg.opsOf Try.f5 17) b 25)).put (some 106) (Rg.out (Rg.opsOf Try.f5 17) b 26)).put (some 107) (Rg.out (Rg.opsOf Try.f5 17) b 27)).put (some 108) (Rg.out (Rg.opsOf Try.f5 17) b 28)).put (some 109) (Rg.out (Rg.opsOf Try.f5 17) b 29)).put (some 110) (Rg.out (Rg.opsOf Try.f5 17) b 30)).put (some 111) (Rg.out (Rg.opsOf Try.f5 17) b 31)).put (some 112) (Rg.out (Rg.opsOf Try.f5 17) b 32)).put (some 113) (Rg.out (Rg.opsOf Try.f5 17) b 33)).put (some 114) (Rg.out (Rg.opsOf Try.f5 17) b 34)).put (some 115) (Rg.out (Rg.opsOf Try.f5 17) b 35)).put (some 116) (Rg.out (Rg.opsOf Try.f5 17) b 36)).put (some 117) (Rg.out (Rg.opsOf Try.f5 17) b 37)).put (some 118) (Rg.out (Rg.opsOf Try.f5 17) b 38)).put (some 119) (Rg.out (Rg.opsOf Try.f5 17) b 39)).put (some 120) (Rg.out (Rg.opsOf Try.f5 17) b 40)).put (some 121) (Rg.out (Rg.opsOf Try.f5 17) b 41)).put (some 122) (Rg.out (Rg.opsOf Try.f5 17) b 42)).put (some 123) (Rg.out (Rg.opsOf Try.f5 17) b 43)).put (some 124) (Rg.out (Rg.opsOf Try.f5 17) b 44)).put (some 125) (Rg.out (Rg.opsOf Try.f5 17) b 45)).put (some 126) (Rg.out (Rg.opsOf Try.f5 17) b 46)).put (some 127) (Rg.out (Rg.opsOf Try.f5 17) b 47)).put (some 128) (Rg.out (Rg.opsOf Try.f5 17) b 48)).put (some 129) (Rg.out (Rg.opsOf Try.f5 17) b 49)).put (some 130) (Rg.out (Rg.opsOf Try.f5 17) b 50)).put (some 131) (Rg.out (Rg.opsOf Try.f5 17) b 51)).put (some 132) (Rg.out (Rg.opsOf Try.f5 17) b 52)).put (some 133) (Rg.out (Rg.opsOf Try.f5 17) b 53)).put (some 134) (Rg.out (Rg.opsOf Try.f5 17) b 54)).put (some 135) (Rg.out (Rg.opsOf Try.f5 17) b 55)).put (some 136) (Rg.out (Rg.opsOf Try.f5 17) b 56)).put (some 137) (Rg.out (Rg.opsOf Try.f5 17) b 57)).put (some 138) (Rg.out (Rg.opsOf Try.f5 17) b 58)).put (some 139) (Rg.out (Rg.opsOf Try.f5 17) b 59)).put (some 140) (Rg.out (Rg.opsOf Try.f5 17) b 60)).put (some 141) (Rg.out (Rg.opsOf Try.f5 17) b 61)).put (some 142) (Rg.out (Rg.opsOf Try.f5 17) b 62)) := by
  have h := hf.chain
  rw [sizesI17, show List.range 63 = [0, 1, 2, 3, 4, 5, 6, 7, 8, 9, 10, 11, 12, 13, 14, 15, 16, 17, 18, 19, 20, 21, 22, 23, 24, 25, 26, 27, 28, 29, 30, 31, 32, 33, 34, 35, 36, 37, 38, 39, 40, 41, 42, 43, 44, 45, 46, 47, 48, 49, 50, 51, 52, 53, 54, 55, 56, 57, 58, 59, 60, 61, 62] from by decide] at h
  simp only [List.foldl_cons, List.foldl_nil, dI17_0, dI17_1, dI17_2, dI17_3, dI17_4, dI17_5, dI17_6, dI17_7, dI17_8, dI17_9, dI17_10, dI17_11, dI17_12, dI17_13, dI17_14, dI17_15, dI17_16, dI17_17, dI17_18, dI17_19, dI17_20, dI17_21, dI17_22, dI17_23, dI17_24, dI17_25, dI17_26, dI17_27, dI17_28, dI17_29, dI17_30, dI17_31, dI17_32, dI17_33, dI17_34, dI17_35, dI17_36, dI17_37, dI17_38, dI17_39, dI17_40, dI17_41, dI17_42, dI17_43, dI17_44, dI17_45, dI17_46, dI17_47, dI17_48, dI17_49, dI17_50, dI17_51, dI17_52, dI17_53, dI17_54, dI17_55, dI17_56, dI17_57, dI17_58, dI17_59, dI17_60, dI17_61, dI17_62] at h
  exact h
end Go.Proofs.Ytcapmobhgffnhaa
