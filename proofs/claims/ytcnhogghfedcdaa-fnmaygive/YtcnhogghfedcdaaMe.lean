/-
  A day of doses with the new dose: the two regions that draw their order.
-/
import Derived.Test.YtcnhogghfedcdaaMc
import Derived.Test.YtcnhogghfedcdaaGw
import Derived.Test.YtcnhogghfedcdaaRg
import Derived.ArgAppend
namespace Go.Proofs.Ytcnhogghfedcdaa
open Go.RowKit Va Ga
set_option linter.unusedVariables false

theorem infoGvM : (Try.prog.info? 49).map (fun i => (i.zero, i.size, i.bytes)) = some (some (.agg #[.int .i64 0, .int .i64 0, .int .i64 0]), 3, 24) := by kernel_rfl
theorem PB.below_of {W W' : World} {B : Nat} {vs : Array Value} {t : TypeId} (h : PB W B vs t) (hb : Below W.heap.size W W') : PB W' B vs t := h.below hb
theorem cut_le (l : List Gv) (lo hi : Int) : (cut l lo hi).length ≤ l.length := by
  unfold cut
  rw [List.length_take, List.length_drop]
  omega
/-- The cells of a row, one by one. -/
theorem row_cells {w : World} {b off n cap : Nat} {l : List Gv} (h : Rw 3 csGv w (.slice (some ⟨b, off, none⟩) n cap) l) (j : Nat) (u : Value) (hu : (cellsL 3 csGv l)[j]? = some u) : w.cell? ⟨b, off + j, none⟩ = some u := by
  have hj : j < l.length * 3 := by have := get_lt' hu; rwa [cellsL_len] at this
  obtain ⟨x, hx⟩ := some_of l (j / 3) (by omega)
  have e := cellsL_get (s := 3) (cs := csGv) l (j / 3) x hx (j % 3) (by omega)
  rw [show j / 3 * 3 + j % 3 = j by omega, hu] at e
  obtain ⟨b', off', e', _, hc⟩ := h.at hx
  obtain ⟨rfl, rfl⟩ : b = b' ∧ off = off' := by simpa using e'
  have := hc (j % 3) (by omega)
  rw [show off + j / 3 * 3 + j % 3 = off + j by omega] at this
  rw [this, ← Option.some.inj e]

def FM1 (n1 : Nat) (b off n cap : Nat) (s : List Gv) (d e : Gv) (D E : Nat) (k : Nat) (v : Value) (w : World) : Prop :=
  match k with
  | 0 => v = .slice (some ⟨b, off, none⟩) n cap
  | 1 => v = .pointer (some ⟨D, 1, none⟩)
  | 2 => v = .int .i64 d.t
  | 3 => v = .pointer (some ⟨D, 1, none⟩)
  | 4 => v = .int .i64 d.t
  | 5 => v = .int .i64 (d.t + 1439)
  | 6 => ∃ off', v = .slice (some ⟨b, off', none⟩) (cut s (d.t) (d.t + 1439)).length (cut s (d.t) (d.t + 1439)).length ∧ Rw 3 csGv w (.slice (some ⟨b, off', none⟩) (cut s (d.t) (d.t + 1439)).length (cut s (d.t) (d.t + 1439)).length) (cut s (d.t) (d.t + 1439))
  | 7 => v = .agg #[.int .i64 d.d, .int .i64 d.t, .int .i64 d.n]
  | 8 => ∃ B, v = .slice (some ⟨B, 0, none⟩) 1 1 ∧ PB w B #[.int .i64 d.d, .int .i64 d.t, .int .i64 d.n] 49
  | 9 => w.ownsRow n1 49 3 v ((cut s (d.t) (d.t + 1439)).length + 1) (cellsL 3 csGv ((cut s (d.t) (d.t + 1439)) ++ [d]))
  | 10 => w.ownsRow n1 49 3 v ((cut s (d.t) (d.t + 1439)).length + 1) (cellsL 3 csGv ((cut s (d.t) (d.t + 1439)) ++ [d]))
  | _ => True
theorem keepM1 {n1 : Nat} {b off n cap : Nat} {s : List Gv} {d e : Gv} {D E : Nat} {w w' : World} (hb : Below w.heap.size w w') (k : Nat) (v : Value) (h : FM1 n1 b off n cap s d e D E k v w) : FM1 n1 b off n cap s d e D E k v w' := by
  unfold FM1 at *
  split at h <;> first
    | exact h
    | exact ownW_below h hb
    | (obtain ⟨o, h1, h2⟩ := h; exact ⟨o, h1, h2.below hb⟩)
theorem sizeM1 : (Rg.opsOf Try.f47 1).size = 11 := by kernel_rfl

set_option maxRecDepth 20000 in
set_option maxHeartbeats 8000000 in
theorem regM1 {Q : Exit → Act → World → Prop} {a : Act} {w1 : World} {b off n cap : Nat} {s : List Gv} {d e : Gv} {D E : Nat} (ha : a.tmps.size = 42)
    (k0 : a.tmps[0]? = some (.slice (some ⟨b, off, none⟩) n cap)) (k3 : a.tmps[3]? = some (.pointer (some ⟨D, 0, none⟩))) (hs : Rw 3 csGv w1 (.slice (some ⟨b, off, none⟩) n cap) s) (hl : s.length ≤ 500) (hD : PB w1 D #[.int .i64 d.d, .int .i64 d.t, .int .i64 d.n] 49) (ht : 0 ≤ d.t ∧ d.t ≤ 10000000)
    (hend : ∀ b' w' v, Rg.Fr (Rg.opsOf Try.f47 1) a b' → Below w1.heap.size w1 w' → Rg.out (Rg.opsOf Try.f47 1) b' 10 = v → w'.ownsRow w1.heap.size 49 3 v ((cut s (d.t) (d.t + 1439)).length + 1) (cellsL 3 csGv ((cut s (d.t) (d.t + 1439)) ++ [d])) → Q .normal b' w') :
    (Code.region 1 (Rg.opsOf Try.f47 1) true).wp Try.prog Q a w1 := by
  obtain ⟨i0, hi0, hv0, hv1, hv2⟩ := info_parts infoGvM
  refine Rg.region_by 11 (by kernel_rfl) (fun w' => Below w1.heap.size w1 w') (FM1 w1.heap.size b off n cap s d e D E) (by rw [ha]; kernel_rfl) (st_drew (Below.refl _ _)) ?_ (fun h => absurd h (by rw [sizeM1]; decide)) (fun _ b' w' hf hI hA => hend b' w' _ hf hI rfl (hA 10 (by rw [sizeM1]; decide)))
  clear hend
  have HS : ∀ {w w' : World}, Below w.heap.size w w' → ∀ k y, FM1 w1.heap.size b off n cap s d e D E k y w → FM1 w1.heap.size b off n cap s d e D E k y w' := fun hb k y h => keepM1 hb k y h
  intro i' hi' hne
  rw [sizeM1] at hi'
  rcases (show i' = 0 ∨ i' = 1 ∨ i' = 2 ∨ i' = 3 ∨ i' = 4 ∨ i' = 5 ∨ i' = 6 ∨ i' = 7 ∨ i' = 8 ∨ i' = 9 ∨ i' = 10 by omega) with rfl | rfl | rfl | rfl | rfl | rfl | rfl | rfl | rfl | rfl | rfl
  · intro bb w' hf hI hA
    clear hi' hne
    have q0 := hf.kept (s := 0) (by rw [sizeM1]; kernel_rfl) k0
    exact Rg.op_value (o := ⟨some 10, Op.move (Operand.tmp 0), _, _, _, _⟩) rfl rfl rfl ⟨_, rfl, (fun h => by cases h), (by show Act.eval bb _ = _; simp [Act.eval, q0]), hI, fun _ _ h => h⟩
  · intro bb w' hf hI hA
    clear hi' hne
    have qs := hf.kept (s := 3) (by rw [sizeM1]; kernel_rfl) k3
    exact Rg.op_value (o := ⟨some 11, Op.fieldAddr 49 (Operand.tmp 3) 1, _, _, _, _⟩) (x := .pointer (some ⟨D, 1, none⟩)) rfl rfl (by clear hA HS; simp only [execOp]; go_simp) ⟨_, rfl, (fun h => by cases h), rfl, hI, fun _ _ h => h⟩
  · intro bb w' hf hI hA
    clear hi' hne
    have q1 : bb.tmps[11]? = some _ := hf.tmp (k := 1) rfl (by rw [ha]; decide) (hA 1 (by kernel_rfl))
    obtain ⟨e0, e1, e2⟩ := (PB.below_of hD hI).three
    exact Rg.op_value (o := ⟨some 12, Op.load 2 (Operand.tmp 11), _, _, _, _⟩) (x := .int .i64 d.t) rfl rfl (by clear hA HS; simp only [execOp]; go_simp) ⟨_, rfl, (fun h => by cases h), rfl, hI, fun _ _ h => h⟩
  · intro bb w' hf hI hA
    clear hi' hne
    have qs := hf.kept (s := 3) (by rw [sizeM1]; kernel_rfl) k3
    exact Rg.op_value (o := ⟨some 13, Op.fieldAddr 49 (Operand.tmp 3) 1, _, _, _, _⟩) (x := .pointer (some ⟨D, 1, none⟩)) rfl rfl (by clear hA HS; simp only [execOp]; go_simp) ⟨_, rfl, (fun h => by cases h), rfl, hI, fun _ _ h => h⟩
  · intro bb w' hf hI hA
    clear hi' hne
    have q3 : bb.tmps[13]? = some _ := hf.tmp (k := 3) rfl (by rw [ha]; decide) (hA 3 (by kernel_rfl))
    obtain ⟨e0, e1, e2⟩ := (PB.below_of hD hI).three
    exact Rg.op_value (o := ⟨some 14, Op.load 2 (Operand.tmp 13), _, _, _, _⟩) (x := .int .i64 d.t) rfl rfl (by clear hA HS; simp only [execOp]; go_simp) ⟨_, rfl, (fun h => by cases h), rfl, hI, fun _ _ h => h⟩
  · intro bb w' hf hI hA
    clear hi' hne
    have q4 : bb.tmps[14]? = some _ := hf.tmp (k := 4) rfl (by rw [ha]; decide) (hA 4 (by kernel_rfl))
    have hw : IntKind.i64.wrap (d.t + 1439) = d.t + 1439 := by simp [IntKind.wrap, IntKind.bits, IntKind.signed]; omega
    exact Rg.op_value (o := ⟨some 15, Op.binOp BinOp.add 2 (Operand.tmp 14) (Operand.const (Value.int .i64 1439)) 2, _, _, _, _⟩) (x := .int .i64 (d.t + 1439)) rfl rfl (by clear hA HS; simp only [execOp]; go_simp) ⟨_, rfl, (fun h => by cases h), rfl, hI, fun _ _ h => h⟩
  · intro bb w' hf hI hA
    clear hi' hne
    have q0 : bb.tmps[10]? = some _ := hf.tmp (k := 0) rfl (by rw [ha]; decide) (hA 0 (by kernel_rfl))
    have q2 : bb.tmps[12]? = some _ := hf.tmp (k := 2) rfl (by rw [ha]; decide) (hA 2 (by kernel_rfl))
    have q5 : bb.tmps[15]? = some _ := hf.tmp (k := 5) rfl (by rw [ha]; decide) (hA 5 (by kernel_rfl))
    refine Rg.op_call (o := ⟨some 16, Op.call { callee := Callee.value (Operand.func 63), args := #[Operand.tmp 10, Operand.tmp 12, Operand.tmp 15], argTypes := _ }, _, _, _, _⟩) rfl rfl (by clear hA HS; simp only [execOp, resolve]; go_simp) (iwithin_any b off n cap s (d.t) (d.t + 1439) w' (hs.below hI) (by omega) (by omega) (by omega) (by omega)) ?_
    rintro e2 w2 ⟨⟨off', rfl, hrw⟩, rfl⟩
    exact ⟨_, rfl, _, rfl, (fun h => by cases h), ⟨off', rfl, hrw⟩, hI, fun _ _ h => h⟩
  · intro bb w' hf hI hA
    clear hi' hne
    have qs := hf.kept (s := 3) (by rw [sizeM1]; kernel_rfl) k3
    obtain ⟨e0, e1, e2⟩ := (PB.below_of hD hI).three
    exact Rg.op_value (o := ⟨some 17, Op.load 49 (Operand.tmp 3), _, _, _, _⟩) (x := .agg #[.int .i64 d.d, .int .i64 d.t, .int .i64 d.n]) rfl rfl (by clear hA HS; simp only [execOp]; go_simp) ⟨_, rfl, (fun h => by cases h), rfl, hI, fun _ _ h => h⟩
  · intro bb w' hf hI hA
    clear hi' hne
    have q7 : bb.tmps[17]? = some _ := hf.tmp (k := 7) rfl (by rw [ha]; decide) (hA 7 (by kernel_rfl))
    have hb1 : Below w'.heap.size w' (w'.alloc (.cells #[.int .i64 d.d, .int .i64 d.t, .int .i64 d.n] 49)) := (Below.refl _ _).alloc (Nat.le_refl _) _
    exact Rg.op_value (o := ⟨some 18, Op.buildSlice 42 1 #[(0, Operand.tmp 17)], _, _, _, _⟩) (x := .slice (some ⟨w'.heap.size, 0, none⟩) 1 1) (w' := w'.alloc (.cells #[.int .i64 d.d, .int .i64 d.t, .int .i64 d.n] 49)) rfl rfl (by clear hA HS; simp only [execOp]; go_simp) ⟨_, rfl, (fun h => by cases h), ⟨_, rfl, PB.new _ _ _⟩, onto hI hb1, HS hb1⟩
  · intro bb w' hf hI hA
    clear hi' hne
    obtain ⟨off', h6, hrw⟩ := hA 6 (by kernel_rfl)
    obtain ⟨B, h8, hPB⟩ := hA 8 (by kernel_rfl)
    have q6 : bb.tmps[16]? = some _ := hf.tmp (k := 6) rfl (by rw [ha]; decide) h6
    have q8 : bb.tmps[18]? = some _ := hf.tmp (k := 8) rfl (by rw [ha]; decide) h8
    have hcl := cut_le s (d.t) (d.t + 1439)
    obtain ⟨v', w2, hrun, ho2, hg2⟩ := run_append_arg_grows (P := Try.prog) w' 42 42 49 i0 (.agg #[.int .i64 0, .int .i64 0, .int .i64 0]) 3 24 Try.underlying42 hi0 hv0 hv1 hv2 rfl (by decide) ⟨b, off', none⟩ (cut s (d.t) (d.t + 1439)).length (cut s (d.t) (d.t + 1439)).length (cellsL 3 csGv (cut s (d.t) (d.t + 1439))) (cellsL_len _) (fun j u hu => by rw [Addr.add_lit]; exact row_cells hrw j u hu) ⟨B, 0, none⟩ 1 1 (cellsL 3 csGv [d]) rfl (fun j u hu => by rw [Addr.add_lit, Nat.zero_add, hPB.cell]; simpa [cellsL, csGv, List.range, List.range.loop] using hu) (by omega) (by unfold maxLen; omega) (by omega)
    have hb2 : Below w'.heap.size w' w2 := (Below.refl _ _).grown hg2 (Nat.le_refl _) (fun k hk => by cases hk)
    refine Rg.op_value (o := ⟨some 19, Op.call { callee := Callee.builtin Builtin.append, args := #[Operand.tmp 16, Operand.tmp 18], argTypes := #[42, 42] }, _, _, _, _⟩) (x := v') (w' := w2) rfl rfl (by clear hA HS; unfold execOp; simp only [resolve, invoke, builtin, Sem.run_bind, Sem.run_pure, Result.andThen_ok, List.map_toArray, List.map_cons, List.map_nil, Act.eval, Array.getD_eq_getD_getElem?, q6, q8, Option.getD_some, hrun]) ⟨_, rfl, (fun h => by cases h), ?_, onto hI hb2, HS hb2⟩
    show w2.ownsRow w1.heap.size 49 3 v' ((cut s (d.t) (d.t + 1439)).length + 1) (cellsL 3 csGv ((cut s (d.t) (d.t + 1439)) ++ [d]))
    rw [show cellsL 3 csGv ((cut s (d.t) (d.t + 1439)) ++ [d]) = cellsL 3 csGv (cut s (d.t) (d.t + 1439)) ++ cellsL 3 csGv [d] by simp [cellsL]]
    exact ownW_base ho2 hI.size
  · intro bb w' hf hI hA
    clear hi' hne
    have h9 := hA 9 (by kernel_rfl)
    generalize hv : Rg.out (Rg.opsOf Try.f47 1) bb 9 = v at h9
    have q9 : bb.tmps[19]? = some _ := hf.tmp (k := 9) rfl (by rw [ha]; decide) hv
    exact Rg.op_value (o := ⟨some 5, Op.assign (Operand.tmp 19), _, _, _, _⟩) (x := v) rfl rfl (by clear hA HS h9; simp only [execOp]; go_simp) ⟨_, rfl, (fun h => by cases h), h9, hI, fun _ _ h => h⟩

theorem dM1_0 : Rg.dstAt (Rg.opsOf Try.f47 1) 0 = some 10 := by kernel_rfl
theorem dM1_1 : Rg.dstAt (Rg.opsOf Try.f47 1) 1 = some 11 := by kernel_rfl
theorem dM1_2 : Rg.dstAt (Rg.opsOf Try.f47 1) 2 = some 12 := by kernel_rfl
theorem dM1_3 : Rg.dstAt (Rg.opsOf Try.f47 1) 3 = some 13 := by kernel_rfl
theorem dM1_4 : Rg.dstAt (Rg.opsOf Try.f47 1) 4 = some 14 := by kernel_rfl
theorem dM1_5 : Rg.dstAt (Rg.opsOf Try.f47 1) 5 = some 15 := by kernel_rfl
theorem dM1_6 : Rg.dstAt (Rg.opsOf Try.f47 1) 6 = some 16 := by kernel_rfl
theorem dM1_7 : Rg.dstAt (Rg.opsOf Try.f47 1) 7 = some 17 := by kernel_rfl
theorem dM1_8 : Rg.dstAt (Rg.opsOf Try.f47 1) 8 = some 18 := by kernel_rfl
theorem dM1_9 : Rg.dstAt (Rg.opsOf Try.f47 1) 9 = some 19 := by kernel_rfl
theorem dM1_10 : Rg.dstAt (Rg.opsOf Try.f47 1) 10 = some 5 := by kernel_rfl
theorem layM1 {a b : Act} (hf : Rg.Fr (Rg.opsOf Try.f47 1) a b) : b = (((((((((((a.put (some 10) (Rg.out (Rg.opsOf Try.f47 1) b 0)).put (some 11) (Rg.out (Rg.opsOf Try.f47 1) b 1)).put (some 12) (Rg.out (Rg.opsOf Try.f47 1) b 2)).put (some 13) (Rg.out (Rg.opsOf Try.f47 1) b 3)).put (some 14) (Rg.out (Rg.opsOf Try.f47 1) b 4)).put (some 15) (Rg.out (Rg.opsOf Try.f47 1) b 5)).put (some 16) (Rg.out (Rg.opsOf Try.f47 1) b 6)).put (some 17) (Rg.out (Rg.opsOf Try.f47 1) b 7)).put (some 18) (Rg.out (Rg.opsOf Try.f47 1) b 8)).put (some 19) (Rg.out (Rg.opsOf Try.f47 1) b 9)).put (some 5) (Rg.out (Rg.opsOf Try.f47 1) b 10)) := by
  have h := hf.chain
  rw [sizeM1, show List.range 11 = [0, 1, 2, 3, 4, 5, 6, 7, 8, 9, 10] from by decide] at h
  simp only [List.foldl_cons, List.foldl_nil, dM1_0, dM1_1, dM1_2, dM1_3, dM1_4, dM1_5, dM1_6, dM1_7, dM1_8, dM1_9, dM1_10] at h
  exact h

def FM6 (n1 : Nat) (b off n cap : Nat) (s : List Gv) (d e : Gv) (D E : Nat) (k : Nat) (v : Value) (w : World) : Prop :=
  match k with
  | 0 => v = .slice (some ⟨b, off, none⟩) n cap
  | 1 => v = .pointer (some ⟨E, 1, none⟩)
  | 2 => v = .int .i64 e.t
  | 3 => v = .int .i64 (e.t - 1439)
  | 4 => v = .pointer (some ⟨E, 1, none⟩)
  | 5 => v = .int .i64 e.t
  | 6 => ∃ off', v = .slice (some ⟨b, off', none⟩) (cut s (e.t - 1439) (e.t)).length (cut s (e.t - 1439) (e.t)).length ∧ Rw 3 csGv w (.slice (some ⟨b, off', none⟩) (cut s (e.t - 1439) (e.t)).length (cut s (e.t - 1439) (e.t)).length) (cut s (e.t - 1439) (e.t))
  | 7 => v = .agg #[.int .i64 d.d, .int .i64 d.t, .int .i64 d.n]
  | 8 => ∃ B, v = .slice (some ⟨B, 0, none⟩) 1 1 ∧ PB w B #[.int .i64 d.d, .int .i64 d.t, .int .i64 d.n] 49
  | 9 => w.ownsRow n1 49 3 v ((cut s (e.t - 1439) (e.t)).length + 1) (cellsL 3 csGv ((cut s (e.t - 1439) (e.t)) ++ [d]))
  | 10 => w.ownsRow n1 49 3 v ((cut s (e.t - 1439) (e.t)).length + 1) (cellsL 3 csGv ((cut s (e.t - 1439) (e.t)) ++ [d]))
  | _ => True
theorem keepM6 {n1 : Nat} {b off n cap : Nat} {s : List Gv} {d e : Gv} {D E : Nat} {w w' : World} (hb : Below w.heap.size w w') (k : Nat) (v : Value) (h : FM6 n1 b off n cap s d e D E k v w) : FM6 n1 b off n cap s d e D E k v w' := by
  unfold FM6 at *
  split at h <;> first
    | exact h
    | exact ownW_below h hb
    | (obtain ⟨o, h1, h2⟩ := h; exact ⟨o, h1, h2.below hb⟩)
theorem sizeM6 : (Rg.opsOf Try.f47 6).size = 11 := by kernel_rfl

set_option maxRecDepth 20000 in
set_option maxHeartbeats 8000000 in
theorem regM6 {Q : Exit → Act → World → Prop} {a : Act} {w1 : World} {b off n cap : Nat} {s : List Gv} {d e : Gv} {D E : Nat} (ha : a.tmps.size = 42)
    (k0 : a.tmps[0]? = some (.slice (some ⟨b, off, none⟩) n cap)) (k3 : a.tmps[3]? = some (.pointer (some ⟨D, 0, none⟩))) (k8 : a.tmps[8]? = some (.pointer (some ⟨E, 0, none⟩))) (hs : Rw 3 csGv w1 (.slice (some ⟨b, off, none⟩) n cap) s) (hl : s.length ≤ 500) (hD : PB w1 D #[.int .i64 d.d, .int .i64 d.t, .int .i64 d.n] 49) (hE : PB w1 E #[.int .i64 e.d, .int .i64 e.t, .int .i64 e.n] 49) (ht : 0 ≤ e.t ∧ e.t ≤ 10000000)
    (hend : ∀ b' w' v, Rg.Fr (Rg.opsOf Try.f47 6) a b' → Below w1.heap.size w1 w' → Rg.out (Rg.opsOf Try.f47 6) b' 10 = v → w'.ownsRow w1.heap.size 49 3 v ((cut s (e.t - 1439) (e.t)).length + 1) (cellsL 3 csGv ((cut s (e.t - 1439) (e.t)) ++ [d])) → Q .normal b' w') :
    (Code.region 6 (Rg.opsOf Try.f47 6) true).wp Try.prog Q a w1 := by
  obtain ⟨i0, hi0, hv0, hv1, hv2⟩ := info_parts infoGvM
  refine Rg.region_by 11 (by kernel_rfl) (fun w' => Below w1.heap.size w1 w') (FM6 w1.heap.size b off n cap s d e D E) (by rw [ha]; kernel_rfl) (st_drew (Below.refl _ _)) ?_ (fun h => absurd h (by rw [sizeM6]; decide)) (fun _ b' w' hf hI hA => hend b' w' _ hf hI rfl (hA 10 (by rw [sizeM6]; decide)))
  clear hend
  have HS : ∀ {w w' : World}, Below w.heap.size w w' → ∀ k y, FM6 w1.heap.size b off n cap s d e D E k y w → FM6 w1.heap.size b off n cap s d e D E k y w' := fun hb k y h => keepM6 hb k y h
  intro i' hi' hne
  rw [sizeM6] at hi'
  rcases (show i' = 0 ∨ i' = 1 ∨ i' = 2 ∨ i' = 3 ∨ i' = 4 ∨ i' = 5 ∨ i' = 6 ∨ i' = 7 ∨ i' = 8 ∨ i' = 9 ∨ i' = 10 by omega) with rfl | rfl | rfl | rfl | rfl | rfl | rfl | rfl | rfl | rfl | rfl
  · intro bb w' hf hI hA
    clear hi' hne
    have q0 := hf.kept (s := 0) (by rw [sizeM6]; kernel_rfl) k0
    exact Rg.op_value (o := ⟨some 26, Op.move (Operand.tmp 0), _, _, _, _⟩) rfl rfl rfl ⟨_, rfl, (fun h => by cases h), (by show Act.eval bb _ = _; simp [Act.eval, q0]), hI, fun _ _ h => h⟩
  · intro bb w' hf hI hA
    clear hi' hne
    have qs := hf.kept (s := 8) (by rw [sizeM6]; kernel_rfl) k8
    exact Rg.op_value (o := ⟨some 27, Op.fieldAddr 49 (Operand.tmp 8) 1, _, _, _, _⟩) (x := .pointer (some ⟨E, 1, none⟩)) rfl rfl (by clear hA HS; simp only [execOp]; go_simp) ⟨_, rfl, (fun h => by cases h), rfl, hI, fun _ _ h => h⟩
  · intro bb w' hf hI hA
    clear hi' hne
    have q1 : bb.tmps[27]? = some _ := hf.tmp (k := 1) rfl (by rw [ha]; decide) (hA 1 (by kernel_rfl))
    obtain ⟨e0, e1, e2⟩ := (PB.below_of hE hI).three
    exact Rg.op_value (o := ⟨some 28, Op.load 2 (Operand.tmp 27), _, _, _, _⟩) (x := .int .i64 e.t) rfl rfl (by clear hA HS; simp only [execOp]; go_simp) ⟨_, rfl, (fun h => by cases h), rfl, hI, fun _ _ h => h⟩
  · intro bb w' hf hI hA
    clear hi' hne
    have q2 : bb.tmps[28]? = some _ := hf.tmp (k := 2) rfl (by rw [ha]; decide) (hA 2 (by kernel_rfl))
    have hw : IntKind.i64.wrap (e.t - 1439) = e.t - 1439 := by simp [IntKind.wrap, IntKind.bits, IntKind.signed]; omega
    exact Rg.op_value (o := ⟨some 29, Op.binOp BinOp.sub 2 (Operand.tmp 28) (Operand.const (Value.int .i64 1439)) 2, _, _, _, _⟩) (x := .int .i64 (e.t - 1439)) rfl rfl (by clear hA HS; simp only [execOp]; go_simp) ⟨_, rfl, (fun h => by cases h), rfl, hI, fun _ _ h => h⟩
  · intro bb w' hf hI hA
    clear hi' hne
    have qs := hf.kept (s := 8) (by rw [sizeM6]; kernel_rfl) k8
    exact Rg.op_value (o := ⟨some 30, Op.fieldAddr 49 (Operand.tmp 8) 1, _, _, _, _⟩) (x := .pointer (some ⟨E, 1, none⟩)) rfl rfl (by clear hA HS; simp only [execOp]; go_simp) ⟨_, rfl, (fun h => by cases h), rfl, hI, fun _ _ h => h⟩
  · intro bb w' hf hI hA
    clear hi' hne
    have q4 : bb.tmps[30]? = some _ := hf.tmp (k := 4) rfl (by rw [ha]; decide) (hA 4 (by kernel_rfl))
    obtain ⟨e0, e1, e2⟩ := (PB.below_of hE hI).three
    exact Rg.op_value (o := ⟨some 31, Op.load 2 (Operand.tmp 30), _, _, _, _⟩) (x := .int .i64 e.t) rfl rfl (by clear hA HS; simp only [execOp]; go_simp) ⟨_, rfl, (fun h => by cases h), rfl, hI, fun _ _ h => h⟩
  · intro bb w' hf hI hA
    clear hi' hne
    have q0 : bb.tmps[26]? = some _ := hf.tmp (k := 0) rfl (by rw [ha]; decide) (hA 0 (by kernel_rfl))
    have q3 : bb.tmps[29]? = some _ := hf.tmp (k := 3) rfl (by rw [ha]; decide) (hA 3 (by kernel_rfl))
    have q5 : bb.tmps[31]? = some _ := hf.tmp (k := 5) rfl (by rw [ha]; decide) (hA 5 (by kernel_rfl))
    refine Rg.op_call (o := ⟨some 32, Op.call { callee := Callee.value (Operand.func 63), args := #[Operand.tmp 26, Operand.tmp 29, Operand.tmp 31], argTypes := _ }, _, _, _, _⟩) rfl rfl (by clear hA HS; simp only [execOp, resolve]; go_simp) (iwithin_any b off n cap s (e.t - 1439) (e.t) w' (hs.below hI) (by omega) (by omega) (by omega) (by omega)) ?_
    rintro e2 w2 ⟨⟨off', rfl, hrw⟩, rfl⟩
    exact ⟨_, rfl, _, rfl, (fun h => by cases h), ⟨off', rfl, hrw⟩, hI, fun _ _ h => h⟩
  · intro bb w' hf hI hA
    clear hi' hne
    have qs := hf.kept (s := 3) (by rw [sizeM6]; kernel_rfl) k3
    obtain ⟨e0, e1, e2⟩ := (PB.below_of hD hI).three
    exact Rg.op_value (o := ⟨some 33, Op.load 49 (Operand.tmp 3), _, _, _, _⟩) (x := .agg #[.int .i64 d.d, .int .i64 d.t, .int .i64 d.n]) rfl rfl (by clear hA HS; simp only [execOp]; go_simp) ⟨_, rfl, (fun h => by cases h), rfl, hI, fun _ _ h => h⟩
  · intro bb w' hf hI hA
    clear hi' hne
    have q7 : bb.tmps[33]? = some _ := hf.tmp (k := 7) rfl (by rw [ha]; decide) (hA 7 (by kernel_rfl))
    have hb1 : Below w'.heap.size w' (w'.alloc (.cells #[.int .i64 d.d, .int .i64 d.t, .int .i64 d.n] 49)) := (Below.refl _ _).alloc (Nat.le_refl _) _
    exact Rg.op_value (o := ⟨some 34, Op.buildSlice 42 1 #[(0, Operand.tmp 33)], _, _, _, _⟩) (x := .slice (some ⟨w'.heap.size, 0, none⟩) 1 1) (w' := w'.alloc (.cells #[.int .i64 d.d, .int .i64 d.t, .int .i64 d.n] 49)) rfl rfl (by clear hA HS; simp only [execOp]; go_simp) ⟨_, rfl, (fun h => by cases h), ⟨_, rfl, PB.new _ _ _⟩, onto hI hb1, HS hb1⟩
  · intro bb w' hf hI hA
    clear hi' hne
    obtain ⟨off', h6, hrw⟩ := hA 6 (by kernel_rfl)
    obtain ⟨B, h8, hPB⟩ := hA 8 (by kernel_rfl)
    have q6 : bb.tmps[32]? = some _ := hf.tmp (k := 6) rfl (by rw [ha]; decide) h6
    have q8 : bb.tmps[34]? = some _ := hf.tmp (k := 8) rfl (by rw [ha]; decide) h8
    have hcl := cut_le s (e.t - 1439) (e.t)
    obtain ⟨v', w2, hrun, ho2, hg2⟩ := run_append_arg_grows (P := Try.prog) w' 42 42 49 i0 (.agg #[.int .i64 0, .int .i64 0, .int .i64 0]) 3 24 Try.underlying42 hi0 hv0 hv1 hv2 rfl (by decide) ⟨b, off', none⟩ (cut s (e.t - 1439) (e.t)).length (cut s (e.t - 1439) (e.t)).length (cellsL 3 csGv (cut s (e.t - 1439) (e.t))) (cellsL_len _) (fun j u hu => by rw [Addr.add_lit]; exact row_cells hrw j u hu) ⟨B, 0, none⟩ 1 1 (cellsL 3 csGv [d]) rfl (fun j u hu => by rw [Addr.add_lit, Nat.zero_add, hPB.cell]; simpa [cellsL, csGv, List.range, List.range.loop] using hu) (by omega) (by unfold maxLen; omega) (by omega)
    have hb2 : Below w'.heap.size w' w2 := (Below.refl _ _).grown hg2 (Nat.le_refl _) (fun k hk => by cases hk)
    refine Rg.op_value (o := ⟨some 35, Op.call { callee := Callee.builtin Builtin.append, args := #[Operand.tmp 32, Operand.tmp 34], argTypes := #[42, 42] }, _, _, _, _⟩) (x := v') (w' := w2) rfl rfl (by clear hA HS; unfold execOp; simp only [resolve, invoke, builtin, Sem.run_bind, Sem.run_pure, Result.andThen_ok, List.map_toArray, List.map_cons, List.map_nil, Act.eval, Array.getD_eq_getD_getElem?, q6, q8, Option.getD_some, hrun]) ⟨_, rfl, (fun h => by cases h), ?_, onto hI hb2, HS hb2⟩
    show w2.ownsRow w1.heap.size 49 3 v' ((cut s (e.t - 1439) (e.t)).length + 1) (cellsL 3 csGv ((cut s (e.t - 1439) (e.t)) ++ [d]))
    rw [show cellsL 3 csGv ((cut s (e.t - 1439) (e.t)) ++ [d]) = cellsL 3 csGv (cut s (e.t - 1439) (e.t)) ++ cellsL 3 csGv [d] by simp [cellsL]]
    exact ownW_base ho2 hI.size
  · intro bb w' hf hI hA
    clear hi' hne
    have h9 := hA 9 (by kernel_rfl)
    generalize hv : Rg.out (Rg.opsOf Try.f47 6) bb 9 = v at h9
    have q9 : bb.tmps[35]? = some _ := hf.tmp (k := 9) rfl (by rw [ha]; decide) hv
    exact Rg.op_value (o := ⟨some 9, Op.assign (Operand.tmp 35), _, _, _, _⟩) (x := v) rfl rfl (by clear hA HS h9; simp only [execOp]; go_simp) ⟨_, rfl, (fun h => by cases h), h9, hI, fun _ _ h => h⟩

theorem dM6_0 : Rg.dstAt (Rg.opsOf Try.f47 6) 0 = some 26 := by kernel_rfl
theorem dM6_1 : Rg.dstAt (Rg.opsOf Try.f47 6) 1 = some 27 := by kernel_rfl
theorem dM6_2 : Rg.dstAt (Rg.opsOf Try.f47 6) 2 = some 28 := by kernel_rfl
theorem dM6_3 : Rg.dstAt (Rg.opsOf Try.f47 6) 3 = some 29 := by kernel_rfl
theorem dM6_4 : Rg.dstAt (Rg.opsOf Try.f47 6) 4 = some 30 := by kernel_rfl
theorem dM6_5 : Rg.dstAt (Rg.opsOf Try.f47 6) 5 = some 31 := by kernel_rfl
theorem dM6_6 : Rg.dstAt (Rg.opsOf Try.f47 6) 6 = some 32 := by kernel_rfl
theorem dM6_7 : Rg.dstAt (Rg.opsOf Try.f47 6) 7 = some 33 := by kernel_rfl
theorem dM6_8 : Rg.dstAt (Rg.opsOf Try.f47 6) 8 = some 34 := by kernel_rfl
theorem dM6_9 : Rg.dstAt (Rg.opsOf Try.f47 6) 9 = some 35 := by kernel_rfl
theorem dM6_10 : Rg.dstAt (Rg.opsOf Try.f47 6) 10 = some 9 := by kernel_rfl
theorem layM6 {a b : Act} (hf : Rg.Fr (Rg.opsOf Try.f47 6) a b) : b = (((((((((((a.put (some 26) (Rg.out (Rg.opsOf Try.f47 6) b 0)).put (some 27) (Rg.out (Rg.opsOf Try.f47 6) b 1)).put (some 28) (Rg.out (Rg.opsOf Try.f47 6) b 2)).put (some 29) (Rg.out (Rg.opsOf Try.f47 6) b 3)).put (some 30) (Rg.out (Rg.opsOf Try.f47 6) b 4)).put (some 31) (Rg.out (Rg.opsOf Try.f47 6) b 5)).put (some 32) (Rg.out (Rg.opsOf Try.f47 6) b 6)).put (some 33) (Rg.out (Rg.opsOf Try.f47 6) b 7)).put (some 34) (Rg.out (Rg.opsOf Try.f47 6) b 8)).put (some 35) (Rg.out (Rg.opsOf Try.f47 6) b 9)).put (some 9) (Rg.out (Rg.opsOf Try.f47 6) b 10)) := by
  have h := hf.chain
  rw [sizeM6, show List.range 11 = [0, 1, 2, 3, 4, 5, 6, 7, 8, 9, 10] from by decide] at h
  simp only [List.foldl_cons, List.foldl_nil, dM6_0, dM6_1, dM6_2, dM6_3, dM6_4, dM6_5, dM6_6, dM6_7, dM6_8, dM6_9, dM6_10] at h
  exact h
end Go.Proofs.Ytcnhogghfedcdaa
