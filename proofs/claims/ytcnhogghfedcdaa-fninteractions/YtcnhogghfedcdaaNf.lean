/-
  Warnings of drugs together: the program.
-/
import Derived.Test.YtcnhogghfedcdaaNc
import Derived.Test.YtcnhogghfedcdaaGw
import Derived.Laws.AppendOwn
namespace Go.Proofs.Ytcnhogghfedcdaa
open Go.RowKit Va Ga
set_option linter.unusedVariables false

theorem infoWarn : (Try.prog.info? 38).map (fun i => (i.zero, i.size, i.bytes)) = some (some (.agg #[.int .i64 0, .int .i64 0, .int .i64 0]), 3, 24) := by kernel_rfl
theorem infoSet : (Try.prog.info? 73).map (fun i => (i.zero, i.size, i.bytes)) = some (some (.int .u64 0), 1, 8) := by kernel_rfl
theorem cells_wg (l : List Wg) (x : Wg) : cellsL 3 csWg (l ++ [x]) = cellsL 3 csWg l ++ [.int .i64 x.a, .int .i64 x.b, .int .i64 x.r] := by rw [cellsL_app]; rfl
theorem cell3N (w : World) (a b c : Value) (t : TypeId) : ∀ (j : Nat) (u : Value), [a, b, c][j]? = some u → (w.alloc (.cells #[a, b, c] t)).cell? ((⟨w.heap.size, 0, none⟩ : Addr).add j) = some u := fun j u hu => by
  have e0 := heap_alloc_new w (Obj.cells #[a, b, c] t)
  have e1 : (w.alloc (.cells #[a, b, c] t)).cell? ((⟨w.heap.size, 0, none⟩ : Addr).add j) = [a, b, c][j]? := by
    rw [Addr.add_lit, Nat.zero_add]
    simp only [World.cell?, e0]
    simp
  rw [e1, hu]
theorem three_oneN (a b c : Int) : ∀ u ∈ [Value.int .i64 a, .int .i64 b, .int .i64 c], u.oneCell' = true := by
  intro u hu
  simp only [List.mem_cons, List.not_mem_nil, or_false] at hu
  rcases hu with rfl | rfl | rfl <;> rfl
/-- The first i of the sets at S are those of the drugs; S takes n. -/
def SRow (w : World) (S n : Nat) (l : List Dg) (i : Nat) : Prop := ∃ vs : Array Value, PB w S vs 73 ∧ vs.size = n ∧ ∀ j x, j < i → l[j]? = some x → ∃ s : Nat, vs[j]? = some (.int .u64 s) ∧ Bts s x.cls
theorem SRow.below {w w' : World} {S n i : Nat} {l : List Dg} (h : SRow w S n l i) (hb : Below w.heap.size w w') : SRow w' S n l i := by
  obtain ⟨vs, h1, h2, h3⟩ := h
  exact ⟨vs, h1.below hb, h2, h3⟩
theorem SRow.lt {w : World} {S n i : Nat} {l : List Dg} (h : SRow w S n l i) : S < w.heap.size := by
  obtain ⟨vs, h1, h2, h3⟩ := h
  exact h1.lt
theorem SRow.made {w w' : World} {z : List Value} {b n : Nat} (l : List Dg) (h : w'.ownsRow b 73 1 (.slice (some ⟨w.heap.size, 0, none⟩) n n) n z) : SRow w' w.heap.size n l 0 := by
  obtain ⟨h1, h2⟩ := h
  rcases h2 with ⟨h2, h3⟩ | ⟨g, cap, cur, h2, h3, h4, h5, h6, h7, h8⟩
  · cases h2
  · simp only [Value.slice.injEq, Option.some.injEq, Addr.mk.injEq, and_true, true_and] at h2
    obtain ⟨rfl, rfl⟩ := h2
    exact ⟨cur, h4, by omega, fun j x hj => absurd hj (Nat.not_lt_zero _)⟩
theorem SRow.old {w : World} {S n i j : Nat} {l : List Dg} (h : SRow w S n l i) (hj : j < n) : (∃ u, w.cell? ⟨S, j, none⟩ = some u) ∧ w.frozen? ⟨S, j, none⟩ = false := by
  obtain ⟨vs, h1, h2, h3⟩ := h
  exact ⟨⟨vs[j]'(by omega), by rw [h1.cell]; exact Array.getElem?_eq_getElem (by omega)⟩, h1.frozen j⟩
theorem SRow.set {w : World} {S n i s : Nat} {l : List Dg} {x : Dg} (h : SRow w S n l i) (hi : i < n) (hx : l[i]? = some x) (hs : Bts s x.cls) : SRow (w.setCell ⟨S, i, none⟩ (.int .u64 s)) S n l (i + 1) := by
  obtain ⟨vs, h1, h2, h3⟩ := h
  refine ⟨_, h1.set i _, by rw [Array.size_setIfInBounds]; exact h2, fun j y hj hy => ?_⟩
  by_cases q : j = i
  · subst q
    rw [hx] at hy
    cases hy
    exact ⟨s, Array.getElem?_setIfInBounds_self_of_lt (by omega), hs⟩
  · rw [Array.getElem?_setIfInBounds_ne (by omega)]
    exact h3 j y (by omega) hy
theorem SRow.at {w : World} {S n j : Nat} {l : List Dg} {x : Dg} (h : SRow w S n l n) (hj : j < n) (hx : l[j]? = some x) : ∃ s : Nat, w.cell? ⟨S, j, none⟩ = some (.int .u64 s) ∧ Bts s x.cls := by
  obtain ⟨vs, h1, h2, h3⟩ := h
  obtain ⟨s, h4, h5⟩ := h3 j x hj hx
  exact ⟨s, by rw [h1.cell]; exact h4, h5⟩
theorem SRow.grown {w w' : World} {S n i b m : Nat} {l : List Dg} {v : Value} {xs : List Value} (h : SRow w S n l i) (ho : w.ownsRow b 38 3 v m xs) (hg : w.grownBy w' v.ownBlock) : SRow w' S n l i := by
  obtain ⟨vs, h1, h2, h3⟩ := h
  refine ⟨vs, (hg.block S h1.lt ?_).trans h1, h2, h3⟩
  intro e
  obtain ⟨_, ⟨rfl, _⟩ | ⟨g, cap, cur, rfl, hb, hh, _⟩⟩ := ho
  · cases e
  · obtain rfl : S = g := Option.some.inj e
    unfold PB at h1
    rw [h1] at hh
    cases hh

def FI16 (S i k n : Nat) (s u : Nat) (B : Int) (ao : Option Addr) (rn cap : Nat) (i9 : Nat) (v : Value) (w : World) : Prop :=
  match i9 with
  | 0 => v = .slice ao rn cap
  | 1 => v = .slice (some ⟨S, 0, none⟩) n n
  | 2 => v = .int .i64 (i : Nat)
  | 3 => v = .pointer (some ⟨S, i, none⟩)
  | 4 => v = .int .u64 s
  | 5 => v = .slice (some ⟨S, 0, none⟩) n n
  | 6 => v = .int .i64 (k : Nat)
  | 7 => v = .pointer (some ⟨S, k, none⟩)
  | 8 => v = .int .u64 u
  | 9 => v = .int .i64 B
  | 10 => v = .int .i64 B
  | _ => True
theorem sizeI16 : (Rg.opsOf Try.f14 16).size = 11 := by kernel_rfl

set_option maxRecDepth 20000 in
set_option maxHeartbeats 8000000 in
theorem regI16 {Q : Exit → Act → World → Prop} {a : Act} {w9 : World} {S i k n : Nat} {s u : Nat} {B : Int} {ao : Option Addr} {rn cap : Nat} (ha : a.tmps.size = 73)
    (k1 : a.tmps[1]? = some (.slice ao rn cap)) (k6 : a.tmps[6]? = some (.slice (some ⟨S, 0, none⟩) n n)) (k9 : a.tmps[9]? = some (.int .i64 (i : Nat))) (k10 : a.tmps[10]? = some (.int .i64 (k : Nat))) (hin : i < n) (hkn : k < n) (hSl : S < w9.heap.size) (hci : w9.cell? ⟨S, i, none⟩ = some (.int .u64 s)) (hck : w9.cell? ⟨S, k, none⟩ = some (.int .u64 u)) (hK : ∀ W, Below w9.heap.size w9 W → Calls Try.prog 40 #[.slice ao rn cap, .int .u64 s, .int .u64 u] W fun e W' => e = .returned (.int .i64 B) ∧ Below W.heap.size W W')
    (hend : ∀ b' w', Rg.Fr (Rg.opsOf Try.f14 16) a b' → Below w9.heap.size w9 w' → Rg.out (Rg.opsOf Try.f14 16) b' 10 = .int .i64 B → Q .normal b' w') :
    (Code.region 16 (Rg.opsOf Try.f14 16) true).wp Try.prog Q a w9 := by
  refine Rg.region_dead (by kernel_rfl) (fun w' => Below w9.heap.size w9 w') (FI16 S i k n s u B ao rn cap) (fun _ => none) (by rw [ha, sizeI16]; kernel_rfl) (st_drew (Below.refl _ _)) ?_ ?_
  case refine_2 =>
    intro b' w' hf hI hA
    rw [sizeI16] at hA
    exact hend b' w' hf hI (hA 10 (by decide) rfl)
  case refine_1 =>
    clear hend
    have HS : ∀ {w w' : World}, Below w.heap.size w w' → ∀ k9 y9, FI16 S i k n s u B ao rn cap k9 y9 w → FI16 S i k n s u B ao rn cap k9 y9 w' := fun hb k9 y9 h => by
      unfold FI16 at *
      split at h <;> exact h
    intro i' hi'
    rw [sizeI16] at hi'
    rcases (show i' = 0 ∨ i' = 1 ∨ i' = 2 ∨ i' = 3 ∨ i' = 4 ∨ i' = 5 ∨ i' = 6 ∨ i' = 7 ∨ i' = 8 ∨ i' = 9 ∨ i' = 10 by omega) with rfl | rfl | rfl | rfl | rfl | rfl | rfl | rfl | rfl | rfl | rfl
    · intro bb w' hf hI hA
      clear hi'
      have q0 := hf.kept (s := 1) (by rw [sizeI16]; kernel_rfl) k1
      exact Rg.op_value (o := ⟨some 52, Op.move (Operand.tmp 1), _, _, _, _⟩) rfl rfl rfl ⟨_, rfl, (fun h => by cases h), (by show Act.eval bb _ = _; simp [Act.eval, q0]), hI, fun _ _ _ h => h⟩
    · intro bb w' hf hI hA
      clear hi'
      have q0 := hf.kept (s := 6) (by rw [sizeI16]; kernel_rfl) k6
      exact Rg.op_value (o := ⟨some 53, Op.move (Operand.tmp 6), _, _, _, _⟩) rfl rfl rfl ⟨_, rfl, (fun h => by cases h), (by show Act.eval bb _ = _; simp [Act.eval, q0]), hI, fun _ _ _ h => h⟩
    · intro bb w' hf hI hA
      clear hi'
      have q0 := hf.kept (s := 9) (by rw [sizeI16]; kernel_rfl) k9
      exact Rg.op_value (o := ⟨some 54, Op.move (Operand.tmp 9), _, _, _, _⟩) rfl rfl rfl ⟨_, rfl, (fun h => by cases h), (by show Act.eval bb _ = _; simp [Act.eval, q0]), hI, fun _ _ _ h => h⟩
    · intro bb w' hf hI hA
      clear hi'
      have q53 : bb.tmps[53]? = some _ := hf.tmp (k := 1) rfl (by rw [ha]; decide) (hA 1 (by kernel_rfl) (.inl rfl))
      have q54 : bb.tmps[54]? = some _ := hf.tmp (k := 2) rfl (by rw [ha]; decide) (hA 2 (by kernel_rfl) (.inl rfl))
      have hin2 : (i : Int) < (n : Int) := by omega
      clear hA HS hK
      exact Rg.op_value (o := ⟨some 55, Op.indexAddr 71 (Operand.tmp 53) (Operand.tmp 54), _, _, _, _⟩) (x := .pointer (some ⟨S, i, none⟩)) rfl rfl (by simp only [execOp]; go_simp) ⟨_, rfl, (fun h => by cases h), rfl, hI, fun _ _ _ h => h⟩
    · intro bb w' hf hI hA
      clear hi'
      have q55 : bb.tmps[55]? = some _ := hf.tmp (k := 3) rfl (by rw [ha]; decide) (hA 3 (by kernel_rfl) (.inl rfl))
      have e9 := (hI.cell (p := ⟨S, i, none⟩) hSl).trans hci
      clear hA HS hK
      exact Rg.op_value (o := ⟨some 56, Op.load 73 (Operand.tmp 55), _, _, _, _⟩) (x := .int .u64 s) rfl rfl (by simp only [execOp]; go_simp) ⟨_, rfl, (fun h => by cases h), rfl, hI, fun _ _ _ h => h⟩
    · intro bb w' hf hI hA
      clear hi'
      have q0 := hf.kept (s := 6) (by rw [sizeI16]; kernel_rfl) k6
      exact Rg.op_value (o := ⟨some 57, Op.move (Operand.tmp 6), _, _, _, _⟩) rfl rfl rfl ⟨_, rfl, (fun h => by cases h), (by show Act.eval bb _ = _; simp [Act.eval, q0]), hI, fun _ _ _ h => h⟩
    · intro bb w' hf hI hA
      clear hi'
      have q0 := hf.kept (s := 10) (by rw [sizeI16]; kernel_rfl) k10
      exact Rg.op_value (o := ⟨some 58, Op.move (Operand.tmp 10), _, _, _, _⟩) rfl rfl rfl ⟨_, rfl, (fun h => by cases h), (by show Act.eval bb _ = _; simp [Act.eval, q0]), hI, fun _ _ _ h => h⟩
    · intro bb w' hf hI hA
      clear hi'
      have q57 : bb.tmps[57]? = some _ := hf.tmp (k := 5) rfl (by rw [ha]; decide) (hA 5 (by kernel_rfl) (.inl rfl))
      have q58 : bb.tmps[58]? = some _ := hf.tmp (k := 6) rfl (by rw [ha]; decide) (hA 6 (by kernel_rfl) (.inl rfl))
      have hin2 : (k : Int) < (n : Int) := by omega
      clear hA HS hK
      exact Rg.op_value (o := ⟨some 59, Op.indexAddr 71 (Operand.tmp 57) (Operand.tmp 58), _, _, _, _⟩) (x := .pointer (some ⟨S, k, none⟩)) rfl rfl (by simp only [execOp]; go_simp) ⟨_, rfl, (fun h => by cases h), rfl, hI, fun _ _ _ h => h⟩
    · intro bb w' hf hI hA
      clear hi'
      have q59 : bb.tmps[59]? = some _ := hf.tmp (k := 7) rfl (by rw [ha]; decide) (hA 7 (by kernel_rfl) (.inl rfl))
      have e9 := (hI.cell (p := ⟨S, k, none⟩) hSl).trans hck
      clear hA HS hK
      exact Rg.op_value (o := ⟨some 60, Op.load 73 (Operand.tmp 59), _, _, _, _⟩) (x := .int .u64 u) rfl rfl (by simp only [execOp]; go_simp) ⟨_, rfl, (fun h => by cases h), rfl, hI, fun _ _ _ h => h⟩
    · intro bb w' hf hI hA
      clear hi'
      have q52 : bb.tmps[52]? = some _ := hf.tmp (k := 0) rfl (by rw [ha]; decide) (hA 0 (by kernel_rfl) (.inl rfl))
      have q56 : bb.tmps[56]? = some _ := hf.tmp (k := 4) rfl (by rw [ha]; decide) (hA 4 (by kernel_rfl) (.inl rfl))
      have q60 : bb.tmps[60]? = some _ := hf.tmp (k := 8) rfl (by rw [ha]; decide) (hA 8 (by kernel_rfl) (.inl rfl))
      refine Rg.op_call (o := ⟨some 61, Op.call { callee := Callee.value (Operand.func 40), args := #[(Operand.tmp 52), (Operand.tmp 56), (Operand.tmp 60)], argTypes := _ }, _, _, _, _⟩) rfl rfl (by clear hA HS hK; simp only [execOp, resolve]; go_simp) (hK w' hI) ?_
      rintro e w2 ⟨rfl, hb2⟩
      exact ⟨_, rfl, _, rfl, (fun h => by cases h), rfl, onto hI hb2, fun k9 y9 _ h => HS hb2 k9 y9 h⟩
    · intro bb w' hf hI hA
      clear hi'
      have q61 : bb.tmps[61]? = some _ := hf.tmp (k := 9) rfl (by rw [ha]; decide) (hA 9 (by kernel_rfl) (.inl rfl))
      clear hA HS hK
      exact Rg.op_value (o := ⟨some 11, Op.assign (Operand.tmp 61), _, _, _, _⟩) (x := .int .i64 B) rfl rfl (by simp only [execOp]; go_simp) ⟨_, rfl, (fun h => by cases h), rfl, hI, fun _ _ _ h => h⟩

theorem dI16_0 : Rg.dstAt (Rg.opsOf Try.f14 16) 0 = some 52 := by kernel_rfl
theorem dI16_1 : Rg.dstAt (Rg.opsOf Try.f14 16) 1 = some 53 := by kernel_rfl
theorem dI16_2 : Rg.dstAt (Rg.opsOf Try.f14 16) 2 = some 54 := by kernel_rfl
theorem dI16_3 : Rg.dstAt (Rg.opsOf Try.f14 16) 3 = some 55 := by kernel_rfl
theorem dI16_4 : Rg.dstAt (Rg.opsOf Try.f14 16) 4 = some 56 := by kernel_rfl
theorem dI16_5 : Rg.dstAt (Rg.opsOf Try.f14 16) 5 = some 57 := by kernel_rfl
theorem dI16_6 : Rg.dstAt (Rg.opsOf Try.f14 16) 6 = some 58 := by kernel_rfl
theorem dI16_7 : Rg.dstAt (Rg.opsOf Try.f14 16) 7 = some 59 := by kernel_rfl
theorem dI16_8 : Rg.dstAt (Rg.opsOf Try.f14 16) 8 = some 60 := by kernel_rfl
theorem dI16_9 : Rg.dstAt (Rg.opsOf Try.f14 16) 9 = some 61 := by kernel_rfl
theorem dI16_10 : Rg.dstAt (Rg.opsOf Try.f14 16) 10 = some 11 := by kernel_rfl
theorem layI16 {a b : Act} (hf : Rg.Fr (Rg.opsOf Try.f14 16) a b) : b = (((((((((((a.put (some 52) (Rg.out (Rg.opsOf Try.f14 16) b 0)).put (some 53) (Rg.out (Rg.opsOf Try.f14 16) b 1)).put (some 54) (Rg.out (Rg.opsOf Try.f14 16) b 2)).put (some 55) (Rg.out (Rg.opsOf Try.f14 16) b 3)).put (some 56) (Rg.out (Rg.opsOf Try.f14 16) b 4)).put (some 57) (Rg.out (Rg.opsOf Try.f14 16) b 5)).put (some 58) (Rg.out (Rg.opsOf Try.f14 16) b 6)).put (some 59) (Rg.out (Rg.opsOf Try.f14 16) b 7)).put (some 60) (Rg.out (Rg.opsOf Try.f14 16) b 8)).put (some 61) (Rg.out (Rg.opsOf Try.f14 16) b 9)).put (some 11) (Rg.out (Rg.opsOf Try.f14 16) b 10)) := by
  have h := hf.chain
  rw [sizeI16, show List.range 11 = [0, 1, 2, 3, 4, 5, 6, 7, 8, 9, 10] from by decide] at h
  simp only [List.foldl_cons, List.foldl_nil, dI16_0, dI16_1, dI16_2, dI16_3, dI16_4, dI16_5, dI16_6, dI16_7, dI16_8, dI16_9, dI16_10] at h
  exact h

set_option maxRecDepth 20000 in
set_option maxHeartbeats 8000000 in
theorem iint_any (ad : Option Addr) (dn dc : Nat) (l : List Dg) (ao : Option Addr) (n cap : Nat) (rs : List Ru) (w : World) (hd : DRw w (.slice ad dn dc) l) (hr : Rw 3 csRu w (.slice ao n cap) rs) (hl : l.length ≤ 1048576) (ht : ∀ x ∈ l, x.cls.length ≤ 1048576) (hn : rs.length ≤ 1048576) :
    Calls Try.prog 14 #[.slice ad dn dc, .slice ao n cap] w fun e w' => ∃ v, e = .returned v ∧ w'.ownsRow w.heap.size 38 3 v (warn rs l).length (cellsL 3 csWg (warn rs l)) ∧ Below w.heap.size w w' := by
  obtain rfl := hd.len
  obtain rfl := hr.len
  have k1 := fun W hW => idrugs_any ad l.length dc l W hW hl ht
  have k2 := fun W hW => irus_any ao rs.length cap rs W hW hn
  have HD := hidden hd
  have HT := hidden ht
  have HWd := hidden (fun W (hW : Below w.heap.size w W) => hd.below hW)
  have HWr := hidden (fun W (hW : Below w.heap.size w W) => hr.below hW)
  obtain ⟨i0, hi0, hv0, hv1, hv2⟩ := info_parts infoWarn
  obtain ⟨i1, hi1, hz0, hz1, hz2⟩ := info_parts infoSet
  clear hd hr ht
  cases hs : dsB l with
  | false =>
    rw [hs] at k1
    have HN : Hid (warn rs l = []) := warn_no hs
    clear hs
    go_enter Try.func14, Try.ntmps14
    go_wp2_with (go_at_call 37; refine (k1 _ (HWd.out _ (by repeat (first | exact Below.refl _ _ | assumption | refine st_drew ?_ | refine st_drewN ?_ _ | refine Below.setCell ?_ (by first | omega | (simp; done) | (simp; omega)) _ | refine Below.alloc ?_ (by first | omega | (simp; done) | (simp; omega)) _)))).mono ?_; rintro e w1 ⟨rfl, hb1⟩; have hq1 := ownW_below (ownW_new w 38 3) hb1; have bA := onto (show Below w.heap.size w _ from by repeat (first | exact Below.refl _ _ | assumption | refine st_drew ?_ | refine st_drewN ?_ _ | refine Below.setCell ?_ (by first | omega | (simp; done) | (simp; omega)) _ | refine Below.alloc ?_ (by first | omega | (simp; done) | (simp; omega)) _)) hb1; clear hb1)
    go_ret
    rw [HN.out]
    exact ⟨_, rfl, hq1, bA⟩
  | true =>
  rw [hs] at k1
  cases hr : rsB rs with
  | false =>
    rw [hr] at k2
    have HN : Hid (warn rs l = []) := warn_no2 hr
    clear hr hs
    go_enter Try.func14, Try.ntmps14
    go_wp2_with (first | (go_at_call 37; refine (k1 _ (HWd.out _ (by repeat (first | exact Below.refl _ _ | assumption | refine st_drew ?_ | refine st_drewN ?_ _ | refine Below.setCell ?_ (by first | omega | (simp; done) | (simp; omega)) _ | refine Below.alloc ?_ (by first | omega | (simp; done) | (simp; omega)) _)))).mono ?_; rintro e w1 ⟨rfl, hb1⟩; have hq1 := ownW_below (ownW_new w 38 3) hb1; have bA := onto (show Below w.heap.size w _ from by repeat (first | exact Below.refl _ _ | assumption | refine st_drew ?_ | refine st_drewN ?_ _ | refine Below.setCell ?_ (by first | omega | (simp; done) | (simp; omega)) _ | refine Below.alloc ?_ (by first | omega | (simp; done) | (simp; omega)) _)) hb1; clear hb1) | (go_at_call 38; refine (k2 _ (HWr.out _ (by repeat (first | exact Below.refl _ _ | assumption | refine st_drew ?_ | refine st_drewN ?_ _ | refine Below.setCell ?_ (by first | omega | (simp; done) | (simp; omega)) _ | refine Below.alloc ?_ (by first | omega | (simp; done) | (simp; omega)) _)))).mono ?_; rintro e w2 ⟨rfl, hb2⟩; have hq2 := ownW_below hq1 hb2; have bB := onto (show Below w.heap.size w _ from by repeat (first | exact Below.refl _ _ | assumption | refine st_drew ?_ | refine st_drewN ?_ _ | refine Below.setCell ?_ (by first | omega | (simp; done) | (simp; omega)) _ | refine Below.alloc ?_ (by first | omega | (simp; done) | (simp; omega)) _)) hb2; clear hb2 hq1))
    go_ret
    rw [HN.out]
    exact ⟨_, rfl, hq2, bB⟩
  | true =>
  rw [hr] at k2
  have HN : Hid (warn rs l = wTo rs l l.length) := warn_yes hs hr
  have hl5 := dsB_len hs
  have hr2 := rsB_len hr
  have HKW := hidden (fun (s u : Nat) (a b : List Int) (hs : Bts s a) (hu : Bts u b) W (hW : Below w.heap.size w W) => iworst_any ao rs.length cap rs s u a b W (HWr.out W hW) hr2 (rsB_all hr) hs hu)
  clear hr hs
  go_enter Try.func14, Try.ntmps14
  go_upto_region 4 with (first | (go_at_call 37; refine (k1 _ (HWd.out _ (by repeat (first | exact Below.refl _ _ | assumption | refine st_drew ?_ | refine st_drewN ?_ _ | refine Below.setCell ?_ (by first | omega | (simp; done) | (simp; omega)) _ | refine Below.alloc ?_ (by first | omega | (simp; done) | (simp; omega)) _)))).mono ?_; rintro e w1 ⟨rfl, hb1⟩; have hq1 := ownW_below (ownW_new w 38 3) hb1; have bA := onto (show Below w.heap.size w _ from by repeat (first | exact Below.refl _ _ | assumption | refine st_drew ?_ | refine st_drewN ?_ _ | refine Below.setCell ?_ (by first | omega | (simp; done) | (simp; omega)) _ | refine Below.alloc ?_ (by first | omega | (simp; done) | (simp; omega)) _)) hb1; clear hb1) | (go_at_call 38; refine (k2 _ (HWr.out _ (by repeat (first | exact Below.refl _ _ | assumption | refine st_drew ?_ | refine st_drewN ?_ _ | refine Below.setCell ?_ (by first | omega | (simp; done) | (simp; omega)) _ | refine Below.alloc ?_ (by first | omega | (simp; done) | (simp; omega)) _)))).mono ?_; rintro e w2 ⟨rfl, hb2⟩; have hq2 := ownW_below hq1 hb2; have bB := onto (show Below w.heap.size w _ from by repeat (first | exact Below.refl _ _ | assumption | refine st_drew ?_ | refine st_drewN ?_ _ | refine Below.setCell ?_ (by first | omega | (simp; done) | (simp; omega)) _ | refine Below.alloc ?_ (by first | omega | (simp; done) | (simp; omega)) _)) hb2; clear hb2 hq1))
  have hsz2 := bB.size
  have HB2 := hidden bB
  have HO2 := hidden hq2
  clear bB hq2 bA k1 k2
  go_wp2_with (refine wpList_make_full _ rfl (.tmp 23) (.tmp 23) 71 rfl w2.heap.size 73 i1 (.int .u64 0) 1 Try.underlying71 hi1 hz0 hz1 .i64 .i64 _ _ l.length rfl rfl rfl rfl (by rw [hz2]; omega) (by unfold maxLen; omega) (Nat.le_refl _) ?_; intro w3 ho3 hg3)
  have b3 : Below w2.heap.size w2 w3 := (Below.refl _ w2).grown hg3 (Nat.le_refl _) (by simp)
  have s3 := SRow.made l ho3
  clear ho3 hg3
  go_loopw [7, 8, 27] (fun _ _ iv wr => ∃ i : Nat, i ≤ l.length ∧ iv = .int .i64 i ∧ Below w2.heap.size w2 wr ∧ SRow wr w2.heap.size l.length l i) (fun _ _ iv _ => l.length - (intOf iv).toNat)
  case atStart => exact ⟨0, Nat.zero_le _, rfl, b3, s3⟩
  case round =>
    clear b3 s3
    obtain ⟨i, hi, rfl, hb, hS⟩ := hrel
    have hsz := hb.size
    have bW := onto HB2.out hb
    by_cases hlt : i < l.length
    · have hlti : (i : Int) < (l.length : Int) := by omega
      obtain ⟨x, hx⟩ := some_of l i hlt
      obtain ⟨g, off, ta, tc, rfl, hg, hrow, c0, c1, c2, c3, c4, c5⟩ := (HD.out.below bW).at hx
      have HX := hidden hx
      have hK := fun W hW => iclassesof_any ta x.cls.length tc x.cls W hW (HT.out x (List.mem_of_getElem? hx))
      have HRW := hidden (fun W (hW : Below wr.heap.size wr W) => hrow.below hW)
      have bx : Below wr.heap.size wr (wr.alloc (.cells #[.int .i64 x.id, .slice ta x.cls.length tc, .int .i64 x.pk, .int .i64 x.most, .int .i64 x.day, .int .i64 x.kid] 26)) := (Below.refl _ _).alloc (Nat.le_refl _) _
      have HSX := hidden hS
      obtain ⟨⟨u0, hu0⟩, hf0⟩ := (hS.below bx).old hlt
      have hS0 := hS.lt
      have hne : ¬ w2.heap.size = wr.heap.size := by omega
      clear hx hrow hS
      go_wp2_with (go_at_call 39; refine (hK _ (HRW.out _ (by repeat (first | exact Below.refl _ _ | assumption | refine st_drew ?_ | refine st_drewN ?_ _ | refine Below.setCell ?_ (by first | omega | (simp; done) | (simp; omega)) _ | refine Below.alloc ?_ (by first | omega | (simp; done) | (simp; omega)) _)))).mono ?_; rintro e w4 ⟨⟨s, rfl, hBt⟩, rfl⟩)
      have hS4 := (HSX.out.set hlt HX.out hBt).below ((Below.refl _ _).alloc (Nat.le_refl _) (.cells #[.int .i64 x.id, .slice ta x.cls.length tc, .int .i64 x.pk, .int .i64 x.most, .int .i64 x.day, .int .i64 x.kid] 26))
      go_roundw
      case rel => exact ⟨i + 1, by omega, rfl, by repeat (first | exact Below.refl _ _ | assumption | refine st_drew ?_ | refine st_drewN ?_ _ | refine Below.setCell ?_ (by first | omega | (simp; done) | (simp; omega)) _ | refine Below.alloc ?_ (by first | omega | (simp; done) | (simp; omega)) _), hS4⟩
      case measure => simp [intOf]; omega
    · have hlti : ¬ (i : Int) < (l.length : Int) := by omega
      have hil : i = l.length := by omega
      subst hil
      have HO3 := hidden (ownW_below HO2.out hb)
      have HS3 := hidden hS
      have HB3 := hidden bW
      clear hb hS bW
      go_wp2_with fail
      go_loopw [5, 9, 10, 11, 41] (fun sv _ _ _ iv wx => ∃ (i : Nat) (out : List Wg), i ≤ l.length ∧ iv = .int .i64 i ∧ Hid (out = wTo rs l i) ∧ (∃ ad c, sv = .slice ad out.length c ∧ wx.ownsRow w.heap.size 38 3 (.slice ad out.length c) out.length (cellsL 3 csWg out)) ∧ Below w.heap.size w wx ∧ SRow wx w2.heap.size l.length l l.length) (fun _ _ _ _ iv _ => l.length - (intOf iv).toNat)
      case atStart => exact ⟨0, [], Nat.zero_le _, rfl, rfl, ⟨_, _, rfl, HO3.out⟩, HB3.out, HS3.out⟩
      case round =>
        clear HO3 HS3 HB3
        obtain ⟨i, out, hi, rfl, HO, ⟨ad1, c1, rfl, ho⟩, hb, hS⟩ := hrel
        have hsz := hb.size
        by_cases hlt : i < l.length
        · have hlti : (i : Int) < (l.length : Int) := by omega
          obtain ⟨x, hx⟩ := some_of l i hlt
          have HU := hidden (wTo_succ (rs := rs) hx)
          have HX := hidden hx
          clear hx
          go_wp2_with fail
          go_loopw [5, 10, 11] (fun sv kv _ wy => ∃ (k : Nat) (out : List Wg), i + 1 ≤ k ∧ k ≤ l.length ∧ kv = .int .i64 k ∧ Hid (out = wTo rs l i ++ wRow rs l i x k) ∧ (∃ ad c, sv = .slice ad out.length c ∧ wy.ownsRow w.heap.size 38 3 (.slice ad out.length c) out.length (cellsL 3 csWg out)) ∧ Below w.heap.size w wy ∧ SRow wy w2.heap.size l.length l l.length) (fun _ kv _ _ => l.length - (intOf kv).toNat)
          case atStart => exact ⟨i + 1, out, Nat.le_refl _, by omega, rfl, by rw [Hid, wRow_nil rs l i x (i + 1) (Nat.le_refl _), List.append_nil]; exact HO.out, ⟨_, _, rfl, ho⟩, hb, hS⟩
          case round =>
            clear ho HO hb hsz hS
            obtain ⟨k, out2, hik, hkl, rfl, HO2, ⟨ad2, cc2, rfl, ho2⟩, hbx, hS⟩ := hrel
            have hsx := hbx.size
            have hout : out2.length ≤ 2600 := by
              rw [HO2.out, List.length_append]
              have z1 := wTo_len rs l i
              have z2 := wRow_len rs l i x k
              have z3 : i * l.length ≤ 50 * 50 := Nat.mul_le_mul (by omega) hl5
              omega
            by_cases hklt : k < l.length
            · have hklti : (k : Int) < (l.length : Int) := by omega
              obtain ⟨y, hy⟩ := some_of l k hklt
              obtain ⟨s, hs1, hs2⟩ := hS.at hlt HX.out
              obtain ⟨u, hu1, hu2⟩ := hS.at hklt hy
              have hbd := best_bd rs x y
              have hKW := fun W (hW : Below _ _ W) => HKW.out s u x.cls y.cls hs2 hu2 W (onto hbx hW)
              rw [show bestTo rs x.cls y.cls rs.length = best rs x y from rfl] at hKW
              have HQn := fun q => hidden (wRow_no (rs := rs) (l := l) (i := i) (x := x) (by omega) hy q)
              have HQy := fun q => hidden (wRow_yes (rs := rs) (l := l) (i := i) (x := x) (by omega) hy q)
              generalize best rs x y = B at *
              clear hs2 hu2 hy
              go_upto_region 16 with fail
              refine regI16 (s := s) (u := u) (B := B) rfl rfl rfl rfl rfl hlt hklt hS.lt hs1 hu1 hKW ?_
              intro b' w5 hf hb5 hv
              rw [layI16 hf, hv]
              clear hv hf hKW
              generalize Rg.out (Rg.opsOf Try.f14 16) b' 0 = y0
              generalize Rg.out (Rg.opsOf Try.f14 16) b' 1 = y1
              generalize Rg.out (Rg.opsOf Try.f14 16) b' 2 = y2
              generalize Rg.out (Rg.opsOf Try.f14 16) b' 3 = y3
              generalize Rg.out (Rg.opsOf Try.f14 16) b' 4 = y4
              generalize Rg.out (Rg.opsOf Try.f14 16) b' 5 = y5
              generalize Rg.out (Rg.opsOf Try.f14 16) b' 6 = y6
              generalize Rg.out (Rg.opsOf Try.f14 16) b' 7 = y7
              generalize Rg.out (Rg.opsOf Try.f14 16) b' 8 = y8
              generalize Rg.out (Rg.opsOf Try.f14 16) b' 9 = y9
              have bA := onto hbx hb5
              have hsA := bA.size
              have hS5 := hS.below hb5
              have HO5 := hidden (ownW_below ho2 hb5)
              clear hs1 hu1 hb5 ho2 hbx hS
              go_frame
              by_cases q : B < 0
              · have HQ : Hid (out2 = wTo rs l i ++ wRow rs l i x (k + 1)) := by rw [Hid, (HQn q).out]; exact HO2.out
                have q2 : ¬ 0 ≤ B := by omega
                clear HO2 HQn HQy
                go_wp2_with fail
                go_roundw
                case rel => exact ⟨k + 1, out2, by omega, by omega, rfl, HQ, ⟨_, _, rfl, HO5.out⟩, bA, hS5⟩
                case measure => simp [intOf]; omega
              · have HQ : Hid (out2 ++ [⟨i, k, B⟩] = wTo rs l i ++ wRow rs l i x (k + 1)) := by rw [Hid, (HQy q).out, HO2.out, List.append_assoc]
                have q2 : 0 ≤ B := by omega
                clear HO2 HQn HQy
                go_wp2_with (at_builtin; refine wpList_append_own _ rfl (.tmp 64) (.tmp 69) 35 rfl w.heap.size 38 i0 (.agg #[.int .i64 0, .int .i64 0, .int .i64 0]) 3 24 Try.underlying35 hi0 hv0 hv1 hv2 rfl (by decide) _ out2.length (cellsL 3 csWg out2) rfl (HO5.out.alloc _) ⟨w5.heap.size, 0, none⟩ 1 1 [.int .i64 i, .int .i64 k, .int .i64 B] rfl rfl (cell3N _ _ _ _ _) (three_oneN _ _ _) (by unfold maxLen; omega) (by omega) (by simp; omega) ?_; intro v4 w4 ho4 hg4 hnn4; obtain ⟨ad4, c4, rfl⟩ := ownW_slice ho4)
                have b4 : Below w.heap.size w w4 := (bA.alloc hsA _).grown hg4 (by simp; omega) (fun k hk => (ownW_lt HO5.out k hk).1)
                have hS4 := (hS5.below ((Below.refl _ _).alloc (Nat.le_refl _) _)).grown (HO5.out.alloc _) hg4
                go_roundw
                case rel => exact ⟨k + 1, out2 ++ [⟨i, k, B⟩], by omega, by omega, rfl, HQ, ⟨ad4, c4, by rw [List.length_append]; rfl, by rw [cells_wg, List.length_append]; exact ho4⟩, b4, hS4⟩
                case measure => simp [intOf]; omega
            · have hklti : ¬ (k : Int) < (l.length : Int) := by omega
              have hke : k = l.length := by omega
              have HQ : Hid (out2 = wTo rs l (i + 1)) := by rw [Hid, HU.out, ← hke]; exact HO2.out
              go_wp2_with fail
              go_roundw
              case rel => exact ⟨i + 1, out2, by omega, rfl, HQ, ⟨_, _, rfl, ho2⟩, hbx, hS⟩
              case measure => simp [intOf]; omega
        · have hlti : ¬ (i : Int) < (l.length : Int) := by omega
          have hil : i = l.length := by omega
          have HF : Hid (warn rs l = out) := by rw [Hid, HN.out, HO.out, hil]
          go_wp2_with fail
          go_ret
          rw [HF.out]
          exact ⟨_, rfl, ho, hb⟩
end Go.Proofs.Ytcnhogghfedcdaa
