/-
  Merged: U28.
-/
import Derived.Test.YtmcekefoedgboaaDoorMg4
import Derived.Test.YtmcekefoedgboaaDoorMg5
namespace Go.Proofs.YtmcekefoedgboaaDoor.Rg
section
variable {P : Program} {ops : Array Oper} {Q : Exit → Act → World → Prop}
theorem zcv {i f : Nat} {o : Oper} {b : Act} {w : World} {args : Array Value} {K : Act → World → Prop} {R : Ending → World → Prop} (hi : ops[i]? = some o) (hw : Region.wanted o (yielded ops b.tmps) = true) (hr : (execOp b.eval o).run P w = .ok (.enter f args) w) (hc : Calls P f args w R) (hK : ∀ e w', R e w' → ∃ ch, e = .panicked ch ∧ Q (.panic ch) b w') : wpOp P ops Q i K b w := by
  unfold wpOp
  simp only [hi, hw, if_true, Oper.wp, hr, Oper.upon]
  refine .inl (hc.mono fun e w' he => ?_)
  obtain ⟨ch, rfl, h⟩ := hK e w' he
  exact h
end
end Go.Proofs.YtmcekefoedgboaaDoor.Rg
namespace Go.Proofs.YtmcekefoedgboaaDoor
open Go.RowKit Va Uo
set_option linter.all false
theorem zb5 (x : Dd) (c : Int) (w : World) : Calls Tryd.prog 53 #[.agg #[.int .i64 x.k, .int .i64 x.o.id, .int .i64 x.o.p, .int .i64 x.o.d, .int .i64 x.o.n, .int .i64 x.o.f, .int .i64 x.o.e, .int .i64 x.o.c, .int .i64 x.o.s, .bool x.o.two, .int .i64 x.id, .int .i64 x.p, .int .i64 x.d, .int .i64 x.n, .int .i64 x.m, .int .i64 x.b, .int .i64 x.a], .bool true, .int .i64 c] w fun e w' => e = .panicked [{ v := ku x.k c, recovered := false }] ∧ Below w.heap.size w w' := zh6 x c w
theorem zbl (x : Dd) (c : Int) (w : World) : Calls Tryd.prog 53 #[.agg #[.int .i64 x.k, .int .i64 x.o.id, .int .i64 x.o.p, .int .i64 x.o.d, .int .i64 x.o.n, .int .i64 x.o.f, .int .i64 x.o.e, .int .i64 x.o.c, .int .i64 x.o.s, .bool x.o.two, .int .i64 x.id, .int .i64 x.p, .int .i64 x.d, .int .i64 x.n, .int .i64 x.m, .int .i64 x.b, .int .i64 x.a], .bool false, .int .i64 c] w fun e w' => e = .returned (.tuple #[]) ∧ Below w.heap.size w w' := istop_no x c w
theorem zi4 (x : Dd) (s : Int) (w : World) (hk : x.k = 2 ∨ x.k = 3 ∨ x.k = 4) : Calls Tryd.prog 83 #[.agg #[.int .i64 x.k, .int .i64 x.o.id, .int .i64 x.o.p, .int .i64 x.o.d, .int .i64 x.o.n, .int .i64 x.o.f, .int .i64 x.o.e, .int .i64 x.o.c, .int .i64 x.o.s, .bool x.o.two, .int .i64 x.id, .int .i64 x.p, .int .i64 x.d, .int .i64 x.n, .int .i64 x.m, .int .i64 x.b, .int .i64 x.a], .int .i64 s] w fun e w' => e = .returned (.int .i64 (if vk s x.k = true then x.k else 0)) ∧ Below w.heap.size w w' := zhw x s w hk
theorem zhg (o : Od) (b a : Int) (w : World) {t : Bool} (ht : zav o.two b a = t) : Calls Tryd.prog 81 #[.agg #[.int .i64 o.id, .int .i64 o.p, .int .i64 o.d, .int .i64 o.n, .int .i64 o.f, .int .i64 o.e, .int .i64 o.c, .int .i64 o.s, .bool o.two], .int .i64 b, .int .i64 a] w fun e w' => e = .returned (.bool t) ∧ Below w.heap.size w w' := ht ▸ zhi o b a w
set_option maxRecDepth 20000 in
set_option maxHeartbeats 2000000 in
theorem zg8 (vo : Value) (ad : Option Addr) (dcap : Nat) (ds : List Ds) (m : Int) (w : World) (hd : VRw 5 jk w (.slice ad ds.length dcap) ds) (hm : ds.length ≤ 1048576) (ho1 : ∃ a n c, vo = .slice a n c) {t : Bool} (ht : za2 ds m = t) :
    Calls Tryd.prog 82 #[.agg #[vo, .slice ad ds.length dcap], .int .i64 m] w fun e w' => e = .returned (.bool t) ∧ Below w.heap.size w w' := by
  obtain ⟨sa, sn, sc, rfl⟩ := ho1
  have hb0 : Below w.heap.size w (w.alloc (.cells #[.slice sa sn sc, .slice ad ds.length dcap] 27)) := (Below.refl _ _).alloc (Nat.le_refl _) _
  have HH := hidden (hd.below hb0)
  have HT := hidden ht
  clear hd ht
  by_cases h0 : ds.length = 0
  · obtain rfl : t = false := by rw [← HT.out, za2, decide_eq_false (by omega)]; rfl
    clear HT
    have hw : IntKind.i64.wrap ((ds.length : Int) - 1) = -1 := by rw [IntKind.wrap_i64]; omega
    have HW0 := hidden h0
    clear h0
    go_enter Tryd.func82, Tryd.ntmps82
    go_wp2
    all_goals (go_ret; exact ⟨rfl, hb0⟩)
  · obtain ⟨n1, h1⟩ : ∃ n1, ds.length = n1 + 1 := ⟨ds.length - 1, by omega⟩
    obtain ⟨y, hy⟩ : ∃ y, ds[n1]? = some y := ⟨_, List.getElem?_eq_getElem (by omega)⟩
    obtain ⟨gd, od, rfl, zd, hcell⟩ := HH.out.at hy
    obtain rfl : t = decide (m < y.m) := by rw [← HT.out]; unfold za2; rw [decide_eq_true (by omega), h1, Nat.add_sub_cancel, zbm hy]; rfl
    have e2 : (w.alloc (.cells #[.slice sa sn sc, .slice (some ⟨gd, od, none⟩) ds.length dcap] 27)).cell? ⟨gd, od + n1 * 5 + 2, none⟩ = some (.int .i64 y.m) := hcell 2 (by decide)
    have hw : IntKind.i64.wrap ((ds.length : Int) - 1) = (n1 : Int) := by rw [IntKind.wrap_i64]; omega
    have g0 : (0 : Int) ≤ (n1 : Int) := by omega
    have g1 : (n1 : Int) < (ds.length : Int) := by omega
    clear HT HH hy hcell h0 h1
    go_enter Tryd.func82, Tryd.ntmps82
    go_wp2
    all_goals (go_ret; exact ⟨by first | rfl | exact qj (by first | (simp; done) | (simp; omega) | (simp_all; done) | (simp_all; omega) | (rw [Bool.eq_iff_iff]; simp; omega) | (rw [Bool.eq_iff_iff]; simp_all; omega)), hb0⟩)
def FS3 (B2 B3 g off N cap k : Nat) (vd : Value) (x : Dd) (s : Int) (i9 : Nat) (v : Value) (w : World) : Prop :=
  match i9 with
  | 0 => v = .agg #[.int .i64 x.k, .int .i64 x.o.id, .int .i64 x.o.p, .int .i64 x.o.d, .int .i64 x.o.n, .int .i64 x.o.f, .int .i64 x.o.e, .int .i64 x.o.c, .int .i64 x.o.s, .bool x.o.two, .int .i64 x.id, .int .i64 x.p, .int .i64 x.d, .int .i64 x.n, .int .i64 x.m, .int .i64 x.b, .int .i64 x.a]
  | 1 => v = .pointer (some ⟨B2, 0, none⟩)
  | 2 => v = .slice (some ⟨g, off, none⟩) N cap
  | 3 => v = .int .i64 (k : Nat)
  | 4 => v = .pointer (some ⟨g, off + k * 9, none⟩)
  | 5 => v = .pointer (some ⟨g, off + k * 9 + 7, none⟩)
  | 6 => v = .int .i64 s
  | 7 => v = .int .i64 (if vk s x.k = true then x.k else 0)
  | 8 => v = .int .i64 (if vk s x.k = true then x.k else 0)
  | _ => True
theorem zcl : (Rg.opsOf Tryd.f57 3).size = 9 := by kernel_rfl
set_option maxRecDepth 20000 in
set_option maxHeartbeats 8000000 in
theorem regS3 {Q : Exit → Act → World → Prop} {a : Act} {w9 : World} {B2 B3 g off N cap k : Nat} {vd : Value} {x : Dd} {s : Int} (ha : a.tmps.size = 38)
    (k3 : a.tmps[3]? = some (.pointer (some ⟨B3, 0, none⟩))) (k2 : a.tmps[2]? = some (.pointer (some ⟨B2, 0, none⟩))) (k5 : a.tmps[5]? = some (.int .i64 (k : Nat))) (p3 : PB w9 B3 #[.int .i64 x.k, .int .i64 x.o.id, .int .i64 x.o.p, .int .i64 x.o.d, .int .i64 x.o.n, .int .i64 x.o.f, .int .i64 x.o.e, .int .i64 x.o.c, .int .i64 x.o.s, .bool x.o.two, .int .i64 x.id, .int .i64 x.p, .int .i64 x.d, .int .i64 x.n, .int .i64 x.m, .int .i64 x.b, .int .i64 x.a] 31) (p2 : PB w9 B2 #[.slice (some ⟨g, off, none⟩) N cap, vd] 27) (hk : (k : Int) < (N : Int)) (es : w9.cell? ⟨g, off + k * 9 + 7, none⟩ = some (.int .i64 s)) (zg : g < w9.heap.size) (hxk : x.k = 2 ∨ x.k = 3 ∨ x.k = 4)
    (hend : ∀ b' w', Rg.Fr (Rg.opsOf Tryd.f57 3) a b' → Below w9.heap.size w9 w' → Rg.out (Rg.opsOf Tryd.f57 3) b' 8 = .int .i64 (if vk s x.k = true then x.k else 0) → Q .normal b' w') :
    (Code.region 3 (Rg.opsOf Tryd.f57 3) true).wp Tryd.prog Q a w9 := by
  refine Rg.zae (by kernel_rfl) (fun w' => Below w9.heap.size w9 w') (FS3 B2 B3 g off N cap k vd x s) (fun _ => none) (by rw [ha, zcl]; kernel_rfl) (jg (Below.refl _ _)) ?_ ?_
  case refine_2 =>
    intro b' w' hf hI hA
    rw [zcl] at hA
    exact hend b' w' hf hI (hA 8 (by decide) rfl)
  case refine_1 =>
    clear hend
    have HS : ∀ {w w' : World}, Below w.heap.size w w' → ∀ k9 y9, FS3 B2 B3 g off N cap k vd x s k9 y9 w → FS3 B2 B3 g off N cap k vd x s k9 y9 w' := fun hb k9 y9 h => by
      unfold FS3 at *
      split at h <;> exact h
    intro i' hi'
    rw [zcl] at hi'
    rcases (show i' = 0 ∨ i' = 1 ∨ i' = 2 ∨ i' = 3 ∨ i' = 4 ∨ i' = 5 ∨ i' = 6 ∨ i' = 7 ∨ i' = 8 by omega) with rfl | rfl | rfl | rfl | rfl | rfl | rfl | rfl | rfl
    · intro bb w' hf hI hA
      clear hi'
      have q3 := hf.kept (s := 3) (by rw [zcl]; kernel_rfl) k3
      obtain ⟨e30, ⟨e31, e32, e33, e34, e35, e36, e37, e38, e39⟩, e3a, e3b, e3c, e3d, e3e, e3f, e3g⟩ := (p3.below hI).deed
      clear p3 p2 es
      clear hA HS 
      exact Rg.zh (o := ⟨some 19, Op.load 31 (Operand.tmp 3), _, _, _, _⟩) (x := .agg #[.int .i64 x.k, .int .i64 x.o.id, .int .i64 x.o.p, .int .i64 x.o.d, .int .i64 x.o.n, .int .i64 x.o.f, .int .i64 x.o.e, .int .i64 x.o.c, .int .i64 x.o.s, .bool x.o.two, .int .i64 x.id, .int .i64 x.p, .int .i64 x.d, .int .i64 x.n, .int .i64 x.m, .int .i64 x.b, .int .i64 x.a]) rfl rfl (by simp only [execOp]; go_simp) ⟨_, rfl, (fun h => by cases h), rfl, hI, fun _ _ _ h => h⟩
    · intro bb w' hf hI hA
      clear hi'
      have q2 := hf.kept (s := 2) (by rw [zcl]; kernel_rfl) k2
      clear hA HS 
      exact Rg.zh (o := ⟨some 20, Op.fieldAddr 27 (Operand.tmp 2) 0, _, _, _, _⟩) (x := .pointer (some ⟨B2, 0, none⟩)) rfl rfl (by simp only [execOp]; go_simp) ⟨_, rfl, (fun h => by cases h), rfl, hI, fun _ _ _ h => h⟩
    · intro bb w' hf hI hA
      clear hi'
      have q20 : bb.tmps[20]? = some _ := hf.tmp (k := 1) rfl (by rw [ha]; decide) (hA 1 (by kernel_rfl) (.inl rfl))
      have e := (p2.below hI).cell 0
      have e0 : w'.cell? ⟨B2, 0, none⟩ = some (.slice (some ⟨g, off, none⟩) N cap) := e
      clear p3 p2 es e
      clear hA HS 
      exact Rg.zh (o := ⟨some 21, Op.load 24 (Operand.tmp 20), _, _, _, _⟩) (x := .slice (some ⟨g, off, none⟩) N cap) rfl rfl (by simp only [execOp]; go_simp) ⟨_, rfl, (fun h => by cases h), rfl, hI, fun _ _ _ h => h⟩
    · intro bb w' hf hI hA
      clear hi'
      have q0 := hf.kept (s := 5) (by rw [zcl]; kernel_rfl) k5
      exact Rg.zh (o := ⟨some 22, Op.move (Operand.tmp 5), _, _, _, _⟩) rfl rfl rfl ⟨_, rfl, (fun h => by cases h), (by show Act.eval bb _ = _; simp [Act.eval, q0]), hI, fun _ _ _ h => h⟩
    · intro bb w' hf hI hA
      clear hi'
      have q21 : bb.tmps[21]? = some _ := hf.tmp (k := 2) rfl (by rw [ha]; decide) (hA 2 (by kernel_rfl) (.inl rfl))
      have q22 : bb.tmps[22]? = some _ := hf.tmp (k := 3) rfl (by rw [ha]; decide) (hA 3 (by kernel_rfl) (.inl rfl))
      have h0 : (0 : Int) ≤ (k : Int) := by omega
      clear p3 p2 es
      clear hA HS 
      exact Rg.zh (o := ⟨some 23, Op.indexAddr 24 (Operand.tmp 21) (Operand.tmp 22), _, _, _, _⟩) (x := .pointer (some ⟨g, off + k * 9, none⟩)) rfl rfl (by simp only [execOp]; go_simp) ⟨_, rfl, (fun h => by cases h), rfl, hI, fun _ _ _ h => h⟩
    · intro bb w' hf hI hA
      clear hi'
      have q23 : bb.tmps[23]? = some _ := hf.tmp (k := 4) rfl (by rw [ha]; decide) (hA 4 (by kernel_rfl) (.inl rfl))
      clear hA HS 
      exact Rg.zh (o := ⟨some 24, Op.fieldAddr 29 (Operand.tmp 23) 7, _, _, _, _⟩) (x := .pointer (some ⟨g, off + k * 9 + 7, none⟩)) rfl rfl (by simp only [execOp]; go_simp) ⟨_, rfl, (fun h => by cases h), rfl, hI, fun _ _ _ h => h⟩
    · intro bb w' hf hI hA
      clear hi'
      have q24 : bb.tmps[24]? = some _ := hf.tmp (k := 5) rfl (by rw [ha]; decide) (hA 5 (by kernel_rfl) (.inl rfl))
      have e := (hI.cell (p := ⟨g, off + k * 9 + 7, none⟩) zg).trans es
      clear p3 p2 es
      clear hA HS 
      exact Rg.zh (o := ⟨some 25, Op.load 2 (Operand.tmp 24), _, _, _, _⟩) (x := .int .i64 s) rfl rfl (by simp only [execOp]; go_simp) ⟨_, rfl, (fun h => by cases h), rfl, hI, fun _ _ _ h => h⟩
    · intro bb w' hf hI hA
      clear hi'
      have q19 : bb.tmps[19]? = some _ := hf.tmp (k := 0) rfl (by rw [ha]; decide) (hA 0 (by kernel_rfl) (.inl rfl))
      have q25 : bb.tmps[25]? = some _ := hf.tmp (k := 6) rfl (by rw [ha]; decide) (hA 6 (by kernel_rfl) (.inl rfl))
      clear p3 p2 es
      refine Rg.jy (o := ⟨some 26, Op.call { callee := Callee.value (Operand.func 83), args := #[(Operand.tmp 19), (Operand.tmp 25)], argTypes := _ }, _, _, _, _⟩) rfl rfl (by clear hA HS ; simp only [execOp, resolve]; go_simp) (zi4 x s w' hxk) ?_
      rintro e w2 ⟨rfl, hb⟩
      exact ⟨_, rfl, _, rfl, (fun h => by cases h), rfl, onto hI hb, fun k9 y9 _ h => HS hb k9 y9 h⟩
    · intro bb w' hf hI hA
      clear hi'
      have q26 : bb.tmps[26]? = some _ := hf.tmp (k := 7) rfl (by rw [ha]; decide) (hA 7 (by kernel_rfl) (.inl rfl))
      clear hA HS 
      exact Rg.zh (o := ⟨some 7, Op.assign (Operand.tmp 26), _, _, _, _⟩) (x := .int .i64 (if vk s x.k = true then x.k else 0)) rfl rfl (by simp only [execOp]; go_simp) ⟨_, rfl, (fun h => by cases h), rfl, hI, fun _ _ _ h => h⟩
theorem dS3_0 : Rg.zf (Rg.opsOf Tryd.f57 3) 0 = some 19 := by kernel_rfl
theorem dS3_1 : Rg.zf (Rg.opsOf Tryd.f57 3) 1 = some 20 := by kernel_rfl
theorem dS3_2 : Rg.zf (Rg.opsOf Tryd.f57 3) 2 = some 21 := by kernel_rfl
theorem dS3_3 : Rg.zf (Rg.opsOf Tryd.f57 3) 3 = some 22 := by kernel_rfl
theorem dS3_4 : Rg.zf (Rg.opsOf Tryd.f57 3) 4 = some 23 := by kernel_rfl
theorem dS3_5 : Rg.zf (Rg.opsOf Tryd.f57 3) 5 = some 24 := by kernel_rfl
theorem dS3_6 : Rg.zf (Rg.opsOf Tryd.f57 3) 6 = some 25 := by kernel_rfl
theorem dS3_7 : Rg.zf (Rg.opsOf Tryd.f57 3) 7 = some 26 := by kernel_rfl
theorem dS3_8 : Rg.zf (Rg.opsOf Tryd.f57 3) 8 = some 7 := by kernel_rfl
theorem layS3 {a b : Act} (hf : Rg.Fr (Rg.opsOf Tryd.f57 3) a b) : b = (((((((((a.put (some 19) (Rg.out (Rg.opsOf Tryd.f57 3) b 0)).put (some 20) (Rg.out (Rg.opsOf Tryd.f57 3) b 1)).put (some 21) (Rg.out (Rg.opsOf Tryd.f57 3) b 2)).put (some 22) (Rg.out (Rg.opsOf Tryd.f57 3) b 3)).put (some 23) (Rg.out (Rg.opsOf Tryd.f57 3) b 4)).put (some 24) (Rg.out (Rg.opsOf Tryd.f57 3) b 5)).put (some 25) (Rg.out (Rg.opsOf Tryd.f57 3) b 6)).put (some 26) (Rg.out (Rg.opsOf Tryd.f57 3) b 7)).put (some 7) (Rg.out (Rg.opsOf Tryd.f57 3) b 8)) := by
  have h := hf.chain
  rw [zcl, show List.range 9 = [0, 1, 2, 3, 4, 5, 6, 7, 8] from by decide] at h
  simp only [List.foldl_cons, List.foldl_nil, dS3_0, dS3_1, dS3_2, dS3_3, dS3_4, dS3_5, dS3_6, dS3_7, dS3_8] at h
  exact h
def FD10y (B3 B7 : Nat) (x : Dd) (o : Od) (i9 : Nat) (v : Value) (w : World) : Prop :=
  match i9 with
  | 0 => v = .agg #[.int .i64 x.k, .int .i64 x.o.id, .int .i64 x.o.p, .int .i64 x.o.d, .int .i64 x.o.n, .int .i64 x.o.f, .int .i64 x.o.e, .int .i64 x.o.c, .int .i64 x.o.s, .bool x.o.two, .int .i64 x.id, .int .i64 x.p, .int .i64 x.d, .int .i64 x.n, .int .i64 x.m, .int .i64 x.b, .int .i64 x.a]
  | 1 => v = .agg #[.int .i64 o.id, .int .i64 o.p, .int .i64 o.d, .int .i64 o.n, .int .i64 o.f, .int .i64 o.e, .int .i64 o.c, .int .i64 o.s, .bool o.two]
  | 2 => v = .pointer (some ⟨B3, 15, none⟩)
  | 3 => v = .int .i64 x.b
  | 4 => v = .pointer (some ⟨B3, 16, none⟩)
  | 5 => v = .int .i64 x.a
  | 6 => v = .bool true
  | 7 => v = .bool false
  | 8 => v = .tuple #[]
  | _ => True
theorem zcg : (Rg.opsOf Tryd.f56 10).size = 9 := by kernel_rfl
set_option maxRecDepth 20000 in
set_option maxHeartbeats 8000000 in
theorem regD10y {Q : Exit → Act → World → Prop} {a : Act} {w9 : World} {B3 B7 : Nat} {x : Dd} {o : Od} (ha : a.tmps.size = 103)
    (k3 : a.tmps[3]? = some (.pointer (some ⟨B3, 0, none⟩))) (k7 : a.tmps[7]? = some (.pointer (some ⟨B7, 0, none⟩))) (p3 : PB w9 B3 #[.int .i64 x.k, .int .i64 x.o.id, .int .i64 x.o.p, .int .i64 x.o.d, .int .i64 x.o.n, .int .i64 x.o.f, .int .i64 x.o.e, .int .i64 x.o.c, .int .i64 x.o.s, .bool x.o.two, .int .i64 x.id, .int .i64 x.p, .int .i64 x.d, .int .i64 x.n, .int .i64 x.m, .int .i64 x.b, .int .i64 x.a] 31) (p7 : PB w9 B7 #[.int .i64 o.id, .int .i64 o.p, .int .i64 o.d, .int .i64 o.n, .int .i64 o.f, .int .i64 o.e, .int .i64 o.c, .int .i64 o.s, .bool o.two] 29) (ht : zav o.two x.b x.a = true)
    (hend : ∀ b' w', Rg.Fr (Rg.opsOf Tryd.f56 10) a b' → Below w9.heap.size w9 w' → Q .normal b' w') :
    (Code.region 10 (Rg.opsOf Tryd.f56 10) true).wp Tryd.prog Q a w9 := by
  refine Rg.zae (by kernel_rfl) (fun w' => Below w9.heap.size w9 w') (FD10y B3 B7 x o) (fun _ => none) (by rw [ha, zcg]; kernel_rfl) (jg (Below.refl _ _)) ?_ ?_
  case refine_2 =>
    intro b' w' hf hI hA
    rw [zcg] at hA
    exact hend b' w' hf hI
  case refine_1 =>
    clear hend
    have HS : ∀ {w w' : World}, Below w.heap.size w w' → ∀ k9 y9, FD10y B3 B7 x o k9 y9 w → FD10y B3 B7 x o k9 y9 w' := fun hb k9 y9 h => by
      unfold FD10y at *
      split at h <;> exact h
    intro i' hi'
    rw [zcg] at hi'
    rcases (show i' = 0 ∨ i' = 1 ∨ i' = 2 ∨ i' = 3 ∨ i' = 4 ∨ i' = 5 ∨ i' = 6 ∨ i' = 7 ∨ i' = 8 by omega) with rfl | rfl | rfl | rfl | rfl | rfl | rfl | rfl | rfl
    · intro bb w' hf hI hA
      clear hi'
      have q3 := hf.kept (s := 3) (by rw [zcg]; kernel_rfl) k3
      obtain ⟨e30, ⟨e31, e32, e33, e34, e35, e36, e37, e38, e39⟩, e3a, e3b, e3c, e3d, e3e, e3f, e3g⟩ := (p3.below hI).deed
      clear p3 p7
      clear hA HS ht
      exact Rg.zh (o := ⟨some 63, Op.load 31 (Operand.tmp 3), _, _, _, _⟩) (x := .agg #[.int .i64 x.k, .int .i64 x.o.id, .int .i64 x.o.p, .int .i64 x.o.d, .int .i64 x.o.n, .int .i64 x.o.f, .int .i64 x.o.e, .int .i64 x.o.c, .int .i64 x.o.s, .bool x.o.two, .int .i64 x.id, .int .i64 x.p, .int .i64 x.d, .int .i64 x.n, .int .i64 x.m, .int .i64 x.b, .int .i64 x.a]) rfl rfl (by simp only [execOp]; go_simp) ⟨_, rfl, (fun h => by cases h), rfl, hI, fun _ _ _ h => h⟩
    · intro bb w' hf hI hA
      clear hi'
      have q7 := hf.kept (s := 7) (by rw [zcg]; kernel_rfl) k7
      obtain ⟨r0, r1, r2, r3, r4, r5, r6, r7, r8⟩ := (p7.below hI).nine
      clear p3 p7
      clear hA HS ht
      exact Rg.zh (o := ⟨some 64, Op.load 29 (Operand.tmp 7), _, _, _, _⟩) (x := .agg #[.int .i64 o.id, .int .i64 o.p, .int .i64 o.d, .int .i64 o.n, .int .i64 o.f, .int .i64 o.e, .int .i64 o.c, .int .i64 o.s, .bool o.two]) rfl rfl (by simp only [execOp]; go_simp) ⟨_, rfl, (fun h => by cases h), rfl, hI, fun _ _ _ h => h⟩
    · intro bb w' hf hI hA
      clear hi'
      have q3 := hf.kept (s := 3) (by rw [zcg]; kernel_rfl) k3
      clear hA HS ht
      exact Rg.zh (o := ⟨some 65, Op.fieldAddr 31 (Operand.tmp 3) 7, _, _, _, _⟩) (x := .pointer (some ⟨B3, 15, none⟩)) rfl rfl (by simp only [execOp]; go_simp) ⟨_, rfl, (fun h => by cases h), rfl, hI, fun _ _ _ h => h⟩
    · intro bb w' hf hI hA
      clear hi'
      have q65 : bb.tmps[65]? = some _ := hf.tmp (k := 2) rfl (by rw [ha]; decide) (hA 2 (by kernel_rfl) (.inl rfl))
      obtain ⟨e30, ⟨e31, e32, e33, e34, e35, e36, e37, e38, e39⟩, e3a, e3b, e3c, e3d, e3e, e3f, e3g⟩ := (p3.below hI).deed
      clear p3 p7
      clear hA HS ht
      exact Rg.zh (o := ⟨some 66, Op.load 2 (Operand.tmp 65), _, _, _, _⟩) (x := .int .i64 x.b) rfl rfl (by simp only [execOp]; go_simp) ⟨_, rfl, (fun h => by cases h), rfl, hI, fun _ _ _ h => h⟩
    · intro bb w' hf hI hA
      clear hi'
      have q3 := hf.kept (s := 3) (by rw [zcg]; kernel_rfl) k3
      clear hA HS ht
      exact Rg.zh (o := ⟨some 67, Op.fieldAddr 31 (Operand.tmp 3) 8, _, _, _, _⟩) (x := .pointer (some ⟨B3, 16, none⟩)) rfl rfl (by simp only [execOp]; go_simp) ⟨_, rfl, (fun h => by cases h), rfl, hI, fun _ _ _ h => h⟩
    · intro bb w' hf hI hA
      clear hi'
      have q67 : bb.tmps[67]? = some _ := hf.tmp (k := 4) rfl (by rw [ha]; decide) (hA 4 (by kernel_rfl) (.inl rfl))
      obtain ⟨e30, ⟨e31, e32, e33, e34, e35, e36, e37, e38, e39⟩, e3a, e3b, e3c, e3d, e3e, e3f, e3g⟩ := (p3.below hI).deed
      clear p3 p7
      clear hA HS ht
      exact Rg.zh (o := ⟨some 68, Op.load 2 (Operand.tmp 67), _, _, _, _⟩) (x := .int .i64 x.a) rfl rfl (by simp only [execOp]; go_simp) ⟨_, rfl, (fun h => by cases h), rfl, hI, fun _ _ _ h => h⟩
    · intro bb w' hf hI hA
      clear hi'
      have q64 : bb.tmps[64]? = some _ := hf.tmp (k := 1) rfl (by rw [ha]; decide) (hA 1 (by kernel_rfl) (.inl rfl))
      have q66 : bb.tmps[66]? = some _ := hf.tmp (k := 3) rfl (by rw [ha]; decide) (hA 3 (by kernel_rfl) (.inl rfl))
      have q68 : bb.tmps[68]? = some _ := hf.tmp (k := 5) rfl (by rw [ha]; decide) (hA 5 (by kernel_rfl) (.inl rfl))
      clear p3 p7
      refine Rg.jy (o := ⟨some 69, Op.call { callee := Callee.value (Operand.func 81), args := #[(Operand.tmp 64), (Operand.tmp 66), (Operand.tmp 68)], argTypes := _ }, _, _, _, _⟩) rfl rfl (by clear hA HS ht; simp only [execOp, resolve]; go_simp) (zhg o x.b x.a w' ht) ?_
      rintro e w2 ⟨rfl, hb⟩
      exact ⟨_, rfl, _, rfl, (fun h => by cases h), rfl, onto hI hb, fun k9 y9 _ h => HS hb k9 y9 h⟩
    · intro bb w' hf hI hA
      clear hi'
      have q69 : bb.tmps[69]? = some _ := hf.tmp (k := 6) rfl (by rw [ha]; decide) (hA 6 (by kernel_rfl) (.inl rfl))
      clear hA HS ht
      exact Rg.zh (o := ⟨some 70, Op.unOp UnOp.not 4 (Operand.tmp 69), _, _, _, _⟩) (x := .bool false) rfl rfl (by simp only [execOp]; go_simp) ⟨_, rfl, (fun h => by cases h), rfl, hI, fun _ _ _ h => h⟩
    · intro bb w' hf hI hA
      clear hi'
      have q63 : bb.tmps[63]? = some _ := hf.tmp (k := 0) rfl (by rw [ha]; decide) (hA 0 (by kernel_rfl) (.inl rfl))
      have q70 : bb.tmps[70]? = some _ := hf.tmp (k := 7) rfl (by rw [ha]; decide) (hA 7 (by kernel_rfl) (.inl rfl))
      clear p3 p7
      refine Rg.jy (o := ⟨some 71, Op.call { callee := Callee.value (Operand.func 53), args := #[(Operand.tmp 63), (Operand.tmp 70), (Operand.const (Value.int .i64 10))], argTypes := _ }, _, _, _, _⟩) rfl rfl (by clear hA HS ht; simp only [execOp, resolve]; go_simp) (zbl x 10 w') ?_
      rintro e w2 ⟨rfl, hb⟩
      exact ⟨_, rfl, _, rfl, (fun h => by cases h), rfl, onto hI hb, fun k9 y9 _ h => HS hb k9 y9 h⟩
theorem dD10y_0 : Rg.zf (Rg.opsOf Tryd.f56 10) 0 = some 63 := by kernel_rfl
theorem dD10y_1 : Rg.zf (Rg.opsOf Tryd.f56 10) 1 = some 64 := by kernel_rfl
theorem dD10y_2 : Rg.zf (Rg.opsOf Tryd.f56 10) 2 = some 65 := by kernel_rfl
theorem dD10y_3 : Rg.zf (Rg.opsOf Tryd.f56 10) 3 = some 66 := by kernel_rfl
theorem dD10y_4 : Rg.zf (Rg.opsOf Tryd.f56 10) 4 = some 67 := by kernel_rfl
theorem dD10y_5 : Rg.zf (Rg.opsOf Tryd.f56 10) 5 = some 68 := by kernel_rfl
theorem dD10y_6 : Rg.zf (Rg.opsOf Tryd.f56 10) 6 = some 69 := by kernel_rfl
theorem dD10y_7 : Rg.zf (Rg.opsOf Tryd.f56 10) 7 = some 70 := by kernel_rfl
theorem dD10y_8 : Rg.zf (Rg.opsOf Tryd.f56 10) 8 = some 71 := by kernel_rfl
theorem layD10y {a b : Act} (hf : Rg.Fr (Rg.opsOf Tryd.f56 10) a b) : b = (((((((((a.put (some 63) (Rg.out (Rg.opsOf Tryd.f56 10) b 0)).put (some 64) (Rg.out (Rg.opsOf Tryd.f56 10) b 1)).put (some 65) (Rg.out (Rg.opsOf Tryd.f56 10) b 2)).put (some 66) (Rg.out (Rg.opsOf Tryd.f56 10) b 3)).put (some 67) (Rg.out (Rg.opsOf Tryd.f56 10) b 4)).put (some 68) (Rg.out (Rg.opsOf Tryd.f56 10) b 5)).put (some 69) (Rg.out (Rg.opsOf Tryd.f56 10) b 6)).put (some 70) (Rg.out (Rg.opsOf Tryd.f56 10) b 7)).put (some 71) (Rg.out (Rg.opsOf Tryd.f56 10) b 8)) := by
  have h := hf.chain
  rw [zcg, show List.range 9 = [0, 1, 2, 3, 4, 5, 6, 7, 8] from by decide] at h
  simp only [List.foldl_cons, List.foldl_nil, dD10y_0, dD10y_1, dD10y_2, dD10y_3, dD10y_4, dD10y_5, dD10y_6, dD10y_7, dD10y_8] at h
  exact h
theorem sizeD10n : (Rg.opsOf Tryd.f56 10).size = 9 := by kernel_rfl
theorem dD10n_0 : Rg.zf (Rg.opsOf Tryd.f56 10) 0 = some 63 := by kernel_rfl
theorem dD10n_1 : Rg.zf (Rg.opsOf Tryd.f56 10) 1 = some 64 := by kernel_rfl
theorem dD10n_2 : Rg.zf (Rg.opsOf Tryd.f56 10) 2 = some 65 := by kernel_rfl
theorem dD10n_3 : Rg.zf (Rg.opsOf Tryd.f56 10) 3 = some 66 := by kernel_rfl
theorem dD10n_4 : Rg.zf (Rg.opsOf Tryd.f56 10) 4 = some 67 := by kernel_rfl
theorem dD10n_5 : Rg.zf (Rg.opsOf Tryd.f56 10) 5 = some 68 := by kernel_rfl
theorem dD10n_6 : Rg.zf (Rg.opsOf Tryd.f56 10) 6 = some 69 := by kernel_rfl
theorem dD10n_7 : Rg.zf (Rg.opsOf Tryd.f56 10) 7 = some 70 := by kernel_rfl
theorem dD10n_8 : Rg.zf (Rg.opsOf Tryd.f56 10) 8 = some 71 := by kernel_rfl
theorem layD10n {a b : Act} (hf : Rg.Fr (Rg.opsOf Tryd.f56 10) a b) : b = (((((((((a.put (some 63) (Rg.out (Rg.opsOf Tryd.f56 10) b 0)).put (some 64) (Rg.out (Rg.opsOf Tryd.f56 10) b 1)).put (some 65) (Rg.out (Rg.opsOf Tryd.f56 10) b 2)).put (some 66) (Rg.out (Rg.opsOf Tryd.f56 10) b 3)).put (some 67) (Rg.out (Rg.opsOf Tryd.f56 10) b 4)).put (some 68) (Rg.out (Rg.opsOf Tryd.f56 10) b 5)).put (some 69) (Rg.out (Rg.opsOf Tryd.f56 10) b 6)).put (some 70) (Rg.out (Rg.opsOf Tryd.f56 10) b 7)).put (some 71) (Rg.out (Rg.opsOf Tryd.f56 10) b 8)) := by
  have h := hf.chain
  rw [sizeD10n, show List.range 9 = [0, 1, 2, 3, 4, 5, 6, 7, 8] from by decide] at h
  simp only [List.foldl_cons, List.foldl_nil, dD10n_0, dD10n_1, dD10n_2, dD10n_3, dD10n_4, dD10n_5, dD10n_6, dD10n_7, dD10n_8] at h
  exact h
def FD11y (B3 B2 : Nat) (x : Dd) (ad : Option Addr) (dcap : Nat) (ds : List Ds) (vo : Value) (i9 : Nat) (v : Value) (w : World) : Prop :=
  match i9 with
  | 0 => v = .agg #[.int .i64 x.k, .int .i64 x.o.id, .int .i64 x.o.p, .int .i64 x.o.d, .int .i64 x.o.n, .int .i64 x.o.f, .int .i64 x.o.e, .int .i64 x.o.c, .int .i64 x.o.s, .bool x.o.two, .int .i64 x.id, .int .i64 x.p, .int .i64 x.d, .int .i64 x.n, .int .i64 x.m, .int .i64 x.b, .int .i64 x.a]
  | 1 => v = .agg #[vo, .slice ad ds.length dcap]
  | 2 => v = .pointer (some ⟨B3, 14, none⟩)
  | 3 => v = .int .i64 x.m
  | 4 => v = .bool false
  | 5 => v = .tuple #[]
  | _ => True
theorem zcq : (Rg.opsOf Tryd.f56 11).size = 6 := by kernel_rfl
set_option maxRecDepth 20000 in
set_option maxHeartbeats 8000000 in
theorem regD11y {Q : Exit → Act → World → Prop} {a : Act} {w9 : World} {B3 B2 : Nat} {x : Dd} {ad : Option Addr} {dcap : Nat} {ds : List Ds} {vo : Value} (ha : a.tmps.size = 103)
    (k3 : a.tmps[3]? = some (.pointer (some ⟨B3, 0, none⟩))) (k2 : a.tmps[2]? = some (.pointer (some ⟨B2, 0, none⟩))) (p3 : PB w9 B3 #[.int .i64 x.k, .int .i64 x.o.id, .int .i64 x.o.p, .int .i64 x.o.d, .int .i64 x.o.n, .int .i64 x.o.f, .int .i64 x.o.e, .int .i64 x.o.c, .int .i64 x.o.s, .bool x.o.two, .int .i64 x.id, .int .i64 x.p, .int .i64 x.d, .int .i64 x.n, .int .i64 x.m, .int .i64 x.b, .int .i64 x.a] 31) (p2 : PB w9 B2 #[vo, .slice ad ds.length dcap] 27) (hd : VRw 5 jk w9 (.slice ad ds.length dcap) ds) (hm : ds.length ≤ 1048576) (ho1 : ∃ a n c, vo = .slice a n c) (ht : za2 ds x.m = false)
    (hend : ∀ b' w', Rg.Fr (Rg.opsOf Tryd.f56 11) a b' → Below w9.heap.size w9 w' → Q .normal b' w') :
    (Code.region 11 (Rg.opsOf Tryd.f56 11) true).wp Tryd.prog Q a w9 := by
  refine Rg.zae (by kernel_rfl) (fun w' => Below w9.heap.size w9 w') (FD11y B3 B2 x ad dcap ds vo) (fun _ => none) (by rw [ha, zcq]; kernel_rfl) (jg (Below.refl _ _)) ?_ ?_
  case refine_2 =>
    intro b' w' hf hI hA
    rw [zcq] at hA
    exact hend b' w' hf hI
  case refine_1 =>
    clear hend
    have HS : ∀ {w w' : World}, Below w.heap.size w w' → ∀ k9 y9, FD11y B3 B2 x ad dcap ds vo k9 y9 w → FD11y B3 B2 x ad dcap ds vo k9 y9 w' := fun hb k9 y9 h => by
      unfold FD11y at *
      split at h <;> exact h
    intro i' hi'
    rw [zcq] at hi'
    rcases (show i' = 0 ∨ i' = 1 ∨ i' = 2 ∨ i' = 3 ∨ i' = 4 ∨ i' = 5 by omega) with rfl | rfl | rfl | rfl | rfl | rfl
    · intro bb w' hf hI hA
      clear hi'
      have q3 := hf.kept (s := 3) (by rw [zcq]; kernel_rfl) k3
      obtain ⟨e30, ⟨e31, e32, e33, e34, e35, e36, e37, e38, e39⟩, e3a, e3b, e3c, e3d, e3e, e3f, e3g⟩ := (p3.below hI).deed
      clear p3 p2 hd
      clear hA HS ht
      exact Rg.zh (o := ⟨some 72, Op.load 31 (Operand.tmp 3), _, _, _, _⟩) (x := .agg #[.int .i64 x.k, .int .i64 x.o.id, .int .i64 x.o.p, .int .i64 x.o.d, .int .i64 x.o.n, .int .i64 x.o.f, .int .i64 x.o.e, .int .i64 x.o.c, .int .i64 x.o.s, .bool x.o.two, .int .i64 x.id, .int .i64 x.p, .int .i64 x.d, .int .i64 x.n, .int .i64 x.m, .int .i64 x.b, .int .i64 x.a]) rfl rfl (by simp only [execOp]; go_simp) ⟨_, rfl, (fun h => by cases h), rfl, hI, fun _ _ _ h => h⟩
    · intro bb w' hf hI hA
      clear hi'
      have q2 := hf.kept (s := 2) (by rw [zcq]; kernel_rfl) k2
      have e0 : w'.cell? ⟨B2, 0, none⟩ = some vo := (p2.below hI).cell 0
      have e1 : w'.cell? ⟨B2, 1, none⟩ = some (.slice ad ds.length dcap) := (p2.below hI).cell 1
      clear p3 p2 hd
      clear hA HS ht
      exact Rg.zh (o := ⟨some 73, Op.load 27 (Operand.tmp 2), _, _, _, _⟩) (x := .agg #[vo, .slice ad ds.length dcap]) rfl rfl (by simp only [execOp]; go_simp) ⟨_, rfl, (fun h => by cases h), rfl, hI, fun _ _ _ h => h⟩
    · intro bb w' hf hI hA
      clear hi'
      have q3 := hf.kept (s := 3) (by rw [zcq]; kernel_rfl) k3
      clear hA HS ht
      exact Rg.zh (o := ⟨some 74, Op.fieldAddr 31 (Operand.tmp 3) 6, _, _, _, _⟩) (x := .pointer (some ⟨B3, 14, none⟩)) rfl rfl (by simp only [execOp]; go_simp) ⟨_, rfl, (fun h => by cases h), rfl, hI, fun _ _ _ h => h⟩
    · intro bb w' hf hI hA
      clear hi'
      have q74 : bb.tmps[74]? = some _ := hf.tmp (k := 2) rfl (by rw [ha]; decide) (hA 2 (by kernel_rfl) (.inl rfl))
      obtain ⟨e30, ⟨e31, e32, e33, e34, e35, e36, e37, e38, e39⟩, e3a, e3b, e3c, e3d, e3e, e3f, e3g⟩ := (p3.below hI).deed
      clear p3 p2 hd
      clear hA HS ht
      exact Rg.zh (o := ⟨some 75, Op.load 2 (Operand.tmp 74), _, _, _, _⟩) (x := .int .i64 x.m) rfl rfl (by simp only [execOp]; go_simp) ⟨_, rfl, (fun h => by cases h), rfl, hI, fun _ _ _ h => h⟩
    · intro bb w' hf hI hA
      clear hi'
      have q73 : bb.tmps[73]? = some _ := hf.tmp (k := 1) rfl (by rw [ha]; decide) (hA 1 (by kernel_rfl) (.inl rfl))
      have q75 : bb.tmps[75]? = some _ := hf.tmp (k := 3) rfl (by rw [ha]; decide) (hA 3 (by kernel_rfl) (.inl rfl))
      have hd2 := hd.below hI
      clear p3 p2 hd
      refine Rg.jy (o := ⟨some 76, Op.call { callee := Callee.value (Operand.func 82), args := #[(Operand.tmp 73), (Operand.tmp 75)], argTypes := _ }, _, _, _, _⟩) rfl rfl (by clear hA HS ht; simp only [execOp, resolve]; go_simp) (zg8 vo ad dcap ds x.m w' hd2 hm ho1 ht) ?_
      rintro e w2 ⟨rfl, hb⟩
      exact ⟨_, rfl, _, rfl, (fun h => by cases h), rfl, onto hI hb, fun k9 y9 _ h => HS hb k9 y9 h⟩
    · intro bb w' hf hI hA
      clear hi'
      have q72 : bb.tmps[72]? = some _ := hf.tmp (k := 0) rfl (by rw [ha]; decide) (hA 0 (by kernel_rfl) (.inl rfl))
      have q76 : bb.tmps[76]? = some _ := hf.tmp (k := 4) rfl (by rw [ha]; decide) (hA 4 (by kernel_rfl) (.inl rfl))
      clear p3 p2 hd
      refine Rg.jy (o := ⟨some 77, Op.call { callee := Callee.value (Operand.func 53), args := #[(Operand.tmp 72), (Operand.tmp 76), (Operand.const (Value.int .i64 11))], argTypes := _ }, _, _, _, _⟩) rfl rfl (by clear hA HS ht; simp only [execOp, resolve]; go_simp) (zbl x 11 w') ?_
      rintro e w2 ⟨rfl, hb⟩
      exact ⟨_, rfl, _, rfl, (fun h => by cases h), rfl, onto hI hb, fun k9 y9 _ h => HS hb k9 y9 h⟩
theorem dD11y_0 : Rg.zf (Rg.opsOf Tryd.f56 11) 0 = some 72 := by kernel_rfl
theorem dD11y_1 : Rg.zf (Rg.opsOf Tryd.f56 11) 1 = some 73 := by kernel_rfl
theorem dD11y_2 : Rg.zf (Rg.opsOf Tryd.f56 11) 2 = some 74 := by kernel_rfl
theorem dD11y_3 : Rg.zf (Rg.opsOf Tryd.f56 11) 3 = some 75 := by kernel_rfl
theorem dD11y_4 : Rg.zf (Rg.opsOf Tryd.f56 11) 4 = some 76 := by kernel_rfl
theorem dD11y_5 : Rg.zf (Rg.opsOf Tryd.f56 11) 5 = some 77 := by kernel_rfl
theorem layD11y {a b : Act} (hf : Rg.Fr (Rg.opsOf Tryd.f56 11) a b) : b = ((((((a.put (some 72) (Rg.out (Rg.opsOf Tryd.f56 11) b 0)).put (some 73) (Rg.out (Rg.opsOf Tryd.f56 11) b 1)).put (some 74) (Rg.out (Rg.opsOf Tryd.f56 11) b 2)).put (some 75) (Rg.out (Rg.opsOf Tryd.f56 11) b 3)).put (some 76) (Rg.out (Rg.opsOf Tryd.f56 11) b 4)).put (some 77) (Rg.out (Rg.opsOf Tryd.f56 11) b 5)) := by
  have h := hf.chain
  rw [zcq, show List.range 6 = [0, 1, 2, 3, 4, 5] from by decide] at h
  simp only [List.foldl_cons, List.foldl_nil, dD11y_0, dD11y_1, dD11y_2, dD11y_3, dD11y_4, dD11y_5] at h
  exact h
theorem sizeD11n : (Rg.opsOf Tryd.f56 11).size = 6 := by kernel_rfl
theorem dD11n_0 : Rg.zf (Rg.opsOf Tryd.f56 11) 0 = some 72 := by kernel_rfl
theorem dD11n_1 : Rg.zf (Rg.opsOf Tryd.f56 11) 1 = some 73 := by kernel_rfl
theorem dD11n_2 : Rg.zf (Rg.opsOf Tryd.f56 11) 2 = some 74 := by kernel_rfl
theorem dD11n_3 : Rg.zf (Rg.opsOf Tryd.f56 11) 3 = some 75 := by kernel_rfl
theorem dD11n_4 : Rg.zf (Rg.opsOf Tryd.f56 11) 4 = some 76 := by kernel_rfl
theorem dD11n_5 : Rg.zf (Rg.opsOf Tryd.f56 11) 5 = some 77 := by kernel_rfl
theorem layD11n {a b : Act} (hf : Rg.Fr (Rg.opsOf Tryd.f56 11) a b) : b = ((((((a.put (some 72) (Rg.out (Rg.opsOf Tryd.f56 11) b 0)).put (some 73) (Rg.out (Rg.opsOf Tryd.f56 11) b 1)).put (some 74) (Rg.out (Rg.opsOf Tryd.f56 11) b 2)).put (some 75) (Rg.out (Rg.opsOf Tryd.f56 11) b 3)).put (some 76) (Rg.out (Rg.opsOf Tryd.f56 11) b 4)).put (some 77) (Rg.out (Rg.opsOf Tryd.f56 11) b 5)) := by
  have h := hf.chain
  rw [sizeD11n, show List.range 6 = [0, 1, 2, 3, 4, 5] from by decide] at h
  simp only [List.foldl_cons, List.foldl_nil, dD11n_0, dD11n_1, dD11n_2, dD11n_3, dD11n_4, dD11n_5] at h
  exact h
end Go.Proofs.YtmcekefoedgboaaDoor
