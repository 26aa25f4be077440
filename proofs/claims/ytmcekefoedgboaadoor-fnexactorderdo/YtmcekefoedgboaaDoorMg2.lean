/-
  Merged: Ui Up U1 Gx Gy U5 U6.
-/
import Derived.Test.YtmcekefoedgboaaDoorMg1
import Derived.Deep.RegionWith
import Derived.WideShapes
import Derived.ProofKit
import Derived.OpenShut
import Derived.ShutString
import Derived.ChangeOld
import Derived.Below
import Derived.Deep.LoopGhost
import Derived.WalkMore
namespace Go.Proofs.YtmcekefoedgboaaDoor
open Go.RowKit Va Ua
set_option linter.all false
theorem info_parts {P : Program} {t : TypeId} {z : Value} {n b : Nat} (h : (P.info? t).map (fun i => (i.zero, i.size, i.bytes)) = some (some z, n, b)) : ∃ i, P.info? t = some i ∧ i.zero = some z ∧ i.size = n ∧ i.bytes = b := by
  obtain ⟨i, h1, h2⟩ := Option.map_eq_some_iff.1 h
  simp only [Prod.mk.injEq] at h2
  exact ⟨i, h1, h2.1, h2.2.1, h2.2.2⟩
theorem yh {α : Type} (l : List α) (i : Nat) (h : i < l.length) : ∃ x, l[i]? = some x := ⟨_, List.getElem?_eq_getElem h⟩
end Go.Proofs.YtmcekefoedgboaaDoor

namespace Go.Proofs.YtmcekefoedgboaaDoor
open Go.RowKit Va Uo
set_option linter.all false
def jb (x : Od) (k : Nat) : Value := match k with | 0 => .int .i64 x.id | 1 => .int .i64 x.p | 2 => .int .i64 x.d | 3 => .int .i64 x.n | 4 => .int .i64 x.f | 5 => .int .i64 x.e | 6 => .int .i64 x.c | 7 => .int .i64 x.s | _ => .bool x.two
def aOd (x : Od) : Value := .agg #[.int .i64 x.id, .int .i64 x.p, .int .i64 x.d, .int .i64 x.n, .int .i64 x.f, .int .i64 x.e, .int .i64 x.c, .int .i64 x.s, .bool x.two]
def jk (x : Ds) (k : Nat) : Value := match k with | 0 => .int .i64 x.o | 1 => .int .i64 x.t | 2 => .int .i64 x.m | 3 => .int .i64 x.b | _ => .int .i64 x.a
def aDs (x : Ds) : Value := .agg #[.int .i64 x.o, .int .i64 x.t, .int .i64 x.m, .int .i64 x.b, .int .i64 x.a]
def je (x : Du) (k : Nat) : Value := match k with | 0 => .int .i64 x.o | 1 => .int .i64 x.t | _ => .int .i64 x.s
end Go.Proofs.YtmcekefoedgboaaDoor

namespace Go.Proofs.YtmcekefoedgboaaDoor.Uo
open Va
set_option linter.all false
def zav (two : Bool) (b a : Int) : Bool := if two = false then zk b && decide (a = -1) else zk b && (zk a && !decide (b = a))
def jd (o : Od) (d : Ds) : Bool := (decide (0 ≤ d.t) && decide (d.t < o.c)) && (!decide (o.s = 1) && (zn d.m && zav o.two d.b d.a))
def Ris (os : List Od) : Prop := ∀ (i j : Nat) (x y : Od), i < j → os[i]? = some x → os[j]? = some y → x.id < y.id
def Cut (os : List Od) (id : Int) (k : Nat) : Prop := k ≤ os.length ∧ (∀ (j : Nat) (x : Od), j < k → os[j]? = some x → x.id < id) ∧ ∀ (j : Nat) (x : Od), k ≤ j → os[j]? = some x → id ≤ x.id
def qi (os : List Od) (id : Int) (k : Nat) : Bool := decide (k < os.length) && decide ((os.getD k default).id = id)
theorem zeg {os : List Od} (h : ∀ i, i < os.length → ql os i = true) : Ris os := by
  have step : ∀ i x y, os[i]? = some x → os[i + 1]? = some y → x.id < y.id := by
    intro i x y hx hy
    have hl := (List.getElem?_eq_some_iff.1 hy).1
    have := h (i + 1) hl
    simp only [ql, Bool.and_eq_true, Bool.or_eq_true, decide_eq_true_eq, Nat.add_sub_cancel, qh hx, qh hy] at this
    omega
  have : ∀ d i x y, os[i]? = some x → os[i + 1 + d]? = some y → x.id < y.id := by
    intro d
    induction d with
    | zero => intro i x y hx hy; exact step i x y hx hy
    | succ d ih =>
      intro i x y hx hy
      have hl := (List.getElem?_eq_some_iff.1 hy).1
      obtain ⟨z, hz⟩ : ∃ z, os[i + 1 + d]? = some z := ⟨_, List.getElem?_eq_getElem (by omega)⟩
      have h1 := ih i x z hx hz
      have h2 := step (i + 1 + d) z y hz hy
      omega
  intro i j x y hij hx hy
  exact this (j - (i + 1)) i x y hx (by rw [show i + 1 + (j - (i + 1)) = j by omega]; exact hy)
theorem ze0 {l : List Od} {id : Int} : ∀ n, n ≤ l.length → (∀ j x, j < n → l[j]? = some x → x.id ≠ id) → yj l id n = -1
  | 0, _, _ => rfl
  | n + 1, hn, h => by
    have ih := ze0 n (by omega) (fun j x hj hx => h j x (by omega) hx)
    obtain ⟨x, hx⟩ : ∃ x, l[n]? = some x := ⟨_, List.getElem?_eq_getElem (by omega)⟩
    exact zfw hx ih (h n x (by omega) hx)
theorem zbw {os : List Od} {id : Int} {k : Nat} (hr : Ris os) (hc : Cut os id k) (h : qi os id k = true) : atO os id = (k : Int) ∧ ∃ o, os[k]? = some o ∧ o.id = id := by
  simp only [qi, Bool.and_eq_true, decide_eq_true_eq] at h
  obtain ⟨x, hx⟩ : ∃ x, os[k]? = some x := ⟨_, List.getElem?_eq_getElem h.1⟩
  have hid : x.id = id := by rw [← h.2, qh hx]
  refine ⟨zhn hx (ze0 k (by omega) (fun j y hj hy => ?_)) hid, x, hx, hid⟩
  have := hc.2.1 j y hj hy
  omega
theorem zc8 {os : List Od} {id : Int} {k : Nat} (hr : Ris os) (hc : Cut os id k) (h : qi os id k = false) : atO os id = -1 := by
  refine ze0 os.length (Nat.le_refl _) (fun j y hj hy he => ?_)
  by_cases q : j < k
  · have := hc.2.1 j y q hy; omega
  · have hle := hc.2.2 j y (by omega) hy
    by_cases e : j = k
    · subst e
      rw [qi, qh hy, decide_eq_true hj, decide_eq_true he] at h
      cases h
    · obtain ⟨z, hz⟩ : ∃ z, os[k]? = some z := ⟨_, List.getElem?_eq_getElem (by omega)⟩
      have h1 := hr k j z y (by omega) hz hy
      have h2 := hc.2.2 k z (Nat.le_refl _) hz
      omega
theorem haveB_eq {os : List Od} {ds : List Ds} {i k : Nat} {d : Ds} {o : Od} (hd : ds[i]? = some d) (hk : atO os d.o = (k : Int)) (ho : os[k]? = some o) : yc os ds i = (jd o d && (decide (i = 0) || decide ((ds.getD (i - 1) default).m ≤ d.m))) := by
  unfold yc
  simp only
  rw [zbm hd, hk, show ((k : Int).toNat) = k from rfl, qh ho]
  have e0 : decide ((0 : Int) ≤ (k : Int)) = true := by simp
  rw [e0]
  generalize (decide (i = 0) || decide ((ds.getD (i - 1) default).m ≤ d.m)) = z
  unfold jd zav byB
  have er : rng d.t 0 (o.c - 1) = (decide (0 ≤ d.t) && decide (d.t < o.c)) := by
    unfold rng
    congr 1
    by_cases h : d.t < o.c
    · rw [decide_eq_true h, decide_eq_true (by omega)]
    · rw [decide_eq_false h, decide_eq_false (by omega)]
  have es : decide (¬ o.s = 1) = !decide (o.s = 1) := by by_cases h : o.s = 1 <;> simp [h]
  rw [er, es]
  have hp : zk (-1) = false := by decide
  cases o.two with
  | false =>
    by_cases ha : d.a = -1
    · rw [ha]
      simp only [decide_true, if_true, Bool.true_and, Bool.and_true, Bool.true_or]
      cases (decide (0 ≤ d.t) && decide (d.t < o.c)) <;> cases decide (o.s = 1) <;> cases zn d.m <;> cases zk d.b <;> cases z <;> rfl
    · simp only [ha, decide_false, if_true, Bool.true_and, Bool.and_false, Bool.false_or, Bool.false_and]
  | true =>
    simp only [Bool.true_eq_false, if_false, Bool.true_and]
    by_cases ha : d.a = -1
    · rw [ha, hp]
      simp only [not_true, decide_false, Bool.false_and, Bool.and_false]
    · by_cases hb : d.a = d.b
      · rw [hb]
        simp only [not_true, decide_false, decide_true, Bool.not_true, Bool.and_false, Bool.false_and]
      · have hb' : ¬ d.b = d.a := fun e => hb e.symm
        simp only [ha, hb, hb', not_false_eq_true, decide_true, decide_false, Bool.false_or, Bool.not_false, Bool.and_true, Bool.true_and]
        cases (decide (0 ≤ d.t) && decide (d.t < o.c)) <;> cases decide (o.s = 1) <;> cases zn d.m <;> cases zk d.b <;> cases zk d.a <;> cases z <;> rfl
def apartB (ds : List Ds) : Bool := (List.range ds.length).all fun i => (List.range i).all fun j => !zbf ds i j
theorem chart_eq (os : List Od) (ds : List Ds) : jr os ds = (decide (os.length ≤ 100 ∧ ds.length ≤ 500) && ((List.range os.length).all (ql os) && ((List.range ds.length).all (yc os ds) && apartB ds))) := by
  unfold jr apartB
  congr 2
  rw [Bool.eq_iff_iff]
  simp only [okD, Bool.and_eq_true, List.all_eq_true, List.mem_range]
  constructor
  · intro h; exact ⟨fun i hi => (h i hi).1, fun i hi => (h i hi).2⟩
  · intro h i hi; exact ⟨h.1 i hi, h.2 i hi⟩
end Go.Proofs.YtmcekefoedgboaaDoor.Uo

namespace Go.Proofs.YtmcekefoedgboaaDoor
open Go.RowKit Va
set_option linter.unusedVariables false
def PB (W : World) (B : Nat) (vs : Array Value) (t : TypeId) : Prop := W.heap[B]? = some (.cells vs t)
section
variable {W W' : World} {B b : Nat} {vs : Array Value} {t : TypeId}
theorem PB.below (h : PB W B vs t) (hb : Below W.heap.size W W') : PB W' B vs t := (hb.block B (Array.getElem?_eq_some_iff.1 h).1).trans h
theorem PB.lt (h : PB W B vs t) : B < W.heap.size := (Array.getElem?_eq_some_iff.1 h).1
theorem PB.cell (h : PB W B vs t) (j : Nat) : W.cell? ⟨B, j, none⟩ = vs[j]? := by
  unfold PB at h
  simp only [World.cell?, h]
  rfl
theorem PB.frozen (h : PB W B vs t) (j : Nat) : W.frozen? ⟨B, j, none⟩ = false := by
  unfold PB at h
  simp only [World.frozen?, h]
  simp
theorem PB.new (W : World) (vs : Array Value) (t : TypeId) : PB (W.alloc (.cells vs t)) W.heap.size vs t := heap_alloc_new _ _
theorem PB.alloc (h : PB W B vs t) (o : Obj) : PB (W.alloc o) B vs t := h.below ((Below.refl _ _).alloc (Nat.le_refl _) o)
theorem PB.set (h : PB W B vs t) (j : Nat) (v : Value) : PB (W.setCell ⟨B, j, none⟩ v) B (vs.setIfInBounds j v) t := by
  unfold PB at *
  simp only [World.setCell, Array.getElem?_modify]
  rw [if_pos trivial, h]
  rfl
theorem PB.far (h : PB W B vs t) (hb : b ≠ B) (j : Nat) (v : Value) : PB (W.setCell ⟨b, j, none⟩ v) B vs t := by
  unfold PB at *
  rw [Below.heap_setCell _ _ _ _ (by show B ≠ b; omega)]
  exact h
theorem PB.drewN (h : PB W B vs t) (n : Nat) : PB (W.drewN n) B vs t := h
end
theorem PB.two {W : World} {B : Nat} {t : TypeId} {v0 v1 : Value} (h : PB W B #[v0, v1] t) : W.cell? ⟨B, 0, none⟩ = some v0 ∧ W.cell? ⟨B, 1, none⟩ = some v1 := ⟨h.cell 0, h.cell 1⟩
theorem PB.put {W : World} {B : Nat} {vs : Array Value} {t : TypeId} (h : PB W B vs t) (j : Nat) (v : Value) {vs' : Array Value} (e : vs.setIfInBounds j v = vs') : PB (W.setCell ⟨B, j, none⟩ v) B vs' t := e ▸ h.set j v
theorem PB.three {W : World} {B : Nat} {t : TypeId} {v0 v1 v2 : Value} (h : PB W B #[v0, v1, v2] t) : W.cell? ⟨B, 0, none⟩ = some v0 ∧ W.cell? ⟨B, 1, none⟩ = some v1 ∧ W.cell? ⟨B, 2, none⟩ = some v2 := ⟨h.cell 0, h.cell 1, h.cell 2⟩
end Go.Proofs.YtmcekefoedgboaaDoor

namespace Go.Proofs.YtmcekefoedgboaaDoor
open Go.RowKit
set_option linter.all false
theorem qj {a b : Bool} (h : a = b) : Ending.returned (.bool a) = .returned (.bool b) := by rw [h]
theorem PB.nine {W : World} {B : Nat} {t : TypeId} {v0 v1 v2 v3 v4 v5 v6 v7 v8 : Value} (h : PB W B #[v0, v1, v2, v3, v4, v5, v6, v7, v8] t) :
    W.cell? ⟨B, 0, none⟩ = some v0 ∧ W.cell? ⟨B, 1, none⟩ = some v1 ∧ W.cell? ⟨B, 2, none⟩ = some v2 ∧ W.cell? ⟨B, 3, none⟩ = some v3 ∧ W.cell? ⟨B, 4, none⟩ = some v4 ∧ W.cell? ⟨B, 5, none⟩ = some v5 ∧ W.cell? ⟨B, 6, none⟩ = some v6 ∧ W.cell? ⟨B, 7, none⟩ = some v7 ∧ W.cell? ⟨B, 8, none⟩ = some v8 :=
  ⟨h.cell 0, h.cell 1, h.cell 2, h.cell 3, h.cell 4, h.cell 5, h.cell 6, h.cell 7, h.cell 8⟩
theorem PB.five {W : World} {B : Nat} {t : TypeId} {v0 v1 v2 v3 v4 : Value} (h : PB W B #[v0, v1, v2, v3, v4] t) :
    W.cell? ⟨B, 0, none⟩ = some v0 ∧ W.cell? ⟨B, 1, none⟩ = some v1 ∧ W.cell? ⟨B, 2, none⟩ = some v2 ∧ W.cell? ⟨B, 3, none⟩ = some v3 ∧ W.cell? ⟨B, 4, none⟩ = some v4 :=
  ⟨h.cell 0, h.cell 1, h.cell 2, h.cell 3, h.cell 4⟩
end Go.Proofs.YtmcekefoedgboaaDoor

namespace Go.Proofs.YtmcekefoedgboaaDoor
open Go.RowKit Va Uo
set_option linter.all false
set_option maxHeartbeats 400000 in
theorem zde (x : Int) (w : World) : Calls Tryd.prog 75 #[.int .i64 x] w fun e w' => e = .returned (.bool (rng x 0 999)) ∧ w = w' := by
  unfold rng
  go_enter Tryd.func75, Tryd.ntmps75
  go_wp2
  all_goals (go_ret; exact ⟨qj (by first | (simp; done) | (simp; omega) | (simp_all; done) | (simp_all; omega) | (rw [Bool.eq_iff_iff]; simp; omega) | (rw [Bool.eq_iff_iff]; simp_all; omega)), rfl⟩)
set_option maxHeartbeats 400000 in
theorem zgt (x : Int) (w : World) : Calls Tryd.prog 74 #[.int .i64 x] w fun e w' => e = .returned (.bool (rng x 1 100000)) ∧ w = w' := by
  unfold rng
  go_enter Tryd.func74, Tryd.ntmps74
  go_wp2
  all_goals (go_ret; exact ⟨qj (by first | (simp; done) | (simp; omega) | (simp_all; done) | (simp_all; omega) | (rw [Bool.eq_iff_iff]; simp; omega) | (rw [Bool.eq_iff_iff]; simp_all; omega)), rfl⟩)
set_option maxHeartbeats 400000 in
theorem zg9 (x : Int) (w : World) : Calls Tryd.prog 76 #[.int .i64 x] w fun e w' => e = .returned (.bool (rng x 1 1000)) ∧ w = w' := by
  unfold rng
  go_enter Tryd.func76, Tryd.ntmps76
  go_wp2
  all_goals (go_ret; exact ⟨qj (by first | (simp; done) | (simp; omega) | (simp_all; done) | (simp_all; omega) | (rw [Bool.eq_iff_iff]; simp; omega) | (rw [Bool.eq_iff_iff]; simp_all; omega)), rfl⟩)
set_option maxHeartbeats 400000 in
theorem zgr (x : Int) (w : World) : Calls Tryd.prog 77 #[.int .i64 x] w fun e w' => e = .returned (.bool (rng x 1 1000000000)) ∧ w = w' := by
  unfold rng
  go_enter Tryd.func77, Tryd.ntmps77
  go_wp2
  all_goals (go_ret; exact ⟨qj (by first | (simp; done) | (simp; omega) | (simp_all; done) | (simp_all; omega) | (rw [Bool.eq_iff_iff]; simp; omega) | (rw [Bool.eq_iff_iff]; simp_all; omega)), rfl⟩)
set_option maxHeartbeats 400000 in
theorem ze7 (x : Int) (w : World) : Calls Tryd.prog 78 #[.int .i64 x] w fun e w' => e = .returned (.bool (rng x 0 10000000)) ∧ w = w' := by
  unfold rng
  go_enter Tryd.func78, Tryd.ntmps78
  go_wp2
  all_goals (go_ret; exact ⟨qj (by first | (simp; done) | (simp; omega) | (simp_all; done) | (simp_all; omega) | (rw [Bool.eq_iff_iff]; simp; omega) | (rw [Bool.eq_iff_iff]; simp_all; omega)), rfl⟩)
set_option maxRecDepth 20000 in
set_option maxHeartbeats 4000000 in
theorem zho (x : Od) (w : World) : Calls Tryd.prog 62 #[aOd x] w fun e w' => e = .returned (.bool (odB x)) ∧ Below w.heap.size w w' := by
  obtain ⟨id, p, d, n, f, e, c, s, two⟩ := x
  have k1 := zgt id
  have k2 := zde p
  have k3 := zg9 d
  have k4 := zgr n
  have k5 := ze7 f
  have HV : Hid (odB ⟨id, p, d, n, f, e, c, s, two⟩ = ((rng id 1 100000 && (rng p 0 999 && (rng d 1 1000 && rng n 1 1000000000))) && ((rng f 0 10000000 && (rng e 1 1440 && rng c 1 200)) && rng s 1 4))) := by
    rw [Hid]
    unfold odB zk zn
    dsimp only
    generalize rng id 1 100000 = t1
    generalize rng p 0 999 = t2
    generalize rng d 1 1000 = t3
    generalize rng n 1 1000000000 = t4
    generalize rng f 0 10000000 = t5
    generalize rng e 1 1440 = t6
    generalize rng c 1 200 = t7
    generalize rng s 1 4 = t8
    revert t1 t2 t3 t4 t5 t6 t7 t8
    decide
  have HE : Hid (rng e 1 1440 = (decide (1 ≤ e) && decide (e ≤ 1440))) := rfl
  have HC : Hid (rng c 1 200 = (decide (1 ≤ c) && decide (c ≤ 200))) := rfl
  have HS : Hid (rng s 1 4 = (decide (1 ≤ s) && decide (s ≤ 4))) := rfl
  unfold aOd
  dsimp only
  generalize rng id 1 100000 = t1 at *
  generalize rng p 0 999 = t2 at *
  generalize rng d 1 1000 = t3 at *
  generalize rng n 1 1000000000 = t4 at *
  generalize rng f 0 10000000 = t5 at *
  generalize rng e 1 1440 = t6 at *
  generalize rng c 1 200 = t7 at *
  generalize rng s 1 4 = t8 at *
  generalize odB ⟨id, p, d, n, f, e, c, s, two⟩ = R at *
  have hP := PB.new w #[.int .i64 id, .int .i64 p, .int .i64 d, .int .i64 n, .int .i64 f, .int .i64 e, .int .i64 c, .int .i64 s, .bool two] 29
  have hb0 : Below w.heap.size w (w.alloc (.cells #[.int .i64 id, .int .i64 p, .int .i64 d, .int .i64 n, .int .i64 f, .int .i64 e, .int .i64 c, .int .i64 s, .bool two] 29)) := (Below.refl _ _).alloc (Nat.le_refl _) _
  go_enter Tryd.func62, Tryd.ntmps62
  go_upto_region 1 with fail
  generalize w.alloc (.cells #[.int .i64 id, .int .i64 p, .int .i64 d, .int .i64 n, .int .i64 f, .int .i64 e, .int .i64 c, .int .i64 s, .bool two] 29) = wA at *
  generalize hBB : w.heap.size = B at *
  generalize Value.agg #[.int .i64 id, .int .i64 p, .int .i64 d, .int .i64 n, .int .i64 f, .int .i64 e, .int .i64 c, .int .i64 s, .bool two] = av
  obtain ⟨c0, c1, c2, c3, c4, c5, c6, c7, c8⟩ := hP.nine
  clear hP
  go_cut [3] (fun tv wx => tv = .bool (t1 && (t2 && (t3 && t4))) ∧ wx = wA)
  case first =>
    clear HV HE HC HS k5 hb0
    rcases t1 with _ | _
    · go_wp2_with (with_reducible (first | refine (k1 _).mono ?_ | refine (k2 _).mono ?_ | refine (k3 _).mono ?_ | refine (k4 _).mono ?_); rintro e w1 ⟨rfl, rfl⟩)
      go_meet
      case rel => exact ⟨by first | rfl | (simp; done) | (simp; omega), rfl⟩
    rcases t2 with _ | _
    · go_wp2_with (with_reducible (first | refine (k1 _).mono ?_ | refine (k2 _).mono ?_ | refine (k3 _).mono ?_ | refine (k4 _).mono ?_); rintro e w1 ⟨rfl, rfl⟩)
      go_meet
      case rel => exact ⟨by first | rfl | (simp; done) | (simp; omega), rfl⟩
    rcases t3 with _ | _
    · go_wp2_with (with_reducible (first | refine (k1 _).mono ?_ | refine (k2 _).mono ?_ | refine (k3 _).mono ?_ | refine (k4 _).mono ?_); rintro e w1 ⟨rfl, rfl⟩)
      go_meet
      case rel => exact ⟨by first | rfl | (simp; done) | (simp; omega), rfl⟩
    go_wp2_with (with_reducible (first | refine (k1 _).mono ?_ | refine (k2 _).mono ?_ | refine (k3 _).mono ?_ | refine (k4 _).mono ?_); rintro e w1 ⟨rfl, rfl⟩)
    go_meet
    case rel => exact ⟨by simp, rfl⟩
  case rest =>
    obtain ⟨rfl, hwx⟩ := hcut
    have hwx' := hwx.symm
    clear hwx
    subst hwx'
    clear k1 k2 k3 k4
    generalize (t1 && (t2 && (t3 && t4))) = u1 at *
    go_upto_region 2 with fail
    go_cut [4] (fun tv wx => tv = .bool (t5 && (t6 && t7)) ∧ wx = wA)
    case first =>
      clear HV HS hb0
      rcases t5 with _ | _
      · clear HE HC
        go_wp2_with (with_reducible (refine (k5 _).mono ?_); rintro e w1 ⟨rfl, rfl⟩)
        go_meet
        case rel => exact ⟨by first | rfl | (simp; done) | (simp; omega), rfl⟩
      by_cases e1 : 1 ≤ e
      · by_cases e2 : e ≤ 1440
        · obtain rfl : t6 = true := by rw [HE.out]; simp [e1, e2]
          by_cases g1 : 1 ≤ c
          · by_cases g2 : c ≤ 200
            · obtain rfl : t7 = true := by rw [HC.out]; simp [g1, g2]
              clear HE HC
              go_wp2_with (with_reducible (refine (k5 _).mono ?_); rintro e w1 ⟨rfl, rfl⟩)
              go_meet
              case rel => exact ⟨by first | rfl | (simp; done) | (simp; omega), rfl⟩
            · obtain rfl : t7 = false := by rw [HC.out]; simp [g1, g2]
              clear HE HC
              go_wp2_with (with_reducible (refine (k5 _).mono ?_); rintro e w1 ⟨rfl, rfl⟩)
              go_meet
              case rel => exact ⟨by first | rfl | (simp; done) | (simp; omega), rfl⟩
          · obtain rfl : t7 = false := by rw [HC.out]; simp [g1]
            clear HE HC
            go_wp2_with (with_reducible (refine (k5 _).mono ?_); rintro e w1 ⟨rfl, rfl⟩)
            go_meet
            case rel => exact ⟨by first | rfl | (simp; done) | (simp; omega), rfl⟩
        · obtain rfl : t6 = false := by rw [HE.out]; simp [e1, e2]
          clear HE HC
          go_wp2_with (with_reducible (refine (k5 _).mono ?_); rintro e w1 ⟨rfl, rfl⟩)
          go_meet
          case rel => exact ⟨by first | rfl | (simp; done) | (simp; omega), rfl⟩
      · obtain rfl : t6 = false := by rw [HE.out]; simp [e1]
        clear HE HC
        go_wp2_with (with_reducible (refine (k5 _).mono ?_); rintro e w1 ⟨rfl, rfl⟩)
        go_meet
        case rel => exact ⟨by first | rfl | (simp; done) | (simp; omega), rfl⟩
    case rest =>
      obtain ⟨rfl, hwx⟩ := hcut
      have hwx' := hwx.symm
      clear hwx
      subst hwx'
      clear k5 HE HC
      generalize (t5 && (t6 && t7)) = u2 at *
      rcases u1 with _ | _
      · clear HS
        go_wp2_with fail
        go_ret
        exact ⟨qj (by rw [HV.out]; rfl), by first | exact hb0 | (rw [hBB]; exact hb0)⟩
      rcases u2 with _ | _
      · clear HS
        go_wp2_with fail
        go_ret
        exact ⟨qj (by rw [HV.out]; rfl), by first | exact hb0 | (rw [hBB]; exact hb0)⟩
      by_cases s1 : 1 ≤ s
      · by_cases s2 : s ≤ 4
        · obtain rfl : t8 = true := by rw [HS.out]; simp [s1, s2]
          clear HS
          go_wp2_with fail
          go_ret
          exact ⟨qj (by rw [HV.out]; rfl), by first | exact hb0 | (rw [hBB]; exact hb0)⟩
        · obtain rfl : t8 = false := by rw [HS.out]; simp [s1, s2]
          clear HS
          go_wp2_with fail
          go_ret
          exact ⟨qj (by rw [HV.out]; rfl), by first | exact hb0 | (rw [hBB]; exact hb0)⟩
      · obtain rfl : t8 = false := by rw [HS.out]; simp [s1]
        clear HS
        go_wp2_with fail
        go_ret
        exact ⟨qj (by rw [HV.out]; rfl), by first | exact hb0 | (rw [hBB]; exact hb0)⟩
set_option maxRecDepth 20000 in
set_option maxHeartbeats 4000000 in
theorem zhi (x : Od) (b a : Int) (w : World) : Calls Tryd.prog 81 #[aOd x, .int .i64 b, .int .i64 a] w fun e w' => e = .returned (.bool (zav x.two b a)) ∧ Below w.heap.size w w' := by
  obtain ⟨id, p, d, n, f, e, c, s, two⟩ := x
  have k1 := zde b
  have k2 := zde a
  have hp1 : zk b = rng b 0 999 := rfl
  have hp2 : zk a = rng a 0 999 := rfl
  unfold zav aOd
  rw [hp1, hp2]
  clear hp1 hp2
  dsimp only
  generalize rng b 0 999 = t1 at *
  generalize rng a 0 999 = t2 at *
  have hb0 : Below w.heap.size w (w.alloc (.cells #[.int .i64 id, .int .i64 p, .int .i64 d, .int .i64 n, .int .i64 f, .int .i64 e, .int .i64 c, .int .i64 s, .bool two] 29)) := (Below.refl _ _).alloc (Nat.le_refl _) _
  rcases two with _ | _
  · rcases t1 with _ | _
    · go_enter Tryd.func81, Tryd.ntmps81
      go_wp2_with (with_reducible (first | refine (k1 _).mono ?_ | refine (k2 _).mono ?_); rintro e w1 ⟨rfl, rfl⟩)
      go_ret
      exact ⟨rfl, hb0⟩
    · by_cases ha : a = -1
      · subst ha
        go_enter Tryd.func81, Tryd.ntmps81
        go_wp2_with (with_reducible (first | refine (k1 _).mono ?_ | refine (k2 _).mono ?_); rintro e w1 ⟨rfl, rfl⟩)
        go_ret
        exact ⟨rfl, hb0⟩
      · go_enter Tryd.func81, Tryd.ntmps81
        go_wp2_with (with_reducible (first | refine (k1 _).mono ?_ | refine (k2 _).mono ?_); rintro e w1 ⟨rfl, rfl⟩)
        go_ret
        exact ⟨qj (by simp [ha]), hb0⟩
  · rcases t1 with _ | _
    · go_enter Tryd.func81, Tryd.ntmps81
      go_wp2_with (with_reducible (first | refine (k1 _).mono ?_ | refine (k2 _).mono ?_); rintro e w1 ⟨rfl, rfl⟩)
      go_ret
      exact ⟨rfl, hb0⟩
    by_cases ha : b = a
    · subst ha
      rcases t2 with _ | _
      · go_enter Tryd.func81, Tryd.ntmps81
        go_wp2_with (with_reducible (first | refine (k1 _).mono ?_ | refine (k2 _).mono ?_); rintro e w1 ⟨rfl, rfl⟩)
        all_goals (go_ret; exact ⟨qj (by simp), hb0⟩)
      · go_enter Tryd.func81, Tryd.ntmps81
        go_wp2_with (with_reducible (first | refine (k1 _).mono ?_ | refine (k2 _).mono ?_); rintro e w1 ⟨rfl, rfl⟩)
        all_goals (go_ret; exact ⟨qj (by simp), hb0⟩)
    · rcases t2 with _ | _
      · go_enter Tryd.func81, Tryd.ntmps81
        go_wp2_with (with_reducible (first | refine (k1 _).mono ?_ | refine (k2 _).mono ?_); rintro e w1 ⟨rfl, rfl⟩)
        all_goals (go_ret; exact ⟨qj (by simp [ha]), hb0⟩)
      · go_enter Tryd.func81, Tryd.ntmps81
        go_wp2_with (with_reducible (first | refine (k1 _).mono ?_ | refine (k2 _).mono ?_); rintro e w1 ⟨rfl, rfl⟩)
        all_goals (go_ret; exact ⟨qj (by simp [ha]), hb0⟩)
set_option maxHeartbeats 400000 in
theorem zg4 (a : Int) (w : World) : Calls Tryd.prog 93 #[.int .i64 a] w fun e w' => e = .returned (.bool false) ∧ w = w' := by
  go_enter Tryd.func93, Tryd.ntmps93
  go_wp2
  go_ret
  exact ⟨qj (by simp), rfl⟩
set_option maxHeartbeats 1000000 in
theorem icmp_any (a b : Int) (w : World) : Calls Tryd.prog 87 #[.int .i64 a, .int .i64 b] w fun e w' => e = .returned (.int .i64 (if a < b then -1 else if b < a then 1 else 0)) ∧ w = w' := by
  have n1 := zg4 a
  have n2 := zg4 b
  by_cases h1 : a < b
  · rw [if_pos h1]
    go_enter Tryd.func87, Tryd.ntmps87
    go_wp2_with (with_reducible (first | refine (n1 _).mono ?_ | refine (n2 _).mono ?_); rintro e w1 ⟨rfl, rfl⟩)
    go_ret
    exact ⟨rfl, rfl⟩
  · rw [if_neg h1]
    by_cases h2 : b < a
    · rw [if_pos h2]
      go_enter Tryd.func87, Tryd.ntmps87
      go_wp2_with (with_reducible (first | refine (n1 _).mono ?_ | refine (n2 _).mono ?_); rintro e w1 ⟨rfl, rfl⟩)
      go_ret
      exact ⟨rfl, rfl⟩
    · rw [if_neg h2]
      go_enter Tryd.func87, Tryd.ntmps87
      go_wp2_with (with_reducible (first | refine (n1 _).mono ?_ | refine (n2 _).mono ?_); rintro e w1 ⟨rfl, rfl⟩)
      go_ret
      exact ⟨rfl, rfl⟩
end Go.Proofs.YtmcekefoedgboaaDoor

namespace Go.Proofs.YtmcekefoedgboaaDoor
open Go.RowKit Va Uo
set_option linter.all false
set_option maxRecDepth 20000 in
set_option maxHeartbeats 4000000 in
theorem zhv (x : Od) (y : Ds) (w : World) : Calls Tryd.prog 64 #[aOd x, aDs y] w fun e w' => e = .returned (.bool (jd x y)) ∧ Below w.heap.size w w' := by
  have k1 := ze7 y.m
  have k2 := zhi x y.b y.a
  have HV : Hid (jd x y = ((decide (0 ≤ y.t) && decide (y.t < x.c)) && (!decide (x.s = 1) && (rng y.m 0 10000000 && zav x.two y.b y.a)))) := rfl
  generalize jd x y = R at *
  generalize rng y.m 0 10000000 = t1 at *
  generalize zav x.two y.b y.a = t2 at *
  obtain ⟨id, p, d, n, f, e, c, s, two⟩ := x
  obtain ⟨yo, yt, ym, yb, ya⟩ := y
  unfold aOd aDs at *
  dsimp only at *
  have hb0 : Below w.heap.size w ((w.alloc (.cells #[.int .i64 id, .int .i64 p, .int .i64 d, .int .i64 n, .int .i64 f, .int .i64 e, .int .i64 c, .int .i64 s, .bool two] 29)).alloc (.cells #[.int .i64 yo, .int .i64 yt, .int .i64 ym, .int .i64 yb, .int .i64 ya] 39)) := ((Below.refl _ _).alloc (Nat.le_refl _) _).alloc (by simp) _
  by_cases h1 : 0 ≤ yt
  · by_cases h2 : yt < c
    · by_cases h3 : s = 1
      · subst h3
        go_enter Tryd.func64, Tryd.ntmps64
        go_wp2_with (with_reducible (first | (refine (k1 _).mono ?_; rintro e w1 ⟨rfl, rfl⟩) | (refine (k2 _).mono ?_; rintro e w2 ⟨rfl, hb2⟩)))
        go_ret
        exact ⟨qj (by rw [HV.out]; simp), by first | exact onto hb0 hb2 | exact hb0⟩

      · rcases t1 with _ | _
        · go_enter Tryd.func64, Tryd.ntmps64
          go_wp2_with (with_reducible (first | (refine (k1 _).mono ?_; rintro e w1 ⟨rfl, rfl⟩) | (refine (k2 _).mono ?_; rintro e w2 ⟨rfl, hb2⟩)))
          go_ret
          exact ⟨qj (by rw [HV.out]; simp), by first | exact onto hb0 hb2 | exact hb0⟩

        · go_enter Tryd.func64, Tryd.ntmps64
          go_wp2_with (with_reducible (first | (refine (k1 _).mono ?_; rintro e w1 ⟨rfl, rfl⟩) | (refine (k2 _).mono ?_; rintro e w2 ⟨rfl, hb2⟩)))
          go_ret
          exact ⟨qj (by rw [HV.out]; simp [h1, h2, h3]), by first | exact onto hb0 hb2 | exact hb0⟩

    · have HD : Hid (decide (yt < c) = false) := decide_eq_false h2
      go_enter Tryd.func64, Tryd.ntmps64
      go_wp2_with (with_reducible (first | (refine (k1 _).mono ?_; rintro e w1 ⟨rfl, rfl⟩) | (refine (k2 _).mono ?_; rintro e w2 ⟨rfl, hb2⟩)))
      go_ret
      exact ⟨qj (by rw [HV.out, HD.out]; simp), by first | exact onto hb0 hb2 | exact hb0⟩

  · have HD : Hid (decide (0 ≤ yt) = false) := decide_eq_false h1
    go_enter Tryd.func64, Tryd.ntmps64
    go_wp2_with (with_reducible (first | (refine (k1 _).mono ?_; rintro e w1 ⟨rfl, rfl⟩) | (refine (k2 _).mono ?_; rintro e w2 ⟨rfl, hb2⟩)))
    go_ret
    exact ⟨qj (by rw [HV.out, HD.out]; simp), by first | exact onto hb0 hb2 | exact hb0⟩
set_option maxRecDepth 20000 in
set_option maxHeartbeats 2000000 in
theorem iclo_any (x : Od) (id : Int) (w : World) : Calls Tryd.prog 86 #[aOd x, .int .i64 id] w fun e w' => e = .returned (.int .i64 (if x.id < id then -1 else if id < x.id then 1 else 0)) ∧ Below w.heap.size w w' := by
  have k1 := icmp_any x.id id
  unfold aOd
  have hb0 : Below w.heap.size w (w.alloc (.cells #[.int .i64 x.id, .int .i64 x.p, .int .i64 x.d, .int .i64 x.n, .int .i64 x.f, .int .i64 x.e, .int .i64 x.c, .int .i64 x.s, .bool x.two] 29)) := (Below.refl _ _).alloc (Nat.le_refl _) _
  generalize (if x.id < id then (-1 : Int) else if id < x.id then 1 else 0) = R at *
  go_enter Tryd.func86, Tryd.ntmps86
  go_wp2_with (with_reducible (refine (k1 _).mono ?_); rintro e w1 ⟨rfl, rfl⟩)
  go_ret
  exact ⟨rfl, hb0⟩
set_option maxRecDepth 20000 in
set_option maxHeartbeats 4000000 in
theorem zic (ao : Option Addr) (n cap : Nat) (os : List Od) (id : Int) (w : World) (h : VRw 9 jb w (.slice ao n cap) os) (hn : os.length ≤ 1048576) (hr : Ris os) :
    Calls Tryd.prog 85 #[.slice ao n cap, .int .i64 id, .func (.func 86) #[] #[]] w fun e w' => ∃ k : Nat, Cut os id k ∧ e = .returned (.tuple #[.int .i64 k, .bool (qi os id k)]) ∧ Below w.heap.size w w' := by
  obtain rfl := h.len
  have HH := hidden h
  have HR := hidden hr
  have HC := hidden (fun x W => iclo_any x id W)
  clear h hr
  go_enter Tryd.func85, Tryd.ntmps85
  go_wp2_with fail
  go_loopg [9, 10, 11] os.length (fun kx s9 s10 _ wr => ∃ lo hi : Nat, s9 = .int .i64 lo ∧ s10 = .int .i64 hi ∧ lo ≤ hi ∧ hi ≤ os.length ∧ hi - lo ≤ kx ∧ Below w.heap.size w wr ∧ Hid ((∀ (j : Nat) (x : Od), j < lo → os[j]? = some x → x.id < id) ∧ ∀ (j : Nat) (x : Od), hi ≤ j → os[j]? = some x → id ≤ x.id))
  case atStart => exact ⟨0, os.length, rfl, rfl, Nat.zero_le _, Nat.le_refl _, by omega, Below.refl _ _, ⟨fun j x hj => absurd hj (Nat.not_lt_zero _), fun j x hj hx => by have := (List.getElem?_eq_some_iff.1 hx).1; omega⟩⟩
  case round =>
    obtain ⟨lo, hi, rfl, rfl, hlh, hin, hg, hb, I⟩ := hrel
    by_cases hlt : lo < hi
    · obtain ⟨x, hx⟩ := yh os ((lo + hi) / 2) (by omega)
      obtain ⟨g, off, rfl, hgl, hcs⟩ := (HH.out.below hb).at hx
      have c0 : wr.cell? ⟨g, off + (lo + hi) / 2 * 9, none⟩ = some (.int .i64 x.id) := hcs 0 (by omega)
      have c1 : wr.cell? ⟨g, off + (lo + hi) / 2 * 9 + 1, none⟩ = some (.int .i64 x.p) := hcs 1 (by omega)
      have c2 : wr.cell? ⟨g, off + (lo + hi) / 2 * 9 + 2, none⟩ = some (.int .i64 x.d) := hcs 2 (by omega)
      have c3 : wr.cell? ⟨g, off + (lo + hi) / 2 * 9 + 3, none⟩ = some (.int .i64 x.n) := hcs 3 (by omega)
      have c4 : wr.cell? ⟨g, off + (lo + hi) / 2 * 9 + 4, none⟩ = some (.int .i64 x.f) := hcs 4 (by omega)
      have c5 : wr.cell? ⟨g, off + (lo + hi) / 2 * 9 + 5, none⟩ = some (.int .i64 x.e) := hcs 5 (by omega)
      have c6 : wr.cell? ⟨g, off + (lo + hi) / 2 * 9 + 6, none⟩ = some (.int .i64 x.c) := hcs 6 (by omega)
      have c7 : wr.cell? ⟨g, off + (lo + hi) / 2 * 9 + 7, none⟩ = some (.int .i64 x.s) := hcs 7 (by omega)
      have c8 : wr.cell? ⟨g, off + (lo + hi) / 2 * 9 + 8, none⟩ = some (.bool x.two) := hcs 8 (by omega)
      have hK := HC.out x
      unfold aOd at hK
      have HX := hidden hx
      clear hcs hx
      by_cases q : x.id < id
      · rw [if_pos q] at hK
        go_wp2_with (go_at_call 86; refine (hK _).mono ?_; rintro e w' ⟨rfl, hb1⟩)
        go_roundg (hi - ((lo + hi) / 2 + 1))
        case measure => omega
        case rel =>
          refine ⟨(lo + hi) / 2 + 1, hi, by rw [show ((lo : Int) + (hi : Int)) / 2 + 1 = (((lo + hi) / 2 + 1 : Nat) : Int) by omega], rfl, by omega, hin, Nat.le_refl _, onto hb hb1, ⟨fun j y hj hy => ?_, I.out.2⟩⟩
          by_cases e : j = (lo + hi) / 2
          · subst e; rw [HX.out] at hy; cases hy; exact q
          · have := HR.out j _ y x (by omega) hy HX.out; omega
      · rw [if_neg q] at hK
        have hz : ¬ (if id < x.id then (1 : Int) else 0) < 0 := by split <;> omega
        generalize (if id < x.id then (1 : Int) else 0) = z at *
        go_wp2_with (go_at_call 86; refine (hK _).mono ?_; rintro e w' ⟨rfl, hb1⟩)
        go_roundg ((lo + hi) / 2 - lo)
        case measure => omega
        case rel =>
          refine ⟨lo, (lo + hi) / 2, rfl, by rw [show ((lo : Int) + (hi : Int)) / 2 = (((lo + hi) / 2 : Nat) : Int) by omega], by omega, by omega, Nat.le_refl _, onto hb hb1, ⟨I.out.1, fun j y hj hy => ?_⟩⟩
          by_cases e : j = (lo + hi) / 2
          · subst e; rw [HX.out] at hy; cases hy; omega
          · have := HR.out _ j x y (by omega) HX.out hy; omega
    · obtain rfl : hi = lo := by omega
      have HCut : Hid (Cut os id hi) := ⟨hin, I.out.1, I.out.2⟩
      by_cases hle : hi < os.length
      · obtain ⟨x, hx⟩ := yh os hi hle
        obtain ⟨g, off, rfl, hgl, hcs⟩ := (HH.out.below hb).at hx
        have c0 : wr.cell? ⟨g, off + hi * 9, none⟩ = some (.int .i64 x.id) := hcs 0 (by omega)
        have c1 : wr.cell? ⟨g, off + hi * 9 + 1, none⟩ = some (.int .i64 x.p) := hcs 1 (by omega)
        have c2 : wr.cell? ⟨g, off + hi * 9 + 2, none⟩ = some (.int .i64 x.d) := hcs 2 (by omega)
        have c3 : wr.cell? ⟨g, off + hi * 9 + 3, none⟩ = some (.int .i64 x.n) := hcs 3 (by omega)
        have c4 : wr.cell? ⟨g, off + hi * 9 + 4, none⟩ = some (.int .i64 x.f) := hcs 4 (by omega)
        have c5 : wr.cell? ⟨g, off + hi * 9 + 5, none⟩ = some (.int .i64 x.e) := hcs 5 (by omega)
        have c6 : wr.cell? ⟨g, off + hi * 9 + 6, none⟩ = some (.int .i64 x.c) := hcs 6 (by omega)
        have c7 : wr.cell? ⟨g, off + hi * 9 + 7, none⟩ = some (.int .i64 x.s) := hcs 7 (by omega)
        have c8 : wr.cell? ⟨g, off + hi * 9 + 8, none⟩ = some (.bool x.two) := hcs 8 (by omega)
        have hK := HC.out x
        unfold aOd at hK
        have HA : Hid (qi os id hi = decide (x.id = id)) := by rw [Hid, qi, decide_eq_true hle, qh hx, Bool.true_and]
        clear hcs hx
        by_cases q : x.id = id
        · have HA2 : Hid (qi os id hi = true) := by rw [Hid, HA.out, decide_eq_true q]
          clear HA
          subst q
          rw [if_neg (by omega), if_neg (by omega)] at hK
          go_wp2_with (go_at_call 86; refine (hK _).mono ?_; rintro e w' ⟨rfl, hb1⟩)
          go_ret2
          exact ⟨hi, HCut.out, by rw [HA2.out]; rfl, onto hb hb1⟩
        · have hz : ¬ (if x.id < id then (-1 : Int) else if id < x.id then 1 else 0) = 0 := by split; omega; split <;> omega
          generalize (if x.id < id then (-1 : Int) else if id < x.id then 1 else 0) = z at *
          go_wp2_with (go_at_call 86; refine (hK _).mono ?_; rintro e w' ⟨rfl, hb1⟩)
          go_ret2
          exact ⟨hi, HCut.out, by rw [HA.out, decide_eq_false q]; simp [hz], onto hb hb1⟩
      · have HA : Hid (qi os id hi = false) := by rw [Hid, qi, decide_eq_false hle]; rfl
        go_wp2_with fail
        go_ret2
        exact ⟨hi, HCut.out, by rw [HA.out]; rfl, hb⟩
set_option maxRecDepth 20000 in
set_option maxHeartbeats 2000000 in
theorem zby (ao : Option Addr) (n cap : Nat) (sd : Value) (os : List Od) (id : Int) (w : World) (h : VRw 9 jb w (.slice ao n cap) os) (hn : os.length ≤ 1048576) (hr : Ris os) (hsd : ∃ a n c, sd = .slice a n c) :
    Calls Tryd.prog 63 #[.agg #[.slice ao n cap, sd], .int .i64 id] w fun e w' => ∃ k : Nat, Cut os id k ∧ e = .returned (.tuple #[.int .i64 k, .bool (qi os id k)]) ∧ Below w.heap.size w w' := by
  obtain ⟨sa, sn, sc, rfl⟩ := hsd
  have hb0 : Below w.heap.size w (w.alloc (.cells #[.slice ao n cap, .slice sa sn sc] 27)) := (Below.refl _ _).alloc (Nat.le_refl _) _
  have HK := hidden (fun W hW => zic ao n cap os id W hW hn hr)
  have HH := hidden (h.below hb0)
  clear h hr
  go_enter Tryd.func63, Tryd.ntmps63
  go_wp2_with (go_at_call 85; refine (HK.out _ HH.out).mono ?_; rintro e w1 ⟨k, hc, rfl, hb1⟩)
  go_ret2
  exact ⟨k, hc, rfl, onto hb0 hb1⟩
end Go.Proofs.YtmcekefoedgboaaDoor
