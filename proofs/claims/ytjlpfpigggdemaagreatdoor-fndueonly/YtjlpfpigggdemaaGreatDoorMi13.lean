/-
 Merged: U10 U11.
-/
import Derived.Test.YtjlpfpigggdemaaGreatDoorMi11
import Derived.Test.YtjlpfpigggdemaaGreatDoorMi12
namespace Go.Proofs.YtjlpfpigggdemaaGreatDoor
set_option maxRecDepth 8000
set_option maxHeartbeats 4000000
open Go.RowKit Va Uo Go.Maps
set_option linter.all false
theorem mkmapT (n : Int) (w : World) : (Instr.makeMap 50 (some (.int .i64 n))).run Tryz.prog w = .ok (.map (some w.heap.size)) (w.alloc (.map #[] 0)) := by
 simp [Instr.makeMap, run_underlying Tryz.underlying50, asInt, asIntOf, Result.andThen]
set_option maxRecDepth 20000 in
set_option maxHeartbeats 16000000 in
theorem zgt (ad : Option Addr) (m dcap : Nat) (ds : List Ds) (w : World) (hd : VRw 5 jy w (.slice ad m dcap) ds) (hm : ds.length <= 500) (hbd : ∀ (i : Nat) (d : Ds), ds[i]? = some d -> Bd d.o /\ Bd d.t) :
  Calls Tryz.prog 16 #[.slice ad m dcap] w fun e w' => e = .returned (.map (some w.heap.size)) /\ (∃ D, w'.ownsMap Tryz.prog 68 (plainElem Tryz.prog 3) w.heap.size 500 D /\ Cnt D ds) /\ Below w.heap.size w w' := by
 obtain rfl := hd.len
 have HD := hidden hd
 have HBd := hidden hbd
 have hmm := mkmapT
 have HO := hidden (World.ownsMap_made w Tryz.prog 68 (plainElem (H := Unit) Tryz.prog 3))
 have HB : Hid (Below w.heap.size w (w.alloc (.map #[] 0))) := (Below.refl _ _).alloc (Nat.le_refl _) _
 clear hd hbd
 go_enter Tryz.func16, Tryz.ntmps16
 go_wp2_with fail
 go_loopw [5, 11] (fun _ iv wr => ∃ (i : Nat) (D : DataW Unit), i <= ds.length /\ iv = .int .i64 i /\ wr.ownsMap Tryz.prog 68 (plainElem Tryz.prog 3) w.heap.size i D /\ Hid (Cnt D (ds.take i)) /\ Below w.heap.size w wr) (fun _ iv _ => ds.length - (intOf iv).toNat)
 case atStart => exact ⟨0, .map [], Nat.zero_le _, rfl, HO.out, Cnt.nil, HB.out⟩
 case round =>
  clear HO HB hmm
  obtain ⟨i, D, hi, rfl, ho, hC, hb⟩ := hrel
  by_cases hlt : i < ds.length
  ·have hlti : (i : Int) < (ds.length : Int) := by omega
   obtain ⟨x, hx⟩ := zaa ds i hlt
   obtain ⟨bo, bt⟩ := HBd.out i x hx
   obtain ⟨g, off, rfl, hg, hcs⟩ := (HD.out.below hb).at hx
   have c0 : wr.cell? ⟨g, off + i * 5, none⟩ = some (.int .i64 x.o) := hcs 0 (by omega)
   have c1 : wr.cell? ⟨g, off + i * 5 + 1, none⟩ = some (.int .i64 x.t) := hcs 1 (by omega)
   have c2 : wr.cell? ⟨g, off + i * 5 + 2, none⟩ = some (.int .i64 x.m) := hcs 2 (by omega)
   have c3 : wr.cell? ⟨g, off + i * 5 + 3, none⟩ = some (.int .i64 x.b) := hcs 3 (by omega)
   have c4 : wr.cell? ⟨g, off + i * 5 + 4, none⟩ = some (.int .i64 x.a) := hcs 4 (by omega)
   obtain ⟨c, hc, p0, p1, -⟩ := hC.out.at' x.o x.t bo bt
   have hp1 : c <= 1000000 := by rw [List.length_take] at p1; omega
   have HC2 : Hid (Cnt (D.put (kT x.o x.t) (.lit (.int .i64 (c + 1)))) (ds.take (i + 1))) := by
    rw [Hid, List.take_add_one, hx]; exact hC.out.snoc bo bt hc
   have hmb : w.heap.size < wr.heap.size := ho.lt
   have HOw := hidden ho
   have HBw := hidden hb
   have HCk := hidden hc
   clear hcs hx ho hb hC hc p1
   go_upto_region 5 with fail
   refine regG5 (w0 := w) (base := w.heap.size) (V := wr.heap.size) (b := w.heap.size) (n := i) (x := x) (D := D) (c := c) rfl rfl rfl (HBw.out.alloc HBw.out.size _) (Nat.le_refl _) (Nat.le_refl _) (PB.new _ _ _) (by omega) (HOw.out.alloc _) (by unfold maxLen; omega) bo bt HCk.out p0 hp1 ?_
   intro b' w3 hf hb3 ho3
   (rw [layG5 hf]; simp only [Rg.fl0, Rg.fl1, Rg.fl2, Nat.reduceAdd])
   clear hf
   generalize Rg.out (Rg.opsOf Tryz.f16 5) b' = yF
   go_frame
   go_wp2_with fail
   go_roundw
   case rel => exact ⟨i + 1, _, by omega, rfl, ho3, HC2, hb3⟩
   case measure => simp [intOf]; omega
  ·have hlti : ¬ (i : Int) < (ds.length : Int) := by omega
   have hil : i = ds.length := by omega
   have HC2 : Hid (Cnt D ds) := by have := hC.out; rw [hil, List.take_length] at this; exact this
   go_wp2_with fail
   go_ret
   exact ⟨rfl, ⟨D, ho.mono (by omega), HC2.out⟩, hb⟩
theorem okOd_eqP {os : List Od} {i : Nat} {x : Od} (hx : os[i]? = some x) (yid : Int) (hy : yid = (os.getD (i - 1) default).id) : qj os i = !((!(odB x)) || ((decide ((0 : Int) < (i : Int))) && (decide (x.id <= yid)))) := by
 unfold qj
 rw [jm hx, <- hy]
 have e1 : decide (i = 0) = !decide ((0 : Int) < (i : Int)) := by by_cases h : i = 0 <;> simp [h]; omega
 have e2 : decide (yid < x.id) = !decide (x.id <= yid) := by by_cases h : yid < x.id <;> simp [h] <;> omega
 rw [e1, e2]
 cases odB x <;> cases decide ((0 : Int) < (i : Int)) <;> cases decide (x.id <= yid) <;> rfl
set_option maxRecDepth 20000 in
set_option maxHeartbeats 16000000 in
theorem zjo (ao : Option Addr) (n cap : Nat) (os : List Od) (w : World) (ho : VRw 9 jd w (.slice ao n cap) os) (hn : os.length <= 1048576) :
  Calls Tryz.prog 31 #[.slice ao n cap] w fun e w' => e = .returned (.bool (decide (os.length <= 100) && (List.range os.length).all (qj os))) /\ Below w.heap.size w w' := by
 obtain rfl := ho.len
 have HO := hidden ho
 have HV : Hid ((decide (os.length <= 100) && (List.range os.length).all (qj os)) = (decide (os.length <= 100) && (List.range os.length).all (qj os))) := rfl
 generalize hR : (decide (os.length <= 100) && (List.range os.length).all (qj os)) = R
 have HR := hidden hR.symm
 clear ho HV hR
 by_cases h100 : (100 : Int) < (os.length : Int)
 ·have HN : Hid (decide (os.length <= 100) = false) := decide_eq_false (by omega)
  go_enter Tryz.func31, Tryz.ntmps31
  go_wp2_with fail
  go_ret
  exact ⟨qw (by rw [HR.out, HN.out]; rfl), Below.refl _ _⟩
 have HY : Hid (decide (os.length <= 100) = true) := decide_eq_true (by omega)
 have hl1 : os.length <= 100 := by omega
 go_enter Tryz.func31, Tryz.ntmps31
 go_wp2_with fail
 go_loopw [3, 4, 10] (fun _ _ iv wr => ∃ i : Nat, i <= os.length /\ iv = .int .i64 i /\ Below w.heap.size w wr /\ Hid (∀ j, j < i -> qj os j = true)) (fun _ _ iv _ => os.length - (intOf iv).toNat)
 case atStart => exact ⟨0, Nat.zero_le _, rfl, Below.refl _ _, fun j hj => absurd hj (Nat.not_lt_zero _)⟩
 case round =>
  obtain ⟨i, hi, rfl, hb, hok⟩ := hrel
  by_cases hlt : i < os.length
  ·have hlti : (i : Int) < (os.length : Int) := by omega
   obtain ⟨x, hx⟩ := zaa os i hlt
   obtain ⟨g, off, rfl, hg, hcs⟩ := (HO.out.below hb).at hx
   obtain ⟨yid, hyid⟩ : ∃ yid, yid = (os.getD (i - 1) default).id := ⟨_, rfl⟩
   have HY0 : Hid (0 < i -> wr.cell? ⟨g, off + (i - 1) * 9, none⟩ = some (.int .i64 yid)) := fun h0 => by
    obtain ⟨y, hy⟩ := zaa os (i - 1) (by omega)
    obtain ⟨g', off', he, _, hcs'⟩ := (HO.out.below hb).at hy
    obtain ⟨rfl, rfl⟩ : g = g' /\ off = off' := by simpa using he
    rw [hyid, jm hy]
    exact hcs' 0 (by omega)
   have HEq := hidden (okOd_eqP hx yid hyid)
   have hK := zg1 x
   unfold aOd at hK
   have c0 : wr.cell? ⟨g, off + i * 9, none⟩ = some (.int .i64 x.id) := hcs 0 (by omega)
   have c1 : wr.cell? ⟨g, off + i * 9 + 1, none⟩ = some (.int .i64 x.p) := hcs 1 (by omega)
   have c2 : wr.cell? ⟨g, off + i * 9 + 2, none⟩ = some (.int .i64 x.d) := hcs 2 (by omega)
   have c3 : wr.cell? ⟨g, off + i * 9 + 3, none⟩ = some (.int .i64 x.n) := hcs 3 (by omega)
   have c4 : wr.cell? ⟨g, off + i * 9 + 4, none⟩ = some (.int .i64 x.f) := hcs 4 (by omega)
   have c5 : wr.cell? ⟨g, off + i * 9 + 5, none⟩ = some (.int .i64 x.e) := hcs 5 (by omega)
   have c6 : wr.cell? ⟨g, off + i * 9 + 6, none⟩ = some (.int .i64 x.c) := hcs 6 (by omega)
   have c7 : wr.cell? ⟨g, off + i * 9 + 7, none⟩ = some (.int .i64 x.s) := hcs 7 (by omega)
   have c8 : wr.cell? ⟨g, off + i * 9 + 8, none⟩ = some (.bool x.two) := hcs 8 (by omega)
   have HBw := hidden hb
   clear hyid hx hcs hb
   go_upto_region 6 with fail
   have bx : Below wr.heap.size wr (wr.alloc (.cells #[.int .i64 x.id, .int .i64 x.p, .int .i64 x.d, .int .i64 x.n, .int .i64 x.f, .int .i64 x.e, .int .i64 x.c, .int .i64 x.s, .bool x.two] 38)) := (Below.refl _ _).alloc (Nat.le_refl _) _
   refine regP6 (x := x) (yid := yid) rfl rfl rfl rfl (PB.new _ _ _) hlt (by omega) (Nat.lt_of_lt_of_le hg bx.size) (fun h0 => (bx.cell (p := ⟨g, off + (i - 1) * 9, none⟩) hg).trans (HY0.out h0)) hK ?_
   intro b' w3 hf hb3 hv
   (rw [layP6 hf]; simp only [Rg.fl0, Rg.fl1, Rg.fl2, Nat.reduceAdd]; rw [hv])
   have HB3 := hidden (onto HBw.out (onto bx hb3))
   clear hv hf hK hb3 bx HY0 HBw
   generalize Rg.out (Rg.opsOf Tryz.f31 6) b' = yF
   cases hq : qj os i with
   | false =>
    have HN : Hid ((List.range os.length).all (qj os) = false) := by rw [Hid, List.all_eq_false]; exact ⟨i, List.mem_range.2 hlt, by simp [hq]⟩
    rw [hq] at HEq
    generalize ((!(odB x)) || ((decide ((0 : Int) < (i : Int))) && (decide (x.id <= yid)))) = t at *
    obtain rfl : t = true := by have := HEq.out; simpa using this
    go_frame
    go_wp2_with fail
    go_ret
    exact ⟨qw (by rw [HR.out, HY.out, HN.out]; rfl), HB3.out⟩
   | true =>
    rw [hq] at HEq
    generalize ((!(odB x)) || ((decide ((0 : Int) < (i : Int))) && (decide (x.id <= yid)))) = t at *
    obtain rfl : t = false := by have := HEq.out; simpa using this
    have HOk : Hid (∀ j, j < i + 1 -> qj os j = true) := fun j hj => by
     by_cases e : j = i
     ·subst e; exact hq
     ·exact hok.out j (by omega)
    clear hq HEq hok
    go_frame
    go_wp2_with fail
    go_roundw
    case rel => exact ⟨i + 1, by omega, rfl, HB3.out, HOk⟩
    case measure => simp [intOf]; omega
  ·have hlti : ¬ (i : Int) < (os.length : Int) := by omega
   have HN : Hid ((List.range os.length).all (qj os) = true) := by
    rw [Hid, List.all_eq_true]; intro j hj; exact hok.out j (by have := List.mem_range.1 hj; omega)
   go_wp2_with fail
   go_ret
   exact ⟨qw (by rw [HR.out, HY.out, HN.out]; rfl), hb⟩
end Go.Proofs.YtjlpfpigggdemaaGreatDoor
namespace Go.Proofs.YtjlpfpigggdemaaGreatDoor
open Go.RowKit Va Uo Go.Maps
set_option linter.all false
def FP10 (CB : Nat) (ad : Option Addr) (dcap : Nat) (ds : List Ds) (k : Nat) (v : Value) (w : World) : Prop :=
 match k with
 | 0 => v = .pointer (some ⟨CB, 1, none⟩)
 | 1 => v = .slice ad ds.length dcap
 | 2 => ∃ B D, v = .map (some B) /\ w.ownsMap Tryz.prog 68 (plainElem Tryz.prog 3) B 500 D /\ Cnt D ds
 | 3 => ∃ z : Nat, v = .int .i64 z /\ (z = ds.length ↔ apartB ds = true)
 | 4 => v = .pointer (some ⟨CB, 1, none⟩)
 | 5 => v = .slice ad ds.length dcap
 | 6 => v = .int .i64 ds.length
 | 7 => v = .bool (apartB ds)
 | 8 => v = .bool (apartB ds)
 | _ => True
theorem zew : (Rg.opsOf Tryz.f32 10).size = 9 := by kernel_rfl
set_option maxRecDepth 20000 in
set_option maxHeartbeats 16000000 in
theorem regP10 {Q : Exit -> Act -> World -> Prop} {a : Act} {w9 : World} {CB : Nat} {so : Value} {ad : Option Addr} {dcap : Nat} {ds : List Ds} (ha : a.tmps.size = 63) (k1 : a.tmps[1]? = some (.pointer (some ⟨CB, 0, none⟩))) (hX : PB w9 CB #[so, .slice ad ds.length dcap] 27) (hD : VRw 5 jy w9 (.slice ad ds.length dcap) ds)
  (hG : ∀ W, VRw 5 jy W (.slice ad ds.length dcap) ds -> Calls Tryz.prog 16 #[.slice ad ds.length dcap] W fun e w' => e = .returned (.map (some W.heap.size)) /\ (∃ D, w'.ownsMap Tryz.prog 68 (plainElem Tryz.prog 3) W.heap.size 500 D /\ Cnt D ds) /\ Below W.heap.size W w')
  (hend : ∀ b' w', Rg.Fr (Rg.opsOf Tryz.f32 10) a b' -> Below w9.heap.size w9 w' -> Rg.out (Rg.opsOf Tryz.f32 10) b' 8 = .bool (apartB ds) -> Q .normal b' w') : (Code.region 10 (Rg.opsOf Tryz.f32 10) true).wp Tryz.prog Q a w9 := by
 refine Rg.zcq (by kernel_rfl) (fun _ w' => Below w9.heap.size w9 w') (FP10 CB ad dcap ds) (by rw [ha, zew]; kernel_rfl) (jq (Below.refl _ _)) ?_ ?_
 case refine_2 =>
  intro l b' w' hf hall hI hA
  rw [zew] at hA
  exact hend b' w' hf hI (hA 8 (by decide))
 case refine_1 =>
  clear hend
  have HS : ∀ {w w' : World}, Below w.heap.size w w' -> ∀ k9 y9, FP10 CB ad dcap ds k9 y9 w -> FP10 CB ad dcap ds k9 y9 w' := fun hb k9 y9 h => by
   unfold FP10 at *
   split at h <;> first | exact h | (obtain ⟨B, D, h1, h2, h3⟩ := h; exact ⟨B, D, h1, Rt.zcz h2 (hb.block B h2.lt), h3⟩)
  intro i' hi'
  rw [zew] at hi'
  rcases (show i' = 0 ∨ i' = 1 ∨ i' = 2 ∨ i' = 3 ∨ i' = 4 ∨ i' = 5 ∨ i' = 6 ∨ i' = 7 ∨ i' = 8 by omega) with rfl | rfl | rfl | rfl | rfl | rfl | rfl | rfl | rfl
  ·intro ll bb w' hs hlf hN hO hf hI hA
   clear hi'
   have q1 := hf.kept (s := 1) (by rw [zew]; kernel_rfl) k1
   exact Rg.zf (o := ⟨some 55, Op.fieldAddr 27 (Operand.tmp 1) 1, _, _, _, _⟩) (x := .pointer (some ⟨CB, 1, none⟩)) rfl rfl (by clear hA hN hO HS hX hG hD; simp only [execOp]; go_simp) ⟨_, rfl, (fun h => by cases h), rfl, hI, fun _ _ _ _ h => h⟩
  ·intro ll bb w' hs hlf hN hO hf hI hA
   clear hi'
   have q55 : bb.tmps[55]? = some _ := hf.tmp (k := 0) rfl (by rw [ha]; decide) (hA 0 (by kernel_rfl))
   obtain ⟨b0, b1⟩ := (hX.below hI).two
   exact Rg.zf (o := ⟨some 56, Op.load 25 (Operand.tmp 55), _, _, _, _⟩) (x := .slice ad ds.length dcap) rfl rfl (by clear hA hN hO HS hX hG hD; simp only [execOp]; go_simp) ⟨_, rfl, (fun h => by cases h), rfl, hI, fun _ _ _ _ h => h⟩
  ·intro ll bb w' hs hlf hN hO hf hI hA
   clear hi'
   have q56 : bb.tmps[56]? = some _ := hf.tmp (k := 1) rfl (by rw [ha]; decide) (hA 1 (by kernel_rfl))
   refine Rg.jr (o := ⟨some 57, Op.call { callee := Callee.value (Operand.func 16), args := #[Operand.tmp 56], argTypes := _ }, _, _, _, _⟩) rfl rfl (by clear hA hN hO HS hX hG hD; simp only [execOp, resolve]; go_simp) (hG w' (hD.below hI)) ?_
   rintro e w2 ⟨rfl, ⟨D, ho, hc⟩, hb2⟩
   exact ⟨_, rfl, _, rfl, (fun h => by cases h), ⟨_, D, rfl, ho, hc⟩, onto hI hb2, fun k9 y9 _ _ h => HS hb2 k9 y9 h⟩
  ·intro ll bb w' hs hlf hN hO hf hI hA
   clear hi'
   obtain ⟨B, D, hv, ho, hc⟩ := hA 2 (by kernel_rfl)
   have q57 : bb.tmps[57]? = some _ := hf.tmp (k := 2) rfl (by rw [ha]; decide) hv
   have hl := fun ty => ho.len Tryz.underlying50 ty
   exact Rg.zf (o := ⟨some 58, Op.call { callee := Callee.builtin Builtin.len, args := #[Operand.tmp 57], argTypes := #[50] }, _, _, _, _⟩) (x := .int .i64 (Maps.size D)) rfl rfl (by clear hA hN hO HS hX hG hD hv ho hc; simp only [execOp, resolve, invoke, builtin]; simp [Act.eval, q57, hl, Result.andThen, Array.getElem?_eq_some_iff] <;> (first | done | go_simp)) ⟨_, rfl, (fun h => by cases h), ⟨Maps.size D, rfl, hc.size'.2⟩, hI, fun _ _ _ _ h => h⟩
  ·intro ll bb w' hs hlf hN hO hf hI hA
   clear hi'
   have q1 := hf.kept (s := 1) (by rw [zew]; kernel_rfl) k1
   exact Rg.zf (o := ⟨some 59, Op.fieldAddr 27 (Operand.tmp 1) 1, _, _, _, _⟩) (x := .pointer (some ⟨CB, 1, none⟩)) rfl rfl (by clear hA hN hO HS hX hG hD; simp only [execOp]; go_simp) ⟨_, rfl, (fun h => by cases h), rfl, hI, fun _ _ _ _ h => h⟩
  ·intro ll bb w' hs hlf hN hO hf hI hA
   clear hi'
   have q59 : bb.tmps[59]? = some _ := hf.tmp (k := 4) rfl (by rw [ha]; decide) (hA 4 (by kernel_rfl))
   obtain ⟨b0, b1⟩ := (hX.below hI).two
   exact Rg.zf (o := ⟨some 60, Op.load 25 (Operand.tmp 59), _, _, _, _⟩) (x := .slice ad ds.length dcap) rfl rfl (by clear hA hN hO HS hX hG hD; simp only [execOp]; go_simp) ⟨_, rfl, (fun h => by cases h), rfl, hI, fun _ _ _ _ h => h⟩
  ·intro ll bb w' hs hlf hN hO hf hI hA
   clear hi'
   have q60 : bb.tmps[60]? = some _ := hf.tmp (k := 5) rfl (by rw [ha]; decide) (hA 5 (by kernel_rfl))
   exact Rg.zf (o := ⟨some 61, Op.call { callee := Callee.builtin Builtin.len, args := #[Operand.tmp 60], argTypes := _ }, _, _, _, _⟩) (x := .int .i64 ds.length) rfl rfl (by clear hA hN hO HS hX hG hD; simp only [execOp]; go_simp) ⟨_, rfl, (fun h => by cases h), rfl, hI, fun _ _ _ _ h => h⟩
  ·intro ll bb w' hs hlf hN hO hf hI hA
   clear hi'
   obtain ⟨z, hv, hz⟩ := hA 3 (by kernel_rfl)
   have q58 : bb.tmps[58]? = some _ := hf.tmp (k := 3) rfl (by rw [ha]; decide) hv
   have q61 : bb.tmps[61]? = some _ := hf.tmp (k := 6) rfl (by rw [ha]; decide) (hA 6 (by kernel_rfl))
   have hw : Value.bool (apartB ds) = .bool (decide (z = ds.length)) := by
    congr 1
    cases h9 : apartB ds with
    | true => exact (decide_eq_true (hz.2 h9)).symm
    | false => exact (decide_eq_false (fun e => by rw [hz.1 e] at h9; cases h9)).symm
   exact Rg.zf (o := ⟨some 62, Op.binOp BinOp.eql 3 (Operand.tmp 58) (Operand.tmp 61) 3, _, _, _, _⟩) (x := .bool (apartB ds)) rfl rfl (by rw [hw]; clear hA hN hO HS hX hG hD hv hz hw; simp only [execOp]; go_simp; by_cases e : z = ds.length <;> simp [e] <;> omega) ⟨_, rfl, (fun h => by cases h), rfl, hI, fun _ _ _ _ h => h⟩
  ·intro ll bb w' hs hlf hN hO hf hI hA
   clear hi'
   have q62 : bb.tmps[62]? = some _ := hf.tmp (k := 7) rfl (by rw [ha]; decide) (hA 7 (by kernel_rfl))
   exact Rg.zf (o := ⟨some 2, Op.assign (Operand.tmp 62), _, _, _, _⟩) (x := .bool (apartB ds)) rfl rfl (by clear hA hN hO HS hX hG hD; simp only [execOp]; go_simp) ⟨_, rfl, (fun h => by cases h), rfl, hI, fun _ _ _ _ h => h⟩
theorem layP10 {a b : Act} (hf : Rg.Fr (Rg.opsOf Tryz.f32 10) a b) : b = Rg.fl (Rg.opsOf Tryz.f32 10) b 0 [some 55, some 56, some 57, some 58, some 59, some 60, some 61, some 62, some 2] a := Rg.ql _ (by kernel_rfl) hf
theorem oneD_eqP {os : List Od} {ds : List Ds} {i k : Nat} {d : Ds} (hr : Ris os) (hd : ds[i]? = some d) (hc : Cut os d.o k) (ym : Int) (hy : ym = (ds.getD (i - 1) default).m) : yj os ds i = !((!(qm os d.o k) || (!(je (os.getD k default) d))) || ((decide ((0 : Int) < (i : Int))) && (decide (d.m < ym)))) := by
 have e1 : decide (i = 0) = !decide ((0 : Int) < (i : Int)) := by by_cases h : i = 0 <;> simp [h]; omega
 have e2 : decide (ym <= d.m) = !decide (d.m < ym) := by by_cases h : ym <= d.m <;> simp [h] <;> omega
 cases hq : qm os d.o k with
 | true =>
  obtain ⟨h1, o, ho, _⟩ := zbx hr hc hq
  rw [zgb hd h1 ho, jm ho, <- hy, e1, e2]
  cases je o d <;> cases decide ((0 : Int) < (i : Int)) <;> cases decide (d.m < ym) <;> rfl
 | false =>
  have h1 := zdz hr hc hq
  have h2 : yj os ds i = false := by
   unfold yj
   simp only
   rw [zbj hd, h1]
   rfl
  rw [h2]
  rfl
theorem bd_of {os : List Od} {ds : List Ds} {i : Nat} {d : Ds} (ho : ∀ i, i < os.length -> qj os i = true) (h : yj os ds i = true) (hd : ds[i]? = some d) : Bd d.o /\ Bd d.t := by
 unfold yj at h
 simp only at h
 rw [zbj hd] at h
 simp only [Bool.and_eq_true, decide_eq_true_eq] at h
 obtain ⟨h0, -, h2, -⟩ := h
 obtain ⟨k, hk⟩ := Int.eq_ofNat_of_zero_le h0
 obtain ⟨o, hok, hid⟩ := zdy hk
 have hl := (List.getElem?_eq_some_iff.1 hok).1
 have hr := ho k hl
 simp only [qj, Bool.and_eq_true, jm hok] at hr
 have hod := hr.1
 simp only [odB, Bool.and_eq_true, zax] at hod
 rw [hk, Int.toNat_natCast, jm hok] at h2
 have h3 := zax.1 h2
 unfold Bd
 omega
set_option maxRecDepth 20000 in
set_option maxHeartbeats 16000000 in
theorem zk8 (ao : Option Addr) (n cap : Nat) (ad : Option Addr) (m dcap : Nat) (os : List Od) (ds : List Ds) (w : World) (ho : VRw 9 jd w (.slice ao n cap) os) (hd : VRw 5 jy w (.slice ad m dcap) ds) (hn : os.length <= 100) (hm : ds.length <= 1048576) (hall : ∀ i, i < os.length -> qj os i = true) :
  Calls Tryz.prog 32 #[.agg #[.slice ao n cap, .slice ad m dcap]] w fun e w' => e = .returned (.bool (decide (ds.length <= 500) && ((List.range ds.length).all (yj os ds) && apartB ds))) /\ Below w.heap.size w w' := by
 obtain rfl := ho.len
 obtain rfl := hd.len
 generalize hR : (decide (ds.length <= 500) && ((List.range ds.length).all (yj os ds) && apartB ds)) = R
 have HR := hidden hR.symm
 have HRis := hidden (zcd hall)
 have HAll := hidden hall
 clear hR hall
 have hb0 : Below w.heap.size w (w.alloc (.cells #[.slice ao os.length cap, .slice ad ds.length dcap] 27)) := (Below.refl _ _).alloc (Nat.le_refl _) _
 have HX := hidden (PB.new w #[.slice ao os.length cap, .slice ad ds.length dcap] 27)
 have HO := hidden (ho.below hb0)
 have HD := hidden (hd.below hb0)
 have HB := hidden hb0
 have hP := hidden (fun id W hW => zcc ao os.length cap (.slice ad ds.length dcap) os id W hW (by omega) HRis.out ⟨_, _, _, rfl⟩)
 clear ho hd hb0
 go_enter Tryz.func32, Tryz.ntmps32
 go_upto_region 1 with fail
 generalize w.alloc (.cells #[.slice ao os.length cap, .slice ad ds.length dcap] 27) = wA at *
 generalize Value.agg #[.slice ao os.length cap, .slice ad ds.length dcap] = av
 generalize w.heap.size = CB at HX ⊢
 obtain ⟨b0, b1⟩ := HX.out.two
 by_cases h500 : (500 : Int) < (ds.length : Int)
 ·have HN : Hid (decide (ds.length <= 500) = false) := decide_eq_false (by omega)
  go_wp2_with fail
  go_ret
  exact ⟨qw (by rw [HR.out, HN.out]; rfl), HB.out⟩
 have HY : Hid (decide (ds.length <= 500) = true) := decide_eq_true (by omega)
 have hl2 : ds.length <= 500 := by omega
 go_wp2_with fail
 clear b0 b1
 go_loopw [3, 4, 5, 6, 14] (fun _ _ _ _ iv wr => ∃ i : Nat, i <= ds.length /\ iv = .int .i64 i /\ Below wA.heap.size wA wr /\ Hid (∀ j, j < i -> yj os ds j = true)) (fun _ _ _ _ iv _ => ds.length - (intOf iv).toNat)
 case atStart => exact ⟨0, Nat.zero_le _, rfl, Below.refl _ _, fun j hj => absurd hj (Nat.not_lt_zero _)⟩
 case round =>
  obtain ⟨i, hi, rfl, hb, hok⟩ := hrel
  by_cases hlt : i < ds.length
  ·have hlti : (i : Int) < (ds.length : Int) := by omega
   obtain ⟨x, hx⟩ := zaa ds i hlt
   obtain ⟨g, off, rfl, hg, hcs⟩ := (HD.out.below hb).at hx
   obtain ⟨ym, hym⟩ : ∃ ym, ym = (ds.getD (i - 1) default).m := ⟨_, rfl⟩
   have HY2 : Hid (0 < i -> wr.cell? ⟨g, off + (i - 1) * 5 + 2, none⟩ = some (.int .i64 ym)) := fun h0 => by
    obtain ⟨y, hy⟩ := zaa ds (i - 1) (by omega)
    obtain ⟨g', off', he, _, hcs'⟩ := (HD.out.below hb).at hy
    obtain ⟨rfl, rfl⟩ : g = g' /\ off = off' := by simpa using he
    rw [hym, zbj hy]
    exact hcs' 2 (by omega)
   have HEq := hidden (fun k (hc : Cut os x.o k) => oneD_eqP HRis.out hx hc ym hym)
   have c0 : wr.cell? ⟨g, off + i * 5, none⟩ = some (.int .i64 x.o) := hcs 0 (by omega)
   have c1 : wr.cell? ⟨g, off + i * 5 + 1, none⟩ = some (.int .i64 x.t) := hcs 1 (by omega)
   have c2 : wr.cell? ⟨g, off + i * 5 + 2, none⟩ = some (.int .i64 x.m) := hcs 2 (by omega)
   have c3 : wr.cell? ⟨g, off + i * 5 + 3, none⟩ = some (.int .i64 x.b) := hcs 3 (by omega)
   have c4 : wr.cell? ⟨g, off + i * 5 + 4, none⟩ = some (.int .i64 x.a) := hcs 4 (by omega)
   have HBw := hidden hb
   clear hym hx hcs hb
   go_upto_region 6 with fail
   have bx : Below wr.heap.size wr (wr.alloc (.cells #[.int .i64 x.o, .int .i64 x.t, .int .i64 x.m, .int .i64 x.b, .int .i64 x.a] 35)) := (Below.refl _ _).alloc (Nat.le_refl _) _
   have HPD := hidden (PB.new wr #[.int .i64 x.o, .int .i64 x.t, .int .i64 x.m, .int .i64 x.b, .int .i64 x.a] 35)
   have HBx := hidden bx
   have HB2 := hidden (onto HBw.out bx)
   clear bx c0 c1 c2 c3 c4
   generalize wr.alloc (.cells #[.int .i64 x.o, .int .i64 x.t, .int .i64 x.m, .int .i64 x.b, .int .i64 x.a] 35) = w1 at *
   generalize wr.heap.size = DB at HPD ⊢
   obtain ⟨b0, b1⟩ := (HX.out.below HB2.out).two
   obtain ⟨d0, d1, d2, d3, d4⟩ := HPD.out.five
   have hPl := hP.out x.o w1 (HO.out.below HB2.out)
   go_upto_region 7 with (go_at_call 53; refine hPl.mono ?_; rintro e w2 ⟨k, hcut, rfl, hb2⟩)
   have HB3 := hidden (onto HB2.out hb2)
   have hK := zj5 (os.getD k default) x
   unfold aOd aDs at hK
   have HEk := hidden (HEq.out k hcut)
   have HTh : Hid (qm os x.o k = true -> ∃ go oo, ao = some ⟨go, oo, none⟩ /\ k < os.length /\ go < w2.heap.size /\ ∀ j, j < 9 -> w2.cell? ⟨go, oo + k * 9 + j, none⟩ = some (jd (os.getD k default) j)) := fun hq => by
    obtain ⟨-, o, hok2, -⟩ := zbx HRis.out hcut hq
    obtain ⟨go, oo, he, hgo, hc9⟩ := (HO.out.below HB3.out).at hok2
    exact ⟨go, oo, he, (List.getElem?_eq_some_iff.1 hok2).1, hgo, fun j hj => by rw [jm hok2]; exact hc9 j hj⟩
   have hY3 : 0 < i -> w2.cell? ⟨g, off + (i - 1) * 5 + 2, none⟩ = some (.int .i64 ym) := fun h0 => (((HBx.out.trans (hb2.mono HBx.out.size)).cell (p := ⟨g, off + (i - 1) * 5 + 2, none⟩) hg)).trans (HY2.out h0)
   have hg2 : g < w2.heap.size := Nat.lt_of_lt_of_le hg (Nat.le_trans HBx.out.size hb2.size)
   have HPD2 := HPD.out.below hb2
   clear b0 b1 d0 d1 d2 d3 d4 hPl HEq HY2 hb2 HB2 hcut HPD
   generalize (os.getD k default) = o at *
   generalize qm os x.o k = th at *
   obtain ⟨go, oo, hT⟩ : ∃ go oo : Nat, th = true -> Value.slice ao os.length cap = .slice (some ⟨go, oo, none⟩) os.length cap /\ k < os.length /\ go < w2.heap.size /\ ∀ j, j < 9 -> w2.cell? ⟨go, oo + k * 9 + j, none⟩ = some (jd o j) := by
    cases th with
    | false => exact ⟨0, 0, fun h => by cases h⟩
    | true => obtain ⟨go, oo, h1, h2, h3, h4⟩ := HTh.out rfl; exact ⟨go, oo, fun _ => ⟨by rw [h1], h2, h3, h4⟩⟩
   clear HTh
   refine regP7 (x := o) (d := x) (ym := ym) (th := th) (go := go) (oo := oo) (k := k) (no := os.length) (co := cap) rfl rfl rfl rfl rfl rfl (HX.out.below HB3.out) HPD2 hlt (by omega) hg2 (fun h => ?_) hY3 hK ?_
   ·obtain ⟨h1, h2, h3, h4⟩ := hT h
    exact ⟨h1, h2, h3, h4 0 (by omega), h4 1 (by omega), h4 2 (by omega), h4 3 (by omega), h4 4 (by omega), h4 5 (by omega), h4 6 (by omega), h4 7 (by omega), h4 8 (by omega)⟩
   intro b' w3 hf hb3 hv
   (rw [layP7 hf]; simp only [Rg.fl0, Rg.fl1, Rg.fl2, Nat.reduceAdd]; rw [hv])
   have HB4 := hidden (onto HB3.out hb3)
   clear hv hf hK hb3 hT hY3 HPD2
   generalize Rg.out (Rg.opsOf Tryz.f32 7) b' 0 = y0
   generalize Rg.out (Rg.opsOf Tryz.f32 7) b' 1 = y1
   generalize Rg.out (Rg.opsOf Tryz.f32 7) b' 2 = y2
   generalize Rg.out (Rg.opsOf Tryz.f32 7) b' 3 = y3
   generalize Rg.out (Rg.opsOf Tryz.f32 7) b' 4 = y4
   generalize Rg.out (Rg.opsOf Tryz.f32 7) b' 5 = y5
   generalize Rg.out (Rg.opsOf Tryz.f32 7) b' 6 = y6
   generalize Rg.out (Rg.opsOf Tryz.f32 7) b' 7 = y7
   generalize Rg.out (Rg.opsOf Tryz.f32 7) b' 8 = y8
   generalize Rg.out (Rg.opsOf Tryz.f32 7) b' 9 = y9
   generalize Rg.out (Rg.opsOf Tryz.f32 7) b' 10 = y10
   generalize Rg.out (Rg.opsOf Tryz.f32 7) b' 11 = y11
   generalize Rg.out (Rg.opsOf Tryz.f32 7) b' 12 = y12
   generalize Rg.out (Rg.opsOf Tryz.f32 7) b' 13 = y13
   generalize Rg.out (Rg.opsOf Tryz.f32 7) b' 14 = y14
   generalize Rg.out (Rg.opsOf Tryz.f32 7) b' 15 = y15
   generalize Rg.out (Rg.opsOf Tryz.f32 7) b' 16 = y16
   generalize Rg.out (Rg.opsOf Tryz.f32 7) b' 17 = y17
   generalize Rg.out (Rg.opsOf Tryz.f32 7) b' 18 = y18
   generalize Rg.out (Rg.opsOf Tryz.f32 7) b' 19 = y19
   generalize Rg.out (Rg.opsOf Tryz.f32 7) b' 20 = y20
   generalize Rg.out (Rg.opsOf Tryz.f32 7) b' 21 = y21
   generalize Rg.out (Rg.opsOf Tryz.f32 7) b' 22 = y22
   generalize Rg.out (Rg.opsOf Tryz.f32 7) b' 23 = y23
   generalize Rg.out (Rg.opsOf Tryz.f32 7) b' 24 = y24
   generalize Rg.out (Rg.opsOf Tryz.f32 7) b' 25 = y25
   generalize Rg.out (Rg.opsOf Tryz.f32 7) b' 26 = y26
   cases hq : yj os ds i with
   | false =>
    have HN : Hid ((List.range ds.length).all (yj os ds) = false) := by rw [Hid, List.all_eq_false]; exact ⟨i, List.mem_range.2 hlt, by simp [hq]⟩
    rw [hq] at HEk
    generalize (((!th) || (!(je o x))) || ((decide ((0 : Int) < (i : Int))) && (decide (x.m < ym)))) = t at *
    obtain rfl : t = true := by have := HEk.out; simpa using this
    go_frame
    go_wp2_with fail
    go_ret
    exact ⟨qw (by rw [HR.out, HY.out, HN.out]; rfl), onto HB.out HB4.out⟩
   | true =>
    rw [hq] at HEk
    generalize (((!th) || (!(je o x))) || ((decide ((0 : Int) < (i : Int))) && (decide (x.m < ym)))) = t at *
    obtain rfl : t = false := by have := HEk.out; simpa using this
    have HOk : Hid (∀ j, j < i + 1 -> yj os ds j = true) := fun j hj => by
     by_cases e : j = i
     ·subst e; exact hq
     ·exact hok.out j (by omega)
    clear hq HEk hok
    go_frame
    go_wp2_with fail
    go_roundw
    case rel => exact ⟨i + 1, by omega, rfl, HB4.out, HOk⟩
    case measure => simp [intOf]; omega
  ·have hlti : ¬ (i : Int) < (ds.length : Int) := by omega
   have HAl : Hid (∀ j, j < ds.length -> yj os ds j = true) := fun j hj => hok.out j (by omega)
   have HN : Hid ((List.range ds.length).all (yj os ds) = true) := by
    rw [Hid, List.all_eq_true]; intro j hj; exact HAl.out j (List.mem_range.1 hj)
   have HBw := hidden hb
   clear hb hok
   go_upto_region 10 with fail
   refine regP10 (ds := ds) (so := .slice ao os.length cap) rfl rfl (HX.out.below HBw.out) (HD.out.below HBw.out) (fun W hW => zgt ad ds.length dcap ds W hW hl2 (fun j d hj => bd_of HAll.out (HAl.out j (List.getElem?_eq_some_iff.1 hj).1) hj)) ?_
   intro b' w3 hf hb3 hv
   (rw [layP10 hf]; simp only [Rg.fl0, Rg.fl1, Rg.fl2, Nat.reduceAdd]; rw [hv])
   have HB4 := hidden (onto HBw.out hb3)
   clear hv hf hb3
   generalize Rg.out (Rg.opsOf Tryz.f32 10) b' = yF
   go_frame
   go_wp2_with fail
   go_ret
   exact ⟨qw (by rw [HR.out, HY.out, HN.out]; rfl), onto HB.out HB4.out⟩
set_option maxRecDepth 20000 in
set_option maxHeartbeats 16000000 in
theorem zic (ao : Option Addr) (n cap : Nat) (ad : Option Addr) (m dcap : Nat) (os : List Od) (ds : List Ds) (w : World) (ho : VRw 9 jd w (.slice ao n cap) os) (hd : VRw 5 jy w (.slice ad m dcap) ds) (hn : os.length <= 1048576) (hm : ds.length <= 1048576) :
  Calls Tryz.prog 14 #[.agg #[.slice ao n cap, .slice ad m dcap]] w fun e w' => e = .returned (.bool (ji os ds)) /\ Below w.heap.size w w' := by
 have HV : Hid (ji os ds = ((decide (os.length <= 100) && (List.range os.length).all (qj os)) && (decide (ds.length <= 500) && ((List.range ds.length).all (yj os ds) && apartB ds)))) := by
  rw [Hid, chart_eq]
  have e : decide (os.length <= 100 /\ ds.length <= 500) = (decide (os.length <= 100) && decide (ds.length <= 500)) := by by_cases a : os.length <= 100 <;> by_cases b : ds.length <= 500 <;> simp [a, b]
  rw [e]
  cases decide (os.length <= 100) <;> cases decide (ds.length <= 500) <;> cases (List.range os.length).all (qj os) <;> cases (List.range ds.length).all (yj os ds) <;> rfl
 obtain rfl := ho.len
 obtain rfl := hd.len
 have hb0 : Below w.heap.size w (w.alloc (.cells #[.slice ao os.length cap, .slice ad ds.length dcap] 27)) := (Below.refl _ _).alloc (Nat.le_refl _) _
 have HX := hidden (PB.new w #[.slice ao os.length cap, .slice ad ds.length dcap] 27)
 have HO := hidden (ho.below hb0)
 have HD := hidden (hd.below hb0)
 have HB := hidden hb0
 have H1 := hidden (fun W hW => zjo ao os.length cap os W hW hn)
 have H2 : Hid ((decide (os.length <= 100) && (List.range os.length).all (qj os)) = true -> ∀ W, VRw 9 jd W (.slice ao os.length cap) os -> VRw 5 jy W (.slice ad ds.length dcap) ds -> Calls Tryz.prog 32 #[.agg #[.slice ao os.length cap, .slice ad ds.length dcap]] W fun e w' => e = .returned (.bool (decide (ds.length <= 500) && ((List.range ds.length).all (yj os ds) && apartB ds))) /\ Below W.heap.size W w') := fun hq W h1 h2 => by
  simp only [Bool.and_eq_true, decide_eq_true_eq, List.all_eq_true, List.mem_range] at hq
  exact zk8 ao os.length cap ad ds.length dcap os ds W h1 h2 hq.1 hm hq.2
 clear ho hd hb0
 generalize ji os ds = R at *
 generalize (decide (os.length <= 100) && (List.range os.length).all (qj os)) = t1 at *
 generalize (decide (ds.length <= 500) && ((List.range ds.length).all (yj os ds) && apartB ds)) = t2 at *
 go_enter Tryz.func14, Tryz.ntmps14
 go_upto_region 1 with fail
 generalize w.alloc (.cells #[.slice ao os.length cap, .slice ad ds.length dcap] 27) = wA at *
 generalize w.heap.size = CB at HX ⊢
 obtain ⟨b0, b1⟩ := HX.out.two
 cases t1 with
 | false =>
  go_wp2_with (go_at_call 31; refine (H1.out _ HO.out).mono ?_; rintro e w1 ⟨rfl, hb1⟩)
  go_ret
  exact ⟨qw (by rw [HV.out]; rfl), onto HB.out hb1⟩
 | true =>
  have H3 := hidden (H2.out rfl)
  clear H2
  go_wp2_with (first | (go_at_call 31; refine (H1.out _ HO.out).mono ?_; rintro e w1 ⟨rfl, hb1⟩; obtain ⟨e0, e1⟩ := (HX.out.below hb1).two) | (go_at_call 32; refine (H3.out _ (HO.out.below hb1) (HD.out.below hb1)).mono ?_; rintro e w2 ⟨rfl, hb2⟩))
  go_ret
  exact ⟨qw (by rw [HV.out]; rfl), onto (onto HB.out hb1) hb2⟩
end Go.Proofs.YtjlpfpigggdemaaGreatDoor
