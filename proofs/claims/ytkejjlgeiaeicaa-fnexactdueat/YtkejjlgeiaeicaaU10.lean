/-
  Right charts: the program.
-/
import Derived.Test.YtkejjlgeiaeicaaU8
import Derived.Test.YtkejjlgeiaeicaaU9
namespace Go.Proofs.Ytkejjlgeiaeicaa
open Go.RowKit Va Uo Go.Maps
set_option linter.all false

theorem mkmapT (n : Int) (w : World) : (Instr.makeMap 75 (some (.int .i64 n))).run Try.prog w = .ok (.map (some w.heap.size)) (w.alloc (.map #[] 0)) := by
  simp [Instr.makeMap, run_underlying Try.underlying75, asInt, asIntOf, Result.andThen]

set_option maxRecDepth 20000 in
set_option maxHeartbeats 4000000 in
theorem igiven_any (ad : Option Addr) (m dcap : Nat) (ds : List Ds) (w : World) (hd : VRw 5 cvDs w (.slice ad m dcap) ds) (hm : ds.length ≤ 500) (hbd : ∀ (i : Nat) (d : Ds), ds[i]? = some d → Bd d.o ∧ Bd d.t) :
    Calls Try.prog 43 #[.slice ad m dcap] w fun e w' => e = .returned (.map (some w.heap.size)) ∧ (∃ D, w'.ownsMap Try.prog 101 (plainElem Try.prog 3) w.heap.size 500 D ∧ Cnt D ds) ∧ Below w.heap.size w w' := by
  obtain rfl := hd.len
  have HD := hidden hd
  have HBd := hidden hbd
  have hmm := mkmapT
  have HO := hidden (World.ownsMap_made w Try.prog 101 (plainElem (H := Unit) Try.prog 3))
  have HB : Hid (Below w.heap.size w (w.alloc (.map #[] 0))) := (Below.refl _ _).alloc (Nat.le_refl _) _
  clear hd hbd
  go_enter Try.func43, Try.ntmps43
  go_wp2_with fail
  go_loopw [5, 11] (fun _ iv wr => ∃ (i : Nat) (D : DataW Unit), i ≤ ds.length ∧ iv = .int .i64 i ∧ wr.ownsMap Try.prog 101 (plainElem Try.prog 3) w.heap.size i D ∧ Hid (Cnt D (ds.take i)) ∧ Below w.heap.size w wr) (fun _ iv _ => ds.length - (intOf iv).toNat)
  case atStart => exact ⟨0, .map [], Nat.zero_le _, rfl, HO.out, Cnt.nil, HB.out⟩
  case round =>
    clear HO HB hmm
    obtain ⟨i, D, hi, rfl, ho, hC, hb⟩ := hrel
    by_cases hlt : i < ds.length
    · have hlti : (i : Int) < (ds.length : Int) := by omega
      obtain ⟨x, hx⟩ := some_of ds i hlt
      obtain ⟨bo, bt⟩ := HBd.out i x hx
      obtain ⟨g, off, rfl, hg, hcs⟩ := (HD.out.below hb).at hx
      have c0 : wr.cell? ⟨g, off + i * 5, none⟩ = some (.int .i64 x.o) := hcs 0 (by omega)
      have c1 : wr.cell? ⟨g, off + i * 5 + 1, none⟩ = some (.int .i64 x.t) := hcs 1 (by omega)
      have c2 : wr.cell? ⟨g, off + i * 5 + 2, none⟩ = some (.int .i64 x.m) := hcs 2 (by omega)
      have c3 : wr.cell? ⟨g, off + i * 5 + 3, none⟩ = some (.int .i64 x.b) := hcs 3 (by omega)
      have c4 : wr.cell? ⟨g, off + i * 5 + 4, none⟩ = some (.int .i64 x.a) := hcs 4 (by omega)
      obtain ⟨c, hc, p0, p1, -⟩ := hC.out.at' x.o x.t bo bt
      have hp1 : c ≤ 1000000 := by rw [List.length_take] at p1; omega
      have HC2 : Hid (Cnt (D.put (kT x.o x.t) (.lit (.int .i64 (c + 1)))) (ds.take (i + 1))) := by
        rw [Hid, List.take_add_one, hx]; exact hC.out.snoc bo bt hc
      have hmb : w.heap.size < wr.heap.size := ho.lt
      have HOw := hidden ho
      have HBw := hidden hb
      have HCk := hidden hc
      clear hcs hx ho hb hC hc p1
      go_upto_region 5 with fail
      refine regG5 (w0 := w) (base := w.heap.size) (V := wr.heap.size) (b := w.heap.size) (n := i) (x := x) (D := D) (c := c) rfl rfl rfl (HBw.out.alloc HBw.out.size _) (Nat.le_refl _) (Nat.le_refl _) (PB.new _ _ _) (by omega) (HOw.out.alloc _) (by unfold maxLen; omega) bo bt HCk.out p0 hp1 ?_
      intro b' w3 hf hb3 ho3
      rw [layG5 hf]
      clear hf
      generalize Rg.out (Rg.opsOf Try.f43 5) b' 0 = y0
      generalize Rg.out (Rg.opsOf Try.f43 5) b' 1 = y1
      generalize Rg.out (Rg.opsOf Try.f43 5) b' 2 = y2
      generalize Rg.out (Rg.opsOf Try.f43 5) b' 3 = y3
      generalize Rg.out (Rg.opsOf Try.f43 5) b' 4 = y4
      generalize Rg.out (Rg.opsOf Try.f43 5) b' 5 = y5
      generalize Rg.out (Rg.opsOf Try.f43 5) b' 6 = y6
      generalize Rg.out (Rg.opsOf Try.f43 5) b' 7 = y7
      generalize Rg.out (Rg.opsOf Try.f43 5) b' 8 = y8
      generalize Rg.out (Rg.opsOf Try.f43 5) b' 9 = y9
      go_frame
      go_wp2_with fail
      go_roundw
      case rel => exact ⟨i + 1, _, by omega, rfl, ho3, HC2, hb3⟩
      case measure => simp [intOf]; omega
    · have hlti : ¬ (i : Int) < (ds.length : Int) := by omega
      have hil : i = ds.length := by omega
      have HC2 : Hid (Cnt D ds) := by have := hC.out; rw [hil, List.take_length] at this; exact this
      go_wp2_with fail
      go_ret
      exact ⟨rfl, ⟨D, ho.mono (by omega), HC2.out⟩, hb⟩

theorem okOd_eqP {os : List Od} {i : Nat} {x : Od} (hx : os[i]? = some x) (yid : Int) (hy : yid = (os.getD (i - 1) default).id) : okOd os i = !((!(odB x)) || ((decide ((0 : Int) < (i : Int))) && (decide (x.id ≤ yid)))) := by
  unfold okOd
  rw [od_getD hx, ← hy]
  have e1 : decide (i = 0) = !decide ((0 : Int) < (i : Int)) := by by_cases h : i = 0 <;> simp [h]; omega
  have e2 : decide (yid < x.id) = !decide (x.id ≤ yid) := by by_cases h : yid < x.id <;> simp [h] <;> omega
  rw [e1, e2]
  cases odB x <;> cases decide ((0 : Int) < (i : Int)) <;> cases decide (x.id ≤ yid) <;> rfl

set_option maxRecDepth 20000 in
set_option maxHeartbeats 8000000 in
theorem iorders_any (ao : Option Addr) (n cap : Nat) (os : List Od) (w : World) (ho : VRw 9 cvOd w (.slice ao n cap) os) (hn : os.length ≤ 1048576) :
    Calls Try.prog 37 #[.slice ao n cap] w fun e w' => e = .returned (.bool (decide (os.length ≤ 100) && (List.range os.length).all (okOd os))) ∧ Below w.heap.size w w' := by
  obtain rfl := ho.len
  have HO := hidden ho
  have HV : Hid ((decide (os.length ≤ 100) && (List.range os.length).all (okOd os)) = (decide (os.length ≤ 100) && (List.range os.length).all (okOd os))) := rfl
  generalize hR : (decide (os.length ≤ 100) && (List.range os.length).all (okOd os)) = R
  have HR := hidden hR.symm
  clear ho HV hR
  by_cases h100 : (100 : Int) < (os.length : Int)
  · have HN : Hid (decide (os.length ≤ 100) = false) := decide_eq_false (by omega)
    go_enter Try.func37, Try.ntmps37
    go_wp2_with fail
    go_ret
    exact ⟨ret_boolU (by rw [HR.out, HN.out]; rfl), Below.refl _ _⟩
  have HY : Hid (decide (os.length ≤ 100) = true) := decide_eq_true (by omega)
  have hl1 : os.length ≤ 100 := by omega
  go_enter Try.func37, Try.ntmps37
  go_wp2_with fail
  go_loopw [3, 4, 10] (fun _ _ iv wr => ∃ i : Nat, i ≤ os.length ∧ iv = .int .i64 i ∧ Below w.heap.size w wr ∧ Hid (∀ j, j < i → okOd os j = true)) (fun _ _ iv _ => os.length - (intOf iv).toNat)
  case atStart => exact ⟨0, Nat.zero_le _, rfl, Below.refl _ _, fun j hj => absurd hj (Nat.not_lt_zero _)⟩
  case round =>
    obtain ⟨i, hi, rfl, hb, hok⟩ := hrel
    by_cases hlt : i < os.length
    · have hlti : (i : Int) < (os.length : Int) := by omega
      obtain ⟨x, hx⟩ := some_of os i hlt
      obtain ⟨g, off, rfl, hg, hcs⟩ := (HO.out.below hb).at hx
      obtain ⟨yid, hyid⟩ : ∃ yid, yid = (os.getD (i - 1) default).id := ⟨_, rfl⟩
      have HY0 : Hid (0 < i → wr.cell? ⟨g, off + (i - 1) * 9, none⟩ = some (.int .i64 yid)) := fun h0 => by
        obtain ⟨y, hy⟩ := some_of os (i - 1) (by omega)
        obtain ⟨g', off', he, _, hcs'⟩ := (HO.out.below hb).at hy
        obtain ⟨rfl, rfl⟩ : g = g' ∧ off = off' := by simpa using he
        rw [hyid, od_getD hy]
        exact hcs' 0 (by omega)
      have HEq := hidden (okOd_eqP hx yid hyid)
      have hK := iod_any x
      unfold aOd at hK
      have c0 : wr.cell? ⟨g, off + i * 9, none⟩ = some (.int .i64 x.id) := hcs 0 (by omega)
      have c1 : wr.cell? ⟨g, off + i * 9 + 1, none⟩ = some (.int .i64 x.p) := hcs 1 (by omega)
      have c2 : wr.cell? ⟨g, off + i * 9 + 2, none⟩ = some (.int .i64 x.d) := hcs 2 (by omega)
      have c3 : wr.cell? ⟨g, off + i * 9 + 3, none⟩ = some (.int .i64 x.n) := hcs 3 (by omega)
      have c4 : wr.cell? ⟨g, off + i * 9 + 4, none⟩ = some (.int .i64 x.f) := hcs 4 (by omega)
      have c5 : wr.cell? ⟨g, off + i * 9 + 5, none⟩ = some (.int .i64 x.e) := hcs 5 (by omega)
      have c6 : wr.cell? ⟨g, off + i * 9 + 6, none⟩ = some (.int .i64 x.c) := hcs 6 (by omega)
      have c7 : wr.cell? ⟨g, off + i * 9 + 7, none⟩ = some (.int .i64 x.s) := hcs 7 (by omega)
      have c8 : wr.cell? ⟨g, off + i * 9 + 8, none⟩ = some (.bool x.two) := hcs 8 (by omega)
      have HBw := hidden hb
      clear hyid hx hcs hb
      go_upto_region 6 with fail
      have bx : Below wr.heap.size wr (wr.alloc (.cells #[.int .i64 x.id, .int .i64 x.p, .int .i64 x.d, .int .i64 x.n, .int .i64 x.f, .int .i64 x.e, .int .i64 x.c, .int .i64 x.s, .bool x.two] 62)) := (Below.refl _ _).alloc (Nat.le_refl _) _
      refine regP6 (x := x) (yid := yid) rfl rfl rfl rfl (PB.new _ _ _) hlt (by omega) (Nat.lt_of_lt_of_le hg bx.size) (fun h0 => (bx.cell (p := ⟨g, off + (i - 1) * 9, none⟩) hg).trans (HY0.out h0)) hK ?_
      intro b' w3 hf hb3 hv
      rw [layP6 hf, hv]
      have HB3 := hidden (onto HBw.out (onto bx hb3))
      clear hv hf hK hb3 bx HY0 HBw
      generalize Rg.out (Rg.opsOf Try.f37 6) b' 0 = y0
      generalize Rg.out (Rg.opsOf Try.f37 6) b' 1 = y1
      generalize Rg.out (Rg.opsOf Try.f37 6) b' 2 = y2
      generalize Rg.out (Rg.opsOf Try.f37 6) b' 3 = y3
      generalize Rg.out (Rg.opsOf Try.f37 6) b' 4 = y4
      generalize Rg.out (Rg.opsOf Try.f37 6) b' 5 = y5
      generalize Rg.out (Rg.opsOf Try.f37 6) b' 6 = y6
      generalize Rg.out (Rg.opsOf Try.f37 6) b' 7 = y7
      generalize Rg.out (Rg.opsOf Try.f37 6) b' 8 = y8
      generalize Rg.out (Rg.opsOf Try.f37 6) b' 9 = y9
      generalize Rg.out (Rg.opsOf Try.f37 6) b' 10 = y10
      generalize Rg.out (Rg.opsOf Try.f37 6) b' 11 = y11
      generalize Rg.out (Rg.opsOf Try.f37 6) b' 12 = y12
      generalize Rg.out (Rg.opsOf Try.f37 6) b' 13 = y13
      generalize Rg.out (Rg.opsOf Try.f37 6) b' 14 = y14
      generalize Rg.out (Rg.opsOf Try.f37 6) b' 15 = y15
      generalize Rg.out (Rg.opsOf Try.f37 6) b' 16 = y16
      cases hq : okOd os i with
      | false =>
        have HN : Hid ((List.range os.length).all (okOd os) = false) := by rw [Hid, List.all_eq_false]; exact ⟨i, List.mem_range.2 hlt, by simp [hq]⟩
        rw [hq] at HEq
        generalize ((!(odB x)) || ((decide ((0 : Int) < (i : Int))) && (decide (x.id ≤ yid)))) = t at *
        obtain rfl : t = true := by have := HEq.out; simpa using this
        go_frame
        go_wp2_with fail
        go_ret
        exact ⟨ret_boolU (by rw [HR.out, HY.out, HN.out]; rfl), HB3.out⟩
      | true =>
        rw [hq] at HEq
        generalize ((!(odB x)) || ((decide ((0 : Int) < (i : Int))) && (decide (x.id ≤ yid)))) = t at *
        obtain rfl : t = false := by have := HEq.out; simpa using this
        have HOk : Hid (∀ j, j < i + 1 → okOd os j = true) := fun j hj => by
          by_cases e : j = i
          · subst e; exact hq
          · exact hok.out j (by omega)
        clear hq HEq hok
        go_frame
        go_wp2_with fail
        go_roundw
        case rel => exact ⟨i + 1, by omega, rfl, HB3.out, HOk⟩
        case measure => simp [intOf]; omega
    · have hlti : ¬ (i : Int) < (os.length : Int) := by omega
      have HN : Hid ((List.range os.length).all (okOd os) = true) := by
        rw [Hid, List.all_eq_true]; intro j hj; exact hok.out j (by have := List.mem_range.1 hj; omega)
      go_wp2_with fail
      go_ret
      exact ⟨ret_boolU (by rw [HR.out, HY.out, HN.out]; rfl), hb⟩
end Go.Proofs.Ytkejjlgeiaeicaa
