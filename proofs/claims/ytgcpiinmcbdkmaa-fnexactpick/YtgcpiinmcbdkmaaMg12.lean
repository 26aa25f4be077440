/-
  Merged: Q22 Q15.
-/
import Derived.Test.YtgcpiinmcbdkmaaMg11
import Derived.Stop.Asserts
import Derived.Test.YtgcpiinmcbdkmaaMg10
namespace Go.Proofs.Ytgcpiinmcbdkmaa
open Go.RowKit Va Bl
set_option linter.all false
def ifT (st : Int) : TypeId := if st = 1 then 153 else if st = 2 then 154 else if st = 3 then 155 else 156
theorem ifT_1 : ifT 1 = 153 := rfl
theorem ifT_2 : ifT 2 = 154 := rfl
theorem ifT_3 : ifT 3 = 155 := rfl
theorem ifT_4 {st : Int} (h1 : ¬ st = 1) (h2 : ¬ st = 2) (h3 : ¬ st = 3) : ifT st = 156 := by unfold ifT; rw [if_neg h1, if_neg h2, if_neg h3]
def aI (p : Ut × Value) : Value := .iface (ifT p.1.st) (aU p.1 p.2)
theorem m_told1 (a b c d e : Int) (s : Value) (w : World) : (method 331 153 (.agg #[.int .i64 a, .int .i64 b, s, .int .i64 c, .int .i64 d, .int .i64 e]) "loop.example/g00060/impl.told").run Try.prog w = .ok (195, .agg #[.int .i64 a, .int .i64 b, s, .int .i64 c, .int .i64 d, .int .i64 e]) w := by kernel_rfl
theorem m_told2 (a b c d e : Int) (s : Value) (w : World) : (method 331 154 (.agg #[.int .i64 a, .int .i64 b, s, .int .i64 c, .int .i64 d, .int .i64 e]) "loop.example/g00060/impl.told").run Try.prog w = .ok (195, .agg #[.int .i64 a, .int .i64 b, s, .int .i64 c, .int .i64 d, .int .i64 e]) w := by kernel_rfl
theorem m_told3 (a b c d e : Int) (s : Value) (w : World) : (method 331 155 (.agg #[.int .i64 a, .int .i64 b, s, .int .i64 c, .int .i64 d, .int .i64 e]) "loop.example/g00060/impl.told").run Try.prog w = .ok (195, .agg #[.int .i64 a, .int .i64 b, s, .int .i64 c, .int .i64 d, .int .i64 e]) w := by kernel_rfl
theorem m_told4 (a b c d e : Int) (s : Value) (w : World) : (method 331 156 (.agg #[.int .i64 a, .int .i64 b, s, .int .i64 c, .int .i64 d, .int .i64 e]) "loop.example/g00060/impl.told").run Try.prog w = .ok (195, .agg #[.int .i64 a, .int .i64 b, s, .int .i64 c, .int .i64 d, .int .i64 e]) w := by kernel_rfl
theorem m_told (T : Int) (a b c d e : Int) (s : Value) (w : World) : (method 331 (ifT T) (.agg #[.int .i64 a, .int .i64 b, s, .int .i64 c, .int .i64 d, .int .i64 e]) "loop.example/g00060/impl.told").run Try.prog w = .ok (195, .agg #[.int .i64 a, .int .i64 b, s, .int .i64 c, .int .i64 d, .int .i64 e]) w := by
  unfold ifT
  split
  · exact m_told1 _ _ _ _ _ _ _
  · split
    · exact m_told2 _ _ _ _ _ _ _
    · split
      · exact m_told3 _ _ _ _ _ _ _
      · exact m_told4 _ _ _ _ _ _ _
set_option maxRecDepth 20000 in
set_option maxHeartbeats 2000000 in
theorem told_any (x : Ut) (ta : Option Addr) (n tc : Nat) (w : World) : Calls Try.prog 195 #[aU x (.slice ta n tc)] w fun e w' => e = .returned (aU x (.slice ta n tc)) ∧ Below w.heap.size w w' := by
  unfold aU
  go_enter Try.func195, Try.ntmps195
  have P := PB.new (w.alloc (.cells #[.int .i64 x.id, .int .i64 x.grp, .slice ta n tc, .int .i64 x.til, .int .i64 x.st, .int .i64 x.fr] 81)) #[.int .i64 x.id, .int .i64 x.grp, .slice ta n tc, .int .i64 x.til, .int .i64 x.st, .int .i64 x.fr] 81
  simp only [World.size_alloc] at P
  have HP := hidden P
  clear P
  go_wp2_with fail
  exact bodyPost_ret (v := .agg #[.int .i64 x.id, .int .i64 x.grp, .slice ta n tc, .int .i64 x.til, .int .i64 x.st, .int .i64 x.fr]) (results_cell_row Try.results195 _ _ (w.heap.size + 1) 81 _ (0, 0) _ rfl HP.out Try.underlying81 rfl (by kernel_rfl)) rfl ⟨rfl, by repeat (first | exact Below.refl _ _ | assumption | refine st_drew ?_ | refine st_drewN ?_ _ | refine Below.setCell ?_ (by first | omega | (simp; done) | (simp; omega)) _ | refine Below.alloc ?_ (by first | omega | (simp; done) | (simp; omega)) _)⟩
set_option maxRecDepth 20000 in
set_option maxHeartbeats 4000000 in
theorem anewU_any (x : Ut) (ta : Option Addr) (tn tc : Nat) (w : World) (h : IRw w (.slice ta tn tc) x.ant) (hn : x.ant.length ≤ 1048576) :
    Calls Try.prog 82 #[aU x (.slice ta tn tc)] w fun e w' => ∃ ad c, e = .returned (aU x (.slice ad x.ant.length c)) ∧ w'.ownsRow w.heap.size 2 1 (.slice ad x.ant.length c) x.ant.length (x.ant.map fun z => Value.int .i64 z) ∧ Below w.heap.size w w' := by
  obtain rfl := h.len
  have P1 := ((PB.new w #[.int .i64 x.id, .int .i64 x.grp, .slice ta x.ant.length tc, .int .i64 x.til, .int .i64 x.st, .int .i64 x.fr] 81).alloc (.cells #[.int .i64 0, .int .i64 0, .slice none 0 0, .int .i64 0, .int .i64 0, .int .i64 0] 81)).alloc (.cells #[] 2)
  have P2 := (PB.new (w.alloc (.cells #[.int .i64 x.id, .int .i64 x.grp, .slice ta x.ant.length tc, .int .i64 x.til, .int .i64 x.st, .int .i64 x.fr] 81)) #[.int .i64 0, .int .i64 0, .slice none 0 0, .int .i64 0, .int .i64 0, .int .i64 0] 81).alloc (.cells #[] 2)
  have P3 := PB.new ((w.alloc (.cells #[.int .i64 x.id, .int .i64 x.grp, .slice ta x.ant.length tc, .int .i64 x.til, .int .i64 x.st, .int .i64 x.fr] 81)).alloc (.cells #[.int .i64 0, .int .i64 0, .slice none 0 0, .int .i64 0, .int .i64 0, .int .i64 0] 81)) #[] 2
  have hA : Below w.heap.size w (((w.alloc (.cells #[.int .i64 x.id, .int .i64 x.grp, .slice ta x.ant.length tc, .int .i64 x.til, .int .i64 x.st, .int .i64 x.fr] 81)).alloc (.cells #[.int .i64 0, .int .i64 0, .slice none 0 0, .int .i64 0, .int .i64 0, .int .i64 0] 81)).alloc (.cells #[] 2)) := by repeat (first | exact Below.refl _ _ | assumption | refine st_drew ?_ | refine st_drewN ?_ _ | refine Below.setCell ?_ (by first | omega | (simp; done) | (simp; omega)) _ | refine Below.alloc ?_ (by first | omega | (simp; done) | (simp; omega)) _)
  have hz3 : (((w.alloc (.cells #[.int .i64 x.id, .int .i64 x.grp, .slice ta x.ant.length tc, .int .i64 x.til, .int .i64 x.st, .int .i64 x.fr] 81)).alloc (.cells #[.int .i64 0, .int .i64 0, .slice none 0 0, .int .i64 0, .int .i64 0, .int .i64 0] 81)).alloc (.cells #[] 2)).heap.size = w.heap.size + 1 + 1 + 1 := by simp
  simp only [World.size_alloc] at P2 P3
  have hR := h.below hA
  unfold aU
  clear h
  generalize hW3 : (((w.alloc (.cells #[.int .i64 x.id, .int .i64 x.grp, .slice ta x.ant.length tc, .int .i64 x.til, .int .i64 x.st, .int .i64 x.fr] 81)).alloc (.cells #[.int .i64 0, .int .i64 0, .slice none 0 0, .int .i64 0, .int .i64 0, .int .i64 0] 81)).alloc (.cells #[] 2)) = W3 at *
  have HZ := hidden hz3
  have HP1 := hidden P1
  have HP2 := hidden P2
  have HP3 := hidden P3
  have HA := hidden hA
  have HR := hidden hR
  obtain ⟨-, -, r2, -⟩ := P1.six
  clear hz3 P1 P2 P3 hA hR
  go_enter Try.func82, Try.ntmps82
  go_wp2_with (at_builtin; refine wpList_newQ rfl (.tmp 3) (.tmp 5) rfl (w.heap.size + 1 + 1) rfl HP3.out ta x.ant.length tc x.ant rfl HR.out hn ?_; intro v4 w4 ho4 hg4; have hO4 := hidden ho4; obtain ⟨ad4, c4, rfl⟩ := ownW_slice ho4; have T1 := hidden (HP1.out.grownQ hg4 (fun k hk => by have := Option.some.inj hk; omega)); have T2 := hidden (HP2.out.grownQ hg4 (fun k hk => by have := Option.some.inj hk; omega)); have b4 := hidden (HA.out.grown hg4 (by have := HZ.out; omega) (fun k hk => by have := Option.some.inj hk; omega)); have z4 := T2.out.lt; obtain ⟨p0, p1, p2, p3, p4, p5⟩ := T1.out.six; obtain ⟨f0, f1, f2, f3, f4, f5, -⟩ := T1.out.cold; obtain ⟨q0, q1, q2, q3, q4, q5⟩ := T2.out.six; obtain ⟨g0, g1, g2, g3, g4, g5, -⟩ := T2.out.cold; clear ho4 hg4)
  have zl := fun k (hk : (Value.slice ad4 x.ant.length c4).ownBlock = some k) => (ownW_lt hO4.out k hk).1
  have e0 := T2.out.far (b := w.heap.size) (by omega) 2 (.slice ad4 x.ant.length c4)
  have o0 := ownQ_set (b := w.heap.size) (o := 2) hO4.out (fun k hk => by have := zl k hk; omega) (.slice ad4 x.ant.length c4)
  have d0 := b4.out.setCell (p := ⟨w.heap.size, 2, none⟩) (Nat.le_refl _) (.slice ad4 x.ant.length c4)
  have e1 := e0.put 0 (.int .i64 x.id) rfl
  have o1 := ownQ_set (b := w.heap.size + 1) (o := 0) o0 (fun k hk => by have := zl k hk; omega) (.int .i64 x.id)
  have d1 := d0.setCell (p := ⟨w.heap.size + 1, 0, none⟩) (by show w.heap.size ≤ w.heap.size + 1; omega) (.int .i64 x.id)
  have e2 := e1.put 1 (.int .i64 x.grp) rfl
  have o2 := ownQ_set (b := w.heap.size + 1) (o := 1) o1 (fun k hk => by have := zl k hk; omega) (.int .i64 x.grp)
  have d2 := d1.setCell (p := ⟨w.heap.size + 1, 1, none⟩) (by show w.heap.size ≤ w.heap.size + 1; omega) (.int .i64 x.grp)
  have e3 := e2.put 2 (.slice ad4 x.ant.length c4) rfl
  have o3 := ownQ_set (b := w.heap.size + 1) (o := 2) o2 (fun k hk => by have := zl k hk; omega) (.slice ad4 x.ant.length c4)
  have d3 := d2.setCell (p := ⟨w.heap.size + 1, 2, none⟩) (by show w.heap.size ≤ w.heap.size + 1; omega) (.slice ad4 x.ant.length c4)
  have e4 := e3.put 3 (.int .i64 x.til) rfl
  have o4 := ownQ_set (b := w.heap.size + 1) (o := 3) o3 (fun k hk => by have := zl k hk; omega) (.int .i64 x.til)
  have d4 := d3.setCell (p := ⟨w.heap.size + 1, 3, none⟩) (by show w.heap.size ≤ w.heap.size + 1; omega) (.int .i64 x.til)
  have e5 := e4.put 4 (.int .i64 x.st) rfl
  have o5 := ownQ_set (b := w.heap.size + 1) (o := 4) o4 (fun k hk => by have := zl k hk; omega) (.int .i64 x.st)
  have d5 := d4.setCell (p := ⟨w.heap.size + 1, 4, none⟩) (by show w.heap.size ≤ w.heap.size + 1; omega) (.int .i64 x.st)
  have e6 := e5.put 5 (.int .i64 x.fr) rfl
  have o6 := ownQ_set (b := w.heap.size + 1) (o := 5) o5 (fun k hk => by have := zl k hk; omega) (.int .i64 x.fr)
  have d6 := d5.setCell (p := ⟨w.heap.size + 1, 5, none⟩) (by show w.heap.size ≤ w.heap.size + 1; omega) (.int .i64 x.fr)
  have hfin := ownW_base o6 (show w.heap.size ≤ w.heap.size + 1 + 1 by omega)
  exact bodyPost_ret (v := .agg #[.int .i64 x.id, .int .i64 x.grp, .slice ad4 x.ant.length c4, .int .i64 x.til, .int .i64 x.st, .int .i64 x.fr]) (results_cell_row Try.results82 _ _ (w.heap.size + 1) 81 _ (0, 0) _ rfl e6 Try.underlying81 rfl (by kernel_rfl)) rfl ⟨_, _, rfl, hfin, d6⟩
set_option maxRecDepth 20000 in
set_option maxHeartbeats 4000000 in
theorem instate_any (x : Ut) (ta : Option Addr) (n tc : Nat) (w : World) : Calls Try.prog 83 #[aU x (.slice ta n tc)] w fun e w' => e = .returned (aI (x, .slice ta n tc)) ∧ Below w.heap.size w w' := by
  obtain ⟨id, grp, ant, til, st, fr⟩ := x
  unfold aI aU
  dsimp only
  by_cases h1 : st = 1
  · subst h1
    rw [ifT_1]
    go_enter Try.func83, Try.ntmps83
    go_wp2_with fail
    go_ret
    exact ⟨rfl, by repeat (first | exact Below.refl _ _ | assumption | refine st_drew ?_ | refine st_drewN ?_ _ | refine Below.setCell ?_ (by first | omega | (simp; done) | (simp; omega)) _ | refine Below.alloc ?_ (by first | omega | (simp; done) | (simp; omega)) _)⟩
  by_cases h2 : st = 2
  · subst h2
    rw [ifT_2]
    go_enter Try.func83, Try.ntmps83
    go_wp2_with fail
    go_ret
    exact ⟨rfl, by repeat (first | exact Below.refl _ _ | assumption | refine st_drew ?_ | refine st_drewN ?_ _ | refine Below.setCell ?_ (by first | omega | (simp; done) | (simp; omega)) _ | refine Below.alloc ?_ (by first | omega | (simp; done) | (simp; omega)) _)⟩
  by_cases h3 : st = 3
  · subst h3
    rw [ifT_3]
    go_enter Try.func83, Try.ntmps83
    go_wp2_with fail
    go_ret
    exact ⟨rfl, by repeat (first | exact Below.refl _ _ | assumption | refine st_drew ?_ | refine st_drewN ?_ _ | refine Below.setCell ?_ (by first | omega | (simp; done) | (simp; omega)) _ | refine Below.alloc ?_ (by first | omega | (simp; done) | (simp; omega)) _)⟩
  rw [ifT_4 h1 h2 h3]
  go_enter Try.func83, Try.ntmps83
  go_wp2_with fail
  go_ret
  exact ⟨rfl, by repeat (first | exact Below.refl _ _ | assumption | refine st_drew ?_ | refine st_drewN ?_ _ | refine Below.setCell ?_ (by first | omega | (simp; done) | (simp; omega)) _ | refine Below.alloc ?_ (by first | omega | (simp; done) | (simp; omega)) _)⟩
end Go.Proofs.Ytgcpiinmcbdkmaa

namespace Go.Proofs.Ytgcpiinmcbdkmaa
open Go.RowKit Va Bl
set_option linter.all false
set_option maxRecDepth 20000 in
set_option maxHeartbeats 8000000 in
theorem sbank_any (ao : Option Addr) (n cap : Nat) (l : List Ut) (w : World) (h : URw w (.slice ao n cap) l) (hn : l.length ≤ 1048576) (ht : ∀ x ∈ l, x.ant.length ≤ 1048576) :
    Calls Try.prog 49 #[.slice ao n cap] w fun e w' => e = .returned (.bool (bankB l)) ∧ Below w.heap.size w w' := by
  obtain rfl := h.len
  have HR := hidden h
  have HT := hidden ht
  clear h ht
  unfold bankB
  by_cases g1 : (300 : Int) < (l.length : Int)
  · have HY : Hid (decide (l.length ≤ 300) = false) := by rw [Hid]; simp; omega
    go_enter Try.func49, Try.ntmps49
    go_wp2_with fail
    go_ret
    exact ⟨ret_boolQ (by rw [HY.out]; rfl), Below.refl _ _⟩
  have HZ : Hid (decide (l.length ≤ 300) = true) := by rw [Hid]; simp; omega
  go_enter Try.func49, Try.ntmps49
  go_wp2_with fail
  go_loopw [3] (fun iv wr => ∃ i : Nat, i ≤ l.length ∧ iv = .int .i64 i ∧ Hid (RTo unitB Ut.id l i) ∧ Below w.heap.size w wr) (fun iv _ => l.length - (intOf iv).toNat)
  case atStart => exact ⟨0, Nat.zero_le _, rfl, RTo.zero _, Below.refl _ _⟩
  case round =>
    obtain ⟨i, hi, rfl, hok, hb⟩ := hrel
    by_cases hlt : i < l.length
    · have hlti : (i : Int) < (l.length : Int) := by omega
      obtain ⟨x, hx⟩ := some_of l i hlt
      obtain ⟨g, off, ta, tc, rfl, hg, hrow, c0, c1, c2, c3, c4, c5⟩ := (HR.out.below hb).at hx
      have hcs := HR.out.below hb
      obtain ⟨y, hyt⟩ : ∃ y : Int, y = keyAt Ut.id l (i - 1) := ⟨_, rfl⟩
      have hy0 : 0 < i → wr.cell? ⟨g, off + (i - 1) * 6, none⟩ = some (.int .i64 y) := fun q => by
        obtain ⟨z, hz⟩ := some_of l (i - 1) (by omega)
        obtain ⟨g', off', ta', tc', he, -, -, d0, -⟩ := hcs.at hz
        obtain ⟨rfl, rfl⟩ : g = g' ∧ off = off' := by simpa using he
        rw [hyt, keyAt_get hz]
        exact d0
      have hyz : Hid (∀ z, 0 < i → l[i - 1]? = some z → y = z.id) := fun z _ hz => by rw [hyt, keyAt_get hz]
      have HX := hidden hx
      have HY1 := hidden hy0
      have b1 := hb
      have HK := hidden (fun W (hW : Below wr.heap.size wr W) => sunit_any x ta x.ant.length tc W (hrow.below hW) (HT.out x (List.mem_of_getElem? hx)))
      have C0 := hidden c0
      have C1 := hidden c1
      have C2 := hidden c2
      have C3 := hidden c3
      have C4 := hidden c4
      have C5 := hidden c5
      clear hx hyt hy0 hrow hcs c0 c1 c2 c3 c4 c5
      go_upto_region 6 with fail
      refine regBk6 (x := x) (y := y) rfl rfl rfl hlt (by omega) hg HY1.out C0.out C1.out C2.out C3.out C4.out C5.out HK.out ?_
      intro b' w3 hf hb3 hv
      rw [layBk6 hf, hv]
      clear hv hf HY1 HK C0 C1 C2 C3 C4 C5
      generalize Rg.out (Rg.opsOf Try.f49 6) b' 0 = y0
      generalize Rg.out (Rg.opsOf Try.f49 6) b' 1 = y1
      generalize Rg.out (Rg.opsOf Try.f49 6) b' 2 = y2
      generalize Rg.out (Rg.opsOf Try.f49 6) b' 3 = y3
      generalize Rg.out (Rg.opsOf Try.f49 6) b' 4 = y4
      generalize Rg.out (Rg.opsOf Try.f49 6) b' 5 = y5
      generalize Rg.out (Rg.opsOf Try.f49 6) b' 6 = y6
      generalize Rg.out (Rg.opsOf Try.f49 6) b' 7 = y7
      generalize Rg.out (Rg.opsOf Try.f49 6) b' 8 = y8
      generalize Rg.out (Rg.opsOf Try.f49 6) b' 9 = y9
      generalize Rg.out (Rg.opsOf Try.f49 6) b' 10 = y10
      generalize Rg.out (Rg.opsOf Try.f49 6) b' 11 = y11
      generalize Rg.out (Rg.opsOf Try.f49 6) b' 12 = y12
      generalize Rg.out (Rg.opsOf Try.f49 6) b' 13 = y13
      generalize Rg.out (Rg.opsOf Try.f49 6) b' 14 = y14
      generalize Rg.out (Rg.opsOf Try.f49 6) b' 15 = y15
      generalize Rg.out (Rg.opsOf Try.f49 6) b' 16 = y16
      generalize Rg.out (Rg.opsOf Try.f49 6) b' 17 = y17
      generalize Rg.out (Rg.opsOf Try.f49 6) b' 18 = y18
      generalize Rg.out (Rg.opsOf Try.f49 6) b' 19 = y19
      generalize Rg.out (Rg.opsOf Try.f49 6) b' 20 = y20
      generalize Rg.out (Rg.opsOf Try.f49 6) b' 21 = y21
      generalize Rg.out (Rg.opsOf Try.f49 6) b' 22 = y22
      have HB3 := hidden (b1.trans (hb3.mono b1.size))
      clear hb3 hb b1
      generalize hBq : ((!(unitB x)) || ((decide ((0 : Int) < (i : Int))) && (decide (x.id ≤ y)))) = Bq at *
      go_frame
      cases Bq with
      | true =>
        have HY : Hid (risB unitB Ut.id l = false) := nx_bad HX.out hyz.out hBq
        clear hBq
        go_wp2_with fail
        go_ret
        exact ⟨ret_boolQ (by rw [HY.out, HZ.out]; rfl), HB3.out⟩
      | false =>
        have HN : Hid (RTo unitB Ut.id l (i + 1)) := nx_good hok.out HX.out hyz.out hBq
        clear hBq
        go_wp2_with fail
        go_roundw
        case rel => exact ⟨i + 1, by omega, rfl, HN, HB3.out⟩
        case measure => simp [intOf]; omega
    · have hlti : ¬ (i : Int) < (l.length : Int) := by omega
      have hil : i = l.length := by omega
      subst hil
      have HY : Hid (risB unitB Ut.id l = true) := ris_true hok.out
      go_wp2_with fail
      go_ret
      exact ⟨ret_boolQ (by rw [HY.out, HZ.out]; rfl), hb⟩
set_option maxRecDepth 20000 in
set_option maxHeartbeats 8000000 in
theorem ibank_any (ao : Option Addr) (n cap : Nat) (l : List Ut) (w : World) (h : URw w (.slice ao n cap) l) (hn : l.length ≤ 1048576) (ht : ∀ x ∈ l, x.ant.length ≤ 1048576) :
    Calls Try.prog 41 #[.slice ao n cap] w fun e w' => e = .returned (.bool (bankB l)) ∧ Below w.heap.size w w' := by
  obtain rfl := h.len
  have HR := hidden h
  have HT := hidden ht
  clear h ht
  unfold bankB
  by_cases g1 : (300 : Int) < (l.length : Int)
  · have HY : Hid (decide (l.length ≤ 300) = false) := by rw [Hid]; simp; omega
    go_enter Try.func41, Try.ntmps41
    go_wp2_with fail
    go_ret
    exact ⟨ret_boolQ (by rw [HY.out]; rfl), Below.refl _ _⟩
  have HZ : Hid (decide (l.length ≤ 300) = true) := by rw [Hid]; simp; omega
  go_enter Try.func41, Try.ntmps41
  go_wp2_with fail
  go_loopw [3, 4, 10] (fun _ _ iv wr => ∃ i : Nat, i ≤ l.length ∧ iv = .int .i64 i ∧ Hid (RTo unitB Ut.id l i) ∧ Below w.heap.size w wr) (fun _ _ iv _ => l.length - (intOf iv).toNat)
  case atStart => exact ⟨0, Nat.zero_le _, rfl, RTo.zero _, Below.refl _ _⟩
  case round =>
    obtain ⟨i, hi, rfl, hok, hb⟩ := hrel
    by_cases hlt : i < l.length
    · have hlti : (i : Int) < (l.length : Int) := by omega
      obtain ⟨x, hx⟩ := some_of l i hlt
      obtain ⟨g, off, ta, tc, rfl, hg, hrow, c0, c1, c2, c3, c4, c5⟩ := (HR.out.below hb).at hx
      have hcs := HR.out.below hb
      obtain ⟨y, hyt⟩ : ∃ y : Int, y = keyAt Ut.id l (i - 1) := ⟨_, rfl⟩
      have hy0 : 0 < i → wr.cell? ⟨g, off + (i - 1) * 6, none⟩ = some (.int .i64 y) := fun q => by
        obtain ⟨z, hz⟩ := some_of l (i - 1) (by omega)
        obtain ⟨g', off', ta', tc', he, -, -, d0, -⟩ := hcs.at hz
        obtain ⟨rfl, rfl⟩ : g = g' ∧ off = off' := by simpa using he
        rw [hyt, keyAt_get hz]
        exact d0
      have hyz : Hid (∀ z, 0 < i → l[i - 1]? = some z → y = z.id) := fun z _ hz => by rw [hyt, keyAt_get hz]
      have HX := hidden hx
      have hPX := PB.new wr #[.int .i64 x.id, .int .i64 x.grp, .slice ta x.ant.length tc, .int .i64 x.til, .int .i64 x.st, .int .i64 x.fr] 81
      have bx : Below wr.heap.size wr (wr.alloc (.cells #[.int .i64 x.id, .int .i64 x.grp, .slice ta x.ant.length tc, .int .i64 x.til, .int .i64 x.st, .int .i64 x.fr] 81)) := (Below.refl _ _).alloc (Nat.le_refl _) _
      have HY1 : Hid (0 < i → (wr.alloc (.cells #[.int .i64 x.id, .int .i64 x.grp, .slice ta x.ant.length tc, .int .i64 x.til, .int .i64 x.st, .int .i64 x.fr] 81)).cell? ⟨g, off + (i - 1) * 6, none⟩ = some (.int .i64 y)) := fun q => (bx.cell (p := ⟨g, off + (i - 1) * 6, none⟩) hg).trans (hy0 q)
      have hg1 := Nat.lt_of_lt_of_le hg bx.size
      have b1 := hb.trans (bx.mono hb.size)
      have HK := hidden (fun W (hW : Below (wr.alloc (.cells #[.int .i64 x.id, .int .i64 x.grp, .slice ta x.ant.length tc, .int .i64 x.til, .int .i64 x.st, .int .i64 x.fr] 81)).heap.size (wr.alloc (.cells #[.int .i64 x.id, .int .i64 x.grp, .slice ta x.ant.length tc, .int .i64 x.til, .int .i64 x.st, .int .i64 x.fr] 81)) W) => iright_any x ta x.ant.length tc W (hrow.below (onto bx hW)) (HT.out x (List.mem_of_getElem? hx)))
      have HPX := hidden hPX
      clear hx hyt hy0 bx hPX hrow hcs
      go_upto_region 6 with fail
      refine regBi6 (x := x) (y := y) rfl rfl rfl rfl HPX.out hlt (by omega) hg1 HY1.out HK.out ?_
      intro b' w3 hf hb3 hv
      rw [layBi6 hf, hv]
      clear hv hf HPX HY1 HK c0 c1 c2 c3 c4 c5
      generalize Rg.out (Rg.opsOf Try.f41 6) b' 0 = y0
      generalize Rg.out (Rg.opsOf Try.f41 6) b' 1 = y1
      generalize Rg.out (Rg.opsOf Try.f41 6) b' 2 = y2
      generalize Rg.out (Rg.opsOf Try.f41 6) b' 3 = y3
      generalize Rg.out (Rg.opsOf Try.f41 6) b' 4 = y4
      generalize Rg.out (Rg.opsOf Try.f41 6) b' 5 = y5
      generalize Rg.out (Rg.opsOf Try.f41 6) b' 6 = y6
      generalize Rg.out (Rg.opsOf Try.f41 6) b' 7 = y7
      generalize Rg.out (Rg.opsOf Try.f41 6) b' 8 = y8
      generalize Rg.out (Rg.opsOf Try.f41 6) b' 9 = y9
      generalize Rg.out (Rg.opsOf Try.f41 6) b' 10 = y10
      generalize Rg.out (Rg.opsOf Try.f41 6) b' 11 = y11
      generalize Rg.out (Rg.opsOf Try.f41 6) b' 12 = y12
      generalize Rg.out (Rg.opsOf Try.f41 6) b' 13 = y13
      generalize Rg.out (Rg.opsOf Try.f41 6) b' 14 = y14
      generalize Rg.out (Rg.opsOf Try.f41 6) b' 15 = y15
      generalize Rg.out (Rg.opsOf Try.f41 6) b' 16 = y16
      have HB3 := hidden (b1.trans (hb3.mono b1.size))
      clear hb3 hb b1
      generalize hBq : ((!(unitB x)) || ((decide ((0 : Int) < (i : Int))) && (decide (x.id ≤ y)))) = Bq at *
      go_frame
      cases Bq with
      | true =>
        have HY : Hid (risB unitB Ut.id l = false) := nx_bad HX.out hyz.out hBq
        clear hBq
        go_wp2_with fail
        go_ret
        exact ⟨ret_boolQ (by rw [HY.out, HZ.out]; rfl), HB3.out⟩
      | false =>
        have HN : Hid (RTo unitB Ut.id l (i + 1)) := nx_good hok.out HX.out hyz.out hBq
        clear hBq
        go_wp2_with fail
        go_roundw
        case rel => exact ⟨i + 1, by omega, rfl, HN, HB3.out⟩
        case measure => simp [intOf]; omega
    · have hlti : ¬ (i : Int) < (l.length : Int) := by omega
      have hil : i = l.length := by omega
      subst hil
      have HY : Hid (risB unitB Ut.id l = true) := ris_true hok.out
      go_wp2_with fail
      go_ret
      exact ⟨ret_boolQ (by rw [HY.out, HZ.out]; rfl), hb⟩
end Go.Proofs.Ytgcpiinmcbdkmaa
