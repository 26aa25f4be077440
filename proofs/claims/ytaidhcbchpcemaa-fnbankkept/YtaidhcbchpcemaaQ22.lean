/-
  Units behind an interface: what is asked of them.
-/
import Derived.Test.YtaidhcbchpcemaaQ21
import Derived.Stop.Asserts
namespace Go.Proofs.Ytaidhcbchpcemaa
open Go.RowKit Va Bl
set_option linter.all false

/-- The type of a unit in its state. -/
def ifT (st : Int) : TypeId := if st = 1 then 110 else if st = 2 then 111 else if st = 3 then 112 else 113
theorem ifT_1 : ifT 1 = 110 := rfl
theorem ifT_2 : ifT 2 = 111 := rfl
theorem ifT_3 : ifT 3 = 112 := rfl
theorem ifT_4 {st : Int} (h1 : ¬ st = 1) (h2 : ¬ st = 2) (h3 : ¬ st = 3) : ifT st = 113 := by unfold ifT; rw [if_neg h1, if_neg h2, if_neg h3]
/-- A unit behind the interface. -/
def aI (p : Ut × Value) : Value := .iface (ifT p.1.st) (aU p.1 p.2)

theorem m_told1 (a b c d e : Int) (s : Value) (w : World) : (method 262 110 (.agg #[.int .i64 a, .int .i64 b, s, .int .i64 c, .int .i64 d, .int .i64 e]) "loop.example/g00060/impl.told").run Try.prog w = .ok (123, .agg #[.int .i64 a, .int .i64 b, s, .int .i64 c, .int .i64 d, .int .i64 e]) w := by kernel_rfl
theorem m_told2 (a b c d e : Int) (s : Value) (w : World) : (method 262 111 (.agg #[.int .i64 a, .int .i64 b, s, .int .i64 c, .int .i64 d, .int .i64 e]) "loop.example/g00060/impl.told").run Try.prog w = .ok (123, .agg #[.int .i64 a, .int .i64 b, s, .int .i64 c, .int .i64 d, .int .i64 e]) w := by kernel_rfl
theorem m_told3 (a b c d e : Int) (s : Value) (w : World) : (method 262 112 (.agg #[.int .i64 a, .int .i64 b, s, .int .i64 c, .int .i64 d, .int .i64 e]) "loop.example/g00060/impl.told").run Try.prog w = .ok (123, .agg #[.int .i64 a, .int .i64 b, s, .int .i64 c, .int .i64 d, .int .i64 e]) w := by kernel_rfl
theorem m_told4 (a b c d e : Int) (s : Value) (w : World) : (method 262 113 (.agg #[.int .i64 a, .int .i64 b, s, .int .i64 c, .int .i64 d, .int .i64 e]) "loop.example/g00060/impl.told").run Try.prog w = .ok (123, .agg #[.int .i64 a, .int .i64 b, s, .int .i64 c, .int .i64 d, .int .i64 e]) w := by kernel_rfl
theorem m_told (T : Int) (a b c d e : Int) (s : Value) (w : World) : (method 262 (ifT T) (.agg #[.int .i64 a, .int .i64 b, s, .int .i64 c, .int .i64 d, .int .i64 e]) "loop.example/g00060/impl.told").run Try.prog w = .ok (123, .agg #[.int .i64 a, .int .i64 b, s, .int .i64 c, .int .i64 d, .int .i64 e]) w := by
  unfold ifT
  split
  · exact m_told1 _ _ _ _ _ _ _
  · split
    · exact m_told2 _ _ _ _ _ _ _
    · split
      · exact m_told3 _ _ _ _ _ _ _
      · exact m_told4 _ _ _ _ _ _ _

set_option maxRecDepth 20000 in
set_option maxHeartbeats 2000000 in
theorem told_any (x : Ut) (ta : Option Addr) (n tc : Nat) (w : World) : Calls Try.prog 123 #[aU x (.slice ta n tc)] w fun e w' => e = .returned (aU x (.slice ta n tc)) ∧ Below w.heap.size w w' := by
  unfold aU
  go_enter Try.func123, Try.ntmps123
  have P := PB.new (w.alloc (.cells #[.int .i64 x.id, .int .i64 x.grp, .slice ta n tc, .int .i64 x.til, .int .i64 x.st, .int .i64 x.fr] 37)) #[.int .i64 x.id, .int .i64 x.grp, .slice ta n tc, .int .i64 x.til, .int .i64 x.st, .int .i64 x.fr] 37
  simp only [World.size_alloc] at P
  have HP := hidden P
  clear P
  go_wp2_with fail
  exact bodyPost_ret (v := .agg #[.int .i64 x.id, .int .i64 x.grp, .slice ta n tc, .int .i64 x.til, .int .i64 x.st, .int .i64 x.fr]) (results_cell_row Try.results123 _ _ (w.heap.size + 1) 37 _ (0, 0) _ rfl HP.out Try.underlying37 rfl (by kernel_rfl)) rfl ⟨rfl, by repeat (first | exact Below.refl _ _ | assumption | refine st_drew ?_ | refine st_drewN ?_ _ | refine Below.setCell ?_ (by first | omega | (simp; done) | (simp; omega)) _ | refine Below.alloc ?_ (by first | omega | (simp; done) | (simp; omega)) _)⟩

set_option maxRecDepth 20000 in
set_option maxHeartbeats 4000000 in
theorem anewU_any (x : Ut) (ta : Option Addr) (tn tc : Nat) (w : World) (h : IRw w (.slice ta tn tc) x.ant) (hn : x.ant.length ≤ 1048576) :
    Calls Try.prog 63 #[aU x (.slice ta tn tc)] w fun e w' => ∃ ad c, e = .returned (aU x (.slice ad x.ant.length c)) ∧ w'.ownsRow w.heap.size 2 1 (.slice ad x.ant.length c) x.ant.length (x.ant.map fun z => Value.int .i64 z) ∧ Below w.heap.size w w' := by
  obtain rfl := h.len
  have P1 := ((PB.new w #[.int .i64 x.id, .int .i64 x.grp, .slice ta x.ant.length tc, .int .i64 x.til, .int .i64 x.st, .int .i64 x.fr] 37).alloc (.cells #[.int .i64 0, .int .i64 0, .slice none 0 0, .int .i64 0, .int .i64 0, .int .i64 0] 37)).alloc (.cells #[] 2)
  have P2 := (PB.new (w.alloc (.cells #[.int .i64 x.id, .int .i64 x.grp, .slice ta x.ant.length tc, .int .i64 x.til, .int .i64 x.st, .int .i64 x.fr] 37)) #[.int .i64 0, .int .i64 0, .slice none 0 0, .int .i64 0, .int .i64 0, .int .i64 0] 37).alloc (.cells #[] 2)
  have P3 := PB.new ((w.alloc (.cells #[.int .i64 x.id, .int .i64 x.grp, .slice ta x.ant.length tc, .int .i64 x.til, .int .i64 x.st, .int .i64 x.fr] 37)).alloc (.cells #[.int .i64 0, .int .i64 0, .slice none 0 0, .int .i64 0, .int .i64 0, .int .i64 0] 37)) #[] 2
  have hA : Below w.heap.size w (((w.alloc (.cells #[.int .i64 x.id, .int .i64 x.grp, .slice ta x.ant.length tc, .int .i64 x.til, .int .i64 x.st, .int .i64 x.fr] 37)).alloc (.cells #[.int .i64 0, .int .i64 0, .slice none 0 0, .int .i64 0, .int .i64 0, .int .i64 0] 37)).alloc (.cells #[] 2)) := by repeat (first | exact Below.refl _ _ | assumption | refine st_drew ?_ | refine st_drewN ?_ _ | refine Below.setCell ?_ (by first | omega | (simp; done) | (simp; omega)) _ | refine Below.alloc ?_ (by first | omega | (simp; done) | (simp; omega)) _)
  have hz3 : (((w.alloc (.cells #[.int .i64 x.id, .int .i64 x.grp, .slice ta x.ant.length tc, .int .i64 x.til, .int .i64 x.st, .int .i64 x.fr] 37)).alloc (.cells #[.int .i64 0, .int .i64 0, .slice none 0 0, .int .i64 0, .int .i64 0, .int .i64 0] 37)).alloc (.cells #[] 2)).heap.size = w.heap.size + 1 + 1 + 1 := by simp
  simp only [World.size_alloc] at P2 P3
  have hR := h.below hA
  unfold aU
  clear h
  generalize hW3 : (((w.alloc (.cells #[.int .i64 x.id, .int .i64 x.grp, .slice ta x.ant.length tc, .int .i64 x.til, .int .i64 x.st, .int .i64 x.fr] 37)).alloc (.cells #[.int .i64 0, .int .i64 0, .slice none 0 0, .int .i64 0, .int .i64 0, .int .i64 0] 37)).alloc (.cells #[] 2)) = W3 at *
  have HZ := hidden hz3
  have HP1 := hidden P1
  have HP2 := hidden P2
  have HP3 := hidden P3
  have HA := hidden hA
  have HR := hidden hR
  obtain ⟨-, -, r2, -⟩ := P1.six
  clear hz3 P1 P2 P3 hA hR
  go_enter Try.func63, Try.ntmps63
  go_wp2_with (at_builtin; refine wpList_newQ rfl (.tmp 3) (.tmp 5) rfl (w.heap.size + 1 + 1) rfl HP3.out ta x.ant.length tc x.ant rfl HR.out hn ?_; intro v4 w4 ho4 hg4; have hO4 := hidden ho4; obtain ⟨ad4, c4, rfl⟩ := ownW_slice ho4; have T1 := hidden (HP1.out.grownQ hg4 (fun k hk => by have := Option.some.inj hk; omega)); have T2 := hidden (HP2.out.grownQ hg4 (fun k hk => by have := Option.some.inj hk; omega)); have b4 := hidden (HA.out.grown hg4 (by have := HZ.out; omega) (fun k hk => by have := Option.some.inj hk; omega)); have z4 := T2.out.lt; obtain ⟨p0, p1, p2, p3, p4, p5⟩ := T1.out.six; obtain ⟨f0, f1, f2, f3, f4, f5, -⟩ := T1.out.cold; obtain ⟨q0, q1, q2, q3, q4, q5⟩ := T2.out.six; obtain ⟨g0, g1, g2, g3, g4, g5, -⟩ := T2.out.cold; clear ho4 hg4)
  have zl := fun k (hk : (Value.slice ad4 x.ant.length c4).ownBlock = some k) => (ownW_lt hO4.out k hk).1
  have e0 := T2.out.far (b := w.heap.size) (by omega) 2 (.slice ad4 x.ant.length c4)
  have o0 := ownQ_set (b := w.heap.size) (o := 2) hO4.out (fun k hk => by have := zl k hk; omega) (.slice ad4 x.ant.length c4)
  have d0 := b4.out.setCell (p := ⟨w.heap.size, 2, none⟩) (Nat.le_refl _) (.slice ad4 x.ant.length c4)
  have e1 := e0.put 0 (.int .i64 x.id) rfl
  have o1 := ownQ_set (b := w.heap.size + 1) (o := 0) o0 (fun k hk => by have := zl k hk; omega) (.int .i64 x.id)
  have d1 := d0.setCell (p := ⟨w.heap.size + 1, 0, none⟩) (by show w.heap.size ≤ w.heap.size + 1; omega) (.int .i64 x.id)
  have e2 := e1.put 1 (.int .i64 x.grp) rfl
  have o2 := ownQ_set (b := w.heap.size + 1) (o := 1) o1 (fun k hk => by have := zl k hk; omega) (.int .i64 x.grp)
  have d2 := d1.setCell (p := ⟨w.heap.size + 1, 1, none⟩) (by show w.heap.size ≤ w.heap.size + 1; omega) (.int .i64 x.grp)
  have e3 := e2.put 2 (.slice ad4 x.ant.length c4) rfl
  have o3 := ownQ_set (b := w.heap.size + 1) (o := 2) o2 (fun k hk => by have := zl k hk; omega) (.slice ad4 x.ant.length c4)
  have d3 := d2.setCell (p := ⟨w.heap.size + 1, 2, none⟩) (by show w.heap.size ≤ w.heap.size + 1; omega) (.slice ad4 x.ant.length c4)
  have e4 := e3.put 3 (.int .i64 x.til) rfl
  have o4 := ownQ_set (b := w.heap.size + 1) (o := 3) o3 (fun k hk => by have := zl k hk; omega) (.int .i64 x.til)
  have d4 := d3.setCell (p := ⟨w.heap.size + 1, 3, none⟩) (by show w.heap.size ≤ w.heap.size + 1; omega) (.int .i64 x.til)
  have e5 := e4.put 4 (.int .i64 x.st) rfl
  have o5 := ownQ_set (b := w.heap.size + 1) (o := 4) o4 (fun k hk => by have := zl k hk; omega) (.int .i64 x.st)
  have d5 := d4.setCell (p := ⟨w.heap.size + 1, 4, none⟩) (by show w.heap.size ≤ w.heap.size + 1; omega) (.int .i64 x.st)
  have e6 := e5.put 5 (.int .i64 x.fr) rfl
  have o6 := ownQ_set (b := w.heap.size + 1) (o := 5) o5 (fun k hk => by have := zl k hk; omega) (.int .i64 x.fr)
  have d6 := d5.setCell (p := ⟨w.heap.size + 1, 5, none⟩) (by show w.heap.size ≤ w.heap.size + 1; omega) (.int .i64 x.fr)
  have hfin := ownW_base o6 (show w.heap.size ≤ w.heap.size + 1 + 1 by omega)
  exact bodyPost_ret (v := .agg #[.int .i64 x.id, .int .i64 x.grp, .slice ad4 x.ant.length c4, .int .i64 x.til, .int .i64 x.st, .int .i64 x.fr]) (results_cell_row Try.results63 _ _ (w.heap.size + 1) 37 _ (0, 0) _ rfl e6 Try.underlying37 rfl (by kernel_rfl)) rfl ⟨_, _, rfl, hfin, d6⟩

set_option maxRecDepth 20000 in
set_option maxHeartbeats 4000000 in
theorem instate_any (x : Ut) (ta : Option Addr) (n tc : Nat) (w : World) : Calls Try.prog 64 #[aU x (.slice ta n tc)] w fun e w' => e = .returned (aI (x, .slice ta n tc)) ∧ Below w.heap.size w w' := by
  obtain ⟨id, grp, ant, til, st, fr⟩ := x
  unfold aI aU
  dsimp only
  by_cases h1 : st = 1
  · subst h1
    rw [ifT_1]
    go_enter Try.func64, Try.ntmps64
    go_wp2_with fail
    go_ret
    exact ⟨rfl, by repeat (first | exact Below.refl _ _ | assumption | refine st_drew ?_ | refine st_drewN ?_ _ | refine Below.setCell ?_ (by first | omega | (simp; done) | (simp; omega)) _ | refine Below.alloc ?_ (by first | omega | (simp; done) | (simp; omega)) _)⟩
  by_cases h2 : st = 2
  · subst h2
    rw [ifT_2]
    go_enter Try.func64, Try.ntmps64
    go_wp2_with fail
    go_ret
    exact ⟨rfl, by repeat (first | exact Below.refl _ _ | assumption | refine st_drew ?_ | refine st_drewN ?_ _ | refine Below.setCell ?_ (by first | omega | (simp; done) | (simp; omega)) _ | refine Below.alloc ?_ (by first | omega | (simp; done) | (simp; omega)) _)⟩
  by_cases h3 : st = 3
  · subst h3
    rw [ifT_3]
    go_enter Try.func64, Try.ntmps64
    go_wp2_with fail
    go_ret
    exact ⟨rfl, by repeat (first | exact Below.refl _ _ | assumption | refine st_drew ?_ | refine st_drewN ?_ _ | refine Below.setCell ?_ (by first | omega | (simp; done) | (simp; omega)) _ | refine Below.alloc ?_ (by first | omega | (simp; done) | (simp; omega)) _)⟩
  rw [ifT_4 h1 h2 h3]
  go_enter Try.func64, Try.ntmps64
  go_wp2_with fail
  go_ret
  exact ⟨rfl, by repeat (first | exact Below.refl _ _ | assumption | refine st_drew ?_ | refine st_drewN ?_ _ | refine Below.setCell ?_ (by first | omega | (simp; done) | (simp; omega)) _ | refine Below.alloc ?_ (by first | omega | (simp; done) | (simp; omega)) _)⟩

theorem as_trace3 (v : Value) (xT : TypeId) (w : World) : (Instr.typeAssert (.iface 112 v) xT 93 true).run Try.prog w = .ok (.tuple #[.iface 112 v, .bool true]) w := run_typeAssert_hasB Try.underlying93 (by kernel_rfl) v xT w
theorem as_traceN {st : Int} (h : ¬ st = 3) (v : Value) (xT : TypeId) (w : World) : (Instr.typeAssert (.iface (ifT st) v) xT 93 true).run Try.prog w = .ok (.tuple #[.nilIface, .bool false]) w := by
  unfold ifT
  split
  · exact run_typeAssert_lacksB Try.underlying93 (by kernel_rfl) (by kernel_rfl) v xT w
  · split
    · exact run_typeAssert_lacksB Try.underlying93 (by kernel_rfl) (by kernel_rfl) v xT w
    · exact run_typeAssert_lacksB Try.underlying93 (by kernel_rfl) (by kernel_rfl) v xT w
theorem m_given (a b c d e : Int) (s : Value) (w : World) : (method 262 112 (.agg #[.int .i64 a, .int .i64 b, s, .int .i64 c, .int .i64 d, .int .i64 e]) "loop.example/g00060/impl.isGivenTo").run Try.prog w = .ok (131, .agg #[.int .i64 a, .int .i64 b, s, .int .i64 c, .int .i64 d, .int .i64 e]) w := by kernel_rfl

set_option maxRecDepth 20000 in
set_option maxHeartbeats 1000000 in
theorem given_any (x : Ut) (tv : Value) (p : Int) (w : World) : Calls Try.prog 131 #[aU x tv, .int .i64 p] w fun e w' => e = .returned (.bool (decide (x.fr = p))) ∧ Below w.heap.size w w' := by
  unfold aU
  go_enter Try.func131, Try.ntmps131
  go_wp2_with fail
  all_goals go_ret
  all_goals exact ⟨ret_boolQ (by first | rfl | (simp; done)), by repeat (first | exact Below.refl _ _ | assumption | refine st_drew ?_ | refine st_drewN ?_ _ | refine Below.setCell ?_ (by first | omega | (simp; done) | (simp; omega)) _ | refine Below.alloc ?_ (by first | omega | (simp; done) | (simp; omega)) _)⟩

set_option maxRecDepth 20000 in
set_option maxHeartbeats 1000000 in
theorem iwas_any (x : Ut × Value) (p : Int) (w : World) : Calls Try.prog 50 #[aI x, .int .i64 p] w fun e w' => e = .returned (.bool (decide (x.1.st = 3) && decide (x.1.fr = p))) ∧ Below w.heap.size w w' := by
  obtain ⟨⟨id, grp, ant, til, st, fr⟩, tv⟩ := x
  have k := given_any ⟨id, grp, ant, til, st, fr⟩ tv p
  unfold aI aU at *
  dsimp only at *
  by_cases h3 : st = 3
  · subst h3
    have h1 := as_trace3
    have h2 := m_given
    rw [ifT_3]
    generalize decide (fr = p) = t at *
    go_enter Try.func50, Try.ntmps50
    go_wp2_with (go_at_call 131; refine (k _).mono ?_; rintro e w1 ⟨rfl, hb1⟩)
    go_ret
    exact ⟨ret_boolQ (by simp), hb1⟩
  · have h1 := as_traceN h3
    have HE := hidden (show decide (st = 3) = false by simp [h3])
    generalize ifT st = T at *
    go_enter Try.func50, Try.ntmps50
    go_wp2_with fail
    go_ret
    exact ⟨ret_boolQ (by rw [HE.out]; rfl), by repeat (first | exact Below.refl _ _ | assumption | refine st_drew ?_ | refine st_drewN ?_ _ | refine Below.setCell ?_ (by first | omega | (simp; done) | (simp; omega)) _ | refine Below.alloc ?_ (by first | omega | (simp; done) | (simp; omega)) _)⟩

end Go.Proofs.Ytaidhcbchpcemaa
