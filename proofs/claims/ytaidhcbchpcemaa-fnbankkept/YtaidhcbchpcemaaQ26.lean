/-
  What may be done with a unit behind the interface.
-/
import Derived.Test.YtaidhcbchpcemaaQ23
import Derived.Test.YtaidhcbchpcemaaQ17
namespace Go.Proofs.Ytaidhcbchpcemaa
open Go.RowKit Va Bl
set_option linter.all false

/-- A deed as a value. -/
def aDo (a : Da) : Value := .agg #[.int .i64 a.k, .int .i64 a.id, .int .i64 a.t]

set_option maxRecDepth 20000 in
set_option maxHeartbeats 4000000 in
theorem irefuse_any (x : Ut) (ta : Option Addr) (tn tc : Nat) (n : Nd) (na : Option Addr) (nn nc : Nat) (t : Int) (w : World) (h : IRw w (.slice ta tn tc) x.ant) (hn : x.ant.length ≤ 1048576) (h' : IRw w (.slice na nn nc) n.ag) (hn' : n.ag.length ≤ 1048576) :
    Calls Try.prog 78 #[aN n (.slice na nn nc), aU x (.slice ta tn tc), .int .i64 t] w fun e w' => e = .returned (.int .i64 (refuse x n t)) ∧ Below w.heap.size w w' := by
  have k := fun W hW hW' => ifits_any x ta tn tc n na nn nc W hW hn hW' hn'
  have HU := hidden (fun W (hW : Below w.heap.size w W) => h.below hW)
  have HN := hidden (fun W (hW : Below w.heap.size w W) => h'.below hW)
  clear h h'
  unfold aU aN at *
  unfold refuse
  by_cases q : x.til < t
  · rw [if_pos q]
    go_enter Try.func78, Try.ntmps78
    go_wp2_with fail
    go_ret
    exact ⟨rfl, by repeat (first | exact Below.refl _ _ | assumption | refine st_drew ?_ | refine st_drewN ?_ _ | refine Below.setCell ?_ (by first | omega | (simp; done) | (simp; omega)) _ | refine Below.alloc ?_ (by first | omega | (simp; done) | (simp; omega)) _)⟩
  · rw [if_neg q]
    cases hF : fitsB x n with
    | true =>
      rw [hF] at k
      rw [if_pos rfl]
      clear hF
      go_enter Try.func78, Try.ntmps78
      go_wp2_with (go_at_call 17; refine (k _ (HU.out _ (by repeat (first | exact Below.refl _ _ | assumption | refine st_drew ?_ | refine st_drewN ?_ _ | refine Below.setCell ?_ (by first | omega | (simp; done) | (simp; omega)) _ | refine Below.alloc ?_ (by first | omega | (simp; done) | (simp; omega)) _))) (HN.out _ (by repeat (first | exact Below.refl _ _ | assumption | refine st_drew ?_ | refine st_drewN ?_ _ | refine Below.setCell ?_ (by first | omega | (simp; done) | (simp; omega)) _ | refine Below.alloc ?_ (by first | omega | (simp; done) | (simp; omega)) _)))).mono ?_; rintro e w1 ⟨rfl, hb1⟩; have bA := onto (show Below w.heap.size w _ from by repeat (first | exact Below.refl _ _ | assumption | refine st_drew ?_ | refine st_drewN ?_ _ | refine Below.setCell ?_ (by first | omega | (simp; done) | (simp; omega)) _ | refine Below.alloc ?_ (by first | omega | (simp; done) | (simp; omega)) _)) hb1; clear hb1)
      go_ret
      exact ⟨rfl, bA⟩
    | false =>
      rw [hF] at k
      rw [if_neg (by simp)]
      clear hF
      go_enter Try.func78, Try.ntmps78
      go_wp2_with (go_at_call 17; refine (k _ (HU.out _ (by repeat (first | exact Below.refl _ _ | assumption | refine st_drew ?_ | refine st_drewN ?_ _ | refine Below.setCell ?_ (by first | omega | (simp; done) | (simp; omega)) _ | refine Below.alloc ?_ (by first | omega | (simp; done) | (simp; omega)) _))) (HN.out _ (by repeat (first | exact Below.refl _ _ | assumption | refine st_drew ?_ | refine st_drewN ?_ _ | refine Below.setCell ?_ (by first | omega | (simp; done) | (simp; omega)) _ | refine Below.alloc ?_ (by first | omega | (simp; done) | (simp; omega)) _)))).mono ?_; rintro e w1 ⟨rfl, hb1⟩; have bA := onto (show Below w.heap.size w _ from by repeat (first | exact Below.refl _ _ | assumption | refine st_drew ?_ | refine st_drewN ?_ _ | refine Below.setCell ?_ (by first | omega | (simp; done) | (simp; omega)) _ | refine Below.alloc ?_ (by first | omega | (simp; done) | (simp; omega)) _)) hb1; clear hb1)
      go_ret
      exact ⟨rfl, bA⟩

set_option maxRecDepth 20000 in
set_option maxHeartbeats 4000000 in
theorem ias_any (x : Ut) (ta : Option Addr) (tn tc : Nat) (s p : Int) (w : World) :
    Calls Try.prog 126 #[aU x (.slice ta tn tc), .int .i64 s, .int .i64 p] w fun e w' => e = .returned (aU { x with st := s, fr := p } (.slice ta tn tc)) ∧ Below w.heap.size w w' := by
  unfold aU
  dsimp only
  have P := PB.new (w.alloc (.cells #[.int .i64 x.id, .int .i64 x.grp, .slice ta tn tc, .int .i64 x.til, .int .i64 s, .int .i64 p] 37)) #[.int .i64 x.id, .int .i64 x.grp, .slice ta tn tc, .int .i64 x.til, .int .i64 s, .int .i64 p] 37
  simp only [World.size_alloc] at P
  have HP := hidden P
  clear P
  go_enter Try.func126, Try.ntmps126
  go_wp2_with fail
  exact bodyPost_ret (v := .agg #[.int .i64 x.id, .int .i64 x.grp, .slice ta tn tc, .int .i64 x.til, .int .i64 s, .int .i64 p]) (results_cell_row Try.results126 _ _ (w.heap.size + 1) 37 _ (0, 0) _ rfl HP.out Try.underlying37 rfl (by kernel_rfl)) rfl ⟨rfl, by repeat (first | exact Below.refl _ _ | assumption | refine st_drew ?_ | refine st_drewN ?_ _ | refine Below.setCell ?_ (by first | omega | (simp; done) | (simp; omega)) _ | refine Below.alloc ?_ (by first | omega | (simp; done) | (simp; omega)) _)⟩

set_option maxRecDepth 20000 in
set_option maxHeartbeats 4000000 in
theorem ikept_any (x : Ut) (ta : Option Addr) (tn tc : Nat) (p : Int) (w : World) :
    Calls Try.prog 124 #[aU x (.slice ta tn tc), .int .i64 p] w fun e w' => e = .returned (aI ({ x with st := 2, fr := p }, (.slice ta tn tc))) ∧ Below w.heap.size w w' := by
  have k := fun W => ias_any x ta tn tc 2 p W
  unfold aI aU at *
  dsimp only at *
  rw [show ifT 2 = 111 from rfl]
  go_enter Try.func124, Try.ntmps124
  go_wp2_with (go_at_call 126; refine (k _).mono ?_; rintro e w1 ⟨rfl, hb1⟩; have bA := onto (show Below w.heap.size w _ from by repeat (first | exact Below.refl _ _ | assumption | refine st_drew ?_ | refine st_drewN ?_ _ | refine Below.setCell ?_ (by first | omega | (simp; done) | (simp; omega)) _ | refine Below.alloc ?_ (by first | omega | (simp; done) | (simp; omega)) _)) hb1; clear hb1)
  go_ret
  exact ⟨rfl, bA⟩

set_option maxRecDepth 20000 in
set_option maxHeartbeats 4000000 in
theorem ithrown1_any (x : Ut) (ta : Option Addr) (tn tc : Nat) (w : World) :
    Calls Try.prog 125 #[aU x (.slice ta tn tc)] w fun e w' => e = .returned (aI ({ x with st := 4, fr := -1 }, (.slice ta tn tc))) ∧ Below w.heap.size w w' := by
  have k := fun W => ias_any x ta tn tc 4 (-1) W
  unfold aI aU at *
  dsimp only at *
  rw [show ifT 4 = 113 from rfl]
  go_enter Try.func125, Try.ntmps125
  go_wp2_with (go_at_call 126; refine (k _).mono ?_; rintro e w1 ⟨rfl, hb1⟩; have bA := onto (show Below w.heap.size w _ from by repeat (first | exact Below.refl _ _ | assumption | refine st_drew ?_ | refine st_drewN ?_ _ | refine Below.setCell ?_ (by first | omega | (simp; done) | (simp; omega)) _ | refine Below.alloc ?_ (by first | omega | (simp; done) | (simp; omega)) _)) hb1; clear hb1)
  go_ret
  exact ⟨rfl, bA⟩

set_option maxRecDepth 20000 in
set_option maxHeartbeats 4000000 in
theorem iback_any (x : Ut) (ta : Option Addr) (tn tc : Nat) (w : World) :
    Calls Try.prog 127 #[aU x (.slice ta tn tc)] w fun e w' => e = .returned (aI ({ x with st := 1, fr := -1 }, (.slice ta tn tc))) ∧ Below w.heap.size w w' := by
  have k := fun W => ias_any x ta tn tc 1 (-1) W
  unfold aI aU at *
  dsimp only at *
  rw [show ifT 1 = 110 from rfl]
  go_enter Try.func127, Try.ntmps127
  go_wp2_with (go_at_call 126; refine (k _).mono ?_; rintro e w1 ⟨rfl, hb1⟩; have bA := onto (show Below w.heap.size w _ from by repeat (first | exact Below.refl _ _ | assumption | refine st_drew ?_ | refine st_drewN ?_ _ | refine Below.setCell ?_ (by first | omega | (simp; done) | (simp; omega)) _ | refine Below.alloc ?_ (by first | omega | (simp; done) | (simp; omega)) _)) hb1; clear hb1)
  go_ret
  exact ⟨rfl, bA⟩

set_option maxRecDepth 20000 in
set_option maxHeartbeats 4000000 in
theorem igiven_any (x : Ut) (ta : Option Addr) (tn tc : Nat) (w : World) :
    Calls Try.prog 128 #[aU x (.slice ta tn tc)] w fun e w' => e = .returned (aI ({ x with st := 3, fr := x.fr }, (.slice ta tn tc))) ∧ Below w.heap.size w w' := by
  have k := fun W => ias_any x ta tn tc 3 x.fr W
  unfold aI aU at *
  dsimp only at *
  rw [show ifT 3 = 112 from rfl]
  go_enter Try.func128, Try.ntmps128
  go_wp2_with (go_at_call 126; refine (k _).mono ?_; rintro e w1 ⟨rfl, hb1⟩; have bA := onto (show Below w.heap.size w _ from by repeat (first | exact Below.refl _ _ | assumption | refine st_drew ?_ | refine st_drewN ?_ _ | refine Below.setCell ?_ (by first | omega | (simp; done) | (simp; omega)) _ | refine Below.alloc ?_ (by first | omega | (simp; done) | (simp; omega)) _)) hb1; clear hb1)
  go_ret
  exact ⟨rfl, bA⟩

set_option maxRecDepth 20000 in
set_option maxHeartbeats 4000000 in
theorem ithrown2_any (x : Ut) (ta : Option Addr) (tn tc : Nat) (w : World) :
    Calls Try.prog 130 #[aU x (.slice ta tn tc)] w fun e w' => e = .returned (aI ({ x with st := 4, fr := -1 }, (.slice ta tn tc))) ∧ Below w.heap.size w w' := by
  have k := fun W => ias_any x ta tn tc 4 (-1) W
  unfold aI aU at *
  dsimp only at *
  rw [show ifT 4 = 113 from rfl]
  go_enter Try.func130, Try.ntmps130
  go_wp2_with (go_at_call 126; refine (k _).mono ?_; rintro e w1 ⟨rfl, hb1⟩; have bA := onto (show Below w.heap.size w _ from by repeat (first | exact Below.refl _ _ | assumption | refine st_drew ?_ | refine st_drewN ?_ _ | refine Below.setCell ?_ (by first | omega | (simp; done) | (simp; omega)) _ | refine Below.alloc ?_ (by first | omega | (simp; done) | (simp; omega)) _)) hb1; clear hb1)
  go_ret
  exact ⟨rfl, bA⟩

set_option maxRecDepth 20000 in
set_option maxHeartbeats 1000000 in
theorem iiskept_any (x : Ut) (ta : Option Addr) (tn tc : Nat) (p : Int) (w : World) : Calls Try.prog 129 #[aU x (.slice ta tn tc), .int .i64 p] w fun e w' => e = .returned (.bool (decide (x.fr = p))) ∧ Below w.heap.size w w' := by
  unfold aU
  go_enter Try.func129, Try.ntmps129
  go_wp2_with fail
  all_goals go_ret
  all_goals exact ⟨ret_boolQ (by first | rfl | (simp; done)), by repeat (first | exact Below.refl _ _ | assumption | refine st_drew ?_ | refine st_drewN ?_ _ | refine Below.setCell ?_ (by first | omega | (simp; done) | (simp; omega)) _ | refine Below.alloc ?_ (by first | omega | (simp; done) | (simp; omega)) _)⟩

set_option maxRecDepth 20000 in
set_option maxHeartbeats 4000000 in
theorem idoing_any (a : Da) (w : World) : Calls Try.prog 65 #[aDo a] w fun e w' => e = .returned (.bool (doingB a)) ∧ Below w.heap.size w w' := by
  have k1 := iunit_any a.id
  have k2 := itime_any a.t
  obtain ⟨ak, ai, at'⟩ := a
  unfold aDo doingB at *
  dsimp only at *
  generalize rng ai 1 1000000 = t1 at *
  generalize tmv at' = t2 at *
  by_cases q1 : ak < 1
  · have HE : Hid (rng ak 1 4 = false) := by rw [Hid]; simp [rng]; omega
    have q2 : ¬ 1 ≤ ak := by omega
    rw [HE.out]
    go_enter Try.func65, Try.ntmps65
    go_wp2_with fail
    all_goals go_ret
    all_goals exact ⟨ret_boolQ (by simp), by repeat (first | exact Below.refl _ _ | assumption | refine st_drew ?_ | refine st_drewN ?_ _ | refine Below.setCell ?_ (by first | omega | (simp; done) | (simp; omega)) _ | refine Below.alloc ?_ (by first | omega | (simp; done) | (simp; omega)) _)⟩
  by_cases q3 : ak ≤ 4
  · have HE : Hid (rng ak 1 4 = true) := by rw [Hid, rng_iff]; omega
    have q2 : 1 ≤ ak := by omega
    rw [HE.out]
    rcases t1 with _ | _
    · go_enter Try.func65, Try.ntmps65
      go_wp2_with (with_reducible (first | refine (k1 _).mono ?_ | refine (k2 _).mono ?_); rintro e w1 ⟨rfl, rfl⟩)
      all_goals go_ret
      all_goals exact ⟨ret_boolQ (by simp), by repeat (first | exact Below.refl _ _ | assumption | refine st_drew ?_ | refine st_drewN ?_ _ | refine Below.setCell ?_ (by first | omega | (simp; done) | (simp; omega)) _ | refine Below.alloc ?_ (by first | omega | (simp; done) | (simp; omega)) _)⟩
    · go_enter Try.func65, Try.ntmps65
      go_wp2_with (with_reducible (first | refine (k1 _).mono ?_ | refine (k2 _).mono ?_); rintro e w1 ⟨rfl, rfl⟩)
      all_goals go_ret
      all_goals exact ⟨ret_boolQ (by simp), by repeat (first | exact Below.refl _ _ | assumption | refine st_drew ?_ | refine st_drewN ?_ _ | refine Below.setCell ?_ (by first | omega | (simp; done) | (simp; omega)) _ | refine Below.alloc ?_ (by first | omega | (simp; done) | (simp; omega)) _)⟩
  · have HE : Hid (rng ak 1 4 = false) := by rw [Hid]; simp [rng]; omega
    have q2 : 1 ≤ ak := by omega
    rw [HE.out]
    go_enter Try.func65, Try.ntmps65
    go_wp2_with fail
    all_goals go_ret
    all_goals exact ⟨ret_boolQ (by simp), by repeat (first | exact Below.refl _ _ | assumption | refine st_drew ?_ | refine st_drewN ?_ _ | refine Below.setCell ?_ (by first | omega | (simp; done) | (simp; omega)) _ | refine Below.alloc ?_ (by first | omega | (simp; done) | (simp; omega)) _)⟩

theorem as_keep1 (v : Value) (xT : TypeId) (w : World) : (Instr.typeAssert (.iface 110 v) xT 96 true).run Try.prog w = .ok (.tuple #[.iface 110 v, .bool true]) w := run_typeAssert_hasB Try.underlying96 (by kernel_rfl) v xT w
theorem as_keepN {st : Int} (h : ¬ st = 1) (v : Value) (xT : TypeId) (w : World) : (Instr.typeAssert (.iface (ifT st) v) xT 96 true).run Try.prog w = .ok (.tuple #[.nilIface, .bool false]) w := by
  unfold ifT
  repeat' split
  all_goals first | (exfalso; omega) | exact run_typeAssert_lacksB Try.underlying96 (by kernel_rfl) (by kernel_rfl) v xT w
theorem as_giv2 (v : Value) (xT : TypeId) (w : World) : (Instr.typeAssert (.iface 111 v) xT 116 true).run Try.prog w = .ok (.tuple #[.iface 111 v, .bool true]) w := run_typeAssert_hasB Try.underlying116 (by kernel_rfl) v xT w
theorem as_givN {st : Int} (h : ¬ st = 2) (v : Value) (xT : TypeId) (w : World) : (Instr.typeAssert (.iface (ifT st) v) xT 116 true).run Try.prog w = .ok (.tuple #[.nilIface, .bool false]) w := by
  unfold ifT
  repeat' split
  all_goals first | (exfalso; omega) | exact run_typeAssert_lacksB Try.underlying116 (by kernel_rfl) (by kernel_rfl) v xT w
theorem as_thr1 (v : Value) (xT : TypeId) (w : World) : (Instr.typeAssert (.iface 110 v) xT 119 true).run Try.prog w = .ok (.tuple #[.iface 110 v, .bool true]) w := run_typeAssert_hasB Try.underlying119 (by kernel_rfl) v xT w
theorem as_thr2 (v : Value) (xT : TypeId) (w : World) : (Instr.typeAssert (.iface 111 v) xT 119 true).run Try.prog w = .ok (.tuple #[.iface 111 v, .bool true]) w := run_typeAssert_hasB Try.underlying119 (by kernel_rfl) v xT w
theorem as_thrN {st : Int} (h : ¬ st = 1) (h2 : ¬ st = 2) (v : Value) (xT : TypeId) (w : World) : (Instr.typeAssert (.iface (ifT st) v) xT 119 true).run Try.prog w = .ok (.tuple #[.nilIface, .bool false]) w := by
  unfold ifT
  repeat' split
  all_goals first | (exfalso; omega) | exact run_typeAssert_lacksB Try.underlying119 (by kernel_rfl) (by kernel_rfl) v xT w
theorem m_kept (a b c d e : Int) (s : Value) (w : World) : (method 262 110 (.agg #[.int .i64 a, .int .i64 b, s, .int .i64 c, .int .i64 d, .int .i64 e]) "loop.example/g00060/impl.keptFor").run Try.prog w = .ok (124, .agg #[.int .i64 a, .int .i64 b, s, .int .i64 c, .int .i64 d, .int .i64 e]) w := by kernel_rfl
theorem m_thr1 (a b c d e : Int) (s : Value) (w : World) : (method 262 110 (.agg #[.int .i64 a, .int .i64 b, s, .int .i64 c, .int .i64 d, .int .i64 e]) "loop.example/g00060/impl.thrown").run Try.prog w = .ok (125, .agg #[.int .i64 a, .int .i64 b, s, .int .i64 c, .int .i64 d, .int .i64 e]) w := by kernel_rfl
theorem m_back (a b c d e : Int) (s : Value) (w : World) : (method 262 111 (.agg #[.int .i64 a, .int .i64 b, s, .int .i64 c, .int .i64 d, .int .i64 e]) "loop.example/g00060/impl.back").run Try.prog w = .ok (127, .agg #[.int .i64 a, .int .i64 b, s, .int .i64 c, .int .i64 d, .int .i64 e]) w := by kernel_rfl
theorem m_givn (a b c d e : Int) (s : Value) (w : World) : (method 262 111 (.agg #[.int .i64 a, .int .i64 b, s, .int .i64 c, .int .i64 d, .int .i64 e]) "loop.example/g00060/impl.given").run Try.prog w = .ok (128, .agg #[.int .i64 a, .int .i64 b, s, .int .i64 c, .int .i64 d, .int .i64 e]) w := by kernel_rfl
theorem m_thr2 (a b c d e : Int) (s : Value) (w : World) : (method 262 111 (.agg #[.int .i64 a, .int .i64 b, s, .int .i64 c, .int .i64 d, .int .i64 e]) "loop.example/g00060/impl.thrown").run Try.prog w = .ok (130, .agg #[.int .i64 a, .int .i64 b, s, .int .i64 c, .int .i64 d, .int .i64 e]) w := by kernel_rfl
theorem m_iskept (a b c d e : Int) (s : Value) (w : World) : (method 262 111 (.agg #[.int .i64 a, .int .i64 b, s, .int .i64 c, .int .i64 d, .int .i64 e]) "loop.example/g00060/impl.isKeptFor").run Try.prog w = .ok (129, .agg #[.int .i64 a, .int .i64 b, s, .int .i64 c, .int .i64 d, .int .i64 e]) w := by kernel_rfl
theorem fld0 (a b c d e : Int) (s : Value) (w : World) : (Instr.field 37 (.agg #[.int .i64 a, .int .i64 b, s, .int .i64 c, .int .i64 d, .int .i64 e]) 0).run Try.prog w = .ok (.int .i64 a) w := by kernel_rfl
end Go.Proofs.Ytaidhcbchpcemaa
