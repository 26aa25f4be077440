/-
  Merged: Q26 Pk15.
-/
import Derived.Test.YtgcpiinmcbdkmaaMh21
import Derived.Test.YtgcpiinmcbdkmaaMh23
import Derived.Test.YtgcpiinmcbdkmaaMh9
import Derived.Test.YtgcpiinmcbdkmaaMh20
namespace Go.Proofs.Ytgcpiinmcbdkmaa
open Go.RowKit Va Bl
set_option linter.all false
def aDo (a : Da) : Value := .agg #[.int .i64 a.k, .int .i64 a.id, .int .i64 a.t]
set_option maxRecDepth 20000 in
set_option maxHeartbeats 4000000 in
theorem irefuse_any (x : Ut) (ta : Option Addr) (tn tc : Nat) (n : Nd) (na : Option Addr) (nn nc : Nat) (t : Int) (w : World) (h : IRw w (.slice ta tn tc) x.ant) (hn : x.ant.length ≤ 1048576) (h' : IRw w (.slice na nn nc) n.ag) (hn' : n.ag.length ≤ 1048576) :
    Calls Try.prog 84 #[aN n (.slice na nn nc), aU x (.slice ta tn tc), .int .i64 t] w fun e w' => e = .returned (.int .i64 (refuse x n t)) ∧ Below w.heap.size w w' := by
  have k := fun W hW hW' => ifits_any x ta tn tc n na nn nc W hW hn hW' hn'
  have HU := hidden (fun W (hW : Below w.heap.size w W) => h.below hW)
  have HN := hidden (fun W (hW : Below w.heap.size w W) => h'.below hW)
  clear h h'
  unfold aU aN at *
  unfold refuse
  by_cases q : x.til < t
  · rw [if_pos q]
    go_enter Try.func84, Try.ntmps84
    go_wp2_with fail
    go_ret
    exact ⟨rfl, by repeat (first | exact Below.refl _ _ | assumption | refine st_drew ?_ | refine st_drewN ?_ _ | refine Below.setCell ?_ (by first | omega | (simp; done) | (simp; omega)) _ | refine Below.alloc ?_ (by first | omega | (simp; done) | (simp; omega)) _)⟩
  · rw [if_neg q]
    cases hF : fitsB x n with
    | true =>
      rw [hF] at k
      rw [if_pos rfl]
      clear hF
      go_enter Try.func84, Try.ntmps84
      go_wp2_with (go_at_call 120; refine (k _ (HU.out _ (by repeat (first | exact Below.refl _ _ | assumption | refine st_drew ?_ | refine st_drewN ?_ _ | refine Below.setCell ?_ (by first | omega | (simp; done) | (simp; omega)) _ | refine Below.alloc ?_ (by first | omega | (simp; done) | (simp; omega)) _))) (HN.out _ (by repeat (first | exact Below.refl _ _ | assumption | refine st_drew ?_ | refine st_drewN ?_ _ | refine Below.setCell ?_ (by first | omega | (simp; done) | (simp; omega)) _ | refine Below.alloc ?_ (by first | omega | (simp; done) | (simp; omega)) _)))).mono ?_; rintro e w1 ⟨rfl, hb1⟩; have bA := onto (show Below w.heap.size w _ from by repeat (first | exact Below.refl _ _ | assumption | refine st_drew ?_ | refine st_drewN ?_ _ | refine Below.setCell ?_ (by first | omega | (simp; done) | (simp; omega)) _ | refine Below.alloc ?_ (by first | omega | (simp; done) | (simp; omega)) _)) hb1; clear hb1)
      go_ret
      exact ⟨rfl, bA⟩
    | false =>
      rw [hF] at k
      rw [if_neg (by simp)]
      clear hF
      go_enter Try.func84, Try.ntmps84
      go_wp2_with (go_at_call 120; refine (k _ (HU.out _ (by repeat (first | exact Below.refl _ _ | assumption | refine st_drew ?_ | refine st_drewN ?_ _ | refine Below.setCell ?_ (by first | omega | (simp; done) | (simp; omega)) _ | refine Below.alloc ?_ (by first | omega | (simp; done) | (simp; omega)) _))) (HN.out _ (by repeat (first | exact Below.refl _ _ | assumption | refine st_drew ?_ | refine st_drewN ?_ _ | refine Below.setCell ?_ (by first | omega | (simp; done) | (simp; omega)) _ | refine Below.alloc ?_ (by first | omega | (simp; done) | (simp; omega)) _)))).mono ?_; rintro e w1 ⟨rfl, hb1⟩; have bA := onto (show Below w.heap.size w _ from by repeat (first | exact Below.refl _ _ | assumption | refine st_drew ?_ | refine st_drewN ?_ _ | refine Below.setCell ?_ (by first | omega | (simp; done) | (simp; omega)) _ | refine Below.alloc ?_ (by first | omega | (simp; done) | (simp; omega)) _)) hb1; clear hb1)
      go_ret
      exact ⟨rfl, bA⟩
set_option maxRecDepth 20000 in
set_option maxHeartbeats 4000000 in
theorem ias_any (x : Ut) (ta : Option Addr) (tn tc : Nat) (s p : Int) (w : World) :
    Calls Try.prog 198 #[aU x (.slice ta tn tc), .int .i64 s, .int .i64 p] w fun e w' => e = .returned (aU { x with st := s, fr := p } (.slice ta tn tc)) ∧ Below w.heap.size w w' := by
  unfold aU
  dsimp only
  have P := PB.new (w.alloc (.cells #[.int .i64 x.id, .int .i64 x.grp, .slice ta tn tc, .int .i64 x.til, .int .i64 s, .int .i64 p] 81)) #[.int .i64 x.id, .int .i64 x.grp, .slice ta tn tc, .int .i64 x.til, .int .i64 s, .int .i64 p] 81
  simp only [World.size_alloc] at P
  have HP := hidden P
  clear P
  go_enter Try.func198, Try.ntmps198
  go_wp2_with fail
  exact bodyPost_ret (v := .agg #[.int .i64 x.id, .int .i64 x.grp, .slice ta tn tc, .int .i64 x.til, .int .i64 s, .int .i64 p]) (results_cell_row Try.results198 _ _ (w.heap.size + 1) 81 _ (0, 0) _ rfl HP.out Try.underlying81 rfl (by kernel_rfl)) rfl ⟨rfl, by repeat (first | exact Below.refl _ _ | assumption | refine st_drew ?_ | refine st_drewN ?_ _ | refine Below.setCell ?_ (by first | omega | (simp; done) | (simp; omega)) _ | refine Below.alloc ?_ (by first | omega | (simp; done) | (simp; omega)) _)⟩
set_option maxRecDepth 20000 in
set_option maxHeartbeats 4000000 in
theorem ikept_any (x : Ut) (ta : Option Addr) (tn tc : Nat) (p : Int) (w : World) :
    Calls Try.prog 196 #[aU x (.slice ta tn tc), .int .i64 p] w fun e w' => e = .returned (aI ({ x with st := 2, fr := p }, (.slice ta tn tc))) ∧ Below w.heap.size w w' := by
  have k := fun W => ias_any x ta tn tc 2 p W
  unfold aI aU at *
  dsimp only at *
  rw [show ifT 2 = 154 from rfl]
  go_enter Try.func196, Try.ntmps196
  go_wp2_with (go_at_call 198; refine (k _).mono ?_; rintro e w1 ⟨rfl, hb1⟩; have bA := onto (show Below w.heap.size w _ from by repeat (first | exact Below.refl _ _ | assumption | refine st_drew ?_ | refine st_drewN ?_ _ | refine Below.setCell ?_ (by first | omega | (simp; done) | (simp; omega)) _ | refine Below.alloc ?_ (by first | omega | (simp; done) | (simp; omega)) _)) hb1; clear hb1)
  go_ret
  exact ⟨rfl, bA⟩
set_option maxRecDepth 20000 in
set_option maxHeartbeats 4000000 in
theorem ithrown1_any (x : Ut) (ta : Option Addr) (tn tc : Nat) (w : World) :
    Calls Try.prog 197 #[aU x (.slice ta tn tc)] w fun e w' => e = .returned (aI ({ x with st := 4, fr := -1 }, (.slice ta tn tc))) ∧ Below w.heap.size w w' := by
  have k := fun W => ias_any x ta tn tc 4 (-1) W
  unfold aI aU at *
  dsimp only at *
  rw [show ifT 4 = 156 from rfl]
  go_enter Try.func197, Try.ntmps197
  go_wp2_with (go_at_call 198; refine (k _).mono ?_; rintro e w1 ⟨rfl, hb1⟩; have bA := onto (show Below w.heap.size w _ from by repeat (first | exact Below.refl _ _ | assumption | refine st_drew ?_ | refine st_drewN ?_ _ | refine Below.setCell ?_ (by first | omega | (simp; done) | (simp; omega)) _ | refine Below.alloc ?_ (by first | omega | (simp; done) | (simp; omega)) _)) hb1; clear hb1)
  go_ret
  exact ⟨rfl, bA⟩
set_option maxRecDepth 20000 in
set_option maxHeartbeats 4000000 in
theorem iback_any (x : Ut) (ta : Option Addr) (tn tc : Nat) (w : World) :
    Calls Try.prog 199 #[aU x (.slice ta tn tc)] w fun e w' => e = .returned (aI ({ x with st := 1, fr := -1 }, (.slice ta tn tc))) ∧ Below w.heap.size w w' := by
  have k := fun W => ias_any x ta tn tc 1 (-1) W
  unfold aI aU at *
  dsimp only at *
  rw [show ifT 1 = 153 from rfl]
  go_enter Try.func199, Try.ntmps199
  go_wp2_with (go_at_call 198; refine (k _).mono ?_; rintro e w1 ⟨rfl, hb1⟩; have bA := onto (show Below w.heap.size w _ from by repeat (first | exact Below.refl _ _ | assumption | refine st_drew ?_ | refine st_drewN ?_ _ | refine Below.setCell ?_ (by first | omega | (simp; done) | (simp; omega)) _ | refine Below.alloc ?_ (by first | omega | (simp; done) | (simp; omega)) _)) hb1; clear hb1)
  go_ret
  exact ⟨rfl, bA⟩
set_option maxRecDepth 20000 in
set_option maxHeartbeats 4000000 in
theorem igiven_any (x : Ut) (ta : Option Addr) (tn tc : Nat) (w : World) :
    Calls Try.prog 200 #[aU x (.slice ta tn tc)] w fun e w' => e = .returned (aI ({ x with st := 3, fr := x.fr }, (.slice ta tn tc))) ∧ Below w.heap.size w w' := by
  have k := fun W => ias_any x ta tn tc 3 x.fr W
  unfold aI aU at *
  dsimp only at *
  rw [show ifT 3 = 155 from rfl]
  go_enter Try.func200, Try.ntmps200
  go_wp2_with (go_at_call 198; refine (k _).mono ?_; rintro e w1 ⟨rfl, hb1⟩; have bA := onto (show Below w.heap.size w _ from by repeat (first | exact Below.refl _ _ | assumption | refine st_drew ?_ | refine st_drewN ?_ _ | refine Below.setCell ?_ (by first | omega | (simp; done) | (simp; omega)) _ | refine Below.alloc ?_ (by first | omega | (simp; done) | (simp; omega)) _)) hb1; clear hb1)
  go_ret
  exact ⟨rfl, bA⟩
set_option maxRecDepth 20000 in
set_option maxHeartbeats 4000000 in
theorem ithrown2_any (x : Ut) (ta : Option Addr) (tn tc : Nat) (w : World) :
    Calls Try.prog 202 #[aU x (.slice ta tn tc)] w fun e w' => e = .returned (aI ({ x with st := 4, fr := -1 }, (.slice ta tn tc))) ∧ Below w.heap.size w w' := by
  have k := fun W => ias_any x ta tn tc 4 (-1) W
  unfold aI aU at *
  dsimp only at *
  rw [show ifT 4 = 156 from rfl]
  go_enter Try.func202, Try.ntmps202
  go_wp2_with (go_at_call 198; refine (k _).mono ?_; rintro e w1 ⟨rfl, hb1⟩; have bA := onto (show Below w.heap.size w _ from by repeat (first | exact Below.refl _ _ | assumption | refine st_drew ?_ | refine st_drewN ?_ _ | refine Below.setCell ?_ (by first | omega | (simp; done) | (simp; omega)) _ | refine Below.alloc ?_ (by first | omega | (simp; done) | (simp; omega)) _)) hb1; clear hb1)
  go_ret
  exact ⟨rfl, bA⟩
set_option maxRecDepth 20000 in
set_option maxHeartbeats 1000000 in
theorem iiskept_any (x : Ut) (ta : Option Addr) (tn tc : Nat) (p : Int) (w : World) : Calls Try.prog 201 #[aU x (.slice ta tn tc), .int .i64 p] w fun e w' => e = .returned (.bool (decide (x.fr = p))) ∧ Below w.heap.size w w' := by
  unfold aU
  go_enter Try.func201, Try.ntmps201
  go_wp2_with fail
  all_goals go_ret
  all_goals exact ⟨ret_boolQ (by first | rfl | (simp; done)), by repeat (first | exact Below.refl _ _ | assumption | refine st_drew ?_ | refine st_drewN ?_ _ | refine Below.setCell ?_ (by first | omega | (simp; done) | (simp; omega)) _ | refine Below.alloc ?_ (by first | omega | (simp; done) | (simp; omega)) _)⟩
set_option maxRecDepth 20000 in
set_option maxHeartbeats 4000000 in
theorem idoing_any (a : Da) (w : World) : Calls Try.prog 98 #[aDo a] w fun e w' => e = .returned (.bool (doingB a)) ∧ Below w.heap.size w w' := by
  have k1 := iunit_any a.id
  have k2 := itime_any a.t
  obtain ⟨ak, ai, at'⟩ := a
  unfold aDo doingB at *
  dsimp only at *
  generalize rng ai 1 1000000 = t1 at *
  generalize tmv at' = t2 at *
  by_cases q1 : ak < 1
  · have HE : Hid (rng ak 1 4 = false) := by rw [Hid]; simp [rng]; omega
    have q2 : ¬ 1 ≤ ak := by omega
    rw [HE.out]
    go_enter Try.func98, Try.ntmps98
    go_wp2_with fail
    all_goals go_ret
    all_goals exact ⟨ret_boolQ (by simp), by repeat (first | exact Below.refl _ _ | assumption | refine st_drew ?_ | refine st_drewN ?_ _ | refine Below.setCell ?_ (by first | omega | (simp; done) | (simp; omega)) _ | refine Below.alloc ?_ (by first | omega | (simp; done) | (simp; omega)) _)⟩
  by_cases q3 : ak ≤ 4
  · have HE : Hid (rng ak 1 4 = true) := by rw [Hid, rng_iff]; omega
    have q2 : 1 ≤ ak := by omega
    rw [HE.out]
    rcases t1 with _ | _
    · go_enter Try.func98, Try.ntmps98
      go_wp2_with (with_reducible (first | refine (k1 _).mono ?_ | refine (k2 _).mono ?_); rintro e w1 ⟨rfl, rfl⟩)
      all_goals go_ret
      all_goals exact ⟨ret_boolQ (by simp), by repeat (first | exact Below.refl _ _ | assumption | refine st_drew ?_ | refine st_drewN ?_ _ | refine Below.setCell ?_ (by first | omega | (simp; done) | (simp; omega)) _ | refine Below.alloc ?_ (by first | omega | (simp; done) | (simp; omega)) _)⟩
    · go_enter Try.func98, Try.ntmps98
      go_wp2_with (with_reducible (first | refine (k1 _).mono ?_ | refine (k2 _).mono ?_); rintro e w1 ⟨rfl, rfl⟩)
      all_goals go_ret
      all_goals exact ⟨ret_boolQ (by simp), by repeat (first | exact Below.refl _ _ | assumption | refine st_drew ?_ | refine st_drewN ?_ _ | refine Below.setCell ?_ (by first | omega | (simp; done) | (simp; omega)) _ | refine Below.alloc ?_ (by first | omega | (simp; done) | (simp; omega)) _)⟩
  · have HE : Hid (rng ak 1 4 = false) := by rw [Hid]; simp [rng]; omega
    have q2 : 1 ≤ ak := by omega
    rw [HE.out]
    go_enter Try.func98, Try.ntmps98
    go_wp2_with fail
    all_goals go_ret
    all_goals exact ⟨ret_boolQ (by simp), by repeat (first | exact Below.refl _ _ | assumption | refine st_drew ?_ | refine st_drewN ?_ _ | refine Below.setCell ?_ (by first | omega | (simp; done) | (simp; omega)) _ | refine Below.alloc ?_ (by first | omega | (simp; done) | (simp; omega)) _)⟩
theorem as_keep1 (v : Value) (xT : TypeId) (w : World) : (Instr.typeAssert (.iface 153 v) xT 122 true).run Try.prog w = .ok (.tuple #[.iface 153 v, .bool true]) w := run_typeAssert_hasB Try.underlying122 (by kernel_rfl) v xT w
theorem as_keepN {st : Int} (h : ¬ st = 1) (v : Value) (xT : TypeId) (w : World) : (Instr.typeAssert (.iface (ifT st) v) xT 122 true).run Try.prog w = .ok (.tuple #[.nilIface, .bool false]) w := by
  unfold ifT
  repeat' split
  all_goals first | (exfalso; omega) | exact run_typeAssert_lacksB Try.underlying122 (by kernel_rfl) (by kernel_rfl) v xT w
theorem as_giv2 (v : Value) (xT : TypeId) (w : World) : (Instr.typeAssert (.iface 154 v) xT 173 true).run Try.prog w = .ok (.tuple #[.iface 154 v, .bool true]) w := run_typeAssert_hasB Try.underlying173 (by kernel_rfl) v xT w
theorem as_givN {st : Int} (h : ¬ st = 2) (v : Value) (xT : TypeId) (w : World) : (Instr.typeAssert (.iface (ifT st) v) xT 173 true).run Try.prog w = .ok (.tuple #[.nilIface, .bool false]) w := by
  unfold ifT
  repeat' split
  all_goals first | (exfalso; omega) | exact run_typeAssert_lacksB Try.underlying173 (by kernel_rfl) (by kernel_rfl) v xT w
theorem as_thr1 (v : Value) (xT : TypeId) (w : World) : (Instr.typeAssert (.iface 153 v) xT 176 true).run Try.prog w = .ok (.tuple #[.iface 153 v, .bool true]) w := run_typeAssert_hasB Try.underlying176 (by kernel_rfl) v xT w
theorem as_thr2 (v : Value) (xT : TypeId) (w : World) : (Instr.typeAssert (.iface 154 v) xT 176 true).run Try.prog w = .ok (.tuple #[.iface 154 v, .bool true]) w := run_typeAssert_hasB Try.underlying176 (by kernel_rfl) v xT w
theorem as_thrN {st : Int} (h : ¬ st = 1) (h2 : ¬ st = 2) (v : Value) (xT : TypeId) (w : World) : (Instr.typeAssert (.iface (ifT st) v) xT 176 true).run Try.prog w = .ok (.tuple #[.nilIface, .bool false]) w := by
  unfold ifT
  repeat' split
  all_goals first | (exfalso; omega) | exact run_typeAssert_lacksB Try.underlying176 (by kernel_rfl) (by kernel_rfl) v xT w
theorem m_kept (a b c d e : Int) (s : Value) (w : World) : (method 331 153 (.agg #[.int .i64 a, .int .i64 b, s, .int .i64 c, .int .i64 d, .int .i64 e]) "loop.example/g00060/impl.keptFor").run Try.prog w = .ok (196, .agg #[.int .i64 a, .int .i64 b, s, .int .i64 c, .int .i64 d, .int .i64 e]) w := by kernel_rfl
theorem m_thr1 (a b c d e : Int) (s : Value) (w : World) : (method 331 153 (.agg #[.int .i64 a, .int .i64 b, s, .int .i64 c, .int .i64 d, .int .i64 e]) "loop.example/g00060/impl.thrown").run Try.prog w = .ok (197, .agg #[.int .i64 a, .int .i64 b, s, .int .i64 c, .int .i64 d, .int .i64 e]) w := by kernel_rfl
theorem m_back (a b c d e : Int) (s : Value) (w : World) : (method 331 154 (.agg #[.int .i64 a, .int .i64 b, s, .int .i64 c, .int .i64 d, .int .i64 e]) "loop.example/g00060/impl.back").run Try.prog w = .ok (199, .agg #[.int .i64 a, .int .i64 b, s, .int .i64 c, .int .i64 d, .int .i64 e]) w := by kernel_rfl
theorem m_givn (a b c d e : Int) (s : Value) (w : World) : (method 331 154 (.agg #[.int .i64 a, .int .i64 b, s, .int .i64 c, .int .i64 d, .int .i64 e]) "loop.example/g00060/impl.given").run Try.prog w = .ok (200, .agg #[.int .i64 a, .int .i64 b, s, .int .i64 c, .int .i64 d, .int .i64 e]) w := by kernel_rfl
theorem m_thr2 (a b c d e : Int) (s : Value) (w : World) : (method 331 154 (.agg #[.int .i64 a, .int .i64 b, s, .int .i64 c, .int .i64 d, .int .i64 e]) "loop.example/g00060/impl.thrown").run Try.prog w = .ok (202, .agg #[.int .i64 a, .int .i64 b, s, .int .i64 c, .int .i64 d, .int .i64 e]) w := by kernel_rfl
theorem m_iskept (a b c d e : Int) (s : Value) (w : World) : (method 331 154 (.agg #[.int .i64 a, .int .i64 b, s, .int .i64 c, .int .i64 d, .int .i64 e]) "loop.example/g00060/impl.isKeptFor").run Try.prog w = .ok (201, .agg #[.int .i64 a, .int .i64 b, s, .int .i64 c, .int .i64 d, .int .i64 e]) w := by kernel_rfl
theorem fld0 (a b c d e : Int) (s : Value) (w : World) : (Instr.field 81 (.agg #[.int .i64 a, .int .i64 b, s, .int .i64 c, .int .i64 d, .int .i64 e]) 0).run Try.prog w = .ok (.int .i64 a) w := by kernel_rfl
end Go.Proofs.Ytgcpiinmcbdkmaa

namespace Go.Proofs.Ytgcpiinmcbdkmaa
open Go.RowKit Va Bl
set_option linter.all false
theorem may_ref (n : Nd) (t : Int) (x : Ut) : mayB n t x = (decide (x.st = 1) && decide (refuse x n t = 0)) := by
  unfold mayB refuse
  by_cases h : x.til < t
  · rw [if_pos h, decide_eq_false (show ¬ t ≤ x.til by omega)]; simp
  · rw [if_neg h, decide_eq_true (show t ≤ x.til by omega)]
    cases fitsB x n <;> simp
def FMh3 (C : Nat) (n : Nd) (x : Ut) (tv tn : Value) (r9 tm : Int) (i9 : Nat) (v : Value) (w : World) : Prop :=
  match i9 with
  | 0 => v = .agg #[.int .i64 n.p, .int .i64 n.g, tn]
  | 1 => v = .iface 153 (.agg #[.int .i64 x.id, .int .i64 x.grp, tv, .int .i64 x.til, .int .i64 x.st, .int .i64 x.fr])
  | 2 => v = .agg #[.int .i64 x.id, .int .i64 x.grp, tv, .int .i64 x.til, .int .i64 x.st, .int .i64 x.fr]
  | 3 => v = .int .i64 tm
  | 4 => v = .int .i64 r9
  | 5 => v = .bool (decide (r9 = 0))
  | 6 => v = .bool (decide (r9 = 0))
  | _ => True
theorem sizeMh3 : (Rg.opsOf Try.f45 3).size = 7 := by kernel_rfl
set_option maxRecDepth 20000 in
set_option maxHeartbeats 8000000 in
theorem regMh3 {Q : Exit → Act → World → Prop} {a : Act} {w9 : World} {C : Nat} {n : Nd} {x : Ut} {tv tn : Value} {r9 tm : Int} (ha : a.tmps.size = 21)
    (k1 : a.tmps[1]? = some (.iface 153 (.agg #[.int .i64 x.id, .int .i64 x.grp, tv, .int .i64 x.til, .int .i64 x.st, .int .i64 x.fr]))) (k3 : a.tmps[3]? = some (.pointer (some ⟨C, 0, none⟩))) (k2 : a.tmps[2]? = some (.int .i64 tm)) (hE : PB w9 C #[.int .i64 n.p, .int .i64 n.g, tn] 27)(hT : ∀ W, Below w9.heap.size w9 W → Calls Try.prog 195 #[.agg #[.int .i64 x.id, .int .i64 x.grp, tv, .int .i64 x.til, .int .i64 x.st, .int .i64 x.fr]] W fun e W' => e = .returned (.agg #[.int .i64 x.id, .int .i64 x.grp, tv, .int .i64 x.til, .int .i64 x.st, .int .i64 x.fr]) ∧ Below W.heap.size W W') (hR : ∀ W, Below w9.heap.size w9 W → Calls Try.prog 84 #[.agg #[.int .i64 n.p, .int .i64 n.g, tn], .agg #[.int .i64 x.id, .int .i64 x.grp, tv, .int .i64 x.til, .int .i64 x.st, .int .i64 x.fr], .int .i64 tm] W fun e W' => e = .returned (.int .i64 r9) ∧ Below W.heap.size W W')
    (hend : ∀ b' w', Rg.Fr (Rg.opsOf Try.f45 3) a b' → Below w9.heap.size w9 w' → Rg.out (Rg.opsOf Try.f45 3) b' 6 = .bool (decide (r9 = 0)) → Q .normal b' w') :
    (Code.region 3 (Rg.opsOf Try.f45 3) true).wp Try.prog Q a w9 := by
  refine Rg.region_set3 (by kernel_rfl) (fun _ w' => Below w9.heap.size w9 w') (FMh3 C n x tv tn r9 tm) (by rw [ha, sizeMh3]; kernel_rfl) (st_drew (Below.refl _ _)) ?_ ?_
  case refine_2 =>
    intro l b' w' hf hall hI hA
    rw [sizeMh3] at hA
    exact hend b' w' hf hI (hA 6 (by decide))
  case refine_1 =>
    clear hend
    have HS : ∀ {w w' : World}, Below w.heap.size w w' → ∀ k9 y9, FMh3 C n x tv tn r9 tm k9 y9 w → FMh3 C n x tv tn r9 tm k9 y9 w' := fun hb k9 y9 h => by
      unfold FMh3 at *
      split at h <;> exact h
    intro i' hi'
    rw [sizeMh3] at hi'
    rcases (show i' = 0 ∨ i' = 1 ∨ i' = 2 ∨ i' = 3 ∨ i' = 4 ∨ i' = 5 ∨ i' = 6 by omega) with rfl | rfl | rfl | rfl | rfl | rfl | rfl
    · intro ll bb w' hs hlf hN hO hf hI hA
      clear hi'
      have q3 := hf.kept (s := 3) (by rw [sizeMh3]; kernel_rfl) k3
      obtain ⟨d0, d1, d2⟩ := (hE.below hI).three
      exact Rg.op_value (o := ⟨some 15, Op.load 27 (Operand.tmp 3), _, _, _, _⟩) (x := .agg #[.int .i64 n.p, .int .i64 n.g, tn]) rfl rfl (by clear hA HS hN hO hE hT hR; simp only [execOp]; go_simp) ⟨_, rfl, (fun h => by cases h), rfl, hI, fun _ _ _ _ h => h⟩
    · intro ll bb w' hs hlf hN hO hf hI hA
      clear hi'
      have q0 := hf.kept (s := 1) (by rw [sizeMh3]; kernel_rfl) k1
      exact Rg.op_value (o := ⟨some 16, Op.move (Operand.tmp 1), _, _, _, _⟩) (x := .iface 153 (.agg #[.int .i64 x.id, .int .i64 x.grp, tv, .int .i64 x.til, .int .i64 x.st, .int .i64 x.fr])) rfl rfl (by clear hA HS hN hO hE hT hR; simp only [execOp]; go_simp) ⟨_, rfl, (fun h => by cases h), rfl, hI, fun _ _ _ _ h => h⟩
    · intro ll bb w' hs hlf hN hO hf hI hA
      clear hi'
      have q16 : bb.tmps[16]? = some _ := hf.tmp (k := 1) rfl (by rw [ha]; decide) (hA 1 (by kernel_rfl))
      have hm := m_told1
      refine Rg.op_call (o := ⟨some 17, Op.call { callee := Callee.invoke (Operand.tmp 16) "loop.example/g00060/impl.told", args := #[], argTypes := _ }, _, _, _, _⟩) rfl rfl (by clear hA HS hN hO hE hT hR; simp only [execOp, resolve]; go_simp) (hT w' hI) ?_
      rintro e w2 ⟨rfl, hb2⟩
      exact ⟨_, rfl, _, rfl, (fun h => by cases h), rfl, onto hI hb2, fun k9 y9 _ _ h => HS hb2 k9 y9 h⟩
    · intro ll bb w' hs hlf hN hO hf hI hA
      clear hi'
      have q0 := hf.kept (s := 2) (by rw [sizeMh3]; kernel_rfl) k2
      exact Rg.op_value (o := ⟨some 18, Op.move (Operand.tmp 2), _, _, _, _⟩) (x := .int .i64 tm) rfl rfl (by clear hA HS hN hO hE hT hR; simp only [execOp]; go_simp) ⟨_, rfl, (fun h => by cases h), rfl, hI, fun _ _ _ _ h => h⟩
    · intro ll bb w' hs hlf hN hO hf hI hA
      clear hi'
      have q15 : bb.tmps[15]? = some _ := hf.tmp (k := 0) rfl (by rw [ha]; decide) (hA 0 (by kernel_rfl))
      have q17 : bb.tmps[17]? = some _ := hf.tmp (k := 2) rfl (by rw [ha]; decide) (hA 2 (by kernel_rfl))
      have q18 : bb.tmps[18]? = some _ := hf.tmp (k := 3) rfl (by rw [ha]; decide) (hA 3 (by kernel_rfl))
      refine Rg.op_call (o := ⟨some 19, Op.call { callee := Callee.value (Operand.func 84), args := #[(Operand.tmp 15), (Operand.tmp 17), (Operand.tmp 18)], argTypes := _ }, _, _, _, _⟩) rfl rfl (by clear hA HS hN hO hE hT hR; simp only [execOp, resolve]; go_simp) (hR w' hI) ?_
      rintro e w2 ⟨rfl, hb2⟩
      exact ⟨_, rfl, _, rfl, (fun h => by cases h), rfl, onto hI hb2, fun k9 y9 _ _ h => HS hb2 k9 y9 h⟩
    · intro ll bb w' hs hlf hN hO hf hI hA
      clear hi'
      have q19 : bb.tmps[19]? = some _ := hf.tmp (k := 4) rfl (by rw [ha]; decide) (hA 4 (by kernel_rfl))
      exact Rg.op_value (o := ⟨some 20, Op.binOp BinOp.eql 2 (Operand.tmp 19) (Operand.const (Value.int .i64 0)) 2, _, _, _, _⟩) (x := .bool (decide (r9 = 0))) rfl rfl (by clear hA HS hN hO hE hT hR; simp only [execOp]; go_simp; try rfl) ⟨_, rfl, (fun h => by cases h), rfl, hI, fun _ _ _ _ h => h⟩
    · intro ll bb w' hs hlf hN hO hf hI hA
      clear hi'
      have q20 : bb.tmps[20]? = some _ := hf.tmp (k := 5) rfl (by rw [ha]; decide) (hA 5 (by kernel_rfl))
      exact Rg.op_value (o := ⟨some 6, Op.assign (Operand.tmp 20), _, _, _, _⟩) (x := .bool (decide (r9 = 0))) rfl rfl (by clear hA HS hN hO hE hT hR; simp only [execOp]; go_simp) ⟨_, rfl, (fun h => by cases h), rfl, hI, fun _ _ _ _ h => h⟩
theorem dMh3_0 : Rg.dstAt (Rg.opsOf Try.f45 3) 0 = some 15 := by kernel_rfl
theorem dMh3_1 : Rg.dstAt (Rg.opsOf Try.f45 3) 1 = some 16 := by kernel_rfl
theorem dMh3_2 : Rg.dstAt (Rg.opsOf Try.f45 3) 2 = some 17 := by kernel_rfl
theorem dMh3_3 : Rg.dstAt (Rg.opsOf Try.f45 3) 3 = some 18 := by kernel_rfl
theorem dMh3_4 : Rg.dstAt (Rg.opsOf Try.f45 3) 4 = some 19 := by kernel_rfl
theorem dMh3_5 : Rg.dstAt (Rg.opsOf Try.f45 3) 5 = some 20 := by kernel_rfl
theorem dMh3_6 : Rg.dstAt (Rg.opsOf Try.f45 3) 6 = some 6 := by kernel_rfl
theorem layMh3 {a b : Act} (hf : Rg.Fr (Rg.opsOf Try.f45 3) a b) : b = (((((((a.put (some 15) (Rg.out (Rg.opsOf Try.f45 3) b 0)).put (some 16) (Rg.out (Rg.opsOf Try.f45 3) b 1)).put (some 17) (Rg.out (Rg.opsOf Try.f45 3) b 2)).put (some 18) (Rg.out (Rg.opsOf Try.f45 3) b 3)).put (some 19) (Rg.out (Rg.opsOf Try.f45 3) b 4)).put (some 20) (Rg.out (Rg.opsOf Try.f45 3) b 5)).put (some 6) (Rg.out (Rg.opsOf Try.f45 3) b 6)) := by
  have h := hf.chain
  rw [sizeMh3, show List.range 7 = [0, 1, 2, 3, 4, 5, 6] from by decide] at h
  simp only [List.foldl_cons, List.foldl_nil, dMh3_0, dMh3_1, dMh3_2, dMh3_3, dMh3_4, dMh3_5, dMh3_6] at h
  exact h
set_option maxRecDepth 20000 in
set_option maxHeartbeats 4000000 in
theorem imay_any (x : Ut) (ta : Option Addr) (tn tc : Nat) (n : Nd) (na : Option Addr) (nn nc : Nat) (t : Int) (w : World) (h : IRw w (.slice ta tn tc) x.ant) (hn : x.ant.length ≤ 1048576) (h' : IRw w (.slice na nn nc) n.ag) (hn' : n.ag.length ≤ 1048576) :
    Calls Try.prog 45 #[aN n (.slice na nn nc), aI (x, .slice ta tn tc), .int .i64 t] w fun e w' => e = .returned (.bool (mayB n t x)) ∧ Below w.heap.size w w' := by
  have HU := hidden (fun W (hW : Below w.heap.size w W) => h.below hW)
  have HN := hidden (fun W (hW : Below w.heap.size w W) => h'.below hW)
  have k := hidden (fun W hW hW' => irefuse_any x ta tn tc n na nn nc t W hW hn hW' hn')
  have k2 := hidden (told_any x ta tn tc)
  clear h h'
  rw [may_ref]
  unfold aI at *
  dsimp only
  by_cases h1 : x.st = 1
  · have h3 := as_keep1
    rw [h1, ifT_1]
    have HV : Hid (x.st = 1) := h1
    have PE := hidden (PB.new w #[.int .i64 n.p, .int .i64 n.g, .slice na nn nc] 27)
    have bE : Below w.heap.size w (w.alloc (.cells #[.int .i64 n.p, .int .i64 n.g, .slice na nn nc] 27)) := by repeat (first | exact Below.refl _ _ | assumption | refine st_drew ?_ | refine st_drewN ?_ _ | refine Below.setCell ?_ (by first | omega | (simp; done) | (simp; omega)) _ | refine Below.alloc ?_ (by first | omega | (simp; done) | (simp; omega)) _)
    have KT := hidden (fun W (hW : Below (w.alloc (.cells #[.int .i64 n.p, .int .i64 n.g, .slice na nn nc] 27)).heap.size (w.alloc (.cells #[.int .i64 n.p, .int .i64 n.g, .slice na nn nc] 27)) W) => k2.out W)
    have KR := hidden (fun W (hW : Below (w.alloc (.cells #[.int .i64 n.p, .int .i64 n.g, .slice na nn nc] 27)).heap.size (w.alloc (.cells #[.int .i64 n.p, .int .i64 n.g, .slice na nn nc] 27)) W) => k.out W (HU.out W (onto bE hW)) (HN.out W (onto bE hW)))
    have HB := hidden bE
    clear k k2 h1 bE
    generalize refuse x n t = rr at *
    unfold aU aN at *
    go_enter Try.func45, Try.ntmps45
    go_wp2_with fail
    go_upto_region 3 with fail
    refine regMh3 (C := w.heap.size) (n := n) (x := x) (tv := .slice ta tn tc) (tn := .slice na nn nc) (r9 := rr) (tm := t) rfl rfl rfl rfl PE.out KT.out KR.out ?_
    intro b' w3 hf hb3 hv
    rw [layMh3 hf, hv]
    clear hv hf
    have HB3 := hidden (onto HB.out hb3)
    clear hb3
    generalize Rg.out (Rg.opsOf Try.f45 3) b' 0 = z0
    generalize Rg.out (Rg.opsOf Try.f45 3) b' 1 = z1
    generalize Rg.out (Rg.opsOf Try.f45 3) b' 2 = z2
    generalize Rg.out (Rg.opsOf Try.f45 3) b' 3 = z3
    generalize Rg.out (Rg.opsOf Try.f45 3) b' 4 = z4
    generalize Rg.out (Rg.opsOf Try.f45 3) b' 5 = z5
    go_frame
    go_wp2_with fail
    go_ret
    exact ⟨ret_boolQ (by simp), HB3.out⟩
  · have h3 := as_keepN h1
    have HE := hidden (show decide (x.st = 1) = false by simp [h1])
    clear k k2
    unfold aU aN
    generalize ifT x.st = T at *
    go_enter Try.func45, Try.ntmps45
    go_wp2_with fail
    go_ret
    exact ⟨ret_boolQ (by rw [HE.out]; rfl), by repeat (first | exact Below.refl _ _ | assumption | refine st_drew ?_ | refine st_drewN ?_ _ | refine Below.setCell ?_ (by first | omega | (simp; done) | (simp; omega)) _ | refine Below.alloc ?_ (by first | omega | (simp; done) | (simp; omega)) _)⟩
end Go.Proofs.Ytgcpiinmcbdkmaa
