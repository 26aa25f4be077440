/-
  The earliest time, as the program finds it.
-/
import Derived.Test.YtcapmobhgffnhaaOf
namespace Go.Proofs.Ytcapmobhgffnhaa
open Go.RowKit Va Oa
set_option linter.unusedVariables false

set_option maxRecDepth 20000 in
set_option maxHeartbeats 1000000 in
theorem begin_any (x : Opn) (ta : Option Addr) (tn tc : Nat) (t : Int) (w : World) (hx : Tms x) (ht : -100000000 ≤ t ∧ t ≤ 100000000) :
    Calls Try.prog 48 #[aO x (.slice ta tn tc), .int .i64 t] w fun e w' => e = .returned (aO (mv x t) (.slice ta tn tc)) ∧ Below w.heap.size w w' := by
  obtain ⟨⟨a1, a2⟩, a3, a4⟩ := hx
  obtain ⟨t1, t2⟩ := ht
  have HV : Hid (t + (x.to - x.fr) = t + x.to - x.fr) := by rw [Hid]; omega
  unfold mv aO
  dsimp only
  rw [HV.out]
  go_enter Try.func48, Try.ntmps48
  go_wp2
  exact bodyPost_ret (v := .agg #[.int .i64 x.room, .int .i64 t, .int .i64 (t + x.to - x.fr), .slice ta tn tc]) (by simp [results, Try.results48, go_sem]) rfl ⟨rfl, by repeat (first | exact Below.refl _ _ | assumption | refine st_drew ?_ | refine st_drewN ?_ _ | refine Below.setCell ?_ (by first | omega | (simp; done) | (simp; omega)) _ | refine Below.alloc ?_ (by first | omega | (simp; done) | (simp; omega)) _)⟩

/-- An operation in a box that may be written. -/
structure OBox (W : World) (b : Nat) (x : Opn) (tv : Value) : Prop where
  c0 : W.cell? ⟨b, 0, none⟩ = some (.int .i64 x.room)
  c1 : W.cell? ⟨b, 1, none⟩ = some (.int .i64 x.fr)
  c2 : W.cell? ⟨b, 2, none⟩ = some (.int .i64 x.to)
  c3 : W.cell? ⟨b, 3, none⟩ = some tv
  f : ∀ j, W.frozen? ⟨b, j, none⟩ = false
theorem OBox.below {W W' : World} {b : Nat} {x : Opn} {tv : Value} (h : OBox W b x tv) (hb : Below W.heap.size W W') (hl : b < W.heap.size) : OBox W' b x tv :=
  ⟨((bcell hb).1 _ _ hl).trans h.c0, ((bcell hb).1 _ _ hl).trans h.c1, ((bcell hb).1 _ _ hl).trans h.c2, ((bcell hb).1 _ _ hl).trans h.c3, fun j => ((bcell hb).2 _ _ hl).trans (h.f j)⟩

theorem one_box {w w1 : World} {a0 a1 a2 a3 : Value} {t : TypeId} (hb : Below (w.alloc (.cells #[a0, a1, a2, a3] t)).heap.size (w.alloc (.cells #[a0, a1, a2, a3] t)) w1) :
    w1.cell? ⟨w.heap.size, 0, none⟩ = some a0 ∧ w1.cell? ⟨w.heap.size, 1, none⟩ = some a1 ∧ w1.cell? ⟨w.heap.size, 2, none⟩ = some a2 ∧ w1.cell? ⟨w.heap.size, 3, none⟩ = some a3 ∧ w.heap.size + 1 ≤ w1.heap.size :=
  ⟨((bcell hb).1 _ _ (by simp)).trans (by simp), ((bcell hb).1 _ _ (by simp)).trans (by simp), ((bcell hb).1 _ _ (by simp)).trans (by simp), ((bcell hb).1 _ _ (by simp)).trans (by simp), by have := hb.size; simp at this; omega⟩
theorem OBox.step {W W' : World} {b : Nat} {x : Opn} {tv : Value} {o : Obj} (h : OBox W b x tv) (hl : b < W.heap.size) (hb : Below (W.alloc o).heap.size (W.alloc o) W') : OBox W' b x tv :=
  (h.below ((Below.refl W.heap.size W).alloc (Nat.le_refl _) o) hl).below hb (by simp; omega)
theorem OBox.put {W : World} {b : Nat} {x : Opn} {tv : Value} (h : OBox W b x tv) (x' : Opn) (tv' : Value) (W' : World) (hW : W' = (((W.setCell ⟨b, 0, none⟩ (.int .i64 x'.room)).setCell ⟨b, 1, none⟩ (.int .i64 x'.fr)).setCell ⟨b, 2, none⟩ (.int .i64 x'.to)).setCell ⟨b, 3, none⟩ tv') : OBox W' b x' tv' := by
  subst hW
  obtain ⟨c0, c1, c2, c3, f⟩ := h
  refine ⟨?_, ?_, ?_, ?_, fun j => by simp only [World.frozen?_setCell]; exact f j⟩
  all_goals simp [World.cell?_setCell_other, World.cell?_setCell_same, c0, c1, c2, c3]
theorem mv_mv (x : Opn) (s t : Int) : mv (mv x s) t = mv x t := by simp [mv]; omega
theorem tms_mv {x : Opn} (h : opB x = true) {t : Int} (h1 : 0 ≤ t) (h2 : t ≤ 10001440) : Tms (mv x t) := by
  obtain ⟨-, a, b, c, -⟩ := of_opB h
  exact ⟨by simp only [mv]; omega, by simp only [mv]; omega⟩

set_option maxRecDepth 20000 in
set_option maxHeartbeats 4000000 in
theorem among_any (x : Opn) (ta : Option Addr) (tn tc : Nat) (ao : Option Addr) (n cap : Nat) (l : List Opn) (r : Int) (w : World) (h : ORw w (.slice ao n cap) l) (hn : l.length ≤ 1048576)
    (hR : IRw w (.slice ta tn tc) x.team) (hx : opB x = true) (hl : ∀ y ∈ l, opB y = true) (hr : 0 ≤ r ∧ r ≤ 1440) :
    Calls Try.prog 43 #[aO x (.slice ta tn tc), .slice ao n cap, .int .i64 r] w fun e w' => e = .returned (.int .i64 (earl l x r)) ∧ Below w.heap.size w w' := by
  obtain rfl := h.len
  have HH := hidden h
  have HT := hidden hR
  have HL := hidden hl
  have HX := hidden hx
  clear h hR hl hx
  obtain ⟨hx1, hx2, hx3, hx4, hx5⟩ := of_opB HX.out
  go_enter Try.func43, Try.ntmps43
  unfold aO
  go_wp2_with fail
  go_step3
  go_wp2_with fail
  go_step3
  go_wp2_with fail
  go_loopg [8] (20000000 - x.fr).toNat (fun gg _ wr => ∃ T : Int, gg = (20000000 - T).toNat ∧ T ≤ 10001440 ∧ Past l x r T ∧ OBox wr w.heap.size (mv x T) (.slice ta tn tc) ∧ Below w.heap.size w wr ∧ w.heap.size < wr.heap.size)
  case atStart => exact ⟨x.fr, rfl, by omega, past_zero _ _ _, by rw [mv_self]; exact ⟨by simp, by simp, by simp, by simp, fun j => by simp⟩, by repeat (first | exact Below.refl _ _ | assumption | refine st_drew ?_ | refine st_drewN ?_ _ | refine Below.setCell ?_ (by first | omega | (simp; done) | (simp; omega)) _ | refine Below.alloc ?_ (by first | omega | (simp; done) | (simp; omega)) _), by simp⟩
  case round =>
    obtain ⟨T, hg, hT, hP, hO, hb, hz⟩ := hrel
    have hPf := hP.1
    have hsz := hb.size
    have hTime := itmq_any (T + (x.to - x.fr))
    obtain ⟨b0, b1, b2, b3, bf⟩ := hO
    have b4 := b1
    simp only [mv] at b0 b1 b2
    by_cases hend : T + (x.to - x.fr) ≤ 10000000
    · have ht : tmv (T + (x.to - x.fr)) = true := tmv_iff.2 (by omega)
      rw [ht] at hTime
      go_wp2_with (go_at_call 68; refine (hTime _).mono ?_; rintro e w1 ⟨rfl, rfl⟩)
      go_loopg [8, 14] l.length (fun gh _ iv wx => ∃ i : Nat, i + gh = l.length ∧ iv = .int .i64 i ∧ OBox wx w.heap.size (mv x T) (.slice ta tn tc) ∧ Below w.heap.size w wx ∧ w.heap.size < wx.heap.size ∧ Hid (∀ j y, j < i → l[j]? = some y → why (mv x T) y r = 0))
      case atStart => exact ⟨0, by omega, rfl, ⟨b0, b1, b2, b3, bf⟩, hb, hz, fun j y hj => absurd hj (by omega)⟩
      case round =>
        clear b0 b1 b2 b3 bf b4 hb hz hsz
        obtain ⟨i, hi, rfl, hO, hbx, hzx, hno⟩ := hrel
        subst hg
        cases gk with
        | zero =>
          have hlti : ¬ (i : Int) < (l.length : Int) := by omega
          have HE : Hid (earl l x r = T) := (past_ok hP hend (fun j y hj hy => hno.out j y (by omega) hy)).eq.symm
          obtain ⟨b0, b1, b2, b3, bf⟩ := hO
          simp only [mv] at b0 b1 b2
          go_wp2_with fail
          (try rw [Exit.noGoto_ret])
          go_ret
          exact ⟨by rw [HE.out]; rfl, hbx⟩
        | succ gq =>
          have hlti : (i : Int) < (l.length : Int) := by omega
          have hsz := hbx.size
          obtain ⟨y, hy⟩ := some_of l i (by omega)
          obtain ⟨g, off, tb, td, rfl, hgl, hrow, c0, c1, c2, c3⟩ := (HH.out.below hbx).at hy
          have hym := List.mem_of_getElem? hy
          have hyo := HL.out y hym
          obtain ⟨-, hy1, hy2, hy3, hy4⟩ := of_opB hyo
          have hK := fun W hW1 hW2 => iwhy_any (mv x T) y ta tn tc tb y.team.length td r W (tms_mv HX.out (by omega) hT) (tms_of hyo) hr hW1 hW2 (by have := hx5.2.1; simp only [mv]; omega) (by have := hy4.2.1; omega)
          have HR1 := hidden (fun W (hW : Below w.heap.size w W) => HT.out.below hW)
          have HR2 := hidden (fun W (hW : Below wr.heap.size wr W) => hrow.below hW)
          have HO := hidden hO
          obtain ⟨b0, b1, b2, b3, bf⟩ := hO
          unfold aO at hK
          simp only [mv] at b0 b1 b2 hK
          have HY := hidden hy
          clear hy hrow
          rcases Int.lt_trichotomy (why (mv x T) y r) 1 with q | q | q
          · have q0 : why (mv x T) y r = 0 := by have := why_bd (mv x T) y r; omega
            have hno2 : Hid (∀ j z, j < i + 1 → l[j]? = some z → why (mv x T) z r = 0) := fun j z hj hz => by
              rcases Nat.lt_succ_iff_lt_or_eq.1 hj with k | rfl
              · exact hno.out j z k hz
              · have := HY.out; rw [this] at hz; cases hz; exact q0
            simp only [mv] at q0
            rw [q0] at hK
            clear hno q q0
            go_wp2_with (go_at_call 37; refine (hK _ (HR1.out _ (by repeat (first | exact Below.refl _ _ | assumption | refine st_drew ?_ | refine st_drewN ?_ _ | refine Below.setCell ?_ (by first | omega | (simp; done) | (simp; omega)) _ | refine Below.alloc ?_ (by first | omega | (simp; done) | (simp; omega)) _))) (HR2.out _ (by repeat (first | exact Below.refl _ _ | assumption | refine st_drew ?_ | refine st_drewN ?_ _ | refine Below.setCell ?_ (by first | omega | (simp; done) | (simp; omega)) _ | refine Below.alloc ?_ (by first | omega | (simp; done) | (simp; omega)) _)))).mono ?_; rintro e w1 ⟨rfl, hb1⟩; have hO1 := hidden (HO.out.step hzx hb1); have bA := onto (show Below w.heap.size w _ from by repeat (first | exact Below.refl _ _ | assumption | refine st_drew ?_ | refine st_drewN ?_ _ | refine Below.setCell ?_ (by first | omega | (simp; done) | (simp; omega)) _ | refine Below.alloc ?_ (by first | omega | (simp; done) | (simp; omega)) _)) hb1; have hz1 := hb1.size; simp only [World.size_alloc] at hz1; clear hb1)
            go_roundg gq
            case rel => exact ⟨i + 1, by omega, rfl, hO1.out, bA, by omega, hno2⟩
            case measure => omega
          · have HQ := hidden q
            have hpast := past_room hP hym (by omega) HQ.out
            have hB := fun W => begin_any (mv x T) ta tn tc (y.to) W (tms_mv HX.out (by omega) hT) (by omega)
            rw [mv_mv] at hB
            unfold aO at hB
            simp only [mv] at q hB
            rw [q] at hK
            obtain ⟨hlt, hP2⟩ := hpast
            have HP2 := hidden hP2
            clear hno q hP hP2
            go_wp2_with (first
              | (go_at_call 37; refine (hK _ (HR1.out _ (by repeat (first | exact Below.refl _ _ | assumption | refine st_drew ?_ | refine st_drewN ?_ _ | refine Below.setCell ?_ (by first | omega | (simp; done) | (simp; omega)) _ | refine Below.alloc ?_ (by first | omega | (simp; done) | (simp; omega)) _))) (HR2.out _ (by repeat (first | exact Below.refl _ _ | assumption | refine st_drew ?_ | refine st_drewN ?_ _ | refine Below.setCell ?_ (by first | omega | (simp; done) | (simp; omega)) _ | refine Below.alloc ?_ (by first | omega | (simp; done) | (simp; omega)) _)))).mono ?_; rintro e w1 ⟨rfl, hb1⟩; have hO1 := hidden (HO.out.step hzx hb1); obtain ⟨d0, d1, d2, d3, df⟩ := hO1.out; simp only [mv] at d0 d1 d2; obtain ⟨-, -, e2, -, hz1⟩ := one_box hb1; have bA := onto (show Below w.heap.size w _ from by repeat (first | exact Below.refl _ _ | assumption | refine st_drew ?_ | refine st_drewN ?_ _ | refine Below.setCell ?_ (by first | omega | (simp; done) | (simp; omega)) _ | refine Below.alloc ?_ (by first | omega | (simp; done) | (simp; omega)) _)) hb1; clear hb1 b0 b1 b2 b3 bf)
              | (go_at_call 48; refine (hB _).mono ?_; rintro e w2 ⟨rfl, hb2⟩; have hO2 := hidden (hO1.out.below hb2 (by omega)); obtain ⟨f0, f1, f2, f3, ff⟩ := hO2.out; simp only [mv] at f0 f1 f2; have bB := onto bA hb2; have hz2 := hb2.size; clear hb2))
            go_roundg (20000000 - (y.to)).toNat
            case rel => exact ⟨y.to, rfl, by omega, HP2.out, hO2.out.put _ _ _ rfl, by repeat (first | exact Below.refl _ _ | assumption | refine st_drew ?_ | refine st_drewN ?_ _ | refine Below.setCell ?_ (by first | omega | (simp; done) | (simp; omega)) _ | refine Below.alloc ?_ (by first | omega | (simp; done) | (simp; omega)) _), by simp; omega⟩
            case measure => omega
          · have q : why (mv x T) y r = 2 := by have := why_bd (mv x T) y r; omega
            have HQ := hidden q
            have hpast := past_people hP hym (by omega) HQ.out
            have hB := fun W => begin_any (mv x T) ta tn tc (y.to + r) W (tms_mv HX.out (by omega) hT) (by omega)
            rw [mv_mv] at hB
            unfold aO at hB
            simp only [mv] at q hB
            rw [q] at hK
            obtain ⟨hlt, hP2⟩ := hpast
            have HP2 := hidden hP2
            clear hno q hP hP2
            go_wp2_with (first
              | (go_at_call 37; refine (hK _ (HR1.out _ (by repeat (first | exact Below.refl _ _ | assumption | refine st_drew ?_ | refine st_drewN ?_ _ | refine Below.setCell ?_ (by first | omega | (simp; done) | (simp; omega)) _ | refine Below.alloc ?_ (by first | omega | (simp; done) | (simp; omega)) _))) (HR2.out _ (by repeat (first | exact Below.refl _ _ | assumption | refine st_drew ?_ | refine st_drewN ?_ _ | refine Below.setCell ?_ (by first | omega | (simp; done) | (simp; omega)) _ | refine Below.alloc ?_ (by first | omega | (simp; done) | (simp; omega)) _)))).mono ?_; rintro e w1 ⟨rfl, hb1⟩; have hO1 := hidden (HO.out.step hzx hb1); obtain ⟨d0, d1, d2, d3, df⟩ := hO1.out; simp only [mv] at d0 d1 d2; obtain ⟨-, -, e2, -, hz1⟩ := one_box hb1; have bA := onto (show Below w.heap.size w _ from by repeat (first | exact Below.refl _ _ | assumption | refine st_drew ?_ | refine st_drewN ?_ _ | refine Below.setCell ?_ (by first | omega | (simp; done) | (simp; omega)) _ | refine Below.alloc ?_ (by first | omega | (simp; done) | (simp; omega)) _)) hb1; clear hb1 b0 b1 b2 b3 bf)
              | (go_at_call 48; refine (hB _).mono ?_; rintro e w2 ⟨rfl, hb2⟩; have hO2 := hidden (hO1.out.below hb2 (by omega)); obtain ⟨f0, f1, f2, f3, ff⟩ := hO2.out; simp only [mv] at f0 f1 f2; have bB := onto bA hb2; have hz2 := hb2.size; clear hb2))
            go_roundg (20000000 - (y.to + r)).toNat
            case rel => exact ⟨y.to + r, rfl, by omega, HP2.out, hO2.out.put _ _ _ rfl, by repeat (first | exact Below.refl _ _ | assumption | refine st_drew ?_ | refine st_drewN ?_ _ | refine Below.setCell ?_ (by first | omega | (simp; done) | (simp; omega)) _ | refine Below.alloc ?_ (by first | omega | (simp; done) | (simp; omega)) _), by simp; omega⟩
            case measure => omega
    · have ht : tmv (T + (x.to - x.fr)) = false := by
        cases hq : tmv (T + (x.to - x.fr)) with
        | false => rfl
        | true => have := tmv_iff.1 hq; omega
      rw [ht] at hTime
      have HE : Hid (earl l x r = -1) := (past_end hP (by omega)).eq.symm
      go_wp2_with (go_at_call 68; refine (hTime _).mono ?_; rintro e w1 ⟨rfl, rfl⟩)
      (try rw [Exit.noGoto_ret])
      go_ret
      exact ⟨by rw [HE.out]; rfl, hb⟩

/-- What both answer. -/
noncomputable def erl (l : List Opn) (x : Opn) (r : Int) : Int := if osB l && (opB x && rng r 0 1440) then earl l x r else -1

set_option maxRecDepth 20000 in
set_option maxHeartbeats 2000000 in
theorem iearl_any (x : Opn) (ta : Option Addr) (tn tc : Nat) (ao : Option Addr) (n cap : Nat) (l : List Opn) (r : Int) (w : World) (h : ORw w (.slice ao n cap) l) (hn : l.length ≤ 1048576) (ht : ∀ x ∈ l, x.team.length ≤ 1048576)
    (hR : IRw w (.slice ta tn tc) x.team) (hx : x.team.length ≤ 1048576) :
    Calls Try.prog 14 #[.slice ao n cap, aO x (.slice ta tn tc), .int .i64 r] w fun e w' => e = .returned (.int .i64 (erl l x r)) ∧ Below w.heap.size w w' := by
  have k1 := fun W hW => iops_any ao n cap l W hW hn ht
  have k2 := fun W hW => iright_any x ta tn tc W hW hx
  have k3 := irest_any r
  have HH := hidden (fun W (hW : Below w.heap.size w W) => h.below hW)
  have HT := hidden (fun W (hW : Below w.heap.size w W) => hR.below hW)
  have HOK := hidden (@of_osB l)
  have HOX := hidden (fun (z : opB x = true) => z)
  have HRR := hidden (@rng_iff r 0 1440)
  have k4 := fun W hW1 hW2 (z1 : opB x = true) (z2 : ∀ y ∈ l, opB y = true) (z3 : 0 ≤ r ∧ r ≤ 1440) => among_any x ta tn tc ao n cap l r W hW1 hn hW2 z1 z2 z3
  clear h hR
  unfold erl
  unfold aO at *
  generalize hs1 : osB l = s1 at *
  generalize hs2 : opB x = s2 at *
  generalize hs3 : rng r 0 1440 = s3 at *
  have H1 := hidden hs1
  have H2 := hidden hs2
  have H3 := hidden hs3
  clear hs1 hs2 hs3
  cases s1 with
  | false =>
    go_enter Try.func14, Try.ntmps14
    go_wp2_with (first | (go_at_call 35; refine (k1 _ (HH.out _ (by repeat (first | exact Below.refl _ _ | assumption | refine st_drew ?_ | refine st_drewN ?_ _ | refine Below.setCell ?_ (by first | omega | (simp; done) | (simp; omega)) _ | refine Below.alloc ?_ (by first | omega | (simp; done) | (simp; omega)) _)))).mono ?_; rintro e w1 ⟨rfl, hb1⟩; obtain ⟨d0, d1, d2, d3, hz1⟩ := one_box hb1; have bA := onto (show Below w.heap.size w _ from by repeat (first | exact Below.refl _ _ | assumption | refine st_drew ?_ | refine st_drewN ?_ _ | refine Below.setCell ?_ (by first | omega | (simp; done) | (simp; omega)) _ | refine Below.alloc ?_ (by first | omega | (simp; done) | (simp; omega)) _)) hb1; clear hb1) | (go_at_call 42; refine (k2 _ (HT.out _ (by repeat (first | exact Below.refl _ _ | assumption | refine st_drew ?_ | refine st_drewN ?_ _ | refine Below.setCell ?_ (by first | omega | (simp; done) | (simp; omega)) _ | refine Below.alloc ?_ (by first | omega | (simp; done) | (simp; omega)) _)))).mono ?_; rintro e w2 ⟨rfl, hb2⟩; have f0 := (hb2.cell (p := ⟨w.heap.size, 0, none⟩) (by show w.heap.size < _; omega)).trans d0; have f1 := (hb2.cell (p := ⟨w.heap.size, 1, none⟩) (by show w.heap.size < _; omega)).trans d1; have f2 := (hb2.cell (p := ⟨w.heap.size, 2, none⟩) (by show w.heap.size < _; omega)).trans d2; have f3 := (hb2.cell (p := ⟨w.heap.size, 3, none⟩) (by show w.heap.size < _; omega)).trans d3; have bB := onto bA hb2; clear hb2) | (go_at_call 36; refine (k3 _).mono ?_; rintro e w3 ⟨rfl, rfl⟩))
    go_ret
    exact ⟨rfl, by repeat (first | exact Below.refl _ _ | assumption | refine st_drew ?_ | refine st_drewN ?_ _ | refine Below.setCell ?_ (by first | omega | (simp; done) | (simp; omega)) _ | refine Below.alloc ?_ (by first | omega | (simp; done) | (simp; omega)) _)⟩
  | true =>
    cases s2 with
    | false =>
      go_enter Try.func14, Try.ntmps14
      go_wp2_with (first | (go_at_call 35; refine (k1 _ (HH.out _ (by repeat (first | exact Below.refl _ _ | assumption | refine st_drew ?_ | refine st_drewN ?_ _ | refine Below.setCell ?_ (by first | omega | (simp; done) | (simp; omega)) _ | refine Below.alloc ?_ (by first | omega | (simp; done) | (simp; omega)) _)))).mono ?_; rintro e w1 ⟨rfl, hb1⟩; obtain ⟨d0, d1, d2, d3, hz1⟩ := one_box hb1; have bA := onto (show Below w.heap.size w _ from by repeat (first | exact Below.refl _ _ | assumption | refine st_drew ?_ | refine st_drewN ?_ _ | refine Below.setCell ?_ (by first | omega | (simp; done) | (simp; omega)) _ | refine Below.alloc ?_ (by first | omega | (simp; done) | (simp; omega)) _)) hb1; clear hb1) | (go_at_call 42; refine (k2 _ (HT.out _ (by repeat (first | exact Below.refl _ _ | assumption | refine st_drew ?_ | refine st_drewN ?_ _ | refine Below.setCell ?_ (by first | omega | (simp; done) | (simp; omega)) _ | refine Below.alloc ?_ (by first | omega | (simp; done) | (simp; omega)) _)))).mono ?_; rintro e w2 ⟨rfl, hb2⟩; have f0 := (hb2.cell (p := ⟨w.heap.size, 0, none⟩) (by show w.heap.size < _; omega)).trans d0; have f1 := (hb2.cell (p := ⟨w.heap.size, 1, none⟩) (by show w.heap.size < _; omega)).trans d1; have f2 := (hb2.cell (p := ⟨w.heap.size, 2, none⟩) (by show w.heap.size < _; omega)).trans d2; have f3 := (hb2.cell (p := ⟨w.heap.size, 3, none⟩) (by show w.heap.size < _; omega)).trans d3; have bB := onto bA hb2; clear hb2) | (go_at_call 36; refine (k3 _).mono ?_; rintro e w3 ⟨rfl, rfl⟩))
      go_ret
      exact ⟨rfl, by repeat (first | exact Below.refl _ _ | assumption | refine st_drew ?_ | refine st_drewN ?_ _ | refine Below.setCell ?_ (by first | omega | (simp; done) | (simp; omega)) _ | refine Below.alloc ?_ (by first | omega | (simp; done) | (simp; omega)) _)⟩
    | true =>
      cases s3 with
      | false =>
        go_enter Try.func14, Try.ntmps14
        go_wp2_with (first | (go_at_call 35; refine (k1 _ (HH.out _ (by repeat (first | exact Below.refl _ _ | assumption | refine st_drew ?_ | refine st_drewN ?_ _ | refine Below.setCell ?_ (by first | omega | (simp; done) | (simp; omega)) _ | refine Below.alloc ?_ (by first | omega | (simp; done) | (simp; omega)) _)))).mono ?_; rintro e w1 ⟨rfl, hb1⟩; obtain ⟨d0, d1, d2, d3, hz1⟩ := one_box hb1; have bA := onto (show Below w.heap.size w _ from by repeat (first | exact Below.refl _ _ | assumption | refine st_drew ?_ | refine st_drewN ?_ _ | refine Below.setCell ?_ (by first | omega | (simp; done) | (simp; omega)) _ | refine Below.alloc ?_ (by first | omega | (simp; done) | (simp; omega)) _)) hb1; clear hb1) | (go_at_call 42; refine (k2 _ (HT.out _ (by repeat (first | exact Below.refl _ _ | assumption | refine st_drew ?_ | refine st_drewN ?_ _ | refine Below.setCell ?_ (by first | omega | (simp; done) | (simp; omega)) _ | refine Below.alloc ?_ (by first | omega | (simp; done) | (simp; omega)) _)))).mono ?_; rintro e w2 ⟨rfl, hb2⟩; have f0 := (hb2.cell (p := ⟨w.heap.size, 0, none⟩) (by show w.heap.size < _; omega)).trans d0; have f1 := (hb2.cell (p := ⟨w.heap.size, 1, none⟩) (by show w.heap.size < _; omega)).trans d1; have f2 := (hb2.cell (p := ⟨w.heap.size, 2, none⟩) (by show w.heap.size < _; omega)).trans d2; have f3 := (hb2.cell (p := ⟨w.heap.size, 3, none⟩) (by show w.heap.size < _; omega)).trans d3; have bB := onto bA hb2; clear hb2) | (go_at_call 36; refine (k3 _).mono ?_; rintro e w3 ⟨rfl, rfl⟩))
        go_ret
        exact ⟨rfl, by repeat (first | exact Below.refl _ _ | assumption | refine st_drew ?_ | refine st_drewN ?_ _ | refine Below.setCell ?_ (by first | omega | (simp; done) | (simp; omega)) _ | refine Below.alloc ?_ (by first | omega | (simp; done) | (simp; omega)) _)⟩
      | true =>
        have k5 := fun W hW1 hW2 => k4 W hW1 hW2 rfl (fun y hy => (HOK.out rfl).mem hy) (HRR.out.1 rfl)
        clear k4
        go_enter Try.func14, Try.ntmps14
        go_wp2_with (first | (go_at_call 35; refine (k1 _ (HH.out _ (by repeat (first | exact Below.refl _ _ | assumption | refine st_drew ?_ | refine st_drewN ?_ _ | refine Below.setCell ?_ (by first | omega | (simp; done) | (simp; omega)) _ | refine Below.alloc ?_ (by first | omega | (simp; done) | (simp; omega)) _)))).mono ?_; rintro e w1 ⟨rfl, hb1⟩; obtain ⟨d0, d1, d2, d3, hz1⟩ := one_box hb1; have bA := onto (show Below w.heap.size w _ from by repeat (first | exact Below.refl _ _ | assumption | refine st_drew ?_ | refine st_drewN ?_ _ | refine Below.setCell ?_ (by first | omega | (simp; done) | (simp; omega)) _ | refine Below.alloc ?_ (by first | omega | (simp; done) | (simp; omega)) _)) hb1; clear hb1) | (go_at_call 42; refine (k2 _ (HT.out _ (by repeat (first | exact Below.refl _ _ | assumption | refine st_drew ?_ | refine st_drewN ?_ _ | refine Below.setCell ?_ (by first | omega | (simp; done) | (simp; omega)) _ | refine Below.alloc ?_ (by first | omega | (simp; done) | (simp; omega)) _)))).mono ?_; rintro e w2 ⟨rfl, hb2⟩; have f0 := (hb2.cell (p := ⟨w.heap.size, 0, none⟩) (by show w.heap.size < _; omega)).trans d0; have f1 := (hb2.cell (p := ⟨w.heap.size, 1, none⟩) (by show w.heap.size < _; omega)).trans d1; have f2 := (hb2.cell (p := ⟨w.heap.size, 2, none⟩) (by show w.heap.size < _; omega)).trans d2; have f3 := (hb2.cell (p := ⟨w.heap.size, 3, none⟩) (by show w.heap.size < _; omega)).trans d3; have bB := onto bA hb2; clear hb2) | (go_at_call 36; refine (k3 _).mono ?_; rintro e w3 ⟨rfl, rfl⟩) | (go_at_call 43; refine (k5 _ (HH.out _ (by repeat (first | exact Below.refl _ _ | assumption | refine st_drew ?_ | refine st_drewN ?_ _ | refine Below.setCell ?_ (by first | omega | (simp; done) | (simp; omega)) _ | refine Below.alloc ?_ (by first | omega | (simp; done) | (simp; omega)) _))) (HT.out _ (by repeat (first | exact Below.refl _ _ | assumption | refine st_drew ?_ | refine st_drewN ?_ _ | refine Below.setCell ?_ (by first | omega | (simp; done) | (simp; omega)) _ | refine Below.alloc ?_ (by first | omega | (simp; done) | (simp; omega)) _)))).mono ?_; rintro e w3 ⟨rfl, hb3⟩; have bC := onto bB hb3))
        go_ret
        exact ⟨rfl, by repeat (first | exact Below.refl _ _ | assumption | refine st_drew ?_ | refine st_drewN ?_ _ | refine Below.setCell ?_ (by first | omega | (simp; done) | (simp; omega)) _ | refine Below.alloc ?_ (by first | omega | (simp; done) | (simp; omega)) _)⟩
end Go.Proofs.Ytcapmobhgffnhaa
