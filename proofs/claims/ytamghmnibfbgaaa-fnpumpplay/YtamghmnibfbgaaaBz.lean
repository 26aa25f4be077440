/-
  An act on a pump.
-/
import Derived.Test.YtamghmnibfbgaaaBv
import Derived.Laws.ResultCell
namespace Go.Proofs.Ytamghmnibfbgaaa
open Go.RowKit Va Ba
set_option linter.unusedVariables false

set_option maxHeartbeats 1000000 in
theorem smin_any (a b : Int) (w : World) : Calls Try.prog 59 #[.int .i64 a, .int .i64 b] w fun e w' => e = .returned (.int .i64 (min a b)) ∧ w = w' := by
  go_enter Try.func59, Try.ntmps59
  go_wp2
  all_goals go_ret
  all_goals refine ⟨?_, rfl⟩
  all_goals first | (rw [Int.min_eq_left (by omega)]; rfl) | (rw [Int.min_eq_right (by omega)]; rfl)

theorem PB.cold {W : World} {B : Nat} {t : TypeId} {vs : Array Value} (h : PB W B vs t) : W.frozen? ⟨B, 0, none⟩ = false ∧ W.frozen? ⟨B, 1, none⟩ = false ∧ W.frozen? ⟨B, 2, none⟩ = false ∧ W.frozen? ⟨B, 3, none⟩ = false ∧ W.frozen? ⟨B, 4, none⟩ = false ∧ W.frozen? ⟨B, 5, none⟩ = false ∧ W.frozen? ⟨B, 6, none⟩ = false ∧ W.frozen? ⟨B, 7, none⟩ = false ∧ W.frozen? ⟨B, 8, none⟩ = false ∧ W.frozen? ⟨B, 9, none⟩ = false :=
  ⟨h.frozen 0, h.frozen 1, h.frozen 2, h.frozen 3, h.frozen 4, h.frozen 5, h.frozen 6, h.frozen 7, h.frozen 8, h.frozen 9⟩
theorem PB.put {W : World} {B : Nat} {vs : Array Value} {t : TypeId} (h : PB W B vs t) (j : Nat) (v : Value) {vs' : Array Value} (e : vs.setIfInBounds j v = vs') : PB (W.setCell ⟨B, j, none⟩ v) B vs' t := e ▸ h.set j v
theorem PB.fill {W : World} {B : Nat} {t : TypeId} {v0 v1 v2 v3 v4 v5 v6 v7 v8 v9 : Value} (h : PB W B #[v0, v1, v2, v3, v4, v5, v6, v7, v8, v9] t) (x0 x1 x2 x3 x4 x5 x6 x7 x8 x9 : Value) :
    PB ((((((((((W.setCell ⟨B, 0, none⟩ x0).setCell ⟨B, 1, none⟩ x1).setCell ⟨B, 2, none⟩ x2).setCell ⟨B, 3, none⟩ x3).setCell ⟨B, 4, none⟩ x4).setCell ⟨B, 5, none⟩ x5).setCell ⟨B, 6, none⟩ x6).setCell ⟨B, 7, none⟩ x7).setCell ⟨B, 8, none⟩ x8).setCell ⟨B, 9, none⟩ x9) B #[x0, x1, x2, x3, x4, x5, x6, x7, x8, x9] t := by
  have h0 := h.put 0 x0 (vs' := #[x0, v1, v2, v3, v4, v5, v6, v7, v8, v9]) (by simp)
  have h1 := h0.put 1 x1 (vs' := #[x0, x1, v2, v3, v4, v5, v6, v7, v8, v9]) (by simp)
  have h2 := h1.put 2 x2 (vs' := #[x0, x1, x2, v3, v4, v5, v6, v7, v8, v9]) (by simp)
  have h3 := h2.put 3 x3 (vs' := #[x0, x1, x2, x3, v4, v5, v6, v7, v8, v9]) (by simp)
  have h4 := h3.put 4 x4 (vs' := #[x0, x1, x2, x3, x4, v5, v6, v7, v8, v9]) (by simp)
  have h5 := h4.put 5 x5 (vs' := #[x0, x1, x2, x3, x4, x5, v6, v7, v8, v9]) (by simp)
  have h6 := h5.put 6 x6 (vs' := #[x0, x1, x2, x3, x4, x5, x6, v7, v8, v9]) (by simp)
  have h7 := h6.put 7 x7 (vs' := #[x0, x1, x2, x3, x4, x5, x6, x7, v8, v9]) (by simp)
  have h8 := h7.put 8 x8 (vs' := #[x0, x1, x2, x3, x4, x5, x6, x7, x8, v9]) (by simp)
  have h9 := h8.put 9 x9 (vs' := #[x0, x1, x2, x3, x4, x5, x6, x7, x8, x9]) (by simp)
  exact h9
theorem results_ct {P : Program} {fn : Func} {p u : Tmp} {ty : TypeId} (h : fn.results = #[.cell p ty, .tmp u]) (tmps : Array Value) (w : World) (g : Nat) (t : TypeId) (cs : Array Value) (d : TypeDesc)
    (hp : tmps.getD p undef = .pointer (some ⟨g, 0, none⟩)) (hg : PB w g cs t) (hu : P.underlying ty = some d) (hd : (match d with | .struct _ | .array _ _ => true | _ => false) = true) (hi : (P.info? ty).map (·.size) = some cs.size) :
    (results fn tmps).run P w = .ok (.tuple #[.agg cs, tmps.getD u undef]) w := by
  have hl := run_loadVar_row (P := P) w g t ty cs _ d hg hu hd hi
  rw [results_cell_tmp h, hp]
  simp [asAddr, hl, Result.andThen]

theorem sdo_end {w W : World} {q q' : Pm} {co c : Int} {tm : Array Value} {B2 : Nat} (hq : (q, co) = (q', c)) (hN : PB W B2 (cP q') 27) (h4 : tm.getD 4 undef = .pointer (some ⟨B2, 0, none⟩)) (h5 : tm.getD 5 undef = .int .i64 c) (hb : Below w.heap.size w W) :
    bodyPost Try.prog Try.f33 (fun e w' => e = .returned (.tuple #[.agg #[.int .i64 q.lim.sl, .int .i64 q.lim.sh, .int .i64 q.lim.hl, .int .i64 q.lim.hh, .int .i64 q.rate, .int .i64 q.asked, .int .i64 q.st, .bool q.door, .int .i64 q.left, .int .i64 q.given], .int .i64 co]) ∧ Below w.heap.size w w') Exit.ret ⟨tm, []⟩ W := by
  cases hq
  refine bodyPost_ret (results_ct Try.results33 _ _ B2 27 _ _ h4 hN Try.underlying27 rfl (by kernel_rfl)) rfl ⟨?_, hb⟩
  rw [h5]
  rfl
theorem PB.fill' {W : World} {B : Nat} {t : TypeId} {v0 v1 v2 v3 v4 v5 v6 v7 v8 v9 : Value} (q : Pm) (h : PB W B #[v0, v1, v2, v3, v4, v5, v6, v7, v8, v9] t) :
    PB ((((((((((W.setCell ⟨B, 0, none⟩ (.int .i64 q.lim.sl)).setCell ⟨B, 1, none⟩ (.int .i64 q.lim.sh)).setCell ⟨B, 2, none⟩ (.int .i64 q.lim.hl)).setCell ⟨B, 3, none⟩ (.int .i64 q.lim.hh)).setCell ⟨B, 4, none⟩ (.int .i64 q.rate)).setCell ⟨B, 5, none⟩ (.int .i64 q.asked)).setCell ⟨B, 6, none⟩ (.int .i64 q.st)).setCell ⟨B, 7, none⟩ (.bool q.door)).setCell ⟨B, 8, none⟩ (.int .i64 q.left)).setCell ⟨B, 9, none⟩ (.int .i64 q.given)) B (cP q) t := h.fill _ _ _ _ _ _ _ _ _ _

theorem fill_below {w W : World} {n B : Nat} (h : Below n w W) (hB : n ≤ B) (x0 x1 x2 x3 x4 x5 x6 x7 x8 x9 : Value) :
    Below n w ((((((((((W.setCell ⟨B, 0, none⟩ x0).setCell ⟨B, 1, none⟩ x1).setCell ⟨B, 2, none⟩ x2).setCell ⟨B, 3, none⟩ x3).setCell ⟨B, 4, none⟩ x4).setCell ⟨B, 5, none⟩ x5).setCell ⟨B, 6, none⟩ x6).setCell ⟨B, 7, none⟩ x7).setCell ⟨B, 8, none⟩ x8).setCell ⟨B, 9, none⟩ x9) :=
  (((((((((h.setCell hB _).setCell hB _).setCell hB _).setCell hB _).setCell hB _).setCell hB _).setCell hB _).setCell hB _).setCell hB _).setCell hB _

theorem door_eq {p : Pm} {b : Bool} (h : p.door = b) : p = { p with door := b } := by cases p; cases h; rfl
theorem left_eq {p : Pm} {b : Int} (h : p.left = b) : p = { p with left := b } := by cases p; cases h; rfl

set_option maxRecDepth 20000 in
set_option maxHeartbeats 8000000 in
theorem sdo_any (p : Pm) (a : Ac) (hR : Right p) (w : World) : Calls Try.prog 33 #[aPm p, aAc a] w fun e w' => e = .returned (.tuple #[aPm (Ba.step p a).1, .int .i64 (Ba.step p a).2]) ∧ Below w.heap.size w w' := by
  have HST : Hid (Ba.step p a = if actOk a = true then (if forK p a.kind = true then doK p a else (p, 3)) else (p, 2)) := rfl
  have HAC : Hid (actOk a = (rng a.kind 1 10 && (!counts a.kind || rng a.n 0 100000))) := rfl
  have h1 := lin_any a.kind 1 10
  have h2 := lin_any a.n 0 100000
  have HK1 : Hid (rng a.kind 1 10 = true → 1 ≤ a.kind ∧ a.kind ≤ 10) := rng_iff.1
  have HN1 : Hid (rng a.n 0 100000 = true → 0 ≤ a.n ∧ a.n ≤ 100000) := rng_iff.1
  have HC3 : Hid (counts a.kind = (decide (a.kind = 1) || (decide (a.kind = 7) || decide (a.kind = 10)))) := rfl
  generalize rng a.kind 1 10 = b1 at *
  generalize rng a.n 0 100000 = b2 at *
  generalize Ba.step p a = R at *
  obtain ⟨q, co⟩ := R
  unfold aPm aAc
  dsimp only
  go_enter Try.func33, Try.ntmps33
  go_upto_region 1 with fail
  have hP := ((PB.new w #[.int .i64 p.lim.sl, .int .i64 p.lim.sh, .int .i64 p.lim.hl, .int .i64 p.lim.hh, .int .i64 p.rate, .int .i64 p.asked, .int .i64 p.st, .bool p.door, .int .i64 p.left, .int .i64 p.given] 27).alloc (.cells #[.int .i64 a.kind, .int .i64 a.n] 29)).alloc (.cells #[.int .i64 0, .int .i64 0, .int .i64 0, .int .i64 0, .int .i64 0, .int .i64 0, .int .i64 0, .bool false, .int .i64 0, .int .i64 0] 27)
  have hA := (PB.new (w.alloc (.cells #[.int .i64 p.lim.sl, .int .i64 p.lim.sh, .int .i64 p.lim.hl, .int .i64 p.lim.hh, .int .i64 p.rate, .int .i64 p.asked, .int .i64 p.st, .bool p.door, .int .i64 p.left, .int .i64 p.given] 27)) #[.int .i64 a.kind, .int .i64 a.n] 29).alloc (.cells #[.int .i64 0, .int .i64 0, .int .i64 0, .int .i64 0, .int .i64 0, .int .i64 0, .int .i64 0, .bool false, .int .i64 0, .int .i64 0] 27)
  have hZ := PB.new ((w.alloc (.cells #[.int .i64 p.lim.sl, .int .i64 p.lim.sh, .int .i64 p.lim.hl, .int .i64 p.lim.hh, .int .i64 p.rate, .int .i64 p.asked, .int .i64 p.st, .bool p.door, .int .i64 p.left, .int .i64 p.given] 27)).alloc (.cells #[.int .i64 a.kind, .int .i64 a.n] 29)) #[.int .i64 0, .int .i64 0, .int .i64 0, .int .i64 0, .int .i64 0, .int .i64 0, .int .i64 0, .bool false, .int .i64 0, .int .i64 0] 27
  have hb0 : Below w.heap.size w (((w.alloc (.cells #[.int .i64 p.lim.sl, .int .i64 p.lim.sh, .int .i64 p.lim.hl, .int .i64 p.lim.hh, .int .i64 p.rate, .int .i64 p.asked, .int .i64 p.st, .bool p.door, .int .i64 p.left, .int .i64 p.given] 27)).alloc (.cells #[.int .i64 a.kind, .int .i64 a.n] 29)).alloc (.cells #[.int .i64 0, .int .i64 0, .int .i64 0, .int .i64 0, .int .i64 0, .int .i64 0, .int .i64 0, .bool false, .int .i64 0, .int .i64 0] 27)) := by repeat (first | exact Below.refl _ _ | assumption | refine st_drew ?_ | refine st_drewN ?_ _ | refine Below.setCell ?_ (by first | omega | (simp; done) | (simp; omega)) _ | refine Below.alloc ?_ (by first | omega | (simp; done) | (simp; omega)) _)
  simp only [World.size_alloc] at hP hA hZ
  generalize hwA : ((w.alloc (.cells #[.int .i64 p.lim.sl, .int .i64 p.lim.sh, .int .i64 p.lim.hl, .int .i64 p.lim.hh, .int .i64 p.rate, .int .i64 p.asked, .int .i64 p.st, .bool p.door, .int .i64 p.left, .int .i64 p.given] 27)).alloc (.cells #[.int .i64 a.kind, .int .i64 a.n] 29)).alloc (.cells #[.int .i64 0, .int .i64 0, .int .i64 0, .int .i64 0, .int .i64 0, .int .i64 0, .int .i64 0, .bool false, .int .i64 0, .int .i64 0] 27) = wA at *
  generalize hB1 : w.heap.size + 1 = B1 at *
  generalize hB2 : B1 + 1 = B2 at *
  generalize Value.agg #[.int .i64 p.lim.sl, .int .i64 p.lim.sh, .int .i64 p.lim.hl, .int .i64 p.lim.hh, .int .i64 p.rate, .int .i64 p.asked, .int .i64 p.st, .bool p.door, .int .i64 p.left, .int .i64 p.given] = av
  generalize Value.agg #[.int .i64 a.kind, .int .i64 a.n] = av2
  clear hwA
  have hle : w.heap.size ≤ B2 := by omega
  obtain ⟨a0, a1⟩ := hA.two
  go_cut [6] (fun tv wx => tv = .bool (counts a.kind) ∧ wx = wA)
  case first =>
    have HCN : Hid (counts a.kind = (decide (a.kind = 1) || (decide (a.kind = 7) || decide (a.kind = 10)))) := rfl
    go_wp2_with fail
    all_goals go_meet
    all_goals (refine ⟨?_, rfl⟩; rw [HCN.out]; simp_all; try (rw [Bool.eq_iff_iff]; simp; omega))
  case rest =>
  obtain ⟨rfl, rfl⟩ := hcut
  generalize counts a.kind = b3 at *
  go_upto_region 2 with fail
  go_cut [34] (fun tv wx => tv = .bool (!actOk a) ∧ wx = wc)
  case first =>
    rcases b1 with _ | _
    · go_wp2_with (with_reducible (first | refine (h1 _).mono ?_ | refine (h2 _).mono ?_); rintro e w2 ⟨rfl, rfl⟩)
      all_goals go_meet
      all_goals (refine ⟨?_, rfl⟩; rw [HAC.out]; simp_all; done)
    rcases b3 with _ | _
    · go_wp2_with (with_reducible (first | refine (h1 _).mono ?_ | refine (h2 _).mono ?_); rintro e w2 ⟨rfl, rfl⟩)
      all_goals go_meet
      all_goals (refine ⟨?_, rfl⟩; rw [HAC.out]; simp_all; done)
    go_wp2_with (with_reducible (first | refine (h1 _).mono ?_ | refine (h2 _).mono ?_); rintro e w2 ⟨rfl, rfl⟩)
    all_goals go_meet
    all_goals (refine ⟨?_, rfl⟩; rw [HAC.out]; simp_all; done)
  case rest =>
  obtain ⟨rfl, rfl⟩ := hcut
  clear h1 h2
  cases hac : actOk a with
  | false =>
    rw [hac] at HST
    obtain ⟨c0, c1, c2, c3, c4, c5, c6, c7, c8, c9⟩ := hP.ten
    obtain ⟨z0, z1, z2, z3, z4, z5, z6, z7, z8, z9⟩ := hZ.ten
    obtain ⟨f0, f1, f2, f3, f4, f5, f6, f7, f8, f9⟩ := hZ.cold
    go_wp2_with fail
    try simp only [Exit.inBlock, Exit.then]
    exact sdo_end (q' := p) (c := 2) HST.out (hZ.fill' p) rfl rfl (fill_below hb0 hle _ _ _ _ _ _ _ _ _ _)
  | true =>
    rw [hac] at HST HAC
    go_upto_region 4 with fail
    have hF := sfor_any p a.kind
    unfold aPm at hF
    go_cut [40] (fun tv wx => tv = .bool (!forK p a.kind) ∧ Below wc.heap.size wc wx)
    case first =>
      obtain ⟨c0, c1, c2, c3, c4, c5, c6, c7, c8, c9⟩ := hP.ten
      go_wp2_with (refine (hF _).mono ?_; rintro e w2 ⟨rfl, hb2⟩)
      go_meet
      case rel => exact ⟨rfl, hb2⟩
    case rest =>
    obtain ⟨rfl, hb1⟩ := hcut
    have hbw := hb0.trans (hb1.mono (Nat.le_of_lt hP.lt))
    replace hP := hP.below hb1
    replace hA := hA.below hb1
    replace hZ := hZ.below hb1
    clear hb0 hb1 hF a0 a1
    cases hfo : forK p a.kind with
    | false =>
      rw [hfo] at HST
      obtain ⟨c0, c1, c2, c3, c4, c5, c6, c7, c8, c9⟩ := hP.ten
      obtain ⟨z0, z1, z2, z3, z4, z5, z6, z7, z8, z9⟩ := hZ.ten
      obtain ⟨f0, f1, f2, f3, f4, f5, f6, f7, f8, f9⟩ := hZ.cold
      go_wp2_with fail
      try simp only [Exit.inBlock, Exit.then]
      exact sdo_end (q' := p) (c := 3) HST.out (hZ.fill' p) rfl rfl (fill_below hbw hle _ _ _ _ _ _ _ _ _ _)
    | true =>
      rw [hfo] at HST
      have HK : Hid ((q, co) = doK p a) := HST.out
      clear HST
      have HQ3 := hidden (PB.new wc #[.int .i64 p.lim.sl, .int .i64 p.lim.sh, .int .i64 p.lim.hl, .int .i64 p.lim.hh, .int .i64 p.rate, .int .i64 p.asked, .int .i64 p.st, .bool p.door, .int .i64 p.left, .int .i64 p.given] 27)
      have HB3 := hidden ((Below.refl wc.heap.size wc).alloc (Nat.le_refl _) (.cells #[.int .i64 p.lim.sl, .int .i64 p.lim.sh, .int .i64 p.lim.hl, .int .i64 p.lim.hh, .int .i64 p.rate, .int .i64 p.asked, .int .i64 p.st, .bool p.door, .int .i64 p.left, .int .i64 p.given] 27))
      obtain ⟨c0, c1, c2, c3, c4, c5, c6, c7, c8, c9⟩ := hP.ten
      have HP := hidden hP
      have HA := hidden hA
      have HZ := hidden hZ
      clear hP hA hZ
      go_upto_region 7 with fail
      have hW : wc.heap.size = wc.heap.size := rfl
      generalize wc.alloc (.cells #[.int .i64 p.lim.sl, .int .i64 p.lim.sh, .int .i64 p.lim.hl, .int .i64 p.lim.hh, .int .i64 p.rate, .int .i64 p.asked, .int .i64 p.st, .bool p.door, .int .i64 p.left, .int .i64 p.given] 27) = w3 at *
      generalize Value.agg #[.int .i64 p.lim.sl, .int .i64 p.lim.sh, .int .i64 p.lim.hl, .int .i64 p.lim.hh, .int .i64 p.rate, .int .i64 p.asked, .int .i64 p.st, .bool p.door, .int .i64 p.left, .int .i64 p.given] = av3
      have hne : wc.heap.size ≠ B2 := Nat.ne_of_gt HZ.out.lt
      have hn1 : wc.heap.size ≠ B1 := Nat.ne_of_gt HA.out.lt
      have hn0 : wc.heap.size ≠ w.heap.size := Nat.ne_of_gt HP.out.lt
      have hle3 : w.heap.size ≤ wc.heap.size := hbw.size
      have hP3 := HP.out.below HB3.out
      have hA3 := HA.out.below HB3.out
      have hZ3 := HZ.out.below HB3.out
      have hQ3 := HQ3.out
      have hB := hbw.trans (HB3.out.mono hle3)
      have hk : 1 ≤ a.kind ∧ a.kind ≤ 10 := HK1.out (by have := HAC.out; simp at this; exact this.1)
      have HN : Hid (a.kind = 1 ∨ a.kind = 7 ∨ a.kind = 10 → 0 ≤ a.n ∧ a.n ≤ 100000) := fun z => HN1.out (by
        have h := HAC.out
        rw [HC3.out] at h
        rcases z with z | z | z <;> simp [z] at h <;> exact h.2)
      clear hbw HB3 HP HA HZ HQ3 HAC HK1 HN1 HC3 hac hfo hW c0 c1 c2 c3 c4 c5 c6 c7 c8 c9
      generalize wc.heap.size = B3 at *
      obtain ⟨c0, c1, c2, c3, c4, c5, c6, c7, c8, c9⟩ := hP3.ten
      obtain ⟨z0, z1, z2, z3, z4, z5, z6, z7, z8, z9⟩ := hZ3.ten
      obtain ⟨f0, f1, f2, f3, f4, f5, f6, f7, f8, f9⟩ := hZ3.cold
      obtain ⟨q0, q1, q2, q3, q4, q5, q6, q7, q8, q9⟩ := hQ3.ten
      obtain ⟨g0, g1, g2, g3, g4, g5, g6, g7, g8, g9⟩ := hQ3.cold
      obtain ⟨a0, a1⟩ := hA3.two
      have HZ3 := hidden hZ3
      have HP3 := hidden hP3
      have HA3 := hidden hA3
      have HQ3 := hidden hQ3
      have HB3 := hidden hB
      clear hP3 hA3 hZ3 hQ3 hB
      obtain ⟨kind, n⟩ := a
      dsimp only at *
      have hk' : kind = 4 ∨ kind = 6 ∨ kind = 9 ∨ kind = 5 ∨ kind = 8 ∨ kind = 2 ∨ kind = 3 ∨ kind = 10 ∨ kind = 7 ∨ kind = 1 := by omega
      clear hk
      rcases hk' with rfl | rfl | rfl | rfl | rfl | rfl | rfl | rfl | rfl | rfl
      · go_wp2_with fail
        try simp only [Exit.inBlock, Exit.then]
        exact sdo_end (q' := { p with st := 4 }) (c := 0) (HK.out.trans (by simp [doK])) (PB.fill' { p with st := 4 } (by repeat (first | exact HZ3.out | refine PB.far ?_ hne _ _))) rfl rfl (fill_below (by repeat (first | exact HB3.out | refine Below.setCell ?_ hle3 _)) hle _ _ _ _ _ _ _ _ _ _)
      · go_wp2_with fail
        try simp only [Exit.inBlock, Exit.then]
        exact sdo_end (q' := { p with door := false }) (c := 0) (HK.out.trans (by simp [doK])) (PB.fill' { p with door := false } (by repeat (first | exact HZ3.out | refine PB.far ?_ hne _ _))) rfl rfl (fill_below (by repeat (first | exact HB3.out | refine Below.setCell ?_ hle3 _)) hle _ _ _ _ _ _ _ _ _ _)
      · go_wp2_with fail
        try simp only [Exit.inBlock, Exit.then]
        exact sdo_end (q' := { p with st := 1, rate := 0, asked := 0 }) (c := 0) (HK.out.trans (by simp [doK])) (PB.fill' { p with st := 1, rate := 0, asked := 0 } (by repeat (first | exact HZ3.out | refine PB.far ?_ hne _ _))) rfl rfl (fill_below (by repeat (first | exact HB3.out | refine Below.setCell ?_ hle3 _)) hle _ _ _ _ _ _ _ _ _ _)
      · by_cases hs : p.st = 3
        · go_wp2_with fail
          try simp only [Exit.inBlock, Exit.then]
          exact sdo_end (q' := { p with door := true, st := 5 }) (c := 0) (HK.out.trans (by simp [doK, hs])) (PB.fill' { p with door := true, st := 5 } (by repeat (first | exact HZ3.out | refine PB.far ?_ hne _ _))) rfl rfl (fill_below (by repeat (first | exact HB3.out | refine Below.setCell ?_ hle3 _)) hle _ _ _ _ _ _ _ _ _ _)
        · go_wp2_with fail
          try simp only [Exit.inBlock, Exit.then]
          exact sdo_end (q' := { p with door := true }) (c := 0) (HK.out.trans (by simp [doK, hs])) (PB.fill' { p with door := true } (by repeat (first | exact HZ3.out | refine PB.far ?_ hne _ _))) rfl rfl (fill_below (by repeat (first | exact HB3.out | refine Below.setCell ?_ hle3 _)) hle _ _ _ _ _ _ _ _ _ _)
      · by_cases hs : 0 < p.rate
        · go_wp2_with fail
          try simp only [Exit.inBlock, Exit.then]
          exact sdo_end (q' := { p with st := 4 }) (c := 0) (HK.out.trans (by simp [doK, hs])) (PB.fill' { p with st := 4 } (by repeat (first | exact HZ3.out | refine PB.far ?_ hne _ _))) rfl rfl (fill_below (by repeat (first | exact HB3.out | refine Below.setCell ?_ hle3 _)) hle _ _ _ _ _ _ _ _ _ _)
        · go_wp2_with fail
          try simp only [Exit.inBlock, Exit.then]
          exact sdo_end (q' := { p with st := 2 }) (c := 0) (HK.out.trans (by simp [doK, hs])) (PB.fill' { p with st := 2 } (by repeat (first | exact HZ3.out | refine PB.far ?_ hne _ _))) rfl rfl (fill_below (by repeat (first | exact HB3.out | refine Below.setCell ?_ hle3 _)) hle _ _ _ _ _ _ _ _ _ _)
      · by_cases hs : p.st = 1
        · go_wp2_with fail
          try simp only [Exit.inBlock, Exit.then]
          exact sdo_end (q' := { p with rate := p.asked, asked := 0, st := 2 }) (c := 0) (HK.out.trans (by simp [doK, hs])) (PB.fill' { p with rate := p.asked, asked := 0, st := 2 } (by repeat (first | exact HZ3.out | refine PB.far ?_ hne _ _))) rfl rfl (fill_below (by repeat (first | exact HB3.out | refine Below.setCell ?_ hle3 _)) hle _ _ _ _ _ _ _ _ _ _)
        · go_wp2_with fail
          try simp only [Exit.inBlock, Exit.then]
          exact sdo_end (q' := { p with rate := p.asked, asked := 0 }) (c := 0) (HK.out.trans (by simp [doK, hs])) (PB.fill' { p with rate := p.asked, asked := 0 } (by repeat (first | exact HZ3.out | refine PB.far ?_ hne _ _))) rfl rfl (fill_below (by repeat (first | exact HB3.out | refine Below.setCell ?_ hle3 _)) hle _ _ _ _ _ _ _ _ _ _)
      · by_cases hs : p.door = true
        · go_wp2_with fail
          try simp only [Exit.inBlock, Exit.then]
          exact sdo_end (q' := { p with door := true }) (c := 6) (HK.out.trans (by rw [← door_eq hs]; simp [doK, hs])) (PB.fill' { p with door := true } (by repeat (first | exact HZ3.out | refine PB.far ?_ hne _ _))) rfl rfl (fill_below (by repeat (first | exact HB3.out | refine Below.setCell ?_ hle3 _)) hle _ _ _ _ _ _ _ _ _ _)
        · replace hs : p.door = false := by simpa using hs
          by_cases hl : p.left = 0
          · go_wp2_with fail
            try simp only [Exit.inBlock, Exit.then]
            exact sdo_end (q' := { p with door := false, left := 0 }) (c := 7) (HK.out.trans (by rw [← door_eq (p := { p with left := 0 }) hs, ← left_eq hl]; simp [doK, hs, hl])) (PB.fill' { p with door := false, left := 0 } (by repeat (first | exact HZ3.out | refine PB.far ?_ hne _ _))) rfl rfl (fill_below (by repeat (first | exact HB3.out | refine Below.setCell ?_ hle3 _)) hle _ _ _ _ _ _ _ _ _ _)
          · go_wp2_with fail
            try simp only [Exit.inBlock, Exit.then]
            exact sdo_end (q' := { p with st := 3, asked := 0, door := false }) (c := 0) (HK.out.trans (by simp [doK, hs, hl])) (PB.fill' { p with st := 3, asked := 0, door := false } (by repeat (first | exact HZ3.out | refine PB.far ?_ hne _ _))) rfl rfl (fill_below (by repeat (first | exact HB3.out | refine Below.setCell ?_ hle3 _)) hle _ _ _ _ _ _ _ _ _ _)
      · have hl := hR.left
        have hn := HN.out (.inr (.inr rfl))
        by_cases hs : 100000000 < p.left + n
        · go_wp2_with fail
          try simp only [Exit.inBlock, Exit.then]
          exact sdo_end (q' := p) (c := 8) (HK.out.trans (by simp [doK, hs])) (PB.fill' p (by repeat (first | exact HZ3.out | refine PB.far ?_ hne _ _))) rfl rfl (fill_below (by repeat (first | exact HB3.out | refine Below.setCell ?_ hle3 _)) hle _ _ _ _ _ _ _ _ _ _)
        · go_wp2_with fail
          try simp only [Exit.inBlock, Exit.then]
          exact sdo_end (q' := { p with left := p.left + n }) (c := 0) (HK.out.trans (by simp [doK]; omega)) (PB.fill' { p with left := p.left + n } (by repeat (first | exact HZ3.out | refine PB.far ?_ hne _ _))) rfl rfl (fill_below (by repeat (first | exact HB3.out | refine Below.setCell ?_ hle3 _)) hle _ _ _ _ _ _ _ _ _ _)
      · have hl := hR.left
        have hg := hR.given
        have hn := HN.out (.inr (.inl rfl))
        have hr : 0 ≤ p.rate ∧ p.rate ≤ 100000 := by have h1 := hR.lim; have h2 := hR.rate; omega
        have hm0 : 0 ≤ p.rate * n := Int.mul_nonneg hr.1 hn.1
        have hm1 : p.rate * n ≤ 100000 * 100000 := Int.mul_le_mul hr.2 hn.2 hn.1 (by omega)
        have hmin := smin_any (p.rate * n) p.left
        have hb1 : 0 ≤ min (p.rate * n) p.left ∧ min (p.rate * n) p.left ≤ p.left := by omega
        have HK7 : Hid ((q, co) = if 100000000 < p.given + min (p.rate * n) p.left then (p, 8) else ({ p with left := p.left - min (p.rate * n) p.left, given := p.given + min (p.rate * n) p.left, st := if p.left - min (p.rate * n) p.left = 0 then 5 else p.st }, 0)) := HK.out
        generalize min (p.rate * n) p.left = m at *
        clear HK
        have HK := HK7
        clear HK7
        by_cases hs : 100000000 < p.given + m
        · go_wp2_with (refine (hmin _).mono ?_; rintro e w7 ⟨rfl, rfl⟩)
          try simp only [Exit.inBlock, Exit.then]
          exact sdo_end (q' := p) (c := 8) (HK.out.trans (by simp [hs])) (PB.fill' p (by repeat (first | exact HZ3.out | refine PB.far ?_ hne _ _))) rfl rfl (fill_below (by repeat (first | exact HB3.out | refine Below.setCell ?_ hle3 _)) hle _ _ _ _ _ _ _ _ _ _)
        · by_cases he : p.left - m = 0
          · go_wp2_with (refine (hmin _).mono ?_; rintro e w7 ⟨rfl, rfl⟩)
            try simp only [Exit.inBlock, Exit.then]
            exact sdo_end (q' := { p with left := 0, given := p.given + m, st := 5 }) (c := 0) (HK.out.trans (by rw [if_neg (by omega), if_pos he, he])) (PB.fill' { p with left := 0, given := p.given + m, st := 5 } (by repeat (first | exact HZ3.out | refine PB.far ?_ hne _ _))) rfl rfl (fill_below (by repeat (first | exact HB3.out | refine Below.setCell ?_ hle3 _)) hle _ _ _ _ _ _ _ _ _ _)
          · go_wp2_with (refine (hmin _).mono ?_; rintro e w7 ⟨rfl, rfl⟩)
            try simp only [Exit.inBlock, Exit.then]
            exact sdo_end (q' := { p with left := p.left - m, given := p.given + m }) (c := 0) (HK.out.trans (by rw [if_neg (by omega), if_neg he])) (PB.fill' { p with left := p.left - m, given := p.given + m } (by repeat (first | exact HZ3.out | refine PB.far ?_ hne _ _))) rfl rfl (fill_below (by repeat (first | exact HB3.out | refine Below.setCell ?_ hle3 _)) hle _ _ _ _ _ _ _ _ _ _)
      · have hH := shard_any p.lim n
        have hS := ssoft_any p.lim n
        unfold aL at hH hS
        have HK1 : Hid ((q, co) = if n = 0 ∨ hard p.lim n = false then (p, 4) else if soft p.lim n = false then ({ p with st := if p.st = 1 then 2 else p.st, asked := n }, 5) else ({ p with st := if p.st = 1 then 2 else p.st, rate := n, asked := 0 }, 0)) := HK.out
        clear HK
        generalize hard p.lim n = h1 at *
        generalize soft p.lim n = h2 at *
        have HK := HK1
        clear HK1
        have hnw := hn0
        by_cases hz : n = 0
        · go_wp2_with fail
          try simp only [Exit.inBlock, Exit.then]
          exact sdo_end (q' := p) (c := 4) (HK.out.trans (by rw [if_pos (.inl hz)])) (PB.fill' p (by repeat (first | exact HZ3.out | refine PB.far ?_ hne _ _))) rfl rfl (fill_below (by repeat (first | exact HB3.out | refine Below.setCell ?_ hle3 _)) hle _ _ _ _ _ _ _ _ _ _)
        · cases h1 with
          | false =>
            go_wp2_with (refine (hH _).mono ?_; rintro e w7 ⟨rfl, hb7⟩; obtain ⟨c0, c1, c2, c3, c4, c5, c6, c7, c8, c9⟩ := (HP3.out.below hb7).ten; obtain ⟨z0, z1, z2, z3, z4, z5, z6, z7, z8, z9⟩ := (HZ3.out.below hb7).ten; obtain ⟨f0, f1, f2, f3, f4, f5, f6, f7, f8, f9⟩ := (HZ3.out.below hb7).cold)
            try simp only [Exit.inBlock, Exit.then]
            exact sdo_end (q' := p) (c := 4) (HK.out.trans (by simp)) (PB.fill' p (HZ3.out.below hb7)) rfl rfl (fill_below (HB3.out.trans (hb7.mono HB3.out.size)) hle _ _ _ _ _ _ _ _ _ _)
          | true =>
            have hnz : ¬ (n = 0 ∨ true = false) := by simp [hz]
            go_upto_region 11 with (refine (hH _).mono ?_; rintro e w7 ⟨rfl, hb7⟩)
            have hP7 := HP3.out.below hb7
            have hA7 := HA3.out.below hb7
            have hZ7 := HZ3.out.below hb7
            have hQ7 := HQ3.out.below hb7
            have hB7 := HB3.out.trans (hb7.mono HB3.out.size)
            clear c0 c1 c2 c3 c4 c5 c6 c7 c8 c9 z0 z1 z2 z3 z4 z5 z6 z7 z8 z9 f0 f1 f2 f3 f4 f5 f6 f7 f8 f9 q0 q1 q2 q3 q4 q5 q6 q7 q8 q9 g0 g1 g2 g3 g4 g5 g6 g7 g8 g9 a0 a1 hb7
            obtain ⟨q0, q1, q2, q3, q4, q5, q6, q7, q8, q9⟩ := hQ7.ten
            obtain ⟨g0, g1, g2, g3, g4, g5, g6, g7, g8, g9⟩ := hQ7.cold
            by_cases hs : p.st = 1
            · go_upto_region 13 with fail
              have hP8 := hP7.far hnw 6 (.int .i64 2)
              have hA8 := hA7.far hn1 6 (.int .i64 2)
              have hZ8 := hZ7.far hne 6 (.int .i64 2)
              have hQ8 := hQ7.put 6 (.int .i64 2) (vs' := cP { p with st := 2 }) (by simp [cP])
              have hB8 := hB7.setCell (p := ⟨B3, 6, none⟩) hle3 (.int .i64 2)
              unfold cP at hQ8
              dsimp only at hQ8
              generalize w7.setCell ⟨B3, 6, none⟩ (.int .i64 2) = w8 at *
              clear q0 q1 q2 q3 q4 q5 q6 q7 q8 q9 g0 g1 g2 g3 g4 g5 g6 g7 g8 g9 hP7 hA7 hZ7 hQ7 hB7
              have hP9 := hidden hP8
              have hA9 := hidden hA8
              have hZ9 := hidden hZ8
              have hQ9 := hidden hQ8
              have hB9 := hidden hB8
              obtain ⟨c0, c1, c2, c3, c4, c5, c6, c7, c8, c9⟩ := hP8.ten
              obtain ⟨a0, a1⟩ := hA8.two
              clear hP8 hA8 hZ8 hQ8 hB8
              cases h2 with
              | false =>
                go_wp2_with (refine (hS _).mono ?_; rintro e w9 ⟨rfl, hb9⟩; obtain ⟨z0, z1, z2, z3, z4, z5, z6, z7, z8, z9⟩ := (hZ9.out.below hb9).ten; obtain ⟨f0, f1, f2, f3, f4, f5, f6, f7, f8, f9⟩ := (hZ9.out.below hb9).cold; obtain ⟨q0, q1, q2, q3, q4, q5, q6, q7, q8, q9⟩ := (hQ9.out.below hb9).ten; obtain ⟨g0, g1, g2, g3, g4, g5, g6, g7, g8, g9⟩ := (hQ9.out.below hb9).cold; obtain ⟨a0, a1⟩ := (hA9.out.below hb9).two)
                try simp only [Exit.inBlock, Exit.then]
                exact sdo_end (q' := { p with st := 2, asked := n }) (c := 5) (HK.out.trans (by rw [if_neg hnz]; simp [hs])) (PB.fill' { p with st := 2, asked := n } ((hZ9.out.below hb9).far hne _ _)) rfl rfl (fill_below ((hB9.out.trans (hb9.mono hB9.out.size)).setCell hle3 _) hle _ _ _ _ _ _ _ _ _ _)
              | true =>
                go_wp2_with (refine (hS _).mono ?_; rintro e w9 ⟨rfl, hb9⟩; obtain ⟨z0, z1, z2, z3, z4, z5, z6, z7, z8, z9⟩ := (hZ9.out.below hb9).ten; obtain ⟨f0, f1, f2, f3, f4, f5, f6, f7, f8, f9⟩ := (hZ9.out.below hb9).cold; obtain ⟨q0, q1, q2, q3, q4, q5, q6, q7, q8, q9⟩ := (hQ9.out.below hb9).ten; obtain ⟨g0, g1, g2, g3, g4, g5, g6, g7, g8, g9⟩ := (hQ9.out.below hb9).cold; obtain ⟨a0, a1⟩ := (hA9.out.below hb9).two)
                try simp only [Exit.inBlock, Exit.then]
                exact sdo_end (q' := { p with st := 2, rate := n, asked := 0 }) (c := 0) (HK.out.trans (by rw [if_neg hnz, if_neg (by simp)]; simp [hs])) (PB.fill' { p with st := 2, rate := n, asked := 0 } (((hZ9.out.below hb9).far hne _ _).far hne _ _)) rfl rfl (fill_below (((hB9.out.trans (hb9.mono hB9.out.size)).setCell hle3 _).setCell hle3 _) hle _ _ _ _ _ _ _ _ _ _)
            · go_upto_region 13 with fail
              have hP8 := hP7
              have hA8 := hA7
              have hZ8 := hZ7
              have hQ8 := hQ7
              have hB8 := hB7
              clear q0 q1 q2 q3 q4 q5 q6 q7 q8 q9 g0 g1 g2 g3 g4 g5 g6 g7 g8 g9 hP7 hA7 hZ7 hQ7 hB7
              have hP9 := hidden hP8
              have hA9 := hidden hA8
              have hZ9 := hidden hZ8
              have hQ9 := hidden hQ8
              have hB9 := hidden hB8
              obtain ⟨c0, c1, c2, c3, c4, c5, c6, c7, c8, c9⟩ := hP8.ten
              obtain ⟨a0, a1⟩ := hA8.two
              clear hP8 hA8 hZ8 hQ8 hB8
              cases h2 with
              | false =>
                go_wp2_with (refine (hS _).mono ?_; rintro e w9 ⟨rfl, hb9⟩; obtain ⟨z0, z1, z2, z3, z4, z5, z6, z7, z8, z9⟩ := (hZ9.out.below hb9).ten; obtain ⟨f0, f1, f2, f3, f4, f5, f6, f7, f8, f9⟩ := (hZ9.out.below hb9).cold; obtain ⟨q0, q1, q2, q3, q4, q5, q6, q7, q8, q9⟩ := (hQ9.out.below hb9).ten; obtain ⟨g0, g1, g2, g3, g4, g5, g6, g7, g8, g9⟩ := (hQ9.out.below hb9).cold; obtain ⟨a0, a1⟩ := (hA9.out.below hb9).two)
                try simp only [Exit.inBlock, Exit.then]
                exact sdo_end (q' := { p with st := p.st, asked := n }) (c := 5) (HK.out.trans (by rw [if_neg hnz]; simp [hs])) (PB.fill' { p with st := p.st, asked := n } ((hZ9.out.below hb9).far hne _ _)) rfl rfl (fill_below ((hB9.out.trans (hb9.mono hB9.out.size)).setCell hle3 _) hle _ _ _ _ _ _ _ _ _ _)
              | true =>
                go_wp2_with (refine (hS _).mono ?_; rintro e w9 ⟨rfl, hb9⟩; obtain ⟨z0, z1, z2, z3, z4, z5, z6, z7, z8, z9⟩ := (hZ9.out.below hb9).ten; obtain ⟨f0, f1, f2, f3, f4, f5, f6, f7, f8, f9⟩ := (hZ9.out.below hb9).cold; obtain ⟨q0, q1, q2, q3, q4, q5, q6, q7, q8, q9⟩ := (hQ9.out.below hb9).ten; obtain ⟨g0, g1, g2, g3, g4, g5, g6, g7, g8, g9⟩ := (hQ9.out.below hb9).cold; obtain ⟨a0, a1⟩ := (hA9.out.below hb9).two)
                try simp only [Exit.inBlock, Exit.then]
                exact sdo_end (q' := { p with st := p.st, rate := n, asked := 0 }) (c := 0) (HK.out.trans (by rw [if_neg hnz, if_neg (by simp)]; simp [hs])) (PB.fill' { p with st := p.st, rate := n, asked := 0 } (((hZ9.out.below hb9).far hne _ _).far hne _ _)) rfl rfl (fill_below (((hB9.out.trans (hb9.mono hB9.out.size)).setCell hle3 _).setCell hle3 _) hle _ _ _ _ _ _ _ _ _ _)
end Go.Proofs.Ytamghmnibfbgaaa
