/-
  Boxes: blocks whose cells are known one by one.
-/
import Derived.Test.YtamghmnibfbgaaaVb
import Derived.Test.YtamghmnibfbgaaaBa
import Derived.Deep.RegionWith
namespace Go.Proofs.Ytamghmnibfbgaaa
open Go.RowKit Va Ba
set_option linter.unusedVariables false

/-- The block B holds the cells vs. -/
def PB (W : World) (B : Nat) (vs : Array Value) (t : TypeId) : Prop := W.heap[B]? = some (.cells vs t)
section
variable {W W' : World} {B b : Nat} {vs : Array Value} {t : TypeId}
theorem PB.below (h : PB W B vs t) (hb : Below W.heap.size W W') : PB W' B vs t := (hb.block B (Array.getElem?_eq_some_iff.1 h).1).trans h
theorem PB.lt (h : PB W B vs t) : B < W.heap.size := (Array.getElem?_eq_some_iff.1 h).1
theorem PB.cell (h : PB W B vs t) (j : Nat) : W.cell? ⟨B, j, none⟩ = vs[j]? := by
  unfold PB at h
  simp only [World.cell?, h]
  rfl
theorem PB.frozen (h : PB W B vs t) (j : Nat) : W.frozen? ⟨B, j, none⟩ = false := by
  unfold PB at h
  simp only [World.frozen?, h]
  simp
theorem PB.new (W : World) (vs : Array Value) (t : TypeId) : PB (W.alloc (.cells vs t)) W.heap.size vs t := heap_alloc_new _ _
theorem PB.alloc (h : PB W B vs t) (o : Obj) : PB (W.alloc o) B vs t := h.below ((Below.refl _ _).alloc (Nat.le_refl _) o)
theorem PB.set (h : PB W B vs t) (j : Nat) (v : Value) : PB (W.setCell ⟨B, j, none⟩ v) B (vs.setIfInBounds j v) t := by
  unfold PB at *
  simp only [World.setCell, Array.getElem?_modify]
  rw [if_pos trivial, h]
  rfl
theorem PB.far (h : PB W B vs t) (hb : b ≠ B) (j : Nat) (v : Value) : PB (W.setCell ⟨b, j, none⟩ v) B vs t := by
  unfold PB at *
  rw [Below.heap_setCell _ _ _ _ (by show B ≠ b; omega)]
  exact h
theorem PB.drewN (h : PB W B vs t) (n : Nat) : PB (W.drewN n) B vs t := h
end
def aL (l : Lm) : Value := .agg #[.int .i64 l.sl, .int .i64 l.sh, .int .i64 l.hl, .int .i64 l.hh]
def cP (p : Pm) : Array Value := #[.int .i64 p.lim.sl, .int .i64 p.lim.sh, .int .i64 p.lim.hl, .int .i64 p.lim.hh, .int .i64 p.rate, .int .i64 p.asked, .int .i64 p.st, .bool p.door, .int .i64 p.left, .int .i64 p.given]
def aPm (p : Pm) : Value := .agg #[.int .i64 p.lim.sl, .int .i64 p.lim.sh, .int .i64 p.lim.hl, .int .i64 p.lim.hh, .int .i64 p.rate, .int .i64 p.asked, .int .i64 p.st, .bool p.door, .int .i64 p.left, .int .i64 p.given]
def aAc (a : Ac) : Value := .agg #[.int .i64 a.kind, .int .i64 a.n]
/-- The ten cells of a pump's box. -/
theorem PB.ten {W : World} {B : Nat} {t : TypeId} {v0 v1 v2 v3 v4 v5 v6 v7 v8 v9 : Value} (h : PB W B #[v0, v1, v2, v3, v4, v5, v6, v7, v8, v9] t) :
    W.cell? ⟨B, 0, none⟩ = some v0 ∧ W.cell? ⟨B, 1, none⟩ = some v1 ∧ W.cell? ⟨B, 2, none⟩ = some v2 ∧ W.cell? ⟨B, 3, none⟩ = some v3 ∧ W.cell? ⟨B, 4, none⟩ = some v4 ∧ W.cell? ⟨B, 5, none⟩ = some v5 ∧ W.cell? ⟨B, 6, none⟩ = some v6 ∧ W.cell? ⟨B, 7, none⟩ = some v7 ∧ W.cell? ⟨B, 8, none⟩ = some v8 ∧ W.cell? ⟨B, 9, none⟩ = some v9 :=
  ⟨h.cell 0, h.cell 1, h.cell 2, h.cell 3, h.cell 4, h.cell 5, h.cell 6, h.cell 7, h.cell 8, h.cell 9⟩
theorem PB.two {W : World} {B : Nat} {t : TypeId} {v0 v1 : Value} (h : PB W B #[v0, v1] t) : W.cell? ⟨B, 0, none⟩ = some v0 ∧ W.cell? ⟨B, 1, none⟩ = some v1 := ⟨h.cell 0, h.cell 1⟩
theorem PB.four {W : World} {B : Nat} {t : TypeId} {v0 v1 v2 v3 : Value} (h : PB W B #[v0, v1, v2, v3] t) : W.cell? ⟨B, 0, none⟩ = some v0 ∧ W.cell? ⟨B, 1, none⟩ = some v1 ∧ W.cell? ⟨B, 2, none⟩ = some v2 ∧ W.cell? ⟨B, 3, none⟩ = some v3 := ⟨h.cell 0, h.cell 1, h.cell 2, h.cell 3⟩

set_option maxHeartbeats 4000000 in
theorem slim_any (l : Lm) (w : World) : Calls Try.prog 34 #[aL l] w fun e w' => e = .returned (.bool (limOk l)) ∧ Below w.heap.size w w' := by
  obtain ⟨sl, sh, hl, hh⟩ := l
  unfold limOk aL
  dsimp only
  go_enter Try.func34, Try.ntmps34
  go_wp2
  all_goals go_ret
  all_goals exact ⟨ret_bool (by first | (simp; done) | (simp; omega) | (simp_all; done) | (simp_all; omega) | (rw [Bool.eq_iff_iff]; simp; omega) | (rw [Bool.eq_iff_iff]; simp_all; omega)), by repeat (first | exact Below.refl _ _ | assumption | refine st_drew ?_ | refine st_drewN ?_ _ | refine Below.setCell ?_ (by first | omega | (simp; done) | (simp; omega)) _ | refine Below.alloc ?_ (by first | omega | (simp; done) | (simp; omega)) _)⟩

set_option maxHeartbeats 1000000 in
theorem shard_any (l : Lm) (n : Int) (w : World) : Calls Try.prog 37 #[aL l, .int .i64 n] w fun e w' => e = .returned (.bool (hard l n)) ∧ Below w.heap.size w w' := by
  have h := lin_any n l.hl l.hh
  unfold hard
  unfold aL
  generalize rng n l.hl l.hh = t at *
  go_enter Try.func37, Try.ntmps37
  go_wp2_with (go_at_call 35; refine (h _).mono ?_; rintro e w1 ⟨rfl, rfl⟩)
  go_ret
  exact ⟨rfl, by repeat (first | exact Below.refl _ _ | assumption | refine st_drew ?_ | refine st_drewN ?_ _ | refine Below.setCell ?_ (by first | omega | (simp; done) | (simp; omega)) _ | refine Below.alloc ?_ (by first | omega | (simp; done) | (simp; omega)) _)⟩

set_option maxHeartbeats 1000000 in
theorem ssoft_any (l : Lm) (n : Int) (w : World) : Calls Try.prog 36 #[aL l, .int .i64 n] w fun e w' => e = .returned (.bool (soft l n)) ∧ Below w.heap.size w w' := by
  have h := lin_any n l.sl l.sh
  unfold soft
  unfold aL
  generalize rng n l.sl l.sh = t at *
  go_enter Try.func36, Try.ntmps36
  go_wp2_with (go_at_call 35; refine (h _).mono ?_; rintro e w1 ⟨rfl, rfl⟩)
  go_ret
  exact ⟨rfl, by repeat (first | exact Below.refl _ _ | assumption | refine st_drew ?_ | refine st_drewN ?_ _ | refine Below.setCell ?_ (by first | omega | (simp; done) | (simp; omega)) _ | refine Below.alloc ?_ (by first | omega | (simp; done) | (simp; omega)) _)⟩

set_option maxRecDepth 20000 in
set_option maxHeartbeats 8000000 in
theorem spok_any (p : Pm) (w : World) : Calls Try.prog 13 #[aPm p] w fun e w' => e = .returned (.bool (pmOk p)) ∧ Below w.heap.size w w' := by
  have h1 := slim_any p.lim
  have h2 := lin_any p.st 1 5
  have h3 := lin_any p.left 0 100000000
  have h4 := lin_any p.given 0 100000000
  have k1 := ssoft_any p.lim p.asked
  have k2 := shard_any p.lim p.asked
  have k3 := shard_any p.lim p.rate
  have hP := PB.new w (cP p) 27
  have hb0 : Below w.heap.size w (w.alloc (.cells (cP p) 27)) := (Below.refl _ _).alloc (Nat.le_refl _) _
  have HV : Hid (pmOk p = (base p && (ratesOk p && stOk p))) := rfl
  have HB : Hid (base p = (limOk p.lim && (rng p.st 1 5 && (rng p.left 0 100000000 && rng p.given 0 100000000)))) := rfl
  have HR : Hid (ratesOk p = ((decide (p.asked = 0) || (!soft p.lim p.asked && hard p.lim p.asked)) && (decide (p.rate = 0) || hard p.lim p.rate))) := rfl
  have HS : Hid (stOk p = if p.st = 1 then decide (p.rate = 0) && decide (p.asked = 0) else if p.st = 3 then decide (0 < p.rate) && !p.door else if p.st = 4 then decide (0 < p.rate) else true) := rfl
  unfold cP at hP hb0
  unfold aPm
  unfold aL at *
  generalize limOk p.lim = t1 at *
  generalize rng p.st 1 5 = t2 at *
  generalize rng p.left 0 100000000 = t3 at *
  generalize rng p.given 0 100000000 = t4 at *
  go_enter Try.func13, Try.ntmps13
  go_upto_region 1 with fail
  generalize hwA : w.alloc (.cells #[.int .i64 p.lim.sl, .int .i64 p.lim.sh, .int .i64 p.lim.hl, .int .i64 p.lim.hh, .int .i64 p.rate, .int .i64 p.asked, .int .i64 p.st, .bool p.door, .int .i64 p.left, .int .i64 p.given] 27) = wA at *
  generalize hBB : w.heap.size = B at *
  clear hwA
  generalize Value.agg #[.int .i64 p.lim.sl, .int .i64 p.lim.sh, .int .i64 p.lim.hl, .int .i64 p.lim.hh, .int .i64 p.rate, .int .i64 p.asked, .int .i64 p.st, .bool p.door, .int .i64 p.left, .int .i64 p.given] = av
  have hBl := hP.lt
  go_cut [24] (fun tv wx => tv = .bool (!base p) ∧ Below B w wx ∧ PB wx B #[.int .i64 p.lim.sl, .int .i64 p.lim.sh, .int .i64 p.lim.hl, .int .i64 p.lim.hh, .int .i64 p.rate, .int .i64 p.asked, .int .i64 p.st, .bool p.door, .int .i64 p.left, .int .i64 p.given] 27)
  case first =>
    obtain ⟨c0, c1, c2, c3, c4, c5, c6, c7, c8, c9⟩ := hP.ten
    have HF : Hid (∀ W, Below wA.heap.size wA W → Below B w W ∧ PB W B #[.int .i64 p.lim.sl, .int .i64 p.lim.sh, .int .i64 p.lim.hl, .int .i64 p.lim.hh, .int .i64 p.rate, .int .i64 p.asked, .int .i64 p.st, .bool p.door, .int .i64 p.left, .int .i64 p.given] 27) := fun W hW => ⟨hb0.trans (hW.mono (Nat.le_of_lt hBl)), hP.below hW⟩
    clear hP hb0
    go_wp2_with fail
    refine (h1 _).mono ?_
    rintro e w1 ⟨rfl, hb1⟩
    obtain ⟨hbB, hPB⟩ := HF.out w1 hb1
    obtain ⟨d0, d1, d2, d3, d4, d5, d6, d7, d8, d9⟩ := hPB.ten
    have HPB := hidden hPB
    have HBB := hidden hbB
    clear hb1 c0 c1 c2 c3 c4 c5 c6 c7 c8 c9 hPB hbB HF
    rcases t1 with _ | _
    · go_wp2_with fail
      go_meet
      case rel => exact ⟨by rw [HB.out]; rfl, HBB.out, HPB.out⟩
    rcases t2 with _ | _
    · go_wp2_with (go_at_call 35; (with_reducible (first | refine (h2 _).mono ?_ | refine (h3 _).mono ?_ | refine (h4 _).mono ?_)); rintro e w2 ⟨rfl, rfl⟩)
      go_meet
      case rel => exact ⟨by rw [HB.out]; rfl, HBB.out, HPB.out⟩
    rcases t3 with _ | _
    · go_wp2_with (go_at_call 35; (with_reducible (first | refine (h2 _).mono ?_ | refine (h3 _).mono ?_ | refine (h4 _).mono ?_)); rintro e w2 ⟨rfl, rfl⟩)
      go_meet
      case rel => exact ⟨by rw [HB.out]; rfl, HBB.out, HPB.out⟩
    go_wp2_with (go_at_call 35; (with_reducible (first | refine (h2 _).mono ?_ | refine (h3 _).mono ?_ | refine (h4 _).mono ?_)); rintro e w2 ⟨rfl, rfl⟩)
    go_meet
    case rel => exact ⟨by rw [HB.out]; rfl, HBB.out, HPB.out⟩
  case rest =>
    obtain ⟨rfl, hbB, hPB⟩ := hcut
    clear h1 h2 h3 h4 HB hP hb0
    cases hbs : base p with
    | false =>
      rw [hbs] at HV
      go_wp2_with fail
      go_ret
      exact ⟨ret_bool HV.out.symm, by rw [hBB]; exact hbB⟩
    | true =>
      rw [hbs] at HV
      clear hbs
      go_upto_region 3 with fail
      have hcl := hPB.lt
      go_cut [55] (fun tv wx => tv = .bool (!ratesOk p) ∧ Below B w wx ∧ PB wx B #[.int .i64 p.lim.sl, .int .i64 p.lim.sh, .int .i64 p.lim.hl, .int .i64 p.lim.hh, .int .i64 p.rate, .int .i64 p.asked, .int .i64 p.st, .bool p.door, .int .i64 p.left, .int .i64 p.given] 27)
      case first =>
        have HF : Hid (∀ W, Below wc.heap.size wc W → Below B w W ∧ PB W B #[.int .i64 p.lim.sl, .int .i64 p.lim.sh, .int .i64 p.lim.hl, .int .i64 p.lim.hh, .int .i64 p.rate, .int .i64 p.asked, .int .i64 p.st, .bool p.door, .int .i64 p.left, .int .i64 p.given] 27) := fun W hW => ⟨hbB.trans (hW.mono (Nat.le_of_lt hcl)), hPB.below hW⟩
        obtain ⟨c0, c1, c2, c3, c4, c5, c6, c7, c8, c9⟩ := hPB.ten
        have HC : Hid (∀ W', Below wc.heap.size wc W' → W'.cell? ⟨B, 0, none⟩ = some (.int .i64 p.lim.sl) ∧ W'.cell? ⟨B, 1, none⟩ = some (.int .i64 p.lim.sh) ∧ W'.cell? ⟨B, 2, none⟩ = some (.int .i64 p.lim.hl) ∧ W'.cell? ⟨B, 3, none⟩ = some (.int .i64 p.lim.hh) ∧ W'.cell? ⟨B, 4, none⟩ = some (.int .i64 p.rate) ∧ W'.cell? ⟨B, 5, none⟩ = some (.int .i64 p.asked)) := fun W hW => by
          obtain ⟨_, h⟩ := HF.out W hW
          obtain ⟨a0, a1, a2, a3, a4, a5, -⟩ := h.ten
          exact ⟨a0, a1, a2, a3, a4, a5⟩
        have hb9 := Below.refl wc.heap.size wc
        clear hPB hbB
        generalize soft p.lim p.asked = b1 at *
        generalize hard p.lim p.asked = b2 at *
        generalize hard p.lim p.rate = b3 at *
        have K1 : ∀ W, Below wc.heap.size wc W → Calls Try.prog 36 #[.agg #[.int .i64 p.lim.sl, .int .i64 p.lim.sh, .int .i64 p.lim.hl, .int .i64 p.lim.hh], .int .i64 p.asked] W fun e W' => e = .returned (.bool b1) ∧ Below wc.heap.size wc W' ∧ W'.cell? ⟨B, 0, none⟩ = some (.int .i64 p.lim.sl) ∧ W'.cell? ⟨B, 1, none⟩ = some (.int .i64 p.lim.sh) ∧ W'.cell? ⟨B, 2, none⟩ = some (.int .i64 p.lim.hl) ∧ W'.cell? ⟨B, 3, none⟩ = some (.int .i64 p.lim.hh) ∧ W'.cell? ⟨B, 4, none⟩ = some (.int .i64 p.rate) ∧ W'.cell? ⟨B, 5, none⟩ = some (.int .i64 p.asked) := fun W hW => (k1 W).mono fun e W' ⟨h1, h2⟩ => ⟨h1, onto hW h2, HC.out W' (onto hW h2)⟩
        have K2 : ∀ W, Below wc.heap.size wc W → Calls Try.prog 37 #[.agg #[.int .i64 p.lim.sl, .int .i64 p.lim.sh, .int .i64 p.lim.hl, .int .i64 p.lim.hh], .int .i64 p.asked] W fun e W' => e = .returned (.bool b2) ∧ Below wc.heap.size wc W' ∧ W'.cell? ⟨B, 0, none⟩ = some (.int .i64 p.lim.sl) ∧ W'.cell? ⟨B, 1, none⟩ = some (.int .i64 p.lim.sh) ∧ W'.cell? ⟨B, 2, none⟩ = some (.int .i64 p.lim.hl) ∧ W'.cell? ⟨B, 3, none⟩ = some (.int .i64 p.lim.hh) ∧ W'.cell? ⟨B, 4, none⟩ = some (.int .i64 p.rate) ∧ W'.cell? ⟨B, 5, none⟩ = some (.int .i64 p.asked) := fun W hW => (k2 W).mono fun e W' ⟨h1, h2⟩ => ⟨h1, onto hW h2, HC.out W' (onto hW h2)⟩
        have K3 : ∀ W, Below wc.heap.size wc W → Calls Try.prog 37 #[.agg #[.int .i64 p.lim.sl, .int .i64 p.lim.sh, .int .i64 p.lim.hl, .int .i64 p.lim.hh], .int .i64 p.rate] W fun e W' => e = .returned (.bool b3) ∧ Below wc.heap.size wc W' ∧ W'.cell? ⟨B, 0, none⟩ = some (.int .i64 p.lim.sl) ∧ W'.cell? ⟨B, 1, none⟩ = some (.int .i64 p.lim.sh) ∧ W'.cell? ⟨B, 2, none⟩ = some (.int .i64 p.lim.hl) ∧ W'.cell? ⟨B, 3, none⟩ = some (.int .i64 p.lim.hh) ∧ W'.cell? ⟨B, 4, none⟩ = some (.int .i64 p.rate) ∧ W'.cell? ⟨B, 5, none⟩ = some (.int .i64 p.asked) := fun W hW => (k3 W).mono fun e W' ⟨h1, h2⟩ => ⟨h1, onto hW h2, HC.out W' (onto hW h2)⟩
        clear k1 k2 k3
        go_wp2_with (with_reducible (first | refine (K1 _ (by assumption)).mono ?_ | refine (K2 _ (by assumption)).mono ?_ | refine (K3 _ (by assumption)).mono ?_); rintro e w2 ⟨rfl, hb2, d0, d1, d2, d3, d4, d5⟩)
        all_goals go_meet
        all_goals (refine ⟨?_, HF.out _ (by assumption)⟩; rw [HR.out]; first | (simp_all; done) | skip)
      case rest =>
        obtain ⟨rfl, hbC, hPC⟩ := hcut
        clear hPB hbB HR k1 k2 k3
        obtain ⟨c0, c1, c2, c3, c4, c5, c6, c7, c8, c9⟩ := hPC.ten
        cases hrs : ratesOk p with
        | false =>
          rw [hrs] at HV
          go_wp2_with fail
          go_ret
          exact ⟨ret_bool HV.out.symm, by rw [hBB]; exact hbC⟩
        | true =>
          rw [hrs] at HV
          clear hrs
          have HV2 : Hid (pmOk p = stOk p) := by rw [Hid, HV.out]; rfl
          rw [HS.out] at HV2
          clear HV HS hPC
          obtain ⟨⟨sl, sh, hl, hh⟩, ra, ak, st, dr, lf, gv⟩ := p
          dsimp only at *
          go_wp2_with fail
          all_goals go_ret
          all_goals refine ⟨ret_bool ?_, by first | exact hbC | (rw [hBB]; exact hbC)⟩
          all_goals (rw [HV2.out]; simp_all; try first | rfl | (intro _; omega))
end Go.Proofs.Ytamghmnibfbgaaa
