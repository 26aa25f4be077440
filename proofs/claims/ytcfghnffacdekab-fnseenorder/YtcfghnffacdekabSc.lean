/-
  Who of two is seen ahead, by the program.
-/
import Derived.Test.YtcfghnffacdekabSb
import Derived.Deep.RegionHeld3
import Derived.Deep.DeepCutAuto
namespace Go.Proofs.Ytcfghnffacdekab
open Go.RowKit Va
set_option linter.unusedVariables false

theorem farS {b g : Nat} (h : b ≠ g) : (∀ (W : World) (o o2 : Nat) (u : Value), (W.setCell ⟨g, o, none⟩ u).cell? ⟨b, o2, none⟩ = W.cell? ⟨b, o2, none⟩) ∧ (∀ (W : World) (o o2 : Nat) (u : Value), (W.setCell ⟨g, o, none⟩ u).frozen? ⟨b, o2, none⟩ = W.frozen? ⟨b, o2, none⟩) :=
  ⟨fun W o o2 u => World.cell?_of_block (Below.heap_setCell _ _ _ _ h), fun W o o2 u => World.frozen?_of_block (Below.heap_setCell _ _ _ _ h)⟩

set_option maxRecDepth 20000 in
set_option maxHeartbeats 4000000 in
theorem sooner_any (ao : Option Addr) (n cap : Nat) (q : List Wt) (t : Int) (i k : Nat) (w : World) (h : Rw 3 csW w (.slice ao n cap) q) (hq : QOk q) (ht : 0 ≤ t ∧ t ≤ 10000000) (hi : i < q.length) (hk : k < q.length) :
    Calls Try.prog 64 #[.agg #[.slice ao n cap, .int .i64 t], .int .i64 i, .int .i64 k] w fun e w' => e = .returned (.bool (bfW q t i k)) ∧ Below w.heap.size w w' := by
  obtain rfl := h.len
  obtain ⟨x, hx⟩ := some_of q i hi
  obtain ⟨y, hy⟩ := some_of q k hk
  have HB := hidden (show bfW q t i k = Va.ahead x y t by unfold bfW; rw [wAt_nat hx, wAt_nat hy])
  have ox := (hq.2 i x hi hx).1
  have oy := (hq.2 k y hk hy).1
  have UX := hidden (fun W => iurgat_any x t ox ht W)
  have UY := hidden (fun W => iurgat_any y t oy ht W)
  have bx := nowU_bd (t := t) ox
  have by' := nowU_bd (t := t) oy
  have b0 : Below w.heap.size w (w.alloc (.cells #[.slice ao q.length cap, .int .i64 t] 97)) := (Below.refl _ _).alloc (Nat.le_refl _) _
  obtain ⟨g, off, rfl, hg, c0, c1, c2⟩ := wait_cells h hx
  obtain ⟨g', off', hgo, hg', e0, e1, e2⟩ := wait_cells h hy
  obtain ⟨rfl, rfl⟩ : g = g' ∧ off = off' := by simpa using hgo
  have hil : (i : Int) < (q.length : Int) := by omega
  have hkl : (k : Int) < (q.length : Int) := by omega
  have hgl : g ≠ w.heap.size := by omega
  unfold aW at UX UY
  clear hgo hg' hx hy h hq ox oy
  go_enter Try.func64, Try.ntmps64
  obtain ⟨o1, o2, o3⟩ := old_cells hg
  obtain ⟨fA, -⟩ := farS (show g ≠ w.heap.size + 1 by omega)
  obtain ⟨fB, -⟩ := farS (show g ≠ w.heap.size + 1 + 1 by omega)
  obtain ⟨fC, -⟩ := farS (show w.heap.size ≠ w.heap.size + 1 by omega)
  obtain ⟨fD, -⟩ := farS (show w.heap.size ≠ w.heap.size + 1 + 1 by omega)
  go_upto_region 1 with fail
  go_cut [7, 8] (fun p1 p2 wx => ∃ A B, p1 = .pointer (some ⟨A, 0, none⟩) ∧ p2 = .pointer (some ⟨B, 0, none⟩) ∧ (wx.cell? ⟨A, 0, none⟩ = some (.int .i64 x.person) ∧ wx.cell? ⟨A, 1, none⟩ = some (.int .i64 x.urg) ∧ wx.cell? ⟨A, 2, none⟩ = some (.int .i64 x.since)) ∧ (wx.cell? ⟨B, 0, none⟩ = some (.int .i64 y.person) ∧ wx.cell? ⟨B, 1, none⟩ = some (.int .i64 y.urg) ∧ wx.cell? ⟨B, 2, none⟩ = some (.int .i64 y.since)) ∧ wx.cell? ⟨w.heap.size, 1, none⟩ = some (.int .i64 t) ∧ Below w.heap.size w wx)
  case first =>
    go_region_held3 (fun w' => w'.cell? ⟨w.heap.size, 0, none⟩ = some (.slice (some ⟨g, off, none⟩) q.length cap) ∧ w'.cell? ⟨g, off + i * 3, none⟩ = some (.int .i64 x.person) ∧ w'.cell? ⟨g, off + i * 3 + 1, none⟩ = some (.int .i64 x.urg) ∧ w'.cell? ⟨g, off + i * 3 + 2, none⟩ = some (.int .i64 x.since) ∧ w'.cell? ⟨g, off + k * 3, none⟩ = some (.int .i64 y.person) ∧ w'.cell? ⟨g, off + k * 3 + 1, none⟩ = some (.int .i64 y.urg) ∧ w'.cell? ⟨g, off + k * 3 + 2, none⟩ = some (.int .i64 y.since)) (go_keep) (fail)
    all_goals go_wp2_with fail
    all_goals go_meet
    all_goals exact ⟨_, _, rfl, rfl, ⟨(by first | (simp; done) | (simp [go_sem]; done)), (by first | (simp; done) | (simp [go_sem]; done)), (by first | (simp; done) | (simp [go_sem]; done))⟩, ⟨(by first | (simp; done) | (simp [go_sem]; done)), (by first | (simp; done) | (simp [go_sem]; done)), (by first | (simp; done) | (simp [go_sem]; done))⟩, (by first | (simp; done) | (simp [go_sem]; done)), by repeat (first | exact Below.refl _ _ | assumption | refine st_drew ?_ | refine st_drewN ?_ _ | refine Below.setCell ?_ (by first | omega | (simp; done) | (simp; omega)) _ | refine Below.alloc ?_ (by first | omega | (simp; done) | (simp; omega)) _)⟩
  case rest =>
    obtain ⟨A, B, rfl, rfl, ⟨a0, a1, a2⟩, ⟨b0', b1, b2⟩, tt, hb⟩ := hcut
    have ltA := World.block_lt_of_cell? wc _ a0
    have ltB := World.block_lt_of_cell? wc _ b0'
    have lt0 := World.block_lt_of_cell? wc _ tt
    have b0 := b0'
    have HB2 := hidden (HB.out.trans (show Va.ahead x y t = (decide (nowU x t < nowU y t) || (decide (nowU x t = nowU y t) && (decide (x.since < y.since) || (decide (x.since = y.since) && decide (x.person < y.person))))) from rfl))
    generalize nowU x t = ux at *
    generalize nowU y t = uy at *
    clear c0 c1 c2 e0 e1 e2 o1 o2 o3 fA fB fC fD
    go_wp2_with fail
    go_region_held3 (fun w' => w'.cell? ⟨w.heap.size, 1, none⟩ = some (.int .i64 t) ∧ w'.cell? ⟨A, 0, none⟩ = some (.int .i64 x.person) ∧ w'.cell? ⟨A, 1, none⟩ = some (.int .i64 x.urg) ∧ w'.cell? ⟨A, 2, none⟩ = some (.int .i64 x.since) ∧ w'.cell? ⟨B, 0, none⟩ = some (.int .i64 y.person) ∧ w'.cell? ⟨B, 1, none⟩ = some (.int .i64 y.urg) ∧ w'.cell? ⟨B, 2, none⟩ = some (.int .i64 y.since)) (go_keep) ((go_at_call 111; (with_reducible (first | refine (UX.out _).mono ?_ | refine (UY.out _).mono ?_)); rintro e w1 ⟨rfl, hb1⟩; have bs := onto (show Below wc.heap.size wc _ from by repeat (first | exact Below.refl _ _ | assumption | refine st_drew ?_ | refine st_drewN ?_ _ | refine Below.setCell ?_ (by first | omega | (simp; done) | (simp; omega)) _ | refine Below.alloc ?_ (by first | omega | (simp; done) | (simp; omega)) _)) hb1; have tz := (bs.cell (p := ⟨w.heap.size, 1, none⟩) lt0).trans tt; have az0 := (bs.cell (p := ⟨A, 0, none⟩) ltA).trans a0; have bz0 := (bs.cell (p := ⟨B, 0, none⟩) ltB).trans b0; have az1 := (bs.cell (p := ⟨A, 1, none⟩) ltA).trans a1; have bz1 := (bs.cell (p := ⟨B, 1, none⟩) ltB).trans b1; have az2 := (bs.cell (p := ⟨A, 2, none⟩) ltA).trans a2; have bz2 := (bs.cell (p := ⟨B, 2, none⟩) ltB).trans b2))
    all_goals have hbz := onto hb bs
    all_goals rcases Int.lt_trichotomy ux uy with h1 | h1 | h1
    all_goals rcases Int.lt_trichotomy x.since y.since with h2 | h2 | h2
    all_goals (try have g1 : (ux == uy) = false := by simp; omega)
    all_goals (try have g2 : (x.since == y.since) = false := by simp; omega)
    all_goals go_wp2_with fail
    all_goals go_ret
    all_goals exact ⟨ret_bool (by rw [HB2.out, Bool.eq_iff_iff]; first | (simp only [Bool.or_eq_true, Bool.and_eq_true, decide_eq_true_eq, true_iff]; omega) | (simp only [Bool.or_eq_true, Bool.and_eq_true, decide_eq_true_eq]; omega)), by repeat (first | exact Below.refl _ _ | assumption | refine st_drew ?_ | refine st_drewN ?_ _ | refine Below.setCell ?_ (by first | omega | (simp; done) | (simp; omega)) _ | refine Below.alloc ?_ (by first | omega | (simp; done) | (simp; omega)) _)⟩
end Go.Proofs.Ytcfghnffacdekab
