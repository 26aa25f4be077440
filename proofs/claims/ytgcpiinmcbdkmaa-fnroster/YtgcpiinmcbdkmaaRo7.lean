/-
  The roster, as the program tells it.
-/
import Derived.Test.YtgcpiinmcbdkmaaRo6
import Derived.Test.YtgcpiinmcbdkmaaT4
import Derived.Deep.CutBlock
namespace Go.Proofs.Ytgcpiinmcbdkmaa
open Go.RowKit Go.WideShapes Va Lb Sy Ro Go.Maps
set_option linter.all false

set_option maxRecDepth 20000 in
set_option maxHeartbeats 4000000 in
theorem isroster_any (p d n r : Int) (w : World) : Calls Try.prog 58 #[.int .i64 p, .int .i64 d, .int .i64 n, .int .i64 r] w fun e w' => e = .returned (.bool (okB p d n r)) ∧ w' = w := by
  by_cases c0 : (1 : Int) ≤ p
  · skip
    by_cases c1 : p ≤ (30 : Int)
    · skip
      by_cases c2 : (0 : Int) ≤ d
      · skip
        by_cases c3 : d ≤ (60 : Int)
        · skip
          by_cases c4 : (0 : Int) ≤ n
          · skip
            by_cases c5 : n ≤ p
            · skip
              by_cases c6 : (1 : Int) ≤ r
              · skip
                by_cases c7 : r ≤ (10 : Int)
                · skip
                  have e : okB p d n r = true := by simp [okB, c0, c1, c2, c3, c4, c5, c6, c7]
                  rw [e]
                  go_enter Try.func58, Try.ntmps58
                  go_wp2_with fail
                  go_ret
                  exact ⟨rfl, rfl⟩
                · have e : okB p d n r = false := by
                    simp only [okB, Bool.and_eq_false_iff, decide_eq_false_iff_not]; omega
                  rw [e]
                  clear e
                  go_enter Try.func58, Try.ntmps58
                  go_wp2_with fail
                  go_ret
                  exact ⟨rfl, rfl⟩
              · have e : okB p d n r = false := by
                  simp only [okB, Bool.and_eq_false_iff, decide_eq_false_iff_not]; omega
                rw [e]
                clear e
                go_enter Try.func58, Try.ntmps58
                go_wp2_with fail
                go_ret
                exact ⟨rfl, rfl⟩
            · have e : okB p d n r = false := by
                simp only [okB, Bool.and_eq_false_iff, decide_eq_false_iff_not]; omega
              rw [e]
              clear e
              go_enter Try.func58, Try.ntmps58
              go_wp2_with fail
              go_ret
              exact ⟨rfl, rfl⟩
          · have e : okB p d n r = false := by
              simp only [okB, Bool.and_eq_false_iff, decide_eq_false_iff_not]; omega
            rw [e]
            clear e
            go_enter Try.func58, Try.ntmps58
            go_wp2_with fail
            go_ret
            exact ⟨rfl, rfl⟩
        · have e : okB p d n r = false := by
            simp only [okB, Bool.and_eq_false_iff, decide_eq_false_iff_not]; omega
          rw [e]
          clear e
          go_enter Try.func58, Try.ntmps58
          go_wp2_with fail
          go_ret
          exact ⟨rfl, rfl⟩
      · have e : okB p d n r = false := by
          simp only [okB, Bool.and_eq_false_iff, decide_eq_false_iff_not]; omega
        rw [e]
        clear e
        go_enter Try.func58, Try.ntmps58
        go_wp2_with fail
        go_ret
        exact ⟨rfl, rfl⟩
    · have e : okB p d n r = false := by
        simp only [okB, Bool.and_eq_false_iff, decide_eq_false_iff_not]; omega
      rw [e]
      clear e
      go_enter Try.func58, Try.ntmps58
      go_wp2_with fail
      go_ret
      exact ⟨rfl, rfl⟩
  · have e : okB p d n r = false := by
      simp only [okB, Bool.and_eq_false_iff, decide_eq_false_iff_not]; omega
    rw [e]
    clear e
    go_enter Try.func58, Try.ntmps58
    go_wp2_with fail
    go_ret
    exact ⟨rfl, rfl⟩

set_option maxRecDepth 20000 in
set_option maxHeartbeats 4000000 in
theorem behind_any (x y : Int) (b : Bool) (w : World) (hx : 0 ≤ x ∧ x ≤ 1000) (hy : 0 ≤ y ∧ y ≤ 1000) :
    Calls Try.prog 60 #[.agg #[.int .i64 x, .int .i64 y], .bool b] w fun e w' => e = .returned (.agg #[.int .i64 (behind (x, y) b).1, .int .i64 (behind (x, y) b).2]) ∧ Below w.heap.size w w' := by
  obtain ⟨x1, x2⟩ := hx
  obtain ⟨y1, y2⟩ := hy
  have hwx : IntKind.i64.wrap (x + 1) = x + 1 := by rw [IntKind.wrap_i64]; omega
  have hwy : IntKind.i64.wrap (y + 1) = y + 1 := by rw [IntKind.wrap_i64]; omega
  go_enter Try.func60, Try.ntmps60
  go_upto_region 1 with fail
  have hP := (PB.new w #[.int .i64 x, .int .i64 y] 95).alloc (.cells #[.int .i64 0, .int .i64 0] 95)
  have hZ := PB.new (w.alloc (.cells #[.int .i64 x, .int .i64 y] 95)) #[.int .i64 0, .int .i64 0] 95
  have hb0 : Below w.heap.size w ((w.alloc (.cells #[.int .i64 x, .int .i64 y] 95)).alloc (.cells #[.int .i64 0, .int .i64 0] 95)) := ((Below.refl _ _).alloc (Nat.le_refl _) _).alloc (by simp) _
  simp only [World.size_alloc] at hP hZ
  generalize (w.alloc (.cells #[.int .i64 x, .int .i64 y] 95)).alloc (.cells #[.int .i64 0, .int .i64 0] 95) = wA at *
  have hle : w.heap.size ≤ w.heap.size + 1 := by omega
  generalize w.heap.size + 1 = B1 at *
  obtain ⟨c0, c1⟩ := hP.two
  obtain ⟨z0, z1⟩ := hZ.two
  have f0 := hZ.frozen 0
  have f1 := hZ.frozen 1
  have HZ := hidden hZ
  have HB := hidden hb0
  clear hP hZ hb0
  cases b with
  | false =>
    go_wp2_with fail
    try simp only [Exit.inBlock, Exit.then]
    exact bodyPost_ret (v := .agg #[.int .i64 x, .int .i64 0]) (results_cell_row Try.results60 _ _ B1 95 _ (0, 0) _ rfl ((HZ.out.put 0 (.int .i64 x) rfl).put 1 (.int .i64 0) rfl) Try.underlying95 rfl (by kernel_rfl)) rfl ⟨rfl, (HB.out.setCell (p := ⟨B1, 0, none⟩) hle _).setCell (p := ⟨B1, 1, none⟩) hle _⟩
  | true =>
    go_wp2_with fail
    try simp only [Exit.inBlock, Exit.then]
    exact bodyPost_ret (v := .agg #[.int .i64 (x + 1), .int .i64 (y + 1)]) (results_cell_row Try.results60 _ _ B1 95 _ (0, 0) _ rfl ((HZ.out.put 0 (.int .i64 (x + 1)) rfl).put 1 (.int .i64 (y + 1)) rfl) Try.underlying95 rfl (by kernel_rfl)) rfl ⟨rfl, (HB.out.setCell (p := ⟨B1, 0, none⟩) hle _).setCell (p := ⟨B1, 1, none⟩) hle _⟩
end Go.Proofs.Ytgcpiinmcbdkmaa
