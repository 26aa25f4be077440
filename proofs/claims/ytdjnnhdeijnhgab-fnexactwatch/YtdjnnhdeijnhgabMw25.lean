/-
  Watch, the program's: its pieces that run alone.
-/
import Derived.Test.YtdjnnhdeijnhgabMw24
import Derived.Test.YtdjnnhdeijnhgabMw21
import Derived.Test.YtdjnnhdeijnhgabMw15
namespace Go.Proofs.Ytdjnnhdeijnhgab.Rn
open Go Go.Conc Va Go.RowKit
set_option linter.all false
set_option maxRecDepth 20000

theorem codeW0 : CodeP Try.prog (· ∈ AQ) (.region 0 rW0 false) := codeB_ok (by decide +kernel)
theorem codeW1 : CodeP Try.prog (· ∈ AQ) (.region 1 rW1 false) := codeB_ok (by decide +kernel)
theorem codeW2 : CodeP Try.prog (· ∈ AQ) (.region 2 rW2 false) := codeB_ok (by decide +kernel)
theorem codeW4 : CodeP Try.prog (· ∈ AQ) (.region 4 rW4 false) := codeB_ok (by decide +kernel)
/-- The alarm in its box, the box for what is told, an empty row. -/
structure BoxW (a : Al) (w w' : World) : Prop where
  size : w'.heap.size = w.heap.size + 3
  old : ∀ b, b < w.heap.size → w'.heap[b]? = w.heap[b]?
  al : w'.heap[w.heap.size]? = some (.cells #[.int .i64 a.hi, .int .i64 a.lo, .int .i64 a.sl, .int .i64 a.dl] 28 (0, 0))
  row : w'.heap[w.heap.size + 1]? = some (.cells #[] 2 (0, 0))
  box : w'.heap[w.heap.size + 2]? = some (.cells #[.slice (some ⟨w.heap.size + 1, 0, none⟩) 0 0] 26 (0, 0))
/-- Regions 0 and 1. -/
theorem boxW0 (a : Al) (u : Value) (w : World) :
    (Code.region 0 rW0 false).wp Try.prog (fun ex a' w' => ex = .normal ∧ (a' = ⟨#[aA a, u, .pointer (some ⟨w.heap.size, 0, none⟩), undef, .slice none 0 0, undef, undef, undef, undef, undef, undef, undef, undef, undef, undef, undef, undef, undef, undef, undef, undef, undef], []⟩ ∧ w' = w.alloc (.cells #[.int .i64 a.hi, .int .i64 a.lo, .int .i64 a.sl, .int .i64 a.dl] 28))) (a0W (aA a) u) w := by
  have e2 : (Code.region 0 rW0 false) = cA ((Try.f10.body).getD .skip) := rfl
  rw [e2]
  unfold Try.f10 a0W aA
  dsimp only [cA, cB, Option.getD_some]
  go_wp2_with fail
theorem boxW1 (a : Al) (u p : Value) (w : World) :
    (Code.region 1 rW1 false).wp Try.prog (fun ex a' w' => ex = .normal ∧ (a' = ⟨#[aA a, u, p, undef, .slice none 0 0, .pointer (some ⟨w.heap.size + 1, 0, none⟩), undef, .slice (some ⟨w.heap.size, 0, none⟩) 0 0, undef, undef, undef, undef, undef, undef, undef, undef, undef, undef, undef, undef, undef, undef], []⟩ ∧ w' = (w.alloc (.cells #[] 2)).alloc (.cells #[.slice (some ⟨w.heap.size, 0, none⟩) 0 0] 26))) ⟨#[aA a, u, p, undef, .slice none 0 0, undef, undef, undef, undef, undef, undef, undef, undef, undef, undef, undef, undef, undef, undef, undef, undef, undef], []⟩ w := by
  have e2 : (Code.region 1 rW1 false) = cA (cB ((Try.f10.body).getD .skip)) := rfl
  rw [e2]
  unfold Try.f10 aA
  dsimp only [cA, cB, Option.getD_some]
  go_wp2_with fail
theorem boxW_all (a : Al) (w w1 : World) (h1 : w1.heap = (w.alloc (.cells #[.int .i64 a.hi, .int .i64 a.lo, .int .i64 a.sl, .int .i64 a.dl] 28)).heap) : BoxW a w ((w1.alloc (.cells #[] 2)).alloc (.cells #[.slice (some ⟨w1.heap.size, 0, none⟩) 0 0] 26)) := by
  have s1 : w1.heap.size = w.heap.size + 1 := by rw [h1]; simp
  refine ⟨by simp [s1], fun b hb => ?_, ?_, ?_, ?_⟩
  · rw [heap_alloc_old _ _ (by simp; omega), heap_alloc_old _ _ (by omega), h1]
    exact heap_alloc_old _ _ hb
  · rw [heap_alloc_old _ _ (by simp; omega), heap_alloc_old _ _ (by omega), h1]
    exact heap_alloc_new w _
  · rw [heap_alloc_old _ _ (by simp; omega), ← s1]
    exact heap_alloc_new w1 _
  · have := heap_alloc_new (w1.alloc (.cells #[] 2)) (.cells #[.slice (some ⟨w1.heap.size, 0, none⟩) 0 0] 26)
    simp only [World.size_alloc, s1] at this
    simpa [s1] using this
end Go.Proofs.Ytdjnnhdeijnhgab.Rn

/-
  Watch, the program's: what it asks first; the box of how things are.
-/
namespace Go.Proofs.Ytdjnnhdeijnhgab.Rn
open Go Go.Conc Va Go.RowKit
set_option linter.all false

theorem rd_al {w : World} {K : Nat} {hi lo sl dl : Int} (h : w.heap[K]? = some (.cells #[.int .i64 hi, .int .i64 lo, .int .i64 sl, .int .i64 dl] 28 (0, 0))) : w.cell? ⟨K, 0, none⟩ = some (.int .i64 hi) ∧ w.cell? ⟨K, 1, none⟩ = some (.int .i64 lo) ∧ w.cell? ⟨K, 2, none⟩ = some (.int .i64 sl) ∧ w.cell? ⟨K, 3, none⟩ = some (.int .i64 dl) := (at_four h).1
set_option maxRecDepth 20000 in
set_option maxHeartbeats 2000000 in
theorem boxW2 (a : Al) (l : List Tk) (u sl0 : Value) (K0 Kt : Nat) (w : World) (hA : w.heap[K0]? = some (.cells #[.int .i64 a.hi, .int .i64 a.lo, .int .i64 a.sl, .int .i64 a.dl] 28 (0, 0))) (hrow : VRw 3 cvTk w u l) (hn : l.length ≤ 1048576) :
    (Code.region 2 rW2 false).wp Try.prog (fun ex a' w' => ex = .normal ∧ (LA 22 a' [(1, u), (2, .pointer (some ⟨K0, 0, none⟩)), (5, .pointer (some ⟨Kt, 0, none⟩)), (15, .bool (!(alOk a && tksB l)))] ∧ HB w.heap.size w w')) ⟨#[aA a, u, .pointer (some ⟨K0, 0, none⟩), undef, .slice none 0 0, .pointer (some ⟨Kt, 0, none⟩), undef, sl0, undef, undef, undef, undef, undef, undef, undef, undef, undef, undef, undef, undef, undef, undef], []⟩ w := by
  have e2 : (Code.region 2 rW2 false) = cA (cA (cB (cB ((Try.f10.body).getD .skip)))) := rfl
  rw [e2]
  have hAl := fun W => iaok_any a W
  have HT := hidden (fun W (hW : Below w.heap.size w W) => iticks_any u l W (_root_.Go.Proofs.Ytdjnnhdeijnhgab.VRw.below hrow hW) hn)
  obtain ⟨hi, lo, sl, dl⟩ := a
  unfold aA at *
  dsimp only at *
  obtain ⟨k0, k1, k2, k3⟩ := rd_al hA
  clear hA
  generalize alOk ⟨hi, lo, sl, dl⟩ = b1 at *
  generalize tksB l = b2 at *
  unfold Try.f10
  dsimp only [cA, cB, Option.getD_some]
  cases b1
  · go_wp2_with (go_at_call 24; refine (hAl _).mono ?_; rintro e w1 ⟨rfl, hb1⟩)
    exact ⟨LA.of rfl rfl (fun p hp => by simp only [List.mem_cons, List.not_mem_nil, or_false] at hp; rcases hp with rfl | rfl | rfl | rfl <;> rfl), ⟨hb1.size, hb1.block⟩⟩
  · go_wp2_with (first | (go_at_call 24; refine (hAl _).mono ?_; rintro e w1 ⟨rfl, hb1⟩) | (go_at_call 25; refine (HT.out _ hb1).mono ?_; rintro e w2 ⟨rfl, hb2⟩))
    exact ⟨LA.of rfl rfl (fun p hp => by simp only [List.mem_cons, List.not_mem_nil, or_false] at hp; rcases hp with rfl | rfl | rfl | rfl <;> rfl), (HB.mk hb1.size hb1.block).trans ((HB.mk hb2.size hb2.block).mono hb1.size)⟩
theorem arr_cons {n : Nat} {l : List Value} (h : l.length = n + 1) : ∃ x l2, l = x :: l2 ∧ l2.length = n := by
  cases l with
  | nil => cases h
  | cons x l2 => exact ⟨x, l2, rfl, by simpa using h⟩
theorem arr22 {t : Array Value} (h : t.size = 22) : ∃ x0 x1 x2 x3 x4 x5 x6 x7 x8 x9 x10 x11 x12 x13 x14 x15 x16 x17 x18 x19 x20 x21, t = #[x0, x1, x2, x3, x4, x5, x6, x7, x8, x9, x10, x11, x12, x13, x14, x15, x16, x17, x18, x19, x20, x21] := by
  obtain ⟨l⟩ := t
  have h0 : l.length = 22 := h
  obtain ⟨x0, l0, rfl, h1⟩ := arr_cons h0
  obtain ⟨x1, l1, rfl, h2⟩ := arr_cons h1
  obtain ⟨x2, l2, rfl, h3⟩ := arr_cons h2
  obtain ⟨x3, l3, rfl, h4⟩ := arr_cons h3
  obtain ⟨x4, l4, rfl, h5⟩ := arr_cons h4
  obtain ⟨x5, l5, rfl, h6⟩ := arr_cons h5
  obtain ⟨x6, l6, rfl, h7⟩ := arr_cons h6
  obtain ⟨x7, l7, rfl, h8⟩ := arr_cons h7
  obtain ⟨x8, l8, rfl, h9⟩ := arr_cons h8
  obtain ⟨x9, l9, rfl, h10⟩ := arr_cons h9
  obtain ⟨x10, l10, rfl, h11⟩ := arr_cons h10
  obtain ⟨x11, l11, rfl, h12⟩ := arr_cons h11
  obtain ⟨x12, l12, rfl, h13⟩ := arr_cons h12
  obtain ⟨x13, l13, rfl, h14⟩ := arr_cons h13
  obtain ⟨x14, l14, rfl, h15⟩ := arr_cons h14
  obtain ⟨x15, l15, rfl, h16⟩ := arr_cons h15
  obtain ⟨x16, l16, rfl, h17⟩ := arr_cons h16
  obtain ⟨x17, l17, rfl, h18⟩ := arr_cons h17
  obtain ⟨x18, l18, rfl, h19⟩ := arr_cons h18
  obtain ⟨x19, l19, rfl, h20⟩ := arr_cons h19
  obtain ⟨x20, l20, rfl, h21⟩ := arr_cons h20
  obtain ⟨x21, l21, rfl, h22⟩ := arr_cons h21
  obtain rfl : l21 = [] := List.eq_nil_of_length_eq_zero h22
  exact ⟨x0, x1, x2, x3, x4, x5, x6, x7, x8, x9, x10, x11, x12, x13, x14, x15, x16, x17, x18, x19, x20, x21, rfl⟩
/-- The box of how things are. -/
theorem boxW4 {a : Act} {u p q : Value} (ha : LA 22 a [(1, u), (2, p), (5, q)]) (w : World) :
    (Code.region 4 rW4 false).wp Try.prog (fun ex a' w' => ex = .normal ∧ (LA 22 a' [(1, u), (2, p), (5, q), (6, .pointer (some ⟨w.heap.size, 0, none⟩))] ∧ w' = w.alloc (.cells #[.int .i64 0, .int .i64 0, .bool false, .bool false] 46))) a w := by
  obtain ⟨tm, df⟩ := a
  obtain rfl : df = [] := ha.defers
  obtain ⟨x0, x1, x2, x3, x4, x5, x6, x7, x8, x9, x10, x11, x12, x13, x14, x15, x16, x17, x18, x19, x20, x21, rfl⟩ := arr22 ha.size
  obtain rfl : x1 = u := ha.get 1 _ rfl
  obtain rfl : x2 = p := ha.get 2 _ rfl
  obtain rfl : x5 = q := ha.get 5 _ rfl
  clear ha
  have e2 : (Code.region 4 rW4 false) = cA (cB (cB (cB ((Try.f10.body).getD .skip)))) := rfl
  rw [e2]
  unfold Try.f10
  dsimp only [cA, cB, Option.getD_some]
  go_wp2_with fail
  exact LA.of rfl rfl (fun p hp => by simp only [List.mem_cons, List.not_mem_nil, or_false] at hp; rcases hp with rfl | rfl | rfl | rfl <;> rfl)
end Go.Proofs.Ytdjnnhdeijnhgab.Rn

/-
  Watch, the program's: beside leavers, whole.
-/
namespace Go.Proofs.Ytdjnnhdeijnhgab.Rn
open Go Go.Conc Va Go.RowKit
set_option linter.all false
set_option maxRecDepth 20000

theorem cloW {p q r : Value} : Clo 27 #[p, q, r] := by
  have hf : Try.prog.funcs[27]? = some Try.f27 := Try.func27
  have hn : ¬ Try.f27.name = "runtime.NumGoroutine" := by
    rw [show Try.f27.name = "loop.example/g00060/impl.Watch$1" from rfl]
    decide
  have hb : Try.f27.body.isSome = true := by rfl
  obtain ⟨c, hc⟩ := Option.isSome_iff_exists.1 hb
  exact ⟨fun x w => by simp [invoke, callFunc, hf, hc, hn, go_sem], fun x w => by simp [invoke, callFunc, hf, hc, hn, go_sem]⟩
section
variable {b : Frame} {a : Act} {ops : Array Oper} {i d n : Nat} {rest : List Nat} {kk : List Item} {cs : List Frame} {wl : World} {Q : Goroutine → World → Prop} {vs : List (Nat × Value)}
/-- A slice is taken out of its box. -/
theorem K.loadI {t : Nat} {g : Option (Nat × Bool)} {K : Nat} {sv : Value} (ho : ∃ o, ops[i]? = some o ∧ o.dst = some d ∧ o.guard = g ∧ o.op = .load 26 (.tmp t)) (hb : b.kind ≠ .early) (h : LA n a vs) (hd : d < n) (hw : ∀ o : Oper, o.guard = g → Region.wanted o (yielded ops a.tmps) = true) (hx : vs.lookup t = some (.pointer (some ⟨K, 0, none⟩))) (hK : wl.cell? ⟨K, 0, none⟩ = some sv) (hc : IsC wl K)
    (k : ∀ a', LA n a' ((d, sv) :: vs) → Kp Try.prog (G (b.at a' (.inRegion ops rest :: kk)) cs) wl Q) : Kp Try.prog (G (b.at a (.inRegion ops (i :: rest) :: kk)) cs) wl Q := by
  obtain ⟨o, h1, h2, h3, h4⟩ := ho
  have hy := h.get t _ hx
  simp only [Act.eval, Array.getD_eq_getD_getElem?] at hy
  have hu := Try.underlying26
  refine Kp.own (fr' := b.at (a.put (some d) sv) (.inRegion ops rest :: kk)) (cs' := cs) (fun w hcell => ?_) (k _ (h.put hd sv))
  have c0 := hcell _ _ hK
  have hr : (execOp a.eval o).run Try.prog w = .ok (.value sv) w := by
    unfold execOp
    simp only [h4]
    simp [go_sem, hy, c0, hu]
  have he : (execOp a.eval o).events Try.prog w #[] = #[⟨.cell ⟨K, 0, none⟩, false, false⟩] := by
    unfold execOp
    simp only [h4]
    simp [go_sem, hy, c0, hu]
  refine ⟨listed Try.prog b.fn a o w, ?_, fun e he2 => ?_⟩
  · rw [stepG_value h1 (hw o h3) hb hr, h2]
  · have h5 := seen_mem he2
    rw [he] at h5
    have h6 : e = ⟨.cell ⟨K, 0, none⟩, false, false⟩ := by simpa using h5
    exact ⟨_, h6, hc⟩
end
/-- Numbers in a block of one's own. -/
def OwnI (w : World) (base : Nat) (v : Value) (l : List Int) : Prop := w.ownsRow base 2 1 v l.length (ints l)
theorem watch_yes {a : Al} {l : List Tk} (h : (alOk a && tksB l) = true) : watch a l = toldK a l l.length := by unfold watch; rw [if_pos h]
theorem watch_no {a : Al} {l : List Tk} (h : (alOk a && tksB l) = false) : watch a l = [] := by unfold watch; rw [h]; rfl
set_option maxHeartbeats 1000000 in
theorem iwatch_k {a : Al} {l : List Tk} {u : Value} {wl : World} (h : VRw 3 cvTk wl u l) (hn : l.length ≤ 1048576) {c : Frame} {cc : List Frame} {Q : Goroutine → World → Prop}
    (k : ∀ v' wE, OwnI wE wl.heap.size v' (watch a l) → HB wl.heap.size wl wE → Kp Try.prog (G (c.finish v') cc) wE Q) :
    Kp Try.prog (G (Frame.enter Try.prog 10 #[aA a, u] .normal) (c :: cc)) wl Q := by
  have hbe : bW.kind ≠ .early := by unfold bW; simp
  have hbn : bW.kind = .normal := rfl
  have hf : Try.prog.funcs[bW.fn]? = some Try.f10 := Try.func10
  have hres : Try.f10.results = #[.tmp 4] := rfl
  obtain ⟨ao, cap, rfl⟩ := h.form
  rw [enterW, bodyW_eq]
  refine Kp.ctl (fun w => stepG_seq) ?_
  refine K.code prgQ closedQ fixQ codeW0 rfl hbn (Post := fun a' w' => a' = ⟨#[aA a, .slice ao l.length cap, .pointer (some ⟨wl.heap.size, 0, none⟩), undef, .slice none 0 0, undef, undef, undef, undef, undef, undef, undef, undef, undef, undef, undef, undef, undef, undef, undef, undef, undef], []⟩ ∧ w'.heap = (wl.alloc (.cells #[.int .i64 a.hi, .int .i64 a.lo, .int .i64 a.sl, .int .i64 a.dl] 28)).heap) (fun T => wp_mono (boxW0 a _ _) fun ex a' w' ⟨q, q1, q2⟩ => ⟨q, q1, by rw [q2]; rfl⟩) fun a1 w1 ⟨h1, hw1⟩ => ?_
  subst h1
  have s1 : w1.heap.size = wl.heap.size + 1 := by rw [hw1]; simp
  refine Kp.ctl (fun w => stepG_seq) ?_
  refine K.code prgQ closedQ fixQ codeW1 rfl hbn (Post := fun a' w' => a' = ⟨#[aA a, .slice ao l.length cap, .pointer (some ⟨wl.heap.size, 0, none⟩), undef, .slice none 0 0, .pointer (some ⟨wl.heap.size + 2, 0, none⟩), undef, .slice (some ⟨wl.heap.size + 1, 0, none⟩) 0 0, undef, undef, undef, undef, undef, undef, undef, undef, undef, undef, undef, undef, undef, undef], []⟩ ∧ BoxW a wl w') (fun T => wp_mono (boxW1 a _ _ _) fun ex a' w' ⟨q, q1, q2⟩ => ⟨q, by rw [q1]; simp [s1], by
    have := boxW_all a wl w1 hw1
    rw [q2]
    exact ⟨this.size, this.old, this.al, this.row, this.box⟩⟩) fun a2 w2 ⟨h2, hB⟩ => ?_
  subst h2
  have s2 : w2.heap.size = wl.heap.size + 3 := hB.size
  have hH2 : HB wl.heap.size wl w2 := ⟨by omega, fun b hb => hB.old b hb⟩
  have hrow2 : VRw 3 cvTk w2 (.slice ao l.length cap) l := VRw.below (w := { wl with tape := w2.tape, os := w2.os, output := w2.output }) h hH2.below
  refine Kp.ctl (fun w => stepG_seq) ?_
  refine Kp.ctl (fun w => stepG_seq) ?_
  refine K.code prgQ closedQ fixQ codeW2 rfl hbn (Post := fun a' w' => LA 22 a' [(1, .slice ao l.length cap), (2, .pointer (some ⟨wl.heap.size, 0, none⟩)), (5, .pointer (some ⟨wl.heap.size + 2, 0, none⟩)), (15, .bool (!(alOk a && tksB l)))] ∧ HB w2.heap.size w2 w') (fun T => wp_mono (boxW2 a l _ _ _ _ { w2 with tape := T, drawn := 0 } hB.al hrow2 hn) fun ex a' w' ⟨q, q1, q2⟩ => ⟨q, q1, ⟨q2.size, q2.block⟩⟩) fun a3 w3 ⟨h3, hH3⟩ => ?_
  have hsz3 := hH3.size
  have hA3 := (hH3.block wl.heap.size (by omega)).trans hB.al
  have hR3 := (hH3.block (wl.heap.size + 1) (by omega)).trans hB.row
  have hK3 := (hH3.block (wl.heap.size + 2) (by omega)).trans hB.box
  refine Kp.ctl (fun w => stepG_cond (t := !(alOk a && tksB l)) (h3.get 15 _ rfl)) ?_
  cases ht : (alOk a && tksB l) with
  | false =>
    simp only [Bool.not_false, if_true]
    refine Kp.ctl (fun w => stepG_seq) ?_
    refine Kp.ctl (fun w => stepG_region) ?_
    rw [szW3]
    refine K.loadI oW3_0 hbe h3 (by decide) wanted0 rfl (by unfold World.cell?; simp [hK3]; rfl) ⟨_, _, _, hK3⟩ fun a5 h5 => ?_
    refine K.assign oW3_1 hbe h5 (by decide) wanted0 rfl fun a6 h6 => ?_
    refine Kp.ctl (fun w => stepG_region_end) ?_
    refine K.ret hbn h6 hf hres rfl ?_
    refine k _ w3 ?_ (hH2.trans (hH3.mono (by omega)))
    rw [watch_no ht]
    exact ⟨by simp [ints], .inr ⟨wl.heap.size + 1, 0, #[], rfl, by omega, hR3, Nat.le_refl _, Nat.zero_le _, by simp, by simp [ints]⟩⟩
  | true =>
    simp only [Bool.not_true]
    rw [if_neg (by decide)]
    obtain ⟨hal, htk⟩ : alOk a = true ∧ tksB l = true := by simpa using ht
    obtain ⟨hl2, hto⟩ := (tksB_iff l).1 htk
    refine Kp.ctl (fun w => stepG_skip) ?_
    refine Kp.ctl (fun w => stepG_seq) ?_
    refine K.code prgQ closedQ fixQ codeW4 h3.defers hbn (Post := fun a' w' => LA 22 a' [(1, .slice ao l.length cap), (2, .pointer (some ⟨wl.heap.size, 0, none⟩)), (5, .pointer (some ⟨wl.heap.size + 2, 0, none⟩)), (6, .pointer (some ⟨w3.heap.size, 0, none⟩))] ∧ w'.heap = (w3.alloc (.cells #[.int .i64 0, .int .i64 0, .bool false, .bool false] 46)).heap) (fun T => wp_mono (boxW4 (h3.weak (fun p hp => by simp only [List.mem_cons, List.not_mem_nil, or_false] at hp; rcases hp with rfl | rfl | rfl <;> rfl)) _) fun ex a' w' ⟨q, q1, q2⟩ => ⟨q, q1, by rw [q2]; rfl⟩) fun a4 w4 ⟨h4, hw4⟩ => ?_
    have s4 : w4.heap.size = w3.heap.size + 1 := by rw [hw4]; simp
    have hold4 : ∀ b, b < w3.heap.size → w4.heap[b]? = w3.heap[b]? := fun b hb => by rw [hw4]; exact heap_alloc_old _ _ hb
    have hN4 : w4.heap[w3.heap.size]? = some (.cells #[.int .i64 0, .int .i64 0, .bool false, .bool false] 46 (0, 0)) := by rw [hw4]; exact heap_alloc_new _ _
    have hA4 := (hold4 _ (by omega)).trans hA3
    have hR4 := (hold4 _ (by omega)).trans hR3
    have hK4 := (hold4 _ (by omega)).trans hK3
    refine Kp.ctl (fun w => stepG_seq) ?_
    refine Kp.ctl (fun w => stepG_region) ?_
    rw [szW5]
    refine K.move oW5_0 hbe h4 (by decide) wanted0 rfl fun a5 h5 => ?_
    refine K.pure oW5_1 hbe h5 (by decide) wanted0 (.func (.func 27) #[] #[.pointer (some ⟨w3.heap.size, 0, none⟩), .pointer (some ⟨wl.heap.size, 0, none⟩), .pointer (some ⟨wl.heap.size + 2, 0, none⟩)]) (fun o ho w => ?_) fun a6 h6 => ?_
    · have e1 := h5.get 6 _ rfl
      have e2 := h5.get 2 _ rfl
      have e3 := h5.get 5 _ rfl
      simp only [Act.eval, Array.getD_eq_getD_getElem?] at e1 e2 e3
      constructor
      · unfold execOp
        simp only [ho]
        simp [go_sem, e1, e2, e3]
      · unfold execOp
        simp only [ho]
        simp [go_sem, e1, e2, e3]
    refine K.enter oW5_2 hbe wanted0 ent_forEach (h6.args2 rfl rfl) ?_
    refine each_any (A := (· ∈ AQ)) prgQ closedQ fixQ (fc := 27) (hA rfl) cloW (l := l) (ao := ao) (cap := cap) hn (J := JWt wl.heap.size w3.heap.size wl.heap.size (wl.heap.size + 2) a l) (D := fun b => b = wl.heap.size ∨ b = wl.heap.size + 1 ∨ b = wl.heap.size + 2 ∨ b = w3.heap.size) (fun k => tells_JWt (by omega) (by omega) (by omega) (by omega)) (fun u hu => ?_) (fun b hb => ?_) (fun w' hs hD => ?_) (fun i x hx => ?_) (fun i x w hx hJ hle => watch1_any hal hl2 hx (hto i x (List.getElem?_eq_some_iff.1 hx).1 hx) w hJ) fun wE hJ hold hle => ?_
    · simp only [List.mem_toArray, List.mem_cons, List.not_mem_nil, or_false] at hu
      rcases hu with rfl | rfl | rfl <;> exact low_ptr (by omega)
    · rcases hb with rfl | rfl | rfl | rfl
      · refine ⟨_, _, _, hA4, fun u hu => ?_⟩
        simp only [List.mem_toArray, List.mem_cons, List.not_mem_nil, or_false] at hu
        rcases hu with rfl | rfl | rfl | rfl <;> exact fun f g _ => by simp
      · exact ⟨_, _, _, hR4, fun u hu => by simp at hu⟩
      · refine ⟨_, _, _, hK4, fun u hu => ?_⟩
        simp only [List.mem_toArray, List.mem_singleton] at hu
        subst hu
        intro f g hfg
        rw [rV_s, rV_s]
        unfold rA
        simp only
        rw [hfg _ (by omega)]
      · refine ⟨_, _, _, hN4, fun u hu => ?_⟩
        simp only [List.mem_toArray, List.mem_cons, List.not_mem_nil, or_false] at hu
        rcases hu with rfl | rfl | rfl | rfl <;> exact fun f g _ => by simp
    · refine ⟨(hD _ (.inr (.inr (.inr rfl)))).trans hN4, (hD _ (.inl rfl)).trans hA4, by omega, _, (hD _ (.inr (.inr (.inl rfl)))).trans hK4, ⟨?_, fun g cur t fz hg hc => ?_⟩⟩
      · exact ⟨by simp [ints, toldK], .inr ⟨wl.heap.size + 1, 0, #[], by simp [toldK], by omega, (hD _ (.inr (.inl rfl))).trans hR4, by simp [toldK], Nat.zero_le _, by simp, by simp [ints, toldK]⟩⟩
      · obtain rfl : wl.heap.size + 1 = g := by simpa [Value.ownBlock] using hg
        rw [(hD _ (.inr (.inl rfl))).trans hR4] at hc
        have e := Option.some.inj hc
        injection e with e1
        subst e1
        exact fun u hu => by simp at hu
    · obtain ⟨g, off, hg0, hg, hcs⟩ := h.at hx
      refine ⟨g, off, hg0, by omega, fun j u hu => ?_⟩
      have hcell : ∀ q, w4.cell? ⟨g, q, none⟩ = wl.cell? ⟨g, q, none⟩ := fun q => by
        unfold World.cell?
        simp only
        rw [hold4 g (by omega), hH3.block g (by omega), hB.old g hg]
      rw [hcell]
      match j, hu with
      | 0, hu => cases hu; exact hcs 0 (by omega)
      | 1, hu => cases hu; exact hcs 1 (by omega)
      | 2, hu => cases hu; exact hcs 2 (by omega)
    obtain ⟨-, -, -, sv, q4, q5⟩ := hJ
    refine K.back oW5_2 h6 (by decide) _ fun a7 h7 => ?_
    refine Kp.ctl (fun w => stepG_region_end) ?_
    refine Kp.ctl (fun w => stepG_seq) ?_
    refine Kp.ctl (fun w => stepG_region) ?_
    rw [szW6]
    refine K.loadI oW6_0 hbe h7 (by decide) wanted0 rfl (by unfold World.cell?; simp [q4]; rfl) ⟨_, _, _, q4⟩ fun a8 h8 => ?_
    refine K.assign oW6_1 hbe h8 (by decide) wanted0 rfl fun a9 h9 => ?_
    refine Kp.ctl (fun w => stepG_region_end) ?_
    refine K.ret hbn h9 hf hres rfl ?_
    refine k sv wE ?_ ⟨by omega, fun b hb => ?_⟩
    · rw [watch_yes ht]
      exact q5.own
    · rw [hold b (by omega) (by rintro (q | q | q | q) <;> omega), hold4 b (by omega), hH3.block b (by omega), hB.old b hb]
end Go.Proofs.Ytdjnnhdeijnhgab.Rn
