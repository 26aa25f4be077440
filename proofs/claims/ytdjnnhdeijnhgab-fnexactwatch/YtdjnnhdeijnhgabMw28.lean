/-
  The law of Watch, walked by goroutine 0 beside leavers.
-/
import Derived.Test.YtdjnnhdeijnhgabMw26
import Derived.Test.YtdjnnhdeijnhgabMw27
namespace Go.Proofs.Ytdjnnhdeijnhgab.Rn
open Go Go.Conc Va Go.RowKit
set_option linter.all false
set_option maxRecDepth 20000

theorem entW_szTickS : Enters 6 := enters_of Try.func6 (by rfl) (by rw [show Try.f6.name = "loop.example/g00060/laws.szTickS" from rfl]; decide)
theorem entW_toTickS : Enters 9 := enters_of Try.func9 (by rfl) (by rw [show Try.f9.name = "loop.example/g00060/laws.toTickS" from rfl]; decide)
theorem entW_eqTickS : Enters 12 := enters_of Try.func12 (by rfl) (by rw [show Try.f12.name = "loop.example/g00060/laws.eqTickS" from rfl]; decide)
theorem entW_markTickS : Enters 13 := enters_of Try.func13 (by rfl) (by rw [show Try.f13.name = "loop.example/g00060/laws.markTickS" from rfl]; decide)
theorem entW_toAlarm : Enters 8 := enters_of Try.func8 (by rfl) (by rw [show Try.f8.name = "loop.example/g00060/laws.toAlarm" from rfl]; decide)
theorem entW_eqInt64S : Enters 11 := enters_of Try.func11 (by rfl) (by rw [show Try.f11.name = "loop.example/g00060/laws.eqInt64S" from rfl]; decide)
theorem entW_markInt64S : Enters 14 := enters_of Try.func14 (by rfl) (by rw [show Try.f14.name = "loop.example/g00060/laws.markInt64S" from rfl]; decide)
theorem entW_heldInt64S : Enters 15 := enters_of Try.func15 (by rfl) (by rw [show Try.f15.name = "loop.example/g00060/laws.heldInt64S" from rfl]; decide)
theorem entW_Watch_s : Enters 7 := enters_of Try.func7 (by rfl) (by rw [show Try.f7.name = "loop.example/g00060/spec.Watch" from rfl]; decide)
theorem entW_Watch : Enters 10 := enters_of Try.func10 (by rfl) (by rw [show Try.f10.name = "loop.example/g00060/impl.Watch" from rfl]; decide)
noncomputable def bLW : Frame := { (default : Frame) with fn := 3, kind := .normal }
noncomputable def a0LW (v u : Value) : Act := ⟨#[v, u, undef, undef, undef, undef, undef, undef, undef, undef, undef, undef, undef, undef, undef, undef, undef, undef, undef, undef, undef, undef, undef, undef, undef, undef, undef, undef, undef, undef, undef, undef, undef, undef, undef, undef, undef, undef, undef, undef, undef, undef, undef, undef, undef, undef, undef, undef, undef, undef, undef, undef, undef, undef, undef, undef, undef, undef, undef, undef, undef, undef, undef, undef, undef, undef, undef, undef, undef, undef, undef, undef, undef, undef, undef, undef, undef], []⟩
/-- What the law leaves: it is about to return true. -/
def EndLW (B : Nat) (wl : World) (g : Goroutine) (w : World) : Prop := ∃ a kk, g = G { bLW.at a kk with mode := .returning } [] ∧ LA 77 a [(4, .bool true)] ∧ HB B wl w
theorem enterLWr : Array.replicate 75 undef = #[undef, undef, undef, undef, undef, undef, undef, undef, undef, undef, undef, undef, undef, undef, undef, undef, undef, undef, undef, undef, undef, undef, undef, undef, undef, undef, undef, undef, undef, undef, undef, undef, undef, undef, undef, undef, undef, undef, undef, undef, undef, undef, undef, undef, undef, undef, undef, undef, undef, undef, undef, undef, undef, undef, undef, undef, undef, undef, undef, undef, undef, undef, undef, undef, undef, undef, undef, undef, undef, undef, undef, undef, undef, undef, undef] := by rfl
theorem enterLWa (v u : Value) : (#[v, u] : Array Value) ++ #[undef, undef, undef, undef, undef, undef, undef, undef, undef, undef, undef, undef, undef, undef, undef, undef, undef, undef, undef, undef, undef, undef, undef, undef, undef, undef, undef, undef, undef, undef, undef, undef, undef, undef, undef, undef, undef, undef, undef, undef, undef, undef, undef, undef, undef, undef, undef, undef, undef, undef, undef, undef, undef, undef, undef, undef, undef, undef, undef, undef, undef, undef, undef, undef, undef, undef, undef, undef, undef, undef, undef, undef, undef, undef, undef] = #[v, u, undef, undef, undef, undef, undef, undef, undef, undef, undef, undef, undef, undef, undef, undef, undef, undef, undef, undef, undef, undef, undef, undef, undef, undef, undef, undef, undef, undef, undef, undef, undef, undef, undef, undef, undef, undef, undef, undef, undef, undef, undef, undef, undef, undef, undef, undef, undef, undef, undef, undef, undef, undef, undef, undef, undef, undef, undef, undef, undef, undef, undef, undef, undef, undef, undef, undef, undef, undef, undef, undef, undef, undef, undef, undef, undef] := by simp only [List.append_toArray, List.cons_append, List.nil_append]
theorem enterLW (v u : Value) : Frame.enter Try.prog 3 #[v, u] .normal = bLW.at (a0LW v u) [.code bodyLW] := by
  rw [enter_at Try.func3 bodyLW_some, Try.ntmps3]
  show (({ (default : Frame) with fn := 3, kind := .normal } : Frame).at ⟨#[v, u] ++ Array.replicate 75 undef, []⟩ [.code bodyLW]) = _
  rw [enterLWr, enterLWa]
  rfl
theorem codeLW0 : CodeP Try.prog (· ∈ AQ) (.region 0 rLW0 false) := codeB_ok (by decide +kernel)
set_option maxHeartbeats 4000000 in
theorem boxLW0 (a : Al) (u : Value) (w : World) :
    (Code.region 0 rLW0 false).wp Try.prog (fun ex a' w' => ex = .normal ∧ (LA 77 a' [(1, u), (2, .pointer (some ⟨w.heap.size, 0, none⟩))] ∧ w' = w.alloc (.cells #[.int .i64 a.hi, .int .i64 a.lo, .int .i64 a.sl, .int .i64 a.dl] 23))) (a0LW (aA a) u) w := by
  have e2 : (Code.region 0 rLW0 false) = cA ((Try.f3.body).getD .skip) := rfl
  rw [e2]
  unfold Try.f3 a0LW aA
  dsimp only [cA, cB, Option.getD_some]
  go_wp2_with fail
  exact LA.of rfl rfl (fun p hp => by simp only [List.mem_cons, List.not_mem_nil, or_false] at hp; rcases hp with rfl | rfl <;> rfl)
set_option maxHeartbeats 8000000 in
theorem lawW_k {a : Al} {l : List Tk} {v : Value} {wl : World} (h : VRw 3 cvTk wl v l) (hn0 : (l.length : Int) ≤ 9223372036854775807) :
    Kp Try.prog (G (Frame.enter Try.prog 3 #[aA a, v] .normal) []) wl (EndLW wl.heap.size wl) := by
  have hbe : bLW.kind ≠ .early := by unfold bLW; simp
  have hbn : bLW.kind = .normal := rfl
  obtain ⟨ao, cap, rfl⟩ := h.form
  rw [enterLW, bodyLW_eq]
  refine Kp.ctl (fun w => stepG_seq) ?_
  refine K.code prgQ closedQ fixQ codeLW0 rfl hbn (Post := fun a' w' => LA 77 a' [(1, .slice ao l.length cap), (2, .pointer (some ⟨wl.heap.size, 0, none⟩))] ∧ w'.heap = (wl.alloc (.cells #[.int .i64 a.hi, .int .i64 a.lo, .int .i64 a.sl, .int .i64 a.dl] 23)).heap) (fun T => wp_mono (boxLW0 a _ _) fun ex a' w' ⟨q, q1, q2⟩ => ⟨q, q1, by rw [q2]; rfl⟩) fun a0 w0 ⟨h0, hw0⟩ => ?_
  have s0 : w0.heap.size = wl.heap.size + 1 := by rw [hw0]; simp
  have hK0 : w0.heap[wl.heap.size]? = some (.cells #[.int .i64 a.hi, .int .i64 a.lo, .int .i64 a.sl, .int .i64 a.dl] 23 (0, 0)) := by rw [hw0]; exact heap_alloc_new wl _
  have b0 : HB wl.heap.size wl w0 := ⟨by omega, fun b hb => by rw [hw0]; exact heap_alloc_old wl _ hb⟩
  have hrow := VRw.hb h b0
  clear hw0
  by_cases hbig : (1048576 : Int) < (l.length : Int)
  · skip
    refine Kp.ctl (fun w => stepG_seq) ?_
    refine Kp.ctl (fun w => stepG_region) ?_
    rw [szLW1]
    refine K.assign oLW1_0 hbe h0 (by decide) wanted0 rfl fun a1 h1 => ?_
    refine Kp.ctl (fun w => stepG_region_end) ?_
    refine Kp.ctl (fun w => stepG_seq) ?_
    refine Kp.ctl (fun w => stepG_region) ?_
    rw [szLW2]
    refine K.move oLW2_0 hbe h1 (by decide) wanted0 rfl fun a2 h2 => ?_
    refine K.move oLW2_1 hbe h2 (by decide) wanted0 rfl fun a3 h3 => ?_
    refine K.callR (hA rfl) oLW2_2 hbe h3 (by decide) wanted0 entW_szTickS (h3.args2 rfl rfl) (fun T => c_sz hn0 T) fun v4 w1 a4 hr4 h4 => ?_
    obtain ⟨rfl, e1⟩ := hr4
    have s1 : w1.heap.size = w0.heap.size := by rw [e1]
    rw [if_pos hbig] at h4
    refine K.assign oLW2_3 hbe h4 (by decide) wanted0 rfl fun a5 h5 => ?_
    refine Kp.ctl (fun w => stepG_region_end) ?_
    refine Kp.ctl (fun w => stepG_seq) ?_
    refine Kp.ctl (fun w => stepG_seq) ?_
    refine Kp.ctl (fun w => stepG_region) ?_
    rw [szLW3]
    refine K.move oLW3_0 hbe h5 (by decide) wanted0 rfl fun a6 h6 => ?_
    refine K.lss oLW3_1 hbe h6 (by decide) wanted0 rfl rfl fun a7 h7 => ?_
    refine Kp.ctl (fun w => stepG_region_end) ?_
    refine Kp.ctl (fun w => stepG_cond (t := true) (h7.get 17 _ rfl)) ?_
    rw [if_pos rfl]
    refine Kp.ctl (fun w => stepG_seq) ?_
    refine Kp.ctl (fun w => stepG_region) ?_
    rw [szLW4]
    refine K.assign oLW4_0 hbe h7 (by decide) wanted0 rfl fun a8 h8 => ?_
    refine Kp.ctl (fun w => stepG_region_end) ?_
    refine Kp.ctl (fun w => st_ret) ?_
    exact Kp.done ⟨_, _, rfl, h8.weak (fun p hp => by simp only [List.mem_singleton] at hp; subst hp; rfl), b0.trans (HB.heap e1)⟩
  · skip
    have hn : l.length ≤ 1048576 := by omega
    have hq := watch_len a l
    refine Kp.ctl (fun w => stepG_seq) ?_
    refine Kp.ctl (fun w => stepG_region) ?_
    rw [szLW1]
    refine K.assign oLW1_0 hbe h0 (by decide) wanted0 rfl fun a1 h1 => ?_
    refine Kp.ctl (fun w => stepG_region_end) ?_
    refine Kp.ctl (fun w => stepG_seq) ?_
    refine Kp.ctl (fun w => stepG_region) ?_
    rw [szLW2]
    refine K.move oLW2_0 hbe h1 (by decide) wanted0 rfl fun a2 h2 => ?_
    refine K.move oLW2_1 hbe h2 (by decide) wanted0 rfl fun a3 h3 => ?_
    refine K.callR (hA rfl) oLW2_2 hbe h3 (by decide) wanted0 entW_szTickS (h3.args2 rfl rfl) (fun T => c_sz hn0 T) fun v4 w1 a4 hr4 h4 => ?_
    obtain ⟨rfl, e1⟩ := hr4
    have s1 : w1.heap.size = w0.heap.size := by rw [e1]
    rw [if_neg hbig] at h4
    refine K.assign oLW2_3 hbe h4 (by decide) wanted0 rfl fun a5 h5 => ?_
    refine Kp.ctl (fun w => stepG_region_end) ?_
    refine Kp.ctl (fun w => stepG_seq) ?_
    refine Kp.ctl (fun w => stepG_seq) ?_
    refine Kp.ctl (fun w => stepG_region) ?_
    rw [szLW3]
    refine K.move oLW3_0 hbe h5 (by decide) wanted0 rfl fun a6 h6 => ?_
    refine K.lss oLW3_1 hbe h6 (by decide) wanted0 rfl rfl fun a7 h7 => ?_
    rw [decide_eq_false (by omega)] at h7
    refine Kp.ctl (fun w => stepG_region_end) ?_
    refine Kp.ctl (fun w => stepG_cond (t := false) (h7.get 17 _ rfl)) ?_
    rw [if_neg (by decide)]
    refine Kp.ctl (fun w => stepG_skip) ?_
    refine Kp.ctl (fun w => stepG_seq) ?_
    refine Kp.ctl (fun w => stepG_region) ?_
    rw [szLW5]
    refine K.loadA oLW5_0 hbe h7 (by decide) wanted0 rfl ((HB.block (show HB w0.heap.size w0 w1 from ((HB.heap e1))) wl.heap.size (by omega)).trans hK0) fun a8 h8 => ?_
    refine K.callR (hA rfl) oLW5_1 hbe h8 (by decide) wanted0 entW_toAlarm (h8.args1 rfl) (fun T => c_al a T) fun v9 w2 a9 hr9 h9 => ?_
    obtain ⟨rfl, b2⟩ := hr9
    have s2 := b2.size
    refine K.move oLW5_2 hbe h9 (by decide) wanted0 rfl fun a10 h10 => ?_
    refine K.callR (hA rfl) oLW5_3 hbe h10 (by decide) wanted0 entW_toTickS (h10.args1 rfl) (fun T => c_to (VRw.hb hrow (show HB w0.heap.size w0 w2 from ((HB.heap e1).trans ((b2.mono (by omega)))))) hn T) fun v11 w3 a11 hr11 h11 => ?_
    obtain ⟨o21, b3⟩ := hr11
    have s3 := b3.size
    refine K.callR (hA rfl) oLW5_4 hbe h11 (by decide) wanted0 entW_Watch_s (h11.args2 rfl rfl) (fun T => c_specW a o21.row hn T) fun v12 w4 a12 hr12 h12 => ?_
    obtain ⟨ow, b4⟩ := hr12
    have s4 := b4.size
    refine K.assign oLW5_5 hbe h12 (by decide) wanted0 rfl fun a13 h13 => ?_
    refine Kp.ctl (fun w => stepG_region_end) ?_
    refine Kp.ctl (fun w => stepG_seq) ?_
    refine Kp.ctl (fun w => stepG_region) ?_
    rw [szLW6]
    refine K.move oLW6_0 hbe h13 (by decide) wanted0 rfl fun a14 h14 => ?_
    refine K.callR (hA rfl) oLW6_1 hbe h14 (by decide) wanted0 entW_toTickS (h14.args1 rfl) (fun T => c_to (VRw.hb hrow (show HB w0.heap.size w0 w4 from ((HB.heap e1).trans ((b2.mono (by omega)).trans ((b3.mono (by omega)).trans ((b4.mono (by omega)))))))) hn T) fun v15 w5 a15 hr15 h15 => ?_
    obtain ⟨ox, b5⟩ := hr15
    have s5 := b5.size
    refine K.assign oLW6_2 hbe h15 (by decide) wanted0 rfl fun a16 h16 => ?_
    refine Kp.ctl (fun w => stepG_region_end) ?_
    refine Kp.ctl (fun w => stepG_seq) ?_
    refine Kp.ctl (fun w => stepG_region) ?_
    rw [szLW7]
    refine K.loadA oLW7_0 hbe h16 (by decide) wanted0 rfl ((HB.block (show HB w0.heap.size w0 w5 from ((HB.heap e1).trans ((b2.mono (by omega)).trans ((b3.mono (by omega)).trans ((b4.mono (by omega)).trans ((b5.mono (by omega)))))))) wl.heap.size (by omega)).trans hK0) fun a17 h17 => ?_
    refine K.callR (hA rfl) oLW7_1 hbe h17 (by decide) wanted0 entW_toAlarm (h17.args1 rfl) (fun T => c_al a T) fun v18 w6 a18 hr18 h18 => ?_
    obtain ⟨rfl, b6⟩ := hr18
    have s6 := b6.size
    refine K.move oLW7_2 hbe h18 (by decide) wanted0 rfl fun a19 h19 => ?_
    refine K.enter oLW7_3 hbe wanted0 entW_Watch (h19.args2 rfl rfl) ?_
    refine iwatch_k (VOwn.hb ox ((b6.mono (by omega)))).row hn fun vog w7 ogi b7 => ?_
    have og := vints ogi
    refine K.back oLW7_3 h19 (by decide) vog fun a20 h20 => ?_
    have s7 := b7.size
    refine K.assign oLW7_4 hbe h20 (by decide) wanted0 rfl fun a21 h21 => ?_
    refine Kp.ctl (fun w => stepG_region_end) ?_
    refine Kp.ctl (fun w => stepG_seq) ?_
    refine Kp.ctl (fun w => stepG_seq) ?_
    refine Kp.ctl (fun w => stepG_region) ?_
    rw [szLW8]
    refine K.move oLW8_0 hbe h21 (by decide) wanted0 rfl fun a22 h22 => ?_
    refine K.move oLW8_1 hbe h22 (by decide) wanted0 rfl fun a23 h23 => ?_
    refine K.callR (hA rfl) oLW8_2 hbe h23 (by decide) wanted0 entW_eqInt64S (h23.args2 rfl rfl) (fun T => c_eqI og.row (VOwnI.hb ow ((b5.mono (by omega)).trans ((b6.mono (by omega)).trans ((b7.mono (by omega)))))).row (by omega) T) fun v24 w8 a24 hr24 h24 => ?_
    obtain ⟨rfl, b8⟩ := hr24
    have s8 := b8.size
    refine K.not oLW8_3 hbe h24 (by decide) wanted0 rfl fun a25 h25 => ?_
    refine Kp.ctl (fun w => stepG_region_end) ?_
    refine Kp.ctl (fun w => stepG_cond (t := false) (h25.get 32 _ rfl)) ?_
    rw [if_neg (by decide)]
    refine Kp.ctl (fun w => stepG_skip) ?_
    refine Kp.ctl (fun w => stepG_seq) ?_
    refine Kp.ctl (fun w => stepG_seq) ?_
    refine Kp.ctl (fun w => stepG_region) ?_
    rw [szLW10]
    refine K.move oLW10_0 hbe h25 (by decide) wanted0 rfl fun a26 h26 => ?_
    refine K.move oLW10_1 hbe h26 (by decide) wanted0 rfl fun a27 h27 => ?_
    refine K.callR (hA rfl) oLW10_2 hbe h27 (by decide) wanted0 entW_toTickS (h27.args1 rfl) (fun T => c_to (VRw.hb hrow (show HB w0.heap.size w0 w8 from ((HB.heap e1).trans ((b2.mono (by omega)).trans ((b3.mono (by omega)).trans ((b4.mono (by omega)).trans ((b5.mono (by omega)).trans ((b6.mono (by omega)).trans ((b7.mono (by omega)).trans ((b8.mono (by omega)))))))))))) hn T) fun v28 w9 a28 hr28 h28 => ?_
    obtain ⟨o35, b9⟩ := hr28
    have s9 := b9.size
    refine K.callR (hA rfl) oLW10_3 hbe h28 (by decide) wanted0 entW_eqTickS (h28.args2 rfl rfl) (fun T => c_eq (VOwn.hb ox ((b6.mono (by omega)).trans ((b7.mono (by omega)).trans ((b8.mono (by omega)).trans ((b9.mono (by omega))))))).row o35.row hn T) fun v29 w10 a29 hr29 h29 => ?_
    obtain ⟨rfl, b10⟩ := hr29
    have s10 := b10.size
    refine K.not oLW10_4 hbe h29 (by decide) wanted0 rfl fun a30 h30 => ?_
    refine Kp.ctl (fun w => stepG_region_end) ?_
    refine Kp.ctl (fun w => stepG_cond (t := false) (h30.get 37 _ rfl)) ?_
    rw [if_neg (by decide)]
    refine Kp.ctl (fun w => stepG_skip) ?_
    refine Kp.ctl (fun w => stepG_seq) ?_
    refine Kp.ctl (fun w => stepG_region) ?_
    rw [szLW12]
    refine K.assign oLW12_0 hbe h30 (by decide) wanted0 rfl fun a31 h31 => ?_
    refine Kp.ctl (fun w => stepG_region_end) ?_
    refine Kp.ctl (fun w => stepG_seq) ?_
    refine Kp.ctl (fun w => stepG_region) ?_
    rw [szLW13]
    refine K.move oLW13_0 hbe h31 (by decide) wanted0 rfl fun a32 h32 => ?_
    refine K.move oLW13_1 hbe h32 (by decide) wanted0 rfl fun a33 h33 => ?_
    have oxm := (VOwn.hb ox ((b6.mono (by omega)).trans ((b7.mono (by omega)).trans ((b8.mono (by omega)).trans ((b9.mono (by omega)).trans ((b10.mono (by omega))))))))
    have ogm := (VOwnI.hb og ((b8.mono (by omega)).trans ((b9.mono (by omega)).trans ((b10.mono (by omega))))))
    refine K.callR (hA rfl) oLW13_2 hbe h33 (by decide) wanted0 entW_markTickS (h33.args2 rfl rfl) (fun T => c_markW ox oxm hn T) fun v34 w11 a34 hr34 h34 => ?_
    obtain ⟨rfl, b11, st⟩ := hr34
    have s11 := b11.size
    have ogn := st _ _ _ (by omega) ogm
    refine K.assign oLW13_3 hbe h34 (by decide) wanted0 rfl fun a35 h35 => ?_
    refine Kp.ctl (fun w => stepG_region_end) ?_
    refine Kp.ctl (fun w => stepG_seq) ?_
    refine Kp.ctl (fun w => stepG_seq) ?_
    refine Kp.ctl (fun w => stepG_region) ?_
    rw [szLW14]
    refine K.move oLW14_0 hbe h35 (by decide) wanted0 rfl fun a36 h36 => ?_
    refine K.lss oLW14_1 hbe h36 (by decide) wanted0 rfl rfl fun a37 h37 => ?_
    rw [decide_eq_false (by omega)] at h37
    refine K.move oLW14_2 hbe h37 (by decide) wanted0 rfl fun a38 h38 => ?_
    have hg14 : ∃ o, rLW14[2]? = some o ∧ o.dst = some 43 := ⟨_, rfl, rfl⟩
    refine K.move oLW14_3 hbe h38 (by decide) (wanted1 h38 hg14 rfl) rfl fun a39 h39 => ?_
    refine K.move oLW14_4 hbe h39 (by decide) (wanted1 h39 hg14 rfl) rfl fun a40 h40 => ?_
    refine K.callR (hA rfl) oLW14_5 hbe h40 (by decide) (wanted1 h40 hg14 rfl) entW_eqInt64S (h40.args2 rfl rfl) (fun T => c_eqI ogn.row (VOwnI.hb ow ((b5.mono (by omega)).trans ((b6.mono (by omega)).trans ((b7.mono (by omega)).trans ((b8.mono (by omega)).trans ((b9.mono (by omega)).trans ((b10.mono (by omega)).trans ((b11.mono (by omega)))))))))).row (by omega) T) fun v41 w12 a41 hr41 h41 => ?_
    obtain ⟨rfl, b12⟩ := hr41
    have s12 := b12.size
    refine K.not oLW14_6 hbe h41 (by decide) (wanted1 h41 hg14 rfl) rfl fun a42 h42 => ?_
    refine K.pick (t := false) oLW14_7 hbe h42 (by decide) wanted0 rfl rfl fun a43 h43 => ?_
    refine Kp.ctl (fun w => stepG_region_end) ?_
    refine Kp.ctl (fun w => stepG_cond (t := false) (h43.get 48 _ rfl)) ?_
    rw [if_neg (by decide)]
    refine Kp.ctl (fun w => stepG_skip) ?_
    refine Kp.ctl (fun w => stepG_seq) ?_
    refine Kp.ctl (fun w => stepG_region) ?_
    rw [szLW16]
    refine K.assign oLW16_0 hbe h43 (by decide) wanted0 rfl fun a44 h44 => ?_
    refine Kp.ctl (fun w => stepG_region_end) ?_
    refine Kp.ctl (fun w => stepG_seq) ?_
    refine Kp.ctl (fun w => stepG_region) ?_
    rw [szLW17]
    refine K.move oLW17_0 hbe h44 (by decide) wanted0 rfl fun a45 h45 => ?_
    refine K.move oLW17_1 hbe h45 (by decide) wanted0 rfl fun a46 h46 => ?_
    refine K.callR (hA rfl) oLW17_2 hbe h46 (by decide) wanted0 entW_markInt64S (h46.args2 rfl rfl) (fun T => c_markI (VOwnI.hb ogn ((b12.mono (by omega)))) (by omega) T) fun v47 w13 a47 hr47 h47 => ?_
    obtain ⟨rfl, om, b13⟩ := hr47
    have s13 := b13.size
    refine K.assign oLW17_3 hbe h47 (by decide) wanted0 rfl fun a48 h48 => ?_
    refine Kp.ctl (fun w => stepG_region_end) ?_
    refine Kp.ctl (fun w => stepG_seq) ?_
    refine Kp.ctl (fun w => stepG_region) ?_
    rw [szLW18]
    refine K.assign oLW18_0 hbe h48 (by decide) wanted0 rfl fun a49 h49 => ?_
    refine Kp.ctl (fun w => stepG_region_end) ?_
    refine Kp.ctl (fun w => stepG_seq) ?_
    refine Kp.ctl (fun w => stepG_region) ?_
    rw [szLW19]
    refine K.move oLW19_0 hbe h49 (by decide) wanted0 rfl fun a50 h50 => ?_
    refine K.move oLW19_1 hbe h50 (by decide) wanted0 rfl fun a51 h51 => ?_
    refine K.callR (hA rfl) oLW19_2 hbe h51 (by decide) wanted0 entW_heldInt64S (h51.args2 rfl rfl) (fun T => c_heldI om (by omega) T) fun v52 w14 a52 hr52 h52 => ?_
    obtain ⟨rfl, e14⟩ := hr52
    have s14 : w14.heap.size = w13.heap.size := by rw [e14]
    refine K.assign oLW19_3 hbe h52 (by decide) wanted0 rfl fun a53 h53 => ?_
    refine Kp.ctl (fun w => stepG_region_end) ?_
    refine Kp.ctl (fun w => stepG_seq) ?_
    refine Kp.ctl (fun w => stepG_seq) ?_
    refine Kp.ctl (fun w => stepG_region) ?_
    rw [szLW20]
    refine K.move oLW20_0 hbe h53 (by decide) wanted0 rfl fun a54 h54 => ?_
    refine K.lss oLW20_1 hbe h54 (by decide) wanted0 rfl rfl fun a55 h55 => ?_
    rw [decide_eq_false (by omega)] at h55
    refine Kp.ctl (fun w => stepG_region_end) ?_
    refine Kp.ctl (fun w => stepG_cond (t := false) (h55.get 56 _ rfl)) ?_
    rw [if_neg (by decide)]
    refine Kp.ctl (fun w => stepG_skip) ?_
    refine Kp.ctl (fun w => stepG_seq) ?_
    refine Kp.ctl (fun w => stepG_seq) ?_
    refine Kp.ctl (fun w => stepG_region) ?_
    rw [szLW22]
    refine K.move oLW22_0 hbe h55 (by decide) wanted0 rfl fun a56 h56 => ?_
    refine K.move oLW22_1 hbe h56 (by decide) wanted0 rfl fun a57 h57 => ?_
    refine K.neq oLW22_2 hbe h57 (by decide) wanted0 rfl rfl fun a58 h58 => ?_
    rw [decide_eq_false (by simp)] at h58
    refine Kp.ctl (fun w => stepG_region_end) ?_
    refine Kp.ctl (fun w => stepG_cond (t := false) (h58.get 59 _ rfl)) ?_
    rw [if_neg (by decide)]
    refine Kp.ctl (fun w => stepG_skip) ?_
    refine Kp.ctl (fun w => stepG_seq) ?_
    refine Kp.ctl (fun w => stepG_region) ?_
    rw [szLW24]
    refine K.loadA oLW24_0 hbe h58 (by decide) wanted0 rfl ((HB.block (show HB w0.heap.size w0 w14 from ((HB.heap e1).trans ((b2.mono (by omega)).trans ((b3.mono (by omega)).trans ((b4.mono (by omega)).trans ((b5.mono (by omega)).trans ((b6.mono (by omega)).trans ((b7.mono (by omega)).trans ((b8.mono (by omega)).trans ((b9.mono (by omega)).trans ((b10.mono (by omega)).trans ((b11.mono (by omega)).trans ((b12.mono (by omega)).trans ((b13.mono (by omega)).trans ((HB.heap e14)))))))))))))))) wl.heap.size (by omega)).trans hK0) fun a59 h59 => ?_
    refine K.callR (hA rfl) oLW24_1 hbe h59 (by decide) wanted0 entW_toAlarm (h59.args1 rfl) (fun T => c_al a T) fun v60 w15 a60 hr60 h60 => ?_
    obtain ⟨rfl, b15⟩ := hr60
    have s15 := b15.size
    refine K.move oLW24_2 hbe h60 (by decide) wanted0 rfl fun a61 h61 => ?_
    refine K.callR (hA rfl) oLW24_3 hbe h61 (by decide) wanted0 entW_toTickS (h61.args1 rfl) (fun T => c_to (VRw.hb hrow (show HB w0.heap.size w0 w15 from ((HB.heap e1).trans ((b2.mono (by omega)).trans ((b3.mono (by omega)).trans ((b4.mono (by omega)).trans ((b5.mono (by omega)).trans ((b6.mono (by omega)).trans ((b7.mono (by omega)).trans ((b8.mono (by omega)).trans ((b9.mono (by omega)).trans ((b10.mono (by omega)).trans ((b11.mono (by omega)).trans ((b12.mono (by omega)).trans ((b13.mono (by omega)).trans ((HB.heap e14).trans ((b15.mono (by omega))))))))))))))))))) hn T) fun v62 w16 a62 hr62 h62 => ?_
    obtain ⟨o63, b16⟩ := hr62
    have s16 := b16.size
    refine K.enter oLW24_4 hbe wanted0 entW_Watch (h62.args2 rfl rfl) ?_
    refine iwatch_k o63.row hn fun voh w17 ohi b17 => ?_
    have oh := vints ohi
    refine K.back oLW24_4 h62 (by decide) voh fun a63 h63 => ?_
    have s17 := b17.size
    refine K.assign oLW24_5 hbe h63 (by decide) wanted0 rfl fun a64 h64 => ?_
    refine Kp.ctl (fun w => stepG_region_end) ?_
    refine Kp.ctl (fun w => stepG_seq) ?_
    refine Kp.ctl (fun w => stepG_seq) ?_
    refine Kp.ctl (fun w => stepG_region) ?_
    rw [szLW25]
    refine K.move oLW25_0 hbe h64 (by decide) wanted0 rfl fun a65 h65 => ?_
    refine K.move oLW25_1 hbe h65 (by decide) wanted0 rfl fun a66 h66 => ?_
    refine K.callR (hA rfl) oLW25_2 hbe h66 (by decide) wanted0 entW_eqInt64S (h66.args2 rfl rfl) (fun T => c_eqI oh.row (VOwnI.hb ow ((b5.mono (by omega)).trans ((b6.mono (by omega)).trans ((b7.mono (by omega)).trans ((b8.mono (by omega)).trans ((b9.mono (by omega)).trans ((b10.mono (by omega)).trans ((b11.mono (by omega)).trans ((b12.mono (by omega)).trans ((b13.mono (by omega)).trans ((HB.heap e14).trans ((b15.mono (by omega)).trans ((b16.mono (by omega)).trans ((b17.mono (by omega)))))))))))))))).row (by omega) T) fun v67 w18 a67 hr67 h67 => ?_
    obtain ⟨rfl, b18⟩ := hr67
    have s18 := b18.size
    refine K.not oLW25_3 hbe h67 (by decide) wanted0 rfl fun a68 h68 => ?_
    refine Kp.ctl (fun w => stepG_region_end) ?_
    refine Kp.ctl (fun w => stepG_cond (t := false) (h68.get 68 _ rfl)) ?_
    rw [if_neg (by decide)]
    refine Kp.ctl (fun w => stepG_skip) ?_
    refine Kp.ctl (fun w => stepG_seq) ?_
    refine Kp.ctl (fun w => stepG_region) ?_
    rw [szLW27]
    refine K.assign oLW27_0 hbe h68 (by decide) wanted0 rfl fun a69 h69 => ?_
    refine Kp.ctl (fun w => stepG_region_end) ?_
    refine Kp.ctl (fun w => stepG_seq) ?_
    refine Kp.ctl (fun w => stepG_region) ?_
    rw [szLW28]
    refine K.move oLW28_0 hbe h69 (by decide) wanted0 rfl fun a70 h70 => ?_
    refine K.move oLW28_1 hbe h70 (by decide) wanted0 rfl fun a71 h71 => ?_
    refine K.callR (hA rfl) oLW28_2 hbe h71 (by decide) wanted0 entW_heldInt64S (h71.args2 rfl rfl) (fun T => c_heldI (MkI.hb om ((HB.heap e14).trans ((b15.mono (by omega)).trans ((b16.mono (by omega)).trans ((b17.mono (by omega)).trans ((b18.mono (by omega)))))))) (by omega) T) fun v72 w19 a72 hr72 h72 => ?_
    obtain ⟨rfl, e19⟩ := hr72
    have s19 : w19.heap.size = w18.heap.size := by rw [e19]
    refine K.assign oLW28_3 hbe h72 (by decide) wanted0 rfl fun a73 h73 => ?_
    refine Kp.ctl (fun w => stepG_region_end) ?_
    refine Kp.ctl (fun w => stepG_seq) ?_
    refine Kp.ctl (fun w => stepG_seq) ?_
    refine Kp.ctl (fun w => stepG_region) ?_
    rw [szLW29]
    refine K.move oLW29_0 hbe h73 (by decide) wanted0 rfl fun a74 h74 => ?_
    refine K.lss oLW29_1 hbe h74 (by decide) wanted0 rfl rfl fun a75 h75 => ?_
    rw [decide_eq_false (by omega)] at h75
    refine Kp.ctl (fun w => stepG_region_end) ?_
    refine Kp.ctl (fun w => stepG_cond (t := false) (h75.get 73 _ rfl)) ?_
    rw [if_neg (by decide)]
    refine Kp.ctl (fun w => stepG_skip) ?_
    refine Kp.ctl (fun w => stepG_seq) ?_
    refine Kp.ctl (fun w => stepG_seq) ?_
    refine Kp.ctl (fun w => stepG_region) ?_
    rw [szLW31]
    refine K.move oLW31_0 hbe h75 (by decide) wanted0 rfl fun a76 h76 => ?_
    refine K.move oLW31_1 hbe h76 (by decide) wanted0 rfl fun a77 h77 => ?_
    refine K.neq oLW31_2 hbe h77 (by decide) wanted0 rfl rfl fun a78 h78 => ?_
    rw [decide_eq_false (by simp)] at h78
    refine Kp.ctl (fun w => stepG_region_end) ?_
    refine Kp.ctl (fun w => stepG_cond (t := false) (h78.get 76 _ rfl)) ?_
    rw [if_neg (by decide)]
    refine Kp.ctl (fun w => stepG_skip) ?_
    refine Kp.ctl (fun w => stepG_seq) ?_
    refine Kp.ctl (fun w => stepG_region) ?_
    rw [szLW33]
    refine K.assign oLW33_0 hbe h78 (by decide) wanted0 rfl fun a79 h79 => ?_
    refine Kp.ctl (fun w => stepG_region_end) ?_
    refine Kp.ctl (fun w => st_ret) ?_
    exact Kp.done ⟨_, _, rfl, h79.weak (fun p hp => by simp only [List.mem_singleton] at hp; subst hp; rfl), b0.trans (HB.mono (show HB w0.heap.size w0 w19 from ((HB.heap e1).trans ((b2.mono (by omega)).trans ((b3.mono (by omega)).trans ((b4.mono (by omega)).trans ((b5.mono (by omega)).trans ((b6.mono (by omega)).trans ((b7.mono (by omega)).trans ((b8.mono (by omega)).trans ((b9.mono (by omega)).trans ((b10.mono (by omega)).trans ((b11.mono (by omega)).trans ((b12.mono (by omega)).trans ((b13.mono (by omega)).trans ((HB.heap e14).trans ((b15.mono (by omega)).trans ((b16.mono (by omega)).trans ((b17.mono (by omega)).trans ((b18.mono (by omega)).trans ((HB.heap e19))))))))))))))))))))) (by omega))⟩
end Go.Proofs.Ytdjnnhdeijnhgab.Rn

/-
  From goroutine 0's walk to the machine's run.
-/
namespace Go.Proofs.Ytdjnnhdeijnhgab.Rn
open Go Go.Conc Va Go.RowKit
open Go.ConcN (sumTo)
set_option linter.all false
set_option maxRecDepth 20000

theorem runN_of {P : Program} {n k : Nat} {m m' : Machine} {t t' : Trace} (h : runNT P n m t = (.next m', t')) : runN P (n + k) m = runN P k m' := by
  have := runNT_plus n k m t m' t' h
  rw [← runNT_fst P (n + k) m t, this, runNT_fst]
theorem kill_cell {w : World} {b off : Nat} {v : Value} (h : w.cell? ⟨b, off, none⟩ = some v) : (kill w).cell? ⟨b, off, none⟩ = some v := by
  unfold World.cell? at h ⊢
  unfold kill
  simp only [Array.getElem?_map]
  cases hb : w.heap[b]? with
  | none => simp [hb] at h
  | some o =>
    cases o with
    | cells c e fz => simpa [hb, killO] using h
    | _ => simp [hb] at h
theorem kill_size (w : World) : (kill w).heap.size = w.heap.size := by unfold kill; simp
theorem kill_row {w : World} {v : Value} {l : List Tk} (h : VRw 3 cvTk w v l) : VRw 3 cvTk (kill w) v l := by
  obtain ⟨ao, cap, h1, h2, h3⟩ := h
  refine ⟨ao, cap, h1, h2, h3.imp id fun ⟨b, off, q1, q2, q3⟩ => ⟨b, off, q1, by rw [kill_size]; exact q2, fun i x hx k hk => kill_cell (q3 i x hx k hk)⟩⟩
theorem end_law {a : Act} {kk : List Item} (ha : LA 69 a [(2, .bool true)]) (w : World) : stepG Try.prog true (G { bL.at a kk with mode := .returning } []) w = .ended (.done (.bool true)) w #[] := by
  have hf : Try.prog.funcs[5]? = some Try.f5 := Try.func5
  have hres : Try.f5.results = #[.tmp 2] := rfl
  have hr := results_tmp (fn := Try.f5) hres a.tmps Try.prog w
  have he := events_results_tmp (P := Try.prog) (w := w) (fn := Try.f5) hres a.tmps #[]
  have hv : a.tmps.getD 2 undef = .bool true := ha.get 2 _ rfl
  rw [hv] at hr
  have hi : Try.prog.inits.idxOf? 5 = none := by decide +kernel
  have hd := ha.defers
  simp [G, stepG, unwind, doReturn, Frame.at, bL, hd, hf, hr, he, seen, GStep.after, hi]
/-- The whole run. -/
theorem run_law {l : List Tk} {v : Value} {W : World} (h : VRw 3 cvTk W v l) (hn0 : (l.length : Int) ≤ 9223372036854775807) {Post : Value → World → Prop} (hPost : ∀ w', Below W.heap.size W w' → Post (.bool true) w') :
    ∃ M last o w' t', runNT Try.prog (M + 1) (solo (G (Frame.enter Try.prog 5 #[v] .normal) []) W) #[] = (.ended o w', t') ∧ runN Try.prog M (solo (G (Frame.enter Try.prog 5 #[v] .normal) []) W) = .next last ∧ step Try.prog last = .ended o w' ∧ Conc.Good Try.prog Post last o w' t' := by
  let x0 : St := { gs := #[G (Frame.enter Try.prog 5 #[v] .normal) []], w := W, sl := none, t := #[], N := fun _ => False, μ := sumTo 1 (fun _ => 0) }
  have hx0 : KW Try.prog (kill W) x0 := by
    refine ⟨kill_wr W, kill_size W, fun b hb => hb, fun op hop => by simp [x0] at hop, fun _ => 0, 0, leavers_one _ _, past_nil, Nat.zero_le _, rfl⟩
  obtain ⟨y, g, wE, ⟨a, kk, rfl, ha, hE⟩, hy0, hky, hkt⟩ := law_k (kill_row h) hn0 x0 hx0 rfl
  obtain ⟨hn, hno, q, B, hlv, hpast, hB, hμ⟩ := hky.2.2
  rw [kill_size] at hE
  have hbel : Below W.heap.size W y.w := by
    refine ⟨hkt.os, hkt.tape, hkt.output, hkt.le, fun b hb => ?_⟩
    have h2 := hE.block b hb
    by_cases hc : IsC (kill W) b
    · obtain ⟨cs, e, fz, hc⟩ := hc
      have h3 := hky.1.cells b cs e fz (h2.trans hc)
      rw [rVs_id] at h3
      have h4 := (kill_wr W).cells b cs e fz hc
      rw [rVs_id] at h4
      exact h3.trans h4.symm
    · exact hkt.out b hb hc
  have hend : AtEnd Try.prog (fun _ => False) B Post (G { bL.at a kk with mode := .returning } []) y.w → True := fun _ => trivial
  have hG : Goes Try.prog true AtRel (fun _ _ _ => False) (AtEnd Try.prog (fun _ => False) B Post) 0 (G { bL.at a kk with mode := .returning } []) y.w := by
    intro w1 ⟨d, hd⟩
    refine ⟨rfl, .bool true, #[], ?_, fun e he => by simp at he, hPost w1 ?_⟩
    · exact end_law ha w1
    · subst hd
      exact ⟨hbel.os, hbel.tape, hbel.output, hbel.size, hbel.block⟩
  obtain ⟨n, hn⟩ := hkt.to
  obtain ⟨N, last, o, w', t', r1, r2, r3, r4⟩ := beside_ends (fun w w' es h => h.elim) hy0 hlv hpast hG (sl := y.sl)
  refine ⟨n + N, last, o, w', t', ?_, ?_, r3, r4⟩
  · rw [Nat.add_assoc]
    exact (runNT_plus n (N + 1) _ _ _ _ hn).trans r1
  · exact (runN_of hn).trans r2
end Go.Proofs.Ytdjnnhdeijnhgab.Rn

/-
  From goroutine 0's walk to the machine's run: Watch.
-/
namespace Go.Proofs.Ytdjnnhdeijnhgab.Rn
open Go Go.Conc Va Go.RowKit
open Go.ConcN (sumTo)
set_option linter.all false
set_option maxRecDepth 20000

theorem end_lawW {a : Act} {kk : List Item} (ha : LA 77 a [(4, .bool true)]) (w : World) : stepG Try.prog true (G { bLW.at a kk with mode := .returning } []) w = .ended (.done (.bool true)) w #[] := by
  have hf : Try.prog.funcs[3]? = some Try.f3 := Try.func3
  have hres : Try.f3.results = #[.tmp 4] := rfl
  have hr := results_tmp (fn := Try.f3) hres a.tmps Try.prog w
  have he := events_results_tmp (P := Try.prog) (w := w) (fn := Try.f3) hres a.tmps #[]
  have hv : a.tmps.getD 4 undef = .bool true := ha.get 4 _ rfl
  rw [hv] at hr
  have hi : Try.prog.inits.idxOf? 3 = none := by decide +kernel
  have hd := ha.defers
  simp [G, stepG, unwind, doReturn, Frame.at, bLW, hd, hf, hr, he, seen, GStep.after, hi]
/-- The whole run. -/
theorem run_lawW {a0 : Al} {l : List Tk} {v : Value} {W : World} (h : VRw 3 cvTk W v l) (hn0 : (l.length : Int) ≤ 9223372036854775807) {Post : Value → World → Prop} (hPost : ∀ w', Below W.heap.size W w' → Post (.bool true) w') :
    ∃ M last o w' t', runNT Try.prog (M + 1) (solo (G (Frame.enter Try.prog 3 #[aA a0, v] .normal) []) W) #[] = (.ended o w', t') ∧ runN Try.prog M (solo (G (Frame.enter Try.prog 3 #[aA a0, v] .normal) []) W) = .next last ∧ step Try.prog last = .ended o w' ∧ Conc.Good Try.prog Post last o w' t' := by
  let x0 : St := { gs := #[G (Frame.enter Try.prog 3 #[aA a0, v] .normal) []], w := W, sl := none, t := #[], N := fun _ => False, μ := sumTo 1 (fun _ => 0) }
  have hx0 : KW Try.prog (kill W) x0 := by
    refine ⟨kill_wr W, kill_size W, fun b hb => hb, fun op hop => by simp [x0] at hop, fun _ => 0, 0, leavers_one _ _, past_nil, Nat.zero_le _, rfl⟩
  obtain ⟨y, g, wE, ⟨a, kk, rfl, ha, hE⟩, hy0, hky, hkt⟩ := lawW_k (a := a0) (kill_row h) hn0 x0 hx0 rfl
  obtain ⟨hn, hno, q, B, hlv, hpast, hB, hμ⟩ := hky.2.2
  rw [kill_size] at hE
  have hbel : Below W.heap.size W y.w := by
    refine ⟨hkt.os, hkt.tape, hkt.output, hkt.le, fun b hb => ?_⟩
    have h2 := hE.block b hb
    by_cases hc : IsC (kill W) b
    · obtain ⟨cs, e, fz, hc⟩ := hc
      have h3 := hky.1.cells b cs e fz (h2.trans hc)
      rw [rVs_id] at h3
      have h4 := (kill_wr W).cells b cs e fz hc
      rw [rVs_id] at h4
      exact h3.trans h4.symm
    · exact hkt.out b hb hc
  have hend : AtEnd Try.prog (fun _ => False) B Post (G { bLW.at a kk with mode := .returning } []) y.w → True := fun _ => trivial
  have hG : Goes Try.prog true AtRel (fun _ _ _ => False) (AtEnd Try.prog (fun _ => False) B Post) 0 (G { bLW.at a kk with mode := .returning } []) y.w := by
    intro w1 ⟨d, hd⟩
    refine ⟨rfl, .bool true, #[], ?_, fun e he => by simp at he, hPost w1 ?_⟩
    · exact end_lawW ha w1
    · subst hd
      exact ⟨hbel.os, hbel.tape, hbel.output, hbel.size, hbel.block⟩
  obtain ⟨n, hn⟩ := hkt.to
  obtain ⟨N, last, o, w', t', r1, r2, r3, r4⟩ := beside_ends (fun w w' es h => h.elim) hy0 hlv hpast hG (sl := y.sl)
  refine ⟨n + N, last, o, w', t', ?_, ?_, r3, r4⟩
  · rw [Nat.add_assoc]
    exact (runNT_plus n (N + 1) _ _ _ _ hn).trans r1
  · exact (runN_of hn).trans r2
end Go.Proofs.Ytdjnnhdeijnhgab.Rn
