/-
  The law of Quiet, walked by goroutine 0 beside leavers.
-/
import Derived.Test.YtdjnnhdeijnhgabMw21
namespace Go.Proofs.Ytdjnnhdeijnhgab.Rn
open Go Go.Conc Va Go.RowKit
set_option linter.all false
set_option maxRecDepth 20000

theorem enter_at {f : Nat} {fn : Func} {c : Code} (hf : Try.prog.funcs[f]? = some fn) (hb : fn.body = some c) (args : Array Value) : Frame.enter Try.prog f args .normal = ({ (default : Frame) with fn := f, kind := .normal } : Frame).at ⟨args ++ Array.replicate (fn.ntmps - args.size) undef, []⟩ [.code c] := by
  unfold Frame.enter
  simp only [hf, Option.map_some, Option.bind_some, hb, Option.getD_some]
  rfl
theorem la_enter1 {n m : Nat} (hm : m = n) (hn : 0 < n) (v : Value) : LA n ⟨#[v] ++ Array.replicate (m - (#[v] : Array Value).size) undef, []⟩ [(0, v)] := by
  subst hm
  refine LA.of (by simp; omega) rfl (fun p hp => ?_)
  simp only [List.mem_singleton] at hp
  subst hp
  show ((#[v] ++ Array.replicate (m - 1) undef).getD 0 undef) = v
  rw [Array.getD_eq_getD_getElem?, Array.getElem?_append_left (by simp)]
  rfl
theorem HB.heap {B : Nat} {w w' : World} (h : w'.heap = w.heap) : HB B w w' := ⟨by rw [h]; exact Nat.le_refl _, fun b _ => by rw [h]⟩
theorem quiet_len (l : List Tk) : (quiet l).length ≤ l.length := by
  unfold quiet
  split
  · exact List.length_filter_le _ _
  · simp
theorem ent_szTickS : Enters 6 := enters_of Try.func6 (by rfl) (by rw [show Try.f6.name = "loop.example/g00060/laws.szTickS" from rfl]; decide)
theorem ent_toTickS : Enters 9 := enters_of Try.func9 (by rfl) (by rw [show Try.f9.name = "loop.example/g00060/laws.toTickS" from rfl]; decide)
theorem ent_eqTickS : Enters 12 := enters_of Try.func12 (by rfl) (by rw [show Try.f12.name = "loop.example/g00060/laws.eqTickS" from rfl]; decide)
theorem ent_markTickS : Enters 13 := enters_of Try.func13 (by rfl) (by rw [show Try.f13.name = "loop.example/g00060/laws.markTickS" from rfl]; decide)
theorem ent_Quiet_s : Enters 18 := enters_of Try.func18 (by rfl) (by rw [show Try.f18.name = "loop.example/g00060/spec.Quiet" from rfl]; decide)
theorem ent_heldTickS : Enters 20 := enters_of Try.func20 (by rfl) (by rw [show Try.f20.name = "loop.example/g00060/laws.heldTickS" from rfl]; decide)
theorem ent_Quiet : Enters 19 := enters_of Try.func19 (by rfl) (by rw [show Try.f19.name = "loop.example/g00060/impl.Quiet" from rfl]; decide)
noncomputable def bL : Frame := { (default : Frame) with fn := 5, kind := .normal }
/-- What the law leaves: it is about to return true. -/
def EndL (B : Nat) (wl : World) (g : Goroutine) (w : World) : Prop := ∃ a kk, g = G { bL.at a kk with mode := .returning } [] ∧ LA 69 a [(2, .bool true)] ∧ HB B wl w
set_option maxHeartbeats 4000000 in
theorem law_k {l : List Tk} {v : Value} {wl : World} (h : VRw 3 cvTk wl v l) (hn0 : (l.length : Int) ≤ 9223372036854775807) :
    Kp Try.prog (G (Frame.enter Try.prog 5 #[v] .normal) []) wl (EndL wl.heap.size wl) := by
  have hbe : bL.kind ≠ .early := by unfold bL; simp
  obtain ⟨ao, cap, rfl⟩ := h.form
  rw [enter_at Try.func5 bodyL_some, bodyL_eq]
  have h0 := la_enter1 (n := 69) (m := Try.f5.ntmps) Try.ntmps5 (by decide) (.slice ao l.length cap)
  show Kp Try.prog (G (bL.at _ _) []) wl _
  generalize (⟨#[Value.slice ao l.length cap] ++ Array.replicate (Try.f5.ntmps - (#[Value.slice ao l.length cap] : Array Value).size) undef, []⟩ : Act) = a0 at h0 ⊢
  by_cases hbig : (1048576 : Int) < (l.length : Int)
  · skip
    refine Kp.ctl (fun w => stepG_seq) ?_
    refine Kp.ctl (fun w => stepG_region) ?_
    rw [szL0]
    refine K.assign oL0_0 hbe h0 (by decide) wanted0 rfl fun a1 h1 => ?_
    refine Kp.ctl (fun w => stepG_region_end) ?_
    refine Kp.ctl (fun w => stepG_seq) ?_
    refine Kp.ctl (fun w => stepG_region) ?_
    rw [szL1]
    refine K.assign oL1_0 hbe h1 (by decide) wanted0 rfl fun a2 h2 => ?_
    refine Kp.ctl (fun w => stepG_region_end) ?_
    refine Kp.ctl (fun w => stepG_seq) ?_
    refine Kp.ctl (fun w => stepG_region) ?_
    rw [szL2]
    refine K.move oL2_0 hbe h2 (by decide) wanted0 rfl fun a3 h3 => ?_
    refine K.move oL2_1 hbe h3 (by decide) wanted0 rfl fun a4 h4 => ?_
    refine K.callR (hA rfl) oL2_2 hbe h4 (by decide) wanted0 ent_szTickS (h4.args2 rfl rfl) (fun T => c_sz hn0 T) fun v5 w1 a5 hr5 h5 => ?_
    obtain ⟨rfl, e1⟩ := hr5
    rw [if_pos hbig] at h5
    refine K.assign oL2_3 hbe h5 (by decide) wanted0 rfl fun a6 h6 => ?_
    refine Kp.ctl (fun w => stepG_region_end) ?_
    refine Kp.ctl (fun w => stepG_seq) ?_
    refine Kp.ctl (fun w => stepG_seq) ?_
    refine Kp.ctl (fun w => stepG_region) ?_
    rw [szL3]
    refine K.move oL3_0 hbe h6 (by decide) wanted0 rfl fun a7 h7 => ?_
    refine K.lss oL3_1 hbe h7 (by decide) wanted0 rfl rfl fun a8 h8 => ?_
    refine Kp.ctl (fun w => stepG_region_end) ?_
    refine Kp.ctl (fun w => stepG_cond (t := true) (h8.get 15 _ rfl)) ?_
    rw [if_pos rfl]
    refine Kp.ctl (fun w => stepG_seq) ?_
    refine Kp.ctl (fun w => stepG_region) ?_
    rw [szL4]
    refine K.assign oL4_0 hbe h8 (by decide) wanted0 rfl fun a9 h9 => ?_
    refine Kp.ctl (fun w => stepG_region_end) ?_
    refine Kp.ctl (fun w => st_ret) ?_
    exact Kp.done ⟨_, _, rfl, h9.weak (fun p hp => by simp only [List.mem_singleton] at hp; subst hp; rfl), HB.heap e1⟩
  · skip
    have hn : l.length ≤ 1048576 := by omega
    have hq := quiet_len l
    refine Kp.ctl (fun w => stepG_seq) ?_
    refine Kp.ctl (fun w => stepG_region) ?_
    rw [szL0]
    refine K.assign oL0_0 hbe h0 (by decide) wanted0 rfl fun a1 h1 => ?_
    refine Kp.ctl (fun w => stepG_region_end) ?_
    refine Kp.ctl (fun w => stepG_seq) ?_
    refine Kp.ctl (fun w => stepG_region) ?_
    rw [szL1]
    refine K.assign oL1_0 hbe h1 (by decide) wanted0 rfl fun a2 h2 => ?_
    refine Kp.ctl (fun w => stepG_region_end) ?_
    refine Kp.ctl (fun w => stepG_seq) ?_
    refine Kp.ctl (fun w => stepG_region) ?_
    rw [szL2]
    refine K.move oL2_0 hbe h2 (by decide) wanted0 rfl fun a3 h3 => ?_
    refine K.move oL2_1 hbe h3 (by decide) wanted0 rfl fun a4 h4 => ?_
    refine K.callR (hA rfl) oL2_2 hbe h4 (by decide) wanted0 ent_szTickS (h4.args2 rfl rfl) (fun T => c_sz hn0 T) fun v5 w1 a5 hr5 h5 => ?_
    obtain ⟨rfl, e1⟩ := hr5
    rw [if_neg hbig] at h5
    refine K.assign oL2_3 hbe h5 (by decide) wanted0 rfl fun a6 h6 => ?_
    refine Kp.ctl (fun w => stepG_region_end) ?_
    refine Kp.ctl (fun w => stepG_seq) ?_
    refine Kp.ctl (fun w => stepG_seq) ?_
    refine Kp.ctl (fun w => stepG_region) ?_
    rw [szL3]
    refine K.move oL3_0 hbe h6 (by decide) wanted0 rfl fun a7 h7 => ?_
    refine K.lss oL3_1 hbe h7 (by decide) wanted0 rfl rfl fun a8 h8 => ?_
    rw [decide_eq_false (by omega)] at h8
    refine Kp.ctl (fun w => stepG_region_end) ?_
    refine Kp.ctl (fun w => stepG_cond (t := false) (h8.get 15 _ rfl)) ?_
    rw [if_neg (by decide)]
    refine Kp.ctl (fun w => stepG_skip) ?_
    refine Kp.ctl (fun w => stepG_seq) ?_
    refine Kp.ctl (fun w => stepG_region) ?_
    rw [szL5]
    refine K.move oL5_0 hbe h8 (by decide) wanted0 rfl fun a9 h9 => ?_
    refine K.callR (hA rfl) oL5_1 hbe h9 (by decide) wanted0 ent_toTickS (h9.args1 rfl) (fun T => c_to (VRw.hb h (HB.heap e1)) hn T) fun v10 w2 a10 hr10 h10 => ?_
    obtain ⟨o17, b2⟩ := hr10
    refine K.callR (hA rfl) oL5_2 hbe h10 (by decide) wanted0 ent_Quiet_s (h10.args1 rfl) (fun T => c_spec o17.row hn T) fun v11 w3 a11 hr11 h11 => ?_
    obtain ⟨o4, b3⟩ := hr11
    refine K.assign oL5_3 hbe h11 (by decide) wanted0 rfl fun a12 h12 => ?_
    refine Kp.ctl (fun w => stepG_region_end) ?_
    have e1s : w1.heap.size = wl.heap.size := by rw [e1]
    have s2 := b2.size; have s3 := b3.size
    have B3 : HB wl.heap.size wl w3 := (HB.heap e1).trans ((b2.mono (by omega)).trans (b3.mono (by omega)))
    refine Kp.ctl (fun w => stepG_seq) ?_
    refine Kp.ctl (fun w => stepG_region) ?_
    rw [szL6]
    refine K.move oL6_0 hbe h12 (by decide) wanted0 rfl fun a13 h13 => ?_
    refine K.callR (hA rfl) oL6_1 hbe h13 (by decide) wanted0 ent_toTickS (h13.args1 rfl) (fun T => c_to (VRw.hb h B3) hn T) fun v14 w4 a14 hr14 h14 => ?_
    obtain ⟨o5, b4⟩ := hr14
    refine K.assign oL6_2 hbe h14 (by decide) wanted0 rfl fun a15 h15 => ?_
    refine Kp.ctl (fun w => stepG_region_end) ?_
    have s4 := b4.size
    refine Kp.ctl (fun w => stepG_seq) ?_
    refine Kp.ctl (fun w => stepG_region) ?_
    rw [szL7]
    refine K.move oL7_0 hbe h15 (by decide) wanted0 rfl fun a16 h16 => ?_
    refine K.enter oL7_1 hbe wanted0 ent_Quiet (h16.args1 rfl) ?_
    refine iquiet_k o5.row hn fun v6 w5 o6 b5 => ?_
    refine K.back oL7_1 h16 (by decide) v6 fun a17 h17 => ?_
    refine K.assign oL7_2 hbe h17 (by decide) wanted0 rfl fun a18 h18 => ?_
    refine Kp.ctl (fun w => stepG_region_end) ?_
    have s5 := b5.size
    refine Kp.ctl (fun w => stepG_seq) ?_
    refine Kp.ctl (fun w => stepG_seq) ?_
    refine Kp.ctl (fun w => stepG_region) ?_
    rw [szL8]
    refine K.move oL8_0 hbe h18 (by decide) wanted0 rfl fun a19 h19 => ?_
    refine K.move oL8_1 hbe h19 (by decide) wanted0 rfl fun a20 h20 => ?_
    refine K.callR (hA rfl) oL8_2 hbe h20 (by decide) wanted0 ent_eqTickS (h20.args2 rfl rfl) (fun T => c_eq o6.row (VOwn.hb o4 ((b4.mono (by omega)).trans (b5.mono (by omega)))).row (by omega) T) fun v21 w6 a21 hr21 h21 => ?_
    obtain ⟨rfl, b6⟩ := hr21
    refine K.not oL8_3 hbe h21 (by decide) wanted0 rfl fun a22 h22 => ?_
    refine Kp.ctl (fun w => stepG_region_end) ?_
    refine Kp.ctl (fun w => stepG_cond (t := false) (h22.get 26 _ rfl)) ?_
    rw [if_neg (by decide)]
    refine Kp.ctl (fun w => stepG_skip) ?_
    have s6 := b6.size
    have B6 : HB wl.heap.size wl w6 := B3.trans ((b4.mono (by omega)).trans ((b5.mono (by omega)).trans (b6.mono (by omega))))
    refine Kp.ctl (fun w => stepG_seq) ?_
    refine Kp.ctl (fun w => stepG_seq) ?_
    refine Kp.ctl (fun w => stepG_region) ?_
    rw [szL10]
    refine K.move oL10_0 hbe h22 (by decide) wanted0 rfl fun a23 h23 => ?_
    refine K.move oL10_1 hbe h23 (by decide) wanted0 rfl fun a24 h24 => ?_
    refine K.callR (hA rfl) oL10_2 hbe h24 (by decide) wanted0 ent_toTickS (h24.args1 rfl) (fun T => c_to (VRw.hb h B6) hn T) fun v25 w7 a25 hr25 h25 => ?_
    obtain ⟨o29, b7⟩ := hr25
    have s7 := b7.size
    have o5a := VOwn.hb o5 ((b5.mono (Nat.le_refl _)).trans ((b6.mono (by omega)).trans (b7.mono (by omega))))
    refine K.callR (hA rfl) oL10_3 hbe h25 (by decide) wanted0 ent_eqTickS (h25.args2 rfl rfl) (fun T => c_eq o5a.row o29.row hn T) fun v26 w8 a26 hr26 h26 => ?_
    obtain ⟨rfl, b8⟩ := hr26
    have s8 := b8.size
    refine K.not oL10_4 hbe h26 (by decide) wanted0 rfl fun a27 h27 => ?_
    refine Kp.ctl (fun w => stepG_region_end) ?_
    refine Kp.ctl (fun w => stepG_cond (t := false) (h27.get 31 _ rfl)) ?_
    rw [if_neg (by decide)]
    refine Kp.ctl (fun w => stepG_skip) ?_
    refine Kp.ctl (fun w => stepG_seq) ?_
    refine Kp.ctl (fun w => stepG_region) ?_
    rw [szL12]
    refine K.assign oL12_0 hbe h27 (by decide) wanted0 rfl fun a28 h28 => ?_
    refine Kp.ctl (fun w => stepG_region_end) ?_
    refine Kp.ctl (fun w => stepG_seq) ?_
    refine Kp.ctl (fun w => stepG_region) ?_
    rw [szL13]
    refine K.move oL13_0 hbe h28 (by decide) wanted0 rfl fun a29 h29 => ?_
    refine K.move oL13_1 hbe h29 (by decide) wanted0 rfl fun a30 h30 => ?_
    have o5b := VOwn.hb o5a b8
    have o6b := VOwn.hb o6 (b6.trans ((b7.mono (by omega)).trans (b8.mono (by omega))))
    refine K.callR (hA rfl) oL13_2 hbe h30 (by decide) wanted0 ent_markTickS (h30.args2 rfl rfl) (fun T => c_mark o5 o5b hn T) fun v31 w9 a31 hr31 h31 => ?_
    obtain ⟨rfl, om, b9, st9⟩ := hr31
    have s9 := b9.size
    have o6c := st9 _ _ _ (Nat.le_refl _) o6b
    have B39 : HB w3.heap.size w3 w9 := (b4.mono (by omega)).trans ((b5.mono (by omega)).trans ((b6.mono (by omega)).trans ((b7.mono (by omega)).trans ((b8.mono (by omega)).trans b9))))
    refine K.assign oL13_3 hbe h31 (by decide) wanted0 rfl fun a32 h32 => ?_
    refine Kp.ctl (fun w => stepG_region_end) ?_
    refine Kp.ctl (fun w => stepG_seq) ?_
    refine Kp.ctl (fun w => stepG_seq) ?_
    refine Kp.ctl (fun w => stepG_region) ?_
    rw [szL14]
    refine K.move oL14_0 hbe h32 (by decide) wanted0 rfl fun a33 h33 => ?_
    refine K.lss oL14_1 hbe h33 (by decide) wanted0 rfl rfl fun a34 h34 => ?_
    rw [decide_eq_false (by omega)] at h34
    refine K.move oL14_2 hbe h34 (by decide) wanted0 rfl fun a35 h35 => ?_
    have hg14 : ∃ o, rL14[2]? = some o ∧ o.dst = some 37 := ⟨_, rfl, rfl⟩
    refine K.move oL14_3 hbe h35 (by decide) (wanted1 h35 hg14 rfl) rfl fun a36 h36 => ?_
    refine K.move oL14_4 hbe h36 (by decide) (wanted1 h36 hg14 rfl) rfl fun a37 h37 => ?_
    refine K.callR (hA rfl) oL14_5 hbe h37 (by decide) (wanted1 h37 hg14 rfl) ent_eqTickS (h37.args2 rfl rfl) (fun T => c_eq o6c.row (VOwn.hb o4 B39).row (by omega) T) fun v38 w10 a38 hr38 h38 => ?_
    obtain ⟨rfl, b10⟩ := hr38
    have s10 := b10.size
    refine K.not oL14_6 hbe h38 (by decide) (wanted1 h38 hg14 rfl) rfl fun a39 h39 => ?_
    refine K.pick (t := false) oL14_7 hbe h39 (by decide) wanted0 rfl rfl fun a40 h40 => ?_
    refine Kp.ctl (fun w => stepG_region_end) ?_
    refine Kp.ctl (fun w => stepG_cond (t := false) (h40.get 42 _ rfl)) ?_
    rw [if_neg (by decide)]
    refine Kp.ctl (fun w => stepG_skip) ?_
    refine Kp.ctl (fun w => stepG_seq) ?_
    refine Kp.ctl (fun w => stepG_region) ?_
    rw [szL16]
    refine K.assign oL16_0 hbe h40 (by decide) wanted0 rfl fun a41 h41 => ?_
    refine Kp.ctl (fun w => stepG_region_end) ?_
    refine Kp.ctl (fun w => stepG_seq) ?_
    refine Kp.ctl (fun w => stepG_region) ?_
    rw [szL17]
    refine K.move oL17_0 hbe h41 (by decide) wanted0 rfl fun a42 h42 => ?_
    refine K.move oL17_1 hbe h42 (by decide) wanted0 rfl fun a43 h43 => ?_
    refine K.callR (hA rfl) oL17_2 hbe h43 (by decide) wanted0 ent_markTickS (h43.args2 rfl rfl) (fun T => c_mark o6 (VOwn.hb o6c b10) (by omega) T) fun v44 w11 a44 hr44 h44 => ?_
    obtain ⟨rfl, og, b11, st11⟩ := hr44
    have s11 := b11.size
    refine K.assign oL17_3 hbe h44 (by decide) wanted0 rfl fun a45 h45 => ?_
    refine Kp.ctl (fun w => stepG_region_end) ?_
    refine Kp.ctl (fun w => stepG_seq) ?_
    refine Kp.ctl (fun w => stepG_region) ?_
    rw [szL18]
    refine K.assign oL18_0 hbe h45 (by decide) wanted0 rfl fun a46 h46 => ?_
    refine Kp.ctl (fun w => stepG_region_end) ?_
    refine Kp.ctl (fun w => stepG_seq) ?_
    refine Kp.ctl (fun w => stepG_region) ?_
    rw [szL19]
    refine K.move oL19_0 hbe h46 (by decide) wanted0 rfl fun a47 h47 => ?_
    refine K.move oL19_1 hbe h47 (by decide) wanted0 rfl fun a48 h48 => ?_
    refine K.callR (hA rfl) oL19_2 hbe h48 (by decide) wanted0 ent_heldTickS (h48.args2 rfl rfl) (fun T => c_held og.row (by omega) T) fun v49 w12 a49 hr49 h49 => ?_
    obtain ⟨rfl, e12⟩ := hr49
    have s12 : w12.heap.size = w11.heap.size := by rw [e12]
    refine K.assign oL19_3 hbe h49 (by decide) wanted0 rfl fun a50 h50 => ?_
    refine Kp.ctl (fun w => stepG_region_end) ?_
    refine Kp.ctl (fun w => stepG_seq) ?_
    refine Kp.ctl (fun w => stepG_seq) ?_
    refine Kp.ctl (fun w => stepG_region) ?_
    rw [szL20]
    refine K.move oL20_0 hbe h50 (by decide) wanted0 rfl fun a51 h51 => ?_
    refine K.lss oL20_1 hbe h51 (by decide) wanted0 rfl rfl fun a52 h52 => ?_
    rw [decide_eq_false (by omega)] at h52
    refine Kp.ctl (fun w => stepG_region_end) ?_
    refine Kp.ctl (fun w => stepG_cond (t := false) (h52.get 50 _ rfl)) ?_
    rw [if_neg (by decide)]
    refine Kp.ctl (fun w => stepG_skip) ?_
    refine Kp.ctl (fun w => stepG_seq) ?_
    refine Kp.ctl (fun w => stepG_seq) ?_
    refine Kp.ctl (fun w => stepG_region) ?_
    rw [szL22]
    refine K.move oL22_0 hbe h52 (by decide) wanted0 rfl fun a53 h53 => ?_
    refine K.move oL22_1 hbe h53 (by decide) wanted0 rfl fun a54 h54 => ?_
    refine K.neq oL22_2 hbe h54 (by decide) wanted0 rfl rfl fun a55 h55 => ?_
    rw [decide_eq_false (by simp)] at h55
    refine Kp.ctl (fun w => stepG_region_end) ?_
    refine Kp.ctl (fun w => stepG_cond (t := false) (h55.get 53 _ rfl)) ?_
    rw [if_neg (by decide)]
    refine Kp.ctl (fun w => stepG_skip) ?_
    have B12 : HB wl.heap.size wl w12 := B3.trans ((B39.mono (by omega)).trans ((b10.mono (by omega)).trans ((b11.mono (by omega)).trans (HB.heap e12))))
    have B312 : HB w3.heap.size w3 w12 := B39.trans ((b10.mono (by omega)).trans ((b11.mono (by omega)).trans (HB.heap e12)))
    refine Kp.ctl (fun w => stepG_seq) ?_
    refine Kp.ctl (fun w => stepG_region) ?_
    rw [szL24]
    refine K.move oL24_0 hbe h55 (by decide) wanted0 rfl fun a56 h56 => ?_
    refine K.callR (hA rfl) oL24_1 hbe h56 (by decide) wanted0 ent_toTickS (h56.args1 rfl) (fun T => c_to (VRw.hb h B12) hn T) fun v57 w13 a57 hr57 h57 => ?_
    obtain ⟨o55, b13⟩ := hr57
    have s13 := b13.size
    refine K.enter oL24_2 hbe wanted0 ent_Quiet (h57.args1 rfl) ?_
    refine iquiet_k o55.row hn fun v10 w14 o10 b14 => ?_
    refine K.back oL24_2 h57 (by decide) v10 fun a58 h58 => ?_
    have s14 := b14.size
    refine K.assign oL24_3 hbe h58 (by decide) wanted0 rfl fun a59 h59 => ?_
    refine Kp.ctl (fun w => stepG_region_end) ?_
    refine Kp.ctl (fun w => stepG_seq) ?_
    refine Kp.ctl (fun w => stepG_seq) ?_
    refine Kp.ctl (fun w => stepG_region) ?_
    rw [szL25]
    refine K.move oL25_0 hbe h59 (by decide) wanted0 rfl fun a60 h60 => ?_
    refine K.move oL25_1 hbe h60 (by decide) wanted0 rfl fun a61 h61 => ?_
    refine K.callR (hA rfl) oL25_2 hbe h61 (by decide) wanted0 ent_eqTickS (h61.args2 rfl rfl) (fun T => c_eq o10.row (VOwn.hb o4 (B312.trans ((b13.mono (by omega)).trans (b14.mono (by omega))))).row (by omega) T) fun v62 w15 a62 hr62 h62 => ?_
    obtain ⟨rfl, b15⟩ := hr62
    have s15 := b15.size
    refine K.not oL25_3 hbe h62 (by decide) wanted0 rfl fun a63 h63 => ?_
    refine Kp.ctl (fun w => stepG_region_end) ?_
    refine Kp.ctl (fun w => stepG_cond (t := false) (h63.get 60 _ rfl)) ?_
    rw [if_neg (by decide)]
    refine Kp.ctl (fun w => stepG_skip) ?_
    refine Kp.ctl (fun w => stepG_seq) ?_
    refine Kp.ctl (fun w => stepG_region) ?_
    rw [szL27]
    refine K.assign oL27_0 hbe h63 (by decide) wanted0 rfl fun a64 h64 => ?_
    refine Kp.ctl (fun w => stepG_region_end) ?_
    refine Kp.ctl (fun w => stepG_seq) ?_
    refine Kp.ctl (fun w => stepG_region) ?_
    rw [szL28]
    refine K.move oL28_0 hbe h64 (by decide) wanted0 rfl fun a65 h65 => ?_
    refine K.move oL28_1 hbe h65 (by decide) wanted0 rfl fun a66 h66 => ?_
    refine K.callR (hA rfl) oL28_2 hbe h66 (by decide) wanted0 ent_heldTickS (h66.args2 rfl rfl) (fun T => c_held (VOwn.hb og ((HB.heap e12).trans ((b13.mono (by omega)).trans ((b14.mono (by omega)).trans (b15.mono (by omega)))))).row (by omega) T) fun v67 w16 a67 hr67 h67 => ?_
    obtain ⟨rfl, e16⟩ := hr67
    refine K.assign oL28_3 hbe h67 (by decide) wanted0 rfl fun a68 h68 => ?_
    refine Kp.ctl (fun w => stepG_region_end) ?_
    refine Kp.ctl (fun w => stepG_seq) ?_
    refine Kp.ctl (fun w => stepG_seq) ?_
    refine Kp.ctl (fun w => stepG_region) ?_
    rw [szL29]
    refine K.move oL29_0 hbe h68 (by decide) wanted0 rfl fun a69 h69 => ?_
    refine K.lss oL29_1 hbe h69 (by decide) wanted0 rfl rfl fun a70 h70 => ?_
    rw [decide_eq_false (by omega)] at h70
    refine Kp.ctl (fun w => stepG_region_end) ?_
    refine Kp.ctl (fun w => stepG_cond (t := false) (h70.get 65 _ rfl)) ?_
    rw [if_neg (by decide)]
    refine Kp.ctl (fun w => stepG_skip) ?_
    refine Kp.ctl (fun w => stepG_seq) ?_
    refine Kp.ctl (fun w => stepG_seq) ?_
    refine Kp.ctl (fun w => stepG_region) ?_
    rw [szL31]
    refine K.move oL31_0 hbe h70 (by decide) wanted0 rfl fun a71 h71 => ?_
    refine K.move oL31_1 hbe h71 (by decide) wanted0 rfl fun a72 h72 => ?_
    refine K.neq oL31_2 hbe h72 (by decide) wanted0 rfl rfl fun a73 h73 => ?_
    rw [decide_eq_false (by simp)] at h73
    refine Kp.ctl (fun w => stepG_region_end) ?_
    refine Kp.ctl (fun w => stepG_cond (t := false) (h73.get 68 _ rfl)) ?_
    rw [if_neg (by decide)]
    refine Kp.ctl (fun w => stepG_skip) ?_
    refine Kp.ctl (fun w => stepG_seq) ?_
    refine Kp.ctl (fun w => stepG_region) ?_
    rw [szL33]
    refine K.assign oL33_0 hbe h73 (by decide) wanted0 rfl fun a74 h74 => ?_
    refine Kp.ctl (fun w => stepG_region_end) ?_
    refine Kp.ctl (fun w => st_ret) ?_
    exact Kp.done ⟨_, _, rfl, h74.weak (fun p hp => by simp only [List.mem_singleton] at hp; subst hp; rfl), B12.trans ((b13.mono (by omega)).trans ((b14.mono (by omega)).trans ((b15.mono (by omega)).trans (HB.heap e16))))⟩
end Go.Proofs.Ytdjnnhdeijnhgab.Rn
