/-
  Quiet, the program's: beside leavers.
-/
import Derived.Test.YtdjnnhdeijnhgabMw15
import Derived.Test.YtdjnnhdeijnhgabMw18
import Derived.Test.YtdjnnhdeijnhgabMw19
import Derived.Test.YtdjnnhdeijnhgabMw20
import Derived.Test.YtdjnnhdeijnhgabMw3
namespace Go.Proofs.Ytdjnnhdeijnhgab.Rn
open Go Go.Conc Va Go.RowKit
set_option linter.all false
set_option maxRecDepth 20000

theorem hA {f : Nat} (h : AQ.contains f = true) : f ∈ AQ := by simpa using h
theorem rets {α : Type} {R : Value → World → Prop} : ∀ (e : Ending) (w : World), (∃ v, e = .returned v ∧ R v w) → ∃ v, e = .returned v := fun e w ⟨v, h, _⟩ => ⟨v, h⟩
theorem cloQ {K : Nat} : Clo 32 #[.pointer (some ⟨K, 0, none⟩)] := by
  have hf : Try.prog.funcs[32]? = some Try.f32 := Try.func32
  have hn : ¬ Try.f32.name = "runtime.NumGoroutine" := by
    rw [show Try.f32.name = "loop.example/g00060/impl.Quiet$1" from rfl]
    decide
  have hb : Try.f32.body.isSome = true := by rfl
  obtain ⟨c, hc⟩ := Option.isSome_iff_exists.1 hb
  exact ⟨fun x w => by simp [invoke, callFunc, hf, hc, hn, go_sem], fun x w => by simp [invoke, callFunc, hf, hc, hn, go_sem]⟩
theorem ent_ticksOk : Enters 25 := enters_of Try.func25 (by rfl) (by rw [show Try.f25.name = "loop.example/g00060/impl.ticksOk" from rfl]; decide)
theorem ent_forEach : Enters 26 := enters_of Try.func26 (by rfl) (by rw [show Try.f26.name = "loop.example/g00060/impl.forEachTick" from rfl]; decide)
noncomputable def bQ : Frame := { (default : Frame) with fn := 19, kind := .normal }
noncomputable def a0Q (v : Value) : Act := ⟨#[v, undef, undef, undef, undef, undef, undef, undef, undef, undef, undef, undef, undef], []⟩
theorem enterQ (v : Value) : Frame.enter Try.prog 19 #[v] .normal = bQ.at (a0Q v) [.code bodyQ] := by
  have hf : Try.prog.funcs[19]? = some Try.f19 := Try.func19
  unfold Frame.enter
  simp only [hf, Option.map_some, Option.bind_some, bodyQ_some, Option.getD_some]
  rfl
theorem codeQ1 : CodeP Try.prog (· ∈ AQ) (.region 1 rQ1 false) := codeB_ok (by decide +kernel)
theorem codeQ3 : CodeP Try.prog (· ∈ AQ) (.region 3 rQ3 false) := codeB_ok (by decide +kernel)
theorem codeQ5 : CodeP Try.prog (· ∈ AQ) (.region 5 rQ5 false) := codeB_ok (by decide +kernel)
/-- The box for what is kept, and an empty row. -/
structure Boxed (w w' : World) : Prop where
  size : w'.heap.size = w.heap.size + 2
  old : ∀ b, b < w.heap.size → w'.heap[b]? = w.heap[b]?
  row : w'.heap[w.heap.size]? = some (.cells #[] 42 (0, 0))
  box : w'.heap[w.heap.size + 1]? = some (.cells #[.slice (some ⟨w.heap.size, 0, none⟩) 0 0] 30 (0, 0))
theorem boxQ {a : Act} {v : Value} (ha : a = ⟨#[v, undef, .slice none 0 0, undef, undef, undef, undef, undef, undef, undef, undef, undef, undef], []⟩) (w : World) :
    (Code.region 1 rQ1 false).wp Try.prog (fun ex a' w' => ex = .normal ∧ (LA 13 a' [(0, v), (3, .pointer (some ⟨w.heap.size + 1, 0, none⟩))] ∧ Boxed w w')) a w := by
  subst ha
  have e : rQ1 = regOps (cA (cB ((Try.f19.body).getD .skip))) := rfl
  rw [e]
  have e2 : (Code.region 1 (regOps (cA (cB ((Try.f19.body).getD .skip)))) false) = cA (cB ((Try.f19.body).getD .skip)) := rfl
  rw [e2]
  unfold Try.f19
  dsimp only [cA, cB, Option.getD_some]
  go_wp2_with fail
  refine ⟨LA.of rfl rfl (fun p hp => ?_), ?_⟩
  · simp only [List.mem_cons, List.not_mem_nil, or_false] at hp
    rcases hp with rfl | rfl <;> rfl
  · refine ⟨by simp, fun b hb => ?_, ?_, ?_⟩
    · exact (heap_alloc_old _ _ (by simp; omega)).trans (heap_alloc_old _ _ hb)
    · exact (heap_alloc_old _ _ (by simp)).trans (heap_alloc_new w _)
    · have := heap_alloc_new (w.alloc (.cells #[] 42)) (.cells #[.slice (some ⟨w.heap.size, 0, none⟩) 0 0] 30)
      simpa using this
section
variable {b : Frame} {a : Act} {ops : Array Oper} {i d n : Nat} {rest : List Nat} {kk : List Item} {cs : List Frame} {wl : World} {Q : Goroutine → World → Prop} {vs : List (Nat × Value)}
/-- A slice is taken out of its box. -/
theorem K.loadS {t : Nat} {g : Option (Nat × Bool)} {K : Nat} {sv : Value} (ho : ∃ o, ops[i]? = some o ∧ o.dst = some d ∧ o.guard = g ∧ o.op = .load 30 (.tmp t)) (hb : b.kind ≠ .early) (h : LA n a vs) (hd : d < n) (hw : ∀ o : Oper, o.guard = g → Region.wanted o (yielded ops a.tmps) = true) (hx : vs.lookup t = some (.pointer (some ⟨K, 0, none⟩))) (hK : wl.cell? ⟨K, 0, none⟩ = some sv) (hc : IsC wl K)
    (k : ∀ a', LA n a' ((d, sv) :: vs) → Kp Try.prog (G (b.at a' (.inRegion ops rest :: kk)) cs) wl Q) : Kp Try.prog (G (b.at a (.inRegion ops (i :: rest) :: kk)) cs) wl Q := by
  obtain ⟨o, h1, h2, h3, h4⟩ := ho
  have hy := h.get t _ hx
  simp only [Act.eval, Array.getD_eq_getD_getElem?] at hy
  have hu := Try.underlying30
  refine Kp.own (fr' := b.at (a.put (some d) sv) (.inRegion ops rest :: kk)) (cs' := cs) (fun w hcell => ?_) (k _ (h.put hd sv))
  have c0 := hcell _ _ hK
  have hr : (execOp a.eval o).run Try.prog w = .ok (.value sv) w := by
    unfold execOp
    simp only [h4]
    simp [go_sem, hy, c0, hu]
  have he : (execOp a.eval o).events Try.prog w #[] = #[⟨.cell ⟨K, 0, none⟩, false, false⟩] := by
    unfold execOp
    simp only [h4]
    simp [go_sem, hy, c0, hu]
  refine ⟨listed Try.prog b.fn a o w, ?_, fun e he2 => ?_⟩
  · rw [stepG_value h1 (hw o h3) hb hr, h2]
  · have h5 := seen_mem he2
    rw [he] at h5
    have h6 : e = ⟨.cell ⟨K, 0, none⟩, false, false⟩ := by simpa using h5
    exact ⟨_, h6, hc⟩
end
end Go.Proofs.Ytdjnnhdeijnhgab.Rn

/-
  Quiet, the program's: beside leavers, whole.
-/
namespace Go.Proofs.Ytdjnnhdeijnhgab.Rn
open Go Go.Conc Va Go.RowKit
set_option linter.all false
set_option maxRecDepth 20000

theorem quiet_eq {l : List Tk} (h : tksB l = true) : quiet l = (l.take l.length).filter keepB := by
  unfold quiet
  rw [if_pos h, List.take_length]
theorem low_ptr {K z : Nat} (h : K < z) : Low z (.pointer (some ⟨K, 0, none⟩)) := fun f g hf => by
  rw [rV_p, rV_p]
  unfold rA
  simp only
  rw [hf K h]
set_option maxHeartbeats 1000000 in
theorem iquiet_k {l : List Tk} {v : Value} {wl : World} (h : VRw 3 cvTk wl v l) (hn : l.length ≤ 1048576) {c : Frame} {cc : List Frame} {Q : Goroutine → World → Prop}
    (k : ∀ v' wE, VOwn 3 cvTk wE wl.heap.size v' (quiet l) → HB wl.heap.size wl wE → Kp Try.prog (G (c.finish v') cc) wE Q) :
    Kp Try.prog (G (Frame.enter Try.prog 19 #[v] .normal) (c :: cc)) wl Q := by
  have hbe : bQ.kind ≠ .early := by unfold bQ; simp
  have hbn : bQ.kind = .normal := rfl
  have hf : Try.prog.funcs[bQ.fn]? = some Try.f19 := Try.func19
  have hres : Try.f19.results = #[.tmp 2] := rfl
  obtain ⟨ao, cap, rfl⟩ := h.form
  rw [enterQ, bodyQ_eq]
  refine Kp.ctl (fun w => stepG_seq) ?_
  refine Kp.ctl (fun w => stepG_region) ?_
  rw [szQ0]
  refine Kp.ctl (fun w => st_assign oQ0_0 hbe (v := .slice none 0 0) rfl) ?_
  refine Kp.ctl (fun w => stepG_region_end) ?_
  refine Kp.ctl (fun w => stepG_seq) ?_
  refine K.code prgQ closedQ fixQ codeQ1 rfl hbn (Post := fun a' w' => LA 13 a' [(0, .slice ao l.length cap), (3, .pointer (some ⟨wl.heap.size + 1, 0, none⟩))] ∧ Boxed wl w') (fun T => wp_mono (boxQ rfl _) fun ex a' w' ⟨q, q1, q2⟩ => ⟨q, q1, ⟨q2.size, q2.old, q2.row, q2.box⟩⟩) fun a1 w1 ⟨h1, hB⟩ => ?_
  have hs1 : w1.heap.size = wl.heap.size + 2 := hB.size
  have hH1 : HB wl.heap.size wl w1 := ⟨by omega, fun b hb => hB.old b hb⟩
  refine Kp.ctl (fun w => stepG_seq) ?_
  refine Kp.ctl (fun w => stepG_seq) ?_
  refine Kp.ctl (fun w => stepG_region) ?_
  rw [szQ2]
  refine K.move oQ2_0 hbe h1 (by decide) wanted0 rfl fun a2 h2 => ?_
  have hrow1 : VRw 3 cvTk w1 (.slice ao l.length cap) l := VRw.below (w := { wl with tape := w1.tape, os := w1.os, output := w1.output }) h hH1.below
  refine K.call prgQ closedQ fixQ (hA rfl) oQ2_1 hbe h2 (by decide) wanted0 ent_ticksOk (h2.args1 rfl) (Rr := fun e w => e = .returned (.bool (tksB l)) ∧ HB w1.heap.size w1 w) (fun T => (iticks_any _ l { w1 with tape := T, drawn := 0 } hrow1 hn).mono fun e w q => ⟨q.1, HB.of q.2⟩) (fun e w hr => ⟨_, hr.1⟩) fun v3 w3 a3 hr3 h3 => ?_
  obtain ⟨e3, hH3⟩ := hr3
  obtain rfl : v3 = .bool (tksB l) := by injection e3
  have hK3 : w3.heap[wl.heap.size + 1]? = some (.cells #[.slice (some ⟨wl.heap.size, 0, none⟩) 0 0] 30 (0, 0)) := (hH3.block _ (by omega)).trans hB.box
  have hR3 : w3.heap[wl.heap.size]? = some (.cells #[] 42 (0, 0)) := (hH3.block _ (by omega)).trans hB.row
  have hsz3 := hH3.size
  refine K.not oQ2_2 hbe h3 (by decide) wanted0 rfl fun a4 h4 => ?_
  refine Kp.ctl (fun w => stepG_region_end) ?_
  refine Kp.ctl (fun w => stepG_cond (t := !(tksB l)) (h4.get 7 _ rfl)) ?_
  cases ht : tksB l with
  | false =>
    simp only [Bool.not_false, if_true]
    refine Kp.ctl (fun w => stepG_seq) ?_
    refine Kp.ctl (fun w => stepG_region) ?_
    rw [szQ3]
    refine K.loadS oQ3_0 hbe h4 (by decide) wanted0 rfl (by unfold World.cell?; simp [hK3]; rfl) ⟨_, _, _, hK3⟩ fun a5 h5 => ?_
    refine K.assign oQ3_1 hbe h5 (by decide) wanted0 rfl fun a6 h6 => ?_
    refine Kp.ctl (fun w => stepG_region_end) ?_
    refine K.ret hbn h6 hf hres rfl ?_
    refine k _ w3 ?_ (hH1.trans (hH3.mono (by omega)))
    have : quiet l = [] := by unfold quiet; rw [ht]; rfl
    rw [this]
    exact VOwn.nil _ _ _ _
  | true =>
    simp only [Bool.not_true]
    rw [if_neg (by decide)]
    have hl2 : l.length ≤ 2000 := ((tksB_iff l).1 ht).1
    refine Kp.ctl (fun w => stepG_skip) ?_
    refine Kp.ctl (fun w => stepG_seq) ?_
    refine Kp.ctl (fun w => stepG_region) ?_
    rw [szQ4]
    refine K.move oQ4_0 hbe h4 (by decide) wanted0 rfl fun a5 h5 => ?_
    refine K.pure oQ4_1 hbe h5 (by decide) wanted0 (.func (.func 32) #[] #[.pointer (some ⟨wl.heap.size + 1, 0, none⟩)]) (fun o ho w => ?_) fun a6 h6 => ?_
    · have e1 := h5.get 3 _ rfl
      simp only [Act.eval, Array.getD_eq_getD_getElem?] at e1
      constructor
      · unfold execOp
        simp only [ho]
        simp [go_sem, e1]
      · unfold execOp
        simp only [ho]
        simp [go_sem, e1]
    refine K.enter oQ4_2 hbe wanted0 ent_forEach (h6.args2 rfl rfl) ?_
    refine each_any (A := (· ∈ AQ)) prgQ closedQ fixQ (fc := 32) (hA rfl) cloQ (l := l) (ao := ao) (cap := cap) hn (J := JQ wl.heap.size (wl.heap.size + 1) l) (D := fun b => b = wl.heap.size ∨ b = wl.heap.size + 1) (fun k => tells_JQ (by omega) (by omega)) (fun u hu => ?_) (fun b hb => ?_) (fun w' hs hD => ?_) (fun i x hx => ?_) (fun i x w hx hJ hle => quiet1_any hl2 hx w hJ) fun wE hJ hold hle => ?_
    · simp only [List.mem_toArray, List.mem_singleton] at hu
      subst hu
      exact low_ptr (by omega)
    · rcases hb with rfl | rfl
      · exact ⟨_, _, _, hR3, fun u hu => by simp at hu⟩
      · refine ⟨_, _, _, hK3, fun u hu => ?_⟩
        simp only [List.mem_toArray, List.mem_singleton] at hu
        subst hu
        intro f g hfg
        rw [rV_s, rV_s]
        unfold rA
        simp only
        rw [hfg _ (by omega)]
    · refine ⟨_, (hD _ (.inr rfl)).trans hK3, by omega, ⟨?_, fun g cur t fz hg hc => ?_⟩⟩
      · exact ⟨by simp [vcellsL], .inr ⟨wl.heap.size, 0, #[], by simp, Nat.le_refl _, (hD _ (.inl rfl)).trans hR3, by simp, Nat.zero_le _, by simp, by simp [vcellsL]⟩⟩
      · obtain rfl : wl.heap.size = g := by simpa [Value.ownBlock] using hg
        rw [(hD _ (.inl rfl)).trans hR3] at hc
        have e := Option.some.inj hc
        injection e with e1
        subst e1
        exact fun u hu => by simp at hu
    · obtain ⟨g, off, hg0, hg, hcs⟩ := h.at hx
      refine ⟨g, off, hg0, by omega, fun j u hu => ?_⟩
      have hcell : ∀ q, w3.cell? ⟨g, q, none⟩ = wl.cell? ⟨g, q, none⟩ := fun q => by
        unfold World.cell?
        simp only
        rw [hH3.block g (by omega), hB.old g hg]
      rw [hcell]
      match j, hu with
      | 0, hu => cases hu; exact hcs 0 (by omega)
      | 1, hu => cases hu; exact hcs 1 (by omega)
      | 2, hu => cases hu; exact hcs 2 (by omega)
    obtain ⟨sv, q1, q2, q3⟩ := hJ
    refine K.back oQ4_2 h6 (by decide) _ fun a7 h7 => ?_
    refine Kp.ctl (fun w => stepG_region_end) ?_
    refine Kp.ctl (fun w => stepG_seq) ?_
    refine Kp.ctl (fun w => stepG_region) ?_
    rw [szQ5]
    refine K.loadS oQ5_0 hbe h7 (by decide) wanted0 rfl (by unfold World.cell?; simp [q1]; rfl) ⟨_, _, _, q1⟩ fun a8 h8 => ?_
    refine K.assign oQ5_1 hbe h8 (by decide) wanted0 rfl fun a9 h9 => ?_
    refine Kp.ctl (fun w => stepG_region_end) ?_
    refine K.ret hbn h9 hf hres rfl ?_
    refine k sv wE ?_ ⟨by omega, fun b hb => ?_⟩
    · rw [quiet_eq ht]
      exact vown_of rfl q3.own
    · rw [hold b (by omega) (by rintro (q | q) <;> omega), hH3.block b (by omega), hB.old b hb]
end Go.Proofs.Ytdjnnhdeijnhgab.Rn

/-
  The law's own helpers on rows of ticks.
-/
namespace Go.Proofs.Ytdjnnhdeijnhgab
open Go.RowKit Va
set_option linter.all false


theorem infoTick : (Try.prog.info? 42).map (fun i => (i.zero, i.size, i.bytes)) = some (some (.agg #[.int .i64 0, .bool false, .bool false]), 3, 16) := by kernel_rfl

set_option maxRecDepth 20000 in
set_option maxHeartbeats 4000000 in
theorem totk_any (x : Tk) (w : World) : Calls Try.prog 23 #[aTk x] w fun r w' => r = .returned (aTk x) ∧ Below w.heap.size w w' := by
  unfold aTk
  go_enter Try.func23, Try.ntmps23
  go_wp2
  exact bodyPost_ret (v := .agg #[.int .i64 x.v, .bool x.k, .bool x.h]) (by simp [results, Try.results23, go_sem]) rfl ⟨rfl, by repeat (first | exact Below.refl _ _ | assumption | refine st_drew ?_ | refine st_drewN ?_ _ | refine Below.setCell ?_ (by first | omega | (simp; done) | (simp; omega)) _ | refine Below.alloc ?_ (by first | omega | (simp; done) | (simp; omega)) _)⟩

set_option maxRecDepth 20000 in
set_option maxHeartbeats 8000000 in
theorem totks_any (v : Value) (l : List Tk) (w : World) (h : VRw 3 cvTk w v l) (hn : l.length ≤ 1048576) :
    Calls Try.prog 9 #[v] w fun e w' => ∃ v', e = .returned v' ∧ VOwn 3 cvTk w' w.heap.size v' l ∧ Below w.heap.size w w' := by
  have HH := hidden h
  obtain ⟨ao, cap, rfl⟩ := h.form
  clear h
  obtain ⟨i0, hi, hz0, hz1, hz2⟩ := info_parts infoTick
  go_enter Try.func9, Try.ntmps9
  go_wp2_with (refine wpList_make_full _ rfl (.tmp 6) (.tmp 6) 30 rfl w.heap.size 42 i0 (.agg #[.int .i64 0, .bool false, .bool false]) 3 Try.underlying30 hi hz0 hz1 .i64 .i64 _ _ l.length rfl rfl rfl rfl (by rw [hz2]; omega) (by unfold maxLen; omega) (Nat.le_refl _) ?_; intro w1 ho1 hg1)
  have b1 : Below w.heap.size w w1 := (Below.refl _ w).grown hg1 (Nat.le_refl _) (by simp)
  have ho := VOut.made (cs := cvTk) l ho1
  clear ho1 hg1
  go_wp2_with fail
  go_loopw [4] (fun iv wr => ∃ i : Nat, i ≤ l.length ∧ iv = .int .i64 i ∧ Below w.heap.size w wr ∧ VOut 3 cvTk wr w.heap.size l.length l i) (fun iv _ => l.length - (intOf iv).toNat)
  case atStart => exact ⟨0, Nat.zero_le _, rfl, b1, ho⟩
  case round =>
    clear b1 ho
    obtain ⟨i, hil, rfl, hb, ho⟩ := hrel
    by_cases hlt : i < l.length
    · have hlti : (i : Int) < (l.length : Int) := by omega
      obtain ⟨x, hx⟩ := some_of l i hlt
      obtain ⟨g, off, rfl, hg, hcs⟩ := (HH.out.below hb).at hx
      have c0 : wr.cell? ⟨g, off + i * 3, none⟩ = some (.int .i64 x.v) := hcs 0 (by omega)
      have c1 : wr.cell? ⟨g, off + i * 3 + 1, none⟩ = some (.bool x.k) := hcs 1 (by omega)
      have c2 : wr.cell? ⟨g, off + i * 3 + 2, none⟩ = some (.bool x.h) := hcs 2 (by omega)
      have hT := totk_any x
      unfold aTk at hT
      have HSet := hidden (fun W (hW : Below wr.heap.size wr W) => (ho.below hW).set hlt hx [.int .i64 x.v, .bool x.k, .bool x.h] rfl (fun k hk => by
        match k, hk with
        | 0, _ => rfl
        | 1, _ => rfl
        | 2, _ => rfl
))
      have HOld := hidden (fun W (hW : Below wr.heap.size wr W) (k : Nat) (hk : k < 3) => (ho.below hW).old hlt hk)
      clear hcs hx ho
      go_wp2_with (go_at_call 23; refine (hT _).mono ?_; rintro e w2 ⟨rfl, hb2⟩; have b2 := onto hb hb2; obtain ⟨⟨u0, hu0⟩, hf0⟩ := HOld.out w2 hb2 0 (by omega); obtain ⟨⟨u1, hu1⟩, hf1⟩ := HOld.out w2 hb2 1 (by omega); obtain ⟨⟨u2, hu2⟩, hf2⟩ := HOld.out w2 hb2 2 (by omega); simp only [Nat.add_zero] at hu0 hf0)
      have hset := HSet.out w2 hb2
      have b3 : Below w.heap.size w (put w2 w.heap.size (i * 3) [.int .i64 x.v, .bool x.k, .bool x.h]) := put_below _ _ _ _ b2 (Nat.le_refl _)
      clear HSet HOld hT hb2
      go_roundw
      case rel => exact ⟨i + 1, by omega, rfl, b3, hset⟩
      case measure => simp [intOf]; omega
    · have hlti : ¬ (i : Int) < (l.length : Int) := by omega
      have hil2 : i = l.length := by omega
      subst hil2
      go_wp2_with fail
      go_ret
      exact ⟨_, rfl, ho.own (Nat.le_refl _) _ (Nat.le_refl _), hb⟩

theorem sztks_any (ao : Option Addr) (n cap : Nat) (L : Int) (w : World) (hn : (n : Int) ≤ 9223372036854775807) (h0 : 0 ≤ L) (h1 : L ≤ 1048576) :
    Calls Try.prog 6 #[.slice ao n cap, .int .i64 L] w fun e w' => e = .returned (.int .i64 (if L < n then -1 else L - n)) ∧ w = w' := by
  by_cases h : L < (n : Int)
  · rw [if_pos h]
    have h2 : L - n < 0 := by omega
    go_enter Try.func6, Try.ntmps6
    go_wp2
    go_ret
    exact ⟨rfl, rfl⟩
  · rw [if_neg h]
    have h2 : ¬ L - n < 0 := by omega
    go_enter Try.func6, Try.ntmps6
    go_wp2
    go_ret
    exact ⟨rfl, rfl⟩

set_option maxRecDepth 20000 in
set_option maxHeartbeats 4000000 in
theorem eqtk_any (x : Tk) (w : World) : Calls Try.prog 30 #[aTk x, aTk x] w fun r w' => r = .returned (.bool true) ∧ Below w.heap.size w w' := by
  unfold aTk
  go_enter Try.func30, Try.ntmps30
  go_wp2
  go_ret
  exact ⟨rfl, by repeat (first | exact Below.refl _ _ | assumption | refine st_drew ?_ | refine st_drewN ?_ _ | refine Below.setCell ?_ (by first | omega | (simp; done) | (simp; omega)) _ | refine Below.alloc ?_ (by first | omega | (simp; done) | (simp; omega)) _)⟩

set_option maxRecDepth 20000 in
set_option maxHeartbeats 4000000 in
theorem eqtks_any (v u : Value) (l : List Tk) (w : World) (h : VRw 3 cvTk w v l) (h' : VRw 3 cvTk w u l) (hn : l.length ≤ 1048576) :
    Calls Try.prog 12 #[v, u] w fun e w' => e = .returned (.bool true) ∧ Below w.heap.size w w' := by
  have HH := hidden h
  have HH' := hidden h'
  obtain ⟨ao, cap, rfl⟩ := h.form
  obtain ⟨ao', cap', rfl⟩ := h'.form
  clear h h'
  go_enter Try.func12, Try.ntmps12
  go_wp2_with fail
  go_loopw [5] (fun iv wr => ∃ i : Nat, i ≤ l.length ∧ iv = .int .i64 i ∧ Below w.heap.size w wr) (fun iv _ => l.length - (intOf iv).toNat)
  case atStart => exact ⟨0, Nat.zero_le _, rfl, Below.refl _ _⟩
  case round =>
    obtain ⟨i, hil, rfl, hb⟩ := hrel
    by_cases hlt : i < l.length
    · have hlti : (i : Int) < (l.length : Int) := by omega
      have hi0 : (0 : Int) ≤ (i : Int) := by omega
      obtain ⟨x, hx⟩ := some_of l i hlt
      obtain ⟨g, off, rfl, hg, hcs⟩ := (HH.out.below hb).at hx
      obtain ⟨g', off', rfl, hg', hcs'⟩ := (HH'.out.below hb).at hx
      have c0 : wr.cell? ⟨g, off + i * 3, none⟩ = some (.int .i64 x.v) := hcs 0 (by omega)
      have d0 : wr.cell? ⟨g', off' + i * 3, none⟩ = some (.int .i64 x.v) := hcs' 0 (by omega)
      have c1 : wr.cell? ⟨g, off + i * 3 + 1, none⟩ = some (.bool x.k) := hcs 1 (by omega)
      have d1 : wr.cell? ⟨g', off' + i * 3 + 1, none⟩ = some (.bool x.k) := hcs' 1 (by omega)
      have c2 : wr.cell? ⟨g, off + i * 3 + 2, none⟩ = some (.bool x.h) := hcs 2 (by omega)
      have d2 : wr.cell? ⟨g', off' + i * 3 + 2, none⟩ = some (.bool x.h) := hcs' 2 (by omega)
      have HE := hidden (eqtk_any x)
      unfold aTk at HE
      clear hcs hcs' hx
      go_wp2_with fail
      go_region_with (go_at_call 30; refine (HE.out _).mono ?_; rintro e w2 ⟨rfl, hb2⟩; have b2 := onto (show Below w.heap.size w _ from by first | exact hb | exact st_drew hb) hb2)
      all_goals go_wp2_with fail
      all_goals go_roundw
      all_goals first
        | (simp [intOf]; omega)
        | exact ⟨i + 1, by omega, rfl, by first | exact b2 | exact st_drew b2⟩
    · have hlti : ¬ (i : Int) < (l.length : Int) := by omega
      go_wp2_with fail
      go_ret
      exact ⟨rfl, hb⟩


def boolOftk (v : Value) : Bool := match v with | .bool b => b | _ => false
def kdtk (k : Nat) : Kd := match k with | 0 => Kd.int | 1 => Kd.bool | _ => Kd.bool
def mkTk (f : Nat → Value) : Tk := ⟨intOf (f 0), boolOftk (f 1), boolOftk (f 2)⟩
theorem mkTk_at (f : Nat → Value) (h : ∀ k, k < 3 → KdOk (kdtk k) (f k)) (k : Nat) (hk : k < 3) : cvTk (mkTk f) k = f k := by
  have hh := h k hk
  match k, hk with
  | 0, _ => obtain ⟨z, hz⟩ := hh; show .int .i64 (mkTk f).v = f 0; simp only [mkTk]; rw [hz]; rfl
  | 1, _ => obtain ⟨z, hz⟩ := hh; show .bool (mkTk f).k = f 1; simp only [mkTk]; rw [hz]; rfl
  | 2, _ => obtain ⟨z, hz⟩ := hh; show .bool (mkTk f).h = f 2; simp only [mkTk]; rw [hz]; rfl

set_option maxRecDepth 100000 in
theorem fsTick : ∃ fs, Try.prog.underlying 44 = some (.struct fs) ∧ ∀ k, k < 3 → ∃ f, fs[k]? = some f ∧ f.offset = k ∧ Try.prog.cellsOf f.type = 1 ∧ KdTy Try.prog (kdtk k) f.type := by
  refine ⟨_, Try.underlying44, fun k hk => ?_⟩
  match k, hk with
  | 0, _ => exact ⟨_, rfl, rfl, by kernel_rfl, Try.underlying2⟩
  | 1, _ => exact ⟨_, rfl, rfl, by kernel_rfl, Try.underlying4⟩
  | 2, _ => exact ⟨_, rfl, rfl, by kernel_rfl, Try.underlying4⟩

set_option maxRecDepth 100000 in
theorem tks_of_read {H : Type} {enc : TypeId × Value → H} {W : World} {sp : Nat → Bool} {hd : Bool} {ao : Option Addr} {n cap : Nat} {d : DataW H} {p : List MemPlace}
    (h : DataW.Trod enc Try.prog W 0 sp hd 24 (.slice ao n cap) d p) : ∃ l : List Tk, l.length = n ∧ n ≤ maxLen ∧ VRw 3 cvTk W (.slice ao n cap) l := by
  obtain ⟨fb, hb1, hb2⟩ := fsTick
  exact vrows_of_read kdtk mkTk (fun f h k hk => mkTk_at f h k hk) (by omega) Try.underlying24 hb1 (by kernel_rfl) hb2 h

def cmtk (x : Int) (k : Nat) : Value := match k with | 0 => .int .i64 (x + 0) | 1 => .bool ((x + 1) % 3 == 0) | _ => .bool ((x + 2) % 3 == 0)

set_option maxRecDepth 20000 in
set_option maxHeartbeats 8000000 in
theorem marktk_some (G n cap : Nat) (l0 : List Tk) (k0 : Int) (w : World) (h : VOut 3 cvTk w G n l0 n) (hn : n ≤ 1048576) (hk0 : 0 ≤ k0) (hk1 : k0 ≤ 1000000000) :
    Calls Try.prog 13 #[.slice (some ⟨G, 0, none⟩) n cap, .int .i64 k0] w fun e w' => e = .returned (.int .i64 (k0 + 3 * (n : Int))) ∧ VOut 3 cmtk w' G n (marks 3 k0 n) n ∧ Aside w w' (.slice (some ⟨G, 0, none⟩) n cap) := by
  have h0 : VOut 3 cmtk w G n (marks 3 k0 n) 0 := ⟨h.1, h.2.1, fun j x hj => absurd hj (by omega)⟩
  clear h
  go_enter Try.func13, Try.ntmps13
  go_wp2_with fail
  go_loopw [1, 5] (fun kv iv wr => ∃ i : Nat, i ≤ n ∧ kv = .int .i64 (k0 + 3 * (i : Int)) ∧ iv = .int .i64 i ∧ VOut 3 cmtk wr G n (marks 3 k0 n) i ∧ Aside w wr (.slice (some ⟨G, 0, none⟩) n cap)) (fun _ iv _ => n - (intOf iv).toNat)
  case atStart => exact ⟨0, Nat.zero_le _, by simp, rfl, h0, Aside.refl _ _⟩
  case round =>
    clear h0
    obtain ⟨i, hi, rfl, rfl, ho, ha⟩ := hrel
    by_cases hlt : i < n
    · have hlti : (i : Int) < (n : Int) := by omega
      have hset := ho.set hlt (marks_get 3 k0 n i hlt) [.int .i64 (k0 + 3 * (i : Int)), .bool ((k0 + 3 * (i : Int) + 1) % 3 == 0), .bool ((k0 + 3 * (i : Int) + 1 + 1) % 3 == 0)] rfl (fun k hk => by
        match k, hk with
        | 0, _ => exact congrArg (fun z => some (Value.int .i64 z)) (show k0 + 3 * (i : Int) = k0 + 3 * (i : Int) + 0 by omega)
        | 1, _ => exact congrArg (fun z : Int => some (Value.bool (z % 3 == 0))) (show k0 + 3 * (i : Int) + 1 = k0 + 3 * (i : Int) + 1 by omega)
        | 2, _ => exact congrArg (fun z : Int => some (Value.bool (z % 3 == 0))) (show k0 + 3 * (i : Int) + 1 + 1 = k0 + 3 * (i : Int) + 2 by omega)
)
      obtain ⟨⟨u0, hu0⟩, hf0⟩ := ho.old hlt (show 0 < 3 by omega)
      obtain ⟨⟨u1, hu1⟩, hf1⟩ := ho.old hlt (show 1 < 3 by omega)
      obtain ⟨⟨u2, hu2⟩, hf2⟩ := ho.old hlt (show 2 < 3 by omega)
      simp only [Nat.add_zero] at hu0 hf0
      have ha2 := Aside.put [.int .i64 (k0 + 3 * (i : Int)), .bool ((k0 + 3 * (i : Int) + 1) % 3 == 0), .bool ((k0 + 3 * (i : Int) + 1 + 1) % 3 == 0)] (i * 3) ha
      clear ho ha
      go_wp2_with fail
      go_roundw
      case rel => exact ⟨i + 1, by omega, by congr 1; omega, rfl, hset, ha2⟩
      case measure => simp [intOf]; omega
    · have hlti : ¬ (i : Int) < (n : Int) := by omega
      have hin : i = n := by omega
      subst hin
      go_wp2_with fail
      go_ret
      exact ⟨rfl, ho, ha⟩

set_option maxRecDepth 20000 in
set_option maxHeartbeats 2000000 in
theorem marktk_none (ao : Option Addr) (cap : Nat) (k0 : Int) (w : World) :
    Calls Try.prog 13 #[.slice ao 0 cap, .int .i64 k0] w fun e w' => e = .returned (.int .i64 k0) ∧ w' = w := by
  go_enter Try.func13, Try.ntmps13
  go_wp2_with fail
  go_loopw [1, 5] (fun kv iv wr => wr = w ∧ kv = .int .i64 k0 ∧ iv = .int .i64 0) (fun _ _ _ => 0)
  case atStart => exact ⟨rfl, rfl, rfl⟩
  case round =>
    obtain ⟨rfl, rfl, rfl⟩ := hrel
    go_wp2_with fail
    go_ret
    exact ⟨rfl, rfl⟩

theorem marktk_any (v : Value) (l : List Tk) (base : Nat) (k0 : Int) (w : World) (h : VOwn 3 cvTk w base v l) (hn : l.length ≤ 1048576) (hk0 : 0 ≤ k0) (hk1 : k0 ≤ 1000000000) :
    Calls Try.prog 13 #[v, .int .i64 k0] w fun e w' => e = .returned (.int .i64 (k0 + 3 * (l.length : Int))) ∧ VOwn 3 cmtk w' base v (marks 3 k0 l.length) ∧ Aside w w' v ∧ (l.length = 0 → w' = w) := by
  obtain ⟨ao, cap, rfl, hc, hh⟩ := h
  rcases Nat.eq_zero_or_pos l.length with h0 | hpos
  · rw [h0]
    refine (marktk_none ao cap k0 w).mono ?_
    rintro e w' ⟨rfl, rfl⟩
    exact ⟨by simp, ⟨ao, cap, rfl, Nat.zero_le _, Or.inl rfl⟩, Aside.refl _ _, fun _ => rfl⟩
  · obtain ⟨G, rfl, hG, ho⟩ := hh.resolve_left (by omega)
    refine (marktk_some G l.length cap l k0 w ho hn hk0 hk1).mono ?_
    rintro e w' ⟨rfl, ho', ha⟩
    exact ⟨rfl, ⟨_, cap, by rw [marks_len], by rw [marks_len]; exact hc, Or.inr ⟨G, rfl, hG, by rw [marks_len]; exact ho'⟩⟩, ha, fun h0 => absurd h0 (by omega)⟩

set_option maxRecDepth 20000 in
set_option maxHeartbeats 8000000 in
theorem heldtk_any (v : Value) (k0 : Int) (n : Nat) (w : World) (h : VRw 3 cmtk w v (marks 3 k0 n)) (hn : n ≤ 1048576) (hk0 : 0 ≤ k0) (hk1 : k0 ≤ 1000000000) :
    Calls Try.prog 20 #[v, .int .i64 k0] w fun e w' => e = .returned (.int .i64 (k0 + 3 * (n : Int))) ∧ w' = w := by
  have HH := hidden h
  obtain ⟨ao, cap, rfl⟩ := h.form
  clear h
  rw [marks_len]
  rw [marks_len] at HH
  go_enter Try.func20, Try.ntmps20
  go_wp2_with fail
  go_loopw [1, 5] (fun kv iv wr => wr = w ∧ ∃ i : Nat, i ≤ n ∧ kv = .int .i64 (k0 + 3 * (i : Int)) ∧ iv = .int .i64 i) (fun _ iv _ => n - (intOf iv).toNat)
  case atStart => exact ⟨rfl, 0, Nat.zero_le _, by simp, rfl⟩
  case round =>
    obtain ⟨rfl, i, hi, rfl, rfl⟩ := hrel
    by_cases hlt : i < n
    · have hlti : (i : Int) < (n : Int) := by omega
      obtain ⟨g, off, rfl, hg, hcs⟩ := HH.out.at (marks_get 3 k0 n i hlt)
      have c0 : wr.cell? ⟨g, off + i * 3, none⟩ = some (.int .i64 (k0 + 3 * (i : Int))) := (hcs 0 (by omega)).trans (congrArg (fun z => some (Value.int .i64 z)) (show k0 + 3 * (i : Int) + 0 = k0 + 3 * (i : Int) by omega))
      have c1 : wr.cell? ⟨g, off + i * 3 + 1, none⟩ = some (.bool ((k0 + 3 * (i : Int) + 1) % 3 == 0)) := (hcs 1 (by omega)).trans (congrArg (fun z : Int => some (Value.bool (z % 3 == 0))) (show k0 + 3 * (i : Int) + 1 = k0 + 3 * (i : Int) + 1 by omega))
      have c2 : wr.cell? ⟨g, off + i * 3 + 2, none⟩ = some (.bool ((k0 + 3 * (i : Int) + 1 + 1) % 3 == 0)) := (hcs 2 (by omega)).trans (congrArg (fun z : Int => some (Value.bool (z % 3 == 0))) (show k0 + 3 * (i : Int) + 2 = k0 + 3 * (i : Int) + 1 + 1 by omega))
      clear hcs
      go_wp2_with fail
      go_roundw
      case rel => exact ⟨by first | rfl | trivial, i + 1, by omega, by congr 1; omega, rfl⟩
      case measure => simp [intOf]; omega
    · have hlti : ¬ (i : Int) < (n : Int) := by omega
      have hin : i = n := by omega
      subst hin
      go_wp2_with fail
      go_ret
      exact ⟨rfl, rfl⟩
end Go.Proofs.Ytdjnnhdeijnhgab

/-
  The law's helpers on ticks, as goroutine 0 calls them beside leavers.
-/
namespace Go.Proofs.Ytdjnnhdeijnhgab.Rn
open Go Go.Conc Va Go.RowKit
set_option linter.all false
set_option maxRecDepth 20000

theorem VRw.hb {w w' : World} {v : Value} {l : List Tk} (h : VRw 3 cvTk w v l) (k : HB w.heap.size w w') : VRw 3 cvTk w' v l := _root_.Go.Proofs.Ytdjnnhdeijnhgab.VRw.below (w := { w with tape := w'.tape, os := w'.os, output := w'.output }) h k.below
theorem VOwn.hb {α : Type} {cs : α → Nat → Value} {w w' : World} {b : Nat} {v : Value} {l : List α} (h : VOwn 3 cs w b v l) (k : HB w.heap.size w w') : VOwn 3 cs w' b v l := _root_.Go.Proofs.Ytdjnnhdeijnhgab.VOwn.below (w := { w with tape := w'.tape, os := w'.os, output := w'.output }) h k.below
section
variable {A : Nat → Prop} {b : Frame} {a : Act} {ops : Array Oper} {i d n : Nat} {rest : List Nat} {kk : List Item} {cs : List Frame} {wl : World} {Q : Goroutine → World → Prop} {vs : List (Nat × Value)}
/-- A call that yields a value of which this is told. -/
theorem K.callR {f : Nat} (hA : f ∈ AQ) {xs : Array Operand} {ts : Array TypeId} {args : Array Value} {g : Option (Nat × Bool)} (ho : ∃ o, ops[i]? = some o ∧ o.dst = some d ∧ o.guard = g ∧ o.op = .call { callee := .value (.func f), args := xs, argTypes := ts }) (hb : b.kind ≠ .early) (h : LA n a vs) (hd : d < n) (hw : ∀ o : Oper, o.guard = g → Region.wanted o (yielded ops a.tmps) = true) (hE : Enters f) (hx : xs.map a.eval = args)
    {R : Value → World → Prop} (hR : ∀ T, Calls Try.prog f args { wl with tape := T, drawn := 0 } fun e w => ∃ v, e = .returned v ∧ R v w)
    (k : ∀ v wE a', R v wE → LA n a' ((d, v) :: vs) → Kp Try.prog (G (b.at a' (.inRegion ops rest :: kk)) cs) wE Q) : Kp Try.prog (G (b.at a (.inRegion ops (i :: rest) :: kk)) cs) wl Q :=
  K.call prgQ closedQ fixQ hA ho hb h hd hw hE hx hR (fun e w ⟨v, q, _⟩ => ⟨v, q⟩) fun v wE a' ⟨v', q, hr⟩ ha => k v wE a' (by injection q with q; rw [q]; exact hr) ha
end
section
variable {wl : World} {v u : Value} {l : List Tk}
theorem c_to (h : VRw 3 cvTk wl v l) (hn : l.length ≤ 1048576) (T : Tape) : Calls Try.prog 9 #[v] { wl with tape := T, drawn := 0 } fun e w => ∃ v', e = .returned v' ∧ VOwn 3 cvTk w wl.heap.size v' l ∧ HB wl.heap.size wl w :=
  (totks_any v l { wl with tape := T, drawn := 0 } h hn).mono fun e w ⟨v', q1, q2, q3⟩ => ⟨v', q1, q2, HB.of q3⟩
theorem c_spec (h : VRw 3 cvTk wl v l) (hn : l.length ≤ 1048576) (T : Tape) : Calls Try.prog 18 #[v] { wl with tape := T, drawn := 0 } fun e w => ∃ v', e = .returned v' ∧ VOwn 3 cvTk w wl.heap.size v' (quiet l) ∧ HB wl.heap.size wl w :=
  (squiet_any v l { wl with tape := T, drawn := 0 } h hn).mono fun e w ⟨v', q1, q2, q3⟩ => ⟨v', q1, q2, HB.of q3⟩
theorem c_eq (h : VRw 3 cvTk wl v l) (h' : VRw 3 cvTk wl u l) (hn : l.length ≤ 1048576) (T : Tape) : Calls Try.prog 12 #[v, u] { wl with tape := T, drawn := 0 } fun e w => ∃ v', e = .returned v' ∧ v' = .bool true ∧ HB wl.heap.size wl w :=
  (eqtks_any v u l { wl with tape := T, drawn := 0 } h h' hn).mono fun e w ⟨q1, q2⟩ => ⟨_, q1, rfl, HB.of q2⟩
theorem c_sz {ao : Option Addr} {m cap : Nat} (hm : (m : Int) ≤ 9223372036854775807) (T : Tape) : Calls Try.prog 6 #[.slice ao m cap, .int .i64 1048576] { wl with tape := T, drawn := 0 } fun e w => ∃ v', e = .returned v' ∧ v' = .int .i64 (if (1048576 : Int) < m then -1 else 1048576 - m) ∧ w.heap = wl.heap :=
  (sztks_any ao m cap 1048576 { wl with tape := T, drawn := 0 } hm (by omega) (by omega)).mono fun e w ⟨q1, q2⟩ => ⟨_, q1, rfl, by rw [← q2]⟩
theorem c_held {m : Nat} (h : VRw 3 cmtk wl v (marks 3 1 m)) (hm : m ≤ 1048576) (T : Tape) : Calls Try.prog 20 #[v, .int .i64 1] { wl with tape := T, drawn := 0 } fun e w => ∃ v', e = .returned v' ∧ v' = .int .i64 (1 + 3 * (m : Int)) ∧ w.heap = wl.heap :=
  (heldtk_any v 1 m { wl with tape := T, drawn := 0 } h hm (by omega) (by omega)).mono fun e w ⟨q1, q2⟩ => ⟨_, q1, rfl, by rw [q2]⟩
theorem c_mark {base : Nat} {wx : World} (hx : VOwn 3 cvTk wx base v l) (h : VOwn 3 cvTk wl base v l) (hn : l.length ≤ 1048576) (T : Tape) : Calls Try.prog 13 #[v, .int .i64 1] { wl with tape := T, drawn := 0 } fun e w => ∃ v', e = .returned v' ∧ v' = .int .i64 (1 + 3 * (l.length : Int)) ∧ VOwn 3 cmtk w base v (marks 3 1 l.length) ∧ HB base wl w ∧ ∀ b2 v2 l2, wx.heap.size ≤ b2 → VOwn 3 cvTk wl b2 v2 l2 → VOwn 3 cvTk w b2 v2 l2 :=
  (marktk_any v l base 1 { wl with tape := T, drawn := 0 } h hn (by omega) (by omega)).mono fun e w ⟨q1, q2, q3, q4⟩ => ⟨_, q1, rfl, q2, HB.of (VOwn.mark_below (w := { wl with tape := T, drawn := 0 }) h q3 q4 (Below.refl _ _) (Nat.le_refl _)), fun b2 v2 l2 hb h2 => VOwn.mark_own (w := { wl with tape := T, drawn := 0 }) hx hb q3 q4 h2⟩
end
end Go.Proofs.Ytdjnnhdeijnhgab.Rn
