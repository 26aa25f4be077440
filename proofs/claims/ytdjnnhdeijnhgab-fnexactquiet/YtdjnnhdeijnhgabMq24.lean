/-
  forEachTick WHOLE, beside whatever leaves: the closure has been handed every tick, in order.
-/
import Derived.Test.YtdjnnhdeijnhgabMq23
import Derived.Test.YtdjnnhdeijnhgabMq18
import Derived.Test.YtdjnnhdeijnhgabMq21
import Derived.Test.YtdjnnhdeijnhgabMq22
namespace Go.Proofs.Ytdjnnhdeijnhgab.Rn
open Go Go.Conc Va
set_option linter.all false
set_option maxRecDepth 20000

open Classical in
theorem each_any {A : Nat → Prop} (hP : Prg Try.prog A) (hC : ∀ f, Closed Try.prog f) (hX : ∀ Dd f, Fix Try.prog Dd f) {fc : Nat} (hA : A fc) {caps : Array Value} (hclo : Clo fc caps) {wl : World} {l : List Tk} {ao : Option Addr} {cap : Nat} (hl : l.length ≤ 1048576) {J : Nat → World → Prop} {D : Nat → Prop} {c : Frame} {cc : List Frame} {Q : Goroutine → World → Prop}
    (hT : ∀ k, Tells wl.heap.size (J k)) (hcaps : ∀ v ∈ caps, Low wl.heap.size v)
    (hD : ∀ b, D b → ∃ cs e fz, wl.heap[b]? = some (.cells cs e fz) ∧ ∀ v ∈ cs, Low wl.heap.size v)
    (hJ0 : ∀ w' : World, w'.heap.size = wl.heap.size → (∀ b, D b → w'.heap[b]? = wl.heap[b]?) → J 0 w')
    (htk : ∀ k x, l[k]? = some x → ∃ bt off, ao = some ⟨bt, off, none⟩ ∧ ¬ D bt ∧ wl.rangeAt bt (off + k * 3) [.int .i64 x.v, .bool x.k, .bool x.h])
    (hcall : ∀ k x w, l[k]? = some x → J k w → wl.heap.size ≤ w.heap.size → Calls Try.prog fc (#[aTk x] ++ caps) w fun e w' => e = .returned (.tuple #[]) ∧ J (k + 1) w')
    (k : ∀ wE, J l.length wE → (∀ b, b < wl.heap.size → ¬ D b → wE.heap[b]? = wl.heap[b]?) → wl.heap.size ≤ wE.heap.size → Kp Try.prog (G (c.finish (.tuple #[])) cc) wE Q) :
    Kp Try.prog (G (Frame.enter Try.prog 26 #[.slice ao l.length cap, .func (.func fc) #[] caps] .normal) (c :: cc)) wl Q := by
  intro x hk h0
  have hbe : bF.kind ≠ .early := by unfold bF; simp
  have hDlt : ∀ b, D b → b < wl.heap.size := fun b hb => by obtain ⟨cs, e, fz, q, -⟩ := hD b hb; exact (Array.getElem?_eq_some_iff.1 q).1
  rw [enterF] at h0
  -- to the channel
  have p1 : Kp Try.prog (G (bF.at (a0F (.slice ao l.length cap) (.func (.func fc) #[] caps)) [.code bodyF]) (c :: cc)) wl (fun g w => g = G (bF.at (a0F (.slice ao l.length cap) (.func (.func fc) #[] caps)) (.inRegion rF0 [0, 1] :: .code ((Code.region 1 rF1 false).seq (Code.block 0 (Code.loop LcF))) :: [])) (c :: cc) ∧ w.heap = wl.heap) := by
    rw [bodyF_eq]
    refine Kp.ctl (fun w => stepG_seq) ?_
    refine Kp.ctl (fun w => stepG_region) ?_
    rw [szF0]
    exact Kp.done ⟨rfl, rfl⟩
  obtain ⟨x1, g1, w1, ⟨rfl, e1⟩, hg1, hk1, ht1⟩ := p1 x hk h0
  obtain ⟨x2, m1, m2, m3, m4, m5, m6, m7⟩ := lv_new (fr' := fun r => bF.at ((a0F (.slice ao l.length cap) (.func (.func fc) #[] caps)).put (some 7) (.chan (some r))) (.inRegion rF0 [1] :: .code ((Code.region 1 rF1 false).seq (Code.block 0 (Code.loop LcF))) :: [])) hk1.2.2 hg1 (fun w => st_chan oF00 hbe)
  have hx1sz : x1.w.heap.size = wl.heap.size := by rw [← hk1.2.1, e1]
  have hxsz : x.w.heap.size = wl.heap.size := hk.2.1.symm
  rw [hx1sz] at m3
  -- what lies there, seen from goroutine 0, with the channel
  have hw1 : ∀ b, b < wl.heap.size → (wl.heap.push Dead)[b]? = wl.heap[b]? := fun b hb => by rw [Array.getElem?_push, if_neg (by omega)]
  have hkw2 : KW Try.prog { wl with heap := wl.heap.push Dead } x2 := by
    have hW := hk1.1
    have up : ∀ (b : Nat) (o : Obj), (wl.heap.push Dead)[b]? = some o → o ≠ Dead → w1.heap[b]? = some o := fun b o hb hn => by
      rw [Array.getElem?_push] at hb
      split at hb
      · exact absurd (Option.some.inj hb).symm hn
      · rw [e1]; exact hb
    have lt2 : ∀ b o, w1.heap[b]? = some o → x2.w.heap[b]? = x1.w.heap[b]? := fun b o hb => by
      have : b < w1.heap.size := (Array.getElem?_eq_some_iff.1 hb).1
      rw [m4, Array.getElem?_push, if_neg (by rw [hx1sz, ← e1]; omega)]
    refine ⟨⟨fun b cs e fz hb => ?_, fun b a l hb => ?_, fun b o hb => ?_, fun _ q => q, fun _ q => q, fun b b' _ _ e => e, fun b hb => ?_⟩, ?_, m2⟩
    · have h1 := up b _ hb (by simp [Dead])
      exact (lt2 b _ h1).trans (hW.cells b cs e fz h1)
    · have h1 := up b _ hb (by simp [Dead])
      exact (lt2 b _ h1).trans (hW.nums b a l h1)
    · by_cases ho : o = Dead
      · exact .inr (.inr ho)
      · exact hW.plain b o (up b o hb ho)
    · have hb' : b < wl.heap.size + 1 := by simpa using hb
      show b < x2.w.heap.size
      rw [m4]; simp; omega
    · show (wl.heap.push Dead).size = x2.w.heap.size
      rw [m4]; simp; omega
  -- to the go statement
  have p2 : Kp Try.prog (G (bF.at ((a0F (.slice ao l.length cap) (.func (.func fc) #[] caps)).put (some 7) (.chan (some wl.heap.size))) (.inRegion rF0 [1] :: .code ((Code.region 1 rF1 false).seq (Code.block 0 (Code.loop LcF))) :: [])) (c :: cc)) { wl with heap := wl.heap.push Dead } (fun g w => g = G (bF.at (aF (.slice ao l.length cap) (.func (.func fc) #[] caps) wl.heap.size undef undef undef undef (.chan (some wl.heap.size)) (.slice ao l.length cap) (.chan (some wl.heap.size)) undef undef undef undef undef undef undef undef undef undef undef) (.inRegion rF1 [2] :: .code (Code.block 0 (Code.loop LcF)) :: [])) (c :: cc) ∧ w.heap = wl.heap.push Dead) := by
    refine Kp.ctl (fun w => st_assign oF01 hbe (v := .chan (some wl.heap.size)) rfl) ?_
    refine Kp.ctl (fun w => stepG_region_end) ?_
    refine Kp.ctl (fun w => stepG_seq) ?_
    refine Kp.ctl (fun w => stepG_region) ?_
    rw [szF1]
    refine Kp.ctl (fun w => st_move oF10 hbe (v := .slice ao l.length cap) rfl) ?_
    refine Kp.ctl (fun w => st_move oF11 hbe (v := .chan (some wl.heap.size)) rfl) ?_
    rw [putsF]
    exact Kp.done ⟨rfl, rfl⟩
  obtain ⟨x3, g3, w3, ⟨rfl, e3⟩, hg3, hk3, ht3⟩ := p2 x2 hkw2 m3
  have hx3sz : x3.w.heap.size = wl.heap.size + 1 := by
    have := hk3.2.1
    rw [← this, e3]; simp
  have hch : x3.w.heap[wl.heap.size]? = some (.chan 0 #[] false 0 0 false) := by
    rw [ht3.out wl.heap.size (by rw [m4]; simp; omega) (fun ⟨cs, e, fz, q⟩ => by
      change (wl.heap.push Dead)[wl.heap.size]? = _ at q
      simp [Dead] at q), m4, ← hx1sz]
    simp
  have hcell3 : ∀ (b : Nat) cs e fz, wl.heap[b]? = some (.cells cs e fz) → x3.w.heap[b]? = some (.cells cs e fz) := by
    intro b cs e fz hb
    have h1 : w3.heap[b]? = some (.cells cs e fz) := by
      rw [e3, hw1 b (Array.getElem?_eq_some_iff.1 hb).1]; exact hb
    have := hk3.1.cells b cs e fz h1
    rwa [rVs_id] at this
  have hold3 : ∀ b, b < wl.heap.size → ¬ IsC wl b → x3.w.heap[b]? = x.w.heap[b]? := by
    intro b hb hc
    rw [ht3.out b (by rw [m4]; simp; omega) (fun ⟨cs, e, fz, q⟩ => hc ⟨cs, e, fz, by rw [← hw1 b hb]; exact q⟩), m4, Array.getElem?_push, if_neg (by omega)]
    exact ht1.out b (by omega) hc
  have htk3 : TkAt ao l wl.heap.size x3.w (fun b => (b < wl.heap.size ∧ ¬ D b) ∨ b = wl.heap.size) := by
    intro k t hk'
    obtain ⟨bt, off, r1, r2, r3⟩ := htk k t hk'
    obtain ⟨cs, e, fz, hb⟩ := (hk.1.cell (r3 0 (.int .i64 t.v) rfl)).2
    change wl.heap[bt]? = _ at hb
    have hlt := (Array.getElem?_eq_some_iff.1 hb).1
    refine ⟨bt, off, r1, .inl ⟨hlt, r2⟩, by omega, fun i v hi => ?_⟩
    have := r3 i v hi
    unfold World.cell? at this ⊢
    rw [hcell3 bt cs e fz hb]
    rwa [hb] at this
  obtain ⟨j, z, hj, n1, n2, n3, n4, n5⟩ := ip_start (S := D) (cap := cap) hk3.2.2 hg3 (fun w => st_go rfl rfl) hx3sz hch htk3 hl
  -- goroutine 0's view
  let wv : World := only D { wl with heap := wl.heap.push Dead }
  have hwv : ∀ (b : Nat) (o : Obj), wv.heap[b]? = some o → o ≠ Dead → D b ∧ wl.heap[b]? = some o := fun b o hb hn => by
    obtain ⟨h1, h2⟩ := only_alive hb hn
    exact ⟨h2, by rw [← hw1 b (hDlt b h2)]; exact h1⟩
  have hwvs : wv.heap.size = wl.heap.size + 1 := by
    show (only D _).heap.size = _
    rw [only_size]; simp
  have hvw0 : Vw (IP (piS j wl.heap.size wl.heap.size cap ao l D x3.w) 0) z wv := by
    refine ⟨n2, ⟨fun b o hb hn => ?_, by rw [hwvs, n4, hx3sz]⟩, fun b hb => ?_⟩
    · obtain ⟨h1, h2⟩ := hwv b o hb hn
      obtain ⟨cs, e, fz, q, ql⟩ := hD b h1
      rw [h2] at q
      obtain rfl := Option.some.inj q
      refine ⟨by rw [n4]; exact hcell3 b cs e fz h2, cs, e, fz, rfl, fun v hv => (ql v hv).mono (by rw [hwvs]; omega)⟩
    · obtain ⟨o, hb, hn⟩ := hb
      obtain ⟨h1, h2⟩ := hwv b o hb hn
      have := hDlt b h1
      rw [n5]
      rintro (q | q)
      · exact q.2 h1
      · omega
  have hjw0 : JW wl.heap.size (J 0) wv := by
    refine ⟨(hT 0).emb idF (only D wl) wv (fun _ _ => rfl) (fun _ h _ => h) ⟨fun b cs e fz q => ?_, fun b q => ?_⟩ (hJ0 _ (only_size D wl) fun b hb => only_at hb), by rw [hwvs]; omega⟩
    · rw [rVs_id]
      obtain ⟨q1, q2⟩ := only_alive q (by simp [Dead])
      show (only D _).heap[b]? = _
      rw [only_at q2]
      exact (hw1 b (hDlt b q2)).trans q1
    · rw [only_size] at q
      show b < _
      omega
  -- to the loop
  have hK0 := ip_comp (okS (j := j) (ch := wl.heap.size) (base := wl.heap.size) (cap := cap) (ao := ao) (S := D) (w0 := x3.w) hl hj (Nat.le_refl _)) 0
  have p4 : Cj Try.prog (IP (piS j wl.heap.size wl.heap.size cap ao l D x3.w) 0) (G (bF.at (aF (.slice ao l.length cap) (.func (.func fc) #[] caps) wl.heap.size undef undef undef undef (.chan (some wl.heap.size)) (.slice ao l.length cap) (.chan (some wl.heap.size)) undef undef undef undef undef undef undef undef undef undef undef) (.inRegion rF1 [] :: .code (Code.block 0 (Code.loop LcF)) :: [])) (c :: cc)) (JW wl.heap.size (J 0)) (fun g w => g = G (bF.at (aF (.slice ao l.length cap) (.func (.func fc) #[] caps) wl.heap.size undef undef undef undef (.chan (some wl.heap.size)) (.slice ao l.length cap) (.chan (some wl.heap.size)) undef undef undef undef undef undef undef undef undef undef undef) (.code LcF :: KF)) (c :: cc) ∧ JW wl.heap.size (J 0) w) := by
    refine Cj.ctl hK0 (calm_JW (hT 0)) (fun w => stepG_region_end) ?_
    refine Cj.ctl hK0 (calm_JW (hT 0)) (fun w => stepG_block) ?_
    refine Cj.ctl hK0 (calm_JW (hT 0)) (fun w => stepG_loop) ?_
    exact fun wl hj => Cp.done ⟨rfl, hj⟩
  obtain ⟨z2, g4, w4, ⟨rfl, hj4⟩, r1, r2, r3⟩ := p4 wv hjw0 z hvw0 n3
  obtain ⟨y, wE, hE⟩ := eachLoop hl hj (Nat.le_refl _) hP hC hX hA hT hclo hcaps hcall l.length 0 (by omega) z2 w4 _ _ _ _ _ _ _ _ _ _ _ _ _ _ _ _ _ _ r2 hj4 r1
  have hnD : ∀ b, b < wl.heap.size → ¬ D b → y.w.heap[b]? = x3.w.heap[b]? := hE.old
  have hDC : ∀ b, D b → IsC wl b := fun b hb => by obtain ⟨cs, e, fz, q, -⟩ := hD b hb; exact ⟨cs, e, fz, q⟩
  have hysz := hE.le
  have hwEs : (only (fun b => wl.heap.size ≤ b ∨ Alive wl b) (kill y.w)).heap.size = y.w.heap.size := by
    rw [only_size]; unfold kill; simp
  have hkill : ∀ b : Nat, (kill y.w).heap[b]? = (y.w.heap[b]?).map killO := fun b => by unfold kill; simp
  have hJE : J l.length (only (fun b => wl.heap.size ≤ b ∨ Alive wl b) (kill y.w)) := by
    refine (hT l.length).emb idF wE _ (fun _ _ => rfl) (fun _ h _ => h) ⟨fun b cs e fz q => ?_, fun b q => ?_⟩ hE.told.1
    · rw [rVs_id]
      obtain ⟨q1, -⟩ := hE.vw.view.cells b _ q (by simp [Dead])
      show (only _ (kill y.w)).heap[b]? = _
      rw [only_at, hkill, q1]
      · rfl
      · rcases Nat.lt_or_ge b wl.heap.size with hb | hb
        · exact .inr (isC_alive (hDC b (hE.mine b hb ⟨_, _, _, q⟩)))
        · exact .inl hb
    · rw [hwEs, ← hE.vw.view.size]
      exact q
  have hlast : ∀ b, b < wl.heap.size → ¬ D b → (only (fun b => wl.heap.size ≤ b ∨ Alive wl b) (kill y.w)).heap[b]? = wl.heap[b]? := by
    intro b hb hd
    cases hb' : wl.heap[b]? with
    | none => exact absurd hb (by have := Array.getElem?_eq_none_iff.1 hb'; omega)
    | some o =>
      have hsome : ∀ o', y.w.heap[b]? = some o' → ¬ Alive wl b → (only (fun b => wl.heap.size ≤ b ∨ Alive wl b) (kill y.w)).heap[b]? = some Dead := fun o' ho' hna => by
        unfold only
        simp only [Array.getElem?_mapIdx, hkill, ho']
        have hnb : ¬ wl.heap.size ≤ b := by omega
        simp [hna, hnb]
      have hlive : Alive wl b → (only (fun b => wl.heap.size ≤ b ∨ Alive wl b) (kill y.w)).heap[b]? = (y.w.heap[b]?).map killO := fun ha => by
        rw [only_at (.inr ha), hkill]
      rcases hk.1.plain b o hb' with ⟨cs', e', fz', rfl⟩ | ⟨a', l', rfl⟩ | rfl
      · rw [hlive ⟨_, hb', by simp [Dead]⟩, hnD b hb hd, hcell3 b _ _ _ hb']
        rfl
      · have hnc : ¬ IsC wl b := fun ⟨_, _, _, h⟩ => by rw [hb'] at h; cases h
        rw [hlive ⟨_, hb', by simp [Dead]⟩, hnD b hb hd, hold3 b hb hnc]
        have hx : x.w.heap[b]? = some (.number (rA idF a') l') := hk.1.nums b _ _ hb'
        rw [hx]
        rfl
      · have hlt : b < y.w.heap.size := by omega
        exact hsome _ (Array.getElem?_eq_getElem hlt) fun ⟨o, h1, h2⟩ => h2 (by rw [hb'] at h1; exact (Option.some.inj h1).symm)
  obtain ⟨z3, g5, w5, s1, s2, s3, s4⟩ := k _ hJE hlast (by rw [hwEs]; exact hysz) y (kw_only hE.vw.inv _) hE.g0
  refine ⟨z3, g5, w5, s1, s2, s3, KTo.trans (y := y) (wE := only (fun b => wl.heap.size ≤ b ∨ Alive wl b) (kill y.w)) ⟨?_, fun b hb hc => ?_, fun b hb hc => ?_, by omega, ?_, ?_, ?_⟩ s4⟩
  · exact ht1.to.trans (m1.trans (ht3.to.trans (n1.trans (r3.to.trans hE.gets))))
  · rw [hxsz] at hb
    rw [hnD b hb fun h => hc (hDC b h)]
    exact hold3 b hb hc
  · rw [hxsz] at hb
    obtain ⟨cs, e, fz, q⟩ := hc
    obtain ⟨q1, q2⟩ := only_alive q (by simp [Dead])
    rcases q2 with q2 | ⟨o, q2, q3⟩
    · omega
    · rcases hk.1.plain b o q2 with ⟨cs', e', fz', rfl⟩ | ⟨a', l', rfl⟩ | rfl
      · exact ⟨_, _, _, q2⟩
      · exfalso
        have hnc : ¬ IsC wl b := fun ⟨_, _, _, h⟩ => by rw [q2] at h; cases h
        have hx := hk.1.nums b _ _ q2
        have hy : y.w.heap[b]? = some (.number (rA idF a') l') := (hnD b hb fun h => hnc (hDC b h)).trans ((hold3 b hb hnc).trans hx)
        rw [hkill, hy] at q1
        cases q1
      · exact absurd rfl q3
  · rw [hE.tape, ht3.tape, m5, ht1.tape]
  · rw [hE.os, ht3.os, m6, ht1.os]
  · rw [hE.output, ht3.output, m7, ht1.output]
end Go.Proofs.Ytdjnnhdeijnhgab.Rn

/-
  Quiet, the program's: beside leavers.
-/
namespace Go.Proofs.Ytdjnnhdeijnhgab.Rn
open Go Go.Conc Va Go.RowKit
set_option linter.all false
set_option maxRecDepth 20000

theorem hA {f : Nat} (h : AQ.contains f = true) : f ∈ AQ := by simpa using h
theorem rets {α : Type} {R : Value → World → Prop} : ∀ (e : Ending) (w : World), (∃ v, e = .returned v ∧ R v w) → ∃ v, e = .returned v := fun e w ⟨v, h, _⟩ => ⟨v, h⟩
theorem cloQ {K : Nat} : Clo 32 #[.pointer (some ⟨K, 0, none⟩)] := by
  have hf : Try.prog.funcs[32]? = some Try.f32 := Try.func32
  have hn : ¬ Try.f32.name = "runtime.NumGoroutine" := by
    rw [show Try.f32.name = "loop.example/g00060/impl.Quiet$1" from rfl]
    decide
  have hb : Try.f32.body.isSome = true := by rfl
  obtain ⟨c, hc⟩ := Option.isSome_iff_exists.1 hb
  exact ⟨fun x w => by simp [invoke, callFunc, hf, hc, hn, go_sem], fun x w => by simp [invoke, callFunc, hf, hc, hn, go_sem]⟩
theorem ent_ticksOk : Enters 25 := enters_of Try.func25 (by rfl) (by rw [show Try.f25.name = "loop.example/g00060/impl.ticksOk" from rfl]; decide)
theorem ent_forEach : Enters 26 := enters_of Try.func26 (by rfl) (by rw [show Try.f26.name = "loop.example/g00060/impl.forEachTick" from rfl]; decide)
noncomputable def bQ : Frame := { (default : Frame) with fn := 19, kind := .normal }
noncomputable def a0Q (v : Value) : Act := ⟨#[v, undef, undef, undef, undef, undef, undef, undef, undef, undef, undef, undef, undef], []⟩
theorem enterQ (v : Value) : Frame.enter Try.prog 19 #[v] .normal = bQ.at (a0Q v) [.code bodyQ] := by
  have hf : Try.prog.funcs[19]? = some Try.f19 := Try.func19
  unfold Frame.enter
  simp only [hf, Option.map_some, Option.bind_some, bodyQ_some, Option.getD_some]
  rfl
theorem codeQ1 : CodeP Try.prog (· ∈ AQ) (.region 1 rQ1 false) := codeB_ok (by decide +kernel)
theorem codeQ3 : CodeP Try.prog (· ∈ AQ) (.region 3 rQ3 false) := codeB_ok (by decide +kernel)
theorem codeQ5 : CodeP Try.prog (· ∈ AQ) (.region 5 rQ5 false) := codeB_ok (by decide +kernel)
/-- The box for what is kept, and an empty row. -/
structure Boxed (w w' : World) : Prop where
  size : w'.heap.size = w.heap.size + 2
  old : ∀ b, b < w.heap.size → w'.heap[b]? = w.heap[b]?
  row : w'.heap[w.heap.size]? = some (.cells #[] 42 (0, 0))
  box : w'.heap[w.heap.size + 1]? = some (.cells #[.slice (some ⟨w.heap.size, 0, none⟩) 0 0] 30 (0, 0))
theorem boxQ {a : Act} {v : Value} (ha : a = ⟨#[v, undef, .slice none 0 0, undef, undef, undef, undef, undef, undef, undef, undef, undef, undef], []⟩) (w : World) :
    (Code.region 1 rQ1 false).wp Try.prog (fun ex a' w' => ex = .normal ∧ (LA 13 a' [(0, v), (3, .pointer (some ⟨w.heap.size + 1, 0, none⟩))] ∧ Boxed w w')) a w := by
  subst ha
  have e : rQ1 = regOps (cA (cB ((Try.f19.body).getD .skip))) := rfl
  rw [e]
  have e2 : (Code.region 1 (regOps (cA (cB ((Try.f19.body).getD .skip)))) false) = cA (cB ((Try.f19.body).getD .skip)) := rfl
  rw [e2]
  unfold Try.f19
  dsimp only [cA, cB, Option.getD_some]
  go_wp2_with fail
  refine ⟨LA.of rfl rfl (fun p hp => ?_), ?_⟩
  · simp only [List.mem_cons, List.not_mem_nil, or_false] at hp
    rcases hp with rfl | rfl <;> rfl
  · refine ⟨by simp, fun b hb => ?_, ?_, ?_⟩
    · exact (heap_alloc_old _ _ (by simp; omega)).trans (heap_alloc_old _ _ hb)
    · exact (heap_alloc_old _ _ (by simp)).trans (heap_alloc_new w _)
    · have := heap_alloc_new (w.alloc (.cells #[] 42)) (.cells #[.slice (some ⟨w.heap.size, 0, none⟩) 0 0] 30)
      simpa using this
section
variable {b : Frame} {a : Act} {ops : Array Oper} {i d n : Nat} {rest : List Nat} {kk : List Item} {cs : List Frame} {wl : World} {Q : Goroutine → World → Prop} {vs : List (Nat × Value)}
/-- A slice is taken out of its box. -/
theorem K.loadS {t : Nat} {g : Option (Nat × Bool)} {K : Nat} {sv : Value} (ho : ∃ o, ops[i]? = some o ∧ o.dst = some d ∧ o.guard = g ∧ o.op = .load 30 (.tmp t)) (hb : b.kind ≠ .early) (h : LA n a vs) (hd : d < n) (hw : ∀ o : Oper, o.guard = g → Region.wanted o (yielded ops a.tmps) = true) (hx : vs.lookup t = some (.pointer (some ⟨K, 0, none⟩))) (hK : wl.cell? ⟨K, 0, none⟩ = some sv) (hc : IsC wl K)
    (k : ∀ a', LA n a' ((d, sv) :: vs) → Kp Try.prog (G (b.at a' (.inRegion ops rest :: kk)) cs) wl Q) : Kp Try.prog (G (b.at a (.inRegion ops (i :: rest) :: kk)) cs) wl Q := by
  obtain ⟨o, h1, h2, h3, h4⟩ := ho
  have hy := h.get t _ hx
  simp only [Act.eval, Array.getD_eq_getD_getElem?] at hy
  have hu := Try.underlying30
  refine Kp.own (fr' := b.at (a.put (some d) sv) (.inRegion ops rest :: kk)) (cs' := cs) (fun w hcell => ?_) (k _ (h.put hd sv))
  have c0 := hcell _ _ hK
  have hr : (execOp a.eval o).run Try.prog w = .ok (.value sv) w := by
    unfold execOp
    simp only [h4]
    simp [go_sem, hy, c0, hu]
  have he : (execOp a.eval o).events Try.prog w #[] = #[⟨.cell ⟨K, 0, none⟩, false, false⟩] := by
    unfold execOp
    simp only [h4]
    simp [go_sem, hy, c0, hu]
  refine ⟨listed Try.prog b.fn a o w, ?_, fun e he2 => ?_⟩
  · rw [stepG_value h1 (hw o h3) hb hr, h2]
  · have h5 := seen_mem he2
    rw [he] at h5
    have h6 : e = ⟨.cell ⟨K, 0, none⟩, false, false⟩ := by simpa using h5
    exact ⟨_, h6, hc⟩
end
end Go.Proofs.Ytdjnnhdeijnhgab.Rn

/-
  Quiet, the program's: beside leavers, whole.
-/
namespace Go.Proofs.Ytdjnnhdeijnhgab.Rn
open Go Go.Conc Va Go.RowKit
set_option linter.all false
set_option maxRecDepth 20000

theorem quiet_eq {l : List Tk} (h : tksB l = true) : quiet l = (l.take l.length).filter keepB := by
  unfold quiet
  rw [if_pos h, List.take_length]
theorem low_ptr {K z : Nat} (h : K < z) : Low z (.pointer (some ⟨K, 0, none⟩)) := fun f g hf => by
  rw [rV_p, rV_p]
  unfold rA
  simp only
  rw [hf K h]
set_option maxHeartbeats 1000000 in
theorem iquiet_k {l : List Tk} {v : Value} {wl : World} (h : VRw 3 cvTk wl v l) (hn : l.length ≤ 1048576) {c : Frame} {cc : List Frame} {Q : Goroutine → World → Prop}
    (k : ∀ v' wE, VOwn 3 cvTk wE wl.heap.size v' (quiet l) → HB wl.heap.size wl wE → Kp Try.prog (G (c.finish v') cc) wE Q) :
    Kp Try.prog (G (Frame.enter Try.prog 19 #[v] .normal) (c :: cc)) wl Q := by
  have hbe : bQ.kind ≠ .early := by unfold bQ; simp
  have hbn : bQ.kind = .normal := rfl
  have hf : Try.prog.funcs[bQ.fn]? = some Try.f19 := Try.func19
  have hres : Try.f19.results = #[.tmp 2] := rfl
  obtain ⟨ao, cap, rfl⟩ := h.form
  rw [enterQ, bodyQ_eq]
  refine Kp.ctl (fun w => stepG_seq) ?_
  refine Kp.ctl (fun w => stepG_region) ?_
  rw [szQ0]
  refine Kp.ctl (fun w => st_assign oQ0_0 hbe (v := .slice none 0 0) rfl) ?_
  refine Kp.ctl (fun w => stepG_region_end) ?_
  refine Kp.ctl (fun w => stepG_seq) ?_
  refine K.code prgQ closedQ fixQ codeQ1 rfl hbn (Post := fun a' w' => LA 13 a' [(0, .slice ao l.length cap), (3, .pointer (some ⟨wl.heap.size + 1, 0, none⟩))] ∧ Boxed wl w') (fun T => wp_mono (boxQ rfl _) fun ex a' w' ⟨q, q1, q2⟩ => ⟨q, q1, ⟨q2.size, q2.old, q2.row, q2.box⟩⟩) fun a1 w1 ⟨h1, hB⟩ => ?_
  have hs1 : w1.heap.size = wl.heap.size + 2 := hB.size
  have hH1 : HB wl.heap.size wl w1 := ⟨by omega, fun b hb => hB.old b hb⟩
  refine Kp.ctl (fun w => stepG_seq) ?_
  refine Kp.ctl (fun w => stepG_seq) ?_
  refine Kp.ctl (fun w => stepG_region) ?_
  rw [szQ2]
  refine K.move oQ2_0 hbe h1 (by decide) wanted0 rfl fun a2 h2 => ?_
  have hrow1 : VRw 3 cvTk w1 (.slice ao l.length cap) l := VRw.below (w := { wl with tape := w1.tape, os := w1.os, output := w1.output }) h hH1.below
  refine K.call prgQ closedQ fixQ (hA rfl) oQ2_1 hbe h2 (by decide) wanted0 ent_ticksOk (h2.args1 rfl) (Rr := fun e w => e = .returned (.bool (tksB l)) ∧ HB w1.heap.size w1 w) (fun T => (iticks_any _ l { w1 with tape := T, drawn := 0 } hrow1 hn).mono fun e w q => ⟨q.1, HB.of q.2⟩) (fun e w hr => ⟨_, hr.1⟩) fun v3 w3 a3 hr3 h3 => ?_
  obtain ⟨e3, hH3⟩ := hr3
  obtain rfl : v3 = .bool (tksB l) := by injection e3
  have hK3 : w3.heap[wl.heap.size + 1]? = some (.cells #[.slice (some ⟨wl.heap.size, 0, none⟩) 0 0] 30 (0, 0)) := (hH3.block _ (by omega)).trans hB.box
  have hR3 : w3.heap[wl.heap.size]? = some (.cells #[] 42 (0, 0)) := (hH3.block _ (by omega)).trans hB.row
  have hsz3 := hH3.size
  refine K.not oQ2_2 hbe h3 (by decide) wanted0 rfl fun a4 h4 => ?_
  refine Kp.ctl (fun w => stepG_region_end) ?_
  refine Kp.ctl (fun w => stepG_cond (t := !(tksB l)) (h4.get 7 _ rfl)) ?_
  cases ht : tksB l with
  | false =>
    simp only [Bool.not_false, if_true]
    refine Kp.ctl (fun w => stepG_seq) ?_
    refine Kp.ctl (fun w => stepG_region) ?_
    rw [szQ3]
    refine K.loadS oQ3_0 hbe h4 (by decide) wanted0 rfl (by unfold World.cell?; simp [hK3]; rfl) ⟨_, _, _, hK3⟩ fun a5 h5 => ?_
    refine K.assign oQ3_1 hbe h5 (by decide) wanted0 rfl fun a6 h6 => ?_
    refine Kp.ctl (fun w => stepG_region_end) ?_
    refine K.ret hbn h6 hf hres rfl ?_
    refine k _ w3 ?_ (hH1.trans (hH3.mono (by omega)))
    have : quiet l = [] := by unfold quiet; rw [ht]; rfl
    rw [this]
    exact VOwn.nil _ _ _ _
  | true =>
    simp only [Bool.not_true]
    rw [if_neg (by decide)]
    have hl2 : l.length ≤ 2000 := ((tksB_iff l).1 ht).1
    refine Kp.ctl (fun w => stepG_skip) ?_
    refine Kp.ctl (fun w => stepG_seq) ?_
    refine Kp.ctl (fun w => stepG_region) ?_
    rw [szQ4]
    refine K.move oQ4_0 hbe h4 (by decide) wanted0 rfl fun a5 h5 => ?_
    refine K.pure oQ4_1 hbe h5 (by decide) wanted0 (.func (.func 32) #[] #[.pointer (some ⟨wl.heap.size + 1, 0, none⟩)]) (fun o ho w => ?_) fun a6 h6 => ?_
    · have e1 := h5.get 3 _ rfl
      simp only [Act.eval, Array.getD_eq_getD_getElem?] at e1
      constructor
      · unfold execOp
        simp only [ho]
        simp [go_sem, e1]
      · unfold execOp
        simp only [ho]
        simp [go_sem, e1]
    refine K.enter oQ4_2 hbe wanted0 ent_forEach (h6.args2 rfl rfl) ?_
    refine each_any (A := (· ∈ AQ)) prgQ closedQ fixQ (fc := 32) (hA rfl) cloQ (l := l) (ao := ao) (cap := cap) hn (J := JQ wl.heap.size (wl.heap.size + 1) l) (D := fun b => b = wl.heap.size ∨ b = wl.heap.size + 1) (fun k => tells_JQ (by omega) (by omega)) (fun u hu => ?_) (fun b hb => ?_) (fun w' hs hD => ?_) (fun i x hx => ?_) (fun i x w hx hJ hle => quiet1_any hl2 hx w hJ) fun wE hJ hold hle => ?_
    · simp only [List.mem_toArray, List.mem_singleton] at hu
      subst hu
      exact low_ptr (by omega)
    · rcases hb with rfl | rfl
      · exact ⟨_, _, _, hR3, fun u hu => by simp at hu⟩
      · refine ⟨_, _, _, hK3, fun u hu => ?_⟩
        simp only [List.mem_toArray, List.mem_singleton] at hu
        subst hu
        intro f g hfg
        rw [rV_s, rV_s]
        unfold rA
        simp only
        rw [hfg _ (by omega)]
    · refine ⟨_, (hD _ (.inr rfl)).trans hK3, by omega, ⟨?_, fun g cur t fz hg hc => ?_⟩⟩
      · exact ⟨by simp [vcellsL], .inr ⟨wl.heap.size, 0, #[], by simp, Nat.le_refl _, (hD _ (.inl rfl)).trans hR3, by simp, Nat.zero_le _, by simp, by simp [vcellsL]⟩⟩
      · obtain rfl : wl.heap.size = g := by simpa [Value.ownBlock] using hg
        rw [(hD _ (.inl rfl)).trans hR3] at hc
        have e := Option.some.inj hc
        injection e with e1
        subst e1
        exact fun u hu => by simp at hu
    · obtain ⟨g, off, hg0, hg, hcs⟩ := h.at hx
      refine ⟨g, off, hg0, by omega, fun j u hu => ?_⟩
      have hcell : ∀ q, w3.cell? ⟨g, q, none⟩ = wl.cell? ⟨g, q, none⟩ := fun q => by
        unfold World.cell?
        simp only
        rw [hH3.block g (by omega), hB.old g hg]
      rw [hcell]
      match j, hu with
      | 0, hu => cases hu; exact hcs 0 (by omega)
      | 1, hu => cases hu; exact hcs 1 (by omega)
      | 2, hu => cases hu; exact hcs 2 (by omega)
    obtain ⟨sv, q1, q2, q3⟩ := hJ
    refine K.back oQ4_2 h6 (by decide) _ fun a7 h7 => ?_
    refine Kp.ctl (fun w => stepG_region_end) ?_
    refine Kp.ctl (fun w => stepG_seq) ?_
    refine Kp.ctl (fun w => stepG_region) ?_
    rw [szQ5]
    refine K.loadS oQ5_0 hbe h7 (by decide) wanted0 rfl (by unfold World.cell?; simp [q1]; rfl) ⟨_, _, _, q1⟩ fun a8 h8 => ?_
    refine K.assign oQ5_1 hbe h8 (by decide) wanted0 rfl fun a9 h9 => ?_
    refine Kp.ctl (fun w => stepG_region_end) ?_
    refine K.ret hbn h9 hf hres rfl ?_
    refine k sv wE ?_ ⟨by omega, fun b hb => ?_⟩
    · rw [quiet_eq ht]
      exact vown_of rfl q3.own
    · rw [hold b (by omega) (by rintro (q | q) <;> omega), hH3.block b (by omega), hB.old b hb]
end Go.Proofs.Ytdjnnhdeijnhgab.Rn
