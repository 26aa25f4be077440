/-
  forEachTick's loop, whatever the sender does.
-/
import Derived.Test.YtdjnnhdeijnhgabMw19
namespace Go.Proofs.Ytdjnnhdeijnhgab.Rn
open Go Go.Conc Va
set_option linter.all false
set_option maxRecDepth 20000

def tk0 : Tk := ⟨0, false, false⟩
theorem selF {ch : Nat} {cs : List Frame} {tk dv t2 t3 t5 t6 t7 t8 t9 t11 t12 t13 t14 t15 t16 t17 t18 t19 t20 : Value} {k : List Item} (w : World) :
    stepG Try.prog true (G (bF.at (aF tk dv ch t2 t3 t5 t6 t7 t8 t9 (.chan (some ch)) t11 t12 t13 t14 t15 t16 t17 t18 t19 t20) (.inRegion rF3 [0, 1, 2] :: k)) cs) w = .comm (G (bF.at (aF tk dv ch t2 t3 t5 t6 t7 t8 t9 (.chan (some ch)) t11 t12 t13 t14 t15 t16 t17 t18 t19 t20) (.inRegion rF3 [0, 1, 2] :: k)) cs) #[rcase ch (aTk tk0)] true .select w #[] := by
  have hbe : bF.kind ≠ .early := by unfold bF; simp
  obtain ⟨o, o1, o2, o3, o4⟩ := oF30
  obtain ⟨i0, hi, hz0, hz1, hz2⟩ := info_parts infoTk
  have hr : (execOp (aF tk dv ch t2 t3 t5 t6 t7 t8 t9 (.chan (some ch)) t11 t12 t13 t14 t15 t16 t17 t18 t19 t20).eval o).run Try.prog w = .ok (.comm #[rcase ch (aTk tk0)] true .select) w := by
    unfold execOp
    simp only [o4]
    simp [go_sem, Act.eval, aF, rcase, zeroValue, typeInfo, hi, hz0, aTk, tk0]
  have he : (execOp (aF tk dv ch t2 t3 t5 t6 t7 t8 t9 (.chan (some ch)) t11 t12 t13 t14 t15 t16 t17 t18 t19 t20).eval o).events Try.prog w #[] = #[] := by
    unfold execOp
    simp only [o4]
    simp [go_sem, Act.eval, aF, rcase, zeroValue, typeInfo, hi, hz0, aTk, tk0]
  have := stepG_comm (P := Try.prog) (main := true) (cs := cs) (b := bF) (k := k) (rest := [1, 2]) o1 (by simp [Region.wanted, o3]) hbe hr
  refine this.trans ?_
  unfold listed
  rw [he, seen_none]
theorem gotF (p : Pi) (z v : Value) (ok : Bool) : got p z v ok = .tuple #[.int .i64 0, .bool ok, v] := by
  unfold got commResult
  simp [rcase, goInt]
section
variable {A : Nat → Prop} {j ch base cap fc : Nat} {ao : Option Addr} {l : List Tk} {S : Nat → Prop} {w0 : World} {caps : Array Value} {J : Nat → World → Prop} {c : Frame} {cc : List Frame} {tk : Value}
/-- What comes of it all. -/
structure EachEnd (base : Nat) (S : Nat → Prop) (w0 : World) (J : World → Prop) (g : Goroutine) (x y : St) (wE : World) : Prop where
  gets : To Try.prog x y
  g0 : y.gs[0]? = some g
  vw : Vw (Lv Try.prog) y wE
  told : JW base J wE
  old : ∀ b, b < base → ¬ S b → y.w.heap[b]? = w0.heap[b]?
  mine : ∀ b, b < base → IsC wE b → S b
  le : base ≤ y.w.heap.size
  tape : y.w.tape = w0.tape
  os : y.w.os = w0.os
  output : y.w.output = w0.output
theorem eachLoop (hl : l.length ≤ 1048576) (hj : j ≠ 0) (hc : base ≤ ch) (hP : Prg Try.prog A) (hC : ∀ f, Closed Try.prog f) (hX : ∀ Dd f, Fix Try.prog Dd f) (hA : A fc) (hT : ∀ k, Tells base (J k)) (hclo : Clo fc caps) (hcaps : ∀ v ∈ caps, Low base v)
    (hcall : ∀ k x w, l[k]? = some x → J k w → base ≤ w.heap.size → Calls Try.prog fc (#[aTk x] ++ caps) w fun e w' => e = .returned (.tuple #[]) ∧ J (k + 1) w') :
    ∀ (d k : Nat), k + d = l.length → ∀ (z : St) (wl : World) (t2 t3 t5 t6 t7 t8 t9 t10 t11 t12 t13 t14 t15 t16 t17 t18 t19 t20 : Value), Vw (IP (piS j ch base cap ao l S w0) k) z wl → JW base (J k) wl →
      z.gs[0]? = some (G (bF.at (aF tk (.func (.func fc) #[] caps) ch t2 t3 t5 t6 t7 t8 t9 t10 t11 t12 t13 t14 t15 t16 t17 t18 t19 t20) (.code LcF :: KF)) (c :: cc)) →
      ∃ y wE, EachEnd base S w0 (J l.length) (G (c.finish (.tuple #[])) cc) z y wE := by
  have hπ : PiOk (piS j ch base cap ao l S w0) := okS hl hj hc
  intro d
  induction d with
  | zero =>
    intro k hk z wl t2 t3 t5 t6 t7 t8 t9 t10 t11 t12 t13 t14 t15 t16 t17 t18 t19 t20 hv hjw h0
    have hke : k = l.length := by omega
    subst hke
    obtain ⟨y1, g1, wE1, ⟨rfl, hq1⟩, k1, k2, k3⟩ := atSel (tk := tk) (dv := .func (.func fc) #[] caps) (ch := ch) (cs := c :: cc) (Q := fun g w => g = (G (bF.at (aF tk (.func (.func fc) #[] caps) ch t2 t3 t5 t6 t7 t8 t9 (.chan (some ch)) t11 t12 t13 t14 t15 t16 t17 t18 t19 t20) (.inRegion rF3 [0, 1, 2] :: .code (.block 2 (.cond (.tmp 13) XcF .skip)) :: .inBlock 1 :: KF)) (c :: cc)) ∧ JW base (J l.length) w) (ip_comp hπ l.length) (calm_JW (hT l.length)) (fun wl hj => Cp.done ⟨rfl, hj⟩) wl hjw z hv h0
    rcases sel hπ (z := aTk tk0) (k := l.length) (fr0 := bF.at (aF tk (.func (.func fc) #[] caps) ch t2 t3 t5 t6 t7 t8 t9 (.chan (some ch)) t11 t12 t13 t14 t15 t16 t17 t18 t19 t20) (.inRegion rF3 [0, 1, 2] :: .code (.block 2 (.cond (.tmp 13) XcF .skip)) :: .inBlock 1 :: KF)) (cs0 := c :: cc) (fun w => selF w) _ y1 (Nat.le_refl _) k2.inv k1 with ⟨he, -⟩ | ⟨-, y2, u, q1, q2, q3, q4, q5, q6, q7, q8, q9⟩
    · exact absurd he (Nat.lt_irrefl _)
    · have hvu : Vw (IP (piS j ch base cap ao l S w0) l.length) u (pad wE1 u.w.heap.size) := k2.oth q2 q3
      have hv2 : Vw (Lv Try.prog) y2 (pad wE1 u.w.heap.size) := ⟨q8, ⟨fun b o hb hn => by rw [q4]; exact hvu.view.cells b o hb hn, by rw [q4]; exact hvu.view.size⟩, fun b _ => q8.1 b⟩
      have hj2 : JW base (J l.length) (pad wE1 u.w.heap.size) := calm_JW (hT l.length) _ _ (wide_pad (by rw [k2.view.size]; exact q3.size)) hq1
      obtain ⟨o, o1, o2, o3, o4⟩ := oF30
      rw [fin_at o1, o2, putF11, gotF] at q9
      obtain ⟨y3, g3, wE3, ⟨rfl, hq3⟩, m1, m2, m3⟩ := selected (tk := tk) (dv := .func (.func fc) #[] caps) (ch := ch) (cs := c :: cc) (x := tk0) (ok := false)
        (Q := fun g w => g = G (c.finish (.tuple #[])) cc ∧ JW base (J l.length) w) lv_comp (hT l.length)
        (fun r t14 t15 hr => ended lv_comp (hT l.length) fun wl hj => Cp.done ⟨rfl, hj⟩) _ hj2 y2 hv2 q9
      have hno : ∀ b, b < base → IsC (pad wE1 u.w.heap.size) b → S b := fun b hb hc => Classical.byContradiction fun hs => hvu.dis b (isC_alive hc) (q2.nold b hb hs)
      have hbl : base ≤ y2.w.heap.size := by rw [q4]; exact q2.bl
      refine ⟨y3, wE3, k3.to.trans (q1.trans m3.to), m1, m2, hq3, fun b hb hs => ?_, fun b hb hc => hno b hb (m3.lone b (Nat.lt_of_lt_of_le hb hbl) hc), Nat.le_trans hbl m3.le, ?_, ?_, ?_⟩
      · rw [m3.out b (Nat.lt_of_lt_of_le hb hbl) (q8.1 b) fun hc => hs (hno b hb hc), q4]
        exact q2.old b hb hs
      · rw [m3.tape, q5]; exact q2.tape
      · rw [m3.os, q6]; exact q2.os
      · rw [m3.output, q7]; exact q2.output
  | succ d ih =>
    intro k hk z wl t2 t3 t5 t6 t7 t8 t9 t10 t11 t12 t13 t14 t15 t16 t17 t18 t19 t20 hv hjw h0
    have hklt : k < l.length := by omega
    obtain ⟨x, hx⟩ : ∃ x, l[k]? = some x := ⟨l[k], by simp [hklt]⟩
    obtain ⟨y1, g1, wE1, ⟨rfl, hq1⟩, k1, k2, k3⟩ := atSel (tk := tk) (dv := .func (.func fc) #[] caps) (ch := ch) (cs := c :: cc) (Q := fun g w => g = (G (bF.at (aF tk (.func (.func fc) #[] caps) ch t2 t3 t5 t6 t7 t8 t9 (.chan (some ch)) t11 t12 t13 t14 t15 t16 t17 t18 t19 t20) (.inRegion rF3 [0, 1, 2] :: .code (.block 2 (.cond (.tmp 13) XcF .skip)) :: .inBlock 1 :: KF)) (c :: cc)) ∧ JW base (J k) w) (ip_comp hπ k) (calm_JW (hT k)) (fun wl hj => Cp.done ⟨rfl, hj⟩) wl hjw z hv h0
    rcases sel hπ (z := aTk tk0) (k := k) (fr0 := bF.at (aF tk (.func (.func fc) #[] caps) ch t2 t3 t5 t6 t7 t8 t9 (.chan (some ch)) t11 t12 t13 t14 t15 t16 t17 t18 t19 t20) (.inRegion rF3 [0, 1, 2] :: .code (.block 2 (.cond (.tmp 13) XcF .skip)) :: .inBlock 1 :: KF)) (cs0 := c :: cc) (fun w => selF w) _ y1 (Nat.le_refl _) k2.inv k1 with ⟨-, y2, q1, q2, q3, q4⟩ | ⟨he, -⟩
    · have hv2 : Vw (IP (piS j ch base cap ao l S w0) (k + 1)) y2 (pad wE1 y2.w.heap.size) := k2.oth q2 q3
      have hj2 : JW base (J k) (pad wE1 y2.w.heap.size) := calm_JW (hT k) _ _ (wide_pad (by rw [k2.view.size]; exact q3.size)) hq1
      obtain ⟨o, o1, o2, o3, o4⟩ := oF30
      rw [fin_at o1, o2, putF11] at q4
      have hgot : got (piS j ch base cap ao l S w0) (aTk tk0) ((piS j ch base cap ao l S w0).v k) true = .tuple #[.int .i64 0, .bool true, aTk x] := by
        have e1 : (piS j ch base cap ao l S w0).v k = aTk x := by
          show tkV l k = _
          unfold tkV
          simp [List.getD_eq_getElem?_getD, hx]
        rw [e1]
        exact gotF _ _ _ _
      rw [hgot] at q4
      have hK2 := ip_comp hπ (k + 1)
      obtain ⟨y3, g3, wE3, ⟨⟨t5', t6', t7', t8', t9', t10', t11', t12', t13', t14', t15', t16', t17', t18', t19', t20', rfl⟩, hq3⟩, m1, m2, m3⟩ := selected (tk := tk) (dv := .func (.func fc) #[] caps) (ch := ch) (cs := c :: cc) (x := x) (ok := true)
        (Q := fun g w => (∃ t5 t6 t7 t8 t9 t10 t11 t12 t13 t14 t15 t16 t17 t18 t19 t20, g = (G (bF.at (aF tk (.func (.func fc) #[] caps) ch t2 t3 t5 t6 t7 t8 t9 t10 t11 t12 t13 t14 t15 t16 t17 t18 t19 t20) (.code LcF :: KF)) (c :: cc))) ∧ JW base (J (k + 1)) w) hK2 (hT k)
        (fun r t14 t15 hr => handed hK2 hP hC hX hA (hT k) (hT (k + 1)) hclo hcaps (fun w hw hb => hcall k x w hx hw hb) fun t5 t6 t7 t8 t9 t10 t11 t12 t13 t14 t15 t16 t17 t18 t19 t20 wl hj => Cp.done ⟨⟨t5, t6, t7, t8, t9, t10, t11, t12, t13, t14, t15, t16, t17, t18, t19, t20, rfl⟩, hj⟩) _ hj2 y2 hv2 q4
      obtain ⟨y, wE, hE⟩ := ih (k + 1) (by omega) y3 wE3 _ _ _ _ _ _ _ _ _ _ _ _ _ _ _ _ _ _ m2 hq3 m1
      exact ⟨y, wE, (k3.to.trans (q1.trans m3.to)).trans hE.gets, hE.g0, hE.vw, hE.told, hE.old, hE.mine, hE.le, hE.tape, hE.os, hE.output⟩
    · exact absurd he (by show ¬ k = l.length; omega)
end
end Go.Proofs.Ytdjnnhdeijnhgab.Rn

/-
  forEachTick: from its entry on, and what is left of it.
-/
namespace Go.Proofs.Ytdjnnhdeijnhgab.Rn
open Go Go.Conc Va
open Go.ConcN (sumTo upd sumTo_upd upd_ne upd_same)
set_option linter.all false
set_option maxRecDepth 20000

/-- An own step beside leavers that makes an object. -/
theorem lv_new {P : Program} {x : St} {fr : Frame} {fr' : Nat → Frame} {cs cs' : List Frame} {o : Obj} (hx : Lv P x) (h0 : x.gs[0]? = some (G fr cs)) (h : ∀ w, stepG P true (G fr cs) w = .go (G (fr' w.heap.size) cs') { w with heap := w.heap.push o } #[]) :
    ∃ y, To P x y ∧ Lv P y ∧ y.gs[0]? = some (G (fr' x.w.heap.size) cs') ∧ y.w.heap = x.w.heap.push o ∧ y.w.tape = x.w.tape ∧ y.w.os = x.w.os ∧ y.w.output = x.w.output := by
  obtain ⟨y, d, sl, h1, h2, h3, h4, h5⟩ := ready (lv_comp (P := P)) _ x fr cs (Nat.le_refl _) hx h0
  obtain ⟨hN, d0, hw⟩ := h4
  have hh : (y.w.at d).heap = x.w.heap := by rw [hw]; rfl
  have hs := h (y.w.at d)
  have hsz' : (y.w.at d).heap.size = x.w.heap.size := by rw [hh]
  rw [hsz'] at hs
  have hI := lv_comp.own y fr cs d sl (fr' x.w.heap.size) cs' _ #[] h1 (h2.trans h0) hs ⟨rfl, rfl, rfl, by show y.w.heap.size ≤ ((y.w.at d).heap.push o).size; have : y.w.heap.size = (y.w.at d).heap.size := rfl; simp; omega, fun b hb => absurd hb (h1.1 b)⟩ (fun e he => by simp at he)
  have hone : One P y (y.own P sl (G fr cs) (G (fr' x.w.heap.size) cs') { y.w.at d with heap := (y.w.at d).heap.push o } #[]) := by
    refine ⟨MemOp.ofEvents 0 (G fr cs).frame.fn (G fr cs).frame.place #[], ?_, rfl⟩
    rw [h5]
    exact runT_crowd_go (h2.trans h0) (show stepG P (0 == 0) (G fr cs) (y.w.at d) = _ from hs)
  have hsz : 0 < y.gs.size := (Array.getElem?_eq_some_iff.1 (h2.trans h0)).1
  refine ⟨_, h3.trans hone.to, hI, ?_, ?_, ?_, ?_, ?_⟩
  · show ((y.gs.map (woken P (G fr cs) (G (fr' x.w.heap.size) cs') _)).setIfInBounds 0 (G (fr' x.w.heap.size) cs'))[0]? = _
    simp [hsz]
  · show (y.w.at d).heap.push o = _
    rw [hh]
  · show (y.w.at d).tape = _
    rw [hw]; rfl
  · show (y.w.at d).os = _
    rw [hw]; rfl
  · show (y.w.at d).output = _
    rw [hw]; rfl
section
variable {b : Frame} {a : Act} {ops : Array Oper} {i d : Nat} {rest : List Nat} {kk : List Item} {cs : List Frame} {w : World}
theorem st_chan (ho : ∃ o, ops[i]? = some o ∧ o.dst = some d ∧ o.guard = none ∧ o.op = .makeChan 55 (.const (.int .i64 0))) (hb : b.kind ≠ .early) :
    stepG Try.prog true (G (b.at a (.inRegion ops (i :: rest) :: kk)) cs) w = .go (G (b.at (a.put (some d) (.chan (some w.heap.size))) (.inRegion ops rest :: kk)) cs) { w with heap := w.heap.push (.chan 0 #[] false 0 0 false) } #[] := by
  obtain ⟨o, h1, h2, h3, h4⟩ := ho
  obtain ⟨i0, hi, hz0, hz1, hz2⟩ := info_parts infoTk
  have hu := Try.underlying55
  have hr : (execOp a.eval o).run Try.prog w = .ok (.value (.chan (some w.heap.size))) { w with heap := w.heap.push (.chan 0 #[] false 0 0 false) } := by
    unfold execOp
    simp only [h4]
    simp [go_sem, Act.eval, Instr.makeChan, asInt, hu, typeInfo, hi, hz2]
  have he : (execOp a.eval o).events Try.prog w #[] = #[] := by
    unfold execOp
    simp only [h4]
    simp [go_sem, Act.eval, Instr.makeChan, asInt, hu, typeInfo, hi, hz2]
  rw [stepG_value h1 (by simp [Region.wanted, h3]) hb hr, h2]
  unfold listed
  rw [he, seen_none]
end
section
theorem st_go {ao : Option Addr} {n cap ch : Nat} {a : Act} {k : List Item} {cs : List Frame} {w : World} (h8 : a.eval (.tmp 8) = .slice ao n cap) (h9 : a.eval (.tmp 9) = .chan (some ch)) :
    stepG Try.prog true (G (bF.at a (.inRegion rF1 [2] :: k)) cs) w = .spawn (G (bF.at a (.inRegion rF1 [] :: k)) cs) (born Try.prog (dS ao n cap ch)) w #[] := by
  have hbe : bF.kind ≠ .early := by unfold bF; simp
  obtain ⟨o, o1, o2, o3, o4⟩ := oF12
  have g8 : (a.tmps[8]?).getD undef = .slice ao n cap := by simpa [Act.eval, Array.getD_eq_getD_getElem?] using h8
  have g9 : (a.tmps[9]?).getD undef = .chan (some ch) := by simpa [Act.eval, Array.getD_eq_getD_getElem?] using h9
  have hr : (execOp a.eval o).run Try.prog w = .ok (.spawn (dS ao n cap ch)) w := by
    unfold execOp
    simp only [o4]
    simp [go_sem, resolve, Deferred.ofValue, Act.eval, g8, g9, dS]
  have he : (execOp a.eval o).events Try.prog w #[] = #[] := by
    unfold execOp
    simp only [o4]
    simp [go_sem, resolve, Deferred.ofValue, Act.eval, g8, g9, dS]
  rw [stepG_spawn (k := k) (rest := []) o1 (by simp [Region.wanted, o3]) hbe hr rfl, o2, put_none]
  unfold listed
  rw [he, seen_none]
end
/-- The sender is born. -/
theorem ip_start {x : St} {base cap : Nat} {ao : Option Addr} {l : List Tk} {S : Nat → Prop} (hx : Lv Try.prog x) {fr fr' : Frame} {cs : List Frame} (h0 : x.gs[0]? = some (G fr cs)) (hst : ∀ w, stepG Try.prog true (G fr cs) w = .spawn (G fr' cs) (born Try.prog (dS ao l.length cap base)) w #[])
    (hsz : x.w.heap.size = base + 1) (hch : x.w.heap[base]? = some (.chan 0 #[] false 0 0 false)) (ht : TkAt ao l base x.w (fun b => (b < base ∧ ¬ S b) ∨ b = base)) (hl : l.length ≤ 1048576) :
    ∃ (j : Nat) (z : St), j ≠ 0 ∧ To Try.prog x z ∧ IP (piS j base base cap ao l S x.w) 0 z ∧ z.gs[0]? = some (G fr' cs) ∧ z.w.heap = x.w.heap ∧ z.N = fun b => (b < base ∧ ¬ S b) ∨ b = base := by
  obtain ⟨y, d, sl, h1, h2, h3, ⟨hN, d0, hw⟩, h5⟩ := ready (lv_comp (P := Try.prog)) _ x fr cs (Nat.le_refl _) hx h0
  obtain ⟨hn, hno, q, B, hlv, hpast, hB, hμ⟩ := h1
  have hy0 := h2.trans h0
  have hh : (y.w.at d).heap = x.w.heap := by rw [hw]; rfl
  have hsz0 : 0 < y.gs.size := (Array.getElem?_eq_some_iff.1 hy0).1
  have hrun := runT_crowd_spawn (P := Try.prog) (gs := y.gs) (w := y.w.at d) (sl := sl) hy0 (show stepG Try.prog (0 == 0) (G fr cs) (y.w.at d) = _ from hst _)
  let ops : Trace := #[{ g := 0, fn := (G fr cs).frame.fn, pos := (G fr cs).frame.place, act := .go y.gs.size }, { g := y.gs.size, fn := (born Try.prog (dS ao l.length cap base)).frame.fn, pos := (G fr cs).frame.place, act := .start }]
  have hops : ((MemOp.ofEvents 0 (G fr cs).frame.fn (G fr cs).frame.place #[]).push { g := 0, fn := (G fr cs).frame.fn, pos := (G fr cs).frame.place, act := .go y.gs.size }).push { g := y.gs.size, fn := (born Try.prog (dS ao l.length cap base)).frame.fn, pos := (G fr cs).frame.place, act := .start } = ops := rfl
  have hgs : ((y.gs.setIfInBounds 0 (G fr' cs)).push (born Try.prog (dS ao l.length cap base))).size = y.gs.size + 1 := by simp
  have hd : ∀ i, Deaf (y.t ++ ops) i = Deaf y.t i := fun i => deaf_keep [_, _] fun op hop m e => by
    simp only [List.mem_cons, List.not_mem_nil, or_false] at hop
    rcases hop with rfl | rfl <;> cases e
  have hget : ∀ i, i ≠ 0 → i < y.gs.size → ((y.gs.setIfInBounds 0 (G fr' cs)).push (born Try.prog (dS ao l.length cap base)))[i]? = y.gs[i]? := fun i hi hlt => by
    rw [Array.getElem?_push, if_neg (by simp; omega), Array.getElem?_setIfInBounds, if_neg (by omega)]
  refine ⟨y.gs.size, { gs := (y.gs.setIfInBounds 0 (G fr' cs)).push (born Try.prog (dS ao l.length cap base)), w := y.w.at d, sl := sl, t := y.t ++ ops, N := fun b => (b < base ∧ ¬ S b) ∨ b = base, μ := sumTo (y.gs.size + 1) (upd q y.gs.size (50 + 4 + 1)) }, by omega, h3.trans (One.to ⟨ops, ?_, rfl⟩), ?_, ?_, hh, rfl⟩
  · rw [h5, hrun]
    rfl
  · have hN1 : ∀ b, ((b < base ∧ ¬ S b) ∨ b = base) → b < (y.w.at d).heap.size := fun b hb => by rw [hh, hsz]; rcases hb with hb | hb <;> omega
    refine { st := ⟨upd q y.gs.size (50 + 4 + 1), born Try.prog (dS ao l.length cap base), false, 0, 0, false, fun i h hi hij hg => ?_, ?_, ?_, .inl ⟨50, ?_, ?_, Nat.zero_le _, rfl⟩, ?_⟩, above := fun i hi => ?_, pt := ?_, low := hN1, nch := .inr rfl, nold := fun b hb hs => .inl ⟨hb, hs⟩, nS := fun b hb hs => ?_, old := fun b _ _ => ?_, bl := ?_, tape := ?_, os := ?_, output := ?_ }
    · have hlt : i < y.gs.size := by
        have := (Array.getElem?_eq_some_iff.1 hg).1
        simp at this
        have : i ≠ y.gs.size := hij
        omega
      rw [hget i (by omega) hlt] at hg
      rw [upd_ne _ _ (show i ≠ y.gs.size from hij)]
      show QuitsD Try.prog (q i) (Deaf (y.t ++ ops) i) h
      rw [hd]
      exact hlv.old i h hi hg
    · show ((y.gs.setIfInBounds 0 (G fr' cs)).push (born Try.prog (dS ao l.length cap base)))[y.gs.size]? = _
      rw [Array.getElem?_push, if_pos (by simp)]
    · show (y.w.at d).heap[base]? = _
      rw [hh]; exact hch
    · refine startS hl ?_ (.inr rfl) ?_
      · rw [hh, hsz]; omega
      · intro k t hk
        obtain ⟨bt, off, e, r1, r2, r3⟩ := ht k t hk
        refine ⟨bt, off, e, r1, r2, fun i v hi => ?_⟩
        have := r3 i v hi
        unfold World.cell? at this ⊢
        rw [hh]
        exact this
    · show upd q y.gs.size (50 + 4 + 1) y.gs.size = _
      rw [upd_same]; rfl
    · show sumTo (y.gs.size + 1) _ = sumTo ((y.gs.setIfInBounds 0 (G fr' cs)).push (born Try.prog (dS ao l.length cap base))).size _
      rw [hgs]
    · have hi' : y.gs.size + 1 ≤ i := by rw [← hgs]; exact hi
      show Deaf (y.t ++ ops) i = 0
      rw [hd]
      exact hlv.above i (by omega)
    · have hp := PT.start (N := fun b => (b < base ∧ ¬ S b) ∨ b = base) (x := { g := 0, fn := (G fr cs).frame.fn, pos := (G fr cs).frame.place, act := .go y.gs.size }) (y := { g := y.gs.size, fn := (born Try.prog (dS ao l.length cap base)).frame.fn, pos := (G fr cs).frame.place, act := .start }) hpast hno (show y.gs.size ≠ 0 by omega) ⟨rfl, rfl⟩ ⟨rfl, rfl⟩ (hlv.above _ (Nat.le_refl _))
      exact hp.mono hB (fun _ h => h) fun _ h _ => h
    · rcases hs with hs | hs
      · exact hs.2
      · exact absurd hb (by show ¬ b < base; omega)
    · show (y.w.at d).heap[b]? = _
      rw [hh]; rfl
    · show base ≤ (y.w.at d).heap.size
      rw [hh, hsz]; omega
    · show (y.w.at d).tape = _
      rw [hw]; rfl
    · show (y.w.at d).os = _
      rw [hw]; rfl
    · show (y.w.at d).output = _
      rw [hw]; rfl
  · show ((y.gs.setIfInBounds 0 (G fr' cs)).push (born Try.prog (dS ao l.length cap base)))[0]? = _
    rw [Array.getElem?_push, if_neg (by simp; omega), Array.getElem?_setIfInBounds]
    simp [hsz0]
end Go.Proofs.Ytdjnnhdeijnhgab.Rn

/-
  forEachTick WHOLE, beside whatever leaves: the closure has been handed every tick, in order.
-/
namespace Go.Proofs.Ytdjnnhdeijnhgab.Rn
open Go Go.Conc Va
set_option linter.all false
set_option maxRecDepth 20000

noncomputable def a0F (tk dv : Value) : Act := ⟨#[tk, dv, undef, undef, undef, undef, undef, undef, undef, undef, undef, undef, undef, undef, undef, undef, undef, undef, undef, undef, undef], []⟩
set_option maxHeartbeats 2000000 in
theorem enterF (tk dv : Value) : Frame.enter Try.prog 26 #[tk, dv] .normal = bF.at (a0F tk dv) [.code bodyF] := by
  have hf : Try.prog.funcs[26]? = some Try.f26 := Try.func26
  unfold Frame.enter
  simp only [hf, Option.map_some, Option.bind_some, bodyF_some, Option.getD_some]
  rfl
theorem kw_only {P : Program} {y : St} (hy : Lv P y) (D : Nat → Prop) [DecidablePred D] : KW P (only D (kill y.w)) y := by
  have hsz : (only D (kill y.w)).heap.size = y.w.heap.size := by rw [only_size]; unfold kill; simp
  have hk := kill_wr y.w
  have key : ∀ (b : Nat) (o : Obj), (only D (kill y.w)).heap[b]? = some o → o ≠ Dead → (kill y.w).heap[b]? = some o := fun b o hb hn => (only_alive hb hn).1
  refine ⟨⟨fun b cs e fz hb => hk.cells b cs e fz (key b _ hb (by simp [Dead])), fun b a l hb => hk.nums b a l (key b _ hb (by simp [Dead])), fun b o hb => ?_, fun _ q => q, fun _ q => q, fun b b' _ _ e => e, fun b hb => ?_⟩, hsz, hy⟩
  · by_cases ho : o = Dead
    · exact .inr (.inr ho)
    · exact hk.plain b o (key b o hb ho)
  · rw [hsz] at hb; exact hb
theorem putsF {tk dv : Value} {ch : Nat} : ((((a0F tk dv).put (some 7) (.chan (some ch))).put (some 4) (.chan (some ch))).put (some 8) tk).put (some 9) (.chan (some ch)) = aF tk dv ch undef undef undef undef (.chan (some ch)) tk (.chan (some ch)) undef undef undef undef undef undef undef undef undef undef undef := rfl
end Go.Proofs.Ytdjnnhdeijnhgab.Rn

/-
  forEachTick WHOLE, beside whatever leaves: the closure has been handed every tick, in order.
-/
namespace Go.Proofs.Ytdjnnhdeijnhgab.Rn
open Go Go.Conc Va
set_option linter.all false
set_option maxRecDepth 20000

open Classical in
theorem each_any {A : Nat → Prop} (hP : Prg Try.prog A) (hC : ∀ f, Closed Try.prog f) (hX : ∀ Dd f, Fix Try.prog Dd f) {fc : Nat} (hA : A fc) {caps : Array Value} (hclo : Clo fc caps) {wl : World} {l : List Tk} {ao : Option Addr} {cap : Nat} (hl : l.length ≤ 1048576) {J : Nat → World → Prop} {D : Nat → Prop} {c : Frame} {cc : List Frame} {Q : Goroutine → World → Prop}
    (hT : ∀ k, Tells wl.heap.size (J k)) (hcaps : ∀ v ∈ caps, Low wl.heap.size v)
    (hD : ∀ b, D b → ∃ cs e fz, wl.heap[b]? = some (.cells cs e fz) ∧ ∀ v ∈ cs, Low wl.heap.size v)
    (hJ0 : ∀ w' : World, w'.heap.size = wl.heap.size → (∀ b, D b → w'.heap[b]? = wl.heap[b]?) → J 0 w')
    (htk : ∀ k x, l[k]? = some x → ∃ bt off, ao = some ⟨bt, off, none⟩ ∧ ¬ D bt ∧ wl.rangeAt bt (off + k * 3) [.int .i64 x.v, .bool x.k, .bool x.h])
    (hcall : ∀ k x w, l[k]? = some x → J k w → wl.heap.size ≤ w.heap.size → Calls Try.prog fc (#[aTk x] ++ caps) w fun e w' => e = .returned (.tuple #[]) ∧ J (k + 1) w')
    (k : ∀ wE, J l.length wE → (∀ b, b < wl.heap.size → ¬ D b → wE.heap[b]? = wl.heap[b]?) → wl.heap.size ≤ wE.heap.size → Kp Try.prog (G (c.finish (.tuple #[])) cc) wE Q) :
    Kp Try.prog (G (Frame.enter Try.prog 26 #[.slice ao l.length cap, .func (.func fc) #[] caps] .normal) (c :: cc)) wl Q := by
  intro x hk h0
  have hbe : bF.kind ≠ .early := by unfold bF; simp
  have hDlt : ∀ b, D b → b < wl.heap.size := fun b hb => by obtain ⟨cs, e, fz, q, -⟩ := hD b hb; exact (Array.getElem?_eq_some_iff.1 q).1
  rw [enterF] at h0
  -- to the channel
  have p1 : Kp Try.prog (G (bF.at (a0F (.slice ao l.length cap) (.func (.func fc) #[] caps)) [.code bodyF]) (c :: cc)) wl (fun g w => g = G (bF.at (a0F (.slice ao l.length cap) (.func (.func fc) #[] caps)) (.inRegion rF0 [0, 1] :: .code ((Code.region 1 rF1 false).seq (Code.block 0 (Code.loop LcF))) :: [])) (c :: cc) ∧ w.heap = wl.heap) := by
    rw [bodyF_eq]
    refine Kp.ctl (fun w => stepG_seq) ?_
    refine Kp.ctl (fun w => stepG_region) ?_
    rw [szF0]
    exact Kp.done ⟨rfl, rfl⟩
  obtain ⟨x1, g1, w1, ⟨rfl, e1⟩, hg1, hk1, ht1⟩ := p1 x hk h0
  obtain ⟨x2, m1, m2, m3, m4, m5, m6, m7⟩ := lv_new (fr' := fun r => bF.at ((a0F (.slice ao l.length cap) (.func (.func fc) #[] caps)).put (some 7) (.chan (some r))) (.inRegion rF0 [1] :: .code ((Code.region 1 rF1 false).seq (Code.block 0 (Code.loop LcF))) :: [])) hk1.2.2 hg1 (fun w => st_chan oF00 hbe)
  have hx1sz : x1.w.heap.size = wl.heap.size := by rw [← hk1.2.1, e1]
  have hxsz : x.w.heap.size = wl.heap.size := hk.2.1.symm
  rw [hx1sz] at m3
  -- what lies there, seen from goroutine 0, with the channel
  have hw1 : ∀ b, b < wl.heap.size → (wl.heap.push Dead)[b]? = wl.heap[b]? := fun b hb => by rw [Array.getElem?_push, if_neg (by omega)]
  have hkw2 : KW Try.prog { wl with heap := wl.heap.push Dead } x2 := by
    have hW := hk1.1
    have up : ∀ (b : Nat) (o : Obj), (wl.heap.push Dead)[b]? = some o → o ≠ Dead → w1.heap[b]? = some o := fun b o hb hn => by
      rw [Array.getElem?_push] at hb
      split at hb
      · exact absurd (Option.some.inj hb).symm hn
      · rw [e1]; exact hb
    have lt2 : ∀ b o, w1.heap[b]? = some o → x2.w.heap[b]? = x1.w.heap[b]? := fun b o hb => by
      have : b < w1.heap.size := (Array.getElem?_eq_some_iff.1 hb).1
      rw [m4, Array.getElem?_push, if_neg (by rw [hx1sz, ← e1]; omega)]
    refine ⟨⟨fun b cs e fz hb => ?_, fun b a l hb => ?_, fun b o hb => ?_, fun _ q => q, fun _ q => q, fun b b' _ _ e => e, fun b hb => ?_⟩, ?_, m2⟩
    · have h1 := up b _ hb (by simp [Dead])
      exact (lt2 b _ h1).trans (hW.cells b cs e fz h1)
    · have h1 := up b _ hb (by simp [Dead])
      exact (lt2 b _ h1).trans (hW.nums b a l h1)
    · by_cases ho : o = Dead
      · exact .inr (.inr ho)
      · exact hW.plain b o (up b o hb ho)
    · have hb' : b < wl.heap.size + 1 := by simpa using hb
      show b < x2.w.heap.size
      rw [m4]; simp; omega
    · show (wl.heap.push Dead).size = x2.w.heap.size
      rw [m4]; simp; omega
  -- to the go statement
  have p2 : Kp Try.prog (G (bF.at ((a0F (.slice ao l.length cap) (.func (.func fc) #[] caps)).put (some 7) (.chan (some wl.heap.size))) (.inRegion rF0 [1] :: .code ((Code.region 1 rF1 false).seq (Code.block 0 (Code.loop LcF))) :: [])) (c :: cc)) { wl with heap := wl.heap.push Dead } (fun g w => g = G (bF.at (aF (.slice ao l.length cap) (.func (.func fc) #[] caps) wl.heap.size undef undef undef undef (.chan (some wl.heap.size)) (.slice ao l.length cap) (.chan (some wl.heap.size)) undef undef undef undef undef undef undef undef undef undef undef) (.inRegion rF1 [2] :: .code (Code.block 0 (Code.loop LcF)) :: [])) (c :: cc) ∧ w.heap = wl.heap.push Dead) := by
    refine Kp.ctl (fun w => st_assign oF01 hbe (v := .chan (some wl.heap.size)) rfl) ?_
    refine Kp.ctl (fun w => stepG_region_end) ?_
    refine Kp.ctl (fun w => stepG_seq) ?_
    refine Kp.ctl (fun w => stepG_region) ?_
    rw [szF1]
    refine Kp.ctl (fun w => st_move oF10 hbe (v := .slice ao l.length cap) rfl) ?_
    refine Kp.ctl (fun w => st_move oF11 hbe (v := .chan (some wl.heap.size)) rfl) ?_
    rw [putsF]
    exact Kp.done ⟨rfl, rfl⟩
  obtain ⟨x3, g3, w3, ⟨rfl, e3⟩, hg3, hk3, ht3⟩ := p2 x2 hkw2 m3
  have hx3sz : x3.w.heap.size = wl.heap.size + 1 := by
    have := hk3.2.1
    rw [← this, e3]; simp
  have hch : x3.w.heap[wl.heap.size]? = some (.chan 0 #[] false 0 0 false) := by
    rw [ht3.out wl.heap.size (by rw [m4]; simp; omega) (fun ⟨cs, e, fz, q⟩ => by
      change (wl.heap.push Dead)[wl.heap.size]? = _ at q
      simp [Dead] at q), m4, ← hx1sz]
    simp
  have hcell3 : ∀ (b : Nat) cs e fz, wl.heap[b]? = some (.cells cs e fz) → x3.w.heap[b]? = some (.cells cs e fz) := by
    intro b cs e fz hb
    have h1 : w3.heap[b]? = some (.cells cs e fz) := by
      rw [e3, hw1 b (Array.getElem?_eq_some_iff.1 hb).1]; exact hb
    have := hk3.1.cells b cs e fz h1
    rwa [rVs_id] at this
  have hold3 : ∀ b, b < wl.heap.size → ¬ IsC wl b → x3.w.heap[b]? = x.w.heap[b]? := by
    intro b hb hc
    rw [ht3.out b (by rw [m4]; simp; omega) (fun ⟨cs, e, fz, q⟩ => hc ⟨cs, e, fz, by rw [← hw1 b hb]; exact q⟩), m4, Array.getElem?_push, if_neg (by omega)]
    exact ht1.out b (by omega) hc
  have htk3 : TkAt ao l wl.heap.size x3.w (fun b => (b < wl.heap.size ∧ ¬ D b) ∨ b = wl.heap.size) := by
    intro k t hk'
    obtain ⟨bt, off, r1, r2, r3⟩ := htk k t hk'
    obtain ⟨cs, e, fz, hb⟩ := (hk.1.cell (r3 0 (.int .i64 t.v) rfl)).2
    change wl.heap[bt]? = _ at hb
    have hlt := (Array.getElem?_eq_some_iff.1 hb).1
    refine ⟨bt, off, r1, .inl ⟨hlt, r2⟩, by omega, fun i v hi => ?_⟩
    have := r3 i v hi
    unfold World.cell? at this ⊢
    rw [hcell3 bt cs e fz hb]
    rwa [hb] at this
  obtain ⟨j, z, hj, n1, n2, n3, n4, n5⟩ := ip_start (S := D) (cap := cap) hk3.2.2 hg3 (fun w => st_go rfl rfl) hx3sz hch htk3 hl
  -- goroutine 0's view
  let wv : World := only D { wl with heap := wl.heap.push Dead }
  have hwv : ∀ (b : Nat) (o : Obj), wv.heap[b]? = some o → o ≠ Dead → D b ∧ wl.heap[b]? = some o := fun b o hb hn => by
    obtain ⟨h1, h2⟩ := only_alive hb hn
    exact ⟨h2, by rw [← hw1 b (hDlt b h2)]; exact h1⟩
  have hwvs : wv.heap.size = wl.heap.size + 1 := by
    show (only D _).heap.size = _
    rw [only_size]; simp
  have hvw0 : Vw (IP (piS j wl.heap.size wl.heap.size cap ao l D x3.w) 0) z wv := by
    refine ⟨n2, ⟨fun b o hb hn => ?_, by rw [hwvs, n4, hx3sz]⟩, fun b hb => ?_⟩
    · obtain ⟨h1, h2⟩ := hwv b o hb hn
      obtain ⟨cs, e, fz, q, ql⟩ := hD b h1
      rw [h2] at q
      obtain rfl := Option.some.inj q
      refine ⟨by rw [n4]; exact hcell3 b cs e fz h2, cs, e, fz, rfl, fun v hv => (ql v hv).mono (by rw [hwvs]; omega)⟩
    · obtain ⟨o, hb, hn⟩ := hb
      obtain ⟨h1, h2⟩ := hwv b o hb hn
      have := hDlt b h1
      rw [n5]
      rintro (q | q)
      · exact q.2 h1
      · omega
  have hjw0 : JW wl.heap.size (J 0) wv := by
    refine ⟨(hT 0).emb idF (only D wl) wv (fun _ _ => rfl) (fun _ h _ => h) ⟨fun b cs e fz q => ?_, fun b q => ?_⟩ (hJ0 _ (only_size D wl) fun b hb => only_at hb), by rw [hwvs]; omega⟩
    · rw [rVs_id]
      obtain ⟨q1, q2⟩ := only_alive q (by simp [Dead])
      show (only D _).heap[b]? = _
      rw [only_at q2]
      exact (hw1 b (hDlt b q2)).trans q1
    · rw [only_size] at q
      show b < _
      omega
  -- to the loop
  have hK0 := ip_comp (okS (j := j) (ch := wl.heap.size) (base := wl.heap.size) (cap := cap) (ao := ao) (S := D) (w0 := x3.w) hl hj (Nat.le_refl _)) 0
  have p4 : Cj Try.prog (IP (piS j wl.heap.size wl.heap.size cap ao l D x3.w) 0) (G (bF.at (aF (.slice ao l.length cap) (.func (.func fc) #[] caps) wl.heap.size undef undef undef undef (.chan (some wl.heap.size)) (.slice ao l.length cap) (.chan (some wl.heap.size)) undef undef undef undef undef undef undef undef undef undef undef) (.inRegion rF1 [] :: .code (Code.block 0 (Code.loop LcF)) :: [])) (c :: cc)) (JW wl.heap.size (J 0)) (fun g w => g = G (bF.at (aF (.slice ao l.length cap) (.func (.func fc) #[] caps) wl.heap.size undef undef undef undef (.chan (some wl.heap.size)) (.slice ao l.length cap) (.chan (some wl.heap.size)) undef undef undef undef undef undef undef undef undef undef undef) (.code LcF :: KF)) (c :: cc) ∧ JW wl.heap.size (J 0) w) := by
    refine Cj.ctl hK0 (calm_JW (hT 0)) (fun w => stepG_region_end) ?_
    refine Cj.ctl hK0 (calm_JW (hT 0)) (fun w => stepG_block) ?_
    refine Cj.ctl hK0 (calm_JW (hT 0)) (fun w => stepG_loop) ?_
    exact fun wl hj => Cp.done ⟨rfl, hj⟩
  obtain ⟨z2, g4, w4, ⟨rfl, hj4⟩, r1, r2, r3⟩ := p4 wv hjw0 z hvw0 n3
  obtain ⟨y, wE, hE⟩ := eachLoop hl hj (Nat.le_refl _) hP hC hX hA hT hclo hcaps hcall l.length 0 (by omega) z2 w4 _ _ _ _ _ _ _ _ _ _ _ _ _ _ _ _ _ _ r2 hj4 r1
  have hnD : ∀ b, b < wl.heap.size → ¬ D b → y.w.heap[b]? = x3.w.heap[b]? := hE.old
  have hDC : ∀ b, D b → IsC wl b := fun b hb => by obtain ⟨cs, e, fz, q, -⟩ := hD b hb; exact ⟨cs, e, fz, q⟩
  have hysz := hE.le
  have hwEs : (only (fun b => wl.heap.size ≤ b ∨ Alive wl b) (kill y.w)).heap.size = y.w.heap.size := by
    rw [only_size]; unfold kill; simp
  have hkill : ∀ b : Nat, (kill y.w).heap[b]? = (y.w.heap[b]?).map killO := fun b => by unfold kill; simp
  have hJE : J l.length (only (fun b => wl.heap.size ≤ b ∨ Alive wl b) (kill y.w)) := by
    refine (hT l.length).emb idF wE _ (fun _ _ => rfl) (fun _ h _ => h) ⟨fun b cs e fz q => ?_, fun b q => ?_⟩ hE.told.1
    · rw [rVs_id]
      obtain ⟨q1, -⟩ := hE.vw.view.cells b _ q (by simp [Dead])
      show (only _ (kill y.w)).heap[b]? = _
      rw [only_at, hkill, q1]
      · rfl
      · rcases Nat.lt_or_ge b wl.heap.size with hb | hb
        · exact .inr (isC_alive (hDC b (hE.mine b hb ⟨_, _, _, q⟩)))
        · exact .inl hb
    · rw [hwEs, ← hE.vw.view.size]
      exact q
  have hlast : ∀ b, b < wl.heap.size → ¬ D b → (only (fun b => wl.heap.size ≤ b ∨ Alive wl b) (kill y.w)).heap[b]? = wl.heap[b]? := by
    intro b hb hd
    cases hb' : wl.heap[b]? with
    | none => exact absurd hb (by have := Array.getElem?_eq_none_iff.1 hb'; omega)
    | some o =>
      have hsome : ∀ o', y.w.heap[b]? = some o' → ¬ Alive wl b → (only (fun b => wl.heap.size ≤ b ∨ Alive wl b) (kill y.w)).heap[b]? = some Dead := fun o' ho' hna => by
        unfold only
        simp only [Array.getElem?_mapIdx, hkill, ho']
        have hnb : ¬ wl.heap.size ≤ b := by omega
        simp [hna, hnb]
      have hlive : Alive wl b → (only (fun b => wl.heap.size ≤ b ∨ Alive wl b) (kill y.w)).heap[b]? = (y.w.heap[b]?).map killO := fun ha => by
        rw [only_at (.inr ha), hkill]
      rcases hk.1.plain b o hb' with ⟨cs', e', fz', rfl⟩ | ⟨a', l', rfl⟩ | rfl
      · rw [hlive ⟨_, hb', by simp [Dead]⟩, hnD b hb hd, hcell3 b _ _ _ hb']
        rfl
      · have hnc : ¬ IsC wl b := fun ⟨_, _, _, h⟩ => by rw [hb'] at h; cases h
        rw [hlive ⟨_, hb', by simp [Dead]⟩, hnD b hb hd, hold3 b hb hnc]
        have hx : x.w.heap[b]? = some (.number (rA idF a') l') := hk.1.nums b _ _ hb'
        rw [hx]
        rfl
      · have hlt : b < y.w.heap.size := by omega
        exact hsome _ (Array.getElem?_eq_getElem hlt) fun ⟨o, h1, h2⟩ => h2 (by rw [hb'] at h1; exact (Option.some.inj h1).symm)
  obtain ⟨z3, g5, w5, s1, s2, s3, s4⟩ := k _ hJE hlast (by rw [hwEs]; exact hysz) y (kw_only hE.vw.inv _) hE.g0
  refine ⟨z3, g5, w5, s1, s2, s3, KTo.trans (y := y) (wE := only (fun b => wl.heap.size ≤ b ∨ Alive wl b) (kill y.w)) ⟨?_, fun b hb hc => ?_, fun b hb hc => ?_, by omega, ?_, ?_, ?_⟩ s4⟩
  · exact ht1.to.trans (m1.trans (ht3.to.trans (n1.trans (r3.to.trans hE.gets))))
  · rw [hxsz] at hb
    rw [hnD b hb fun h => hc (hDC b h)]
    exact hold3 b hb hc
  · rw [hxsz] at hb
    obtain ⟨cs, e, fz, q⟩ := hc
    obtain ⟨q1, q2⟩ := only_alive q (by simp [Dead])
    rcases q2 with q2 | ⟨o, q2, q3⟩
    · omega
    · rcases hk.1.plain b o q2 with ⟨cs', e', fz', rfl⟩ | ⟨a', l', rfl⟩ | rfl
      · exact ⟨_, _, _, q2⟩
      · exfalso
        have hnc : ¬ IsC wl b := fun ⟨_, _, _, h⟩ => by rw [q2] at h; cases h
        have hx := hk.1.nums b _ _ q2
        have hy : y.w.heap[b]? = some (.number (rA idF a') l') := (hnD b hb fun h => hnc (hDC b h)).trans ((hold3 b hb hnc).trans hx)
        rw [hkill, hy] at q1
        cases q1
      · exact absurd rfl q3
  · rw [hE.tape, ht3.tape, m5, ht1.tape]
  · rw [hE.os, ht3.os, m6, ht1.os]
  · rw [hE.output, ht3.output, m7, ht1.output]
end Go.Proofs.Ytdjnnhdeijnhgab.Rn
