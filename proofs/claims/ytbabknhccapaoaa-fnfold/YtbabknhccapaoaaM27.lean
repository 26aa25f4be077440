/-
  How often each number is corrected: the program's, whole.
-/
import Derived.Test.YtbabknhccapaoaaM26
namespace Go.Proofs.Ytbabknhccapaoaa
open Go.RowKit Va Mg Go.Maps
set_option linter.all false

theorem ltB_wi {x : Lt} (h : ltB x = true) : Wi x.f ∧ Wi x.s ∧ Wi x.c ∧ Wi x.k := by
  obtain ⟨h1, h2, h3, h4, h5⟩ := ltB_iff.1 h
  exact ⟨Wi.of (by omega) (by omega), Wi.of (by omega) (by omega), Wi.of (by omega) (by omega), Wi.of (by omega) (by omega)⟩
/-- Has the letter come by? -/
def Vis (left : Lit → Bool) (y : Lt) : Prop := left (kN y.f y.s) = false
theorem vis_step {I : List Lt} (hI : InOk I) {x : Lt} (hx : x ∈ I) (left : Lit → Bool) : ∀ y ∈ I, Vis (fun z => left z && !z.sameKey (kN x.f x.s)) y ↔ Vis left y ∨ y = x := fun y hy => by
  have wx := ltB_wi (hI.ok x hx)
  have wy := ltB_wi (hI.ok y hy)
  unfold Vis
  dsimp only
  by_cases e : y = x
  · subst e
    rw [WideAt.sameKey_self (kN_key _ _)]
    simp
  · have hne : kN y.f y.s ≠ kN x.f x.s := fun q => by
      have := kN_inj wy.1 wy.2.1 wx.1 wx.2.1 q
      exact e (hI.same hy hx this)
    rw [sameKey_ne hne]
    simp [e]
/-- How often each number is corrected by those that V lets by. -/
def Cv (D : DataW Unit) (I : List Lt) (V : Lt → Prop) (m : Nat) : Prop := ∀ f s, Wi f → Wi s → ∃ z : Int, D.atKey (kN f s) (.lit (.int .i64 0)) = .lit (.int .i64 z) ∧ 0 ≤ z ∧ z ≤ m ∧ (z = 0 ↔ ∀ y ∈ I, V y → ¬ (y.f = f ∧ y.c = s))
theorem Cv.start (I : List Lt) (V : Lt → Prop) (h : ∀ y ∈ I, ¬ V y) : Cv (.map []) I V 0 := fun f s _ _ => ⟨0, rfl, Int.le_refl _, Int.le_refl _, ⟨fun _ y hy hv => absurd hv (h y hy), fun _ => rfl⟩⟩
theorem Cv.step {D : DataW Unit} {I : List Lt} {V V' : Lt → Prop} {m : Nat} {x : Lt} {z : Int} (h : Cv D I V m) (hm : IsMap D) (hx : x ∈ I) (hw : Wi x.f ∧ Wi x.c) (hV : ∀ y ∈ I, V' y ↔ V y ∨ y = x) (hz : D.atKey (kN x.f x.c) (.lit (.int .i64 0)) = .lit (.int .i64 z)) : Cv (D.put (kN x.f x.c) (.lit (.int .i64 (z + 1)))) I V' (m + 1) := by
  intro f s wf ws
  by_cases q : f = x.f ∧ s = x.c
  · obtain ⟨rfl, rfl⟩ := q
    obtain ⟨z', e1, e2, e3, _⟩ := h x.f x.c wf ws
    have : z = z' := by rw [hz] at e1; simpa using e1
    subst this
    refine ⟨z + 1, atKey_put_same hm (kN_key _ _) _ _, by omega, by push_cast; omega, ?_⟩
    constructor
    · intro e; omega
    · intro hn; exact absurd ⟨rfl, rfl⟩ (hn x hx ((hV x hx).2 (Or.inr rfl)))
  · have hne : kN f s ≠ kN x.f x.c := fun e => q (kN_inj wf ws hw.1 hw.2 e)
    obtain ⟨z', e1, e2, e3, e4⟩ := h f s wf ws
    rw [atKey_put_other hne]
    refine ⟨z', e1, e2, by push_cast; omega, ?_⟩
    rw [e4]
    constructor
    · intro hn y hy hv
      rcases (hV y hy).1 hv with u | u
      · exact hn y hy u
      · subst u; exact fun e => q ⟨e.1.symm, e.2.symm⟩
    · intro hn y hy hv
      exact hn y hy ((hV y hy).2 (Or.inl hv))
/-- Block B counts how often each number is corrected. -/
def CorM (w : World) (B n : Nat) (I : List Lt) : Prop := ∃ D : DataW Unit, w.ownsMap Try.prog 80 (plainElem Try.prog 3) B n D ∧ Cv D I (fun _ => True) n
theorem mkmapC (n : Int) (w : World) : (Instr.makeMap 77 (some (.int .i64 n))).run Try.prog w = .ok (.map (some w.heap.size)) (w.alloc (.map #[] 0)) := by
  simp [Instr.makeMap, run_underlying Try.underlying77, asInt, asIntOf, Result.andThen]
/-- What a letter that comes by is. -/
theorem met {D : DataW Unit} {g : Int → Int → Option Lt} {I : List Lt} (hG : Gv D g) (hP : Rep g I) {o t : Int} (wo : Wi o) (wt : Wi t) {x : Lt} (hat : ∀ zd, D.atKey (kN o t) zd = ltD x) : x ∈ I ∧ x.f = o ∧ x.s = t := by
  have hh := has_true_of_atKey hat
  obtain ⟨h1, h2⟩ := hG o t wo wt
  rw [hh] at h1
  obtain ⟨y, hy⟩ := Option.isSome_iff_exists.1 h1.symm
  have := h2 y hy .nil
  rw [hat] at this
  rw [ltD_inj this]
  exact (hP o t y).1 hy
def mkN (p : Int × Int) : Value := .agg #[.int .i64 p.1, .int .i64 p.2]
theorem invN (key : Value) (kl : Lit) (h : keyOf Try.prog 80 key = some kl) : ∃ p, key = mkN p := by
  obtain ⟨o, t, rfl, -⟩ := num_inv h
  exact ⟨(o, t), rfl⟩
theorem invL (v : Value) (y : DataW Unit × List MemPlace) (h : letE v = some y) : ∃ x, v = aLt x := by
  obtain ⟨d, ps⟩ := y
  obtain ⟨x, rfl, -⟩ := letE_inv h
  exact ⟨x, rfl⟩

set_option maxRecDepth 20000 in
set_option maxHeartbeats 8000000 in
theorem icorrected_any (B n : Nat) (I : List Lt) (w : World) (h : CM w B n I) (hI : InOk I) (hn : n ≤ 1000) :
    Calls Try.prog 38 #[.map (some B)] w fun e w' => e = .returned (.map (some w.heap.size)) ∧ CorM w' w.heap.size n I ∧ Below w.heap.size w w' := by
  obtain ⟨D, g, hown, hG, hP⟩ := h
  have hlen := hown.len mapN
  have hszD := hown.size_le
  have hBw := hown.lt
  have HG := hidden hG
  have HP := hidden hP
  have HI := hidden hI
  have hmm := mkmapC
  have HOC := hidden (World.ownsMap_made w Try.prog 80 (plainElem (H := Unit) Try.prog 3))
  have HOD := hidden (hown.alloc (.map #[] 0))
  have HB0 : Hid (Below w.heap.size w (w.alloc (.map #[] 0))) := (Below.refl _ _).alloc (Nat.le_refl _) _
  have hs1 : (w.alloc (.map #[] 0)).heap.size = w.heap.size + 1 := by simp
  clear hown hG hP hI
  generalize hszz : Maps.size D = sz at hlen hszD
  go_enter Try.func38, Try.ntmps38
  go_wp2_with (at_range; refine wpList_range_own _ rfl _ 51 rfl 80 29 keyedN mapN _ B n D rfl HOD.out ?_; intro w4 hrg4 hg4 hs4)
  have HRG4 := hidden hrg4
  have HC4 := hidden (HOC.out.kept hg4 (by simp))
  have HB4 := hidden (HB0.out.grown hg4 (by omega) (by simp))
  have hw4 : w4.heap.size = w.heap.size + 1 + 1 := by omega
  clear hrg4 hg4 hs4 HOD HOC HB0 hlen hmm
  rw [hs1] at HRG4 ⊢
  go_wp2_with fail
  go_frame
  go_loopw [5] (fun _ wr => ∃ (left : Lit → Bool) (cnt m : Nat) (Dc : DataW Unit), wr.ranges Try.prog 80 letE B (w.heap.size + 1) n D left cnt ∧ wr.ownsMap Try.prog 80 (plainElem Try.prog 3) w.heap.size m Dc ∧ m + cnt ≤ sz ∧ Hid (Cv Dc I (Vis left) m) ∧ w.heap.size + 1 < wr.heap.size ∧ Below w.heap.size w wr) (fun _ wr => wr.rangeLeft B (w.heap.size + 1))
  case atStart =>
    refine ⟨_, _, 0, .map [], HRG4.out, HC4.out, by omega, Cv.start I _ (fun y hy hv => ?_), by omega, HB4.out⟩
    have wy := ltB_wi (HI.out.ok y hy)
    have h1 := (HG.out y.f y.s wy.1 wy.2.1).1
    rw [(HP.out y.f y.s y).2 ⟨hy, rfl, rfl⟩] at h1
    unfold Vis at hv
    rw [h1] at hv
    cases hv
  case round =>
    clear HRG4 HC4 HB4 hw4 hs1
    obtain ⟨left, cnt, m, Dc, hrg, hoC, hmc, HCv, hzr, hb⟩ := hrel
    go_wp2_with (at_next; refine wpList_next_ranges _ rfl _ rfl 80 keyedN letE mkN aLt invN invL B (w.heap.size + 1) n _ _ _ rfl hrg ?_ ?_)
    · intro hc0 hl0
      have HQ : Hid (CorM wr w.heap.size n I) := by
        refine ⟨Dc, hoC.mono (by omega), fun f s wf ws => ?_⟩
        obtain ⟨z, e1, e2, e3, e4⟩ := HCv.out f s wf ws
        refine ⟨z, e1, e2, by omega, ?_⟩
        rw [e4]
        constructor
        · intro hn y hy _; exact hn y hy (hl0 _)
        · intro hn y hy _; exact hn y hy trivial
      clear hrg hoC hc0 hl0
      go_wp2_with fail
      go_ret
      exact ⟨rfl, HQ.out, hb⟩
    · intro o0 t0 x kl yd yp w5 cnt5 hkey hlk hv hat hrg5 hlt hg5 hs5 hen
      obtain ⟨o, t, ek, wo, wt, rfl⟩ := num_inv hkey
      rw [letE_mk] at hv
      obtain ⟨rfl, rfl⟩ : ltD x = yd ∧ [] = yp := by simpa using hv
      obtain ⟨hxI, rfl, rfl⟩ := met HG.out HP.out wo wt hat
      have wx := ltB_wi (HI.out.ok x hxI)
      obtain ⟨c, ec, c0, c1, -⟩ := HCv.out x.f x.c wx.1 wx.2.2.1
      have hstep := vis_step HI.out hxI left
      have HCv5 := hidden (HCv.out.step hoC.isMap hxI ⟨wx.1, wx.2.2.1⟩ hstep ec)
      have hoC5 := hoC.kept hg5 (by first | (simp; done) | (simp; omega))
      have b5 : Below w.heap.size w w5 := hb.grown hg5 hb.size (fun j hj => by cases hj; omega)
      have HRG5 := hidden hrg5
      have hs5' : w.heap.size + 1 < w5.heap.size := by omega
      clear hs5
      have hmx : m < 1000 := by omega
      have hlr := hidden (And.intro hrg hlt)
      have ek2 : mkN (o0, t0) = mkN (x.f, x.s) := ek
      rw [ek2] at hen ⊢
      unfold mkN aLt at hen ⊢
      dsimp only at hen ⊢
      have PX := PB.new w5 #[.int .i64 x.f, .int .i64 x.s, .int .i64 x.c, .int .i64 x.k, .int .i64 x.v] 29
      have oC6 := hoC5.alloc (.cells #[.int .i64 x.f, .int .i64 x.s, .int .i64 x.c, .int .i64 x.k, .int .i64 x.v] 29)
      have HRG6 := hidden (HRG5.out.alloc (.cells #[.int .i64 x.f, .int .i64 x.s, .int .i64 x.c, .int .i64 x.k, .int .i64 x.v] 29))
      have b6 := b5.alloc b5.size (.cells #[.int .i64 x.f, .int .i64 x.s, .int .i64 x.c, .int .i64 x.k, .int .i64 x.v] 29)
      have hz6 : (w5.alloc (.cells #[.int .i64 x.f, .int .i64 x.s, .int .i64 x.c, .int .i64 x.k, .int .i64 x.v] 29)).heap.size = w5.heap.size + 1 := by simp
      have HOC6 := hidden oC6
      have HPX := hidden PX
      clear hkey hlk hv hat hg5 hrg5 hrg hoC hb HCv ek ek2 hstep hoC5 b5 HRG5 oC6 PX hlt
      go_upto_region 5 with fail
      generalize hW6 : w5.alloc (.cells #[.int .i64 x.f, .int .i64 x.s, .int .i64 x.c, .int .i64 x.k, .int .i64 x.v] 29) = W6 at *
      refine regR5 (x := x) (V := w5.heap.size) (b := w.heap.size) (n := m) (D := Dc) (c := c) rfl rfl rfl HPX.out (by omega) HOC6.out (by unfold maxLen; omega) wx.1 wx.2.2.1 ec c0 (by omega) ?_
      intro b' w7 hf hg7 ho7
      rw [layR5 hf]
      clear hf
      generalize Rg.out (Rg.opsOf Try.f38 5) b' 0 = y0
      generalize Rg.out (Rg.opsOf Try.f38 5) b' 1 = y1
      generalize Rg.out (Rg.opsOf Try.f38 5) b' 2 = y2
      generalize Rg.out (Rg.opsOf Try.f38 5) b' 3 = y3
      generalize Rg.out (Rg.opsOf Try.f38 5) b' 4 = y4
      generalize Rg.out (Rg.opsOf Try.f38 5) b' 5 = y5
      generalize Rg.out (Rg.opsOf Try.f38 5) b' 6 = y6
      have hz7 := hg7.size
      have hr7 := HRG6.out.kept hg7 (by first | (simp; done) | (simp; omega)) (by first | (simp; done) | (simp; omega))
      have b7 := b6.grown hg7 b6.size (fun j hj => by cases hj; exact Nat.le_refl _)
      go_frame
      go_wp2_with fail
      go_roundw
      case rel => exact ⟨_, cnt5, m + 1, _, hr7, ho7, by have := hlr.out.2; omega, HCv5, by omega, b7⟩
      case measure => rw [hr7.left_eq, hlr.out.1.left_eq]; exact hlr.out.2
end Go.Proofs.Ytbabknhccapaoaa
