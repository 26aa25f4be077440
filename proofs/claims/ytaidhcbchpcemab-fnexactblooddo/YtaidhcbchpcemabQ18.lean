/-
  Needs: read as they came in; the law's own helpers on them.
-/
import Derived.Test.YtaidhcbchpcemabQ3
import Derived.Test.YtaidhcbchpcemabQ6
import Derived.Test.YtaidhcbchpcemabQ14
namespace Go.Proofs.Ytaidhcbchpcemab
open Go.RowKit Go.WideShapes Va Bl
set_option linter.all false

/-- The fields of a need: two numbers and the antigens. -/
def NeedFields (P : Program) (fs : Array Field) : Prop :=
  (∀ k, k < 3 → k ≠ 2 → ∃ f, fs[k]? = some f ∧ f.offset = k ∧ P.cellsOf f.type = 1 ∧ P.underlying f.type = some (.int .i64)) ∧
    ∃ f e, fs[2]? = some f ∧ f.offset = 2 ∧ P.cellsOf f.type = 1 ∧ P.underlying f.type = some (.slice e) ∧ P.underlying e = some (.int .i64) ∧ P.cellsOf e = 1

theorem need_of_trod {H : Type} {enc : TypeId × Value → H} {P : Program} {W : World} {sp : Nat → Bool} {hd : Bool} {t : TypeId} {fs : Array Field} {fuel : Nat} {cs : List Value} {x : DataW H × List MemPlace}
    (ht : P.underlying t = some (.struct fs)) (hF : NeedFields P fs) (hl : cs.length = 3) (h : DataW.trod enc P W 0 sp hd fuel t cs = some x) :
    ∃ (o : Nd) (tv : Value), cs = [.int .i64 o.p, .int .i64 o.g, tv] ∧ o.ag.length ≤ maxLen ∧ IRw W tv o.ag := by
  obtain ⟨xs, k, hk, hxy, _, hxl, hf⟩ := DataW.trod_struct ht h
  have hone : ∀ k, k < 3 → ∃ v, cs[k]? = some v ∧ (cs.drop k).take 1 = [v] := fun k hk => by
    have hk' : k < cs.length := by omega
    exact ⟨cs[k], List.getElem?_eq_getElem hk', by rw [List.drop_eq_getElem_cons hk', List.take_succ_cons, List.take_zero]⟩
  have hq : ∀ k, k < 3 → k ≠ 2 → ∃ z : Int, cs[k]? = some (.int .i64 z) := fun k hk hk1 => by
    obtain ⟨f, hf1, hf2, hf3, hf4⟩ := hF.1 k hk hk1
    have hg := hf k f hf1
    rw [hf2, hf3] at hg
    have hxk : k < xs.length := by rw [hxl]; exact (Array.getElem?_eq_some_iff.1 hf1).1
    rw [List.getElem?_eq_getElem hxk] at hg
    obtain ⟨z, hz, _⟩ := DataW.trod_int hf4 hg
    obtain ⟨v, hv1, hv2⟩ := hone k (by omega)
    rw [hv2] at hz
    refine ⟨z, ?_⟩
    rw [hv1]
    simpa using hz
  obtain ⟨f, e, hf1, hf2, hf3, hf4, hf5, hf6⟩ := hF.2
  have hg := hf 2 f hf1
  rw [hf2, hf3] at hg
  have hxk : 2 < xs.length := by rw [hxl]; exact (Array.getElem?_eq_some_iff.1 hf1).1
  rw [List.getElem?_eq_getElem hxk] at hg
  obtain ⟨tv, l, h1, h2, h3⟩ := irw_of_trod hf4 hf5 hf6 hg
  obtain ⟨v, hv1, hv2⟩ := hone 2 (by omega)
  rw [hv2] at h1
  obtain rfl : v = tv := by simpa using h1
  obtain ⟨z0, e0⟩ := hq 0 (by omega) (by omega)
  obtain ⟨z1, e1⟩ := hq 1 (by omega) (by omega)
  refine ⟨⟨z0, z1, l⟩, v, ?_, h2, h3⟩
  match cs, hl, e0, e1, hv1 with
  | [c0, c1, c2], _, e0, e1, hv1 =>
    have g0 : c0 = .int .i64 z0 := Option.some.inj e0
    have g1 : c1 = .int .i64 z1 := Option.some.inj e1
    have g2 : c2 = v := Option.some.inj hv1
    rw [g0, g1, g2]

set_option maxRecDepth 100000 in
theorem fsNeed : ∃ fs, Try.prog.underlying 26 = some (.struct fs) ∧ NeedFields Try.prog fs := by
  refine ⟨_, Try.underlying26, fun k hk hk1 => ?_, ⟨_, 2, rfl, rfl, by kernel_rfl, Try.underlying22, Try.underlying2, by kernel_rfl⟩⟩
  match k, hk, hk1 with
  | 0, _, _ => exact ⟨_, rfl, rfl, by kernel_rfl, Try.underlying2⟩
  | 1, _, _ => exact ⟨_, rfl, rfl, by kernel_rfl, Try.underlying2⟩
  | 2, _, h => exact absurd rfl h

theorem array3Q {α : Type} {cs : Array α} (h : cs.size = 3) : ∃ c0 c1 c2, cs = #[c0, c1, c2] := by
  obtain ⟨l⟩ := cs
  match l, h with
  | [c0, c1, c2], _ => exact ⟨c0, c1, c2, rfl⟩

set_option maxRecDepth 100000 in
theorem need_of_read {H : Type} {enc : TypeId × Value → H} {W : World} {sp : Nat → Bool} {hd : Bool} {r : Reach} {b0 : Nat} {v : Value} {d : DataW H} {p : List MemPlace}
    (hv : Value.okWide Try.prog W r b0 26 v) (h : DataW.Trod enc Try.prog W 0 sp hd 26 v d p) : ∃ (x : Nd) (ta : Option Addr) (tc : Nat), v = aN x (.slice ta x.ag.length tc) ∧ x.ag.length ≤ maxLen ∧ IRw W (.slice ta x.ag.length tc) x.ag := by
  obtain ⟨fs, hu, hfs⟩ := fsNeed
  obtain ⟨cs, rfl, hsz⟩ := okWide_struct hu hv
  obtain ⟨c0, c1, c2, rfl⟩ := array3Q (hsz.trans (by kernel_rfl))
  obtain ⟨fuel, hf⟩ := h
  obtain ⟨o, tv, h1, h2, h3⟩ := need_of_trod hu hfs (by simp [Value.cells]) hf
  obtain ⟨ta, tc, rfl⟩ := h3.form
  simp [Value.cells] at h1
  obtain ⟨rfl, rfl, rfl⟩ := h1
  exact ⟨o, ta, tc, rfl, h2, h3⟩

set_option maxRecDepth 20000 in
set_option maxHeartbeats 4000000 in
theorem toneed_any (x : Nd) (ta : Option Addr) (tn tc : Nat) (w : World) (h : IRw w (.slice ta tn tc) x.ag) (hn : x.ag.length ≤ 1048576) :
    Calls Try.prog 11 #[aN x (.slice ta tn tc)] w fun e w' => ∃ G, w.heap.size ≤ G ∧ G < w'.heap.size ∧ e = .returned (aN x (.slice (some ⟨G, 0, none⟩) x.ag.length x.ag.length)) ∧ Out 1 csI w' G x.ag.length x.ag x.ag.length ∧ Below w.heap.size w w' := by
  have k1 := fun W hW => toints_any ta tn tc x.ag W hW hn
  have HT := hidden (fun W (hW : Below w.heap.size w W) => h.below hW)
  clear h
  have P1 := hidden ((PB.new (w.alloc (.cells #[.int .i64 x.p, .int .i64 x.g, .slice ta tn tc] 26)) #[.int .i64 0, .int .i64 0, .slice none 0 0] 32).alloc (.cells #[.int .i64 x.p, .int .i64 x.g, .slice none 0 0] 32))
  have P0 := hidden (((PB.new w #[.int .i64 x.p, .int .i64 x.g, .slice ta tn tc] 26).alloc (.cells #[.int .i64 0, .int .i64 0, .slice none 0 0] 32)).alloc (.cells #[.int .i64 x.p, .int .i64 x.g, .slice none 0 0] 32))
  have P2 := hidden (PB.new ((w.alloc (.cells #[.int .i64 x.p, .int .i64 x.g, .slice ta tn tc] 26)).alloc (.cells #[.int .i64 0, .int .i64 0, .slice none 0 0] 32)) #[.int .i64 x.p, .int .i64 x.g, .slice none 0 0] 32)
  simp only [World.size_alloc] at P0 P1 P2
  unfold aN
  go_enter Try.func11, Try.ntmps11
  go_wp2_with (go_at_call 36; refine (k1 _ (HT.out _ (by repeat (first | exact Below.refl _ _ | assumption | refine st_drew ?_ | refine st_drewN ?_ _ | refine Below.setCell ?_ (by first | omega | (simp; done) | (simp; omega)) _ | refine Below.alloc ?_ (by first | omega | (simp; done) | (simp; omega)) _)))).mono ?_; rintro e w1 ⟨rfl, ho1, hb1⟩; have HO := hidden ho1; have hp := P0.out.below hb1; have hq := P1.out.below hb1; have hr := P2.out.below hb1; obtain ⟨p0, p1, p2⟩ := hp.three; obtain ⟨q0, q1, q2⟩ := hq.three; obtain ⟨r0, r1, r2⟩ := hr.three; obtain ⟨f0, f1, f2, -⟩ := hq.cold; obtain ⟨g0, g1, g2, -⟩ := hr.cold; have bA := onto (show Below w.heap.size w _ from by repeat (first | exact Below.refl _ _ | assumption | refine st_drew ?_ | refine st_drewN ?_ _ | refine Below.setCell ?_ (by first | omega | (simp; done) | (simp; omega)) _ | refine Below.alloc ?_ (by first | omega | (simp; done) | (simp; omega)) _)) hb1; have hsz := hb1.size; simp only [World.size_alloc] at hsz; have HR := hidden hr; clear hb1 ho1 hp hr; have HQ := hidden hq; clear hq)
  simp only [World.size_alloc] at HO
  have o0 := HO.out
  have b0 := bA
  have e0 := HQ.out
  have o1 := out_far o0 (b := w.heap.size + 1 + 1) (by omega) 2 (.slice (some ⟨w.heap.size + 1 + 1 + 1, 0, none⟩) x.ag.length x.ag.length)
  have b1 := b0.setCell (p := ⟨w.heap.size + 1 + 1, 2, none⟩) (by show w.heap.size ≤ w.heap.size + 1 + 1; omega) (.slice (some ⟨w.heap.size + 1 + 1 + 1, 0, none⟩) x.ag.length x.ag.length)
  have e1 := e0.far (b := w.heap.size + 1 + 1) (by omega) 2 (.slice (some ⟨w.heap.size + 1 + 1 + 1, 0, none⟩) x.ag.length x.ag.length)
  have o2 := out_far o1 (b := w.heap.size + 1) (by omega) 0 (.int .i64 x.p)
  have b2 := b1.setCell (p := ⟨w.heap.size + 1, 0, none⟩) (by show w.heap.size ≤ w.heap.size + 1; omega) (.int .i64 x.p)
  have o3 := out_far o2 (b := w.heap.size + 1) (by omega) 1 (.int .i64 x.g)
  have b3 := b2.setCell (p := ⟨w.heap.size + 1, 1, none⟩) (by show w.heap.size ≤ w.heap.size + 1; omega) (.int .i64 x.g)
  have o4 := out_far o3 (b := w.heap.size + 1) (by omega) 2 (.slice (some ⟨w.heap.size + 1 + 1 + 1, 0, none⟩) x.ag.length x.ag.length)
  have b4 := b3.setCell (p := ⟨w.heap.size + 1, 2, none⟩) (by show w.heap.size ≤ w.heap.size + 1; omega) (.slice (some ⟨w.heap.size + 1 + 1 + 1, 0, none⟩) x.ag.length x.ag.length)
  have e2 := ((e1.put 0 (.int .i64 x.p) rfl).put 1 (.int .i64 x.g) rfl).put 2 (.slice (some ⟨w.heap.size + 1 + 1 + 1, 0, none⟩) x.ag.length x.ag.length) rfl
  obtain ⟨y0, y1, y2⟩ := PB.three (v0 := .int .i64 x.p) (v1 := .int .i64 x.g) (v2 := .slice (some ⟨w.heap.size + 1 + 1 + 1, 0, none⟩) x.ag.length x.ag.length) e2
  have hfin := o4
  clear o0 o1 o2 o3 o4 e0 e1 e2
  exact bodyPost_ret (v := .agg #[.int .i64 x.p, .int .i64 x.g, .slice (some ⟨w.heap.size + 1 + 1 + 1, 0, none⟩) x.ag.length x.ag.length]) (by simp [results, Try.results11, go_sem, y0, y1, y2]) rfl
    ⟨_, by omega, hfin.1, rfl, hfin, b4⟩

set_option maxRecDepth 20000 in
set_option maxHeartbeats 1000000 in
theorem szneed_any (x : Nd) (ta : Option Addr) (n tc : Nat) (L : Int) (w : World) (hn : (n : Int) ≤ 9223372036854775807) (h0 : 0 ≤ L) (h1 : L ≤ 1048576) :
    Calls Try.prog 8 #[aN x (.slice ta n tc), .int .i64 L] w fun e w' => e = .returned (.int .i64 (if L < n then -1 else L - n)) ∧ Below w.heap.size w w' := by
  have hK := fun W => szints_any ta n tc L W hn h0 h1
  unfold aN
  by_cases h : L < (n : Int)
  · rw [if_pos h] at hK ⊢
    go_enter Try.func8, Try.ntmps8
    go_wp2_with (go_at_call 31; refine (hK _).mono ?_; rintro e w1 ⟨rfl, rfl⟩)
    go_ret
    exact ⟨rfl, by repeat (first | exact Below.refl _ _ | assumption | refine st_drew ?_ | refine st_drewN ?_ _ | refine Below.setCell ?_ (by first | omega | (simp; done) | (simp; omega)) _ | refine Below.alloc ?_ (by first | omega | (simp; done) | (simp; omega)) _)⟩
  · rw [if_neg h] at hK ⊢
    have h2 : ¬ L - n < 0 := by omega
    go_enter Try.func8, Try.ntmps8
    go_wp2_with (go_at_call 31; refine (hK _).mono ?_; rintro e w1 ⟨rfl, rfl⟩)
    go_ret
    exact ⟨rfl, by repeat (first | exact Below.refl _ _ | assumption | refine st_drew ?_ | refine st_drewN ?_ _ | refine Below.setCell ?_ (by first | omega | (simp; done) | (simp; omega)) _ | refine Below.alloc ?_ (by first | omega | (simp; done) | (simp; omega)) _)⟩

set_option maxRecDepth 20000 in
set_option maxHeartbeats 1000000 in
theorem eqneed_any (x : Nd) (a1 : Option Addr) (n1 c1 : Nat) (a2 : Option Addr) (n2 c2 : Nat) (w : World) (h : IRw w (.slice a1 n1 c1) x.ag) (h' : IRw w (.slice a2 n2 c2) x.ag) (hn : x.ag.length ≤ 1048576) :
    Calls Try.prog 14 #[aN x (.slice a1 n1 c1), aN x (.slice a2 n2 c2)] w fun e w' => e = .returned (.bool true) ∧ Below w.heap.size w w' := by
  have hK := fun W hW hW' => eqints_any a1 n1 c1 a2 n2 c2 x.ag W hW hW' hn
  have HA := hidden (fun W (hW : Below w.heap.size w W) => h.below hW)
  have HB := hidden (fun W (hW : Below w.heap.size w W) => h'.below hW)
  clear h h'
  unfold aN
  go_enter Try.func14, Try.ntmps14
  go_wp2_with (go_at_call 19; refine (hK _ (HA.out _ (by repeat (first | exact Below.refl _ _ | assumption | refine st_drew ?_ | refine st_drewN ?_ _ | refine Below.setCell ?_ (by first | omega | (simp; done) | (simp; omega)) _ | refine Below.alloc ?_ (by first | omega | (simp; done) | (simp; omega)) _))) (HB.out _ (by repeat (first | exact Below.refl _ _ | assumption | refine st_drew ?_ | refine st_drewN ?_ _ | refine Below.setCell ?_ (by first | omega | (simp; done) | (simp; omega)) _ | refine Below.alloc ?_ (by first | omega | (simp; done) | (simp; omega)) _)))).mono ?_; rintro e w1 ⟨rfl, hb1⟩; have bA := onto (show Below w.heap.size w _ from by repeat (first | exact Below.refl _ _ | assumption | refine st_drew ?_ | refine st_drewN ?_ _ | refine Below.setCell ?_ (by first | omega | (simp; done) | (simp; omega)) _ | refine Below.alloc ?_ (by first | omega | (simp; done) | (simp; omega)) _)) hb1; clear hb1)
  go_ret
  exact ⟨rfl, bA⟩

end Go.Proofs.Ytaidhcbchpcemab
