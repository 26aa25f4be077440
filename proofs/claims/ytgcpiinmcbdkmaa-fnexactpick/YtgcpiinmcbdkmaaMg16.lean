/-
  Merged: Q26 Q27 Q28 Q29 Q30 Q24 Q31 Q32 Q33 Q34 Q35 Q18 Q36.
-/
import Derived.Test.YtgcpiinmcbdkmaaMg13
import Derived.Test.YtgcpiinmcbdkmaaMg15
import Derived.Test.YtgcpiinmcbdkmaaMg7
import Derived.Test.YtgcpiinmcbdkmaaMg2
import Derived.Test.YtgcpiinmcbdkmaaMg3
import Derived.Test.YtgcpiinmcbdkmaaMg10
import Derived.Test.YtgcpiinmcbdkmaaMg4
namespace Go.Proofs.Ytgcpiinmcbdkmaa
open Go.RowKit Va Bl
set_option linter.all false
set_option maxRecDepth 20000 in
set_option maxHeartbeats 4000000 in
theorem irefuse_any (x : Ut) (ta : Option Addr) (tn tc : Nat) (n : Nd) (na : Option Addr) (nn nc : Nat) (t : Int) (w : World) (h : IRw w (.slice ta tn tc) x.ant) (hn : x.ant.length ≤ 1048576) (h' : IRw w (.slice na nn nc) n.ag) (hn' : n.ag.length ≤ 1048576) :
    Calls Try.prog 84 #[aN n (.slice na nn nc), aU x (.slice ta tn tc), .int .i64 t] w fun e w' => e = .returned (.int .i64 (refuse x n t)) ∧ Below w.heap.size w w' := by
  have k := fun W hW hW' => ifits_any x ta tn tc n na nn nc W hW hn hW' hn'
  have HU := hidden (fun W (hW : Below w.heap.size w W) => h.below hW)
  have HN := hidden (fun W (hW : Below w.heap.size w W) => h'.below hW)
  clear h h'
  unfold aU aN at *
  unfold refuse
  by_cases q : x.til < t
  · rw [if_pos q]
    go_enter Try.func84, Try.ntmps84
    go_wp2_with fail
    go_ret
    exact ⟨rfl, by repeat (first | exact Below.refl _ _ | assumption | refine st_drew ?_ | refine st_drewN ?_ _ | refine Below.setCell ?_ (by first | omega | (simp; done) | (simp; omega)) _ | refine Below.alloc ?_ (by first | omega | (simp; done) | (simp; omega)) _)⟩
  · rw [if_neg q]
    cases hF : fitsB x n with
    | true =>
      rw [hF] at k
      rw [if_pos rfl]
      clear hF
      go_enter Try.func84, Try.ntmps84
      go_wp2_with (go_at_call 120; refine (k _ (HU.out _ (by repeat (first | exact Below.refl _ _ | assumption | refine st_drew ?_ | refine st_drewN ?_ _ | refine Below.setCell ?_ (by first | omega | (simp; done) | (simp; omega)) _ | refine Below.alloc ?_ (by first | omega | (simp; done) | (simp; omega)) _))) (HN.out _ (by repeat (first | exact Below.refl _ _ | assumption | refine st_drew ?_ | refine st_drewN ?_ _ | refine Below.setCell ?_ (by first | omega | (simp; done) | (simp; omega)) _ | refine Below.alloc ?_ (by first | omega | (simp; done) | (simp; omega)) _)))).mono ?_; rintro e w1 ⟨rfl, hb1⟩; have bA := onto (show Below w.heap.size w _ from by repeat (first | exact Below.refl _ _ | assumption | refine st_drew ?_ | refine st_drewN ?_ _ | refine Below.setCell ?_ (by first | omega | (simp; done) | (simp; omega)) _ | refine Below.alloc ?_ (by first | omega | (simp; done) | (simp; omega)) _)) hb1; clear hb1)
      go_ret
      exact ⟨rfl, bA⟩
    | false =>
      rw [hF] at k
      rw [if_neg (by simp)]
      clear hF
      go_enter Try.func84, Try.ntmps84
      go_wp2_with (go_at_call 120; refine (k _ (HU.out _ (by repeat (first | exact Below.refl _ _ | assumption | refine st_drew ?_ | refine st_drewN ?_ _ | refine Below.setCell ?_ (by first | omega | (simp; done) | (simp; omega)) _ | refine Below.alloc ?_ (by first | omega | (simp; done) | (simp; omega)) _))) (HN.out _ (by repeat (first | exact Below.refl _ _ | assumption | refine st_drew ?_ | refine st_drewN ?_ _ | refine Below.setCell ?_ (by first | omega | (simp; done) | (simp; omega)) _ | refine Below.alloc ?_ (by first | omega | (simp; done) | (simp; omega)) _)))).mono ?_; rintro e w1 ⟨rfl, hb1⟩; have bA := onto (show Below w.heap.size w _ from by repeat (first | exact Below.refl _ _ | assumption | refine st_drew ?_ | refine st_drewN ?_ _ | refine Below.setCell ?_ (by first | omega | (simp; done) | (simp; omega)) _ | refine Below.alloc ?_ (by first | omega | (simp; done) | (simp; omega)) _)) hb1; clear hb1)
      go_ret
      exact ⟨rfl, bA⟩
theorem as_keep1 (v : Value) (xT : TypeId) (w : World) : (Instr.typeAssert (.iface 153 v) xT 122 true).run Try.prog w = .ok (.tuple #[.iface 153 v, .bool true]) w := run_typeAssert_hasB Try.underlying122 (by kernel_rfl) v xT w
theorem as_keepN {st : Int} (h : ¬ st = 1) (v : Value) (xT : TypeId) (w : World) : (Instr.typeAssert (.iface (ifT st) v) xT 122 true).run Try.prog w = .ok (.tuple #[.nilIface, .bool false]) w := by
  unfold ifT
  repeat' split
  all_goals first | (exfalso; omega) | exact run_typeAssert_lacksB Try.underlying122 (by kernel_rfl) (by kernel_rfl) v xT w
end Go.Proofs.Ytgcpiinmcbdkmaa

namespace Go.Proofs.Ytgcpiinmcbdkmaa
open Go.RowKit Va Bl
set_option linter.all false
end Go.Proofs.Ytgcpiinmcbdkmaa

namespace Go.Proofs.Ytgcpiinmcbdkmaa
open Go.RowKit Va Bl
set_option linter.all false
end Go.Proofs.Ytgcpiinmcbdkmaa

namespace Go.Proofs.Ytgcpiinmcbdkmaa
open Go.RowKit Va Bl
set_option linter.all false
theorem Antis.base {w : World} {base b : Nat} {L : List (Ut × Value)} (h : Antis w base L) (hb : b ≤ base) : Antis w b L := ⟨fun p hp => ownW_base (h.1 p hp) hb, h.2⟩
end Go.Proofs.Ytgcpiinmcbdkmaa

namespace Go.Proofs.Ytgcpiinmcbdkmaa
open Go.RowKit Va Bl
set_option linter.all false
end Go.Proofs.Ytgcpiinmcbdkmaa

namespace Go.Proofs.Ytgcpiinmcbdkmaa
open Go.RowKit Va Bl
set_option linter.all false
theorem filt_snoc {l : List Ut} {i : Nat} {x : Ut} {f : Ut → Bool} (h : l[i]? = some x) : (l.take (i + 1)).filter f = (l.take i).filter f ++ (if f x = true then [x] else []) := by
  rw [take_snocU h, List.filter_append]
  congr 1
  by_cases q : f x = true
  · rw [if_pos q]; simp only [List.filter_cons, q, if_true, List.filter_nil]
  · rw [if_neg q]; simp only [Bool.not_eq_true] at q; simp only [List.filter_cons, q]; rfl
theorem bank_len {l : List Ut} (h : bankB l = true) : l.length ≤ 300 := by
  unfold bankB at h
  simp only [Bool.and_eq_true, decide_eq_true_eq] at h
  exact h.1
theorem infoUq : (Try.prog.info? 81).map (fun i => (i.zero, i.size, i.bytes)) = some (some (.agg #[.int .i64 0, .int .i64 0, .slice none 0 0, .int .i64 0, .int .i64 0, .int .i64 0]), 6, 64) := by kernel_rfl
end Go.Proofs.Ytgcpiinmcbdkmaa

namespace Go.Proofs.Ytgcpiinmcbdkmaa
open Go.RowKit Va Bl
set_option linter.all false
end Go.Proofs.Ytgcpiinmcbdkmaa

namespace Go.Proofs.Ytgcpiinmcbdkmaa
open Go.RowKit Va Bl
set_option linter.all false
end Go.Proofs.Ytgcpiinmcbdkmaa

namespace Go.Proofs.Ytgcpiinmcbdkmaa
open Go.RowKit Va Bl
set_option linter.all false
end Go.Proofs.Ytgcpiinmcbdkmaa

namespace Go.Proofs.Ytgcpiinmcbdkmaa
open Go.RowKit Va Bl
set_option linter.all false
def tot : List Ut → Int
  | [] => 0
  | x :: l => 5 + x.ant.length + tot l
end Go.Proofs.Ytgcpiinmcbdkmaa

namespace Go.Proofs.Ytgcpiinmcbdkmaa
open Go.RowKit Va Bl
set_option linter.all false
end Go.Proofs.Ytgcpiinmcbdkmaa

namespace Go.Proofs.Ytgcpiinmcbdkmaa
open Go.RowKit Go.WideShapes Va Bl
set_option linter.all false
def NeedFields (P : Program) (fs : Array Field) : Prop :=
  (∀ k, k < 3 → k ≠ 2 → ∃ f, fs[k]? = some f ∧ f.offset = k ∧ P.cellsOf f.type = 1 ∧ P.underlying f.type = some (.int .i64)) ∧
    ∃ f e, fs[2]? = some f ∧ f.offset = 2 ∧ P.cellsOf f.type = 1 ∧ P.underlying f.type = some (.slice e) ∧ P.underlying e = some (.int .i64) ∧ P.cellsOf e = 1
theorem need_of_trod {H : Type} {enc : TypeId × Value → H} {P : Program} {W : World} {sp : Nat → Bool} {hd : Bool} {t : TypeId} {fs : Array Field} {fuel : Nat} {cs : List Value} {x : DataW H × List MemPlace}
    (ht : P.underlying t = some (.struct fs)) (hF : NeedFields P fs) (hl : cs.length = 3) (h : DataW.trod enc P W 0 sp hd fuel t cs = some x) :
    ∃ (o : Nd) (tv : Value), cs = [.int .i64 o.p, .int .i64 o.g, tv] ∧ o.ag.length ≤ maxLen ∧ IRw W tv o.ag := by
  obtain ⟨xs, k, hk, hxy, _, hxl, hf⟩ := DataW.trod_struct ht h
  have hone : ∀ k, k < 3 → ∃ v, cs[k]? = some v ∧ (cs.drop k).take 1 = [v] := fun k hk => by
    have hk' : k < cs.length := by omega
    exact ⟨cs[k], List.getElem?_eq_getElem hk', by rw [List.drop_eq_getElem_cons hk', List.take_succ_cons, List.take_zero]⟩
  have hq : ∀ k, k < 3 → k ≠ 2 → ∃ z : Int, cs[k]? = some (.int .i64 z) := fun k hk hk1 => by
    obtain ⟨f, hf1, hf2, hf3, hf4⟩ := hF.1 k hk hk1
    have hg := hf k f hf1
    rw [hf2, hf3] at hg
    have hxk : k < xs.length := by rw [hxl]; exact (Array.getElem?_eq_some_iff.1 hf1).1
    rw [List.getElem?_eq_getElem hxk] at hg
    obtain ⟨z, hz, _⟩ := DataW.trod_int hf4 hg
    obtain ⟨v, hv1, hv2⟩ := hone k (by omega)
    rw [hv2] at hz
    refine ⟨z, ?_⟩
    rw [hv1]
    simpa using hz
  obtain ⟨f, e, hf1, hf2, hf3, hf4, hf5, hf6⟩ := hF.2
  have hg := hf 2 f hf1
  rw [hf2, hf3] at hg
  have hxk : 2 < xs.length := by rw [hxl]; exact (Array.getElem?_eq_some_iff.1 hf1).1
  rw [List.getElem?_eq_getElem hxk] at hg
  obtain ⟨tv, l, h1, h2, h3⟩ := irw_of_trod hf4 hf5 hf6 hg
  obtain ⟨v, hv1, hv2⟩ := hone 2 (by omega)
  rw [hv2] at h1
  obtain rfl : v = tv := by simpa using h1
  obtain ⟨z0, e0⟩ := hq 0 (by omega) (by omega)
  obtain ⟨z1, e1⟩ := hq 1 (by omega) (by omega)
  refine ⟨⟨z0, z1, l⟩, v, ?_, h2, h3⟩
  match cs, hl, e0, e1, hv1 with
  | [c0, c1, c2], _, e0, e1, hv1 =>
    have g0 : c0 = .int .i64 z0 := Option.some.inj e0
    have g1 : c1 = .int .i64 z1 := Option.some.inj e1
    have g2 : c2 = v := Option.some.inj hv1
    rw [g0, g1, g2]
set_option maxRecDepth 100000 in
theorem fsNeed : ∃ fs, Try.prog.underlying 43 = some (.struct fs) ∧ NeedFields Try.prog fs := by
  refine ⟨_, Try.underlying43, fun k hk hk1 => ?_, ⟨_, 2, rfl, rfl, by kernel_rfl, Try.underlying25, Try.underlying2, by kernel_rfl⟩⟩
  match k, hk, hk1 with
  | 0, _, _ => exact ⟨_, rfl, rfl, by kernel_rfl, Try.underlying2⟩
  | 1, _, _ => exact ⟨_, rfl, rfl, by kernel_rfl, Try.underlying2⟩
  | 2, _, h => exact absurd rfl h
theorem array3Q {α : Type} {cs : Array α} (h : cs.size = 3) : ∃ c0 c1 c2, cs = #[c0, c1, c2] := by
  obtain ⟨l⟩ := cs
  match l, h with
  | [c0, c1, c2], _ => exact ⟨c0, c1, c2, rfl⟩
set_option maxRecDepth 100000 in
theorem need_of_read {H : Type} {enc : TypeId × Value → H} {W : World} {sp : Nat → Bool} {hd : Bool} {r : Reach} {b0 : Nat} {v : Value} {d : DataW H} {p : List MemPlace}
    (hv : Value.okWide Try.prog W r b0 43 v) (h : DataW.Trod enc Try.prog W 0 sp hd 43 v d p) : ∃ (x : Nd) (ta : Option Addr) (tc : Nat), v = aN x (.slice ta x.ag.length tc) ∧ x.ag.length ≤ maxLen ∧ IRw W (.slice ta x.ag.length tc) x.ag := by
  obtain ⟨fs, hu, hfs⟩ := fsNeed
  obtain ⟨cs, rfl, hsz⟩ := okWide_struct hu hv
  obtain ⟨c0, c1, c2, rfl⟩ := array3Q (hsz.trans (by kernel_rfl))
  obtain ⟨fuel, hf⟩ := h
  obtain ⟨o, tv, h1, h2, h3⟩ := need_of_trod hu hfs (by simp [Value.cells]) hf
  obtain ⟨ta, tc, rfl⟩ := h3.form
  simp [Value.cells] at h1
  obtain ⟨rfl, rfl, rfl⟩ := h1
  exact ⟨o, ta, tc, rfl, h2, h3⟩
set_option maxRecDepth 20000 in
set_option maxHeartbeats 4000000 in
theorem toneed_any (x : Nd) (ta : Option Addr) (tn tc : Nat) (w : World) (h : IRw w (.slice ta tn tc) x.ag) (hn : x.ag.length ≤ 1048576) :
    Calls Try.prog 22 #[aN x (.slice ta tn tc)] w fun e w' => ∃ G, w.heap.size ≤ G ∧ G < w'.heap.size ∧ e = .returned (aN x (.slice (some ⟨G, 0, none⟩) x.ag.length x.ag.length)) ∧ Out 1 csI w' G x.ag.length x.ag x.ag.length ∧ Below w.heap.size w w' := by
  have k1 := fun W hW => toints_any ta tn tc x.ag W hW hn
  have HT := hidden (fun W (hW : Below w.heap.size w W) => h.below hW)
  clear h
  have P1 := hidden ((PB.new (w.alloc (.cells #[.int .i64 x.p, .int .i64 x.g, .slice ta tn tc] 43)) #[.int .i64 0, .int .i64 0, .slice none 0 0] 27).alloc (.cells #[.int .i64 x.p, .int .i64 x.g, .slice none 0 0] 27))
  have P0 := hidden (((PB.new w #[.int .i64 x.p, .int .i64 x.g, .slice ta tn tc] 43).alloc (.cells #[.int .i64 0, .int .i64 0, .slice none 0 0] 27)).alloc (.cells #[.int .i64 x.p, .int .i64 x.g, .slice none 0 0] 27))
  have P2 := hidden (PB.new ((w.alloc (.cells #[.int .i64 x.p, .int .i64 x.g, .slice ta tn tc] 43)).alloc (.cells #[.int .i64 0, .int .i64 0, .slice none 0 0] 27)) #[.int .i64 x.p, .int .i64 x.g, .slice none 0 0] 27)
  simp only [World.size_alloc] at P0 P1 P2
  unfold aN
  go_enter Try.func22, Try.ntmps22
  go_wp2_with (go_at_call 65; refine (k1 _ (HT.out _ (by repeat (first | exact Below.refl _ _ | assumption | refine st_drew ?_ | refine st_drewN ?_ _ | refine Below.setCell ?_ (by first | omega | (simp; done) | (simp; omega)) _ | refine Below.alloc ?_ (by first | omega | (simp; done) | (simp; omega)) _)))).mono ?_; rintro e w1 ⟨rfl, ho1, hb1⟩; have HO := hidden ho1; have hp := P0.out.below hb1; have hq := P1.out.below hb1; have hr := P2.out.below hb1; obtain ⟨p0, p1, p2⟩ := hp.three; obtain ⟨q0, q1, q2⟩ := hq.three; obtain ⟨r0, r1, r2⟩ := hr.three; obtain ⟨f0, f1, f2, -⟩ := hq.cold; obtain ⟨g0, g1, g2, -⟩ := hr.cold; have bA := onto (show Below w.heap.size w _ from by repeat (first | exact Below.refl _ _ | assumption | refine st_drew ?_ | refine st_drewN ?_ _ | refine Below.setCell ?_ (by first | omega | (simp; done) | (simp; omega)) _ | refine Below.alloc ?_ (by first | omega | (simp; done) | (simp; omega)) _)) hb1; have hsz := hb1.size; simp only [World.size_alloc] at hsz; have HR := hidden hr; clear hb1 ho1 hp hr; have HQ := hidden hq; clear hq)
  simp only [World.size_alloc] at HO
  have o0 := HO.out
  have b0 := bA
  have e0 := HQ.out
  have o1 := out_far o0 (b := w.heap.size + 1 + 1) (by omega) 2 (.slice (some ⟨w.heap.size + 1 + 1 + 1, 0, none⟩) x.ag.length x.ag.length)
  have b1 := b0.setCell (p := ⟨w.heap.size + 1 + 1, 2, none⟩) (by show w.heap.size ≤ w.heap.size + 1 + 1; omega) (.slice (some ⟨w.heap.size + 1 + 1 + 1, 0, none⟩) x.ag.length x.ag.length)
  have e1 := e0.far (b := w.heap.size + 1 + 1) (by omega) 2 (.slice (some ⟨w.heap.size + 1 + 1 + 1, 0, none⟩) x.ag.length x.ag.length)
  have o2 := out_far o1 (b := w.heap.size + 1) (by omega) 0 (.int .i64 x.p)
  have b2 := b1.setCell (p := ⟨w.heap.size + 1, 0, none⟩) (by show w.heap.size ≤ w.heap.size + 1; omega) (.int .i64 x.p)
  have o3 := out_far o2 (b := w.heap.size + 1) (by omega) 1 (.int .i64 x.g)
  have b3 := b2.setCell (p := ⟨w.heap.size + 1, 1, none⟩) (by show w.heap.size ≤ w.heap.size + 1; omega) (.int .i64 x.g)
  have o4 := out_far o3 (b := w.heap.size + 1) (by omega) 2 (.slice (some ⟨w.heap.size + 1 + 1 + 1, 0, none⟩) x.ag.length x.ag.length)
  have b4 := b3.setCell (p := ⟨w.heap.size + 1, 2, none⟩) (by show w.heap.size ≤ w.heap.size + 1; omega) (.slice (some ⟨w.heap.size + 1 + 1 + 1, 0, none⟩) x.ag.length x.ag.length)
  have e2 := ((e1.put 0 (.int .i64 x.p) rfl).put 1 (.int .i64 x.g) rfl).put 2 (.slice (some ⟨w.heap.size + 1 + 1 + 1, 0, none⟩) x.ag.length x.ag.length) rfl
  obtain ⟨y0, y1, y2⟩ := PB.three (v0 := .int .i64 x.p) (v1 := .int .i64 x.g) (v2 := .slice (some ⟨w.heap.size + 1 + 1 + 1, 0, none⟩) x.ag.length x.ag.length) e2
  have hfin := o4
  clear o0 o1 o2 o3 o4 e0 e1 e2
  exact bodyPost_ret (v := .agg #[.int .i64 x.p, .int .i64 x.g, .slice (some ⟨w.heap.size + 1 + 1 + 1, 0, none⟩) x.ag.length x.ag.length]) (by simp [results, Try.results22, go_sem, y0, y1, y2]) rfl
    ⟨_, by omega, hfin.1, rfl, hfin, b4⟩
set_option maxRecDepth 20000 in
set_option maxHeartbeats 1000000 in
theorem szneed_any (x : Nd) (ta : Option Addr) (n tc : Nat) (L : Int) (w : World) (hn : (n : Int) ≤ 9223372036854775807) (h0 : 0 ≤ L) (h1 : L ≤ 1048576) :
    Calls Try.prog 20 #[aN x (.slice ta n tc), .int .i64 L] w fun e w' => e = .returned (.int .i64 (if L < n then -1 else L - n)) ∧ Below w.heap.size w w' := by
  have hK := fun W => szints_any ta n tc L W hn h0 h1
  unfold aN
  by_cases h : L < (n : Int)
  · rw [if_pos h] at hK ⊢
    go_enter Try.func20, Try.ntmps20
    go_wp2_with (go_at_call 63; refine (hK _).mono ?_; rintro e w1 ⟨rfl, rfl⟩)
    go_ret
    exact ⟨rfl, by repeat (first | exact Below.refl _ _ | assumption | refine st_drew ?_ | refine st_drewN ?_ _ | refine Below.setCell ?_ (by first | omega | (simp; done) | (simp; omega)) _ | refine Below.alloc ?_ (by first | omega | (simp; done) | (simp; omega)) _)⟩
  · rw [if_neg h] at hK ⊢
    have h2 : ¬ L - n < 0 := by omega
    go_enter Try.func20, Try.ntmps20
    go_wp2_with (go_at_call 63; refine (hK _).mono ?_; rintro e w1 ⟨rfl, rfl⟩)
    go_ret
    exact ⟨rfl, by repeat (first | exact Below.refl _ _ | assumption | refine st_drew ?_ | refine st_drewN ?_ _ | refine Below.setCell ?_ (by first | omega | (simp; done) | (simp; omega)) _ | refine Below.alloc ?_ (by first | omega | (simp; done) | (simp; omega)) _)⟩
set_option maxRecDepth 20000 in
set_option maxHeartbeats 1000000 in
theorem eqneed_any (x : Nd) (a1 : Option Addr) (n1 c1 : Nat) (a2 : Option Addr) (n2 c2 : Nat) (w : World) (h : IRw w (.slice a1 n1 c1) x.ag) (h' : IRw w (.slice a2 n2 c2) x.ag) (hn : x.ag.length ≤ 1048576) :
    Calls Try.prog 25 #[aN x (.slice a1 n1 c1), aN x (.slice a2 n2 c2)] w fun e w' => e = .returned (.bool true) ∧ Below w.heap.size w w' := by
  have hK := fun W hW hW' => eqints_any a1 n1 c1 a2 n2 c2 x.ag W hW hW' hn
  have HA := hidden (fun W (hW : Below w.heap.size w W) => h.below hW)
  have HB := hidden (fun W (hW : Below w.heap.size w W) => h'.below hW)
  clear h h'
  unfold aN
  go_enter Try.func25, Try.ntmps25
  go_wp2_with (go_at_call 23; refine (hK _ (HA.out _ (by repeat (first | exact Below.refl _ _ | assumption | refine st_drew ?_ | refine st_drewN ?_ _ | refine Below.setCell ?_ (by first | omega | (simp; done) | (simp; omega)) _ | refine Below.alloc ?_ (by first | omega | (simp; done) | (simp; omega)) _))) (HB.out _ (by repeat (first | exact Below.refl _ _ | assumption | refine st_drew ?_ | refine st_drewN ?_ _ | refine Below.setCell ?_ (by first | omega | (simp; done) | (simp; omega)) _ | refine Below.alloc ?_ (by first | omega | (simp; done) | (simp; omega)) _)))).mono ?_; rintro e w1 ⟨rfl, hb1⟩; have bA := onto (show Below w.heap.size w _ from by repeat (first | exact Below.refl _ _ | assumption | refine st_drew ?_ | refine st_drewN ?_ _ | refine Below.setCell ?_ (by first | omega | (simp; done) | (simp; omega)) _ | refine Below.alloc ?_ (by first | omega | (simp; done) | (simp; omega)) _)) hb1; clear hb1)
  go_ret
  exact ⟨rfl, bA⟩
end Go.Proofs.Ytgcpiinmcbdkmaa

namespace Go.Proofs.Ytgcpiinmcbdkmaa
open Go.RowKit Go.WideShapes Va Bl
set_option linter.all false
structure BDR (w : World) (lo hi : Nat) (R : List Ut) (ad : Option Addr) (c : Nat) (M : List (Ut × Value)) : Prop where
  fst : M.map Prod.fst = R
  own : w.ownsRow lo 81 6 (.slice ad R.length c) R.length (cellsU M)
  ant : Antis w lo M
  lt1 : ∀ k, (Value.slice ad R.length c).ownBlock = some k → k < hi
  lt2 : ∀ p ∈ M, ∀ k, p.2.ownBlock = some k → k < hi
theorem BDR.len {w : World} {lo hi c : Nat} {R : List Ut} {ad : Option Addr} {M : List (Ut × Value)} (h : BDR w lo hi R ad c M) : M.length = R.length := by rw [← h.fst, List.length_map]
theorem BDR.below {w w' : World} {lo hi c : Nat} {R : List Ut} {ad : Option Addr} {M : List (Ut × Value)} (h : BDR w lo hi R ad c M) (hb : Below w.heap.size w w') : BDR w' lo hi R ad c M := ⟨h.fst, ownW_below h.own hb, h.ant.below hb, h.lt1, h.lt2⟩
theorem BDR.kp {w w' : World} {lo hi c a b : Nat} {R : List Ut} {ad : Option Addr} {M : List (Ut × Value)} (h : BDR w lo hi R ad c M) (hk : Kp a b w w') (hd : b ≤ lo ∨ hi ≤ a) : BDR w' lo hi R ad c M := by
  refine ⟨h.fst, kp_own hk h.own (fun k hk2 => ?_), ⟨fun p hp => kp_own hk (h.ant.1 p hp) (fun k hk2 => ?_), h.ant.2⟩, h.lt1, h.lt2⟩
  · have := (ownW_lt h.own k hk2).1
    have := h.lt1 k hk2
    omega
  · have := (ownW_lt (h.ant.1 p hp) k hk2).1
    have := h.lt2 p hp k hk2
    omega
theorem BDR.base {w : World} {lo lo' hi c : Nat} {R : List Ut} {ad : Option Addr} {M : List (Ut × Value)} (h : BDR w lo hi R ad c M) (hl : lo' ≤ lo) : BDR w lo' hi R ad c M := ⟨h.fst, ownW_base h.own hl, h.ant.base hl, h.lt1, h.lt2⟩
set_option maxRecDepth 20000 in
set_option maxHeartbeats 2000000 in
theorem markneed_any (n : Nd) (T m c : Nat) (k0 : Int) (w : World) (hT : T < w.heap.size) (h : ∀ j, j < m → (∃ u, w.cell? ⟨T, j, none⟩ = some u) ∧ w.frozen? ⟨T, j, none⟩ = false) (hn : m ≤ 1048576) (hk0 : 0 ≤ k0) (hk1 : k0 ≤ 1000000000000000) :
    Calls Try.prog 27 #[aN n (.slice (some ⟨T, 0, none⟩) m c), .int .i64 k0] w fun e w' => e = .returned (.int .i64 (k0 + m)) ∧ ∃ w1, Below w.heap.size w w1 ∧ Kp T (T + 1) w1 w' := by
  have b0 : Below w.heap.size w (w.alloc (.cells #[.int .i64 n.p, .int .i64 n.g, .slice (some ⟨T, 0, none⟩) m c] 27)) := by repeat (first | exact Below.refl _ _ | assumption | refine st_drew ?_ | refine st_drewN ?_ _ | refine Below.setCell ?_ (by first | omega | (simp; done) | (simp; omega)) _ | refine Below.alloc ?_ (by first | omega | (simp; done) | (simp; omega)) _)
  have hK := markints_any T m c k0 (w.alloc (.cells #[.int .i64 n.p, .int .i64 n.g, .slice (some ⟨T, 0, none⟩) m c] 27)) (fun j hj => by
    obtain ⟨⟨u, hu⟩, hf⟩ := h j hj
    exact ⟨⟨u, ((bcell b0).1 _ _ hT).trans hu⟩, ((bcell b0).2 _ _ hT).trans hf⟩) hn hk0 hk1
  have HB := hidden b0
  clear h b0
  unfold aN
  go_enter Try.func27, Try.ntmps27
  go_wp2_with (go_at_call 28; refine hK.mono ?_; rintro e w4 ⟨rfl, kp4⟩)
  go_ret
  exact ⟨rfl, _, HB.out, kp4⟩
end Go.Proofs.Ytgcpiinmcbdkmaa
