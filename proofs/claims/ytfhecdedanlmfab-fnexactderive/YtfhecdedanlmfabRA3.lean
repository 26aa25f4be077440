/-
  The law's own copy of a law; its size; sameness.
-/
import Derived.Test.YtfhecdedanlmfabRA2
namespace Go.Proofs.Ytfhecdedanlmfab
open Go.RowKit Go.WideShapes Va Rc
set_option linter.all false

theorem PB.fill3 {W : World} {B : Nat} {t : TypeId} {v0 v1 v2 : Value} (h : PB W B #[v0, v1, v2] t) (x0 x1 x2 : Value) :
    PB (((W.setCell ⟨B, 0, none⟩ x0).setCell ⟨B, 1, none⟩ x1).setCell ⟨B, 2, none⟩ x2) B #[x0, x1, x2] t := by
  have h0 := h.put 0 x0 (vs' := #[x0, v1, v2]) (by simp)
  have h1 := h0.put 1 x1 (vs' := #[x0, x1, v2]) (by simp)
  exact h1.put 2 x2 (vs' := #[x0, x1, x2]) (by simp)

set_option maxRecDepth 20000 in
set_option maxHeartbeats 4000000 in
theorem tolaw_any (x : Lw) (ta : Option Addr) (tn tc : Nat) (ua : Option Addr) (un uc : Nat) (w : World) (h : IRw w (.slice ta tn tc) x.ifs) (h' : IRw w (.slice ua un uc) x.nots) (hn : x.ifs.length ≤ 1048576) (hn' : x.nots.length ≤ 1048576) :
    Calls Try.prog 19 #[aL x (.slice ta tn tc) (.slice ua un uc)] w fun e w' => ∃ G G', w.heap.size ≤ G ∧ G < w'.heap.size ∧ w.heap.size ≤ G' ∧ G' < w'.heap.size ∧ e = .returned (aL x (.slice (some ⟨G, 0, none⟩) x.ifs.length x.ifs.length) (.slice (some ⟨G', 0, none⟩) x.nots.length x.nots.length)) ∧ Out 1 csI w' G x.ifs.length x.ifs x.ifs.length ∧ Out 1 csI w' G' x.nots.length x.nots x.nots.length ∧ Below w.heap.size w w' := by
  have k1 := fun W hW => toints_any ta tn tc x.ifs W hW hn
  have k2 := fun W hW => toints_any ua un uc x.nots W hW hn'
  have HT := hidden (fun W (hW : Below w.heap.size w W) => h.below hW)
  have HU := hidden (fun W (hW : Below w.heap.size w W) => h'.below hW)
  clear h h'
  have P0 := hidden (((PB.new w #[.slice ta tn tc, .slice ua un uc, .int .i64 x.thn] 38).alloc (.cells #[.slice none 0 0, .slice none 0 0, .int .i64 0] 41)).alloc (.cells #[.slice none 0 0, .slice none 0 0, .int .i64 0] 41))
  have P1 := hidden ((PB.new (w.alloc (.cells #[.slice ta tn tc, .slice ua un uc, .int .i64 x.thn] 38)) #[.slice none 0 0, .slice none 0 0, .int .i64 0] 41).alloc (.cells #[.slice none 0 0, .slice none 0 0, .int .i64 0] 41))
  have P2 := hidden (PB.new ((w.alloc (.cells #[.slice ta tn tc, .slice ua un uc, .int .i64 x.thn] 38)).alloc (.cells #[.slice none 0 0, .slice none 0 0, .int .i64 0] 41)) #[.slice none 0 0, .slice none 0 0, .int .i64 0] 41)
  simp only [World.size_alloc] at P0 P1 P2
  unfold aL
  go_enter Try.func19, Try.ntmps19
  go_wp2_with (go_at_call 7; with_reducible refine (k1 _ (HT.out _ (by repeat (first | exact Below.refl _ _ | assumption | refine st_drew ?_ | refine st_drewN ?_ _ | refine Below.setCell ?_ (by first | omega | (simp; done) | (simp; omega)) _ | refine Below.alloc ?_ (by first | omega | (simp; done) | (simp; omega)) _)))).mono ?_; rintro e w1 ⟨rfl, ho1, hb1⟩; simp only [World.size_alloc] at ho1; have hsz := hb1.size; simp only [World.size_alloc] at hsz; have hp := P0.out.below hb1; have hq := P1.out.below hb1; have hr := P2.out.below hb1; obtain ⟨p0, p1, p2⟩ := hp.three; obtain ⟨q0, q1, q2⟩ := hq.three; obtain ⟨r0, r1, r2⟩ := hr.three; obtain ⟨g0, g1, g2, -⟩ := hr.cold; have bA := onto (show Below w.heap.size w _ from by repeat (first | exact Below.refl _ _ | assumption | refine st_drew ?_ | refine st_drewN ?_ _ | refine Below.setCell ?_ (by first | omega | (simp; done) | (simp; omega)) _ | refine Below.alloc ?_ (by first | omega | (simp; done) | (simp; omega)) _)) hb1; clear hb1)
  have s1e : w.heap.size + 1 + 1 ≠ w.heap.size := by omega
  have hp' := hp.far (b := w.heap.size + 1 + 1) (by omega) 0 (.slice (some ⟨w.heap.size + 1 + 1 + 1, 0, none⟩) x.ifs.length x.ifs.length)
  have hq' := hq.far (b := w.heap.size + 1 + 1) (by omega) 0 (.slice (some ⟨w.heap.size + 1 + 1 + 1, 0, none⟩) x.ifs.length x.ifs.length)
  have hr' := hr.put 0 (.slice (some ⟨w.heap.size + 1 + 1 + 1, 0, none⟩) x.ifs.length x.ifs.length) (vs' := #[.slice (some ⟨w.heap.size + 1 + 1 + 1, 0, none⟩) x.ifs.length x.ifs.length, .slice none 0 0, .int .i64 0]) (by simp)
  have ho' := out_far ho1 (b := w.heap.size + 1 + 1) (by omega) 0 (.slice (some ⟨w.heap.size + 1 + 1 + 1, 0, none⟩) x.ifs.length x.ifs.length)
  have bB := bA.setCell (p := ⟨w.heap.size + 1 + 1, 0, none⟩) (by show w.heap.size ≤ w.heap.size + 1 + 1; omega) (.slice (some ⟨w.heap.size + 1 + 1 + 1, 0, none⟩) x.ifs.length x.ifs.length)
  have hz' : w.heap.size + 1 + 1 + 1 ≤ (w1.setCell ⟨w.heap.size + 1 + 1, 0, none⟩ (.slice (some ⟨w.heap.size + 1 + 1 + 1, 0, none⟩) x.ifs.length x.ifs.length)).heap.size := by simpa [World.setCell] using hsz
  generalize w1.setCell ⟨w.heap.size + 1 + 1, 0, none⟩ (.slice (some ⟨w.heap.size + 1 + 1 + 1, 0, none⟩) x.ifs.length x.ifs.length) = W1 at *
  clear hp hq hr ho1 bA hsz p0 p1 p2 q0 q1 q2 r0 r1 r2 g0 g1 g2
  refine (k2 _ (HU.out _ bB)).mono ?_
  rintro e w2 ⟨rfl, ho2, hb2⟩
  have hp := hp'.below hb2
  have hq := hq'.below hb2
  have hr := hr'.below hb2
  have ho1 := ho'.below hb2
  have b0 := onto bB hb2
  have hz2 := hb2.size
  obtain ⟨p0, p1, p2⟩ := hp.three
  obtain ⟨q0, q1, q2⟩ := hq.three
  obtain ⟨r0, r1, r2⟩ := hr.three
  obtain ⟨f0, f1, f2, -⟩ := hq.cold
  obtain ⟨g0, g1, g2, -⟩ := hr.cold
  generalize hW1 : W1.heap.size = G' at *
  have hO1 := hidden ho1
  have hO2 := hidden ho2
  have HQ := hidden hq
  clear hp' hq' hr' ho' bB hb2 hp hq hr ho1 ho2 k1 k2
  go_wp2_with fail
  have e0 := HQ.out
  have oa0 := hO1.out
  have ob0 := hO2.out
  have b1 := b0.setCell (p := ⟨w.heap.size + 1 + 1, 1, none⟩) (by show w.heap.size ≤ w.heap.size + 1 + 1; omega) (.slice (some ⟨G', 0, none⟩) x.nots.length x.nots.length)
  have oa1 := out_far oa0 (b := w.heap.size + 1 + 1) (by omega) 1 (.slice (some ⟨G', 0, none⟩) x.nots.length x.nots.length)
  have ob1 := out_far ob0 (b := w.heap.size + 1 + 1) (by omega) 1 (.slice (some ⟨G', 0, none⟩) x.nots.length x.nots.length)
  have e1 := e0.far (b := w.heap.size + 1 + 1) (by omega) 1 (.slice (some ⟨G', 0, none⟩) x.nots.length x.nots.length)
  have b2 := b1.setCell (p := ⟨w.heap.size + 1 + 1, 2, none⟩) (by show w.heap.size ≤ w.heap.size + 1 + 1; omega) (.int .i64 x.thn)
  have oa2 := out_far oa1 (b := w.heap.size + 1 + 1) (by omega) 2 (.int .i64 x.thn)
  have ob2 := out_far ob1 (b := w.heap.size + 1 + 1) (by omega) 2 (.int .i64 x.thn)
  have e2 := e1.far (b := w.heap.size + 1 + 1) (by omega) 2 (.int .i64 x.thn)
  have b3 := b2.setCell (p := ⟨w.heap.size + 1, 0, none⟩) (by show w.heap.size ≤ w.heap.size + 1; omega) (.slice (some ⟨w.heap.size + 1 + 1 + 1, 0, none⟩) x.ifs.length x.ifs.length)
  have oa3 := out_far oa2 (b := w.heap.size + 1) (by omega) 0 (.slice (some ⟨w.heap.size + 1 + 1 + 1, 0, none⟩) x.ifs.length x.ifs.length)
  have ob3 := out_far ob2 (b := w.heap.size + 1) (by omega) 0 (.slice (some ⟨w.heap.size + 1 + 1 + 1, 0, none⟩) x.ifs.length x.ifs.length)
  have b4 := b3.setCell (p := ⟨w.heap.size + 1, 1, none⟩) (by show w.heap.size ≤ w.heap.size + 1; omega) (.slice (some ⟨G', 0, none⟩) x.nots.length x.nots.length)
  have oa4 := out_far oa3 (b := w.heap.size + 1) (by omega) 1 (.slice (some ⟨G', 0, none⟩) x.nots.length x.nots.length)
  have ob4 := out_far ob3 (b := w.heap.size + 1) (by omega) 1 (.slice (some ⟨G', 0, none⟩) x.nots.length x.nots.length)
  have b5 := b4.setCell (p := ⟨w.heap.size + 1, 2, none⟩) (by show w.heap.size ≤ w.heap.size + 1; omega) (.int .i64 x.thn)
  have oa5 := out_far oa4 (b := w.heap.size + 1) (by omega) 2 (.int .i64 x.thn)
  have ob5 := out_far ob4 (b := w.heap.size + 1) (by omega) 2 (.int .i64 x.thn)
  have e3 := e2.fill3 (.slice (some ⟨w.heap.size + 1 + 1 + 1, 0, none⟩) x.ifs.length x.ifs.length) (.slice (some ⟨G', 0, none⟩) x.nots.length x.nots.length) (.int .i64 x.thn)
  obtain ⟨y0, y1, y2⟩ := e3.three
  exact bodyPost_ret (v := .agg #[.slice (some ⟨w.heap.size + 1 + 1 + 1, 0, none⟩) x.ifs.length x.ifs.length, .slice (some ⟨G', 0, none⟩) x.nots.length x.nots.length, .int .i64 x.thn]) (by simp [results, Try.results19, go_sem, y0, y1, y2]) rfl
    ⟨_, _, (by omega), oa5.1, (by omega), ob5.1, rfl, oa5, ob5, b5⟩

set_option maxRecDepth 20000 in
set_option maxHeartbeats 2000000 in
theorem szlaw_any (x : Lw) (ta : Option Addr) (n tc : Nat) (ua : Option Addr) (n' uc : Nat) (L : Int) (w : World) (hn : (n : Int) ≤ 9223372036854775807) (hn' : (n' : Int) ≤ 9223372036854775807) (h0 : 0 ≤ L) (h1 : L ≤ 1048576) :
    Calls Try.prog 17 #[aL x (.slice ta n tc) (.slice ua n' uc), .int .i64 L] w fun e w' => e = .returned (.int .i64 (if L < n then -1 else if L - n < n' then -1 else L - n - n')) ∧ Below w.heap.size w w' := by
  have hK := fun W => szints_any ta n tc L W hn h0 h1
  have P0 := hidden (PB.new w #[.slice ta n tc, .slice ua n' uc, .int .i64 x.thn] 38)
  unfold aL
  by_cases h : L < (n : Int)
  · rw [if_pos h] at hK ⊢
    go_enter Try.func17, Try.ntmps17
    go_wp2_with (go_at_call 27; refine (hK _).mono ?_; rintro e w1 ⟨rfl, rfl⟩)
    go_ret
    exact ⟨rfl, by repeat (first | exact Below.refl _ _ | assumption | refine st_drew ?_ | refine st_drewN ?_ _ | refine Below.setCell ?_ (by first | omega | (simp; done) | (simp; omega)) _ | refine Below.alloc ?_ (by first | omega | (simp; done) | (simp; omega)) _)⟩
  · rw [if_neg h] at hK ⊢
    have h2 : ¬ L - n < 0 := by omega
    have hK2 := fun W => szints_any ua n' uc (L - n) W hn' (by omega) (by omega)
    by_cases h3 : L - n < (n' : Int)
    · rw [if_pos h3] at hK2 ⊢
      go_enter Try.func17, Try.ntmps17
      go_wp2_with (first | (go_at_call 27; with_reducible refine (hK _).mono ?_; rintro e w1 ⟨rfl, rfl⟩) | (go_at_call 27; with_reducible refine (hK2 _).mono ?_; rintro e w1 ⟨rfl, rfl⟩))
      go_ret
      exact ⟨rfl, by repeat (first | exact Below.refl _ _ | assumption | refine st_drew ?_ | refine st_drewN ?_ _ | refine Below.setCell ?_ (by first | omega | (simp; done) | (simp; omega)) _ | refine Below.alloc ?_ (by first | omega | (simp; done) | (simp; omega)) _)⟩
    · rw [if_neg h3] at hK2 ⊢
      have h4 : ¬ L - n - n' < 0 := by omega
      go_enter Try.func17, Try.ntmps17
      go_wp2_with (first | (go_at_call 27; with_reducible refine (hK _).mono ?_; rintro e w1 ⟨rfl, rfl⟩) | (go_at_call 27; with_reducible refine (hK2 _).mono ?_; rintro e w1 ⟨rfl, rfl⟩))
      go_ret
      exact ⟨rfl, by repeat (first | exact Below.refl _ _ | assumption | refine st_drew ?_ | refine st_drewN ?_ _ | refine Below.setCell ?_ (by first | omega | (simp; done) | (simp; omega)) _ | refine Below.alloc ?_ (by first | omega | (simp; done) | (simp; omega)) _)⟩

set_option maxRecDepth 20000 in
set_option maxHeartbeats 2000000 in
theorem eqlaw_any (x : Lw) (a1 : Option Addr) (n1 c1 : Nat) (u1 : Option Addr) (m1 d1 : Nat) (a2 : Option Addr) (n2 c2 : Nat) (u2 : Option Addr) (m2 d2 : Nat) (w : World) (h : IRw w (.slice a1 n1 c1) x.ifs) (hu : IRw w (.slice u1 m1 d1) x.nots) (h' : IRw w (.slice a2 n2 c2) x.ifs) (hu' : IRw w (.slice u2 m2 d2) x.nots) (hn : x.ifs.length ≤ 1048576) (hn' : x.nots.length ≤ 1048576) :
    Calls Try.prog 21 #[aL x (.slice a1 n1 c1) (.slice u1 m1 d1), aL x (.slice a2 n2 c2) (.slice u2 m2 d2)] w fun e w' => e = .returned (.bool true) ∧ Below w.heap.size w w' := by
  have hK := fun W hW hW' => eqints_any a1 n1 c1 a2 n2 c2 x.ifs W hW hW' hn
  have hK2 := fun W hW hW' => eqints_any u1 m1 d1 u2 m2 d2 x.nots W hW hW' hn'
  have HA := hidden (fun W (hW : Below w.heap.size w W) => h.below hW)
  have HB := hidden (fun W (hW : Below w.heap.size w W) => h'.below hW)
  have HC := hidden (fun W (hW : Below w.heap.size w W) => hu.below hW)
  have HD := hidden (fun W (hW : Below w.heap.size w W) => hu'.below hW)
  clear h h' hu hu'
  have P0 := hidden ((PB.new w #[.slice a1 n1 c1, .slice u1 m1 d1, .int .i64 x.thn] 41).alloc (.cells #[.slice a2 n2 c2, .slice u2 m2 d2, .int .i64 x.thn] 41))
  have P1 := hidden (PB.new (w.alloc (.cells #[.slice a1 n1 c1, .slice u1 m1 d1, .int .i64 x.thn] 41)) #[.slice a2 n2 c2, .slice u2 m2 d2, .int .i64 x.thn] 41)
  simp only [World.size_alloc] at P0 P1
  unfold aL
  go_enter Try.func21, Try.ntmps21
  go_wp2_with (first | (go_at_call 10; with_reducible refine (hK _ (HA.out _ (by repeat (first | exact Below.refl _ _ | assumption | refine st_drew ?_ | refine st_drewN ?_ _ | refine Below.setCell ?_ (by first | omega | (simp; done) | (simp; omega)) _ | refine Below.alloc ?_ (by first | omega | (simp; done) | (simp; omega)) _))) (HB.out _ (by repeat (first | exact Below.refl _ _ | assumption | refine st_drew ?_ | refine st_drewN ?_ _ | refine Below.setCell ?_ (by first | omega | (simp; done) | (simp; omega)) _ | refine Below.alloc ?_ (by first | omega | (simp; done) | (simp; omega)) _)))).mono ?_; rintro e w1 ⟨rfl, hb1⟩; have Q0 := hidden (P0.out.below hb1); have Q1 := hidden (P1.out.below hb1); obtain ⟨p0, p1, p2⟩ := Q0.out.three; obtain ⟨q0, q1, q2⟩ := Q1.out.three; have bA := onto (show Below w.heap.size w _ from by repeat (first | exact Below.refl _ _ | assumption | refine st_drew ?_ | refine st_drewN ?_ _ | refine Below.setCell ?_ (by first | omega | (simp; done) | (simp; omega)) _ | refine Below.alloc ?_ (by first | omega | (simp; done) | (simp; omega)) _)) hb1; clear hb1) | (go_at_call 10; with_reducible refine (hK2 _ (HC.out _ bA) (HD.out _ bA)).mono ?_; rintro e w2 ⟨rfl, hb2⟩; obtain ⟨p0, p1, p2⟩ := (Q0.out.below hb2).three; obtain ⟨q0, q1, q2⟩ := (Q1.out.below hb2).three; have bB := onto bA hb2; clear hb2))
  go_ret
  exact ⟨rfl, bB⟩
end Go.Proofs.Ytfhecdedanlmfab
