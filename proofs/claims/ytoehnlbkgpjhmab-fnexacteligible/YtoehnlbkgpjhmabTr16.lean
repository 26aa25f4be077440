/-
  Rows of criteria: copies, sizes, sameness, as they came in.
-/
import Derived.Test.YtoehnlbkgpjhmabT2
import Derived.Test.YtoehnlbkgpjhmabTr2
import Derived.Test.YtoehnlbkgpjhmabGx
namespace Go.Proofs.Ytoehnlbkgpjhmab
open Go.RowKit Go.WideShapes Va Lb El
set_option linter.all false
def cvCr (x : Cr) (k : Nat) : Value := match k with | 0 => .int .i64 x.f | 1 => .int .i64 x.lo | 2 => .int .i64 x.hi | _ => .bool x.must
def aCr (x : Cr) : Value := .agg #[.int .i64 x.f, .int .i64 x.lo, .int .i64 x.hi, .bool x.must]

theorem infoCriterion : (Try.prog.info? 57).map (fun i => (i.zero, i.size, i.bytes)) = some (some (.agg #[.int .i64 0, .int .i64 0, .int .i64 0, .bool false]), 4, 32) := by kernel_rfl

set_option maxRecDepth 20000 in
set_option maxHeartbeats 4000000 in
theorem tocr_any (x : Cr) (w : World) : Calls Try.prog 38 #[aCr x] w fun r w' => r = .returned (aCr x) ∧ Below w.heap.size w w' := by
  unfold aCr
  go_enter Try.func38, Try.ntmps38
  go_wp2
  exact bodyPost_ret (v := .agg #[.int .i64 x.f, .int .i64 x.lo, .int .i64 x.hi, .bool x.must]) (by simp [results, Try.results38, go_sem]) rfl ⟨rfl, by repeat (first | exact Below.refl _ _ | assumption | refine st_drew ?_ | refine st_drewN ?_ _ | refine Below.setCell ?_ (by first | omega | (simp; done) | (simp; omega)) _ | refine Below.alloc ?_ (by first | omega | (simp; done) | (simp; omega)) _)⟩

set_option maxRecDepth 20000 in
set_option maxHeartbeats 8000000 in
theorem tocrs_any (v : Value) (l : List Cr) (w : World) (h : VRw 4 cvCr w v l) (hn : l.length ≤ 1048576) :
    Calls Try.prog 26 #[v] w fun e w' => ∃ v', e = .returned v' ∧ VOwn 4 cvCr w' w.heap.size v' l ∧ Below w.heap.size w w' := by
  have HH := hidden h
  obtain ⟨ao, cap, rfl⟩ := h.form
  clear h
  obtain ⟨i0, hi, hz0, hz1, hz2⟩ := info_parts infoCriterion
  go_enter Try.func26, Try.ntmps26
  go_wp2_with (refine wpList_make_full _ rfl (.tmp 6) (.tmp 6) 44 rfl w.heap.size 57 i0 (.agg #[.int .i64 0, .int .i64 0, .int .i64 0, .bool false]) 4 Try.underlying44 hi hz0 hz1 .i64 .i64 _ _ l.length rfl rfl rfl rfl (by rw [hz2]; omega) (by unfold maxLen; omega) (Nat.le_refl _) ?_; intro w1 ho1 hg1)
  have b1 : Below w.heap.size w w1 := (Below.refl _ w).grown hg1 (Nat.le_refl _) (by simp)
  have ho := VOut.made (cs := cvCr) l ho1
  clear ho1 hg1
  go_wp2_with fail
  go_loopw [4] (fun iv wr => ∃ i : Nat, i ≤ l.length ∧ iv = .int .i64 i ∧ Below w.heap.size w wr ∧ VOut 4 cvCr wr w.heap.size l.length l i) (fun iv _ => l.length - (intOf iv).toNat)
  case atStart => exact ⟨0, Nat.zero_le _, rfl, b1, ho⟩
  case round =>
    clear b1 ho
    obtain ⟨i, hil, rfl, hb, ho⟩ := hrel
    by_cases hlt : i < l.length
    · have hlti : (i : Int) < (l.length : Int) := by omega
      obtain ⟨x, hx⟩ := some_of l i hlt
      obtain ⟨g, off, rfl, hg, hcs⟩ := (HH.out.below hb).at hx
      have c0 : wr.cell? ⟨g, off + i * 4, none⟩ = some (.int .i64 x.f) := hcs 0 (by omega)
      have c1 : wr.cell? ⟨g, off + i * 4 + 1, none⟩ = some (.int .i64 x.lo) := hcs 1 (by omega)
      have c2 : wr.cell? ⟨g, off + i * 4 + 2, none⟩ = some (.int .i64 x.hi) := hcs 2 (by omega)
      have c3 : wr.cell? ⟨g, off + i * 4 + 3, none⟩ = some (.bool x.must) := hcs 3 (by omega)
      have hT := tocr_any x
      unfold aCr at hT
      have HSet := hidden (fun W (hW : Below wr.heap.size wr W) => (ho.below hW).set hlt hx [.int .i64 x.f, .int .i64 x.lo, .int .i64 x.hi, .bool x.must] rfl (fun k hk => by
        match k, hk with
        | 0, _ => rfl
        | 1, _ => rfl
        | 2, _ => rfl
        | 3, _ => rfl
))
      have HOld := hidden (fun W (hW : Below wr.heap.size wr W) (k : Nat) (hk : k < 4) => (ho.below hW).old hlt hk)
      clear hcs hx ho
      go_wp2_with (go_at_call 38; refine (hT _).mono ?_; rintro e w2 ⟨rfl, hb2⟩; have b2 := onto hb hb2; obtain ⟨⟨u0, hu0⟩, hf0⟩ := HOld.out w2 hb2 0 (by omega); obtain ⟨⟨u1, hu1⟩, hf1⟩ := HOld.out w2 hb2 1 (by omega); obtain ⟨⟨u2, hu2⟩, hf2⟩ := HOld.out w2 hb2 2 (by omega); obtain ⟨⟨u3, hu3⟩, hf3⟩ := HOld.out w2 hb2 3 (by omega); simp only [Nat.add_zero] at hu0 hf0)
      have hset := HSet.out w2 hb2
      have b3 : Below w.heap.size w (put w2 w.heap.size (i * 4) [.int .i64 x.f, .int .i64 x.lo, .int .i64 x.hi, .bool x.must]) := put_below _ _ _ _ b2 (Nat.le_refl _)
      clear HSet HOld hT hb2
      go_roundw
      case rel => exact ⟨i + 1, by omega, rfl, b3, hset⟩
      case measure => simp [intOf]; omega
    · have hlti : ¬ (i : Int) < (l.length : Int) := by omega
      have hil2 : i = l.length := by omega
      subst hil2
      go_wp2_with fail
      go_ret
      exact ⟨_, rfl, ho.own (Nat.le_refl _) _ (Nat.le_refl _), hb⟩

theorem szcrs_any (ao : Option Addr) (n cap : Nat) (L : Int) (w : World) (hn : (n : Int) ≤ 9223372036854775807) (h0 : 0 ≤ L) (h1 : L ≤ 1048576) :
    Calls Try.prog 22 #[.slice ao n cap, .int .i64 L] w fun e w' => e = .returned (.int .i64 (if L < n then -1 else L - n)) ∧ w = w' := by
  by_cases h : L < (n : Int)
  · rw [if_pos h]
    have h2 : L - n < 0 := by omega
    go_enter Try.func22, Try.ntmps22
    go_wp2
    go_ret
    exact ⟨rfl, rfl⟩
  · rw [if_neg h]
    have h2 : ¬ L - n < 0 := by omega
    go_enter Try.func22, Try.ntmps22
    go_wp2
    go_ret
    exact ⟨rfl, rfl⟩

set_option maxRecDepth 20000 in
set_option maxHeartbeats 4000000 in
theorem eqcr_any (x : Cr) (w : World) : Calls Try.prog 41 #[aCr x, aCr x] w fun r w' => r = .returned (.bool true) ∧ Below w.heap.size w w' := by
  unfold aCr
  go_enter Try.func41, Try.ntmps41
  go_wp2
  go_ret
  exact ⟨rfl, by repeat (first | exact Below.refl _ _ | assumption | refine st_drew ?_ | refine st_drewN ?_ _ | refine Below.setCell ?_ (by first | omega | (simp; done) | (simp; omega)) _ | refine Below.alloc ?_ (by first | omega | (simp; done) | (simp; omega)) _)⟩

set_option maxRecDepth 20000 in
set_option maxHeartbeats 4000000 in
theorem eqcrs_any (v u : Value) (l : List Cr) (w : World) (h : VRw 4 cvCr w v l) (h' : VRw 4 cvCr w u l) (hn : l.length ≤ 1048576) :
    Calls Try.prog 29 #[v, u] w fun e w' => e = .returned (.bool true) ∧ Below w.heap.size w w' := by
  have HH := hidden h
  have HH' := hidden h'
  obtain ⟨ao, cap, rfl⟩ := h.form
  obtain ⟨ao', cap', rfl⟩ := h'.form
  clear h h'
  go_enter Try.func29, Try.ntmps29
  go_wp2_with fail
  go_loopw [5] (fun iv wr => ∃ i : Nat, i ≤ l.length ∧ iv = .int .i64 i ∧ Below w.heap.size w wr) (fun iv _ => l.length - (intOf iv).toNat)
  case atStart => exact ⟨0, Nat.zero_le _, rfl, Below.refl _ _⟩
  case round =>
    obtain ⟨i, hil, rfl, hb⟩ := hrel
    by_cases hlt : i < l.length
    · have hlti : (i : Int) < (l.length : Int) := by omega
      have hi0 : (0 : Int) ≤ (i : Int) := by omega
      obtain ⟨x, hx⟩ := some_of l i hlt
      obtain ⟨g, off, rfl, hg, hcs⟩ := (HH.out.below hb).at hx
      obtain ⟨g', off', rfl, hg', hcs'⟩ := (HH'.out.below hb).at hx
      have c0 : wr.cell? ⟨g, off + i * 4, none⟩ = some (.int .i64 x.f) := hcs 0 (by omega)
      have d0 : wr.cell? ⟨g', off' + i * 4, none⟩ = some (.int .i64 x.f) := hcs' 0 (by omega)
      have c1 : wr.cell? ⟨g, off + i * 4 + 1, none⟩ = some (.int .i64 x.lo) := hcs 1 (by omega)
      have d1 : wr.cell? ⟨g', off' + i * 4 + 1, none⟩ = some (.int .i64 x.lo) := hcs' 1 (by omega)
      have c2 : wr.cell? ⟨g, off + i * 4 + 2, none⟩ = some (.int .i64 x.hi) := hcs 2 (by omega)
      have d2 : wr.cell? ⟨g', off' + i * 4 + 2, none⟩ = some (.int .i64 x.hi) := hcs' 2 (by omega)
      have c3 : wr.cell? ⟨g, off + i * 4 + 3, none⟩ = some (.bool x.must) := hcs 3 (by omega)
      have d3 : wr.cell? ⟨g', off' + i * 4 + 3, none⟩ = some (.bool x.must) := hcs' 3 (by omega)
      have HE := hidden (eqcr_any x)
      unfold aCr at HE
      clear hcs hcs' hx
      go_wp2_with fail
      go_region_with (go_at_call 41; refine (HE.out _).mono ?_; rintro e w2 ⟨rfl, hb2⟩; have b2 := onto (show Below w.heap.size w _ from by first | exact hb | exact st_drew hb) hb2)
      all_goals go_wp2_with fail
      all_goals go_roundw
      all_goals first
        | (simp [intOf]; omega)
        | exact ⟨i + 1, by omega, rfl, by first | exact b2 | exact st_drew b2⟩
    · have hlti : ¬ (i : Int) < (l.length : Int) := by omega
      go_wp2_with fail
      go_ret
      exact ⟨rfl, hb⟩


def boolOfcr (v : Value) : Bool := match v with | .bool b => b | _ => false
def kdcr (k : Nat) : Kd := match k with | 0 => Kd.int | 1 => Kd.int | 2 => Kd.int | _ => Kd.bool
def mkCr (f : Nat → Value) : Cr := ⟨intOf (f 0), intOf (f 1), intOf (f 2), boolOfcr (f 3)⟩
theorem mkCr_at (f : Nat → Value) (h : ∀ k, k < 4 → KdOk (kdcr k) (f k)) (k : Nat) (hk : k < 4) : cvCr (mkCr f) k = f k := by
  have hh := h k hk
  match k, hk with
  | 0, _ => obtain ⟨z, hz⟩ := hh; show .int .i64 (mkCr f).f = f 0; simp only [mkCr]; rw [hz]; rfl
  | 1, _ => obtain ⟨z, hz⟩ := hh; show .int .i64 (mkCr f).lo = f 1; simp only [mkCr]; rw [hz]; rfl
  | 2, _ => obtain ⟨z, hz⟩ := hh; show .int .i64 (mkCr f).hi = f 2; simp only [mkCr]; rw [hz]; rfl
  | 3, _ => obtain ⟨z, hz⟩ := hh; show .bool (mkCr f).must = f 3; simp only [mkCr]; rw [hz]; rfl

set_option maxRecDepth 100000 in
theorem fsCriterion : ∃ fs, Try.prog.underlying 59 = some (.struct fs) ∧ ∀ k, k < 4 → ∃ f, fs[k]? = some f ∧ f.offset = k ∧ Try.prog.cellsOf f.type = 1 ∧ KdTy Try.prog (kdcr k) f.type := by
  refine ⟨_, Try.underlying59, fun k hk => ?_⟩
  match k, hk with
  | 0, _ => exact ⟨_, rfl, rfl, by kernel_rfl, Try.underlying2⟩
  | 1, _ => exact ⟨_, rfl, rfl, by kernel_rfl, Try.underlying2⟩
  | 2, _ => exact ⟨_, rfl, rfl, by kernel_rfl, Try.underlying2⟩
  | 3, _ => exact ⟨_, rfl, rfl, by kernel_rfl, Try.underlying4⟩

set_option maxRecDepth 100000 in
theorem crs_of_read {H : Type} {enc : TypeId × Value → H} {W : World} {sp : Nat → Bool} {hd : Bool} {ao : Option Addr} {n cap : Nat} {d : DataW H} {p : List MemPlace}
    (h : DataW.Trod enc Try.prog W 0 sp hd 39 (.slice ao n cap) d p) : ∃ l : List Cr, l.length = n ∧ n ≤ maxLen ∧ VRw 4 cvCr W (.slice ao n cap) l := by
  obtain ⟨fb, hb1, hb2⟩ := fsCriterion
  exact vrows_of_read kdcr mkCr (fun f h k hk => mkCr_at f h k hk) (by omega) Try.underlying39 hb1 (by kernel_rfl) hb2 h
end Go.Proofs.Ytoehnlbkgpjhmab
