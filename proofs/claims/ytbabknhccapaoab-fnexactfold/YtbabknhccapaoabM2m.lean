/-
  The law's own helpers on rows of letters and of facts.
-/
import Derived.Test.YtbabknhccapaoabM2w
import Derived.Test.YtbabknhccapaoabM0
namespace Go.Proofs.Ytbabknhccapaoab
open Go.RowKit Va Mg
set_option linter.all false


theorem infoLetter : (Try.prog.info? 39).map (fun i => (i.zero, i.size, i.bytes)) = some (some (.agg #[.int .i64 0, .int .i64 0, .int .i64 0, .int .i64 0, .int .i64 0]), 5, 40) := by kernel_rfl

set_option maxRecDepth 20000 in
set_option maxHeartbeats 4000000 in
theorem tolt_any (x : Lt) (w : World) : Calls Try.prog 21 #[aLt x] w fun r w' => r = .returned (aLt x) ∧ Below w.heap.size w w' := by
  unfold aLt
  go_enter Try.func21, Try.ntmps21
  go_wp2
  exact bodyPost_ret (v := .agg #[.int .i64 x.f, .int .i64 x.s, .int .i64 x.c, .int .i64 x.k, .int .i64 x.v]) (by simp [results, Try.results21, go_sem]) rfl ⟨rfl, by repeat (first | exact Below.refl _ _ | assumption | refine st_drew ?_ | refine st_drewN ?_ _ | refine Below.setCell ?_ (by first | omega | (simp; done) | (simp; omega)) _ | refine Below.alloc ?_ (by first | omega | (simp; done) | (simp; omega)) _)⟩

set_option maxRecDepth 20000 in
set_option maxHeartbeats 8000000 in
theorem tolts_any (v : Value) (l : List Lt) (w : World) (h : VRw 5 cvLt w v l) (hn : l.length ≤ 1048576) :
    Calls Try.prog 7 #[v] w fun e w' => ∃ v', e = .returned v' ∧ VOwn 5 cvLt w' w.heap.size v' l ∧ Below w.heap.size w w' := by
  have HH := hidden h
  obtain ⟨ao, cap, rfl⟩ := h.form
  clear h
  obtain ⟨i0, hi, hz0, hz1, hz2⟩ := info_parts infoLetter
  go_enter Try.func7, Try.ntmps7
  go_wp2_with (refine wpList_make_full _ rfl (.tmp 6) (.tmp 6) 26 rfl w.heap.size 39 i0 (.agg #[.int .i64 0, .int .i64 0, .int .i64 0, .int .i64 0, .int .i64 0]) 5 Try.underlying26 hi hz0 hz1 .i64 .i64 _ _ l.length rfl rfl rfl rfl (by rw [hz2]; omega) (by unfold maxLen; omega) (Nat.le_refl _) ?_; intro w1 ho1 hg1)
  have b1 : Below w.heap.size w w1 := (Below.refl _ w).grown hg1 (Nat.le_refl _) (by simp)
  have ho := VOut.made (cs := cvLt) l ho1
  clear ho1 hg1
  go_wp2_with fail
  go_loopw [4] (fun iv wr => ∃ i : Nat, i ≤ l.length ∧ iv = .int .i64 i ∧ Below w.heap.size w wr ∧ VOut 5 cvLt wr w.heap.size l.length l i) (fun iv _ => l.length - (intOf iv).toNat)
  case atStart => exact ⟨0, Nat.zero_le _, rfl, b1, ho⟩
  case round =>
    clear b1 ho
    obtain ⟨i, hil, rfl, hb, ho⟩ := hrel
    by_cases hlt : i < l.length
    · have hlti : (i : Int) < (l.length : Int) := by omega
      obtain ⟨x, hx⟩ := some_of l i hlt
      obtain ⟨g, off, rfl, hg, hcs⟩ := (HH.out.below hb).at hx
      have c0 : wr.cell? ⟨g, off + i * 5, none⟩ = some (.int .i64 x.f) := hcs 0 (by omega)
      have c1 : wr.cell? ⟨g, off + i * 5 + 1, none⟩ = some (.int .i64 x.s) := hcs 1 (by omega)
      have c2 : wr.cell? ⟨g, off + i * 5 + 2, none⟩ = some (.int .i64 x.c) := hcs 2 (by omega)
      have c3 : wr.cell? ⟨g, off + i * 5 + 3, none⟩ = some (.int .i64 x.k) := hcs 3 (by omega)
      have c4 : wr.cell? ⟨g, off + i * 5 + 4, none⟩ = some (.int .i64 x.v) := hcs 4 (by omega)
      have hT := tolt_any x
      unfold aLt at hT
      have HSet := hidden (fun W (hW : Below wr.heap.size wr W) => (ho.below hW).set hlt hx [.int .i64 x.f, .int .i64 x.s, .int .i64 x.c, .int .i64 x.k, .int .i64 x.v] rfl (fun k hk => by
        match k, hk with
        | 0, _ => rfl
        | 1, _ => rfl
        | 2, _ => rfl
        | 3, _ => rfl
        | 4, _ => rfl
))
      have HOld := hidden (fun W (hW : Below wr.heap.size wr W) (k : Nat) (hk : k < 5) => (ho.below hW).old hlt hk)
      clear hcs hx ho
      go_wp2_with (go_at_call 21; refine (hT _).mono ?_; rintro e w2 ⟨rfl, hb2⟩; have b2 := onto hb hb2; obtain ⟨⟨u0, hu0⟩, hf0⟩ := HOld.out w2 hb2 0 (by omega); obtain ⟨⟨u1, hu1⟩, hf1⟩ := HOld.out w2 hb2 1 (by omega); obtain ⟨⟨u2, hu2⟩, hf2⟩ := HOld.out w2 hb2 2 (by omega); obtain ⟨⟨u3, hu3⟩, hf3⟩ := HOld.out w2 hb2 3 (by omega); obtain ⟨⟨u4, hu4⟩, hf4⟩ := HOld.out w2 hb2 4 (by omega); simp only [Nat.add_zero] at hu0 hf0)
      have hset := HSet.out w2 hb2
      have b3 : Below w.heap.size w (put w2 w.heap.size (i * 5) [.int .i64 x.f, .int .i64 x.s, .int .i64 x.c, .int .i64 x.k, .int .i64 x.v]) := put_below _ _ _ _ b2 (Nat.le_refl _)
      clear HSet HOld hT hb2
      go_roundw
      case rel => exact ⟨i + 1, by omega, rfl, b3, hset⟩
      case measure => simp [intOf]; omega
    · have hlti : ¬ (i : Int) < (l.length : Int) := by omega
      have hil2 : i = l.length := by omega
      subst hil2
      go_wp2_with fail
      go_ret
      exact ⟨_, rfl, ho.own (Nat.le_refl _) _ (Nat.le_refl _), hb⟩

theorem szlts_any (ao : Option Addr) (n cap : Nat) (L : Int) (w : World) (hn : (n : Int) ≤ 9223372036854775807) (h0 : 0 ≤ L) (h1 : L ≤ 1048576) :
    Calls Try.prog 5 #[.slice ao n cap, .int .i64 L] w fun e w' => e = .returned (.int .i64 (if L < n then -1 else L - n)) ∧ w = w' := by
  by_cases h : L < (n : Int)
  · rw [if_pos h]
    have h2 : L - n < 0 := by omega
    go_enter Try.func5, Try.ntmps5
    go_wp2
    go_ret
    exact ⟨rfl, rfl⟩
  · rw [if_neg h]
    have h2 : ¬ L - n < 0 := by omega
    go_enter Try.func5, Try.ntmps5
    go_wp2
    go_ret
    exact ⟨rfl, rfl⟩

set_option maxRecDepth 20000 in
set_option maxHeartbeats 4000000 in
theorem eqlt_any (x : Lt) (w : World) : Calls Try.prog 27 #[aLt x, aLt x] w fun r w' => r = .returned (.bool true) ∧ Below w.heap.size w w' := by
  unfold aLt
  go_enter Try.func27, Try.ntmps27
  go_wp2
  go_ret
  exact ⟨rfl, by repeat (first | exact Below.refl _ _ | assumption | refine st_drew ?_ | refine st_drewN ?_ _ | refine Below.setCell ?_ (by first | omega | (simp; done) | (simp; omega)) _ | refine Below.alloc ?_ (by first | omega | (simp; done) | (simp; omega)) _)⟩

set_option maxRecDepth 20000 in
set_option maxHeartbeats 4000000 in
theorem eqlts_any (v u : Value) (l : List Lt) (w : World) (h : VRw 5 cvLt w v l) (h' : VRw 5 cvLt w u l) (hn : l.length ≤ 1048576) :
    Calls Try.prog 10 #[v, u] w fun e w' => e = .returned (.bool true) ∧ Below w.heap.size w w' := by
  have HH := hidden h
  have HH' := hidden h'
  obtain ⟨ao, cap, rfl⟩ := h.form
  obtain ⟨ao', cap', rfl⟩ := h'.form
  clear h h'
  go_enter Try.func10, Try.ntmps10
  go_wp2_with fail
  go_loopw [5] (fun iv wr => ∃ i : Nat, i ≤ l.length ∧ iv = .int .i64 i ∧ Below w.heap.size w wr) (fun iv _ => l.length - (intOf iv).toNat)
  case atStart => exact ⟨0, Nat.zero_le _, rfl, Below.refl _ _⟩
  case round =>
    obtain ⟨i, hil, rfl, hb⟩ := hrel
    by_cases hlt : i < l.length
    · have hlti : (i : Int) < (l.length : Int) := by omega
      have hi0 : (0 : Int) ≤ (i : Int) := by omega
      obtain ⟨x, hx⟩ := some_of l i hlt
      obtain ⟨g, off, rfl, hg, hcs⟩ := (HH.out.below hb).at hx
      obtain ⟨g', off', rfl, hg', hcs'⟩ := (HH'.out.below hb).at hx
      have c0 : wr.cell? ⟨g, off + i * 5, none⟩ = some (.int .i64 x.f) := hcs 0 (by omega)
      have d0 : wr.cell? ⟨g', off' + i * 5, none⟩ = some (.int .i64 x.f) := hcs' 0 (by omega)
      have c1 : wr.cell? ⟨g, off + i * 5 + 1, none⟩ = some (.int .i64 x.s) := hcs 1 (by omega)
      have d1 : wr.cell? ⟨g', off' + i * 5 + 1, none⟩ = some (.int .i64 x.s) := hcs' 1 (by omega)
      have c2 : wr.cell? ⟨g, off + i * 5 + 2, none⟩ = some (.int .i64 x.c) := hcs 2 (by omega)
      have d2 : wr.cell? ⟨g', off' + i * 5 + 2, none⟩ = some (.int .i64 x.c) := hcs' 2 (by omega)
      have c3 : wr.cell? ⟨g, off + i * 5 + 3, none⟩ = some (.int .i64 x.k) := hcs 3 (by omega)
      have d3 : wr.cell? ⟨g', off' + i * 5 + 3, none⟩ = some (.int .i64 x.k) := hcs' 3 (by omega)
      have c4 : wr.cell? ⟨g, off + i * 5 + 4, none⟩ = some (.int .i64 x.v) := hcs 4 (by omega)
      have d4 : wr.cell? ⟨g', off' + i * 5 + 4, none⟩ = some (.int .i64 x.v) := hcs' 4 (by omega)
      have HE := hidden (eqlt_any x)
      unfold aLt at HE
      clear hcs hcs' hx
      go_wp2_with fail
      go_region_with (go_at_call 27; refine (HE.out _).mono ?_; rintro e w2 ⟨rfl, hb2⟩; have b2 := onto (show Below w.heap.size w _ from by first | exact hb | exact st_drew hb) hb2)
      all_goals go_wp2_with fail
      all_goals go_roundw
      all_goals first
        | (simp [intOf]; omega)
        | exact ⟨i + 1, by omega, rfl, by first | exact b2 | exact st_drew b2⟩
    · have hlti : ¬ (i : Int) < (l.length : Int) := by omega
      go_wp2_with fail
      go_ret
      exact ⟨rfl, hb⟩


def boolOflt (v : Value) : Bool := match v with | .bool b => b | _ => false
def kdlt (k : Nat) : Kd := match k with | 0 => Kd.int | 1 => Kd.int | 2 => Kd.int | 3 => Kd.int | _ => Kd.int
def mkLt (f : Nat → Value) : Lt := ⟨intOf (f 0), intOf (f 1), intOf (f 2), intOf (f 3), intOf (f 4)⟩
theorem mkLt_at (f : Nat → Value) (h : ∀ k, k < 5 → KdOw (kdlt k) (f k)) (k : Nat) (hk : k < 5) : cvLt (mkLt f) k = f k := by
  have q : ∀ j, KdOw .int (f j) → Value.int .i64 (intOf (f j)) = f j := by rintro j ⟨z, hz, _⟩; rw [hz]; rfl
  match k, hk with
  | 0, _ => exact q 0 (h 0 (by omega))
  | 1, _ => exact q 1 (h 1 (by omega))
  | 2, _ => exact q 2 (h 2 (by omega))
  | 3, _ => exact q 3 (h 3 (by omega))
  | 4, _ => exact q 4 (h 4 (by omega))

set_option maxRecDepth 100000 in
theorem fsLetter : ∃ fs, Try.prog.underlying 45 = some (.struct fs) ∧ ∀ k, k < 5 → ∃ f, fs[k]? = some f ∧ f.offset = k ∧ Try.prog.cellsOf f.type = 1 ∧ KdTy Try.prog (kdlt k) f.type := by
  refine ⟨_, Try.underlying45, fun k hk => ?_⟩
  match k, hk with
  | 0, _ => exact ⟨_, rfl, rfl, by kernel_rfl, Try.underlying2⟩
  | 1, _ => exact ⟨_, rfl, rfl, by kernel_rfl, Try.underlying2⟩
  | 2, _ => exact ⟨_, rfl, rfl, by kernel_rfl, Try.underlying2⟩
  | 3, _ => exact ⟨_, rfl, rfl, by kernel_rfl, Try.underlying2⟩
  | 4, _ => exact ⟨_, rfl, rfl, by kernel_rfl, Try.underlying2⟩

set_option maxRecDepth 100000 in
theorem lts_of_read {H : Type} {enc : TypeId × Value → H} {W : World} {sp : Nat → Bool} {hd : Bool} {ao : Option Addr} {n cap : Nat} {d : DataW H} {p : List MemPlace}
    (h : DataW.Trod enc Try.prog W 0 sp hd 22 (.slice ao n cap) d p) : ∃ l : List Lt, l.length = n ∧ n ≤ maxLen ∧ VRw 5 cvLt W (.slice ao n cap) l ∧ ∀ x ∈ l, WfL x := by
  obtain ⟨fb, hb1, hb2⟩ := fsLetter
  have q := vrows_of_readW kdlt mkLt (fun f h k hk => mkLt_at f h k hk) (by omega) Try.underlying22 hb1 (by kernel_rfl) hb2 h
  obtain ⟨l, h1, h2, h3, h4⟩ := q
  refine ⟨l, h1, h2, h3, fun x hx => ?_⟩
  have g := h4 x hx
  have w0 : KdOw .int (.int .i64 x.f) := g 0 (by omega)
  have w1 : KdOw .int (.int .i64 x.s) := g 1 (by omega)
  have w2 : KdOw .int (.int .i64 x.c) := g 2 (by omega)
  have w3 : KdOw .int (.int .i64 x.k) := g 3 (by omega)
  have w4 : KdOw .int (.int .i64 x.v) := g 4 (by omega)
  obtain ⟨z0, e0, u0⟩ := w0
  obtain ⟨z1, e1, u1⟩ := w1
  obtain ⟨z2, e2, u2⟩ := w2
  obtain ⟨z3, e3, u3⟩ := w3
  obtain ⟨z4, e4, u4⟩ := w4
  cases e0; cases e1; cases e2; cases e3; cases e4
  exact ⟨u0, u1, u2, u3, u4⟩

def cmlt (x : Int) (k : Nat) : Value := match k with | 0 => .int .i64 (x + 0) | 1 => .int .i64 (x + 1) | 2 => .int .i64 (x + 2) | 3 => .int .i64 (x + 3) | _ => .int .i64 (x + 4)

set_option maxRecDepth 20000 in
set_option maxHeartbeats 8000000 in
theorem marklt_some (G n cap : Nat) (l0 : List Lt) (k0 : Int) (w : World) (h : VOut 5 cvLt w G n l0 n) (hn : n ≤ 1048576) (hk0 : 0 ≤ k0) (hk1 : k0 ≤ 1000000000) :
    Calls Try.prog 11 #[.slice (some ⟨G, 0, none⟩) n cap, .int .i64 k0] w fun e w' => e = .returned (.int .i64 (k0 + 5 * (n : Int))) ∧ VOut 5 cmlt w' G n (marks 5 k0 n) n ∧ Aside w w' (.slice (some ⟨G, 0, none⟩) n cap) := by
  have h0 : VOut 5 cmlt w G n (marks 5 k0 n) 0 := ⟨h.1, h.2.1, fun j x hj => absurd hj (by omega)⟩
  clear h
  go_enter Try.func11, Try.ntmps11
  go_wp2_with fail
  go_loopw [1, 5] (fun kv iv wr => ∃ i : Nat, i ≤ n ∧ kv = .int .i64 (k0 + 5 * (i : Int)) ∧ iv = .int .i64 i ∧ VOut 5 cmlt wr G n (marks 5 k0 n) i ∧ Aside w wr (.slice (some ⟨G, 0, none⟩) n cap)) (fun _ iv _ => n - (intOf iv).toNat)
  case atStart => exact ⟨0, Nat.zero_le _, by simp, rfl, h0, Aside.refl _ _⟩
  case round =>
    clear h0
    obtain ⟨i, hi, rfl, rfl, ho, ha⟩ := hrel
    by_cases hlt : i < n
    · have hlti : (i : Int) < (n : Int) := by omega
      have hset := ho.set hlt (marks_get 5 k0 n i hlt) [.int .i64 (k0 + 5 * (i : Int)), .int .i64 (k0 + 5 * (i : Int) + 1), .int .i64 (k0 + 5 * (i : Int) + 1 + 1), .int .i64 (k0 + 5 * (i : Int) + 1 + 1 + 1), .int .i64 (k0 + 5 * (i : Int) + 1 + 1 + 1 + 1)] rfl (fun k hk => by
        match k, hk with
        | 0, _ => exact congrArg (fun z => some (Value.int .i64 z)) (show k0 + 5 * (i : Int) = k0 + 5 * (i : Int) + 0 by omega)
        | 1, _ => exact congrArg (fun z => some (Value.int .i64 z)) (show k0 + 5 * (i : Int) + 1 = k0 + 5 * (i : Int) + 1 by omega)
        | 2, _ => exact congrArg (fun z => some (Value.int .i64 z)) (show k0 + 5 * (i : Int) + 1 + 1 = k0 + 5 * (i : Int) + 2 by omega)
        | 3, _ => exact congrArg (fun z => some (Value.int .i64 z)) (show k0 + 5 * (i : Int) + 1 + 1 + 1 = k0 + 5 * (i : Int) + 3 by omega)
        | 4, _ => exact congrArg (fun z => some (Value.int .i64 z)) (show k0 + 5 * (i : Int) + 1 + 1 + 1 + 1 = k0 + 5 * (i : Int) + 4 by omega)
)
      obtain ⟨⟨u0, hu0⟩, hf0⟩ := ho.old hlt (show 0 < 5 by omega)
      obtain ⟨⟨u1, hu1⟩, hf1⟩ := ho.old hlt (show 1 < 5 by omega)
      obtain ⟨⟨u2, hu2⟩, hf2⟩ := ho.old hlt (show 2 < 5 by omega)
      obtain ⟨⟨u3, hu3⟩, hf3⟩ := ho.old hlt (show 3 < 5 by omega)
      obtain ⟨⟨u4, hu4⟩, hf4⟩ := ho.old hlt (show 4 < 5 by omega)
      simp only [Nat.add_zero] at hu0 hf0
      have ha2 := Aside.put [.int .i64 (k0 + 5 * (i : Int)), .int .i64 (k0 + 5 * (i : Int) + 1), .int .i64 (k0 + 5 * (i : Int) + 1 + 1), .int .i64 (k0 + 5 * (i : Int) + 1 + 1 + 1), .int .i64 (k0 + 5 * (i : Int) + 1 + 1 + 1 + 1)] (i * 5) ha
      clear ho ha
      go_wp2_with fail
      go_roundw
      case rel => exact ⟨i + 1, by omega, by congr 1; omega, rfl, hset, ha2⟩
      case measure => simp [intOf]; omega
    · have hlti : ¬ (i : Int) < (n : Int) := by omega
      have hin : i = n := by omega
      subst hin
      go_wp2_with fail
      go_ret
      exact ⟨rfl, ho, ha⟩

set_option maxRecDepth 20000 in
set_option maxHeartbeats 2000000 in
theorem marklt_none (ao : Option Addr) (cap : Nat) (k0 : Int) (w : World) :
    Calls Try.prog 11 #[.slice ao 0 cap, .int .i64 k0] w fun e w' => e = .returned (.int .i64 k0) ∧ w' = w := by
  go_enter Try.func11, Try.ntmps11
  go_wp2_with fail
  go_loopw [1, 5] (fun kv iv wr => wr = w ∧ kv = .int .i64 k0 ∧ iv = .int .i64 0) (fun _ _ _ => 0)
  case atStart => exact ⟨rfl, rfl, rfl⟩
  case round =>
    obtain ⟨rfl, rfl, rfl⟩ := hrel
    go_wp2_with fail
    go_ret
    exact ⟨rfl, rfl⟩

theorem marklt_any (v : Value) (l : List Lt) (base : Nat) (k0 : Int) (w : World) (h : VOwn 5 cvLt w base v l) (hn : l.length ≤ 1048576) (hk0 : 0 ≤ k0) (hk1 : k0 ≤ 1000000000) :
    Calls Try.prog 11 #[v, .int .i64 k0] w fun e w' => e = .returned (.int .i64 (k0 + 5 * (l.length : Int))) ∧ VOwn 5 cmlt w' base v (marks 5 k0 l.length) ∧ Aside w w' v ∧ (l.length = 0 → w' = w) := by
  obtain ⟨ao, cap, rfl, hc, hh⟩ := h
  rcases Nat.eq_zero_or_pos l.length with h0 | hpos
  · rw [h0]
    refine (marklt_none ao cap k0 w).mono ?_
    rintro e w' ⟨rfl, rfl⟩
    exact ⟨by simp, ⟨ao, cap, rfl, Nat.zero_le _, Or.inl rfl⟩, Aside.refl _ _, fun _ => rfl⟩
  · obtain ⟨G, rfl, hG, ho⟩ := hh.resolve_left (by omega)
    refine (marklt_some G l.length cap l k0 w ho hn hk0 hk1).mono ?_
    rintro e w' ⟨rfl, ho', ha⟩
    exact ⟨rfl, ⟨_, cap, by rw [marks_len], by rw [marks_len]; exact hc, Or.inr ⟨G, rfl, hG, by rw [marks_len]; exact ho'⟩⟩, ha, fun h0 => absurd h0 (by omega)⟩
end Go.Proofs.Ytbabknhccapaoab
