/-
  The law's own helpers on rows of results.
-/
import Derived.Test.YtecljmpojninfabT7
namespace Go.Proofs.Ytecljmpojninfab
open Go.RowKit Va Lb
set_option linter.all false


theorem infoResult : (Try.prog.info? 41).map (fun i => (i.zero, i.size, i.bytes)) = some (some (.agg #[.int .i64 0, .int .i64 0, .bool false]), 3, 24) := by kernel_rfl

set_option maxRecDepth 20000 in
set_option maxHeartbeats 4000000 in
theorem tors_any (x : Rs) (w : World) : Calls Try.prog 28 #[aRs x] w fun r w' => r = .returned (aRs x) ∧ Below w.heap.size w w' := by
  unfold aRs
  go_enter Try.func28, Try.ntmps28
  go_wp2
  exact bodyPost_ret (v := .agg #[.int .i64 x.v, .int .i64 x.t, .bool x.k]) (by simp [results, Try.results28, go_sem]) rfl ⟨rfl, by repeat (first | exact Below.refl _ _ | assumption | refine st_drew ?_ | refine st_drewN ?_ _ | refine Below.setCell ?_ (by first | omega | (simp; done) | (simp; omega)) _ | refine Below.alloc ?_ (by first | omega | (simp; done) | (simp; omega)) _)⟩

set_option maxRecDepth 20000 in
set_option maxHeartbeats 8000000 in
theorem torss_any (v : Value) (l : List Rs) (w : World) (h : VRw 3 cvRs w v l) (hn : l.length ≤ 1048576) :
    Calls Try.prog 17 #[v] w fun e w' => ∃ v', e = .returned v' ∧ VOwn 3 cvRs w' w.heap.size v' l ∧ Below w.heap.size w w' := by
  have HH := hidden h
  obtain ⟨ao, cap, rfl⟩ := h.form
  clear h
  obtain ⟨i0, hi, hz0, hz1, hz2⟩ := info_parts infoResult
  go_enter Try.func17, Try.ntmps17
  go_wp2_with (refine wpList_make_full _ rfl (.tmp 6) (.tmp 6) 32 rfl w.heap.size 41 i0 (.agg #[.int .i64 0, .int .i64 0, .bool false]) 3 Try.underlying32 hi hz0 hz1 .i64 .i64 _ _ l.length rfl rfl rfl rfl (by rw [hz2]; omega) (by unfold maxLen; omega) (Nat.le_refl _) ?_; intro w1 ho1 hg1)
  have b1 : Below w.heap.size w w1 := (Below.refl _ w).grown hg1 (Nat.le_refl _) (by simp)
  have ho := VOut.made (cs := cvRs) l ho1
  clear ho1 hg1
  go_wp2_with fail
  go_loopw [4] (fun iv wr => ∃ i : Nat, i ≤ l.length ∧ iv = .int .i64 i ∧ Below w.heap.size w wr ∧ VOut 3 cvRs wr w.heap.size l.length l i) (fun iv _ => l.length - (intOf iv).toNat)
  case atStart => exact ⟨0, Nat.zero_le _, rfl, b1, ho⟩
  case round =>
    clear b1 ho
    obtain ⟨i, hil, rfl, hb, ho⟩ := hrel
    by_cases hlt : i < l.length
    · have hlti : (i : Int) < (l.length : Int) := by omega
      obtain ⟨x, hx⟩ := some_of l i hlt
      obtain ⟨g, off, rfl, hg, hcs⟩ := (HH.out.below hb).at hx
      have c0 : wr.cell? ⟨g, off + i * 3, none⟩ = some (.int .i64 x.v) := hcs 0 (by omega)
      have c1 : wr.cell? ⟨g, off + i * 3 + 1, none⟩ = some (.int .i64 x.t) := hcs 1 (by omega)
      have c2 : wr.cell? ⟨g, off + i * 3 + 2, none⟩ = some (.bool x.k) := hcs 2 (by omega)
      have hT := tors_any x
      unfold aRs at hT
      have HSet := hidden (fun W (hW : Below wr.heap.size wr W) => (ho.below hW).set hlt hx [.int .i64 x.v, .int .i64 x.t, .bool x.k] rfl (fun k hk => by
        match k, hk with
        | 0, _ => rfl
        | 1, _ => rfl
        | 2, _ => rfl
))
      have HOld := hidden (fun W (hW : Below wr.heap.size wr W) (k : Nat) (hk : k < 3) => (ho.below hW).old hlt hk)
      clear hcs hx ho
      go_wp2_with (go_at_call 28; refine (hT _).mono ?_; rintro e w2 ⟨rfl, hb2⟩; have b2 := onto hb hb2; obtain ⟨⟨u0, hu0⟩, hf0⟩ := HOld.out w2 hb2 0 (by omega); obtain ⟨⟨u1, hu1⟩, hf1⟩ := HOld.out w2 hb2 1 (by omega); obtain ⟨⟨u2, hu2⟩, hf2⟩ := HOld.out w2 hb2 2 (by omega); simp only [Nat.add_zero] at hu0 hf0)
      have hset := HSet.out w2 hb2
      have b3 : Below w.heap.size w (put w2 w.heap.size (i * 3) [.int .i64 x.v, .int .i64 x.t, .bool x.k]) := put_below _ _ _ _ b2 (Nat.le_refl _)
      clear HSet HOld hT hb2
      go_roundw
      case rel => exact ⟨i + 1, by omega, rfl, b3, hset⟩
      case measure => simp [intOf]; omega
    · have hlti : ¬ (i : Int) < (l.length : Int) := by omega
      have hil2 : i = l.length := by omega
      subst hil2
      go_wp2_with fail
      go_ret
      exact ⟨_, rfl, ho.own (Nat.le_refl _) _ (Nat.le_refl _), hb⟩

theorem szrss_any (ao : Option Addr) (n cap : Nat) (L : Int) (w : World) (hn : (n : Int) ≤ 9223372036854775807) (h0 : 0 ≤ L) (h1 : L ≤ 1048576) :
    Calls Try.prog 15 #[.slice ao n cap, .int .i64 L] w fun e w' => e = .returned (.int .i64 (if L < n then -1 else L - n)) ∧ w = w' := by
  by_cases h : L < (n : Int)
  · rw [if_pos h]
    have h2 : L - n < 0 := by omega
    go_enter Try.func15, Try.ntmps15
    go_wp2
    go_ret
    exact ⟨rfl, rfl⟩
  · rw [if_neg h]
    have h2 : ¬ L - n < 0 := by omega
    go_enter Try.func15, Try.ntmps15
    go_wp2
    go_ret
    exact ⟨rfl, rfl⟩

set_option maxRecDepth 20000 in
set_option maxHeartbeats 4000000 in
theorem eqrs_any (x : Rs) (w : World) : Calls Try.prog 32 #[aRs x, aRs x] w fun r w' => r = .returned (.bool true) ∧ Below w.heap.size w w' := by
  unfold aRs
  go_enter Try.func32, Try.ntmps32
  go_wp2
  go_ret
  exact ⟨rfl, by repeat (first | exact Below.refl _ _ | assumption | refine st_drew ?_ | refine st_drewN ?_ _ | refine Below.setCell ?_ (by first | omega | (simp; done) | (simp; omega)) _ | refine Below.alloc ?_ (by first | omega | (simp; done) | (simp; omega)) _)⟩

set_option maxRecDepth 20000 in
set_option maxHeartbeats 4000000 in
theorem eqrss_any (v u : Value) (l : List Rs) (w : World) (h : VRw 3 cvRs w v l) (h' : VRw 3 cvRs w u l) (hn : l.length ≤ 1048576) :
    Calls Try.prog 19 #[v, u] w fun e w' => e = .returned (.bool true) ∧ Below w.heap.size w w' := by
  have HH := hidden h
  have HH' := hidden h'
  obtain ⟨ao, cap, rfl⟩ := h.form
  obtain ⟨ao', cap', rfl⟩ := h'.form
  clear h h'
  go_enter Try.func19, Try.ntmps19
  go_wp2_with fail
  go_loopw [5] (fun iv wr => ∃ i : Nat, i ≤ l.length ∧ iv = .int .i64 i ∧ Below w.heap.size w wr) (fun iv _ => l.length - (intOf iv).toNat)
  case atStart => exact ⟨0, Nat.zero_le _, rfl, Below.refl _ _⟩
  case round =>
    obtain ⟨i, hil, rfl, hb⟩ := hrel
    by_cases hlt : i < l.length
    · have hlti : (i : Int) < (l.length : Int) := by omega
      have hi0 : (0 : Int) ≤ (i : Int) := by omega
      obtain ⟨x, hx⟩ := some_of l i hlt
      obtain ⟨g, off, rfl, hg, hcs⟩ := (HH.out.below hb).at hx
      obtain ⟨g', off', rfl, hg', hcs'⟩ := (HH'.out.below hb).at hx
      have c0 : wr.cell? ⟨g, off + i * 3, none⟩ = some (.int .i64 x.v) := hcs 0 (by omega)
      have d0 : wr.cell? ⟨g', off' + i * 3, none⟩ = some (.int .i64 x.v) := hcs' 0 (by omega)
      have c1 : wr.cell? ⟨g, off + i * 3 + 1, none⟩ = some (.int .i64 x.t) := hcs 1 (by omega)
      have d1 : wr.cell? ⟨g', off' + i * 3 + 1, none⟩ = some (.int .i64 x.t) := hcs' 1 (by omega)
      have c2 : wr.cell? ⟨g, off + i * 3 + 2, none⟩ = some (.bool x.k) := hcs 2 (by omega)
      have d2 : wr.cell? ⟨g', off' + i * 3 + 2, none⟩ = some (.bool x.k) := hcs' 2 (by omega)
      have HE := hidden (eqrs_any x)
      unfold aRs at HE
      clear hcs hcs' hx
      go_wp2_with fail
      go_region_with (go_at_call 32; refine (HE.out _).mono ?_; rintro e w2 ⟨rfl, hb2⟩; have b2 := onto (show Below w.heap.size w _ from by first | exact hb | exact st_drew hb) hb2)
      all_goals go_wp2_with fail
      all_goals go_roundw
      all_goals first
        | (simp [intOf]; omega)
        | exact ⟨i + 1, by omega, rfl, by first | exact b2 | exact st_drew b2⟩
    · have hlti : ¬ (i : Int) < (l.length : Int) := by omega
      go_wp2_with fail
      go_ret
      exact ⟨rfl, hb⟩


def boolOfrs (v : Value) : Bool := match v with | .bool b => b | _ => false
def kdrs (k : Nat) : Kd := match k with | 0 => Kd.int | 1 => Kd.int | _ => Kd.bool
def mkRs (f : Nat → Value) : Rs := ⟨intOf (f 0), intOf (f 1), boolOfrs (f 2)⟩
theorem mkRs_at (f : Nat → Value) (h : ∀ k, k < 3 → KdOk (kdrs k) (f k)) (k : Nat) (hk : k < 3) : cvRs (mkRs f) k = f k := by
  have hh := h k hk
  match k, hk with
  | 0, _ => obtain ⟨z, hz⟩ := hh; show .int .i64 (mkRs f).v = f 0; simp only [mkRs]; rw [hz]; rfl
  | 1, _ => obtain ⟨z, hz⟩ := hh; show .int .i64 (mkRs f).t = f 1; simp only [mkRs]; rw [hz]; rfl
  | 2, _ => obtain ⟨z, hz⟩ := hh; show .bool (mkRs f).k = f 2; simp only [mkRs]; rw [hz]; rfl

set_option maxRecDepth 100000 in
theorem fsResult : ∃ fs, Try.prog.underlying 43 = some (.struct fs) ∧ ∀ k, k < 3 → ∃ f, fs[k]? = some f ∧ f.offset = k ∧ Try.prog.cellsOf f.type = 1 ∧ KdTy Try.prog (kdrs k) f.type := by
  refine ⟨_, Try.underlying43, fun k hk => ?_⟩
  match k, hk with
  | 0, _ => exact ⟨_, rfl, rfl, by kernel_rfl, Try.underlying2⟩
  | 1, _ => exact ⟨_, rfl, rfl, by kernel_rfl, Try.underlying2⟩
  | 2, _ => exact ⟨_, rfl, rfl, by kernel_rfl, Try.underlying4⟩

set_option maxRecDepth 100000 in
theorem rss_of_read {H : Type} {enc : TypeId × Value → H} {W : World} {sp : Nat → Bool} {hd : Bool} {ao : Option Addr} {n cap : Nat} {d : DataW H} {p : List MemPlace}
    (h : DataW.Trod enc Try.prog W 0 sp hd 29 (.slice ao n cap) d p) : ∃ l : List Rs, l.length = n ∧ n ≤ maxLen ∧ VRw 3 cvRs W (.slice ao n cap) l := by
  obtain ⟨fb, hb1, hb2⟩ := fsResult
  exact vrows_of_read kdrs mkRs (fun f h k hk => mkRs_at f h k hk) (by omega) Try.underlying29 hb1 (by kernel_rfl) hb2 h

def cmrs (x : Int) (k : Nat) : Value := match k with | 0 => .int .i64 (x + 0) | 1 => .int .i64 (x + 1) | _ => .bool ((x + 2) % 3 == 0)

set_option maxRecDepth 20000 in
set_option maxHeartbeats 8000000 in
theorem markrs_some (G n cap : Nat) (l0 : List Rs) (k0 : Int) (w : World) (h : VOut 3 cvRs w G n l0 n) (hn : n ≤ 1048576) (hk0 : 0 ≤ k0) (hk1 : k0 ≤ 1000000000) :
    Calls Try.prog 20 #[.slice (some ⟨G, 0, none⟩) n cap, .int .i64 k0] w fun e w' => e = .returned (.int .i64 (k0 + 3 * (n : Int))) ∧ VOut 3 cmrs w' G n (marks 3 k0 n) n ∧ Aside w w' (.slice (some ⟨G, 0, none⟩) n cap) := by
  have h0 : VOut 3 cmrs w G n (marks 3 k0 n) 0 := ⟨h.1, h.2.1, fun j x hj => absurd hj (by omega)⟩
  clear h
  go_enter Try.func20, Try.ntmps20
  go_wp2_with fail
  go_loopw [1, 5] (fun kv iv wr => ∃ i : Nat, i ≤ n ∧ kv = .int .i64 (k0 + 3 * (i : Int)) ∧ iv = .int .i64 i ∧ VOut 3 cmrs wr G n (marks 3 k0 n) i ∧ Aside w wr (.slice (some ⟨G, 0, none⟩) n cap)) (fun _ iv _ => n - (intOf iv).toNat)
  case atStart => exact ⟨0, Nat.zero_le _, by simp, rfl, h0, Aside.refl _ _⟩
  case round =>
    clear h0
    obtain ⟨i, hi, rfl, rfl, ho, ha⟩ := hrel
    by_cases hlt : i < n
    · have hlti : (i : Int) < (n : Int) := by omega
      have hset := ho.set hlt (marks_get 3 k0 n i hlt) [.int .i64 (k0 + 3 * (i : Int)), .int .i64 (k0 + 3 * (i : Int) + 1), .bool ((k0 + 3 * (i : Int) + 1 + 1) % 3 == 0)] rfl (fun k hk => by
        match k, hk with
        | 0, _ => exact congrArg (fun z => some (Value.int .i64 z)) (show k0 + 3 * (i : Int) = k0 + 3 * (i : Int) + 0 by omega)
        | 1, _ => exact congrArg (fun z => some (Value.int .i64 z)) (show k0 + 3 * (i : Int) + 1 = k0 + 3 * (i : Int) + 1 by omega)
        | 2, _ => exact congrArg (fun z : Int => some (Value.bool (z % 3 == 0))) (show k0 + 3 * (i : Int) + 1 + 1 = k0 + 3 * (i : Int) + 2 by omega)
)
      obtain ⟨⟨u0, hu0⟩, hf0⟩ := ho.old hlt (show 0 < 3 by omega)
      obtain ⟨⟨u1, hu1⟩, hf1⟩ := ho.old hlt (show 1 < 3 by omega)
      obtain ⟨⟨u2, hu2⟩, hf2⟩ := ho.old hlt (show 2 < 3 by omega)
      simp only [Nat.add_zero] at hu0 hf0
      have ha2 := Aside.put [.int .i64 (k0 + 3 * (i : Int)), .int .i64 (k0 + 3 * (i : Int) + 1), .bool ((k0 + 3 * (i : Int) + 1 + 1) % 3 == 0)] (i * 3) ha
      clear ho ha
      go_wp2_with fail
      go_roundw
      case rel => exact ⟨i + 1, by omega, by congr 1; omega, rfl, hset, ha2⟩
      case measure => simp [intOf]; omega
    · have hlti : ¬ (i : Int) < (n : Int) := by omega
      have hin : i = n := by omega
      subst hin
      go_wp2_with fail
      go_ret
      exact ⟨rfl, ho, ha⟩

set_option maxRecDepth 20000 in
set_option maxHeartbeats 2000000 in
theorem markrs_none (ao : Option Addr) (cap : Nat) (k0 : Int) (w : World) :
    Calls Try.prog 20 #[.slice ao 0 cap, .int .i64 k0] w fun e w' => e = .returned (.int .i64 k0) ∧ w' = w := by
  go_enter Try.func20, Try.ntmps20
  go_wp2_with fail
  go_loopw [1, 5] (fun kv iv wr => wr = w ∧ kv = .int .i64 k0 ∧ iv = .int .i64 0) (fun _ _ _ => 0)
  case atStart => exact ⟨rfl, rfl, rfl⟩
  case round =>
    obtain ⟨rfl, rfl, rfl⟩ := hrel
    go_wp2_with fail
    go_ret
    exact ⟨rfl, rfl⟩

theorem markrs_any (v : Value) (l : List Rs) (base : Nat) (k0 : Int) (w : World) (h : VOwn 3 cvRs w base v l) (hn : l.length ≤ 1048576) (hk0 : 0 ≤ k0) (hk1 : k0 ≤ 1000000000) :
    Calls Try.prog 20 #[v, .int .i64 k0] w fun e w' => e = .returned (.int .i64 (k0 + 3 * (l.length : Int))) ∧ VOwn 3 cmrs w' base v (marks 3 k0 l.length) ∧ Aside w w' v ∧ (l.length = 0 → w' = w) := by
  obtain ⟨ao, cap, rfl, hc, hh⟩ := h
  rcases Nat.eq_zero_or_pos l.length with h0 | hpos
  · rw [h0]
    refine (markrs_none ao cap k0 w).mono ?_
    rintro e w' ⟨rfl, rfl⟩
    exact ⟨by simp, ⟨ao, cap, rfl, Nat.zero_le _, Or.inl rfl⟩, Aside.refl _ _, fun _ => rfl⟩
  · obtain ⟨G, rfl, hG, ho⟩ := hh.resolve_left (by omega)
    refine (markrs_some G l.length cap l k0 w ho hn hk0 hk1).mono ?_
    rintro e w' ⟨rfl, ho', ha⟩
    exact ⟨rfl, ⟨_, cap, by rw [marks_len], by rw [marks_len]; exact hc, Or.inr ⟨G, rfl, hG, by rw [marks_len]; exact ho'⟩⟩, ha, fun h0 => absurd h0 (by omega)⟩
end Go.Proofs.Ytecljmpojninfab
