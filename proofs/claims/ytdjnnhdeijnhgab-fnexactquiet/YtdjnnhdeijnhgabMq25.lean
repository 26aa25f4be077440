/-
  The law's own helpers on rows of ticks.
-/
import Derived.Test.YtdjnnhdeijnhgabMq4
import Derived.Test.YtdjnnhdeijnhgabMq24
namespace Go.Proofs.Ytdjnnhdeijnhgab
open Go.RowKit Va
set_option linter.all false


theorem infoTick : (Try.prog.info? 42).map (fun i => (i.zero, i.size, i.bytes)) = some (some (.agg #[.int .i64 0, .bool false, .bool false]), 3, 16) := by kernel_rfl

set_option maxRecDepth 20000 in
set_option maxHeartbeats 4000000 in
theorem totk_any (x : Tk) (w : World) : Calls Try.prog 23 #[aTk x] w fun r w' => r = .returned (aTk x) ∧ Below w.heap.size w w' := by
  unfold aTk
  go_enter Try.func23, Try.ntmps23
  go_wp2
  exact bodyPost_ret (v := .agg #[.int .i64 x.v, .bool x.k, .bool x.h]) (by simp [results, Try.results23, go_sem]) rfl ⟨rfl, by repeat (first | exact Below.refl _ _ | assumption | refine st_drew ?_ | refine st_drewN ?_ _ | refine Below.setCell ?_ (by first | omega | (simp; done) | (simp; omega)) _ | refine Below.alloc ?_ (by first | omega | (simp; done) | (simp; omega)) _)⟩

set_option maxRecDepth 20000 in
set_option maxHeartbeats 8000000 in
theorem totks_any (v : Value) (l : List Tk) (w : World) (h : VRw 3 cvTk w v l) (hn : l.length ≤ 1048576) :
    Calls Try.prog 9 #[v] w fun e w' => ∃ v', e = .returned v' ∧ VOwn 3 cvTk w' w.heap.size v' l ∧ Below w.heap.size w w' := by
  have HH := hidden h
  obtain ⟨ao, cap, rfl⟩ := h.form
  clear h
  obtain ⟨i0, hi, hz0, hz1, hz2⟩ := info_parts infoTick
  go_enter Try.func9, Try.ntmps9
  go_wp2_with (refine wpList_make_full _ rfl (.tmp 6) (.tmp 6) 30 rfl w.heap.size 42 i0 (.agg #[.int .i64 0, .bool false, .bool false]) 3 Try.underlying30 hi hz0 hz1 .i64 .i64 _ _ l.length rfl rfl rfl rfl (by rw [hz2]; omega) (by unfold maxLen; omega) (Nat.le_refl _) ?_; intro w1 ho1 hg1)
  have b1 : Below w.heap.size w w1 := (Below.refl _ w).grown hg1 (Nat.le_refl _) (by simp)
  have ho := VOut.made (cs := cvTk) l ho1
  clear ho1 hg1
  go_wp2_with fail
  go_loopw [4] (fun iv wr => ∃ i : Nat, i ≤ l.length ∧ iv = .int .i64 i ∧ Below w.heap.size w wr ∧ VOut 3 cvTk wr w.heap.size l.length l i) (fun iv _ => l.length - (intOf iv).toNat)
  case atStart => exact ⟨0, Nat.zero_le _, rfl, b1, ho⟩
  case round =>
    clear b1 ho
    obtain ⟨i, hil, rfl, hb, ho⟩ := hrel
    by_cases hlt : i < l.length
    · have hlti : (i : Int) < (l.length : Int) := by omega
      obtain ⟨x, hx⟩ := some_of l i hlt
      obtain ⟨g, off, rfl, hg, hcs⟩ := (HH.out.below hb).at hx
      have c0 : wr.cell? ⟨g, off + i * 3, none⟩ = some (.int .i64 x.v) := hcs 0 (by omega)
      have c1 : wr.cell? ⟨g, off + i * 3 + 1, none⟩ = some (.bool x.k) := hcs 1 (by omega)
      have c2 : wr.cell? ⟨g, off + i * 3 + 2, none⟩ = some (.bool x.h) := hcs 2 (by omega)
      have hT := totk_any x
      unfold aTk at hT
      have HSet := hidden (fun W (hW : Below wr.heap.size wr W) => (ho.below hW).set hlt hx [.int .i64 x.v, .bool x.k, .bool x.h] rfl (fun k hk => by
        match k, hk with
        | 0, _ => rfl
        | 1, _ => rfl
        | 2, _ => rfl
))
      have HOld := hidden (fun W (hW : Below wr.heap.size wr W) (k : Nat) (hk : k < 3) => (ho.below hW).old hlt hk)
      clear hcs hx ho
      go_wp2_with (go_at_call 23; refine (hT _).mono ?_; rintro e w2 ⟨rfl, hb2⟩; have b2 := onto hb hb2; obtain ⟨⟨u0, hu0⟩, hf0⟩ := HOld.out w2 hb2 0 (by omega); obtain ⟨⟨u1, hu1⟩, hf1⟩ := HOld.out w2 hb2 1 (by omega); obtain ⟨⟨u2, hu2⟩, hf2⟩ := HOld.out w2 hb2 2 (by omega); simp only [Nat.add_zero] at hu0 hf0)
      have hset := HSet.out w2 hb2
      have b3 : Below w.heap.size w (put w2 w.heap.size (i * 3) [.int .i64 x.v, .bool x.k, .bool x.h]) := put_below _ _ _ _ b2 (Nat.le_refl _)
      clear HSet HOld hT hb2
      go_roundw
      case rel => exact ⟨i + 1, by omega, rfl, b3, hset⟩
      case measure => simp [intOf]; omega
    · have hlti : ¬ (i : Int) < (l.length : Int) := by omega
      have hil2 : i = l.length := by omega
      subst hil2
      go_wp2_with fail
      go_ret
      exact ⟨_, rfl, ho.own (Nat.le_refl _) _ (Nat.le_refl _), hb⟩

theorem sztks_any (ao : Option Addr) (n cap : Nat) (L : Int) (w : World) (hn : (n : Int) ≤ 9223372036854775807) (h0 : 0 ≤ L) (h1 : L ≤ 1048576) :
    Calls Try.prog 6 #[.slice ao n cap, .int .i64 L] w fun e w' => e = .returned (.int .i64 (if L < n then -1 else L - n)) ∧ w = w' := by
  by_cases h : L < (n : Int)
  · rw [if_pos h]
    have h2 : L - n < 0 := by omega
    go_enter Try.func6, Try.ntmps6
    go_wp2
    go_ret
    exact ⟨rfl, rfl⟩
  · rw [if_neg h]
    have h2 : ¬ L - n < 0 := by omega
    go_enter Try.func6, Try.ntmps6
    go_wp2
    go_ret
    exact ⟨rfl, rfl⟩

set_option maxRecDepth 20000 in
set_option maxHeartbeats 4000000 in
theorem eqtk_any (x : Tk) (w : World) : Calls Try.prog 30 #[aTk x, aTk x] w fun r w' => r = .returned (.bool true) ∧ Below w.heap.size w w' := by
  unfold aTk
  go_enter Try.func30, Try.ntmps30
  go_wp2
  go_ret
  exact ⟨rfl, by repeat (first | exact Below.refl _ _ | assumption | refine st_drew ?_ | refine st_drewN ?_ _ | refine Below.setCell ?_ (by first | omega | (simp; done) | (simp; omega)) _ | refine Below.alloc ?_ (by first | omega | (simp; done) | (simp; omega)) _)⟩

set_option maxRecDepth 20000 in
set_option maxHeartbeats 4000000 in
theorem eqtks_any (v u : Value) (l : List Tk) (w : World) (h : VRw 3 cvTk w v l) (h' : VRw 3 cvTk w u l) (hn : l.length ≤ 1048576) :
    Calls Try.prog 12 #[v, u] w fun e w' => e = .returned (.bool true) ∧ Below w.heap.size w w' := by
  have HH := hidden h
  have HH' := hidden h'
  obtain ⟨ao, cap, rfl⟩ := h.form
  obtain ⟨ao', cap', rfl⟩ := h'.form
  clear h h'
  go_enter Try.func12, Try.ntmps12
  go_wp2_with fail
  go_loopw [5] (fun iv wr => ∃ i : Nat, i ≤ l.length ∧ iv = .int .i64 i ∧ Below w.heap.size w wr) (fun iv _ => l.length - (intOf iv).toNat)
  case atStart => exact ⟨0, Nat.zero_le _, rfl, Below.refl _ _⟩
  case round =>
    obtain ⟨i, hil, rfl, hb⟩ := hrel
    by_cases hlt : i < l.length
    · have hlti : (i : Int) < (l.length : Int) := by omega
      have hi0 : (0 : Int) ≤ (i : Int) := by omega
      obtain ⟨x, hx⟩ := some_of l i hlt
      obtain ⟨g, off, rfl, hg, hcs⟩ := (HH.out.below hb).at hx
      obtain ⟨g', off', rfl, hg', hcs'⟩ := (HH'.out.below hb).at hx
      have c0 : wr.cell? ⟨g, off + i * 3, none⟩ = some (.int .i64 x.v) := hcs 0 (by omega)
      have d0 : wr.cell? ⟨g', off' + i * 3, none⟩ = some (.int .i64 x.v) := hcs' 0 (by omega)
      have c1 : wr.cell? ⟨g, off + i * 3 + 1, none⟩ = some (.bool x.k) := hcs 1 (by omega)
      have d1 : wr.cell? ⟨g', off' + i * 3 + 1, none⟩ = some (.bool x.k) := hcs' 1 (by omega)
      have c2 : wr.cell? ⟨g, off + i * 3 + 2, none⟩ = some (.bool x.h) := hcs 2 (by omega)
      have d2 : wr.cell? ⟨g', off' + i * 3 + 2, none⟩ = some (.bool x.h) := hcs' 2 (by omega)
      have HE := hidden (eqtk_any x)
      unfold aTk at HE
      clear hcs hcs' hx
      go_wp2_with fail
      go_region_with (go_at_call 30; refine (HE.out _).mono ?_; rintro e w2 ⟨rfl, hb2⟩; have b2 := onto (show Below w.heap.size w _ from by first | exact hb | exact st_drew hb) hb2)
      all_goals go_wp2_with fail
      all_goals go_roundw
      all_goals first
        | (simp [intOf]; omega)
        | exact ⟨i + 1, by omega, rfl, by first | exact b2 | exact st_drew b2⟩
    · have hlti : ¬ (i : Int) < (l.length : Int) := by omega
      go_wp2_with fail
      go_ret
      exact ⟨rfl, hb⟩


def boolOftk (v : Value) : Bool := match v with | .bool b => b | _ => false
def kdtk (k : Nat) : Kd := match k with | 0 => Kd.int | 1 => Kd.bool | _ => Kd.bool
def mkTk (f : Nat → Value) : Tk := ⟨intOf (f 0), boolOftk (f 1), boolOftk (f 2)⟩
theorem mkTk_at (f : Nat → Value) (h : ∀ k, k < 3 → KdOk (kdtk k) (f k)) (k : Nat) (hk : k < 3) : cvTk (mkTk f) k = f k := by
  have hh := h k hk
  match k, hk with
  | 0, _ => obtain ⟨z, hz⟩ := hh; show .int .i64 (mkTk f).v = f 0; simp only [mkTk]; rw [hz]; rfl
  | 1, _ => obtain ⟨z, hz⟩ := hh; show .bool (mkTk f).k = f 1; simp only [mkTk]; rw [hz]; rfl
  | 2, _ => obtain ⟨z, hz⟩ := hh; show .bool (mkTk f).h = f 2; simp only [mkTk]; rw [hz]; rfl

set_option maxRecDepth 100000 in
theorem fsTick : ∃ fs, Try.prog.underlying 44 = some (.struct fs) ∧ ∀ k, k < 3 → ∃ f, fs[k]? = some f ∧ f.offset = k ∧ Try.prog.cellsOf f.type = 1 ∧ KdTy Try.prog (kdtk k) f.type := by
  refine ⟨_, Try.underlying44, fun k hk => ?_⟩
  match k, hk with
  | 0, _ => exact ⟨_, rfl, rfl, by kernel_rfl, Try.underlying2⟩
  | 1, _ => exact ⟨_, rfl, rfl, by kernel_rfl, Try.underlying4⟩
  | 2, _ => exact ⟨_, rfl, rfl, by kernel_rfl, Try.underlying4⟩

set_option maxRecDepth 100000 in
theorem tks_of_read {H : Type} {enc : TypeId × Value → H} {W : World} {sp : Nat → Bool} {hd : Bool} {ao : Option Addr} {n cap : Nat} {d : DataW H} {p : List MemPlace}
    (h : DataW.Trod enc Try.prog W 0 sp hd 24 (.slice ao n cap) d p) : ∃ l : List Tk, l.length = n ∧ n ≤ maxLen ∧ VRw 3 cvTk W (.slice ao n cap) l := by
  obtain ⟨fb, hb1, hb2⟩ := fsTick
  exact vrows_of_read kdtk mkTk (fun f h k hk => mkTk_at f h k hk) (by omega) Try.underlying24 hb1 (by kernel_rfl) hb2 h

def cmtk (x : Int) (k : Nat) : Value := match k with | 0 => .int .i64 (x + 0) | 1 => .bool ((x + 1) % 3 == 0) | _ => .bool ((x + 2) % 3 == 0)

set_option maxRecDepth 20000 in
set_option maxHeartbeats 8000000 in
theorem marktk_some (G n cap : Nat) (l0 : List Tk) (k0 : Int) (w : World) (h : VOut 3 cvTk w G n l0 n) (hn : n ≤ 1048576) (hk0 : 0 ≤ k0) (hk1 : k0 ≤ 1000000000) :
    Calls Try.prog 13 #[.slice (some ⟨G, 0, none⟩) n cap, .int .i64 k0] w fun e w' => e = .returned (.int .i64 (k0 + 3 * (n : Int))) ∧ VOut 3 cmtk w' G n (marks 3 k0 n) n ∧ Aside w w' (.slice (some ⟨G, 0, none⟩) n cap) := by
  have h0 : VOut 3 cmtk w G n (marks 3 k0 n) 0 := ⟨h.1, h.2.1, fun j x hj => absurd hj (by omega)⟩
  clear h
  go_enter Try.func13, Try.ntmps13
  go_wp2_with fail
  go_loopw [1, 5] (fun kv iv wr => ∃ i : Nat, i ≤ n ∧ kv = .int .i64 (k0 + 3 * (i : Int)) ∧ iv = .int .i64 i ∧ VOut 3 cmtk wr G n (marks 3 k0 n) i ∧ Aside w wr (.slice (some ⟨G, 0, none⟩) n cap)) (fun _ iv _ => n - (intOf iv).toNat)
  case atStart => exact ⟨0, Nat.zero_le _, by simp, rfl, h0, Aside.refl _ _⟩
  case round =>
    clear h0
    obtain ⟨i, hi, rfl, rfl, ho, ha⟩ := hrel
    by_cases hlt : i < n
    · have hlti : (i : Int) < (n : Int) := by omega
      have hset := ho.set hlt (marks_get 3 k0 n i hlt) [.int .i64 (k0 + 3 * (i : Int)), .bool ((k0 + 3 * (i : Int) + 1) % 3 == 0), .bool ((k0 + 3 * (i : Int) + 1 + 1) % 3 == 0)] rfl (fun k hk => by
        match k, hk with
        | 0, _ => exact congrArg (fun z => some (Value.int .i64 z)) (show k0 + 3 * (i : Int) = k0 + 3 * (i : Int) + 0 by omega)
        | 1, _ => exact congrArg (fun z : Int => some (Value.bool (z % 3 == 0))) (show k0 + 3 * (i : Int) + 1 = k0 + 3 * (i : Int) + 1 by omega)
        | 2, _ => exact congrArg (fun z : Int => some (Value.bool (z % 3 == 0))) (show k0 + 3 * (i : Int) + 1 + 1 = k0 + 3 * (i : Int) + 2 by omega)
)
      obtain ⟨⟨u0, hu0⟩, hf0⟩ := ho.old hlt (show 0 < 3 by omega)
      obtain ⟨⟨u1, hu1⟩, hf1⟩ := ho.old hlt (show 1 < 3 by omega)
      obtain ⟨⟨u2, hu2⟩, hf2⟩ := ho.old hlt (show 2 < 3 by omega)
      simp only [Nat.add_zero] at hu0 hf0
      have ha2 := Aside.put [.int .i64 (k0 + 3 * (i : Int)), .bool ((k0 + 3 * (i : Int) + 1) % 3 == 0), .bool ((k0 + 3 * (i : Int) + 1 + 1) % 3 == 0)] (i * 3) ha
      clear ho ha
      go_wp2_with fail
      go_roundw
      case rel => exact ⟨i + 1, by omega, by congr 1; omega, rfl, hset, ha2⟩
      case measure => simp [intOf]; omega
    · have hlti : ¬ (i : Int) < (n : Int) := by omega
      have hin : i = n := by omega
      subst hin
      go_wp2_with fail
      go_ret
      exact ⟨rfl, ho, ha⟩

set_option maxRecDepth 20000 in
set_option maxHeartbeats 2000000 in
theorem marktk_none (ao : Option Addr) (cap : Nat) (k0 : Int) (w : World) :
    Calls Try.prog 13 #[.slice ao 0 cap, .int .i64 k0] w fun e w' => e = .returned (.int .i64 k0) ∧ w' = w := by
  go_enter Try.func13, Try.ntmps13
  go_wp2_with fail
  go_loopw [1, 5] (fun kv iv wr => wr = w ∧ kv = .int .i64 k0 ∧ iv = .int .i64 0) (fun _ _ _ => 0)
  case atStart => exact ⟨rfl, rfl, rfl⟩
  case round =>
    obtain ⟨rfl, rfl, rfl⟩ := hrel
    go_wp2_with fail
    go_ret
    exact ⟨rfl, rfl⟩

theorem marktk_any (v : Value) (l : List Tk) (base : Nat) (k0 : Int) (w : World) (h : VOwn 3 cvTk w base v l) (hn : l.length ≤ 1048576) (hk0 : 0 ≤ k0) (hk1 : k0 ≤ 1000000000) :
    Calls Try.prog 13 #[v, .int .i64 k0] w fun e w' => e = .returned (.int .i64 (k0 + 3 * (l.length : Int))) ∧ VOwn 3 cmtk w' base v (marks 3 k0 l.length) ∧ Aside w w' v ∧ (l.length = 0 → w' = w) := by
  obtain ⟨ao, cap, rfl, hc, hh⟩ := h
  rcases Nat.eq_zero_or_pos l.length with h0 | hpos
  · rw [h0]
    refine (marktk_none ao cap k0 w).mono ?_
    rintro e w' ⟨rfl, rfl⟩
    exact ⟨by simp, ⟨ao, cap, rfl, Nat.zero_le _, Or.inl rfl⟩, Aside.refl _ _, fun _ => rfl⟩
  · obtain ⟨G, rfl, hG, ho⟩ := hh.resolve_left (by omega)
    refine (marktk_some G l.length cap l k0 w ho hn hk0 hk1).mono ?_
    rintro e w' ⟨rfl, ho', ha⟩
    exact ⟨rfl, ⟨_, cap, by rw [marks_len], by rw [marks_len]; exact hc, Or.inr ⟨G, rfl, hG, by rw [marks_len]; exact ho'⟩⟩, ha, fun h0 => absurd h0 (by omega)⟩

set_option maxRecDepth 20000 in
set_option maxHeartbeats 8000000 in
theorem heldtk_any (v : Value) (k0 : Int) (n : Nat) (w : World) (h : VRw 3 cmtk w v (marks 3 k0 n)) (hn : n ≤ 1048576) (hk0 : 0 ≤ k0) (hk1 : k0 ≤ 1000000000) :
    Calls Try.prog 20 #[v, .int .i64 k0] w fun e w' => e = .returned (.int .i64 (k0 + 3 * (n : Int))) ∧ w' = w := by
  have HH := hidden h
  obtain ⟨ao, cap, rfl⟩ := h.form
  clear h
  rw [marks_len]
  rw [marks_len] at HH
  go_enter Try.func20, Try.ntmps20
  go_wp2_with fail
  go_loopw [1, 5] (fun kv iv wr => wr = w ∧ ∃ i : Nat, i ≤ n ∧ kv = .int .i64 (k0 + 3 * (i : Int)) ∧ iv = .int .i64 i) (fun _ iv _ => n - (intOf iv).toNat)
  case atStart => exact ⟨rfl, 0, Nat.zero_le _, by simp, rfl⟩
  case round =>
    obtain ⟨rfl, i, hi, rfl, rfl⟩ := hrel
    by_cases hlt : i < n
    · have hlti : (i : Int) < (n : Int) := by omega
      obtain ⟨g, off, rfl, hg, hcs⟩ := HH.out.at (marks_get 3 k0 n i hlt)
      have c0 : wr.cell? ⟨g, off + i * 3, none⟩ = some (.int .i64 (k0 + 3 * (i : Int))) := (hcs 0 (by omega)).trans (congrArg (fun z => some (Value.int .i64 z)) (show k0 + 3 * (i : Int) + 0 = k0 + 3 * (i : Int) by omega))
      have c1 : wr.cell? ⟨g, off + i * 3 + 1, none⟩ = some (.bool ((k0 + 3 * (i : Int) + 1) % 3 == 0)) := (hcs 1 (by omega)).trans (congrArg (fun z : Int => some (Value.bool (z % 3 == 0))) (show k0 + 3 * (i : Int) + 1 = k0 + 3 * (i : Int) + 1 by omega))
      have c2 : wr.cell? ⟨g, off + i * 3 + 2, none⟩ = some (.bool ((k0 + 3 * (i : Int) + 1 + 1) % 3 == 0)) := (hcs 2 (by omega)).trans (congrArg (fun z : Int => some (Value.bool (z % 3 == 0))) (show k0 + 3 * (i : Int) + 2 = k0 + 3 * (i : Int) + 1 + 1 by omega))
      clear hcs
      go_wp2_with fail
      go_roundw
      case rel => exact ⟨by first | rfl | trivial, i + 1, by omega, by congr 1; omega, rfl⟩
      case measure => simp [intOf]; omega
    · have hlti : ¬ (i : Int) < (n : Int) := by omega
      have hin : i = n := by omega
      subst hin
      go_wp2_with fail
      go_ret
      exact ⟨rfl, rfl⟩
end Go.Proofs.Ytdjnnhdeijnhgab

/-
  The law's helpers on ticks, as goroutine 0 calls them beside leavers.
-/
namespace Go.Proofs.Ytdjnnhdeijnhgab.Rn
open Go Go.Conc Va Go.RowKit
set_option linter.all false
set_option maxRecDepth 20000

theorem VRw.hb {w w' : World} {v : Value} {l : List Tk} (h : VRw 3 cvTk w v l) (k : HB w.heap.size w w') : VRw 3 cvTk w' v l := _root_.Go.Proofs.Ytdjnnhdeijnhgab.VRw.below (w := { w with tape := w'.tape, os := w'.os, output := w'.output }) h k.below
theorem VOwn.hb {α : Type} {cs : α → Nat → Value} {w w' : World} {b : Nat} {v : Value} {l : List α} (h : VOwn 3 cs w b v l) (k : HB w.heap.size w w') : VOwn 3 cs w' b v l := _root_.Go.Proofs.Ytdjnnhdeijnhgab.VOwn.below (w := { w with tape := w'.tape, os := w'.os, output := w'.output }) h k.below
section
variable {A : Nat → Prop} {b : Frame} {a : Act} {ops : Array Oper} {i d n : Nat} {rest : List Nat} {kk : List Item} {cs : List Frame} {wl : World} {Q : Goroutine → World → Prop} {vs : List (Nat × Value)}
/-- A call that yields a value of which this is told. -/
theorem K.callR {f : Nat} (hA : f ∈ AQ) {xs : Array Operand} {ts : Array TypeId} {args : Array Value} {g : Option (Nat × Bool)} (ho : ∃ o, ops[i]? = some o ∧ o.dst = some d ∧ o.guard = g ∧ o.op = .call { callee := .value (.func f), args := xs, argTypes := ts }) (hb : b.kind ≠ .early) (h : LA n a vs) (hd : d < n) (hw : ∀ o : Oper, o.guard = g → Region.wanted o (yielded ops a.tmps) = true) (hE : Enters f) (hx : xs.map a.eval = args)
    {R : Value → World → Prop} (hR : ∀ T, Calls Try.prog f args { wl with tape := T, drawn := 0 } fun e w => ∃ v, e = .returned v ∧ R v w)
    (k : ∀ v wE a', R v wE → LA n a' ((d, v) :: vs) → Kp Try.prog (G (b.at a' (.inRegion ops rest :: kk)) cs) wE Q) : Kp Try.prog (G (b.at a (.inRegion ops (i :: rest) :: kk)) cs) wl Q :=
  K.call prgQ closedQ fixQ hA ho hb h hd hw hE hx hR (fun e w ⟨v, q, _⟩ => ⟨v, q⟩) fun v wE a' ⟨v', q, hr⟩ ha => k v wE a' (by injection q with q; rw [q]; exact hr) ha
end
section
variable {wl : World} {v u : Value} {l : List Tk}
theorem c_to (h : VRw 3 cvTk wl v l) (hn : l.length ≤ 1048576) (T : Tape) : Calls Try.prog 9 #[v] { wl with tape := T, drawn := 0 } fun e w => ∃ v', e = .returned v' ∧ VOwn 3 cvTk w wl.heap.size v' l ∧ HB wl.heap.size wl w :=
  (totks_any v l { wl with tape := T, drawn := 0 } h hn).mono fun e w ⟨v', q1, q2, q3⟩ => ⟨v', q1, q2, HB.of q3⟩
theorem c_spec (h : VRw 3 cvTk wl v l) (hn : l.length ≤ 1048576) (T : Tape) : Calls Try.prog 18 #[v] { wl with tape := T, drawn := 0 } fun e w => ∃ v', e = .returned v' ∧ VOwn 3 cvTk w wl.heap.size v' (quiet l) ∧ HB wl.heap.size wl w :=
  (squiet_any v l { wl with tape := T, drawn := 0 } h hn).mono fun e w ⟨v', q1, q2, q3⟩ => ⟨v', q1, q2, HB.of q3⟩
theorem c_eq (h : VRw 3 cvTk wl v l) (h' : VRw 3 cvTk wl u l) (hn : l.length ≤ 1048576) (T : Tape) : Calls Try.prog 12 #[v, u] { wl with tape := T, drawn := 0 } fun e w => ∃ v', e = .returned v' ∧ v' = .bool true ∧ HB wl.heap.size wl w :=
  (eqtks_any v u l { wl with tape := T, drawn := 0 } h h' hn).mono fun e w ⟨q1, q2⟩ => ⟨_, q1, rfl, HB.of q2⟩
theorem c_sz {ao : Option Addr} {m cap : Nat} (hm : (m : Int) ≤ 9223372036854775807) (T : Tape) : Calls Try.prog 6 #[.slice ao m cap, .int .i64 1048576] { wl with tape := T, drawn := 0 } fun e w => ∃ v', e = .returned v' ∧ v' = .int .i64 (if (1048576 : Int) < m then -1 else 1048576 - m) ∧ w.heap = wl.heap :=
  (sztks_any ao m cap 1048576 { wl with tape := T, drawn := 0 } hm (by omega) (by omega)).mono fun e w ⟨q1, q2⟩ => ⟨_, q1, rfl, by rw [← q2]⟩
theorem c_held {m : Nat} (h : VRw 3 cmtk wl v (marks 3 1 m)) (hm : m ≤ 1048576) (T : Tape) : Calls Try.prog 20 #[v, .int .i64 1] { wl with tape := T, drawn := 0 } fun e w => ∃ v', e = .returned v' ∧ v' = .int .i64 (1 + 3 * (m : Int)) ∧ w.heap = wl.heap :=
  (heldtk_any v 1 m { wl with tape := T, drawn := 0 } h hm (by omega) (by omega)).mono fun e w ⟨q1, q2⟩ => ⟨_, q1, rfl, by rw [q2]⟩
theorem c_mark {base : Nat} {wx : World} (hx : VOwn 3 cvTk wx base v l) (h : VOwn 3 cvTk wl base v l) (hn : l.length ≤ 1048576) (T : Tape) : Calls Try.prog 13 #[v, .int .i64 1] { wl with tape := T, drawn := 0 } fun e w => ∃ v', e = .returned v' ∧ v' = .int .i64 (1 + 3 * (l.length : Int)) ∧ VOwn 3 cmtk w base v (marks 3 1 l.length) ∧ HB base wl w ∧ ∀ b2 v2 l2, wx.heap.size ≤ b2 → VOwn 3 cvTk wl b2 v2 l2 → VOwn 3 cvTk w b2 v2 l2 :=
  (marktk_any v l base 1 { wl with tape := T, drawn := 0 } h hn (by omega) (by omega)).mono fun e w ⟨q1, q2, q3, q4⟩ => ⟨_, q1, rfl, q2, HB.of (VOwn.mark_below (w := { wl with tape := T, drawn := 0 }) h q3 q4 (Below.refl _ _) (Nat.le_refl _)), fun b2 v2 l2 hb h2 => VOwn.mark_own (w := { wl with tape := T, drawn := 0 }) hx hb q3 q4 h2⟩
end
end Go.Proofs.Ytdjnnhdeijnhgab.Rn
