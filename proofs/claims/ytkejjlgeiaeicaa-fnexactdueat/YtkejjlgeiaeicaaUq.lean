/-
  The law's own helpers on rows of orders.
-/
import Derived.Test.YtkejjlgeiaeicaaUp
import Derived.Deep.RegionWith
import Derived.WideShapes
import Derived.ProofKit
import Derived.OpenShut
import Derived.ShutString
import Derived.ChangeOld
import Derived.Below
namespace Go.Proofs.Ytkejjlgeiaeicaa
open Go.RowKit Va Uo
set_option linter.all false


theorem infoOrder : (Try.prog.info? 62).map (fun i => (i.zero, i.size, i.bytes)) = some (some (.agg #[.int .i64 0, .int .i64 0, .int .i64 0, .int .i64 0, .int .i64 0, .int .i64 0, .int .i64 0, .int .i64 0, .bool false]), 9, 72) := by kernel_rfl

set_option maxRecDepth 20000 in
set_option maxHeartbeats 4000000 in
theorem tood_any (x : Od) (w : World) : Calls Try.prog 54 #[aOd x] w fun r w' => r = .returned (aOd x) ∧ Below w.heap.size w w' := by
  unfold aOd
  go_enter Try.func54, Try.ntmps54
  go_wp2
  exact bodyPost_ret (v := .agg #[.int .i64 x.id, .int .i64 x.p, .int .i64 x.d, .int .i64 x.n, .int .i64 x.f, .int .i64 x.e, .int .i64 x.c, .int .i64 x.s, .bool x.two]) (by simp [results, Try.results54, go_sem]) rfl ⟨rfl, by repeat (first | exact Below.refl _ _ | assumption | refine st_drew ?_ | refine st_drewN ?_ _ | refine Below.setCell ?_ (by first | omega | (simp; done) | (simp; omega)) _ | refine Below.alloc ?_ (by first | omega | (simp; done) | (simp; omega)) _)⟩

set_option maxRecDepth 20000 in
set_option maxHeartbeats 8000000 in
theorem toods_any (v : Value) (l : List Od) (w : World) (h : VRw 9 cvOd w v l) (hn : l.length ≤ 1048576) :
    Calls Try.prog 35 #[v] w fun e w' => ∃ v', e = .returned v' ∧ VOwn 9 cvOd w' w.heap.size v' l ∧ Below w.heap.size w w' := by
  have HH := hidden h
  obtain ⟨ao, cap, rfl⟩ := h.form
  clear h
  obtain ⟨i0, hi, hz0, hz1, hz2⟩ := info_parts infoOrder
  go_enter Try.func35, Try.ntmps35
  go_wp2_with (refine wpList_make_full _ rfl (.tmp 6) (.tmp 6) 37 rfl w.heap.size 62 i0 (.agg #[.int .i64 0, .int .i64 0, .int .i64 0, .int .i64 0, .int .i64 0, .int .i64 0, .int .i64 0, .int .i64 0, .bool false]) 9 Try.underlying37 hi hz0 hz1 .i64 .i64 _ _ l.length rfl rfl rfl rfl (by rw [hz2]; omega) (by unfold maxLen; omega) (Nat.le_refl _) ?_; intro w1 ho1 hg1)
  have b1 : Below w.heap.size w w1 := (Below.refl _ w).grown hg1 (Nat.le_refl _) (by simp)
  have ho := VOut.made (cs := cvOd) l ho1
  clear ho1 hg1
  go_wp2_with fail
  go_loopw [4] (fun iv wr => ∃ i : Nat, i ≤ l.length ∧ iv = .int .i64 i ∧ Below w.heap.size w wr ∧ VOut 9 cvOd wr w.heap.size l.length l i) (fun iv _ => l.length - (intOf iv).toNat)
  case atStart => exact ⟨0, Nat.zero_le _, rfl, b1, ho⟩
  case round =>
    clear b1 ho
    obtain ⟨i, hil, rfl, hb, ho⟩ := hrel
    by_cases hlt : i < l.length
    · have hlti : (i : Int) < (l.length : Int) := by omega
      obtain ⟨x, hx⟩ := some_of l i hlt
      obtain ⟨g, off, rfl, hg, hcs⟩ := (HH.out.below hb).at hx
      have c0 : wr.cell? ⟨g, off + i * 9, none⟩ = some (.int .i64 x.id) := hcs 0 (by omega)
      have c1 : wr.cell? ⟨g, off + i * 9 + 1, none⟩ = some (.int .i64 x.p) := hcs 1 (by omega)
      have c2 : wr.cell? ⟨g, off + i * 9 + 2, none⟩ = some (.int .i64 x.d) := hcs 2 (by omega)
      have c3 : wr.cell? ⟨g, off + i * 9 + 3, none⟩ = some (.int .i64 x.n) := hcs 3 (by omega)
      have c4 : wr.cell? ⟨g, off + i * 9 + 4, none⟩ = some (.int .i64 x.f) := hcs 4 (by omega)
      have c5 : wr.cell? ⟨g, off + i * 9 + 5, none⟩ = some (.int .i64 x.e) := hcs 5 (by omega)
      have c6 : wr.cell? ⟨g, off + i * 9 + 6, none⟩ = some (.int .i64 x.c) := hcs 6 (by omega)
      have c7 : wr.cell? ⟨g, off + i * 9 + 7, none⟩ = some (.int .i64 x.s) := hcs 7 (by omega)
      have c8 : wr.cell? ⟨g, off + i * 9 + 8, none⟩ = some (.bool x.two) := hcs 8 (by omega)
      have hT := tood_any x
      unfold aOd at hT
      have HSet := hidden (fun W (hW : Below wr.heap.size wr W) => (ho.below hW).set hlt hx [.int .i64 x.id, .int .i64 x.p, .int .i64 x.d, .int .i64 x.n, .int .i64 x.f, .int .i64 x.e, .int .i64 x.c, .int .i64 x.s, .bool x.two] rfl (fun k hk => by
        match k, hk with
        | 0, _ => rfl
        | 1, _ => rfl
        | 2, _ => rfl
        | 3, _ => rfl
        | 4, _ => rfl
        | 5, _ => rfl
        | 6, _ => rfl
        | 7, _ => rfl
        | 8, _ => rfl
))
      have HOld := hidden (fun W (hW : Below wr.heap.size wr W) (k : Nat) (hk : k < 9) => (ho.below hW).old hlt hk)
      clear hcs hx ho
      go_wp2_with (go_at_call 54; refine (hT _).mono ?_; rintro e w2 ⟨rfl, hb2⟩; have b2 := onto hb hb2; obtain ⟨⟨u0, hu0⟩, hf0⟩ := HOld.out w2 hb2 0 (by omega); obtain ⟨⟨u1, hu1⟩, hf1⟩ := HOld.out w2 hb2 1 (by omega); obtain ⟨⟨u2, hu2⟩, hf2⟩ := HOld.out w2 hb2 2 (by omega); obtain ⟨⟨u3, hu3⟩, hf3⟩ := HOld.out w2 hb2 3 (by omega); obtain ⟨⟨u4, hu4⟩, hf4⟩ := HOld.out w2 hb2 4 (by omega); obtain ⟨⟨u5, hu5⟩, hf5⟩ := HOld.out w2 hb2 5 (by omega); obtain ⟨⟨u6, hu6⟩, hf6⟩ := HOld.out w2 hb2 6 (by omega); obtain ⟨⟨u7, hu7⟩, hf7⟩ := HOld.out w2 hb2 7 (by omega); obtain ⟨⟨u8, hu8⟩, hf8⟩ := HOld.out w2 hb2 8 (by omega); simp only [Nat.add_zero] at hu0 hf0)
      have hset := HSet.out w2 hb2
      have b3 : Below w.heap.size w (put w2 w.heap.size (i * 9) [.int .i64 x.id, .int .i64 x.p, .int .i64 x.d, .int .i64 x.n, .int .i64 x.f, .int .i64 x.e, .int .i64 x.c, .int .i64 x.s, .bool x.two]) := put_below _ _ _ _ b2 (Nat.le_refl _)
      clear HSet HOld hT hb2
      go_roundw
      case rel => exact ⟨i + 1, by omega, rfl, b3, hset⟩
      case measure => simp [intOf]; omega
    · have hlti : ¬ (i : Int) < (l.length : Int) := by omega
      have hil2 : i = l.length := by omega
      subst hil2
      go_wp2_with fail
      go_ret
      exact ⟨_, rfl, ho.own (Nat.le_refl _) _ (Nat.le_refl _), hb⟩

theorem szods_any (ao : Option Addr) (n cap : Nat) (L : Int) (w : World) (hn : (n : Int) ≤ 9223372036854775807) (h0 : 0 ≤ L) (h1 : L ≤ 1048576) :
    Calls Try.prog 28 #[.slice ao n cap, .int .i64 L] w fun e w' => e = .returned (.int .i64 (if L < n then -1 else L - n)) ∧ w = w' := by
  by_cases h : L < (n : Int)
  · rw [if_pos h]
    have h2 : L - n < 0 := by omega
    go_enter Try.func28, Try.ntmps28
    go_wp2
    go_ret
    exact ⟨rfl, rfl⟩
  · rw [if_neg h]
    have h2 : ¬ L - n < 0 := by omega
    go_enter Try.func28, Try.ntmps28
    go_wp2
    go_ret
    exact ⟨rfl, rfl⟩

set_option maxRecDepth 20000 in
set_option maxHeartbeats 4000000 in
theorem eqod_any (x : Od) (w : World) : Calls Try.prog 59 #[aOd x, aOd x] w fun r w' => r = .returned (.bool true) ∧ Below w.heap.size w w' := by
  unfold aOd
  go_enter Try.func59, Try.ntmps59
  go_wp2
  go_ret
  exact ⟨rfl, by repeat (first | exact Below.refl _ _ | assumption | refine st_drew ?_ | refine st_drewN ?_ _ | refine Below.setCell ?_ (by first | omega | (simp; done) | (simp; omega)) _ | refine Below.alloc ?_ (by first | omega | (simp; done) | (simp; omega)) _)⟩

set_option maxRecDepth 20000 in
set_option maxHeartbeats 4000000 in
theorem eqods_any (v u : Value) (l : List Od) (w : World) (h : VRw 9 cvOd w v l) (h' : VRw 9 cvOd w u l) (hn : l.length ≤ 1048576) :
    Calls Try.prog 39 #[v, u] w fun e w' => e = .returned (.bool true) ∧ Below w.heap.size w w' := by
  have HH := hidden h
  have HH' := hidden h'
  obtain ⟨ao, cap, rfl⟩ := h.form
  obtain ⟨ao', cap', rfl⟩ := h'.form
  clear h h'
  go_enter Try.func39, Try.ntmps39
  go_wp2_with fail
  go_loopw [5] (fun iv wr => ∃ i : Nat, i ≤ l.length ∧ iv = .int .i64 i ∧ Below w.heap.size w wr) (fun iv _ => l.length - (intOf iv).toNat)
  case atStart => exact ⟨0, Nat.zero_le _, rfl, Below.refl _ _⟩
  case round =>
    obtain ⟨i, hil, rfl, hb⟩ := hrel
    by_cases hlt : i < l.length
    · have hlti : (i : Int) < (l.length : Int) := by omega
      have hi0 : (0 : Int) ≤ (i : Int) := by omega
      obtain ⟨x, hx⟩ := some_of l i hlt
      obtain ⟨g, off, rfl, hg, hcs⟩ := (HH.out.below hb).at hx
      obtain ⟨g', off', rfl, hg', hcs'⟩ := (HH'.out.below hb).at hx
      have c0 : wr.cell? ⟨g, off + i * 9, none⟩ = some (.int .i64 x.id) := hcs 0 (by omega)
      have d0 : wr.cell? ⟨g', off' + i * 9, none⟩ = some (.int .i64 x.id) := hcs' 0 (by omega)
      have c1 : wr.cell? ⟨g, off + i * 9 + 1, none⟩ = some (.int .i64 x.p) := hcs 1 (by omega)
      have d1 : wr.cell? ⟨g', off' + i * 9 + 1, none⟩ = some (.int .i64 x.p) := hcs' 1 (by omega)
      have c2 : wr.cell? ⟨g, off + i * 9 + 2, none⟩ = some (.int .i64 x.d) := hcs 2 (by omega)
      have d2 : wr.cell? ⟨g', off' + i * 9 + 2, none⟩ = some (.int .i64 x.d) := hcs' 2 (by omega)
      have c3 : wr.cell? ⟨g, off + i * 9 + 3, none⟩ = some (.int .i64 x.n) := hcs 3 (by omega)
      have d3 : wr.cell? ⟨g', off' + i * 9 + 3, none⟩ = some (.int .i64 x.n) := hcs' 3 (by omega)
      have c4 : wr.cell? ⟨g, off + i * 9 + 4, none⟩ = some (.int .i64 x.f) := hcs 4 (by omega)
      have d4 : wr.cell? ⟨g', off' + i * 9 + 4, none⟩ = some (.int .i64 x.f) := hcs' 4 (by omega)
      have c5 : wr.cell? ⟨g, off + i * 9 + 5, none⟩ = some (.int .i64 x.e) := hcs 5 (by omega)
      have d5 : wr.cell? ⟨g', off' + i * 9 + 5, none⟩ = some (.int .i64 x.e) := hcs' 5 (by omega)
      have c6 : wr.cell? ⟨g, off + i * 9 + 6, none⟩ = some (.int .i64 x.c) := hcs 6 (by omega)
      have d6 : wr.cell? ⟨g', off' + i * 9 + 6, none⟩ = some (.int .i64 x.c) := hcs' 6 (by omega)
      have c7 : wr.cell? ⟨g, off + i * 9 + 7, none⟩ = some (.int .i64 x.s) := hcs 7 (by omega)
      have d7 : wr.cell? ⟨g', off' + i * 9 + 7, none⟩ = some (.int .i64 x.s) := hcs' 7 (by omega)
      have c8 : wr.cell? ⟨g, off + i * 9 + 8, none⟩ = some (.bool x.two) := hcs 8 (by omega)
      have d8 : wr.cell? ⟨g', off' + i * 9 + 8, none⟩ = some (.bool x.two) := hcs' 8 (by omega)
      have HE := hidden (eqod_any x)
      unfold aOd at HE
      clear hcs hcs' hx
      go_wp2_with fail
      go_region_with (go_at_call 59; refine (HE.out _).mono ?_; rintro e w2 ⟨rfl, hb2⟩; have b2 := onto (show Below w.heap.size w _ from by first | exact hb | exact st_drew hb) hb2)
      all_goals go_wp2_with fail
      all_goals go_roundw
      all_goals first
        | (simp [intOf]; omega)
        | exact ⟨i + 1, by omega, rfl, by first | exact b2 | exact st_drew b2⟩
    · have hlti : ¬ (i : Int) < (l.length : Int) := by omega
      go_wp2_with fail
      go_ret
      exact ⟨rfl, hb⟩


def boolOfod (v : Value) : Bool := match v with | .bool b => b | _ => false
def kdod (k : Nat) : Kd := match k with | 0 => Kd.int | 1 => Kd.int | 2 => Kd.int | 3 => Kd.int | 4 => Kd.int | 5 => Kd.int | 6 => Kd.int | 7 => Kd.int | _ => Kd.bool
def mkOd (f : Nat → Value) : Od := ⟨intOf (f 0), intOf (f 1), intOf (f 2), intOf (f 3), intOf (f 4), intOf (f 5), intOf (f 6), intOf (f 7), boolOfod (f 8)⟩
theorem mkOd_at (f : Nat → Value) (h : ∀ k, k < 9 → KdOk (kdod k) (f k)) (k : Nat) (hk : k < 9) : cvOd (mkOd f) k = f k := by
  have hh := h k hk
  match k, hk with
  | 0, _ => obtain ⟨z, hz⟩ := hh; show .int .i64 (mkOd f).id = f 0; simp only [mkOd]; rw [hz]; rfl
  | 1, _ => obtain ⟨z, hz⟩ := hh; show .int .i64 (mkOd f).p = f 1; simp only [mkOd]; rw [hz]; rfl
  | 2, _ => obtain ⟨z, hz⟩ := hh; show .int .i64 (mkOd f).d = f 2; simp only [mkOd]; rw [hz]; rfl
  | 3, _ => obtain ⟨z, hz⟩ := hh; show .int .i64 (mkOd f).n = f 3; simp only [mkOd]; rw [hz]; rfl
  | 4, _ => obtain ⟨z, hz⟩ := hh; show .int .i64 (mkOd f).f = f 4; simp only [mkOd]; rw [hz]; rfl
  | 5, _ => obtain ⟨z, hz⟩ := hh; show .int .i64 (mkOd f).e = f 5; simp only [mkOd]; rw [hz]; rfl
  | 6, _ => obtain ⟨z, hz⟩ := hh; show .int .i64 (mkOd f).c = f 6; simp only [mkOd]; rw [hz]; rfl
  | 7, _ => obtain ⟨z, hz⟩ := hh; show .int .i64 (mkOd f).s = f 7; simp only [mkOd]; rw [hz]; rfl
  | 8, _ => obtain ⟨z, hz⟩ := hh; show .bool (mkOd f).two = f 8; simp only [mkOd]; rw [hz]; rfl

set_option maxRecDepth 100000 in
theorem fsOrder : ∃ fs, Try.prog.underlying 91 = some (.struct fs) ∧ ∀ k, k < 9 → ∃ f, fs[k]? = some f ∧ f.offset = k ∧ Try.prog.cellsOf f.type = 1 ∧ KdTy Try.prog (kdod k) f.type := by
  refine ⟨_, Try.underlying91, fun k hk => ?_⟩
  match k, hk with
  | 0, _ => exact ⟨_, rfl, rfl, by kernel_rfl, Try.underlying2⟩
  | 1, _ => exact ⟨_, rfl, rfl, by kernel_rfl, Try.underlying2⟩
  | 2, _ => exact ⟨_, rfl, rfl, by kernel_rfl, Try.underlying2⟩
  | 3, _ => exact ⟨_, rfl, rfl, by kernel_rfl, Try.underlying2⟩
  | 4, _ => exact ⟨_, rfl, rfl, by kernel_rfl, Try.underlying2⟩
  | 5, _ => exact ⟨_, rfl, rfl, by kernel_rfl, Try.underlying2⟩
  | 6, _ => exact ⟨_, rfl, rfl, by kernel_rfl, Try.underlying2⟩
  | 7, _ => exact ⟨_, rfl, rfl, by kernel_rfl, Try.underlying2⟩
  | 8, _ => exact ⟨_, rfl, rfl, by kernel_rfl, Try.underlying4⟩

set_option maxRecDepth 100000 in
theorem ods_of_read {H : Type} {enc : TypeId × Value → H} {W : World} {sp : Nat → Bool} {hd : Bool} {ao : Option Addr} {n cap : Nat} {d : DataW H} {p : List MemPlace}
    (h : DataW.Trod enc Try.prog W 0 sp hd 31 (.slice ao n cap) d p) : ∃ l : List Od, l.length = n ∧ n ≤ maxLen ∧ VRw 9 cvOd W (.slice ao n cap) l := by
  obtain ⟨fb, hb1, hb2⟩ := fsOrder
  exact vrows_of_read kdod mkOd (fun f h k hk => mkOd_at f h k hk) (by omega) Try.underlying31 hb1 (by kernel_rfl) hb2 h
end Go.Proofs.Ytkejjlgeiaeicaa
