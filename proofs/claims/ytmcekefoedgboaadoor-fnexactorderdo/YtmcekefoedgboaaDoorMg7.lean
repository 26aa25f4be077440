/-
  Merged: Uq Ur.
-/
import Derived.Test.YtmcekefoedgboaaDoorMg2
import Derived.Deep.RegionWith
import Derived.WideShapes
import Derived.ProofKit
import Derived.OpenShut
import Derived.ShutString
import Derived.ChangeOld
import Derived.Below
namespace Go.Proofs.YtmcekefoedgboaaDoor
open Go.RowKit Va Uo
set_option linter.all false
theorem zbi : (Tryd.prog.info? 29).map (fun i => (i.zero, i.size, i.bytes)) = some (some (.agg #[.int .i64 0, .int .i64 0, .int .i64 0, .int .i64 0, .int .i64 0, .int .i64 0, .int .i64 0, .int .i64 0, .bool false]), 9, 72) := by kernel_rfl
set_option maxRecDepth 20000 in
set_option maxHeartbeats 4000000 in
theorem zf4 (x : Od) (w : World) : Calls Tryd.prog 40 #[aOd x] w fun r w' => r = .returned (aOd x) ∧ Below w.heap.size w w' := by
  unfold aOd
  go_enter Tryd.func40, Tryd.ntmps40
  go_wp2
  exact bodyPost_ret (v := .agg #[.int .i64 x.id, .int .i64 x.p, .int .i64 x.d, .int .i64 x.n, .int .i64 x.f, .int .i64 x.e, .int .i64 x.c, .int .i64 x.s, .bool x.two]) (by simp [results, Tryd.results40, go_sem]) rfl ⟨rfl, by repeat (first | exact Below.refl _ _ | assumption | refine jg ?_ | refine vz ?_ _ | refine Below.setCell ?_ (by first | omega | (simp; done) | (simp; omega)) _ | refine Below.alloc ?_ (by first | omega | (simp; done) | (simp; omega)) _)⟩
set_option maxRecDepth 20000 in
set_option maxHeartbeats 8000000 in
theorem zjo (v : Value) (l : List Od) (w : World) (h : VRw 9 jb w v l) (hn : l.length ≤ 1048576) :
    Calls Tryd.prog 38 #[v] w fun e w' => ∃ v', e = .returned v' ∧ jl 9 jb w' w.heap.size v' l ∧ Below w.heap.size w w' := by
  have HH := hidden h
  obtain ⟨ao, cap, rfl⟩ := h.form
  clear h
  obtain ⟨i0, hi, hz0, hz1, hz2⟩ := info_parts zbi
  go_enter Tryd.func38, Tryd.ntmps38
  go_wp2_with (refine wpList_make_full _ rfl (.tmp 6) (.tmp 6) 24 rfl w.heap.size 29 i0 (.agg #[.int .i64 0, .int .i64 0, .int .i64 0, .int .i64 0, .int .i64 0, .int .i64 0, .int .i64 0, .int .i64 0, .bool false]) 9 Tryd.underlying24 hi hz0 hz1 .i64 .i64 _ _ l.length rfl rfl rfl rfl (by rw [hz2]; omega) (by unfold maxLen; omega) (Nat.le_refl _) ?_; intro w1 ho1 hg1)
  have b1 : Below w.heap.size w w1 := (Below.refl _ w).grown hg1 (Nat.le_refl _) (by simp)
  have ho := qw.made (cs := jb) l ho1
  clear ho1 hg1
  go_wp2_with fail
  go_loopw [4] (fun iv wr => ∃ i : Nat, i ≤ l.length ∧ iv = .int .i64 i ∧ Below w.heap.size w wr ∧ qw 9 jb wr w.heap.size l.length l i) (fun iv _ => l.length - (intOf iv).toNat)
  case atStart => exact ⟨0, Nat.zero_le _, rfl, b1, ho⟩
  case round =>
    clear b1 ho
    obtain ⟨i, hil, rfl, hb, ho⟩ := hrel
    by_cases hlt : i < l.length
    · have hlti : (i : Int) < (l.length : Int) := by omega
      obtain ⟨x, hx⟩ := yh l i hlt
      obtain ⟨g, off, rfl, hg, hcs⟩ := (HH.out.below hb).at hx
      have c0 : wr.cell? ⟨g, off + i * 9, none⟩ = some (.int .i64 x.id) := hcs 0 (by omega)
      have c1 : wr.cell? ⟨g, off + i * 9 + 1, none⟩ = some (.int .i64 x.p) := hcs 1 (by omega)
      have c2 : wr.cell? ⟨g, off + i * 9 + 2, none⟩ = some (.int .i64 x.d) := hcs 2 (by omega)
      have c3 : wr.cell? ⟨g, off + i * 9 + 3, none⟩ = some (.int .i64 x.n) := hcs 3 (by omega)
      have c4 : wr.cell? ⟨g, off + i * 9 + 4, none⟩ = some (.int .i64 x.f) := hcs 4 (by omega)
      have c5 : wr.cell? ⟨g, off + i * 9 + 5, none⟩ = some (.int .i64 x.e) := hcs 5 (by omega)
      have c6 : wr.cell? ⟨g, off + i * 9 + 6, none⟩ = some (.int .i64 x.c) := hcs 6 (by omega)
      have c7 : wr.cell? ⟨g, off + i * 9 + 7, none⟩ = some (.int .i64 x.s) := hcs 7 (by omega)
      have c8 : wr.cell? ⟨g, off + i * 9 + 8, none⟩ = some (.bool x.two) := hcs 8 (by omega)
      have hT := zf4 x
      unfold aOd at hT
      have HSet := hidden (fun W (hW : Below wr.heap.size wr W) => (ho.below hW).set hlt hx [.int .i64 x.id, .int .i64 x.p, .int .i64 x.d, .int .i64 x.n, .int .i64 x.f, .int .i64 x.e, .int .i64 x.c, .int .i64 x.s, .bool x.two] rfl (fun k hk => by
        match k, hk with
        | 0, _ => rfl
        | 1, _ => rfl
        | 2, _ => rfl
        | 3, _ => rfl
        | 4, _ => rfl
        | 5, _ => rfl
        | 6, _ => rfl
        | 7, _ => rfl
        | 8, _ => rfl
))
      have HOld := hidden (fun W (hW : Below wr.heap.size wr W) (k : Nat) (hk : k < 9) => (ho.below hW).old hlt hk)
      clear hcs hx ho
      go_wp2_with (go_at_call 40; refine (hT _).mono ?_; rintro e w2 ⟨rfl, hb2⟩; have b2 := onto hb hb2; obtain ⟨⟨u0, hu0⟩, hf0⟩ := HOld.out w2 hb2 0 (by omega); obtain ⟨⟨u1, hu1⟩, hf1⟩ := HOld.out w2 hb2 1 (by omega); obtain ⟨⟨u2, hu2⟩, hf2⟩ := HOld.out w2 hb2 2 (by omega); obtain ⟨⟨u3, hu3⟩, hf3⟩ := HOld.out w2 hb2 3 (by omega); obtain ⟨⟨u4, hu4⟩, hf4⟩ := HOld.out w2 hb2 4 (by omega); obtain ⟨⟨u5, hu5⟩, hf5⟩ := HOld.out w2 hb2 5 (by omega); obtain ⟨⟨u6, hu6⟩, hf6⟩ := HOld.out w2 hb2 6 (by omega); obtain ⟨⟨u7, hu7⟩, hf7⟩ := HOld.out w2 hb2 7 (by omega); obtain ⟨⟨u8, hu8⟩, hf8⟩ := HOld.out w2 hb2 8 (by omega); simp only [Nat.add_zero] at hu0 hf0)
      have hset := HSet.out w2 hb2
      have b3 : Below w.heap.size w (put w2 w.heap.size (i * 9) [.int .i64 x.id, .int .i64 x.p, .int .i64 x.d, .int .i64 x.n, .int .i64 x.f, .int .i64 x.e, .int .i64 x.c, .int .i64 x.s, .bool x.two]) := zg5 _ _ _ _ b2 (Nat.le_refl _)
      clear HSet HOld hT hb2
      go_roundw
      case rel => exact ⟨i + 1, by omega, rfl, b3, hset⟩
      case measure => simp [intOf]; omega
    · have hlti : ¬ (i : Int) < (l.length : Int) := by omega
      have hil2 : i = l.length := by omega
      subst hil2
      go_wp2_with fail
      go_ret
      exact ⟨_, rfl, ho.own (Nat.le_refl _) _ (Nat.le_refl _), hb⟩
theorem zjz (ao : Option Addr) (n cap : Nat) (L : Int) (w : World) (hn : (n : Int) ≤ 9223372036854775807) (h0 : 0 ≤ L) (h1 : L ≤ 1048576) :
    Calls Tryd.prog 36 #[.slice ao n cap, .int .i64 L] w fun e w' => e = .returned (.int .i64 (if L < n then -1 else L - n)) ∧ w = w' := by
  by_cases h : L < (n : Int)
  · rw [if_pos h]
    have h2 : L - n < 0 := by omega
    go_enter Tryd.func36, Tryd.ntmps36
    go_wp2
    go_ret
    exact ⟨rfl, rfl⟩
  · rw [if_neg h]
    have h2 : ¬ L - n < 0 := by omega
    go_enter Tryd.func36, Tryd.ntmps36
    go_wp2
    go_ret
    exact ⟨rfl, rfl⟩
set_option maxRecDepth 20000 in
set_option maxHeartbeats 4000000 in
theorem eqod_any (x : Od) (w : World) : Calls Tryd.prog 67 #[aOd x, aOd x] w fun r w' => r = .returned (.bool true) ∧ Below w.heap.size w w' := by
  unfold aOd
  go_enter Tryd.func67, Tryd.ntmps67
  go_wp2
  go_ret
  exact ⟨rfl, by repeat (first | exact Below.refl _ _ | assumption | refine jg ?_ | refine vz ?_ _ | refine Below.setCell ?_ (by first | omega | (simp; done) | (simp; omega)) _ | refine Below.alloc ?_ (by first | omega | (simp; done) | (simp; omega)) _)⟩
set_option maxRecDepth 20000 in
set_option maxHeartbeats 4000000 in
theorem zjb (v u : Value) (l : List Od) (w : World) (h : VRw 9 jb w v l) (h' : VRw 9 jb w u l) (hn : l.length ≤ 1048576) :
    Calls Tryd.prog 41 #[v, u] w fun e w' => e = .returned (.bool true) ∧ Below w.heap.size w w' := by
  have HH := hidden h
  have HH' := hidden h'
  obtain ⟨ao, cap, rfl⟩ := h.form
  obtain ⟨ao', cap', rfl⟩ := h'.form
  clear h h'
  go_enter Tryd.func41, Tryd.ntmps41
  go_wp2_with fail
  go_loopw [5] (fun iv wr => ∃ i : Nat, i ≤ l.length ∧ iv = .int .i64 i ∧ Below w.heap.size w wr) (fun iv _ => l.length - (intOf iv).toNat)
  case atStart => exact ⟨0, Nat.zero_le _, rfl, Below.refl _ _⟩
  case round =>
    obtain ⟨i, hil, rfl, hb⟩ := hrel
    by_cases hlt : i < l.length
    · have hlti : (i : Int) < (l.length : Int) := by omega
      have hi0 : (0 : Int) ≤ (i : Int) := by omega
      obtain ⟨x, hx⟩ := yh l i hlt
      obtain ⟨g, off, rfl, hg, hcs⟩ := (HH.out.below hb).at hx
      obtain ⟨g', off', rfl, hg', hcs'⟩ := (HH'.out.below hb).at hx
      have c0 : wr.cell? ⟨g, off + i * 9, none⟩ = some (.int .i64 x.id) := hcs 0 (by omega)
      have d0 : wr.cell? ⟨g', off' + i * 9, none⟩ = some (.int .i64 x.id) := hcs' 0 (by omega)
      have c1 : wr.cell? ⟨g, off + i * 9 + 1, none⟩ = some (.int .i64 x.p) := hcs 1 (by omega)
      have d1 : wr.cell? ⟨g', off' + i * 9 + 1, none⟩ = some (.int .i64 x.p) := hcs' 1 (by omega)
      have c2 : wr.cell? ⟨g, off + i * 9 + 2, none⟩ = some (.int .i64 x.d) := hcs 2 (by omega)
      have d2 : wr.cell? ⟨g', off' + i * 9 + 2, none⟩ = some (.int .i64 x.d) := hcs' 2 (by omega)
      have c3 : wr.cell? ⟨g, off + i * 9 + 3, none⟩ = some (.int .i64 x.n) := hcs 3 (by omega)
      have d3 : wr.cell? ⟨g', off' + i * 9 + 3, none⟩ = some (.int .i64 x.n) := hcs' 3 (by omega)
      have c4 : wr.cell? ⟨g, off + i * 9 + 4, none⟩ = some (.int .i64 x.f) := hcs 4 (by omega)
      have d4 : wr.cell? ⟨g', off' + i * 9 + 4, none⟩ = some (.int .i64 x.f) := hcs' 4 (by omega)
      have c5 : wr.cell? ⟨g, off + i * 9 + 5, none⟩ = some (.int .i64 x.e) := hcs 5 (by omega)
      have d5 : wr.cell? ⟨g', off' + i * 9 + 5, none⟩ = some (.int .i64 x.e) := hcs' 5 (by omega)
      have c6 : wr.cell? ⟨g, off + i * 9 + 6, none⟩ = some (.int .i64 x.c) := hcs 6 (by omega)
      have d6 : wr.cell? ⟨g', off' + i * 9 + 6, none⟩ = some (.int .i64 x.c) := hcs' 6 (by omega)
      have c7 : wr.cell? ⟨g, off + i * 9 + 7, none⟩ = some (.int .i64 x.s) := hcs 7 (by omega)
      have d7 : wr.cell? ⟨g', off' + i * 9 + 7, none⟩ = some (.int .i64 x.s) := hcs' 7 (by omega)
      have c8 : wr.cell? ⟨g, off + i * 9 + 8, none⟩ = some (.bool x.two) := hcs 8 (by omega)
      have d8 : wr.cell? ⟨g', off' + i * 9 + 8, none⟩ = some (.bool x.two) := hcs' 8 (by omega)
      have HE := hidden (eqod_any x)
      unfold aOd at HE
      clear hcs hcs' hx
      go_wp2_with fail
      go_region_with (go_at_call 67; refine (HE.out _).mono ?_; rintro e w2 ⟨rfl, hb2⟩; have b2 := onto (show Below w.heap.size w _ from by first | exact hb | exact jg hb) hb2)
      all_goals go_wp2_with fail
      all_goals go_roundw
      all_goals first
        | (simp [intOf]; omega)
        | exact ⟨i + 1, by omega, rfl, by first | exact b2 | exact jg b2⟩
    · have hlti : ¬ (i : Int) < (l.length : Int) := by omega
      go_wp2_with fail
      go_ret
      exact ⟨rfl, hb⟩
def boolOfod (v : Value) : Bool := match v with | .bool b => b | _ => false
def kdod (k : Nat) : Kd := match k with | 0 => Kd.int | 1 => Kd.int | 2 => Kd.int | 3 => Kd.int | 4 => Kd.int | 5 => Kd.int | 6 => Kd.int | 7 => Kd.int | _ => Kd.bool
def zaf (f : Nat → Value) : Od := ⟨intOf (f 0), intOf (f 1), intOf (f 2), intOf (f 3), intOf (f 4), intOf (f 5), intOf (f 6), intOf (f 7), boolOfod (f 8)⟩
theorem mkOd_at (f : Nat → Value) (h : ∀ k, k < 9 → KdOk (kdod k) (f k)) (k : Nat) (hk : k < 9) : jb (zaf f) k = f k := by
  have hh := h k hk
  match k, hk with
  | 0, _ => obtain ⟨z, hz⟩ := hh; show .int .i64 (zaf f).id = f 0; simp only [zaf]; rw [hz]; rfl
  | 1, _ => obtain ⟨z, hz⟩ := hh; show .int .i64 (zaf f).p = f 1; simp only [zaf]; rw [hz]; rfl
  | 2, _ => obtain ⟨z, hz⟩ := hh; show .int .i64 (zaf f).d = f 2; simp only [zaf]; rw [hz]; rfl
  | 3, _ => obtain ⟨z, hz⟩ := hh; show .int .i64 (zaf f).n = f 3; simp only [zaf]; rw [hz]; rfl
  | 4, _ => obtain ⟨z, hz⟩ := hh; show .int .i64 (zaf f).f = f 4; simp only [zaf]; rw [hz]; rfl
  | 5, _ => obtain ⟨z, hz⟩ := hh; show .int .i64 (zaf f).e = f 5; simp only [zaf]; rw [hz]; rfl
  | 6, _ => obtain ⟨z, hz⟩ := hh; show .int .i64 (zaf f).c = f 6; simp only [zaf]; rw [hz]; rfl
  | 7, _ => obtain ⟨z, hz⟩ := hh; show .int .i64 (zaf f).s = f 7; simp only [zaf]; rw [hz]; rfl
  | 8, _ => obtain ⟨z, hz⟩ := hh; show .bool (zaf f).two = f 8; simp only [zaf]; rw [hz]; rfl
set_option maxRecDepth 100000 in
theorem fsOrder : ∃ fs, Tryd.prog.underlying 44 = some (.struct fs) ∧ ∀ k, k < 9 → ∃ f, fs[k]? = some f ∧ f.offset = k ∧ Tryd.prog.cellsOf f.type = 1 ∧ KdTy Tryd.prog (kdod k) f.type := by
  refine ⟨_, Tryd.underlying44, fun k hk => ?_⟩
  match k, hk with
  | 0, _ => exact ⟨_, rfl, rfl, by kernel_rfl, Tryd.underlying2⟩
  | 1, _ => exact ⟨_, rfl, rfl, by kernel_rfl, Tryd.underlying2⟩
  | 2, _ => exact ⟨_, rfl, rfl, by kernel_rfl, Tryd.underlying2⟩
  | 3, _ => exact ⟨_, rfl, rfl, by kernel_rfl, Tryd.underlying2⟩
  | 4, _ => exact ⟨_, rfl, rfl, by kernel_rfl, Tryd.underlying2⟩
  | 5, _ => exact ⟨_, rfl, rfl, by kernel_rfl, Tryd.underlying2⟩
  | 6, _ => exact ⟨_, rfl, rfl, by kernel_rfl, Tryd.underlying2⟩
  | 7, _ => exact ⟨_, rfl, rfl, by kernel_rfl, Tryd.underlying2⟩
  | 8, _ => exact ⟨_, rfl, rfl, by kernel_rfl, Tryd.underlying4⟩
set_option maxRecDepth 100000 in
theorem ziy {H : Type} {enc : TypeId × Value → H} {W : World} {sp : Nat → Bool} {hd : Bool} {ao : Option Addr} {n cap : Nat} {d : DataW H} {p : List MemPlace}
    (h : DataW.Trod enc Tryd.prog W 0 sp hd 40 (.slice ao n cap) d p) : ∃ l : List Od, l.length = n ∧ n ≤ maxLen ∧ VRw 9 jb W (.slice ao n cap) l := by
  obtain ⟨fb, hb1, hb2⟩ := fsOrder
  exact zf8 kdod zaf (fun f h k hk => mkOd_at f h k hk) (by omega) Tryd.underlying40 hb1 (by kernel_rfl) hb2 h
end Go.Proofs.YtmcekefoedgboaaDoor

namespace Go.Proofs.YtmcekefoedgboaaDoor
open Go.RowKit Va Uo
set_option linter.all false
theorem zb3 : (Tryd.prog.info? 39).map (fun i => (i.zero, i.size, i.bytes)) = some (some (.agg #[.int .i64 0, .int .i64 0, .int .i64 0, .int .i64 0, .int .i64 0]), 5, 40) := by kernel_rfl
set_option maxRecDepth 20000 in
set_option maxHeartbeats 4000000 in
theorem tods_any (x : Ds) (w : World) : Calls Tryd.prog 66 #[aDs x] w fun r w' => r = .returned (aDs x) ∧ Below w.heap.size w w' := by
  unfold aDs
  go_enter Tryd.func66, Tryd.ntmps66
  go_wp2
  exact bodyPost_ret (v := .agg #[.int .i64 x.o, .int .i64 x.t, .int .i64 x.m, .int .i64 x.b, .int .i64 x.a]) (by simp [results, Tryd.results66, go_sem]) rfl ⟨rfl, by repeat (first | exact Below.refl _ _ | assumption | refine jg ?_ | refine vz ?_ _ | refine Below.setCell ?_ (by first | omega | (simp; done) | (simp; omega)) _ | refine Below.alloc ?_ (by first | omega | (simp; done) | (simp; omega)) _)⟩
set_option maxRecDepth 20000 in
set_option maxHeartbeats 8000000 in
theorem zj7 (v : Value) (l : List Ds) (w : World) (h : VRw 5 jk w v l) (hn : l.length ≤ 1048576) :
    Calls Tryd.prog 39 #[v] w fun e w' => ∃ v', e = .returned v' ∧ jl 5 jk w' w.heap.size v' l ∧ Below w.heap.size w w' := by
  have HH := hidden h
  obtain ⟨ao, cap, rfl⟩ := h.form
  clear h
  obtain ⟨i0, hi, hz0, hz1, hz2⟩ := info_parts zb3
  go_enter Tryd.func39, Tryd.ntmps39
  go_wp2_with (refine wpList_make_full _ rfl (.tmp 6) (.tmp 6) 25 rfl w.heap.size 39 i0 (.agg #[.int .i64 0, .int .i64 0, .int .i64 0, .int .i64 0, .int .i64 0]) 5 Tryd.underlying25 hi hz0 hz1 .i64 .i64 _ _ l.length rfl rfl rfl rfl (by rw [hz2]; omega) (by unfold maxLen; omega) (Nat.le_refl _) ?_; intro w1 ho1 hg1)
  have b1 : Below w.heap.size w w1 := (Below.refl _ w).grown hg1 (Nat.le_refl _) (by simp)
  have ho := qw.made (cs := jk) l ho1
  clear ho1 hg1
  go_wp2_with fail
  go_loopw [4] (fun iv wr => ∃ i : Nat, i ≤ l.length ∧ iv = .int .i64 i ∧ Below w.heap.size w wr ∧ qw 5 jk wr w.heap.size l.length l i) (fun iv _ => l.length - (intOf iv).toNat)
  case atStart => exact ⟨0, Nat.zero_le _, rfl, b1, ho⟩
  case round =>
    clear b1 ho
    obtain ⟨i, hil, rfl, hb, ho⟩ := hrel
    by_cases hlt : i < l.length
    · have hlti : (i : Int) < (l.length : Int) := by omega
      obtain ⟨x, hx⟩ := yh l i hlt
      obtain ⟨g, off, rfl, hg, hcs⟩ := (HH.out.below hb).at hx
      have c0 : wr.cell? ⟨g, off + i * 5, none⟩ = some (.int .i64 x.o) := hcs 0 (by omega)
      have c1 : wr.cell? ⟨g, off + i * 5 + 1, none⟩ = some (.int .i64 x.t) := hcs 1 (by omega)
      have c2 : wr.cell? ⟨g, off + i * 5 + 2, none⟩ = some (.int .i64 x.m) := hcs 2 (by omega)
      have c3 : wr.cell? ⟨g, off + i * 5 + 3, none⟩ = some (.int .i64 x.b) := hcs 3 (by omega)
      have c4 : wr.cell? ⟨g, off + i * 5 + 4, none⟩ = some (.int .i64 x.a) := hcs 4 (by omega)
      have hT := tods_any x
      unfold aDs at hT
      have HSet := hidden (fun W (hW : Below wr.heap.size wr W) => (ho.below hW).set hlt hx [.int .i64 x.o, .int .i64 x.t, .int .i64 x.m, .int .i64 x.b, .int .i64 x.a] rfl (fun k hk => by
        match k, hk with
        | 0, _ => rfl
        | 1, _ => rfl
        | 2, _ => rfl
        | 3, _ => rfl
        | 4, _ => rfl
))
      have HOld := hidden (fun W (hW : Below wr.heap.size wr W) (k : Nat) (hk : k < 5) => (ho.below hW).old hlt hk)
      clear hcs hx ho
      go_wp2_with (go_at_call 66; refine (hT _).mono ?_; rintro e w2 ⟨rfl, hb2⟩; have b2 := onto hb hb2; obtain ⟨⟨u0, hu0⟩, hf0⟩ := HOld.out w2 hb2 0 (by omega); obtain ⟨⟨u1, hu1⟩, hf1⟩ := HOld.out w2 hb2 1 (by omega); obtain ⟨⟨u2, hu2⟩, hf2⟩ := HOld.out w2 hb2 2 (by omega); obtain ⟨⟨u3, hu3⟩, hf3⟩ := HOld.out w2 hb2 3 (by omega); obtain ⟨⟨u4, hu4⟩, hf4⟩ := HOld.out w2 hb2 4 (by omega); simp only [Nat.add_zero] at hu0 hf0)
      have hset := HSet.out w2 hb2
      have b3 : Below w.heap.size w (put w2 w.heap.size (i * 5) [.int .i64 x.o, .int .i64 x.t, .int .i64 x.m, .int .i64 x.b, .int .i64 x.a]) := zg5 _ _ _ _ b2 (Nat.le_refl _)
      clear HSet HOld hT hb2
      go_roundw
      case rel => exact ⟨i + 1, by omega, rfl, b3, hset⟩
      case measure => simp [intOf]; omega
    · have hlti : ¬ (i : Int) < (l.length : Int) := by omega
      have hil2 : i = l.length := by omega
      subst hil2
      go_wp2_with fail
      go_ret
      exact ⟨_, rfl, ho.own (Nat.le_refl _) _ (Nat.le_refl _), hb⟩
theorem zh9 (ao : Option Addr) (n cap : Nat) (L : Int) (w : World) (hn : (n : Int) ≤ 9223372036854775807) (h0 : 0 ≤ L) (h1 : L ≤ 1048576) :
    Calls Tryd.prog 37 #[.slice ao n cap, .int .i64 L] w fun e w' => e = .returned (.int .i64 (if L < n then -1 else L - n)) ∧ w = w' := by
  by_cases h : L < (n : Int)
  · rw [if_pos h]
    have h2 : L - n < 0 := by omega
    go_enter Tryd.func37, Tryd.ntmps37
    go_wp2
    go_ret
    exact ⟨rfl, rfl⟩
  · rw [if_neg h]
    have h2 : ¬ L - n < 0 := by omega
    go_enter Tryd.func37, Tryd.ntmps37
    go_wp2
    go_ret
    exact ⟨rfl, rfl⟩
set_option maxRecDepth 20000 in
set_option maxHeartbeats 4000000 in
theorem eqds_any (x : Ds) (w : World) : Calls Tryd.prog 68 #[aDs x, aDs x] w fun r w' => r = .returned (.bool true) ∧ Below w.heap.size w w' := by
  unfold aDs
  go_enter Tryd.func68, Tryd.ntmps68
  go_wp2
  go_ret
  exact ⟨rfl, by repeat (first | exact Below.refl _ _ | assumption | refine jg ?_ | refine vz ?_ _ | refine Below.setCell ?_ (by first | omega | (simp; done) | (simp; omega)) _ | refine Below.alloc ?_ (by first | omega | (simp; done) | (simp; omega)) _)⟩
set_option maxRecDepth 20000 in
set_option maxHeartbeats 4000000 in
theorem ziu (v u : Value) (l : List Ds) (w : World) (h : VRw 5 jk w v l) (h' : VRw 5 jk w u l) (hn : l.length ≤ 1048576) :
    Calls Tryd.prog 42 #[v, u] w fun e w' => e = .returned (.bool true) ∧ Below w.heap.size w w' := by
  have HH := hidden h
  have HH' := hidden h'
  obtain ⟨ao, cap, rfl⟩ := h.form
  obtain ⟨ao', cap', rfl⟩ := h'.form
  clear h h'
  go_enter Tryd.func42, Tryd.ntmps42
  go_wp2_with fail
  go_loopw [5] (fun iv wr => ∃ i : Nat, i ≤ l.length ∧ iv = .int .i64 i ∧ Below w.heap.size w wr) (fun iv _ => l.length - (intOf iv).toNat)
  case atStart => exact ⟨0, Nat.zero_le _, rfl, Below.refl _ _⟩
  case round =>
    obtain ⟨i, hil, rfl, hb⟩ := hrel
    by_cases hlt : i < l.length
    · have hlti : (i : Int) < (l.length : Int) := by omega
      have hi0 : (0 : Int) ≤ (i : Int) := by omega
      obtain ⟨x, hx⟩ := yh l i hlt
      obtain ⟨g, off, rfl, hg, hcs⟩ := (HH.out.below hb).at hx
      obtain ⟨g', off', rfl, hg', hcs'⟩ := (HH'.out.below hb).at hx
      have c0 : wr.cell? ⟨g, off + i * 5, none⟩ = some (.int .i64 x.o) := hcs 0 (by omega)
      have d0 : wr.cell? ⟨g', off' + i * 5, none⟩ = some (.int .i64 x.o) := hcs' 0 (by omega)
      have c1 : wr.cell? ⟨g, off + i * 5 + 1, none⟩ = some (.int .i64 x.t) := hcs 1 (by omega)
      have d1 : wr.cell? ⟨g', off' + i * 5 + 1, none⟩ = some (.int .i64 x.t) := hcs' 1 (by omega)
      have c2 : wr.cell? ⟨g, off + i * 5 + 2, none⟩ = some (.int .i64 x.m) := hcs 2 (by omega)
      have d2 : wr.cell? ⟨g', off' + i * 5 + 2, none⟩ = some (.int .i64 x.m) := hcs' 2 (by omega)
      have c3 : wr.cell? ⟨g, off + i * 5 + 3, none⟩ = some (.int .i64 x.b) := hcs 3 (by omega)
      have d3 : wr.cell? ⟨g', off' + i * 5 + 3, none⟩ = some (.int .i64 x.b) := hcs' 3 (by omega)
      have c4 : wr.cell? ⟨g, off + i * 5 + 4, none⟩ = some (.int .i64 x.a) := hcs 4 (by omega)
      have d4 : wr.cell? ⟨g', off' + i * 5 + 4, none⟩ = some (.int .i64 x.a) := hcs' 4 (by omega)
      have HE := hidden (eqds_any x)
      unfold aDs at HE
      clear hcs hcs' hx
      go_wp2_with fail
      go_region_with (go_at_call 68; refine (HE.out _).mono ?_; rintro e w2 ⟨rfl, hb2⟩; have b2 := onto (show Below w.heap.size w _ from by first | exact hb | exact jg hb) hb2)
      all_goals go_wp2_with fail
      all_goals go_roundw
      all_goals first
        | (simp [intOf]; omega)
        | exact ⟨i + 1, by omega, rfl, by first | exact b2 | exact jg b2⟩
    · have hlti : ¬ (i : Int) < (l.length : Int) := by omega
      go_wp2_with fail
      go_ret
      exact ⟨rfl, hb⟩
def kdds (k : Nat) : Kd := match k with | 0 => Kd.int | 1 => Kd.int | 2 => Kd.int | 3 => Kd.int | _ => Kd.int
def zbb (f : Nat → Value) : Ds := ⟨intOf (f 0), intOf (f 1), intOf (f 2), intOf (f 3), intOf (f 4)⟩
theorem mkDs_at (f : Nat → Value) (h : ∀ k, k < 5 → KdOk (kdds k) (f k)) (k : Nat) (hk : k < 5) : jk (zbb f) k = f k := by
  have hh := h k hk
  match k, hk with
  | 0, _ => obtain ⟨z, hz⟩ := hh; show .int .i64 (zbb f).o = f 0; simp only [zbb]; rw [hz]; rfl
  | 1, _ => obtain ⟨z, hz⟩ := hh; show .int .i64 (zbb f).t = f 1; simp only [zbb]; rw [hz]; rfl
  | 2, _ => obtain ⟨z, hz⟩ := hh; show .int .i64 (zbb f).m = f 2; simp only [zbb]; rw [hz]; rfl
  | 3, _ => obtain ⟨z, hz⟩ := hh; show .int .i64 (zbb f).b = f 3; simp only [zbb]; rw [hz]; rfl
  | 4, _ => obtain ⟨z, hz⟩ := hh; show .int .i64 (zbb f).a = f 4; simp only [zbb]; rw [hz]; rfl
set_option maxRecDepth 100000 in
theorem fsDose : ∃ fs, Tryd.prog.underlying 104 = some (.struct fs) ∧ ∀ k, k < 5 → ∃ f, fs[k]? = some f ∧ f.offset = k ∧ Tryd.prog.cellsOf f.type = 1 ∧ KdTy Tryd.prog (kdds k) f.type := by
  refine ⟨_, Tryd.underlying104, fun k hk => ?_⟩
  match k, hk with
  | 0, _ => exact ⟨_, rfl, rfl, by kernel_rfl, Tryd.underlying2⟩
  | 1, _ => exact ⟨_, rfl, rfl, by kernel_rfl, Tryd.underlying2⟩
  | 2, _ => exact ⟨_, rfl, rfl, by kernel_rfl, Tryd.underlying2⟩
  | 3, _ => exact ⟨_, rfl, rfl, by kernel_rfl, Tryd.underlying2⟩
  | 4, _ => exact ⟨_, rfl, rfl, by kernel_rfl, Tryd.underlying2⟩
set_option maxRecDepth 100000 in
theorem zj1 {H : Type} {enc : TypeId × Value → H} {W : World} {sp : Nat → Bool} {hd : Bool} {ao : Option Addr} {n cap : Nat} {d : DataW H} {p : List MemPlace}
    (h : DataW.Trod enc Tryd.prog W 0 sp hd 41 (.slice ao n cap) d p) : ∃ l : List Ds, l.length = n ∧ n ≤ maxLen ∧ VRw 5 jk W (.slice ao n cap) l := by
  obtain ⟨fb, hb1, hb2⟩ := fsDose
  exact zf8 kdds zbb (fun f h k hk => mkDs_at f h k hk) (by omega) Tryd.underlying41 hb1 (by kernel_rfl) hb2 h
def cmds (x : Int) (k : Nat) : Value := match k with | 0 => .int .i64 (x + 0) | 1 => .int .i64 (x + 1) | 2 => .int .i64 (x + 2) | 3 => .int .i64 (x + 3) | _ => .int .i64 (x + 4)
set_option maxRecDepth 20000 in
set_option maxHeartbeats 8000000 in
theorem zjn (G n cap : Nat) (l0 : List Ds) (k0 : Int) (w : World) (h : qw 5 jk w G n l0 n) (hn : n ≤ 1048576) (hk0 : 0 ≤ k0) (hk1 : k0 ≤ 1000000000) :
    Calls Tryd.prog 44 #[.slice (some ⟨G, 0, none⟩) n cap, .int .i64 k0] w fun e w' => e = .returned (.int .i64 (k0 + 5 * (n : Int))) ∧ qw 5 cmds w' G n (marks 5 k0 n) n ∧ Aside w w' (.slice (some ⟨G, 0, none⟩) n cap) := by
  have h0 : qw 5 cmds w G n (marks 5 k0 n) 0 := ⟨h.1, h.2.1, fun j x hj => absurd hj (by omega)⟩
  clear h
  go_enter Tryd.func44, Tryd.ntmps44
  go_wp2_with fail
  go_loopw [1, 5] (fun kv iv wr => ∃ i : Nat, i ≤ n ∧ kv = .int .i64 (k0 + 5 * (i : Int)) ∧ iv = .int .i64 i ∧ qw 5 cmds wr G n (marks 5 k0 n) i ∧ Aside w wr (.slice (some ⟨G, 0, none⟩) n cap)) (fun _ iv _ => n - (intOf iv).toNat)
  case atStart => exact ⟨0, Nat.zero_le _, by simp, rfl, h0, Aside.refl _ _⟩
  case round =>
    clear h0
    obtain ⟨i, hi, rfl, rfl, ho, ha⟩ := hrel
    by_cases hlt : i < n
    · have hlti : (i : Int) < (n : Int) := by omega
      have hset := ho.set hlt (zd3 5 k0 n i hlt) [.int .i64 (k0 + 5 * (i : Int)), .int .i64 (k0 + 5 * (i : Int) + 1), .int .i64 (k0 + 5 * (i : Int) + 1 + 1), .int .i64 (k0 + 5 * (i : Int) + 1 + 1 + 1), .int .i64 (k0 + 5 * (i : Int) + 1 + 1 + 1 + 1)] rfl (fun k hk => by
        match k, hk with
        | 0, _ => exact congrArg (fun z => some (Value.int .i64 z)) (show k0 + 5 * (i : Int) = k0 + 5 * (i : Int) + 0 by omega)
        | 1, _ => exact congrArg (fun z => some (Value.int .i64 z)) (show k0 + 5 * (i : Int) + 1 = k0 + 5 * (i : Int) + 1 by omega)
        | 2, _ => exact congrArg (fun z => some (Value.int .i64 z)) (show k0 + 5 * (i : Int) + 1 + 1 = k0 + 5 * (i : Int) + 2 by omega)
        | 3, _ => exact congrArg (fun z => some (Value.int .i64 z)) (show k0 + 5 * (i : Int) + 1 + 1 + 1 = k0 + 5 * (i : Int) + 3 by omega)
        | 4, _ => exact congrArg (fun z => some (Value.int .i64 z)) (show k0 + 5 * (i : Int) + 1 + 1 + 1 + 1 = k0 + 5 * (i : Int) + 4 by omega)
)
      obtain ⟨⟨u0, hu0⟩, hf0⟩ := ho.old hlt (show 0 < 5 by omega)
      obtain ⟨⟨u1, hu1⟩, hf1⟩ := ho.old hlt (show 1 < 5 by omega)
      obtain ⟨⟨u2, hu2⟩, hf2⟩ := ho.old hlt (show 2 < 5 by omega)
      obtain ⟨⟨u3, hu3⟩, hf3⟩ := ho.old hlt (show 3 < 5 by omega)
      obtain ⟨⟨u4, hu4⟩, hf4⟩ := ho.old hlt (show 4 < 5 by omega)
      simp only [Nat.add_zero] at hu0 hf0
      have ha2 := Aside.put [.int .i64 (k0 + 5 * (i : Int)), .int .i64 (k0 + 5 * (i : Int) + 1), .int .i64 (k0 + 5 * (i : Int) + 1 + 1), .int .i64 (k0 + 5 * (i : Int) + 1 + 1 + 1), .int .i64 (k0 + 5 * (i : Int) + 1 + 1 + 1 + 1)] (i * 5) ha
      clear ho ha
      go_wp2_with fail
      go_roundw
      case rel => exact ⟨i + 1, by omega, by congr 1; omega, rfl, hset, ha2⟩
      case measure => simp [intOf]; omega
    · have hlti : ¬ (i : Int) < (n : Int) := by omega
      have hin : i = n := by omega
      subst hin
      go_wp2_with fail
      go_ret
      exact ⟨rfl, ho, ha⟩
set_option maxRecDepth 20000 in
set_option maxHeartbeats 2000000 in
theorem zjk (ao : Option Addr) (cap : Nat) (k0 : Int) (w : World) :
    Calls Tryd.prog 44 #[.slice ao 0 cap, .int .i64 k0] w fun e w' => e = .returned (.int .i64 k0) ∧ w' = w := by
  go_enter Tryd.func44, Tryd.ntmps44
  go_wp2_with fail
  go_loopw [1, 5] (fun kv iv wr => wr = w ∧ kv = .int .i64 k0 ∧ iv = .int .i64 0) (fun _ _ _ => 0)
  case atStart => exact ⟨rfl, rfl, rfl⟩
  case round =>
    obtain ⟨rfl, rfl, rfl⟩ := hrel
    go_wp2_with fail
    go_ret
    exact ⟨rfl, rfl⟩
theorem zfn (v : Value) (l : List Ds) (base : Nat) (k0 : Int) (w : World) (h : jl 5 jk w base v l) (hn : l.length ≤ 1048576) (hk0 : 0 ≤ k0) (hk1 : k0 ≤ 1000000000) :
    Calls Tryd.prog 44 #[v, .int .i64 k0] w fun e w' => e = .returned (.int .i64 (k0 + 5 * (l.length : Int))) ∧ jl 5 cmds w' base v (marks 5 k0 l.length) ∧ Aside w w' v ∧ (l.length = 0 → w' = w) := by
  obtain ⟨ao, cap, rfl, hc, hh⟩ := h
  rcases Nat.eq_zero_or_pos l.length with h0 | hpos
  · rw [h0]
    refine (zjk ao cap k0 w).mono ?_
    rintro e w' ⟨rfl, rfl⟩
    exact ⟨by simp, ⟨ao, cap, rfl, Nat.zero_le _, Or.inl rfl⟩, Aside.refl _ _, fun _ => rfl⟩
  · obtain ⟨G, rfl, hG, ho⟩ := hh.resolve_left (by omega)
    refine (zjn G l.length cap l k0 w ho hn hk0 hk1).mono ?_
    rintro e w' ⟨rfl, ho', ha⟩
    exact ⟨rfl, ⟨_, cap, by rw [zbk], by rw [zbk]; exact hc, Or.inr ⟨G, rfl, hG, by rw [zbk]; exact ho'⟩⟩, ha, fun h0 => absurd h0 (by omega)⟩
set_option maxRecDepth 20000 in
set_option maxHeartbeats 8000000 in
theorem zih (v : Value) (k0 : Int) (n : Nat) (w : World) (h : VRw 5 cmds w v (marks 5 k0 n)) (hn : n ≤ 1048576) (hk0 : 0 ≤ k0) (hk1 : k0 ≤ 1000000000) :
    Calls Tryd.prog 46 #[v, .int .i64 k0] w fun e w' => e = .returned (.int .i64 (k0 + 5 * (n : Int))) ∧ w' = w := by
  have HH := hidden h
  obtain ⟨ao, cap, rfl⟩ := h.form
  clear h
  rw [zbk]
  rw [zbk] at HH
  go_enter Tryd.func46, Tryd.ntmps46
  go_wp2_with fail
  go_loopw [1, 5] (fun kv iv wr => wr = w ∧ ∃ i : Nat, i ≤ n ∧ kv = .int .i64 (k0 + 5 * (i : Int)) ∧ iv = .int .i64 i) (fun _ iv _ => n - (intOf iv).toNat)
  case atStart => exact ⟨rfl, 0, Nat.zero_le _, by simp, rfl⟩
  case round =>
    obtain ⟨rfl, i, hi, rfl, rfl⟩ := hrel
    by_cases hlt : i < n
    · have hlti : (i : Int) < (n : Int) := by omega
      obtain ⟨g, off, rfl, hg, hcs⟩ := HH.out.at (zd3 5 k0 n i hlt)
      have c0 : wr.cell? ⟨g, off + i * 5, none⟩ = some (.int .i64 (k0 + 5 * (i : Int))) := (hcs 0 (by omega)).trans (congrArg (fun z => some (Value.int .i64 z)) (show k0 + 5 * (i : Int) + 0 = k0 + 5 * (i : Int) by omega))
      have c1 : wr.cell? ⟨g, off + i * 5 + 1, none⟩ = some (.int .i64 (k0 + 5 * (i : Int) + 1)) := (hcs 1 (by omega)).trans (congrArg (fun z => some (Value.int .i64 z)) (show k0 + 5 * (i : Int) + 1 = k0 + 5 * (i : Int) + 1 by omega))
      have c2 : wr.cell? ⟨g, off + i * 5 + 2, none⟩ = some (.int .i64 (k0 + 5 * (i : Int) + 1 + 1)) := (hcs 2 (by omega)).trans (congrArg (fun z => some (Value.int .i64 z)) (show k0 + 5 * (i : Int) + 2 = k0 + 5 * (i : Int) + 1 + 1 by omega))
      have c3 : wr.cell? ⟨g, off + i * 5 + 3, none⟩ = some (.int .i64 (k0 + 5 * (i : Int) + 1 + 1 + 1)) := (hcs 3 (by omega)).trans (congrArg (fun z => some (Value.int .i64 z)) (show k0 + 5 * (i : Int) + 3 = k0 + 5 * (i : Int) + 1 + 1 + 1 by omega))
      have c4 : wr.cell? ⟨g, off + i * 5 + 4, none⟩ = some (.int .i64 (k0 + 5 * (i : Int) + 1 + 1 + 1 + 1)) := (hcs 4 (by omega)).trans (congrArg (fun z => some (Value.int .i64 z)) (show k0 + 5 * (i : Int) + 4 = k0 + 5 * (i : Int) + 1 + 1 + 1 + 1 by omega))
      clear hcs
      go_wp2_with fail
      go_roundw
      case rel => exact ⟨by first | rfl | trivial, i + 1, by omega, by congr 1; omega, rfl⟩
      case measure => simp [intOf]; omega
    · have hlti : ¬ (i : Int) < (n : Int) := by omega
      have hin : i = n := by omega
      subst hin
      go_wp2_with fail
      go_ret
      exact ⟨rfl, rfl⟩
end Go.Proofs.YtmcekefoedgboaaDoor
