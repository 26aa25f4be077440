/-
  The law's own helpers on rows of doses given: copies, sizes, sameness; doses that came in.
-/
import Derived.Test.YtcnhogghfedcdabGd
import Derived.Test.YtcnhogghfedcdabGp
import Derived.Test.YtcnhogghfedcdabGq
import Derived.Deep.RegionWith
namespace Go.Proofs.Ytcnhogghfedcdab
open Go.RowKit Va Ga
set_option linter.unusedVariables false


theorem infoGiven : (Try.prog.info? 82).map (fun i => (i.zero, i.size, i.bytes)) = some (some (.agg #[.int .i64 0, .int .i64 0, .int .i64 0]), 3, 24) := by kernel_rfl

set_option maxRecDepth 20000 in
set_option maxHeartbeats 1000000 in
theorem togv_any (x : Gv) (w : World) : Calls Try.prog 52 #[aGv x] w fun r w' => r = .returned (aGv x) ∧ Below w.heap.size w w' := by
  unfold aGv
  go_enter Try.func52, Try.ntmps52
  go_wp2
  exact bodyPost_ret (v := .agg #[.int .i64 x.d, .int .i64 x.t, .int .i64 x.n]) (by simp [results, Try.results52, go_sem]) rfl ⟨rfl, by repeat (first | exact Below.refl _ _ | assumption | refine st_drew ?_ | refine st_drewN ?_ _ | refine Below.setCell ?_ (by first | omega | (simp; done) | (simp; omega)) _ | refine Below.alloc ?_ (by first | omega | (simp; done) | (simp; omega)) _)⟩

set_option maxRecDepth 20000 in
set_option maxHeartbeats 4000000 in
theorem togvs_any (v : Value) (l : List Gv) (w : World) (h : Rw 3 csGv w v l) (hn : l.length ≤ 1048576) :
    Calls Try.prog 29 #[v] w fun e w' => ∃ v', e = .returned v' ∧ Own 3 csGv w' w.heap.size v' l ∧ Below w.heap.size w w' := by
  have HH := hidden h
  obtain ⟨ao, cap, rfl⟩ := h.form
  clear h
  obtain ⟨i0, hi, hz0, hz1, hz2⟩ := info_parts infoGiven
  go_enter Try.func29, Try.ntmps29
  go_wp2_with (refine wpList_make_full _ rfl (.tmp 6) (.tmp 6) 54 rfl w.heap.size 82 i0 (.agg #[.int .i64 0, .int .i64 0, .int .i64 0]) 3 Try.underlying54 hi hz0 hz1 .i64 .i64 _ _ l.length rfl rfl rfl rfl (by rw [hz2]; omega) (by unfold maxLen; omega) (Nat.le_refl _) ?_; intro w1 ho1 hg1)
  have b1 : Below w.heap.size w w1 := (Below.refl _ w).grown hg1 (Nat.le_refl _) (by simp)
  have ho := Out.made (cs := csGv) l ho1
  clear ho1 hg1
  go_wp2_with fail
  go_loopw [4] (fun iv wr => ∃ i : Nat, i ≤ l.length ∧ iv = .int .i64 i ∧ Below w.heap.size w wr ∧ Out 3 csGv wr w.heap.size l.length l i) (fun iv _ => l.length - (intOf iv).toNat)
  case atStart => exact ⟨0, Nat.zero_le _, rfl, b1, ho⟩
  case round =>
    clear b1 ho
    obtain ⟨i, hil, rfl, hb, ho⟩ := hrel
    by_cases hlt : i < l.length
    · have hlti : (i : Int) < (l.length : Int) := by omega
      obtain ⟨x, hx⟩ := some_of l i hlt
      obtain ⟨g, off, rfl, hg, hcs⟩ := (HH.out.below hb).at hx
      have c0 : wr.cell? ⟨g, off + i * 3, none⟩ = some (.int .i64 x.d) := hcs 0 (by omega)
      have c1 : wr.cell? ⟨g, off + i * 3 + 1, none⟩ = some (.int .i64 x.t) := hcs 1 (by omega)
      have c2 : wr.cell? ⟨g, off + i * 3 + 2, none⟩ = some (.int .i64 x.n) := hcs 2 (by omega)
      have hT := togv_any x
      unfold aGv at hT
      have HSet := hidden (fun W (hW : Below wr.heap.size wr W) => (ho.below hW).set hlt hx [.int .i64 x.d, .int .i64 x.t, .int .i64 x.n] rfl (fun k hk => by
        match k, hk with
        | 0, _ => rfl
        | 1, _ => rfl
        | 2, _ => rfl
))
      have HOld := hidden (fun W (hW : Below wr.heap.size wr W) (k : Nat) (hk : k < 3) => (ho.below hW).old hlt hk)
      clear hcs hx ho
      go_wp2_with (go_at_call 52; refine (hT _).mono ?_; rintro e w2 ⟨rfl, hb2⟩; have b2 := onto hb hb2; obtain ⟨⟨u0, hu0⟩, hf0⟩ := HOld.out w2 hb2 0 (by omega); obtain ⟨⟨u1, hu1⟩, hf1⟩ := HOld.out w2 hb2 1 (by omega); obtain ⟨⟨u2, hu2⟩, hf2⟩ := HOld.out w2 hb2 2 (by omega); simp only [Nat.add_zero] at hu0 hf0)
      have hset := HSet.out w2 hb2
      have b3 : Below w.heap.size w (put w2 w.heap.size (i * 3) [.int .i64 x.d, .int .i64 x.t, .int .i64 x.n]) := put_below _ _ _ _ b2 (Nat.le_refl _)
      clear HSet HOld hT hb2
      go_roundw
      case rel => exact ⟨i + 1, by omega, rfl, b3, hset⟩
      case measure => simp [intOf]; omega
    · have hlti : ¬ (i : Int) < (l.length : Int) := by omega
      have hil2 : i = l.length := by omega
      subst hil2
      go_wp2_with fail
      go_ret
      exact ⟨_, rfl, ho.own (Nat.le_refl _) _ (Nat.le_refl _), hb⟩

theorem szgvs_any (ao : Option Addr) (n cap : Nat) (L : Int) (w : World) (hn : (n : Int) ≤ 9223372036854775807) (h0 : 0 ≤ L) (h1 : L ≤ 1048576) :
    Calls Try.prog 27 #[.slice ao n cap, .int .i64 L] w fun e w' => e = .returned (.int .i64 (if L < n then -1 else L - n)) ∧ w = w' := by
  by_cases h : L < (n : Int)
  · rw [if_pos h]
    have h2 : L - n < 0 := by omega
    go_enter Try.func27, Try.ntmps27
    go_wp2
    go_ret
    exact ⟨rfl, rfl⟩
  · rw [if_neg h]
    have h2 : ¬ L - n < 0 := by omega
    go_enter Try.func27, Try.ntmps27
    go_wp2
    go_ret
    exact ⟨rfl, rfl⟩

set_option maxRecDepth 20000 in
set_option maxHeartbeats 1000000 in
theorem eqgv_any (x : Gv) (w : World) : Calls Try.prog 57 #[aGv x, aGv x] w fun r w' => r = .returned (.bool true) ∧ Below w.heap.size w w' := by
  unfold aGv
  go_enter Try.func57, Try.ntmps57
  go_wp2
  go_ret
  exact ⟨rfl, by repeat (first | exact Below.refl _ _ | assumption | refine st_drew ?_ | refine st_drewN ?_ _ | refine Below.setCell ?_ (by first | omega | (simp; done) | (simp; omega)) _ | refine Below.alloc ?_ (by first | omega | (simp; done) | (simp; omega)) _)⟩

set_option maxRecDepth 20000 in
set_option maxHeartbeats 2000000 in
theorem eqgvs_any (v u : Value) (l : List Gv) (w : World) (h : Rw 3 csGv w v l) (h' : Rw 3 csGv w u l) (hn : l.length ≤ 1048576) :
    Calls Try.prog 31 #[v, u] w fun e w' => e = .returned (.bool true) ∧ Below w.heap.size w w' := by
  have HH := hidden h
  have HH' := hidden h'
  obtain ⟨ao, cap, rfl⟩ := h.form
  obtain ⟨ao', cap', rfl⟩ := h'.form
  clear h h'
  go_enter Try.func31, Try.ntmps31
  go_wp2_with fail
  go_loopw [5] (fun iv wr => ∃ i : Nat, i ≤ l.length ∧ iv = .int .i64 i ∧ Below w.heap.size w wr) (fun iv _ => l.length - (intOf iv).toNat)
  case atStart => exact ⟨0, Nat.zero_le _, rfl, Below.refl _ _⟩
  case round =>
    obtain ⟨i, hil, rfl, hb⟩ := hrel
    by_cases hlt : i < l.length
    · have hlti : (i : Int) < (l.length : Int) := by omega
      have hi0 : (0 : Int) ≤ (i : Int) := by omega
      obtain ⟨x, hx⟩ := some_of l i hlt
      obtain ⟨g, off, rfl, hg, hcs⟩ := (HH.out.below hb).at hx
      obtain ⟨g', off', rfl, hg', hcs'⟩ := (HH'.out.below hb).at hx
      have c0 : wr.cell? ⟨g, off + i * 3, none⟩ = some (.int .i64 x.d) := hcs 0 (by omega)
      have d0 : wr.cell? ⟨g', off' + i * 3, none⟩ = some (.int .i64 x.d) := hcs' 0 (by omega)
      have c1 : wr.cell? ⟨g, off + i * 3 + 1, none⟩ = some (.int .i64 x.t) := hcs 1 (by omega)
      have d1 : wr.cell? ⟨g', off' + i * 3 + 1, none⟩ = some (.int .i64 x.t) := hcs' 1 (by omega)
      have c2 : wr.cell? ⟨g, off + i * 3 + 2, none⟩ = some (.int .i64 x.n) := hcs 2 (by omega)
      have d2 : wr.cell? ⟨g', off' + i * 3 + 2, none⟩ = some (.int .i64 x.n) := hcs' 2 (by omega)
      have HE := hidden (eqgv_any x)
      unfold aGv at HE
      clear hcs hcs' hx
      go_wp2_with fail
      go_region_with (go_at_call 57; refine (HE.out _).mono ?_; rintro e w2 ⟨rfl, hb2⟩; have b2 := onto (show Below w.heap.size w _ from by first | exact hb | exact st_drew hb) hb2)
      all_goals go_wp2_with fail
      all_goals go_roundw
      all_goals first
        | (simp [intOf]; omega)
        | exact ⟨i + 1, by omega, rfl, by first | exact b2 | exact st_drew b2⟩
    · have hlti : ¬ (i : Int) < (l.length : Int) := by omega
      go_wp2_with fail
      go_ret
      exact ⟨rfl, hb⟩

def mkGv (f : Nat → Int) : Gv := ⟨f 0, f 1, f 2⟩
theorem mkGv_at (f : Nat → Int) (k : Nat) (hk : k < 3) : csGv (mkGv f) k = f k := by
  match k, hk with
  | 0, _ => rfl
  | 1, _ => rfl
  | 2, _ => rfl

set_option maxRecDepth 100000 in
theorem fsGiven : ∃ fs, Try.prog.underlying 85 = some (.struct fs) ∧ ∀ k, k < 3 → ∃ f, fs[k]? = some f ∧ f.offset = k ∧ Try.prog.cellsOf f.type = 1 ∧ Try.prog.underlying f.type = some (.int .i64) := by
  refine ⟨_, Try.underlying85, fun k hk => ?_⟩
  match k, hk with
  | 0, _ => exact ⟨_, rfl, rfl, by kernel_rfl, Try.underlying2⟩
  | 1, _ => exact ⟨_, rfl, rfl, by kernel_rfl, Try.underlying2⟩
  | 2, _ => exact ⟨_, rfl, rfl, by kernel_rfl, Try.underlying2⟩

set_option maxRecDepth 100000 in
theorem gvs_of_read {H : Type} {enc : TypeId × Value → H} {W : World} {sp : Nat → Bool} {hd : Bool} {ao : Option Addr} {n cap : Nat} {d : DataW H} {p : List MemPlace}
    (h : DataW.Trod enc Try.prog W 0 sp hd 50 (.slice ao n cap) d p) : ∃ l : List Gv, l.length = n ∧ n ≤ maxLen ∧ Rw 3 csGv W (.slice ao n cap) l := by
  obtain ⟨fb, hb1, hb2⟩ := fsGiven
  exact rows_of_read mkGv mkGv_at (by omega) Try.underlying50 hb1 (by kernel_rfl) hb2 h
end Go.Proofs.Ytcnhogghfedcdab
