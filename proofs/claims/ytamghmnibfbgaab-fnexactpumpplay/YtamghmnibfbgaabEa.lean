/-
  The laws' own helpers on rows of acts: copies, sizes, sameness; acts that came in.
-/
import Derived.Test.YtamghmnibfbgaabCr
import Derived.Test.YtamghmnibfbgaabRw
import Derived.Deep.RegionWith
namespace Go.Proofs.Ytamghmnibfbgaab
open Go.RowKit Va Ba
set_option linter.unusedVariables false

def csA (x : Ac) (k : Nat) : Int := match k with | 0 => x.kind | _ => x.n
theorem some_of {α : Type} (l : List α) (i : Nat) (h : i < l.length) : ∃ x, l[i]? = some x := ⟨_, List.getElem?_eq_getElem h⟩
theorem take_snocW {α : Type} {l : List α} {i : Nat} {x : α} (h : l[i]? = some x) : l.take (i + 1) = l.take i ++ [x] := by
  rw [List.take_add_one, h]; rfl

theorem infoAct : (Try.prog.info? 46).map (fun i => (i.zero, i.size, i.bytes)) = some (some (.agg #[.int .i64 0, .int .i64 0]), 2, 16) := by kernel_rfl

set_option maxRecDepth 20000 in
set_option maxHeartbeats 4000000 in
theorem toacts_any (v : Value) (l : List Ac) (w : World) (h : Rw 2 csA w v l) (hn : l.length ≤ 1048576) :
    Calls Try.prog 7 #[v] w fun e w' => ∃ v', e = .returned v' ∧ Own 2 csA w' w.heap.size v' l ∧ Below w.heap.size w w' := by
  have HH := hidden h
  obtain ⟨ao, cap, rfl⟩ := h.form
  clear h
  obtain ⟨i0, hi, hz0, hz1, hz2⟩ := info_parts infoAct
  go_enter Try.func7, Try.ntmps7
  go_wp2_with (refine wpList_make_full _ rfl (.tmp 6) (.tmp 6) 33 rfl w.heap.size 46 i0 (.agg #[.int .i64 0, .int .i64 0]) 2 Try.underlying33 hi hz0 hz1 .i64 .i64 _ _ l.length rfl rfl rfl rfl (by rw [hz2]; omega) (by unfold maxLen; omega) (Nat.le_refl _) ?_; intro w1 ho1 hg1)
  have b1 : Below w.heap.size w w1 := (Below.refl _ w).grown hg1 (Nat.le_refl _) (by simp)
  have ho := Out.made (cs := csA) l ho1
  clear ho1 hg1
  go_wp2_with fail
  go_loopw [4] (fun iv wr => ∃ i : Nat, i ≤ l.length ∧ iv = .int .i64 i ∧ Below w.heap.size w wr ∧ Out 2 csA wr w.heap.size l.length l i) (fun iv _ => l.length - (intOf iv).toNat)
  case atStart => exact ⟨0, Nat.zero_le _, rfl, b1, ho⟩
  case round =>
    clear b1 ho
    obtain ⟨i, hil, rfl, hb, ho⟩ := hrel
    by_cases hlt : i < l.length
    · have hlti : (i : Int) < (l.length : Int) := by omega
      obtain ⟨x, hx⟩ := some_of l i hlt
      obtain ⟨g, off, rfl, hg, hcs⟩ := (HH.out.below hb).at hx
      have c0 : wr.cell? ⟨g, off + i * 2, none⟩ = some (.int .i64 x.kind) := hcs 0 (by omega)
      have c1 : wr.cell? ⟨g, off + i * 2 + 1, none⟩ = some (.int .i64 x.n) := hcs 1 (by omega)
      have hT := toact_any x
      unfold aAc at hT
      have HSet := hidden (fun W (hW : Below wr.heap.size wr W) => (ho.below hW).set hlt hx [.int .i64 x.kind, .int .i64 x.n] rfl (fun k hk => by
        match k, hk with
        | 0, _ => rfl
        | 1, _ => rfl
))
      have HOld := hidden (fun W (hW : Below wr.heap.size wr W) (k : Nat) (hk : k < 2) => (ho.below hW).old hlt hk)
      clear hcs hx ho
      go_wp2_with (go_at_call 17; refine (hT _).mono ?_; rintro e w2 ⟨rfl, hb2⟩; have b2 := onto hb hb2; obtain ⟨⟨u0, hu0⟩, hf0⟩ := HOld.out w2 hb2 0 (by omega); obtain ⟨⟨u1, hu1⟩, hf1⟩ := HOld.out w2 hb2 1 (by omega); simp only [Nat.add_zero] at hu0 hf0)
      have hset := HSet.out w2 hb2
      have b3 : Below w.heap.size w (put w2 w.heap.size (i * 2) [.int .i64 x.kind, .int .i64 x.n]) := put_below _ _ _ _ b2 (Nat.le_refl _)
      clear HSet HOld hT hb2
      go_roundw
      case rel => exact ⟨i + 1, by omega, rfl, b3, hset⟩
      case measure => simp [intOf]; omega
    · have hlti : ¬ (i : Int) < (l.length : Int) := by omega
      have hil2 : i = l.length := by omega
      subst hil2
      go_wp2_with fail
      go_ret
      exact ⟨_, rfl, ho.own (Nat.le_refl _) _ (Nat.le_refl _), hb⟩

theorem szacts_any (ao : Option Addr) (n cap : Nat) (L : Int) (w : World) (hn : (n : Int) ≤ 9223372036854775807) (h0 : 0 ≤ L) (h1 : L ≤ 1048576) :
    Calls Try.prog 4 #[.slice ao n cap, .int .i64 L] w fun e w' => e = .returned (.int .i64 (if L < n then -1 else L - n)) ∧ w = w' := by
  by_cases h : L < (n : Int)
  · rw [if_pos h]
    have h2 : L - n < 0 := by omega
    go_enter Try.func4, Try.ntmps4
    go_wp2
    go_ret
    exact ⟨rfl, rfl⟩
  · rw [if_neg h]
    have h2 : ¬ L - n < 0 := by omega
    go_enter Try.func4, Try.ntmps4
    go_wp2
    go_ret
    exact ⟨rfl, rfl⟩

set_option maxRecDepth 20000 in
set_option maxHeartbeats 1000000 in
theorem eqact_any (x : Ac) (w : World) : Calls Try.prog 21 #[aAc x, aAc x] w fun r w' => r = .returned (.bool true) ∧ Below w.heap.size w w' := by
  unfold aAc
  go_enter Try.func21, Try.ntmps21
  go_wp2
  go_ret
  exact ⟨rfl, by repeat (first | exact Below.refl _ _ | assumption | refine st_drew ?_ | refine st_drewN ?_ _ | refine Below.setCell ?_ (by first | omega | (simp; done) | (simp; omega)) _ | refine Below.alloc ?_ (by first | omega | (simp; done) | (simp; omega)) _)⟩

set_option maxRecDepth 20000 in
set_option maxHeartbeats 2000000 in
theorem eqacts_any (v u : Value) (l : List Ac) (w : World) (h : Rw 2 csA w v l) (h' : Rw 2 csA w u l) (hn : l.length ≤ 1048576) :
    Calls Try.prog 11 #[v, u] w fun e w' => e = .returned (.bool true) ∧ Below w.heap.size w w' := by
  have HH := hidden h
  have HH' := hidden h'
  obtain ⟨ao, cap, rfl⟩ := h.form
  obtain ⟨ao', cap', rfl⟩ := h'.form
  clear h h'
  go_enter Try.func11, Try.ntmps11
  go_wp2_with fail
  go_loopw [5] (fun iv wr => ∃ i : Nat, i ≤ l.length ∧ iv = .int .i64 i ∧ Below w.heap.size w wr) (fun iv _ => l.length - (intOf iv).toNat)
  case atStart => exact ⟨0, Nat.zero_le _, rfl, Below.refl _ _⟩
  case round =>
    obtain ⟨i, hil, rfl, hb⟩ := hrel
    by_cases hlt : i < l.length
    · have hlti : (i : Int) < (l.length : Int) := by omega
      have hi0 : (0 : Int) ≤ (i : Int) := by omega
      obtain ⟨x, hx⟩ := some_of l i hlt
      obtain ⟨g, off, rfl, hg, hcs⟩ := (HH.out.below hb).at hx
      obtain ⟨g', off', rfl, hg', hcs'⟩ := (HH'.out.below hb).at hx
      have c0 : wr.cell? ⟨g, off + i * 2, none⟩ = some (.int .i64 x.kind) := hcs 0 (by omega)
      have d0 : wr.cell? ⟨g', off' + i * 2, none⟩ = some (.int .i64 x.kind) := hcs' 0 (by omega)
      have c1 : wr.cell? ⟨g, off + i * 2 + 1, none⟩ = some (.int .i64 x.n) := hcs 1 (by omega)
      have d1 : wr.cell? ⟨g', off' + i * 2 + 1, none⟩ = some (.int .i64 x.n) := hcs' 1 (by omega)
      have HE := hidden (eqact_any x)
      unfold aAc at HE
      clear hcs hcs' hx
      go_wp2_with fail
      go_region_with (go_at_call 21; refine (HE.out _).mono ?_; rintro e w2 ⟨rfl, hb2⟩; have b2 := onto (show Below w.heap.size w _ from by first | exact hb | exact st_drew hb) hb2)
      all_goals go_wp2_with fail
      all_goals go_roundw
      all_goals first
        | (simp [intOf]; omega)
        | exact ⟨i + 1, by omega, rfl, by first | exact b2 | exact st_drew b2⟩
    · have hlti : ¬ (i : Int) < (l.length : Int) := by omega
      go_wp2_with fail
      go_ret
      exact ⟨rfl, hb⟩

def mkA (f : Nat → Int) : Ac := ⟨f 0, f 1⟩
theorem mkA_at (f : Nat → Int) (k : Nat) (hk : k < 2) : csA (mkA f) k = f k := by
  match k, hk with
  | 0, _ => rfl
  | 1, _ => rfl

set_option maxRecDepth 100000 in
theorem fsAct : ∃ fs, Try.prog.underlying 48 = some (.struct fs) ∧ ∀ k, k < 2 → ∃ f, fs[k]? = some f ∧ f.offset = k ∧ Try.prog.cellsOf f.type = 1 ∧ Try.prog.underlying f.type = some (.int .i64) := by
  refine ⟨_, Try.underlying48, fun k hk => ?_⟩
  match k, hk with
  | 0, _ => exact ⟨_, rfl, rfl, by kernel_rfl, Try.underlying2⟩
  | 1, _ => exact ⟨_, rfl, rfl, by kernel_rfl, Try.underlying2⟩

set_option maxRecDepth 100000 in
theorem acts_of_read {H : Type} {enc : TypeId × Value → H} {W : World} {sp : Nat → Bool} {hd : Bool} {ao : Option Addr} {n cap : Nat} {d : DataW H} {p : List MemPlace}
    (h : DataW.Trod enc Try.prog W 0 sp hd 24 (.slice ao n cap) d p) : ∃ l : List Ac, l.length = n ∧ n ≤ maxLen ∧ Rw 2 csA W (.slice ao n cap) l := by
  obtain ⟨fb, hb1, hb2⟩ := fsAct
  exact rows_of_read mkA mkA_at (by omega) Try.underlying24 hb1 (by kernel_rfl) hb2 h
end Go.Proofs.Ytamghmnibfbgaab
