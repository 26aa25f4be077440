/-
  Rows of bools: copies, sameness, as they came in.
-/
import Derived.Test.YtoehnlbkgpjhmabT2
import Derived.Test.YtoehnlbkgpjhmabTr2
namespace Go.Proofs.Ytoehnlbkgpjhmab
open Go.RowKit Go.WideShapes Va Lb El
set_option linter.all false

def cvB (x : Bool) (k : Nat) : Value := .bool x
theorem infoWB : (Try.prog.info? 4).map (fun i => (i.zero, i.size, i.bytes)) = some (some (.bool false), 1, 1) := by kernel_rfl
theorem bool_cell {w : World} {ao : Option Addr} {n cap : Nat} {l : List Bool} {i : Nat} {x : Bool} (h : VRw 1 cvB w (.slice ao n cap) l) (hk : l[i]? = some x) :
    ∃ g off, ao = some ⟨g, off, none⟩ ∧ g < w.heap.size ∧ w.cell? ⟨g, off + i, none⟩ = some (.bool x) := by
  obtain ⟨g, off, h1, h2, h3⟩ := h.at hk
  have := h3 0 (by omega)
  rw [Nat.mul_one, Nat.add_zero] at this
  exact ⟨g, off, h1, h2, this⟩

set_option maxRecDepth 20000 in
set_option maxHeartbeats 2000000 in
theorem eqbools_any (v u : Value) (l : List Bool) (w : World) (h : VRw 1 cvB w v l) (h' : VRw 1 cvB w u l) (hn : l.length ≤ 1048576) :
    Calls Try.prog 28 #[v, u] w fun e w' => e = .returned (.bool true) ∧ Below w.heap.size w w' := by
  have HH := hidden h
  have HH' := hidden h'
  obtain ⟨ao, cap, rfl⟩ := h.form
  obtain ⟨ao', cap', rfl⟩ := h'.form
  clear h h'
  go_enter Try.func28, Try.ntmps28
  go_wp2_with fail
  go_loopw [5] (fun iv wr => ∃ i : Nat, i ≤ l.length ∧ iv = .int .i64 i ∧ Below w.heap.size w wr) (fun iv _ => l.length - (intOf iv).toNat)
  case atStart => exact ⟨0, Nat.zero_le _, rfl, Below.refl _ _⟩
  case round =>
    obtain ⟨i, hil, rfl, hb⟩ := hrel
    by_cases hlt : i < l.length
    · have hlti : (i : Int) < (l.length : Int) := by omega
      have hi0 : (0 : Int) ≤ (i : Int) := by omega
      obtain ⟨x, hx⟩ := some_of l i hlt
      obtain ⟨g, off, rfl, hg, c0⟩ := bool_cell (HH.out.below hb) hx
      obtain ⟨g', off', rfl, hg', d0⟩ := bool_cell (HH'.out.below hb) hx
      clear hx
      go_wp2_with fail
      go_quiet (fail)
      go_wp2_with fail
      go_roundw
      case rel => exact ⟨i + 1, by omega, rfl, by repeat (first | exact Below.refl _ _ | assumption | refine st_drew ?_ | refine st_drewN ?_ _ | refine Below.setCell ?_ (by first | omega | (simp; done) | (simp; omega)) _ | refine Below.alloc ?_ (by first | omega | (simp; done) | (simp; omega)) _)⟩
      case measure => simp [intOf]; omega
    · have hlti : ¬ (i : Int) < (l.length : Int) := by omega
      go_wp2_with fail
      go_ret
      exact ⟨rfl, hb⟩

set_option maxRecDepth 20000 in
set_option maxHeartbeats 2000000 in
theorem tobools_any (ao : Option Addr) (n cap : Nat) (l : List Bool) (w : World) (h : VRw 1 cvB w (.slice ao n cap) l) (hn : l.length ≤ 1048576) :
    Calls Try.prog 25 #[.slice ao n cap] w fun e w' => e = .returned (.slice (some ⟨w.heap.size, 0, none⟩) l.length l.length) ∧ VOwn 1 cvB w' w.heap.size (.slice (some ⟨w.heap.size, 0, none⟩) l.length l.length) l ∧ Below w.heap.size w w' := by
  obtain rfl := h.len
  have HH := hidden h
  clear h
  obtain ⟨i0, hi, hz0, hz1, hz2⟩ := info_partsW infoWB
  go_enter Try.func25, Try.ntmps25
  go_wp2_with (refine wpList_make_full _ rfl (.tmp 6) (.tmp 6) 38 rfl w.heap.size 4 i0 (.bool false) 1 Try.underlying38 hi hz0 hz1 .i64 .i64 _ _ l.length rfl rfl rfl rfl (by rw [hz2]; omega) (by unfold maxLen; omega) (Nat.le_refl _) ?_; intro w1 ho1 hg1)
  have b1 : Below w.heap.size w w1 := (Below.refl _ w).grown hg1 (Nat.le_refl _) (by simp)
  have ho := VOut.made (cs := cvB) l ho1
  clear ho1 hg1
  go_wp2_with fail
  go_loopw [4] (fun iv wr => ∃ i : Nat, i ≤ l.length ∧ iv = .int .i64 i ∧ Below w.heap.size w wr ∧ VOut 1 cvB wr w.heap.size l.length l i) (fun iv _ => l.length - (intOf iv).toNat)
  case atStart => exact ⟨0, Nat.zero_le _, rfl, b1, ho⟩
  case round =>
    clear b1 ho
    obtain ⟨i, hil, rfl, hb, ho⟩ := hrel
    by_cases hlt : i < l.length
    · have hlti : (i : Int) < (l.length : Int) := by omega
      obtain ⟨x, hx⟩ := some_of l i hlt
      obtain ⟨g, off, rfl, hg, c0⟩ := bool_cell (HH.out.below hb) hx
      have hset := ho.set hlt hx [.bool x] rfl (fun k hk => by
        match k, hk with
        | 0, _ => rfl)
      obtain ⟨⟨u0, hu0⟩, hf0⟩ := ho.old hlt (k := 0) (by omega)
      simp only [Nat.mul_one, Nat.add_zero] at hu0 hf0
      rw [Nat.mul_one] at hset
      have HS := hidden hset
      have b3 : Below w.heap.size w (wr.setCell ⟨w.heap.size, i, none⟩ (.bool x)) := hb.setCell (Nat.le_refl _) _
      clear hx ho hset
      go_wp2_with fail
      go_roundw
      case rel => exact ⟨i + 1, by omega, rfl, b3, HS.out⟩
      case measure => simp [intOf]; omega
    · have hlti : ¬ (i : Int) < (l.length : Int) := by omega
      have hil2 : i = l.length := by omega
      subst hil2
      go_wp2_with fail
      go_ret
      exact ⟨rfl, ho.own (Nat.le_refl _) _ (Nat.le_refl _), hb⟩

theorem rwB_of_trod {H : Type} {enc : TypeId × Value → H} {P : Program} {W : World} {sp : Nat → Bool} {hd : Bool} {t e : TypeId} {fuel : Nat} {cs : List Value} {x : DataW H × List MemPlace}
    (ht : P.underlying t = some (.slice e)) (he : P.underlying e = some .bool) (hc : P.cellsOf e = 1) (h : DataW.trod enc P W 0 sp hd fuel t cs = some x) :
    ∃ (tv : Value) (l : List Bool), cs = [tv] ∧ l.length ≤ maxLen ∧ VRw 1 cvB W tv l := by
  rcases Deep.open_slice1 ht hc h with ⟨h1, _⟩ | ⟨a, ln, c, m, n, V, D, Pl, h1, _, hl, hcm, hm, _, hx⟩
  · exact ⟨_, [], h1, by simp, none, 0, rfl, Nat.le_refl _, Or.inl rfl⟩
  · have hle : ln ≤ m := by rw [hm]; split <;> omega
    have hV : ∀ i, i < ln → ∃ z : Bool, W.cell? (a.add i) = some (.bool z) := fun i hi => by
      obtain ⟨k1, k2⟩ := hx i (by omega)
      obtain ⟨z, hz, _⟩ := DataW.trod_bool he k2
      refine ⟨z, ?_⟩
      rw [k1]
      simpa using hz
    obtain ⟨q, hq⟩ := Deep.choose_lt hV
    refine ⟨_, (List.range ln).map q, h1, by simp; omega, some a, c, by simp, by simpa using hl, ?_⟩
    by_cases h0 : ln = 0
    · exact Or.inl (by simp [h0])
    · obtain ⟨b, off, spot⟩ := a
      have hs := hq 0 (by omega)
      have hspot : spot = none := by simpa [Addr.add] using World.cell?_spot hs
      subst hspot
      refine Or.inr ⟨b, off, rfl, World.block_lt_of_cell? W _ (by simpa [Addr.add_lit] using hs), fun i y hy k hk => ?_⟩
      obtain rfl : k = 0 := by omega
      have hi' : i < ln := by simpa using get_lt' hy
      have hy2 : y = q i := by
        rw [List.getElem?_map, List.getElem?_range hi'] at hy
        simpa using hy.symm
      subst hy2
      have := hq i hi'
      rw [Addr.add_lit] at this
      rw [Nat.mul_one, Nat.add_zero]
      exact this

theorem bools_of_read {H : Type} {enc : TypeId × Value → H} {W : World} {sp : Nat → Bool} {hd : Bool} {ao : Option Addr} {n cap : Nat} {d : DataW H} {p : List MemPlace}
    (h : DataW.Trod enc Try.prog W 0 sp hd 38 (.slice ao n cap) d p) : ∃ l : List Bool, l.length = n ∧ n ≤ maxLen ∧ VRw 1 cvB W (.slice ao n cap) l := by
  obtain ⟨fuel, hf⟩ := h
  obtain ⟨tv, l, h1, h2, h3⟩ := rwB_of_trod Try.underlying38 Try.underlying4 (by kernel_rfl) hf
  obtain rfl : Value.slice ao n cap = tv := by simpa [Value.cells] using h1
  obtain rfl := h3.len
  exact ⟨l, rfl, h2, h3⟩


theorem vtobools_any (v : Value) (l : List Bool) (w : World) (h : VRw 1 cvB w v l) (hn : l.length ≤ 1048576) :
    Calls Try.prog 25 #[v] w fun e w' => ∃ v', e = .returned v' ∧ VOwn 1 cvB w' w.heap.size v' l ∧ Below w.heap.size w w' := by
  obtain ⟨ao, cap, rfl⟩ := h.form
  exact (tobools_any ao l.length cap l w h hn).mono fun e w' ⟨he, ho, hb⟩ => ⟨_, he, ho, hb⟩
end Go.Proofs.Ytoehnlbkgpjhmab
