/-
  Merged: Q7.
-/
import Derived.Test.YtgcpiinmcbdkmaaMg3
namespace Go.Proofs.Ytgcpiinmcbdkmaa
open Go.RowKit Va Bl
set_option linter.unusedVariables false
def WOut (w : World) (base G n : Nat) (l : List Ut) (i : Nat) : Prop :=
  base ≤ G ∧ G < w.heap.size ∧ (∀ j, j < n * 6 → (∃ u, w.cell? ⟨G, j, none⟩ = some u) ∧ w.frozen? ⟨G, j, none⟩ = false) ∧
    ∀ j x, j < i → l[j]? = some x → ∃ T, base ≤ T ∧ T ≠ G ∧ UCell w G (j * 6) x (.slice (some ⟨T, 0, none⟩) x.ant.length x.ant.length) ∧ Out 1 csI w T x.ant.length x.ant x.ant.length
theorem WOut.below {w w' : World} {base G n i : Nat} {l : List Ut} (h : WOut w base G n l i) (hb : Below w.heap.size w w') : WOut w' base G n l i := by
  obtain ⟨h0, h1, h2, h3⟩ := h
  refine ⟨h0, Nat.lt_of_lt_of_le h1 hb.size, fun j hj => ⟨?_, ((bcell hb).2 _ _ h1).trans (h2 j hj).2⟩, fun j x hj hx => ?_⟩
  · obtain ⟨u, hu⟩ := (h2 j hj).1
    exact ⟨u, ((bcell hb).1 _ _ h1).trans hu⟩
  · obtain ⟨T, k1, k2, k3, k4⟩ := h3 j x hj hx
    exact ⟨T, k1, k2, k3.below hb h1, k4.below hb⟩
theorem WOut.drw {w : World} {base G : Nat} {l : List Ut} (h : WOut w base G l.length l l.length) (c : Nat) (hc : l.length ≤ c) : URw w (.slice (some ⟨G, 0, none⟩) l.length c) l :=
  ⟨_, c, rfl, hc, Or.inr ⟨G, 0, rfl, h.2.1, fun i x hx => by
    obtain ⟨T, -, -, k3, k4⟩ := h.2.2.2 i x (get_lt' hx) hx
    rw [Nat.zero_add]
    exact ⟨_, k3, out_irw k4 _ (Nat.le_refl _)⟩⟩⟩
theorem WOut.set {w : World} {base G n i : Nat} {l : List Ut} {x : Ut} (h : WOut w base G n l i) (hi : i < n) (hx : l[i]? = some x) {T : Nat} (hT : base ≤ T) (hTG : T ≠ G) (ho : Out 1 csI w T x.ant.length x.ant x.ant.length) :
    WOut (put w G (i * 6) [.int .i64 x.id, .int .i64 x.grp, .slice (some ⟨T, 0, none⟩) x.ant.length x.ant.length, .int .i64 x.til, .int .i64 x.st, .int .i64 x.fr]) base G n l (i + 1) := by
  obtain ⟨h0, h1, h2, h3⟩ := h
  generalize hvs : [Value.int .i64 x.id, .int .i64 x.grp, .slice (some ⟨T, 0, none⟩) x.ant.length x.ant.length, .int .i64 x.til, .int .i64 x.st, .int .i64 x.fr] = vs
  have hlen : vs.length = 6 := by rw [← hvs]; rfl
  have hnew : ∀ k v, vs[k]? = some v → (put w G (i * 6) vs).cell? ⟨G, i * 6 + k, none⟩ = some v := put_same vs w G (i * 6) (fun k hk => (h2 (i * 6 + k) (by omega)).1)
  have hoth : ∀ T', T' ≠ G → ∀ j, (put w G (i * 6) vs).cell? ⟨T', j, none⟩ = w.cell? ⟨T', j, none⟩ := fun T' hT' j => by
    rw [← hvs]
    show (World.setCell (World.setCell (World.setCell (World.setCell (World.setCell (World.setCell w _ _) _ _) _ _) _ _) _ _) _ _).cell? _ = _
    rw [World.cell?_setCell_far _ _ _ _ (fun e => hT' e.symm), World.cell?_setCell_far _ _ _ _ (fun e => hT' e.symm), World.cell?_setCell_far _ _ _ _ (fun e => hT' e.symm), World.cell?_setCell_far _ _ _ _ (fun e => hT' e.symm), World.cell?_setCell_far _ _ _ _ (fun e => hT' e.symm), World.cell?_setCell_far _ _ _ _ (fun e => hT' e.symm)]
  have hout : ∀ (T' : Nat) (t : List Int), T' ≠ G → Out 1 csI w T' t.length t t.length → Out 1 csI (put w G (i * 6) vs) T' t.length t t.length := fun T' t hT' ho' => by
    obtain ⟨k1, k2, k3⟩ := ho'
    refine ⟨by rw [put_size]; exact k1, fun j hj => ⟨?_, ?_⟩, fun j y hj hy k hk => by rw [hoth T' hT']; exact k3 j y hj hy k hk⟩
    · rw [hoth T' hT']; exact (k2 j hj).1
    · rw [← hvs]
      show (World.setCell (World.setCell (World.setCell (World.setCell (World.setCell (World.setCell w _ _) _ _) _ _) _ _) _ _) _ _).frozen? _ = _
      simp only [World.frozen?_setCell]
      exact (k2 j hj).2
  refine ⟨h0, by rw [put_size]; exact h1, fun j hj => ⟨?_, by rw [put_frozen]; exact (h2 j hj).2⟩, fun j y hj hy => ?_⟩
  · by_cases a : i * 6 ≤ j ∧ j < i * 6 + 6
    · obtain ⟨v, hv⟩ : ∃ v, vs[j - i * 6]? = some v := ⟨_, List.getElem?_eq_getElem (by omega)⟩
      have := hnew (j - i * 6) v hv
      rw [show i * 6 + (j - i * 6) = j by omega] at this
      exact ⟨_, this⟩
    · rw [put_other _ _ _ _ _ (by omega)]; exact (h2 j hj).1
  · by_cases a : j = i
    · subst a
      rw [hx] at hy
      cases hy
      refine ⟨T, hT, hTG, ⟨hnew 0 _ (by rw [← hvs]; rfl), hnew 1 _ (by rw [← hvs]; rfl), hnew 2 _ (by rw [← hvs]; rfl), hnew 3 _ (by rw [← hvs]; rfl), hnew 4 _ (by rw [← hvs]; rfl), hnew 5 _ (by rw [← hvs]; rfl)⟩, hout T _ hTG ho⟩
    · obtain ⟨T', k1, k2, ⟨e0, e1, e2, e3, e4, e5⟩, k4⟩ := h3 j y (by omega) hy
      refine ⟨T', k1, k2, ⟨?_, ?_, ?_, ?_, ?_, ?_⟩, hout T' _ k2 k4⟩
      · rw [put_other _ _ _ _ _ (by omega)]; exact e0
      · rw [put_other _ _ _ _ _ (by omega)]; exact e1
      · rw [put_other _ _ _ _ _ (by omega)]; exact e2
      · rw [put_other _ _ _ _ _ (by omega)]; exact e3
      · rw [put_other _ _ _ _ _ (by omega)]; exact e4
      · rw [put_other _ _ _ _ _ (by omega)]; exact e5
theorem infoUnit : (Try.prog.info? 81).map (fun i => (i.zero, i.size, i.bytes)) = some (some (.agg #[.int .i64 0, .int .i64 0, .slice none 0 0, .int .i64 0, .int .i64 0, .int .i64 0]), 6, 64) := by kernel_rfl
set_option maxRecDepth 20000 in
set_option maxHeartbeats 4000000 in
theorem tounits_any (ao : Option Addr) (n cap : Nat) (l : List Ut) (w : World) (h : URw w (.slice ao n cap) l) (hn : l.length ≤ 1048576) (ht : ∀ x ∈ l, x.ant.length ≤ 1048576) :
    Calls Try.prog 21 #[.slice ao n cap] w fun e w' => e = .returned (.slice (some ⟨w.heap.size, 0, none⟩) l.length l.length) ∧ WOut w' w.heap.size w.heap.size l.length l l.length ∧ Below w.heap.size w w' := by
  obtain rfl := h.len
  have HH := hidden h
  have HT := hidden ht
  clear h ht
  obtain ⟨i0, hi, hz0, hz1, hz2⟩ := info_partsO infoUnit
  go_enter Try.func21, Try.ntmps21
  go_wp2_with (refine wpList_make_full _ rfl (.tmp 6) (.tmp 6) 24 rfl w.heap.size 81 i0 (.agg #[.int .i64 0, .int .i64 0, .slice none 0 0, .int .i64 0, .int .i64 0, .int .i64 0]) 6 Try.underlying24 hi hz0 hz1 .i64 .i64 _ _ l.length rfl rfl rfl rfl (by rw [hz2]; omega) (by unfold maxLen; omega) (Nat.le_refl _) ?_; intro w1 ho1 hg1)
  have b1 : Below w.heap.size w w1 := (Below.refl _ w).grown hg1 (Nat.le_refl _) (by simp)
  have ho : WOut w1 w.heap.size w.heap.size l.length l 0 := by
    have hq := Out.made (cs := fun (_ : Ut) _ => 0) l ho1
    exact ⟨Nat.le_refl _, hq.1, hq.2.1, fun j x hj => absurd hj (Nat.not_lt_zero _)⟩
  clear ho1 hg1
  go_wp2_with fail
  go_loopw [4] (fun iv wr => ∃ i : Nat, i ≤ l.length ∧ iv = .int .i64 i ∧ Below w.heap.size w wr ∧ WOut wr w.heap.size w.heap.size l.length l i) (fun iv _ => l.length - (intOf iv).toNat)
  case atStart => exact ⟨0, Nat.zero_le _, rfl, b1, ho⟩
  case round =>
    clear b1 ho
    obtain ⟨i, hil, rfl, hb, ho⟩ := hrel
    by_cases hlt : i < l.length
    · have hlti : (i : Int) < (l.length : Int) := by omega
      obtain ⟨x, hx⟩ := some_of l i hlt
      obtain ⟨g, off, ta, tc, rfl, hg, hrow, c0, c1, c2, c3, c4, c5⟩ := (HH.out.below hb).at hx
      have hK := tounit_any x ta x.ant.length tc wr hrow (HT.out x (List.mem_of_getElem? hx))
      unfold aU at hK
      have HO := hidden ho
      have HX := hidden hx
      have hzw : w.heap.size < wr.heap.size := ho.2.1
      clear hx hrow ho
      go_wp2_with (go_at_call 64; refine hK.mono ?_; rintro e w2 ⟨G, hG, hGl, rfl, hoT, hb2⟩; have b2 := onto hb hb2; have ho2 := HO.out.below hb2; obtain ⟨⟨u0, hu0⟩, hf0⟩ := ho2.2.2.1 (i * 6) (by omega); obtain ⟨⟨u1, hu1⟩, hf1⟩ := ho2.2.2.1 (i * 6 + 1) (by omega); obtain ⟨⟨u2, hu2⟩, hf2⟩ := ho2.2.2.1 (i * 6 + 2) (by omega); obtain ⟨⟨u3, hu3⟩, hf3⟩ := ho2.2.2.1 (i * 6 + 3) (by omega); obtain ⟨⟨u4, hu4⟩, hf4⟩ := ho2.2.2.1 (i * 6 + 4) (by omega); obtain ⟨⟨u5, hu5⟩, hf5⟩ := ho2.2.2.1 (i * 6 + 5) (by omega); have HS := hidden (ho2.set hlt HX.out (show w.heap.size ≤ G by omega) (by omega) hoT); clear ho2 hoT hb2)
      have b3 : Below w.heap.size w (put w2 w.heap.size (i * 6) [.int .i64 x.id, .int .i64 x.grp, .slice (some ⟨G, 0, none⟩) x.ant.length x.ant.length, .int .i64 x.til, .int .i64 x.st, .int .i64 x.fr]) := put_below _ _ _ _ b2 (Nat.le_refl _)
      go_roundw
      case rel => exact ⟨i + 1, by omega, rfl, b3, HS.out⟩
      case measure => simp [intOf]; omega
    · have hlti : ¬ (i : Int) < (l.length : Int) := by omega
      have hil2 : i = l.length := by omega
      subst hil2
      go_wp2_with fail
      go_ret
      exact ⟨rfl, ho, hb⟩
set_option maxRecDepth 20000 in
set_option maxHeartbeats 2000000 in
theorem szunits_any (ao : Option Addr) (n cap : Nat) (l : List Ut) (L : Int) (w : World) (h : URw w (.slice ao n cap) l) (hn : l.length ≤ maxLen) (ht : ∀ x ∈ l, x.ant.length ≤ maxLen) (h0 : 0 ≤ L) (h1 : L ≤ 1048576) :
    Calls Try.prog 19 #[.slice ao n cap, .int .i64 L] w fun e w' => ∃ r : Int, e = .returned (.int .i64 r) ∧ (r < 0 ∨ (0 ≤ r ∧ r ≤ L ∧ l.length ≤ 1048576 ∧ ∀ x ∈ l, x.ant.length ≤ 1048576)) ∧ Below w.heap.size w w' := by
  obtain rfl := h.len
  have HH := hidden h
  have HT := hidden ht
  have hn2 : (l.length : Int) ≤ 9223372036854775807 := by unfold maxLen at hn; omega
  clear h ht
  by_cases hq : L - l.length < 0
  · go_enter Try.func19, Try.ntmps19
    go_wp2_with fail
    go_ret
    exact ⟨-1, rfl, Or.inl (by omega), Below.refl _ _⟩
  go_enter Try.func19, Try.ntmps19
  go_wp2_with fail
  go_loopw [1, 5] (fun lv iv wr => ∃ (i : Nat) (M : Int), i ≤ l.length ∧ iv = .int .i64 i ∧ lv = .int .i64 M ∧ 0 ≤ M ∧ M ≤ L ∧ Below w.heap.size w wr ∧ Hid (∀ j x, j < i → l[j]? = some x → x.ant.length ≤ 1048576)) (fun _ iv _ => l.length - (intOf iv).toNat)
  case atStart => exact ⟨0, _, Nat.zero_le _, rfl, rfl, by omega, by omega, Below.refl _ _, fun j x hj => absurd hj (Nat.not_lt_zero _)⟩
  case round =>
    obtain ⟨i, M, hi, rfl, rfl, hM0, hM1, hb, hok⟩ := hrel
    have hsz := hb.size
    by_cases hlt : i < l.length
    · have hlti : (i : Int) < (l.length : Int) := by omega
      obtain ⟨x, hx⟩ := some_of l i hlt
      obtain ⟨g, off, ta, tc, rfl, hg, hrow, c0, c1, c2, c3, c4, c5⟩ := (HH.out.below hb).at hx
      have hxl := HT.out x (List.mem_of_getElem? hx)
      have hK := fun W => szunit_any x ta x.ant.length tc M W (by unfold maxLen at hxl; omega) hM0 (by omega)
      unfold aU at hK
      have HX := hidden hx
      clear hx hrow hxl
      by_cases hs : M < (x.ant.length : Int)
      · rw [if_pos hs] at hK
        go_wp2_with (go_at_call 62; refine (hK _).mono ?_; rintro e w1 ⟨rfl, hb1⟩)
        go_ret
        exact ⟨-1, rfl, Or.inl (by omega), onto hb hb1⟩
      · rw [if_neg hs] at hK
        have h2 : ¬ M - x.ant.length < 0 := by omega
        have hok2 : Hid (∀ j y, j < i + 1 → l[j]? = some y → y.ant.length ≤ 1048576) := fun j y hj hy => by
          rcases Nat.lt_succ_iff_lt_or_eq.1 hj with k | rfl
          · exact hok.out j y k hy
          · have := HX.out; rw [this] at hy; cases hy; omega
        clear hok
        go_wp2_with (go_at_call 62; refine (hK _).mono ?_; rintro e w1 ⟨rfl, hb1⟩)
        go_roundw
        case rel => exact ⟨i + 1, _, by omega, rfl, rfl, by omega, by omega, onto hb hb1, hok2⟩
        case measure => simp [intOf]; omega
    · have hlti : ¬ (i : Int) < (l.length : Int) := by omega
      go_wp2_with fail
      go_ret
      exact ⟨M, rfl, Or.inr ⟨hM0, hM1, by omega, fun x hx => by
        obtain ⟨j, hj⟩ := List.getElem?_of_mem hx
        exact hok.out j x (by have := get_lt' hj; omega) hj⟩, hb⟩
set_option maxRecDepth 20000 in
set_option maxHeartbeats 2000000 in
theorem equnits_any (a1 : Option Addr) (n1 c1 : Nat) (a2 : Option Addr) (n2 c2 : Nat) (l : List Ut) (w : World) (h : URw w (.slice a1 n1 c1) l) (h' : URw w (.slice a2 n2 c2) l) (hn : l.length ≤ 1048576) (ht : ∀ x ∈ l, x.ant.length ≤ 1048576) :
    Calls Try.prog 24 #[.slice a1 n1 c1, .slice a2 n2 c2] w fun e w' => e = .returned (.bool true) ∧ Below w.heap.size w w' := by
  obtain rfl := h.len
  obtain rfl := h'.len
  have HH := hidden h
  have HH' := hidden h'
  have HT := hidden ht
  clear h h' ht
  go_enter Try.func24, Try.ntmps24
  go_wp2_with fail
  go_loopw [5] (fun iv wr => ∃ i : Nat, i ≤ l.length ∧ iv = .int .i64 i ∧ Below w.heap.size w wr) (fun iv _ => l.length - (intOf iv).toNat)
  case atStart => exact ⟨0, Nat.zero_le _, rfl, Below.refl _ _⟩
  case round =>
    obtain ⟨i, hil, rfl, hb⟩ := hrel
    have hsz := hb.size
    by_cases hlt : i < l.length
    · have hlti : (i : Int) < (l.length : Int) := by omega
      obtain ⟨x, hx⟩ := some_of l i hlt
      obtain ⟨g, off, ta, tc, rfl, hg, hrow, c0, c1, c2, c3, c4, c5⟩ := (HH.out.below hb).at hx
      obtain ⟨g', off', ta', tc', rfl, hg', hrow', d0, d1, d2, d3, d4, d5⟩ := (HH'.out.below hb).at hx
      have hK := fun W hW hW' => equnit_any x ta x.ant.length tc ta' x.ant.length tc' W hW hW' (HT.out x (List.mem_of_getElem? hx))
      unfold aU at hK
      have HA := hidden (fun W (hW : Below wr.heap.size wr W) => hrow.below hW)
      have HB := hidden (fun W (hW : Below wr.heap.size wr W) => hrow'.below hW)
      clear hx hrow hrow'
      go_wp2_with fail
      first | go_region_with (go_at_call 66; refine (hK _ (HA.out _ (by repeat (first | exact Below.refl _ _ | assumption | refine st_drew ?_ | refine st_drewN ?_ _ | refine Below.setCell ?_ (by first | omega | (simp; done) | (simp; omega)) _ | refine Below.alloc ?_ (by first | omega | (simp; done) | (simp; omega)) _))) (HB.out _ (by repeat (first | exact Below.refl _ _ | assumption | refine st_drew ?_ | refine st_drewN ?_ _ | refine Below.setCell ?_ (by first | omega | (simp; done) | (simp; omega)) _ | refine Below.alloc ?_ (by first | omega | (simp; done) | (simp; omega)) _)))).mono ?_; rintro e w1 ⟨rfl, hb1⟩; have bA := onto (show Below w.heap.size w _ from by repeat (first | exact Below.refl _ _ | assumption | refine st_drew ?_ | refine st_drewN ?_ _ | refine Below.setCell ?_ (by first | omega | (simp; done) | (simp; omega)) _ | refine Below.alloc ?_ (by first | omega | (simp; done) | (simp; omega)) _)) hb1; clear hb1) | fail
      all_goals go_wp2_with fail
      all_goals go_roundw
      all_goals first
        | exact ⟨i + 1, by omega, rfl, by repeat (first | exact Below.refl _ _ | assumption | refine st_drew ?_ | refine st_drewN ?_ _ | refine Below.setCell ?_ (by first | omega | (simp; done) | (simp; omega)) _ | refine Below.alloc ?_ (by first | omega | (simp; done) | (simp; omega)) _)⟩
        | (simp [intOf]; omega)
    · have hlti : ¬ (i : Int) < (l.length : Int) := by omega
      go_wp2_with fail
      go_ret
      exact ⟨rfl, hb⟩
end Go.Proofs.Ytgcpiinmcbdkmaa
