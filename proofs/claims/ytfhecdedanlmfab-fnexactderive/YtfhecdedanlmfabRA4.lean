/-
  The law's own helpers on lists of laws: copies, sizes, sameness.
-/
import Derived.Test.YtfhecdedanlmfabRA3
namespace Go.Proofs.Ytfhecdedanlmfab
open Go.RowKit Go.WideShapes Va Rc
set_option linter.all false

/-- The first i of l lie in block G, which takes n, their facts in blocks of their own from base on. -/
def WOut (w : World) (base G n : Nat) (l : List Lw) (i : Nat) : Prop :=
  base ≤ G ∧ G < w.heap.size ∧ (∀ j, j < n * 3 → (∃ u, w.cell? ⟨G, j, none⟩ = some u) ∧ w.frozen? ⟨G, j, none⟩ = false) ∧
    ∀ j x, j < i → l[j]? = some x → ∃ T T', (base ≤ T ∧ T ≠ G ∧ base ≤ T' ∧ T' ≠ G) ∧ LCell w G (j * 3) x (.slice (some ⟨T, 0, none⟩) x.ifs.length x.ifs.length) (.slice (some ⟨T', 0, none⟩) x.nots.length x.nots.length) ∧ Out 1 csI w T x.ifs.length x.ifs x.ifs.length ∧ Out 1 csI w T' x.nots.length x.nots x.nots.length
theorem WOut.below {w w' : World} {base G n i : Nat} {l : List Lw} (h : WOut w base G n l i) (hb : Below w.heap.size w w') : WOut w' base G n l i := by
  obtain ⟨h0, h1, h2, h3⟩ := h
  refine ⟨h0, Nat.lt_of_lt_of_le h1 hb.size, fun j hj => ⟨?_, ((bcell hb).2 _ _ h1).trans (h2 j hj).2⟩, fun j x hj hx => ?_⟩
  · obtain ⟨u, hu⟩ := (h2 j hj).1
    exact ⟨u, ((bcell hb).1 _ _ h1).trans hu⟩
  · obtain ⟨T, T', k1, k3, k4, k5⟩ := h3 j x hj hx
    exact ⟨T, T', k1, k3.below hb h1, k4.below hb, k5.below hb⟩
theorem WOut.drw {w : World} {base G : Nat} {l : List Lw} (h : WOut w base G l.length l l.length) (c : Nat) (hc : l.length ≤ c) : LRw w (.slice (some ⟨G, 0, none⟩) l.length c) l :=
  ⟨_, c, rfl, hc, Or.inr ⟨G, 0, rfl, h.2.1, fun i x hx => by
    obtain ⟨T, T', -, k3, k4, k5⟩ := h.2.2.2 i x (get_lt' hx) hx
    rw [Nat.zero_add]
    exact ⟨_, _, k3, out_irw k4 _ (Nat.le_refl _), out_irw k5 _ (Nat.le_refl _)⟩⟩⟩
theorem WOut.set {w : World} {base G n i : Nat} {l : List Lw} {x : Lw} (h : WOut w base G n l i) (hi : i < n) (hx : l[i]? = some x) {T T' : Nat} (hT : base ≤ T) (hTG : T ≠ G) (hT2 : base ≤ T') (hTG2 : T' ≠ G) (ho : Out 1 csI w T x.ifs.length x.ifs x.ifs.length) (ho2 : Out 1 csI w T' x.nots.length x.nots x.nots.length) :
    WOut (put w G (i * 3) [.slice (some ⟨T, 0, none⟩) x.ifs.length x.ifs.length, .slice (some ⟨T', 0, none⟩) x.nots.length x.nots.length, .int .i64 x.thn]) base G n l (i + 1) := by
  obtain ⟨h0, h1, h2, h3⟩ := h
  generalize hvs : [Value.slice (some ⟨T, 0, none⟩) x.ifs.length x.ifs.length, .slice (some ⟨T', 0, none⟩) x.nots.length x.nots.length, .int .i64 x.thn] = vs
  have hlen : vs.length = 3 := by rw [← hvs]; rfl
  have hnew : ∀ k v, vs[k]? = some v → (put w G (i * 3) vs).cell? ⟨G, i * 3 + k, none⟩ = some v := put_same vs w G (i * 3) (fun k hk => (h2 (i * 3 + k) (by omega)).1)
  have hoth : ∀ T', T' ≠ G → ∀ j, (put w G (i * 3) vs).cell? ⟨T', j, none⟩ = w.cell? ⟨T', j, none⟩ := fun T' hT' j => by
    rw [← hvs]
    show (World.setCell (World.setCell (World.setCell w _ _) _ _) _ _).cell? _ = _
    rw [World.cell?_setCell_far _ _ _ _ (fun e => hT' e.symm), World.cell?_setCell_far _ _ _ _ (fun e => hT' e.symm), World.cell?_setCell_far _ _ _ _ (fun e => hT' e.symm)]
  have hout : ∀ (T' : Nat) (t : List Int), T' ≠ G → Out 1 csI w T' t.length t t.length → Out 1 csI (put w G (i * 3) vs) T' t.length t t.length := fun T' t hT' ho' => by
    obtain ⟨k1, k2, k3⟩ := ho'
    refine ⟨by rw [put_size]; exact k1, fun j hj => ⟨?_, ?_⟩, fun j y hj hy k hk => by rw [hoth T' hT']; exact k3 j y hj hy k hk⟩
    · rw [hoth T' hT']; exact (k2 j hj).1
    · rw [← hvs]
      show (World.setCell (World.setCell (World.setCell w _ _) _ _) _ _).frozen? _ = _
      simp only [World.frozen?_setCell]
      exact (k2 j hj).2
  refine ⟨h0, by rw [put_size]; exact h1, fun j hj => ⟨?_, by rw [put_frozen]; exact (h2 j hj).2⟩, fun j y hj hy => ?_⟩
  · by_cases a : i * 3 ≤ j ∧ j < i * 3 + 3
    · obtain ⟨v, hv⟩ : ∃ v, vs[j - i * 3]? = some v := ⟨_, List.getElem?_eq_getElem (by omega)⟩
      have := hnew (j - i * 3) v hv
      rw [show i * 3 + (j - i * 3) = j by omega] at this
      exact ⟨_, this⟩
    · rw [put_other _ _ _ _ _ (by omega)]; exact (h2 j hj).1
  · by_cases a : j = i
    · subst a
      rw [hx] at hy
      cases hy
      refine ⟨T, T', ⟨hT, hTG, hT2, hTG2⟩, ⟨hnew 0 _ (by rw [← hvs]; rfl), hnew 1 _ (by rw [← hvs]; rfl), hnew 2 _ (by rw [← hvs]; rfl)⟩, hout T _ hTG ho, hout T' _ hTG2 ho2⟩
    · obtain ⟨T1, T2, k1, ⟨e0, e1, e2⟩, k4, k5⟩ := h3 j y (by omega) hy
      refine ⟨T1, T2, k1, ⟨?_, ?_, ?_⟩, hout T1 _ k1.2.1 k4, hout T2 _ k1.2.2.2 k5⟩
      · rw [put_other _ _ _ _ _ (by omega)]; exact e0
      · rw [put_other _ _ _ _ _ (by omega)]; exact e1
      · rw [put_other _ _ _ _ _ (by omega)]; exact e2
theorem infoLaw : (Try.prog.info? 41).map (fun i => (i.zero, i.size, i.bytes)) = some (some (.agg #[.slice none 0 0, .slice none 0 0, .int .i64 0]), 3, 56) := by kernel_rfl

set_option maxRecDepth 20000 in
set_option maxHeartbeats 4000000 in
theorem tolaws_any (ao : Option Addr) (n cap : Nat) (l : List Lw) (w : World) (h : LRw w (.slice ao n cap) l) (hn : l.length ≤ 1048576) (ht : ∀ x ∈ l, x.ifs.length ≤ 1048576 ∧ x.nots.length ≤ 1048576) :
    Calls Try.prog 8 #[.slice ao n cap] w fun e w' => e = .returned (.slice (some ⟨w.heap.size, 0, none⟩) l.length l.length) ∧ WOut w' w.heap.size w.heap.size l.length l l.length ∧ Below w.heap.size w w' := by
  obtain rfl := h.len
  have HH := hidden h
  have HT := hidden ht
  clear h ht
  obtain ⟨i0, hi, hz0, hz1, hz2⟩ := info_partsO infoLaw
  go_enter Try.func8, Try.ntmps8
  go_wp2_with (refine wpList_make_full _ rfl (.tmp 6) (.tmp 6) 27 rfl w.heap.size 41 i0 (.agg #[.slice none 0 0, .slice none 0 0, .int .i64 0]) 3 Try.underlying27 hi hz0 hz1 .i64 .i64 _ _ l.length rfl rfl rfl rfl (by rw [hz2]; omega) (by unfold maxLen; omega) (Nat.le_refl _) ?_; intro w1 ho1 hg1)
  have b1 : Below w.heap.size w w1 := (Below.refl _ w).grown hg1 (Nat.le_refl _) (by simp)
  have ho : WOut w1 w.heap.size w.heap.size l.length l 0 := by
    have hq := Out.made (cs := fun (_ : Lw) _ => 0) l ho1
    exact ⟨Nat.le_refl _, hq.1, hq.2.1, fun j x hj => absurd hj (Nat.not_lt_zero _)⟩
  clear ho1 hg1
  go_wp2_with fail
  go_loopw [4] (fun iv wr => ∃ i : Nat, i ≤ l.length ∧ iv = .int .i64 i ∧ Below w.heap.size w wr ∧ WOut wr w.heap.size w.heap.size l.length l i) (fun iv _ => l.length - (intOf iv).toNat)
  case atStart => exact ⟨0, Nat.zero_le _, rfl, b1, ho⟩
  case round =>
    clear b1 ho
    obtain ⟨i, hil, rfl, hb, ho⟩ := hrel
    by_cases hlt : i < l.length
    · have hlti : (i : Int) < (l.length : Int) := by omega
      obtain ⟨x, hx⟩ := some_of l i hlt
      obtain ⟨g, off, ta, tc, ua, uc, rfl, hg, hr1, hr2, c0, c1, c2⟩ := (HH.out.below hb).at hx
      have hl2 := HT.out x (List.mem_of_getElem? hx)
      have hK := tolaw_any x ta x.ifs.length tc ua x.nots.length uc wr hr1 hr2 hl2.1 hl2.2
      unfold aL at hK
      have HO := hidden ho
      have HX := hidden hx
      have hzw : w.heap.size < wr.heap.size := ho.2.1
      clear hx hr1 hr2 ho hl2
      go_wp2_with (go_at_call 19; refine hK.mono ?_; rintro e w2 ⟨G, G', hG, hGl, hG', hGl', rfl, hoT, hoT', hb2⟩; have b2 := onto hb hb2; have ho2 := HO.out.below hb2; obtain ⟨⟨u0, hu0⟩, hf0⟩ := ho2.2.2.1 (i * 3) (by omega); obtain ⟨⟨u1, hu1⟩, hf1⟩ := ho2.2.2.1 (i * 3 + 1) (by omega); obtain ⟨⟨u2, hu2⟩, hf2⟩ := ho2.2.2.1 (i * 3 + 2) (by omega); have HS := hidden (ho2.set hlt HX.out (show w.heap.size ≤ G by omega) (by omega) (show w.heap.size ≤ G' by omega) (by omega) hoT hoT'); clear ho2 hoT hoT' hb2)
      have b3 : Below w.heap.size w (put w2 w.heap.size (i * 3) [.slice (some ⟨G, 0, none⟩) x.ifs.length x.ifs.length, .slice (some ⟨G', 0, none⟩) x.nots.length x.nots.length, .int .i64 x.thn]) := put_below _ _ _ _ b2 (Nat.le_refl _)
      go_roundw
      case rel => exact ⟨i + 1, by omega, rfl, b3, HS.out⟩
      case measure => simp [intOf]; omega
    · have hlti : ¬ (i : Int) < (l.length : Int) := by omega
      have hil2 : i = l.length := by omega
      subst hil2
      go_wp2_with fail
      go_ret
      exact ⟨rfl, ho, hb⟩

set_option maxRecDepth 20000 in
set_option maxHeartbeats 2000000 in
theorem szlaws_any (ao : Option Addr) (n cap : Nat) (l : List Lw) (L : Int) (w : World) (h : LRw w (.slice ao n cap) l) (hn : l.length ≤ maxLen) (ht : ∀ x ∈ l, x.ifs.length ≤ maxLen ∧ x.nots.length ≤ maxLen) (h0 : 0 ≤ L) (h1 : L ≤ 1048576) :
    Calls Try.prog 5 #[.slice ao n cap, .int .i64 L] w fun e w' => ∃ r : Int, e = .returned (.int .i64 r) ∧ (r < 0 ∨ (0 ≤ r ∧ r ≤ L ∧ l.length ≤ 1048576 ∧ ∀ x ∈ l, x.ifs.length ≤ 1048576 ∧ x.nots.length ≤ 1048576)) ∧ Below w.heap.size w w' := by
  obtain rfl := h.len
  have HH := hidden h
  have HT := hidden ht
  have hn2 : (l.length : Int) ≤ 9223372036854775807 := by unfold maxLen at hn; omega
  clear h ht
  by_cases hq : L - l.length < 0
  · go_enter Try.func5, Try.ntmps5
    go_wp2_with fail
    go_ret
    exact ⟨-1, rfl, Or.inl (by omega), Below.refl _ _⟩
  go_enter Try.func5, Try.ntmps5
  go_wp2_with fail
  go_loopw [1, 5] (fun lv iv wr => ∃ (i : Nat) (M : Int), i ≤ l.length ∧ iv = .int .i64 i ∧ lv = .int .i64 M ∧ 0 ≤ M ∧ M ≤ L ∧ Below w.heap.size w wr ∧ Hid (∀ j x, j < i → l[j]? = some x → x.ifs.length ≤ 1048576 ∧ x.nots.length ≤ 1048576)) (fun _ iv _ => l.length - (intOf iv).toNat)
  case atStart => exact ⟨0, _, Nat.zero_le _, rfl, rfl, by omega, by omega, Below.refl _ _, fun j x hj => absurd hj (Nat.not_lt_zero _)⟩
  case round =>
    obtain ⟨i, M, hi, rfl, rfl, hM0, hM1, hb, hok⟩ := hrel
    have hsz := hb.size
    by_cases hlt : i < l.length
    · have hlti : (i : Int) < (l.length : Int) := by omega
      obtain ⟨x, hx⟩ := some_of l i hlt
      obtain ⟨g, off, ta, tc, ua, uc, rfl, hg, hr1, hr2, c0, c1, c2⟩ := (HH.out.below hb).at hx
      have hxl := HT.out x (List.mem_of_getElem? hx)
      have hK := fun W => szlaw_any x ta x.ifs.length tc ua x.nots.length uc M W (by have := hxl.1; unfold maxLen at this; omega) (by have := hxl.2; unfold maxLen at this; omega) hM0 (by omega)
      unfold aL at hK
      have HX := hidden hx
      clear hx hr1 hr2 hxl
      by_cases hs : M < (x.ifs.length : Int) ∨ M - (x.ifs.length : Int) < (x.nots.length : Int)
      · have hv : (if M < (x.ifs.length : Int) then (-1 : Int) else if M - (x.ifs.length : Int) < (x.nots.length : Int) then -1 else M - x.ifs.length - x.nots.length) = -1 := by
          by_cases q : M < (x.ifs.length : Int)
          · rw [if_pos q]
          · rw [if_neg q, if_pos (by omega)]
        rw [hv] at hK
        clear hs
        go_wp2_with (go_at_call 17; refine (hK _).mono ?_; rintro e w1 ⟨rfl, hb1⟩)
        go_ret
        exact ⟨-1, rfl, Or.inl (by omega), onto hb hb1⟩
      · rw [if_neg (by omega), if_neg (by omega)] at hK
        have h2 : ¬ M - x.ifs.length - x.nots.length < 0 := by omega
        have hok2 : Hid (∀ j y, j < i + 1 → l[j]? = some y → y.ifs.length ≤ 1048576 ∧ y.nots.length ≤ 1048576) := fun j y hj hy => by
          rcases Nat.lt_succ_iff_lt_or_eq.1 hj with k | rfl
          · exact hok.out j y k hy
          · have := HX.out; rw [this] at hy; cases hy; constructor <;> omega
        clear hok
        go_wp2_with (go_at_call 17; refine (hK _).mono ?_; rintro e w1 ⟨rfl, hb1⟩)
        go_roundw
        case rel => exact ⟨i + 1, _, by omega, rfl, rfl, by omega, by omega, onto hb hb1, hok2⟩
        case measure => simp [intOf]; omega
    · have hlti : ¬ (i : Int) < (l.length : Int) := by omega
      go_wp2_with fail
      go_ret
      exact ⟨M, rfl, Or.inr ⟨hM0, hM1, by omega, fun x hx => by
        obtain ⟨j, hj⟩ := List.getElem?_of_mem hx
        exact hok.out j x (by have := get_lt' hj; omega) hj⟩, hb⟩

set_option maxRecDepth 20000 in
set_option maxHeartbeats 2000000 in
theorem eqlaws_any (a1 : Option Addr) (n1 c1 : Nat) (a2 : Option Addr) (n2 c2 : Nat) (l : List Lw) (w : World) (h : LRw w (.slice a1 n1 c1) l) (h' : LRw w (.slice a2 n2 c2) l) (hn : l.length ≤ 1048576) (ht : ∀ x ∈ l, x.ifs.length ≤ 1048576 ∧ x.nots.length ≤ 1048576) :
    Calls Try.prog 11 #[.slice a1 n1 c1, .slice a2 n2 c2] w fun e w' => e = .returned (.bool true) ∧ Below w.heap.size w w' := by
  obtain rfl := h.len
  obtain rfl := h'.len
  have HH := hidden h
  have HH' := hidden h'
  have HT := hidden ht
  clear h h' ht
  go_enter Try.func11, Try.ntmps11
  go_wp2_with fail
  go_loopw [5] (fun iv wr => ∃ i : Nat, i ≤ l.length ∧ iv = .int .i64 i ∧ Below w.heap.size w wr) (fun iv _ => l.length - (intOf iv).toNat)
  case atStart => exact ⟨0, Nat.zero_le _, rfl, Below.refl _ _⟩
  case round =>
    obtain ⟨i, hil, rfl, hb⟩ := hrel
    have hsz := hb.size
    by_cases hlt : i < l.length
    · have hlti : (i : Int) < (l.length : Int) := by omega
      obtain ⟨x, hx⟩ := some_of l i hlt
      obtain ⟨g, off, ta, tc, ua, uc, rfl, hg, hr1, hr2, c0, c1, c2⟩ := (HH.out.below hb).at hx
      obtain ⟨g', off', ta', tc', ua', uc', rfl, hg', hr1', hr2', d0, d1, d2⟩ := (HH'.out.below hb).at hx
      have hl2 := HT.out x (List.mem_of_getElem? hx)
      have hK := fun W h1 h2 h3 h4 => eqlaw_any x ta x.ifs.length tc ua x.nots.length uc ta' x.ifs.length tc' ua' x.nots.length uc' W h1 h2 h3 h4 hl2.1 hl2.2
      unfold aL at hK
      have HA := hidden (fun W (hW : Below wr.heap.size wr W) => hr1.below hW)
      have HB := hidden (fun W (hW : Below wr.heap.size wr W) => hr2.below hW)
      have HC := hidden (fun W (hW : Below wr.heap.size wr W) => hr1'.below hW)
      have HD := hidden (fun W (hW : Below wr.heap.size wr W) => hr2'.below hW)
      clear hx hr1 hr2 hr1' hr2' hl2
      go_wp2_with fail
      first | go_region_with (go_at_call 21; refine (hK _ (HA.out _ (by repeat (first | exact Below.refl _ _ | assumption | refine st_drew ?_ | refine st_drewN ?_ _ | refine Below.setCell ?_ (by first | omega | (simp; done) | (simp; omega)) _ | refine Below.alloc ?_ (by first | omega | (simp; done) | (simp; omega)) _))) (HB.out _ (by repeat (first | exact Below.refl _ _ | assumption | refine st_drew ?_ | refine st_drewN ?_ _ | refine Below.setCell ?_ (by first | omega | (simp; done) | (simp; omega)) _ | refine Below.alloc ?_ (by first | omega | (simp; done) | (simp; omega)) _))) (HC.out _ (by repeat (first | exact Below.refl _ _ | assumption | refine st_drew ?_ | refine st_drewN ?_ _ | refine Below.setCell ?_ (by first | omega | (simp; done) | (simp; omega)) _ | refine Below.alloc ?_ (by first | omega | (simp; done) | (simp; omega)) _))) (HD.out _ (by repeat (first | exact Below.refl _ _ | assumption | refine st_drew ?_ | refine st_drewN ?_ _ | refine Below.setCell ?_ (by first | omega | (simp; done) | (simp; omega)) _ | refine Below.alloc ?_ (by first | omega | (simp; done) | (simp; omega)) _)))).mono ?_; rintro e w1 ⟨rfl, hb1⟩; have bA := onto (show Below w.heap.size w _ from by repeat (first | exact Below.refl _ _ | assumption | refine st_drew ?_ | refine st_drewN ?_ _ | refine Below.setCell ?_ (by first | omega | (simp; done) | (simp; omega)) _ | refine Below.alloc ?_ (by first | omega | (simp; done) | (simp; omega)) _)) hb1; clear hb1) | fail
      all_goals go_wp2_with fail
      all_goals go_roundw
      all_goals first
        | exact ⟨i + 1, by omega, rfl, by repeat (first | exact Below.refl _ _ | assumption | refine st_drew ?_ | refine st_drewN ?_ _ | refine Below.setCell ?_ (by first | omega | (simp; done) | (simp; omega)) _ | refine Below.alloc ?_ (by first | omega | (simp; done) | (simp; omega)) _)⟩
        | (simp [intOf]; omega)
    · have hlti : ¬ (i : Int) < (l.length : Int) := by omega
      go_wp2_with fail
      go_ret
      exact ⟨rfl, hb⟩
end Go.Proofs.Ytfhecdedanlmfab
