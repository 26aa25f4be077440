/-
  Joins that are drawn and perhaps spoilt.
-/
import Derived.Test.YtdnnenklkfkhcaaDr
import Derived.Test.YtdnnenklkfkhcaaSh
namespace Go.Proofs.Ytdnnenklkfkhcaa
open Go.RowKit Jn Go.Maps

theorem cellsJ_set1 (l : List J) (z : Int) : ∀ k, cellsJ (l.set k (z, (l.getD k (0, 0)).2)) = (cellsJ l).set (k * 2) (.int .i64 z) := by
  induction l with
  | nil => intro k; simp [cellsJ]
  | cons j l ih =>
    intro k
    cases k with
    | zero => simp [cellsJ]
    | succ k =>
      have := ih k
      rw [List.getD_cons_succ, List.set_cons_succ, show (k + 1) * 2 = k * 2 + 2 by omega]
      show [Value.int .i64 j.1, .int .i64 j.2] ++ cellsJ (l.set k _) = ([Value.int .i64 j.1, .int .i64 j.2] ++ cellsJ l).set (k * 2 + 2) _
      rw [this]; rfl
theorem cellsJ_set2 (l : List J) (z : Int) : ∀ k, cellsJ (l.set k ((l.getD k (0, 0)).1, z)) = (cellsJ l).set (k * 2 + 1) (.int .i64 z) := by
  induction l with
  | nil => intro k; simp [cellsJ]
  | cons j l ih =>
    intro k
    cases k with
    | zero => simp [cellsJ]
    | succ k =>
      have := ih k
      rw [List.getD_cons_succ, List.set_cons_succ, show (k + 1) * 2 + 1 = k * 2 + 1 + 2 by omega]
      show [Value.int .i64 j.1, .int .i64 j.2] ++ cellsJ (l.set k _) = ([Value.int .i64 j.1, .int .i64 j.2] ++ cellsJ l).set (k * 2 + 1 + 2) _
      rw [this]; rfl
theorem cur_above {w w' : World} {g cap base : Nat} {ao : Option Addr} {bs : List Int} (h : Cur w g ao cap bs) (hb : Below base w w') (hg : g < base) : Cur w' g ao cap bs := h.below (hb.mono (by omega))
theorem four_get {w4 W w5 : World} {g m : Nat} {a b c d : Int} (hg : g < w4.heap.size) (hk : Keep g W w5) (hB : W.heap[w4.heap.size]? = some (Obj.cells #[.int .i64 a, .int .i64 b, .int .i64 c, .int .i64 d] 2)) (hm : m < 4) : ∃ z : Int, w5.cell? ⟨w4.heap.size, m, none⟩ = some (.int .i64 z) := by
  have h := (hk.block w4.heap.size (Array.getElem?_eq_some_iff.1 hB).1 (by omega)).trans hB
  obtain rfl | rfl | rfl | rfl : m = 0 ∨ m = 1 ∨ m = 2 ∨ m = 3 := by omega
  · exact ⟨a, by simp only [World.cell?, h]; rfl⟩
  · exact ⟨b, by simp only [World.cell?, h]; rfl⟩
  · exact ⟨c, by simp only [World.cell?, h]; rfl⟩
  · exact ⟨d, by simp only [World.cell?, h]; rfl⟩
def sel (q : Int) (m : Nat) : Int := if m = 0 then -1 else if m = 1 then 1000 else if m = 2 then q else 4611686018427387904
theorem four_new (q : Int) (m : Nat) (hm : m < 4) (W : World) : (W.alloc (Obj.cells #[.int .i64 (-1), .int .i64 1000, .int .i64 q, .int .i64 4611686018427387904] 2)).cell? ⟨W.heap.size, m, none⟩ = some (.int .i64 (sel q m)) := by
  have h := heap_alloc_new W (Obj.cells #[.int .i64 (-1), .int .i64 1000, .int .i64 q, .int .i64 4611686018427387904] 2)
  obtain rfl | rfl | rfl | rfl : m = 0 ∨ m = 1 ∨ m = 2 ∨ m = 3 := by omega
  · simp only [World.cell?, h]; rfl
  · simp only [World.cell?, h]; rfl
  · simp only [World.cell?, h]; rfl
  · simp only [World.cell?, h]; rfl
theorem four_old {w4 W w5 : World} {g m : Nat} {q : Int} (hg : g < w4.heap.size) (hk : Keep g W w5) (hB : W.heap[w4.heap.size]? = some (Obj.cells #[.int .i64 (-1), .int .i64 1000, .int .i64 q, .int .i64 4611686018427387904] 2)) (hm : m < 4) : w5.cell? ⟨w4.heap.size, m, none⟩ = some (.int .i64 (sel q m)) := by
  have h := (hk.block w4.heap.size (Array.getElem?_eq_some_iff.1 hB).1 (by omega)).trans hB
  obtain rfl | rfl | rfl | rfl : m = 0 ∨ m = 1 ∨ m = 2 ∨ m = 3 := by omega
  · simp only [World.cell?, h]; rfl
  · simp only [World.cell?, h]; rfl
  · simp only [World.cell?, h]; rfl
  · simp only [World.cell?, h]; rfl
theorem st_alloc {w0 w : World} (h : Below w0.heap.size w0 w) (o : Obj) : Below w0.heap.size w0 (w.alloc o) := h.alloc h.size o
/-- What is in hand between two draws. -/
def Hand (w : World) (g : Nat) (ao : Option Addr) (cap : Nat) (bs : List Int) (n : Nat) (ov : Value) (wr : World) : Prop :=
  ∃ l : List J, l.length ≤ n ∧ Own1 wr w.heap.size ov l ∧ Cur wr g ao cap bs ∧ Keep g w wr
theorem own1_app {w2 : World} {base G c : Nat} {v : Value} {l : List J} {k z : Int} (h2 : w2.ownsRow base 50 2 v (l.length + 1) (cellsJ l ++ [.int .i64 k, .int .i64 z])) (hn : v = .slice none 0 0 ↔ Value.slice (some ⟨G, 0, none⟩) l.length c = .slice none 0 0 ∧ 1 = 0) : Own1 w2 base v (l ++ [(k, z)]) :=
  own1_of (by rw [cellsJ_app, List.length_append]; exact h2) (fun e => by have := (hn.1 e).2; omega)

theorem hand_put {w w5 W' : World} {g cap G1 c1 : Nat} {ao : Option Addr} {bs : List Int} {l1 : List J} (ho : w5.ownsRow w.heap.size 50 2 (.slice (some ⟨G1, 0, none⟩) l1.length c1) l1.length (cellsJ l1)) (hc : Cur w5 g ao cap bs) (hk : Keep g w w5) (hB : Below w5.heap.size w5 W') (hg : g < w.heap.size) (hl : l1.length ≤ 11) (k : Nat) (z : Int) :
    Hand w g ao cap bs 11 (.slice (some ⟨G1, 0, none⟩) l1.length c1) (W'.setCell ⟨G1, k * 2, none⟩ (.int .i64 z)) := by
  have ho' := own2_below ho hB
  have hGb := (ho'.lt G1 rfl).1
  have h1 : Below w.heap.size w5 W' := hB.mono hk.size
  have h2 : Below w.heap.size w5 (W'.setCell ⟨G1, k * 2, none⟩ (.int .i64 z)) := h1.setCell hGb _
  exact ⟨l1.set k (z, (l1.getD k (0, 0)).2), by rw [List.length_set]; omega, ⟨G1, c1, by rw [List.length_set], by rw [List.length_set, cellsJ_set1]; exact (ho'.stored (k * 2) (.int .i64 z)).1⟩, cur_above hc h2 hg, hk.on h2⟩
theorem hand_alloc {w W' : World} {g cap n : Nat} {ao : Option Addr} {bs : List Int} {ov : Value} (h : Hand w g ao cap bs n ov W') (o : Obj) : Hand w g ao cap bs n ov (W'.alloc o) := by
  obtain ⟨l, hl, ho, hc, hk⟩ := h
  have hb : Below W'.heap.size W' (W'.alloc o) := (Below.refl _ _).alloc (Nat.le_refl _) _
  exact ⟨l, hl, ho.below hb, hc.below (hb.mono (by have := hc.1; omega)), hk.alloc o⟩

set_option maxRecDepth 20000 in
set_option maxHeartbeats 4000000 in
theorem dany_any (g : Nat) (ao : Option Addr) (cap : Nat) (bs : List Int) (w : World) (hc : Cur w g ao cap bs) :
    Calls Try.prog 55 #[.pointer (some ⟨g, 0, none⟩)] w fun e w' => ∃ v, e = .returned v ∧ Hand w g ao cap bs 201 v w' := by
  have hgl := hc.1
  obtain ⟨i0, hi, hz0, hz1, hz2⟩ := info_parts info41
  go_enter Try.func55, Try.ntmps55
  go_wp2_with fail
  refine (djoins_any g ao cap bs w hc).mono ?_
  rintro e w1 ⟨v1, l1, rfl, ho1, hl1, hc1, hk1⟩
  have HO1 := hidden ho1
  obtain ⟨G1, c1, rfl, -⟩ := ho1
  clear hc
  go_wp2_with fail
  refine (once_any g ao cap bs 14 _ hc1 (by omega)).mono ?_
  rintro e w2 ⟨t, rfl, hc2, hk2⟩
  have HO2 := hidden (HO1.out.keep hk2 hgl)
  have K2 := hidden (hk1.trans hk2)
  clear HO1 hk1 hk2 hc1
  cases t with
  | false =>
    go_wp2_with fail
    refine (once_any g ao cap bs 60 _ hc2 (by omega)).mono ?_
    rintro e w3 ⟨t2, rfl, hc3, hk3⟩
    have HO3 := hidden (HO2.out.keep hk3 hgl)
    have K3 := K2.out.trans hk3
    clear K2 hk3 hc2 HO2
    cases t2 with
    | false =>
      go_wp2_with fail
      go_ret
      exact ⟨_, rfl, l1, by omega, HO3.out, hc3, K3⟩
    | true =>
      have hoE := own1_empty w3
      have hbE : Below w3.heap.size w3 (w3.alloc (.cells #[] 50)) := (Below.refl _ w3).alloc (Nat.le_refl _) _
      have hcE := hc3.below (hbE.mono (by have := hc3.1; omega))
      have hkE := K3.alloc (Obj.cells #[] 50)
      have hN3 := K3.size
      have hoE' := own1_base hoE hN3
      clear hbE hoE hc3 K3 HO3
      go_wp2_with fail
      go_loopw [3, 5] (fun ov iv wr => ∃ (i : Nat) (l : List J), i ≤ 201 ∧ iv = .int .i64 i ∧ Hid (l.length = i) ∧ (∃ G c0, ov = .slice (some ⟨G, 0, none⟩) l.length c0 ∧ wr.ownsRow w.heap.size 50 2 (.slice (some ⟨G, 0, none⟩) l.length c0) l.length (cellsJ l)) ∧ Cur wr g ao cap bs ∧ Keep g w wr) (fun _ iv _ => 201 - (intOf iv).toNat)
      case atStart =>
        obtain ⟨G0, c0, e0, hoE0⟩ := hoE'
        exact ⟨0, [], by omega, rfl, rfl, ⟨G0, c0, e0, hoE0⟩, hcE, hkE⟩
      case round =>
        clear hoE' hcE hkE
        obtain ⟨i, l2, hi2, rfl, hl2, ⟨G2, c2, rfl, ho⟩, hc, hk⟩ := hrel
        have hl3 : l2.length ≤ 201 := by rw [hl2.out]; exact hi2
        have HO := hidden ho
        clear ho
        go_wp2_with fail
        refine (below_any g ao cap bs 2 _ hc (by omega)).mono ?_
        rintro e w5 ⟨b, rfl, hb0, hb1, hc5, hk5⟩
        have ho5 := own_keep HO.out hk5 hgl
        have K5 := hk.trans hk5
        have hN5 := K5.size
        clear HO hk hk5 hc
        by_cases hlt : (i : Int) < 200 + b
        · go_wp2_with (at_builtin; refine wpList_append_own _ rfl (.tmp 75) (.tmp 78) 42 rfl w.heap.size 50 i0 (.agg #[.int .i64 0, .int .i64 0]) 2 16 Try.underlying42 hi hz0 hz1 hz2 rfl (by decide) _ l2.length (cellsJ l2) rfl (ho5.alloc _) ⟨w5.heap.size, 0, none⟩ 1 1 [.int .i64 999, .int .i64 i] rfl rfl (cell_two_new _ _ _ _) (two_one 999 i) (by unfold maxLen; omega) (by omega) (by simp; omega) ?_; intro v6 w6 ho6 hgr6 hnn6)
          have hb6 : Below w.heap.size w5 w6 := ((Below.refl w.heap.size w5).alloc hN5 _).grown hgr6 (by simp; omega) (own2_lt ho5)
          have hA := own1_app ho6 hnn6
          have hc6 := cur_above hc5 hb6 hgl
          have K6 := K5.on hb6
          obtain ⟨G6, c6, rfl, ho6'⟩ := hA
          have HO6 := hidden ho6'
          clear ho6 hgr6 hnn6 hb6 ho6'
          go_wp2_with fail
          go_roundw
          case rel => exact ⟨i + 1, l2 ++ [(999, (i : Int))], by omega, rfl, by rw [Hid, List.length_append, hl2.out]; rfl, ⟨_, _, rfl, HO6.out⟩, hc6, K6⟩
          case measure => simp [intOf]; omega
        · have HO5 := hidden ho5
          clear ho5
          go_wp2_with fail
          go_ret
          exact ⟨_, rfl, l2, by omega, ⟨_, _, rfl, HO5.out⟩, hc5, K5⟩
  | true =>
    by_cases hpos : 0 < l1.length
    · have hposi : (l1.length : Int) > 0 := by omega
      go_upto_if 14 with fail
      go_cut [3] (fun ov wr => Hand w g ao cap bs 11 ov wr)
      case first =>
        go_wp2_with fail
        refine (below_any g ao cap bs _ _ hc2 (by omega)).mono ?_
        rintro e w3 ⟨x, rfl, hx0, hx1, hc3, hk3⟩
        have HO3 := hidden (HO2.out.keep hk3 hgl)
        have K3 := hidden (K2.out.trans hk3)
        obtain ⟨k, rfl⟩ : ∃ k : Nat, x = k := ⟨x.toNat, by omega⟩
        have hk : k < l1.length := by omega
        clear HO2 K2 hk3 hc2
        go_wp2_with fail
        refine (below_any g ao cap bs 4 _ hc3 (by omega)).mono ?_
        rintro e w4 ⟨y, rfl, hy0, hy1, hc4, hk4⟩
        have HO4 := hidden (HO3.out.keep hk4 hgl)
        have K4 := hidden (K3.out.trans hk4)
        clear HO3 K3 hk4 hc3
        obtain rfl | rfl | rfl | rfl : y = 0 ∨ y = 1 ∨ y = 2 ∨ y = 3 := by omega
        · obtain ⟨G', c', e', ho4⟩ := HO4.out
          obtain ⟨rfl, rfl⟩ : G1 = G' ∧ c1 = c' := by simpa using e'
          have hcl1 := (ho4.cellAt (k * 2) (by omega)).trans (cellsJ_get l1 k hk).1
          have hcl2 := (ho4.cellAt (k * 2 + 1) (by omega)).trans (cellsJ_get l1 k hk).2
          have hfz1 := ho4.frozenAt (k * 2)
          generalize (l1.getD k (0, 0)).1 = q1 at *
          generalize (l1.getD k (0, 0)).2 = q2 at *
          have HCW := hidden (fun W (hW : Below w4.heap.size w4 W) => below_any g ao cap bs 4 W (hc4.below (hW.mono (by have := hc4.1; omega))) (by omega))
          have hGl := (ho4.lt G1 rfl).2
          have hGb := (ho4.lt G1 rfl).1
          have HKC := hidden (fun W w5 (hW : Below w4.heap.size w4 W) (hk5 : Keep g W w5) => (hk5.cell (b := G1) (o := k * 2) (Nat.lt_of_lt_of_le hGl hW.size) (by omega)).trans ((hW.cell (p := ⟨G1, k * 2, none⟩) hGl).trans hcl1))
          have HKD := hidden (fun W w5 (hW : Below w4.heap.size w4 W) (hk5 : Keep g W w5) => (hk5.cell (b := G1) (o := k * 2 + 1) (Nat.lt_of_lt_of_le hGl hW.size) (by omega)).trans ((hW.cell (p := ⟨G1, k * 2 + 1, none⟩) hGl).trans hcl2))
          have HOW := hidden (fun W w5 (hW : Below w4.heap.size w4 W) (hk5 : Keep g W w5) => own_keep (own2_below ho4 hW) hk5 hgl)
          have HK4 := hidden (fun (W w5 : World) (hW : Below w4.heap.size w4 W) (hk5 : Keep g W w5) (hB : W.heap[w4.heap.size]? = some (Obj.cells #[.int .i64 (-1), .int .i64 1000, .int .i64 q2, .int .i64 4611686018427387904] 2)) (m : Nat) (hm : m < 4) => four_old hc4.1 hk5 hB hm)
          have HK5 := hidden K4.out
          go_wp2_with fail
          go_region_with (go_at_call 34; refine (HCW.out _ (by first | ((repeat (first | assumption | with_reducible exact Below.refl _ _ | with_reducible apply st_drew | with_reducible apply st_alloc)); done) | fail)).mono ?_; rintro e w5 ⟨x, rfl, hx0, hx1, hc5, hk5⟩; obtain ⟨m, rfl⟩ : ∃ m : Nat, x = m := ⟨x.toNat, by omega⟩; (first | (have hz := HK4.out _ w5 (by first | ((repeat (first | assumption | with_reducible exact Below.refl _ _ | with_reducible apply st_drew | with_reducible apply st_alloc)); done) | fail) hk5 (by first | exact heap_alloc_new _ _ | fail) m (by omega)) | (have hz := fun W => four_new q2 m (by omega) W)); have hcs := HKC.out _ w5 (by first | ((repeat (first | assumption | with_reducible exact Below.refl _ _ | with_reducible apply st_drew | with_reducible apply st_alloc)); done) | fail) hk5; have hos := hidden (HOW.out _ w5 (by first | ((repeat (first | assumption | with_reducible exact Below.refl _ _ | with_reducible apply st_drew | with_reducible apply st_alloc)); done) | fail) hk5); have hcs2 := HKD.out _ w5 (by first | ((repeat (first | assumption | with_reducible exact Below.refl _ _ | with_reducible apply st_drew | with_reducible apply st_alloc)); done) | fail) hk5; have hfs := hos.out.frozenAt (k * 2); have hG5 := (hos.out.lt G1 rfl).2; have hcsA := fun o => (((Below.refl w5.heap.size w5).alloc (Nat.le_refl _) o).cell (p := ⟨G1, k * 2, none⟩) hG5).trans hcs; have hfsA := fun o => (hos.out.alloc o).frozenAt (k * 2); have hkW := hidden (HK5.out.trans ((Keep.of_below (show Below w4.heap.size w4 _ from (by first | ((repeat (first | assumption | with_reducible exact Below.refl _ _ | with_reducible apply st_drew | with_reducible apply st_alloc)); done) | fail))).trans hk5)))
          all_goals go_wp2_with fail
          all_goals go_meet
          all_goals first
            | exact hand_put hos.out hc5 hkW.out (Below.refl _ _) hgl (by omega) k _
            | exact hand_alloc (hand_put hos.out hc5 hkW.out (Below.refl _ _) hgl (by omega) k _) _
            | fail
        · go_wp2_with fail
          refine (from_any g ao cap bs (-1) 12 _ hc4 (by omega) (by omega) (by omega)).mono ?_
          rintro e w5 ⟨z, rfl, hz0', hz1', hc5, hk5⟩
          have HO5 := hidden (HO4.out.keep hk5 hgl)
          have K5 := hidden (K4.out.trans hk5)
          clear HO4 K4 hk5 hc4
          obtain ⟨G', c', e', ho5⟩ := HO5.out
          obtain ⟨rfl, rfl⟩ : G1 = G' ∧ c1 = c' := by simpa using e'
          obtain ⟨hs5, hg5⟩ := ho5.stored (k * 2 + 1) (.int .i64 z)
          have hcl := (ho5.cellAt (k * 2 + 1) (by omega)).trans (cellsJ_get l1 k hk).2
          have hfz := ho5.frozenAt (k * 2 + 1)
          have hGb := (ho5.lt G1 rfl).1
          have hbl : Below w.heap.size w5 (w5.setCell ⟨G1, k * 2 + 1, none⟩ (.int .i64 z)) := (Below.refl _ w5).setCell hGb _
          have HE := hidden (show Hand w g ao cap bs 11 (.slice (some ⟨G1, 0, none⟩) l1.length c1) (w5.setCell ⟨G1, k * 2 + 1, none⟩ (.int .i64 z)) from
            ⟨l1.set k ((l1.getD k (0, 0)).1, z), by rw [List.length_set]; omega, ⟨G1, c1, by rw [List.length_set], by rw [List.length_set, cellsJ_set2]; exact hs5⟩, cur_above hc5 hbl hgl, K5.out.on hbl⟩)
          generalize (l1.getD k (0, 0)).2 = q2 at *
          clear hs5 hg5 hbl ho5 HO5 e'
          go_wp2_with fail
          go_meet
          case rel => exact HE.out
        · obtain ⟨G', c', e', ho4⟩ := HO4.out
          obtain ⟨rfl, rfl⟩ : G1 = G' ∧ c1 = c' := by simpa using e'
          have hcl1 := (ho4.cellAt (k * 2) (by omega)).trans (cellsJ_get l1 k hk).1
          have hcl2 := (ho4.cellAt (k * 2 + 1) (by omega)).trans (cellsJ_get l1 k hk).2
          have hN4 := K4.out.size
          generalize (l1.getD k (0, 0)).1 = q1 at *
          generalize (l1.getD k (0, 0)).2 = q2 at *
          clear e'
          go_wp2_with (at_builtin; refine wpList_append_own _ rfl (.tmp 47) (.tmp 52) 42 rfl w.heap.size 50 i0 (.agg #[.int .i64 0, .int .i64 0]) 2 16 Try.underlying42 hi hz0 hz1 hz2 rfl (by decide) _ l1.length (cellsJ l1) rfl (ho4.alloc _) ⟨w4.heap.size, 0, none⟩ 1 1 [.int .i64 q1, .int .i64 q2] rfl rfl (cell_two_new _ _ _ _) (two_one q1 q2) (by unfold maxLen; omega) (by omega) (by simp; omega) ?_; intro v5 w5 ho5 hgr5 hnn5)
          have hb5 : Below w.heap.size w4 w5 := ((Below.refl w.heap.size w4).alloc hN4 _).grown hgr5 (by simp; omega) (own2_lt ho4)
          have HE := hidden (show Hand w g ao cap bs 11 v5 w5 from ⟨_, by rw [List.length_append]; simp; omega, own1_app ho5 hnn5, cur_above hc4 hb5 hgl, K4.out.on hb5⟩)
          clear ho5 hgr5 hnn5 hb5
          go_wp2_with fail
          go_meet
          case rel => exact HE.out
        · obtain ⟨G', c', e', ho4⟩ := HO4.out
          obtain ⟨rfl, rfl⟩ : G1 = G' ∧ c1 = c' := by simpa using e'
          have hcl2 := (ho4.cellAt (k * 2 + 1) (by omega)).trans (cellsJ_get l1 k hk).2
          have hN4 := K4.out.size
          generalize (l1.getD k (0, 0)).2 = q2 at *
          clear e'
          go_wp2_with (at_builtin; refine wpList_append_own _ rfl (.tmp 56) (.tmp 63) 42 rfl w.heap.size 50 i0 (.agg #[.int .i64 0, .int .i64 0]) 2 16 Try.underlying42 hi hz0 hz1 hz2 rfl (by decide) _ l1.length (cellsJ l1) rfl (ho4.alloc _) ⟨w4.heap.size, 0, none⟩ 1 1 [.int .i64 q2, .int .i64 40] rfl rfl (cell_two_new _ _ _ _) (two_one q2 40) (by unfold maxLen; omega) (by omega) (by simp; omega) ?_; intro v5 w5 ho5 hgr5 hnn5)
          have hb5 : Below w.heap.size w4 w5 := ((Below.refl w.heap.size w4).alloc hN4 _).grown hgr5 (by simp; omega) (own2_lt ho4)
          have HE := hidden (show Hand w g ao cap bs 11 v5 w5 from ⟨_, by rw [List.length_append]; simp; omega, own1_app ho5 hnn5, cur_above hc4 hb5 hgl, K4.out.on hb5⟩)
          clear ho5 hgr5 hnn5 hb5
          go_wp2_with fail
          go_meet
          case rel => exact HE.out
      case rest =>
        obtain ⟨l, hl, ho, hc, hk⟩ := hcut
        have HO := hidden ho
        obtain ⟨G, c, rfl, -⟩ := ho
        clear HO2 K2 hc2
        go_wp2_with fail
        refine (once_any g ao cap bs 60 _ hc (by omega)).mono ?_
        rintro e w3 ⟨t2, rfl, hc3, hk3⟩
        have HO3 := hidden (HO.out.keep hk3 hgl)
        have K3 := hk.trans hk3
        clear hk hk3 hc HO
        cases t2 with
        | false =>
          go_wp2_with fail
          go_ret
          exact ⟨_, rfl, l, by omega, HO3.out, hc3, K3⟩
        | true =>
          have hoE := own1_empty w3
          have hbE : Below w3.heap.size w3 (w3.alloc (.cells #[] 50)) := (Below.refl _ w3).alloc (Nat.le_refl _) _
          have hcE := hc3.below (hbE.mono (by have := hc3.1; omega))
          have hkE := K3.alloc (Obj.cells #[] 50)
          have hN3 := K3.size
          have hoE' := own1_base hoE hN3
          clear hbE hoE hc3 K3 HO3
          go_wp2_with fail
          go_loopw [3, 5] (fun ov iv wr => ∃ (i : Nat) (l : List J), i ≤ 201 ∧ iv = .int .i64 i ∧ Hid (l.length = i) ∧ (∃ G c0, ov = .slice (some ⟨G, 0, none⟩) l.length c0 ∧ wr.ownsRow w.heap.size 50 2 (.slice (some ⟨G, 0, none⟩) l.length c0) l.length (cellsJ l)) ∧ Cur wr g ao cap bs ∧ Keep g w wr) (fun _ iv _ => 201 - (intOf iv).toNat)
          case atStart =>
            obtain ⟨G0, c0, e0, hoE0⟩ := hoE'
            exact ⟨0, [], by omega, rfl, rfl, ⟨G0, c0, e0, hoE0⟩, hcE, hkE⟩
          case round =>
            clear hoE' hcE hkE
            obtain ⟨i, l2, hi2, rfl, hl2, ⟨G2, c2, rfl, ho⟩, hc, hk⟩ := hrel
            have hl3 : l2.length ≤ 201 := by rw [hl2.out]; exact hi2
            have HO := hidden ho
            clear ho
            go_wp2_with fail
            refine (below_any g ao cap bs 2 _ hc (by omega)).mono ?_
            rintro e w5 ⟨b, rfl, hb0, hb1, hc5, hk5⟩
            have ho5 := own_keep HO.out hk5 hgl
            have K5 := hk.trans hk5
            have hN5 := K5.size
            clear HO hk hk5 hc
            by_cases hlt : (i : Int) < 200 + b
            · go_wp2_with (at_builtin; refine wpList_append_own _ rfl (.tmp 75) (.tmp 78) 42 rfl w.heap.size 50 i0 (.agg #[.int .i64 0, .int .i64 0]) 2 16 Try.underlying42 hi hz0 hz1 hz2 rfl (by decide) _ l2.length (cellsJ l2) rfl (ho5.alloc _) ⟨w5.heap.size, 0, none⟩ 1 1 [.int .i64 999, .int .i64 i] rfl rfl (cell_two_new _ _ _ _) (two_one 999 i) (by unfold maxLen; omega) (by omega) (by simp; omega) ?_; intro v6 w6 ho6 hgr6 hnn6)
              have hb6 : Below w.heap.size w5 w6 := ((Below.refl w.heap.size w5).alloc hN5 _).grown hgr6 (by simp; omega) (own2_lt ho5)
              have hA := own1_app ho6 hnn6
              have hc6 := cur_above hc5 hb6 hgl
              have K6 := K5.on hb6
              obtain ⟨G6, c6, rfl, ho6'⟩ := hA
              have HO6 := hidden ho6'
              clear ho6 hgr6 hnn6 hb6 ho6'
              go_wp2_with fail
              go_roundw
              case rel => exact ⟨i + 1, l2 ++ [(999, (i : Int))], by omega, rfl, by rw [Hid, List.length_append, hl2.out]; rfl, ⟨_, _, rfl, HO6.out⟩, hc6, K6⟩
              case measure => simp [intOf]; omega
            · have HO5 := hidden ho5
              clear ho5
              go_wp2_with fail
              go_ret
              exact ⟨_, rfl, l2, by omega, ⟨_, _, rfl, HO5.out⟩, hc5, K5⟩
    · have hposi : ¬ (l1.length : Int) > 0 := by omega
      go_wp2_with fail
      refine (once_any g ao cap bs 60 _ hc2 (by omega)).mono ?_
      rintro e w3 ⟨t2, rfl, hc3, hk3⟩
      have HO3 := hidden (HO2.out.keep hk3 hgl)
      have K3 := K2.out.trans hk3
      clear K2 hk3 hc2 HO2
      cases t2 with
      | false =>
        go_wp2_with fail
        go_ret
        exact ⟨_, rfl, l1, by omega, HO3.out, hc3, K3⟩
      | true =>
        have hoE := own1_empty w3
        have hbE : Below w3.heap.size w3 (w3.alloc (.cells #[] 50)) := (Below.refl _ w3).alloc (Nat.le_refl _) _
        have hcE := hc3.below (hbE.mono (by have := hc3.1; omega))
        have hkE := K3.alloc (Obj.cells #[] 50)
        have hN3 := K3.size
        have hoE' := own1_base hoE hN3
        clear hbE hoE hc3 K3 HO3
        go_wp2_with fail
        go_loopw [3, 5] (fun ov iv wr => ∃ (i : Nat) (l : List J), i ≤ 201 ∧ iv = .int .i64 i ∧ Hid (l.length = i) ∧ (∃ G c0, ov = .slice (some ⟨G, 0, none⟩) l.length c0 ∧ wr.ownsRow w.heap.size 50 2 (.slice (some ⟨G, 0, none⟩) l.length c0) l.length (cellsJ l)) ∧ Cur wr g ao cap bs ∧ Keep g w wr) (fun _ iv _ => 201 - (intOf iv).toNat)
        case atStart =>
          obtain ⟨G0, c0, e0, hoE0⟩ := hoE'
          exact ⟨0, [], by omega, rfl, rfl, ⟨G0, c0, e0, hoE0⟩, hcE, hkE⟩
        case round =>
          clear hoE' hcE hkE
          obtain ⟨i, l2, hi2, rfl, hl2, ⟨G2, c2, rfl, ho⟩, hc, hk⟩ := hrel
          have hl3 : l2.length ≤ 201 := by rw [hl2.out]; exact hi2
          have HO := hidden ho
          clear ho
          go_wp2_with fail
          refine (below_any g ao cap bs 2 _ hc (by omega)).mono ?_
          rintro e w5 ⟨b, rfl, hb0, hb1, hc5, hk5⟩
          have ho5 := own_keep HO.out hk5 hgl
          have K5 := hk.trans hk5
          have hN5 := K5.size
          clear HO hk hk5 hc
          by_cases hlt : (i : Int) < 200 + b
          · go_wp2_with (at_builtin; refine wpList_append_own _ rfl (.tmp 75) (.tmp 78) 42 rfl w.heap.size 50 i0 (.agg #[.int .i64 0, .int .i64 0]) 2 16 Try.underlying42 hi hz0 hz1 hz2 rfl (by decide) _ l2.length (cellsJ l2) rfl (ho5.alloc _) ⟨w5.heap.size, 0, none⟩ 1 1 [.int .i64 999, .int .i64 i] rfl rfl (cell_two_new _ _ _ _) (two_one 999 i) (by unfold maxLen; omega) (by omega) (by simp; omega) ?_; intro v6 w6 ho6 hgr6 hnn6)
            have hb6 : Below w.heap.size w5 w6 := ((Below.refl w.heap.size w5).alloc hN5 _).grown hgr6 (by simp; omega) (own2_lt ho5)
            have hA := own1_app ho6 hnn6
            have hc6 := cur_above hc5 hb6 hgl
            have K6 := K5.on hb6
            obtain ⟨G6, c6, rfl, ho6'⟩ := hA
            have HO6 := hidden ho6'
            clear ho6 hgr6 hnn6 hb6 ho6'
            go_wp2_with fail
            go_roundw
            case rel => exact ⟨i + 1, l2 ++ [(999, (i : Int))], by omega, rfl, by rw [Hid, List.length_append, hl2.out]; rfl, ⟨_, _, rfl, HO6.out⟩, hc6, K6⟩
            case measure => simp [intOf]; omega
          · have HO5 := hidden ho5
            clear ho5
            go_wp2_with fail
            go_ret
            exact ⟨_, rfl, l2, by omega, ⟨_, _, rfl, HO5.out⟩, hc5, K5⟩
end Go.Proofs.Ytdnnenklkfkhcaa
