/-
  Marks of units: what a marking leaves in a list of one's own.
-/
import Derived.Test.YtaidhcbchpcemabQ34
namespace Go.Proofs.Ytaidhcbchpcemab
open Go.RowKit Va Bl
set_option linter.all false

theorem ownQ_any {w : World} {base e s n G c : Nat} {xs : List Value} (h : w.ownsRow base e s (.slice (some ⟨G, 0, none⟩) n c) n xs) {j : Nat} (hj : j < n * s) : (∃ u, w.cell? ⟨G, j, none⟩ = some u) ∧ w.frozen? ⟨G, j, none⟩ = false ∧ G < w.heap.size := by
  obtain ⟨q, ⟨h1, _⟩ | ⟨g, cap, cur, h1, hb, hg, hc, hm, hs, hx⟩⟩ := h
  · cases h1
  · simp only [Value.slice.injEq, Option.some.injEq, Addr.mk.injEq, and_true, true_and] at h1
    obtain ⟨rfl, rfl⟩ := h1
    have hjc : j < cur.size := by
      have : n * s ≤ c * s := Nat.mul_le_mul_right s hc
      omega
    refine ⟨⟨cur[j], ?_⟩, ?_, (Array.getElem?_eq_some_iff.1 hg).1⟩
    · simp only [World.cell?, hg]
      exact Array.getElem?_eq_getElem hjc
    · simp only [World.frozen?, hg]
      rfl
theorem pair_at {l P : List Ut} {L : List (Ut × Value)} {i : Nat} {x : Ut} (h : L.map Prod.fst = P ++ l.drop i) (hp : P.length = i) (hx : l[i]? = some x) : ∃ tv, L[i]? = some (x, tv) := by
  have e : (L.map Prod.fst)[i]? = some x := by
    rw [h, List.getElem?_append_right (by omega), hp, Nat.sub_self, List.getElem?_drop, Nat.add_zero]
    exact hx
  rw [List.getElem?_map] at e
  obtain ⟨⟨y, tv⟩, h1, h2⟩ := Option.map_eq_some_iff.1 e
  simp only at h2
  subst h2
  exact ⟨tv, h1⟩
theorem pair_keep {l P : List Ut} {L : List (Ut × Value)} {i : Nat} {x : Ut} (h : L.map Prod.fst = P ++ l.drop i) (hx : l[i]? = some x) : L.map Prod.fst = (P ++ [x]) ++ l.drop (i + 1) := by
  have hi := get_lt' hx
  rw [h, List.append_assoc, List.drop_eq_getElem_cons hi]
  have : l[i] = x := by rw [List.getElem?_eq_getElem hi] at hx; exact Option.some.inj hx
  rw [this]; rfl
theorem pair_set {l P : List Ut} {L : List (Ut × Value)} {i : Nat} {x y : Ut} {tv : Value} (h : L.map Prod.fst = P ++ l.drop i) (hp : P.length = i) (hx : l[i]? = some x) : (L.set i (y, tv)).map Prod.fst = (P ++ [y]) ++ l.drop (i + 1) := by
  rw [List.map_set, pair_keep h hx, List.append_assoc, List.set_append_right _ _ (by omega), hp, Nat.sub_self, List.append_assoc]
  rfl

set_option maxRecDepth 20000 in
set_option maxHeartbeats 2000000 in
theorem markintsX_any (base T n c : Nat) (xs : List Int) (k0 : Int) (w : World) (hx : xs.length = n) (h : w.ownsRow base 2 1 (.slice (some ⟨T, 0, none⟩) n c) n (xs.map fun z => Value.int .i64 z)) (hn : n ≤ 1048576) (hk0 : 0 ≤ k0) (hk1 : k0 ≤ 1000000000000000) :
    Calls Try.prog 23 #[.slice (some ⟨T, 0, none⟩) n c, .int .i64 k0] w fun e w' => e = .returned (.int .i64 (k0 + n)) ∧ w'.ownsRow base 2 1 (.slice (some ⟨T, 0, none⟩) n c) n ((num k0 n).map fun z => Value.int .i64 z) ∧ Kp T (T + 1) w w' := by
  have h0 : w.ownsRow base 2 1 (.slice (some ⟨T, 0, none⟩) n c) n (((num k0 n).take 0 ++ xs.drop 0).map fun z => Value.int .i64 z) := h
  have HX := hidden hx
  clear h hx
  go_enter Try.func23, Try.ntmps23
  go_wp2_with fail
  go_loopw [1, 5] (fun kv iv wr => ∃ i : Nat, i ≤ n ∧ kv = .int .i64 (k0 + (i : Int)) ∧ iv = .int .i64 i ∧ Kp T (T + 1) w wr ∧ wr.ownsRow base 2 1 (.slice (some ⟨T, 0, none⟩) n c) n (((num k0 n).take i ++ xs.drop i).map fun z => Value.int .i64 z)) (fun _ iv _ => n - (intOf iv).toNat)
  case atStart => exact ⟨0, Nat.zero_le _, by simp, rfl, Kp.refl _ _ _, h0⟩
  case round =>
    clear h0
    obtain ⟨i, hi, rfl, rfl, ha, ho⟩ := hrel
    by_cases hlt : i < n
    · have hlti : (i : Int) < (n : Int) := by omega
      obtain ⟨⟨u0, hu0⟩, hf0, hl0⟩ := ownQ_any ho (j := i) (by omega)
      have ha2 := ha.set (b := T) (Nat.le_refl _) (by omega) i (.int .i64 (k0 + (i : Int)))
      have ho2 := ownQ_put ho i (by omega) (.int .i64 (k0 + (i : Int)))
      have e : ((((num k0 n).take i ++ xs.drop i).map fun z => Value.int .i64 z).set i (.int .i64 (k0 + (i : Int)))) = (((num k0 n).take (i + 1) ++ xs.drop (i + 1)).map fun z => Value.int .i64 z) := by
        have e1 := num_get k0 n i hlt
        have e2 : ((num k0 n).take i).length = i := by rw [List.length_take, num_len]; omega
        rw [← List.map_set, List.set_append_right _ _ (by omega), e2, Nat.sub_self, take_snocU e1, List.append_assoc]
        have e3 : i < xs.length := by have := HX.out; omega
        rw [List.drop_eq_getElem_cons e3]
        rfl
      rw [e] at ho2
      have HO := hidden ho2
      clear ha ho ho2 e
      go_wp2_with fail
      go_roundw
      case rel => exact ⟨i + 1, by omega, by congr 1; omega, rfl, ha2, HO.out⟩
      case measure => simp [intOf]; omega
    · have hlti : ¬ (i : Int) < (n : Int) := by omega
      have hin : i = n := by omega
      subst hin
      have HF : Hid ((num k0 i).take i ++ xs.drop i = num k0 i) := by
        have := HX.out
        rw [Hid, List.drop_of_length_le (by omega), List.append_nil, List.take_of_length_le (by rw [num_len]; omega)]
      rw [HF.out] at ho
      go_wp2_with fail
      go_ret
      exact ⟨rfl, ho, ha⟩
/-- A row is marked: the others stay. -/
theorem Antis.mark {w w' : World} {base i T : Nat} {L : List (Ut × Value)} {x y : Ut} {n c : Nat} (h : Antis w base L) (hp : L[i]? = some (x, .slice (some ⟨T, 0, none⟩) n c)) (hk : Kp T (T + 1) w w') (ho : w'.ownsRow base 2 1 (.slice (some ⟨T, 0, none⟩) n c) y.ant.length (y.ant.map fun z => Value.int .i64 z)) : Antis w' base (L.set i (y, .slice (some ⟨T, 0, none⟩) n c)) := by
  have hi := get_lt' hp
  have hpw : ∀ (j k : Nat) (p q : Ut × Value), j < k → L[j]? = some p → L[k]? = some q → ∀ b, p.2.ownBlock = some b → q.2.ownBlock ≠ some b := by
    intro j k p q hjk h1 h2
    have h3 := List.pairwise_iff_getElem.1 h.2 j k (get_lt' h1) (get_lt' h2) hjk
    rw [List.getElem?_eq_getElem (get_lt' h1)] at h1
    rw [List.getElem?_eq_getElem (get_lt' h2)] at h2
    rw [Option.some.inj h1, Option.some.inj h2] at h3
    exact h3
  have hset := Antis.turn (y := { y with ant := x.ant }) h hp rfl
  refine ⟨fun p hp2 => ?_, ?_⟩
  · obtain ⟨j, hj⟩ := List.getElem?_of_mem hp2
    rw [List.getElem?_set] at hj
    split at hj
    · rename_i hij
      rw [← Option.some.inj hj]; exact ho
    · rename_i hij
      have hTO := h.1 p (List.mem_of_getElem? hj)
      have hne : ∀ b, p.2.ownBlock = some b → b ≠ T := fun b hb e => by
        rcases Nat.lt_or_gt_of_ne hij with hl | hl
        · exact hpw i j _ p hl hp hj T rfl (by rw [← e]; exact hb)
        · exact hpw j i p _ hl hj hp b hb (by rw [e]; rfl)
      obtain ⟨q, ⟨q1, q2⟩ | ⟨g, cc, cur, q1, hgb, hh, r⟩⟩ := hTO
      · exact ⟨q, Or.inl ⟨q1, q2⟩⟩
      · refine ⟨q, Or.inr ⟨g, cc, cur, q1, hgb, (hk.block g ?_).trans hh, r⟩⟩
        have := hne g (by rw [q1]; rfl)
        omega
  · have e : (L.set i (y, Value.slice (some ⟨T, 0, none⟩) n c)).map Prod.snd = (L.set i (({ y with ant := x.ant } : Ut), Value.slice (some ⟨T, 0, none⟩) n c)).map Prod.snd := by rw [List.map_set, List.map_set]
    have h2 := hset.2
    have h4 : ((L.set i (({ y with ant := x.ant } : Ut), Value.slice (some ⟨T, 0, none⟩) n c)).map Prod.snd).Pairwise (fun a b => ∀ k, a.ownBlock = some k → b.ownBlock ≠ some k) := by rw [List.pairwise_map]; exact h2
    rw [← e, List.pairwise_map] at h4
    exact h4

theorem kpU_own {lo hi base e s n : Nat} {w w' : World} {v : Value} {xs : List Value} (h : Kp lo hi w w') (ho : w.ownsRow base e s v n xs) (hl : ∀ k, v.ownBlock = some k → k < lo ∨ hi ≤ k) : w'.ownsRow base e s v n xs := kp_own h ho hl
theorem cellsU_mark (L : List (Ut × Value)) : ∀ i x tv y, L[i]? = some (x, tv) → (((((cellsU L).set (i * 6) (.int .i64 y.id)).set (i * 6 + 1) (.int .i64 y.grp)).set (i * 6 + 3) (.int .i64 y.til)).set (i * 6 + 4) (.int .i64 y.st)).set (i * 6 + 5) (.int .i64 y.fr) = cellsU (L.set i (y, tv)) := by
  induction L with
  | nil => intro i x tv y h; cases h
  | cons q L ih =>
    intro i x tv y h
    cases i with
    | zero =>
      obtain rfl : q = (x, tv) := by simpa using h
      rfl
    | succ i =>
      have e := ih i x tv y (by simpa using h)
      show _ = cells6 q ++ cellsU (L.set i _)
      rw [← e, Nat.succ_mul]
      rfl

set_option maxRecDepth 20000 in
set_option maxHeartbeats 8000000 in
/-- What a marking leaves. -/
theorem markunitsX_any (base G c : Nat) (L : List (Ut × Value)) (k0 : Int) (w : World) (h : w.ownsRow base 30 6 (.slice (some ⟨G, 0, none⟩) L.length c) L.length (cellsU L)) (hT : Antis w base L) (hn : L.length ≤ 1048576) (ht : ∀ p ∈ L, p.1.ant.length ≤ 1048576) (hk0 : 0 ≤ k0) (hk1 : k0 ≤ 1000) :
    Calls Try.prog 21 #[.slice (some ⟨G, 0, none⟩) L.length c, .int .i64 k0] w fun e w' => ∃ M : List (Ut × Value), M.length = L.length ∧ M.map Prod.fst = marked k0 (L.map Prod.fst) ∧ M.map Prod.snd = L.map Prod.snd ∧ e = .returned (.int .i64 (k0 + tot (L.map Prod.fst))) ∧ w'.ownsRow base 30 6 (.slice (some ⟨G, 0, none⟩) L.length c) L.length (cellsU M) ∧ Antis w' base M ∧ Kp base w.heap.size w w' := by
  generalize hl : L.map Prod.fst = l
  have hll : l.length = L.length := by rw [← hl, List.length_map]
  have htl : ∀ x ∈ l, x.ant.length ≤ 1048576 := fun x hx => by
    rw [← hl] at hx
    obtain ⟨p, hp, rfl⟩ := List.mem_map.1 hx
    exact ht p hp
  have HT := hidden htl
  have HL := hidden hl
  have HLL := hidden hll
  have M0 : Hid (L.map Prod.fst = (marked k0 l).take 0 ++ l.drop 0) := by rw [Hid, hl]; rfl
  clear hl hll ht htl
  go_enter Try.func21, Try.ntmps21
  go_wp2_with fail
  go_loopw [1, 5] (fun kv iv wr => ∃ (i : Nat) (C : List (Ut × Value)), i ≤ L.length ∧ kv = .int .i64 (k0 + tot (l.take i)) ∧ iv = .int .i64 i ∧ Hid (C.length = L.length) ∧ Hid (C.map Prod.fst = (marked k0 l).take i ++ l.drop i) ∧ Hid (C.map Prod.snd = L.map Prod.snd) ∧ wr.ownsRow base 30 6 (.slice (some ⟨G, 0, none⟩) L.length c) L.length (cellsU C) ∧ Antis wr base C ∧ Kp base w.heap.size w wr) (fun _ iv _ => L.length - (intOf iv).toNat)
  case atStart => exact ⟨0, L, Nat.zero_le _, by simp [tot], rfl, rfl, M0, rfl, h, hT, Kp.refl _ _ _⟩
  case round =>
    clear h hT M0
    obtain ⟨i, C, hi, rfl, rfl, hC, HM, HN, ho, hT, ha⟩ := hrel
    have hbd := tot_bd HT.out i
    by_cases hlt : i < L.length
    · have hlti : (i : Int) < (L.length : Int) := by omega
      obtain ⟨x, hx⟩ := some_of l i (by have := HLL.out; omega)
      have hml : ((marked k0 l).take i).length = i := by rw [List.length_take, marked_len]; have := HLL.out; omega
      obtain ⟨tv, hp⟩ := pair_at HM.out hml hx
      have hxl := HT.out x (List.mem_of_getElem? hx)
      have hTO := hT.1 (x, tv) (List.mem_of_getElem? hp)
      have hGl := ownW_lt ho G rfl
      obtain ⟨at9, ct, htv⟩ := ownW_slice hTO
      dsimp only at htv
      subst htv
      have ho6 := ho
      rw [← hC.out] at ho6
      obtain ⟨g', c', he', -, -, -, c0, c1, c2, c3, c4, c5⟩ := own_six ho6 hp
      simp only [Value.slice.injEq, Option.some.injEq, Addr.mk.injEq, and_true, true_and] at he'
      obtain ⟨rfl, -⟩ := he'
      clear ho6
      dsimp only at c0 c1 c2 c3 c4 c5
      have cf := fun j => ownQ_fro ho j
      have f0 := cf (i * 6)
      have f1 := cf (i * 6 + 1)
      have f3 := cf (i * 6 + 3)
      have f4 := cf (i * 6 + 4)
      have f5 := cf (i * 6 + 5)
      have htk := hidden (tot_take hx)
      have hmg := hidden (marked_get l k0 i x hx)
      generalize tot (l.take i) = kt at *
      have hne : ∀ p ∈ C, ∀ b, p.2.ownBlock = some b → b ≠ G := fun p hp2 b hb e => ownQ_apart (hT.1 p hp2) ho (by decide) b hb (by rw [e]; rfl)
      have O2 := hidden (ownQ_put (ownQ_put ho (i * 6) (by omega) (.int .i64 (k0 + kt))) (i * 6 + 1) (by omega) (.int .i64 (k0 + kt + 1)))
      have T2 := hidden ((hT.set (b := G) (o := i * 6) hne (.int .i64 (k0 + kt))).set (b := G) (o := i * 6 + 1) hne (.int .i64 (k0 + kt + 1)))
      have K2 := hidden ((ha.set (b := G) hGl.1 (by have := ha.size; omega) (i * 6) (.int .i64 (k0 + kt))).set (b := G) hGl.1 (by have := ha.size; omega) (i * 6 + 1) (.int .i64 (k0 + kt + 1)))
      have HPP := hidden hp
      have HX := hidden hx
      have HNE := hidden hne
      have zw := ha.size
      have HM2 : Hid ((C.set i (mkU (k0 + kt) x, Value.slice at9 x.ant.length ct)).map Prod.fst = (marked k0 l).take (i + 1) ++ l.drop (i + 1)) := by
        rw [Hid, pair_set HM.out hml hx, ← take_snocU hmg.out]
      have HN2 : Hid ((C.set i (mkU (k0 + kt) x, Value.slice at9 x.ant.length ct)).map Prod.snd = L.map Prod.snd) := by
        rw [Hid, ← HN.out, List.map_set]
        refine List.ext_getElem? fun k => ?_
        rw [List.getElem?_set]
        split
        · rename_i hk
          subst hk
          rw [List.length_map, if_pos (by have := hC.out; omega), List.getElem?_map, hp]; rfl
        · rfl
      have hL2 : Hid ((C.set i (mkU (k0 + kt) x, Value.slice at9 x.ant.length ct)).length = L.length) := by rw [Hid, List.length_set]; exact hC.out
      have hxn : Hid (x.ant.length = 0 ∨ ∃ T, at9 = some ⟨T, 0, none⟩) := by
        rcases hTO.2 with ⟨-, h2⟩ | ⟨g, cc, cur, h1, -⟩
        · exact Or.inl h2
        · simp only [Value.slice.injEq, true_and] at h1
          exact Or.inr ⟨g, h1.1⟩
      have HTO := hidden hTO
      clear hTO ho hT ha hp hx hne cf
      have EK : Hid ((((((cellsU C).set (i * 6) (.int .i64 (k0 + kt))).set (i * 6 + 1) (.int .i64 (k0 + kt + 1))).set (i * 6 + 3) (.int .i64 (k0 + kt + 1 + 1 + x.ant.length))).set (i * 6 + 4) (.int .i64 (k0 + kt + 1 + 1 + x.ant.length + 1))).set (i * 6 + 5) (.int .i64 (k0 + kt + 1 + 1 + x.ant.length + 1 + 1)) = cellsU (C.set i (mkU (k0 + kt) x, Value.slice at9 x.ant.length ct))) := cellsU_mark C i x (.slice at9 x.ant.length ct) (mkU (k0 + kt) x) HPP.out
      rcases hxn.out with hz | ⟨T, rfl⟩
      · have hK := markint_none at9 ct (k0 + kt + 1 + 1)
        have hz2 : x.ant = [] := List.eq_nil_of_length_eq_zero hz
        obtain ⟨id, grp, ant, til, st, fr⟩ := x
        dsimp only at hz2
        subst hz2
        simp only [List.length_nil] at *
        clear hz
        go_wp2_with (go_at_call 23; refine (hK _).mono ?_; rintro e w4 ⟨rfl, rfl⟩)
        have O5 := ownQ_put (ownQ_put (ownQ_put O2.out (i * 6 + 3) (by omega) (.int .i64 (k0 + kt + 1 + 1))) (i * 6 + 4) (by omega) (.int .i64 (k0 + kt + 1 + 1 + 1))) (i * 6 + 5) (by omega) (.int .i64 (k0 + kt + 1 + 1 + 1 + 1))
        have T5 := ((T2.out.set (b := G) (o := i * 6 + 3) HNE.out (.int .i64 (k0 + kt + 1 + 1))).set (b := G) (o := i * 6 + 4) HNE.out (.int .i64 (k0 + kt + 1 + 1 + 1))).set (b := G) (o := i * 6 + 5) HNE.out (.int .i64 (k0 + kt + 1 + 1 + 1 + 1))
        have K5 := ((K2.out.set (b := G) hGl.1 (by omega) (i * 6 + 3) (.int .i64 (k0 + kt + 1 + 1))).set (b := G) hGl.1 (by omega) (i * 6 + 4) (.int .i64 (k0 + kt + 1 + 1 + 1))).set (b := G) hGl.1 (by omega) (i * 6 + 5) (.int .i64 (k0 + kt + 1 + 1 + 1 + 1))
        have e5 := EK.out
        simp only [Int.natCast_zero, Int.add_zero] at e5
        rw [e5] at O5
        have T6 := T5.turn (y := mkU (k0 + kt) ⟨id, grp, [], til, st, fr⟩) HPP.out rfl
        go_roundw
        case rel => exact ⟨i + 1, _, by omega, by rw [htk.out]; congr 1; simp; omega, rfl, hL2, HM2, HN2, O5, T6, K5⟩
        case measure => simp [intOf]; omega
      · have hTl := ownW_lt HTO.out T rfl
        have hGT : T ≠ G := HNE.out _ (List.mem_of_getElem? HPP.out) T rfl
        have hK := markintsX_any base T x.ant.length ct x.ant (k0 + kt + 1 + 1) _ rfl (T2.out.1 _ (List.mem_of_getElem? HPP.out)) hxl (by omega) (by omega)
        try dsimp only at hK
        go_wp2_with (go_at_call 23; refine hK.mono ?_; rintro e w4 ⟨rfl, ho4, kp4⟩; have O4 := hidden (kpU_own kp4 O2.out (fun k hk => by have := Option.some.inj hk; simp only at this; omega)); have d3 := (kp4.cell G (i * 6 + 3) ⟨_, World.cell?_setCell_other _ _ _ _ (by first | (simp; done) | (simp; omega)) |>.trans (World.cell?_setCell_other _ _ _ _ (by first | (simp; done) | (simp; omega)) |>.trans c3)⟩); have g3 := ownQ_fro O4.out (i * 6 + 3); have g4 := ownQ_fro O4.out (i * 6 + 4); have g5 := ownQ_fro O4.out (i * 6 + 5); obtain ⟨⟨u3, hu3⟩, -⟩ := ownQ_any O4.out (j := i * 6 + 3) (by omega); obtain ⟨⟨u4, hu4⟩, -⟩ := ownQ_any O4.out (j := i * 6 + 4) (by omega); obtain ⟨⟨u5, hu5⟩, -⟩ := ownQ_any O4.out (j := i * 6 + 5) (by omega); clear d3)
        have T4 := T2.out.mark (y := mkU (k0 + kt) x) HPP.out kp4 (by simp only [mkU, num_len]; exact ho4)
        have K4 := K2.out.trans kp4 hTl.1 (by omega)
        generalize hkk : k0 + kt + 1 + 1 + (x.ant.length : Int) = kk at *
        have hne4 : ∀ p ∈ C.set i (mkU (k0 + kt) x, Value.slice (some ⟨T, 0, none⟩) x.ant.length ct), ∀ b, p.2.ownBlock = some b → b ≠ G := fun p hp2 b hb e => ownQ_apart (T4.1 p hp2) O4.out (by decide) b hb (by rw [e]; rfl)
        have O5 := ownQ_put (ownQ_put (ownQ_put O4.out (i * 6 + 3) (by omega) (.int .i64 kk)) (i * 6 + 4) (by omega) (.int .i64 (kk + 1))) (i * 6 + 5) (by omega) (.int .i64 (kk + 1 + 1))
        have T5 := ((T4.set (b := G) (o := i * 6 + 3) hne4 (.int .i64 kk)).set (b := G) (o := i * 6 + 4) hne4 (.int .i64 (kk + 1))).set (b := G) (o := i * 6 + 5) hne4 (.int .i64 (kk + 1 + 1))
        have K5 := ((K4.set (b := G) hGl.1 (by omega) (i * 6 + 3) (.int .i64 kk)).set (b := G) hGl.1 (by omega) (i * 6 + 4) (.int .i64 (kk + 1))).set (b := G) hGl.1 (by omega) (i * 6 + 5) (.int .i64 (kk + 1 + 1))
        rw [EK.out] at O5
        have HKK := hidden hkk
        clear hkk
        go_roundw
        case rel => exact ⟨i + 1, _, by omega, by rw [htk.out, ← HKK.out]; congr 1; omega, rfl, hL2, HM2, HN2, O5, T5, K5⟩
        case measure => simp [intOf]; omega
    · have hlti : ¬ (i : Int) < (L.length : Int) := by omega
      have hin : i = L.length := by omega
      have HF : Hid (C.map Prod.fst = marked k0 l) := by
        have := HLL.out
        rw [Hid, HM.out, hin, List.drop_of_length_le (by omega), List.append_nil, List.take_of_length_le (by rw [marked_len]; omega)]
      have HF2 : Hid (tot (l.take i) = tot l) := by rw [Hid, hin, ← HLL.out, List.take_length]
      clear hin
      go_wp2_with fail
      go_ret
      exact ⟨C, hC.out, HF.out, HN.out, by rw [← HF2.out]; rfl, ho, hT, ha⟩

end Go.Proofs.Ytaidhcbchpcemab
