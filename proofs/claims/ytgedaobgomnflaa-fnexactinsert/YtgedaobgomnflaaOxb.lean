/-
  Marks of operations: what a marking leaves in a list of one's own.
-/
import Derived.Test.YtgedaobgomnflaaOx
import Derived.Test.YtgedaobgomnflaaOr
import Derived.Test.YtgedaobgomnflaaOyb
namespace Go.Proofs.Ytgedaobgomnflaa
open Go.RowKit Va Oa
set_option linter.unusedVariables false

set_option maxRecDepth 20000 in
set_option maxHeartbeats 2000000 in
theorem markintsX_any (base T n c : Nat) (xs : List Int) (k0 : Int) (w : World) (hx : xs.length = n) (h : w.ownsRow base 2 1 (.slice (some ⟨T, 0, none⟩) n c) n (xs.map fun z => Value.int .i64 z)) (hn : n ≤ 1048576) (hk0 : 0 ≤ k0) (hk1 : k0 ≤ 1000000000000000) :
    Calls Try.prog 27 #[.slice (some ⟨T, 0, none⟩) n c, .int .i64 k0] w fun e w' => e = .returned (.int .i64 (k0 + n)) ∧ w'.ownsRow base 2 1 (.slice (some ⟨T, 0, none⟩) n c) n ((num k0 n).map fun z => Value.int .i64 z) ∧ Kp T (T + 1) w w' := by
  have h0 : w.ownsRow base 2 1 (.slice (some ⟨T, 0, none⟩) n c) n (((num k0 n).take 0 ++ xs.drop 0).map fun z => Value.int .i64 z) := h
  have HX := hidden hx
  clear h hx
  go_enter Try.func27, Try.ntmps27
  go_wp2_with fail
  go_loopw [1, 5] (fun kv iv wr => ∃ i : Nat, i ≤ n ∧ kv = .int .i64 (k0 + (i : Int)) ∧ iv = .int .i64 i ∧ Kp T (T + 1) w wr ∧ wr.ownsRow base 2 1 (.slice (some ⟨T, 0, none⟩) n c) n (((num k0 n).take i ++ xs.drop i).map fun z => Value.int .i64 z)) (fun _ iv _ => n - (intOf iv).toNat)
  case atStart => exact ⟨0, Nat.zero_le _, by simp, rfl, Kp.refl _ _ _, h0⟩
  case round =>
    clear h0
    obtain ⟨i, hi, rfl, rfl, ha, ho⟩ := hrel
    by_cases hlt : i < n
    · have hlti : (i : Int) < (n : Int) := by omega
      obtain ⟨⟨u0, hu0⟩, hf0, hl0⟩ := own_any ho (j := i) (by omega)
      have ha2 := ha.set (b := T) (Nat.le_refl _) (by omega) i (.int .i64 (k0 + (i : Int)))
      have ho2 := own_cell ho i (by omega) (.int .i64 (k0 + (i : Int)))
      have e : ((((num k0 n).take i ++ xs.drop i).map fun z => Value.int .i64 z).set i (.int .i64 (k0 + (i : Int)))) = (((num k0 n).take (i + 1) ++ xs.drop (i + 1)).map fun z => Value.int .i64 z) := by
        have e1 := num_get k0 n i hlt
        have e2 : ((num k0 n).take i).length = i := by rw [List.length_take, num_len]; omega
        rw [← List.map_set, List.set_append_right _ _ (by omega), e2, Nat.sub_self, take_snocW e1, List.append_assoc]
        have e3 : i < xs.length := by have := HX.out; omega
        rw [List.drop_eq_getElem_cons e3]
        rfl
      rw [e] at ho2
      have HO := hidden ho2
      clear ha ho ho2 e
      go_wp2_with fail
      go_roundw
      case rel => exact ⟨i + 1, by omega, by congr 1; omega, rfl, ha2, HO.out⟩
      case measure => simp [intOf]; omega
    · have hlti : ¬ (i : Int) < (n : Int) := by omega
      have hin : i = n := by omega
      subst hin
      have HF : Hid ((num k0 i).take i ++ xs.drop i = num k0 i) := by
        have := HX.out
        rw [Hid, List.drop_of_length_le (by omega), List.append_nil, List.take_of_length_le (by rw [num_len]; omega)]
      rw [HF.out] at ho
      go_wp2_with fail
      go_ret
      exact ⟨rfl, ho, ha⟩
theorem Kp.own2 {lo hi base e s n : Nat} {w w' : World} {v : Value} {xs : List Value} (h : Kp lo hi w w') (ho : w.ownsRow base e s v n xs) (hl : ∀ k, v.ownBlock = some k → k < lo ∨ hi ≤ k) : w'.ownsRow base e s v n xs := by
  obtain ⟨q, ⟨q1, q2⟩ | ⟨g, c, cur, rfl, hg, hh, r⟩⟩ := ho
  · exact ⟨q, Or.inl ⟨q1, q2⟩⟩
  · exact ⟨q, Or.inr ⟨g, c, cur, rfl, hg, (h.block g (hl g rfl)).trans hh, r⟩⟩
theorem cellsO_set3 (L : List (Opn × Value)) : ∀ i x tv y, L[i]? = some (x, tv) → (((cellsO L).set (i * 4) (.int .i64 y.room)).set (i * 4 + 1) (.int .i64 y.fr)).set (i * 4 + 2) (.int .i64 y.to) = cellsO (L.set i (y, tv)) := by
  induction L with
  | nil => intro i x tv y h; cases h
  | cons q L ih =>
    intro i x tv y h
    cases i with
    | zero =>
      obtain rfl : q = (x, tv) := by simpa using h
      rfl
    | succ i =>
      have e := ih i x tv y (by simpa using h)
      show _ = [Value.int .i64 q.1.room, .int .i64 q.1.fr, .int .i64 q.1.to, q.2] ++ cellsO (L.set i _)
      rw [← e, Nat.succ_mul]
      rfl
/-- A team is marked: the others stay. -/
theorem Teams.mark {w w' : World} {base i T : Nat} {L : List (Opn × Value)} {x y : Opn} {n c : Nat} (h : Teams w base L) (hp : L[i]? = some (x, .slice (some ⟨T, 0, none⟩) n c)) (hk : Kp T (T + 1) w w') (ho : w'.ownsRow base 2 1 (.slice (some ⟨T, 0, none⟩) n c) y.team.length (y.team.map fun z => Value.int .i64 z)) : Teams w' base (L.set i (y, .slice (some ⟨T, 0, none⟩) n c)) := by
  have hi := get_lt' hp
  have hpw : ∀ (j k : Nat) (p q : Opn × Value), j < k → L[j]? = some p → L[k]? = some q → ∀ b, p.2.ownBlock = some b → q.2.ownBlock ≠ some b := by
    intro j k p q hjk h1 h2
    have h3 := List.pairwise_iff_getElem.1 h.2 j k (get_lt' h1) (get_lt' h2) hjk
    rw [List.getElem?_eq_getElem (get_lt' h1)] at h1
    rw [List.getElem?_eq_getElem (get_lt' h2)] at h2
    rw [Option.some.inj h1, Option.some.inj h2] at h3
    exact h3
  have hset := Teams.set (y := ⟨y.room, y.fr, y.to, x.team⟩) h hp rfl
  refine ⟨fun p hp2 => ?_, ?_⟩
  · obtain ⟨j, hj⟩ := List.getElem?_of_mem hp2
    rw [List.getElem?_set] at hj
    split at hj
    · rename_i hij
      rw [← Option.some.inj hj]; exact ho
    · rename_i hij
      have hTO := h.1 p (List.mem_of_getElem? hj)
      have hne : ∀ b, p.2.ownBlock = some b → b ≠ T := fun b hb e => by
        rcases Nat.lt_or_gt_of_ne hij with hl | hl
        · exact hpw i j _ p hl hp hj T rfl (by rw [← e]; exact hb)
        · exact hpw j i p _ hl hj hp b hb (by rw [e]; rfl)
      obtain ⟨q, ⟨q1, q2⟩ | ⟨g, cc, cur, q1, hgb, hh, r⟩⟩ := hTO
      · exact ⟨q, Or.inl ⟨q1, q2⟩⟩
      · refine ⟨q, Or.inr ⟨g, cc, cur, q1, hgb, (hk.block g ?_).trans hh, r⟩⟩
        have := hne g (by rw [q1]; rfl)
        omega
  · have e : (L.set i (y, Value.slice (some ⟨T, 0, none⟩) n c)).map Prod.snd = (L.set i (⟨y.room, y.fr, y.to, x.team⟩, Value.slice (some ⟨T, 0, none⟩) n c)).map Prod.snd := by rw [List.map_set, List.map_set]
    have h2 := hset.2
    have h4 : ((L.set i (⟨y.room, y.fr, y.to, x.team⟩, Value.slice (some ⟨T, 0, none⟩) n c)).map Prod.snd).Pairwise (fun a b => ∀ k, a.ownBlock = some k → b.ownBlock ≠ some k) := by rw [List.pairwise_map]; exact h2
    rw [← e, List.pairwise_map] at h4
    exact h4

set_option maxRecDepth 20000 in
set_option maxHeartbeats 4000000 in
/-- What a marking leaves. -/
theorem markopsX_any (base G c : Nat) (L : List (Opn × Value)) (k0 : Int) (w : World) (h : w.ownsRow base 32 4 (.slice (some ⟨G, 0, none⟩) L.length c) L.length (cellsO L)) (hT : Teams w base L) (hn : L.length ≤ 1048576) (ht : ∀ p ∈ L, p.1.team.length ≤ 1048576 ∧ 1 ≤ p.1.team.length) (hk0 : 0 ≤ k0) (hk1 : k0 ≤ 1000) :
    Calls Try.prog 17 #[.slice (some ⟨G, 0, none⟩) L.length c, .int .i64 k0] w fun e w' => ∃ M : List (Opn × Value), M.length = L.length ∧ M.map Prod.fst = marked k0 (L.map Prod.fst) ∧ M.map Prod.snd = L.map Prod.snd ∧ e = .returned (.int .i64 (k0 + tot (L.map Prod.fst))) ∧ w'.ownsRow base 32 4 (.slice (some ⟨G, 0, none⟩) L.length c) L.length (cellsO M) ∧ Teams w' base M ∧ Kp base w.heap.size w w' := by
  generalize hl : L.map Prod.fst = l
  have hll : l.length = L.length := by rw [← hl, List.length_map]
  have htl : ∀ x ∈ l, x.team.length ≤ 1048576 := fun x hx => by
    rw [← hl] at hx
    obtain ⟨p, hp, rfl⟩ := List.mem_map.1 hx
    exact (ht p hp).1
  have HT := hidden htl
  have HP := hidden ht
  have HL := hidden hl
  have HLL := hidden hll
  have M0 : Hid (L.map Prod.fst = (marked k0 l).take 0 ++ l.drop 0) := by rw [Hid, hl]; rfl
  clear hl hll ht htl
  go_enter Try.func17, Try.ntmps17
  go_wp2_with fail
  go_loopw [1, 5] (fun kv iv wr => ∃ (i : Nat) (C : List (Opn × Value)), i ≤ L.length ∧ kv = .int .i64 (k0 + tot (l.take i)) ∧ iv = .int .i64 i ∧ C.length = L.length ∧ Hid (C.map Prod.fst = (marked k0 l).take i ++ l.drop i) ∧ Hid (C.map Prod.snd = L.map Prod.snd) ∧ wr.ownsRow base 32 4 (.slice (some ⟨G, 0, none⟩) L.length c) L.length (cellsO C) ∧ Teams wr base C ∧ Kp base w.heap.size w wr) (fun _ iv _ => L.length - (intOf iv).toNat)
  case atStart => exact ⟨0, L, Nat.zero_le _, by simp [tot], rfl, rfl, M0, rfl, h, hT, Kp.refl _ _ _⟩
  case round =>
    clear h hT M0
    obtain ⟨i, C, hi, rfl, rfl, hC, HM, HN, ho, hT, ha⟩ := hrel
    have hbd := tot_bd HT.out i
    by_cases hlt : i < L.length
    · have hlti : (i : Int) < (L.length : Int) := by omega
      obtain ⟨x, hx⟩ := some_of l i (by have := HLL.out; omega)
      have hml : ((marked k0 l).take i).length = i := by rw [List.length_take, marked_len]; have := HLL.out; omega
      obtain ⟨tv, hp⟩ := pair_at HM.out hml hx
      have hxl := HT.out x (List.mem_of_getElem? hx)
      have hTO := hT.1 (x, tv) (List.mem_of_getElem? hp)
      have hxp : 1 ≤ x.team.length := by
        obtain ⟨p, hp2⟩ := some_of L i hlt
        have e : (L.map Prod.fst)[i]? = some x := by rw [HL.out]; exact hx
        rw [List.getElem?_map, hp2] at e
        have := (HP.out p (List.mem_of_getElem? hp2)).2
        rw [← Option.some.inj e]; exact this
      obtain ⟨T, ct, rfl⟩ : ∃ T ct, tv = .slice (some ⟨T, 0, none⟩) x.team.length ct := by
        rcases hTO.2 with ⟨h1, h2⟩ | ⟨g, cc, cur, h1, -⟩
        · simp only at h2; omega
        · exact ⟨g, cc, h1⟩
      have hTl := ownO_lt hTO T rfl
      have hGl := ownO_lt ho G rfl
      have hGT : T ≠ G := (own_apart hTO ho (by decide)) T rfl G rfl
      obtain ⟨⟨c0, c1, c2, c3⟩, cf, gl⟩ := own_cells4 ho hp hC
      have htk := hidden (tot_take hx)
      have hmg := hidden (marked_get l k0 i x hx)
      generalize tot (l.take i) = kt at *
      have O3 := own_cell (own_cell (own_cell ho (i * 4) (by omega) (.int .i64 (k0 + kt))) (i * 4 + 1) (by omega) (.int .i64 (k0 + kt + 1))) (i * 4 + 2) (by omega) (.int .i64 (k0 + kt + 1 + 1))
      have T3 : Teams (((wr.setCell ⟨G, i * 4, none⟩ (.int .i64 (k0 + kt))).setCell ⟨G, i * 4 + 1, none⟩ (.int .i64 (k0 + kt + 1))).setCell ⟨G, i * 4 + 2, none⟩ (.int .i64 (k0 + kt + 1 + 1))) base C := by
        refine ⟨fun p hp2 => ?_, hT.2⟩
        have hne : ∀ b, p.2.ownBlock = some b → b ≠ G := fun b hb => (own_apart (hT.1 p hp2) ho (by decide)) b hb G rfl
        exact own_set_at (own_set_at (own_set_at (hT.1 p hp2) hne _) hne _) hne _
      have K3 := ((ha.set (b := G) hGl.1 (by have := ha.size; omega) (i * 4) (.int .i64 (k0 + kt))).set (b := G) hGl.1 (by have := ha.size; omega) (i * 4 + 1) (.int .i64 (k0 + kt + 1))).set (b := G) hGl.1 (by have := ha.size; omega) (i * 4 + 2) (.int .i64 (k0 + kt + 1 + 1))
      have e3 := cellsO_set3 C i x (.slice (some ⟨T, 0, none⟩) x.team.length ct) (mk1 (k0 + kt) x) hp
      simp only [mk1] at e3
      rw [e3] at O3
      have hK := markintsX_any base T x.team.length ct x.team (k0 + kt + 1 + 1 + 1) _ rfl (T3.1 _ (List.mem_of_getElem? hp)) hxl (by omega) (by omega)
      have O3h := hidden O3
      have T3h := hidden T3
      have K3h := hidden K3
      have HPP := hidden hp
      have HX := hidden hx
      have zw := ha.size
      clear O3 T3 K3 hTO ho hT ha e3 hp hx
      go_wp2_with (go_at_call 27; refine hK.mono ?_; rintro e w4 ⟨rfl, ho4, kp4⟩)
      have T4 := T3h.out.mark (y := mk1 (k0 + kt) x) HPP.out kp4 (by simp only [mk1, num_len]; exact ho4)
      have O4 := kp4.own2 O3h.out (fun k hk => by have := Option.some.inj hk; simp only at this; omega)
      have K4 := K3h.out.trans kp4 hTl.1 (by omega)
      have HM2 : Hid ((C.set i (mk1 (k0 + kt) x, Value.slice (some ⟨T, 0, none⟩) x.team.length ct)).map Prod.fst = (marked k0 l).take (i + 1) ++ l.drop (i + 1)) := by
        rw [Hid, pair_set HM.out hml HX.out, ← take_snocW hmg.out]
      have HN2 : Hid ((C.set i (mk1 (k0 + kt) x, Value.slice (some ⟨T, 0, none⟩) x.team.length ct)).map Prod.snd = L.map Prod.snd) := by
        rw [Hid, ← HN.out, List.map_set]
        refine List.ext_getElem? fun k => ?_
        rw [List.getElem?_set]
        split
        · rename_i hk
          subst hk
          rw [List.length_map, if_pos (by omega), List.getElem?_map, HPP.out]; rfl
        · rfl
      go_roundw
      case rel => exact ⟨i + 1, C.set i (mk1 (k0 + kt) x, .slice (some ⟨T, 0, none⟩) x.team.length ct), by omega, by rw [htk.out]; congr 1; omega, rfl, by rw [List.length_set]; exact hC, HM2, HN2, O4, T4, K4⟩
      case measure => simp [intOf]; omega
    · have hlti : ¬ (i : Int) < (L.length : Int) := by omega
      have hin : i = L.length := by omega
      have HF : Hid (C.map Prod.fst = marked k0 l) := by
        have := HLL.out
        rw [Hid, HM.out, hin, List.drop_of_length_le (by omega), List.append_nil, List.take_of_length_le (by rw [marked_len]; omega)]
      have HF2 : Hid (tot (l.take i) = tot l) := by rw [Hid, hin, ← HLL.out, List.take_length]
      clear hin
      go_wp2_with fail
      go_ret
      exact ⟨C, hC, HF.out, HN.out, by rw [← HF2.out]; rfl, ho, hT, ha⟩
end Go.Proofs.Ytgedaobgomnflaa
