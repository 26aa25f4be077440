/-
  The values found, in a map: the program's.
-/
import Derived.Test.YtldggndhdilncaaT45
namespace Go.Proofs.Ytldggndhdilncaa
open Go.RowKit Go.Maps Va Lb
set_option linter.all false

theorem mkmapV (n : Int) (w : World) : (Instr.makeMap 41 (some (.int .i64 n))).run Try.prog w = .ok (.map (some w.heap.size)) (w.alloc (.map #[] 0)) := by
  simp [Instr.makeMap, run_underlying Try.underlying41, asInt, asIntOf, Result.andThen]
theorem vlAt_none {vs : List Vl} {t : Int} : vlAt vs t = none ↔ t ∉ vs.map Vl.te := by
  unfold vlAt
  rw [Option.map_eq_none_iff, List.find?_eq_none, List.mem_map]
  simp only [beq_iff_eq]
  constructor
  · rintro h ⟨x, hx, e⟩; exact h x hx e
  · intro h x hx e; exact h ⟨x, hx, e⟩
theorem take_next {vs : List Vl} {i : Nat} {x : Vl} (hx : vs[i]? = some x) : vs.take (i + 1) = vs.take i ++ [x] := by rw [List.take_succ, hx]; rfl
theorem vl_next {vs : List Vl} {i : Nat} {x : Vl} (h : VlOk (vs.take i)) (hl : vs.length ≤ 100) (hx : vs[i]? = some x) (ht : Tst x.te) (hn : vlAt (vs.take i) x.te = none) : VlOk (vs.take (i + 1)) := by
  refine ⟨by rw [List.length_take]; omega, ?_, ?_⟩
  · rw [take_next hx]
    intro y hy
    rcases List.mem_append.1 hy with h1 | h1
    · exact h.2.1 y h1
    · rw [List.mem_singleton.1 h1]; exact ht
  · rw [take_next hx, List.map_append]
    refine List.nodup_append.2 ⟨h.2.2, by simp, ?_⟩
    intro a ha b hb
    have hb' : b = x.te := by simpa using hb
    rw [hb']
    exact fun e => vlAt_none.1 hn (e ▸ ha)
theorem vl_dup {vs : List Vl} {i : Nat} {x : Vl} (hx : vs[i]? = some x) (hn : vlAt (vs.take i) x.te ≠ none) : ¬ VlOk vs := by
  intro h
  have h1 : x.te ∈ (vs.take i).map Vl.te := Classical.byContradiction fun q => hn (vlAt_none.2 q)
  have h2 := h.2.2
  rw [← List.take_append_drop i vs, List.map_append] at h2
  refine (List.nodup_append.1 h2).2.2 _ h1 x.te ?_ rfl
  refine List.mem_map.2 ⟨x, ?_, rfl⟩
  exact List.mem_of_getElem? (i := 0) (by rw [List.getElem?_drop]; exact hx)

set_option maxRecDepth 20000 in
set_option maxHeartbeats 4000000 in
theorem ifound_any (ao : Option Addr) (n cap : Nat) (vs : List Vl) (w : World) (h : VRw 2 cvVl w (.slice ao n cap) vs) (hn : vs.length ≤ 1048576) (hr : ∀ x ∈ vs, InR x.te ∧ InR x.v) :
    Calls Try.prog 14 #[.slice ao n cap] w fun e w' => e = .returned (.tuple #[.map (some w.heap.size), .bool (decide (VlOk vs))]) ∧ (VlOk vs → ∃ D, w'.ownsMap Try.prog 2 (plainElem Try.prog 2) w.heap.size 100 D ∧ MapV D vs) ∧ w.heap.size < w'.heap.size ∧ Below w.heap.size w w' := by
  obtain rfl := h.len
  have HR := hidden h
  have HI := hidden hr
  have hmm := mkmapV
  have HO := hidden (World.ownsMap_made w Try.prog 2 (plainElem (H := Unit) Try.prog 2))
  have HB : Hid (Below w.heap.size w (w.alloc (.map #[] 0))) := (Below.refl _ _).alloc (Nat.le_refl _) _
  have hsz : w.heap.size < (w.alloc (.map #[] 0)).heap.size := by simp
  clear h hr
  by_cases g1 : (100 : Int) < (vs.length : Int)
  · have HY : Hid (¬ VlOk vs) := fun q => by have := q.1; omega
    go_enter Try.func14, Try.ntmps14
    go_wp2_with fail
    refine bodyPost_ret (v := .tuple #[.map (some w.heap.size), .bool false]) (by simp [results, Try.results14, go_sem]) rfl ?_
    exact ⟨by rw [decide_eq_false HY.out], fun q => absurd q HY.out, hsz, HB.out⟩
  have hl100 : vs.length ≤ 100 := by omega
  go_enter Try.func14, Try.ntmps14
  go_wp2_with fail
  go_loopw [6, 7, 8, 16] (fun _ _ _ iv wr => ∃ (i : Nat) (D : DataW Unit), i ≤ vs.length ∧ iv = .int .i64 i ∧ Hid (wr.ownsMap Try.prog 2 (plainElem Try.prog 2) w.heap.size i D) ∧ Hid (MapV D (vs.take i)) ∧ Hid (VlOk (vs.take i)) ∧ w.heap.size < wr.heap.size ∧ Below w.heap.size w wr) (fun _ _ _ iv _ => vs.length - (intOf iv).toNat)
  case atStart => exact ⟨0, .map [], Nat.zero_le _, rfl, HO, MapV.nil, ⟨by simp, (fun x hx => by simp at hx), by simp⟩, hsz, HB.out⟩
  case round =>
    clear HO HB hmm hsz
    obtain ⟨i, D, hi, rfl, ho, hM, hV, hsz, hb⟩ := hrel
    by_cases hlt : i < vs.length
    · have hlti : (i : Int) < (vs.length : Int) := by omega
      obtain ⟨x, hx⟩ := some_of vs i hlt
      obtain ⟨q1, q2⟩ := HI.out x (List.mem_of_getElem? hx)
      obtain ⟨g, off, rfl, hg, hcs⟩ := (HR.out.below hb).at hx
      have c0 : wr.cell? ⟨g, off + i * 2, none⟩ = some (.int .i64 x.te) := hcs 0 (by omega)
      have c1 : wr.cell? ⟨g, off + i * 2 + 1, none⟩ = some (.int .i64 x.v) := hcs 1 (by omega)
      have bx : Below wr.heap.size wr (wr.alloc (.cells #[.int .i64 x.te, .int .i64 x.v] 40)) := (Below.refl _ _).alloc (Nat.le_refl _) _
      have HOA := hidden (Rt.own_heap ho.out (bx.block _ hsz))
      have HK := hidden (keyOf_int_mk Try.underlying2 (wf_inr q1))
      have HW := hidden (wf_inr q2)
      have bA := onto hb bx
      have hszA := Nat.lt_of_lt_of_le hsz bx.size
      have hhas := hM.out.has' x.te q1
      have HX := hidden hx
      have HT := hidden q1
      clear hcs bx hx ho q1 q2 hb
      cases hv : vlAt (vs.take i) x.te with
      | some v =>
        rw [hv] at hhas
        have h3 : Maps.has D (.int .i64 x.te) = true := hhas
        have HY : Hid (¬ VlOk vs) := vl_dup HX.out (by rw [hv]; simp)
        clear hv hhas
        go_wp2_with (at_lookup; refine wpList_lookup_own_ok_int _ rfl _ _ 41 rfl 2 2 .i64 keyI Try.underlying41 Try.underlying2 (zeroI _) w.heap.size i D rfl HOA.out _ _ rfl HK.out ?_; intro c hat hwc; rw [h3]; clear hat hwc)
        refine bodyPost_ret (v := .tuple #[.map (some w.heap.size), .bool false]) (by simp [results, Try.results14, go_sem]) rfl ?_
        exact ⟨by rw [decide_eq_false HY.out], fun q => absurd q HY.out, hszA, bA⟩
      | none =>
        rw [hv] at hhas
        have h3 : Maps.has D (.int .i64 x.te) = false := hhas
        have HN := hidden hv
        have k := itest_any x.te
        clear hv hhas
        cases hq : rng x.te 0 99 with
        | false =>
          rw [hq] at k
          have HY : Hid (¬ VlOk vs) := fun q => by
            have := (tst_iff x.te).2 (q.2.1 x (List.mem_of_getElem? HX.out))
            rw [hq] at this; cases this
          clear hq
          go_wp2_with (first | (at_lookup; refine wpList_lookup_own_ok_int _ rfl _ _ 41 rfl 2 2 .i64 keyI Try.underlying41 Try.underlying2 (zeroI _) w.heap.size i D rfl HOA.out _ _ rfl HK.out ?_; intro c hat hwc; rw [h3]; clear hat hwc) | (go_at_call 23; refine (k _).mono ?_; rintro e w1 ⟨rfl, rfl⟩))
          refine bodyPost_ret (v := .tuple #[.map (some w.heap.size), .bool false]) (by simp [results, Try.results14, go_sem]) rfl ?_
          exact ⟨by rw [decide_eq_false HY.out], fun q => absurd q HY.out, hszA, bA⟩
        | true =>
          rw [hq] at k
          have HV2 := hidden (vl_next hV.out hl100 HX.out ((tst_iff x.te).1 hq) HN.out)
          have HM2 : Hid (∀ W : World, W.ownsMap Try.prog 2 (plainElem (H := Unit) Try.prog 2) w.heap.size i D → MapV (D.put (.int .i64 x.te) (.lit (.int .i64 x.v))) (vs.take (i + 1))) := fun W hW => by
            rw [take_next HX.out]
            exact hM.out.snoc hW.isMap HT.out HN.out
          have HM3 := hidden (HM2.out _ HOA.out)
          clear hq HM2 hM hV HX HN
          go_wp2_with (first | (at_lookup; refine wpList_lookup_own_ok_int _ rfl _ _ 41 rfl 2 2 .i64 keyI Try.underlying41 Try.underlying2 (zeroI _) w.heap.size i D rfl HOA.out _ _ rfl HK.out ?_; intro c hat hwc; rw [h3]; clear hat hwc) | (go_at_call 23; refine (k _).mono ?_; rintro e w1 ⟨rfl, rfl⟩) | (at_mapUpdate; refine wpList_mapUpdate_own _ rfl _ _ _ 41 rfl 2 2 keyI Try.underlying41 _ w.heap.size i D rfl HOA.out (by unfold maxLen; omega) _ _ _ rfl rfl HK.out _ [] (plainElem_int Try.underlying2 HW.out) ?_; intro w3 ho3 hg3))
          have b3 := bA.grown hg3 bA.size (fun j hj => by cases hj; exact Nat.le_refl _)
          have z3 := Nat.lt_of_lt_of_le hszA hg3.size
          go_roundw
          case rel => exact ⟨i + 1, _, by omega, rfl, ho3, HM3, HV2, z3, b3⟩
          case measure => simp [intOf]; omega
    · have hlti : ¬ (i : Int) < (vs.length : Int) := by omega
      have hil : i = vs.length := by omega
      have HY : Hid (VlOk vs ∧ MapV D vs) := by
        have a := hV.out
        have b := hM.out
        rw [hil, List.take_length] at a b
        exact ⟨a, b⟩
      have HO2 := hidden (ho.out.mono (show i ≤ 100 by omega))
      clear hil ho hM hV
      go_wp2_with fail
      refine bodyPost_ret (v := .tuple #[.map (some w.heap.size), .bool true]) (by simp [results, Try.results14, go_sem]) rfl ?_
      exact ⟨by rw [decide_eq_true HY.out.1], fun _ => ⟨D, HO2.out, HY.out.2⟩, hsz, hb⟩
end Go.Proofs.Ytldggndhdilncaa
