/-
  Share: the program and the specification.
-/
import Derived.Test.YtecljmpojninfaaT4
namespace Go.Proofs.Ytecljmpojninfaa
open Go.RowKit Va Lb
set_option linter.all false

set_option maxRecDepth 20000 in
set_option maxHeartbeats 8000000 in
theorem ishare_any (v : Int) (ao : Option Addr) (n cap : Nat) (l : List Int) (ao2 : Option Addr) (n2 cap2 : Nat) (m : List Int) (w : World) (h : VRw 1 cvI w (.slice ao n cap) l) (h2 : VRw 1 cvI w (.slice ao2 n2 cap2) m) (hn : l.length ≤ 1048576) (hm : m.length ≤ 1048576) :
    Calls Try.prog 19 #[.int .i64 v, .slice ao n cap, .slice ao2 n2 cap2] w fun e w' => ∃ v', e = .returned v' ∧ VOwn 1 cvI w' w.heap.size v' (share v l m) ∧ Below w.heap.size w w' := by
  obtain rfl := h.len
  obtain rfl := h2.len
  have hcap := h.cap
  have HR := hidden h
  have HM := hidden h2
  have HV : Hid (share v l m = if (0 ≤ v ∧ v ≤ 100000) ∧ NeedsOk m ∧ AsksOk l m then (shOf m v l).2 else []) := rfl
  obtain ⟨i0, hi0, hv0, hv1, hv2⟩ := info_partsW infoW64
  have HOA := hidden (ownW_new w 2 1)
  have HBA : Hid (Below w.heap.size w (w.alloc (.cells #[] 2))) := (Below.refl _ _).alloc (Nat.le_refl _) _
  generalize share v l m = R at *
  have out : R = [] → ∀ (v' : Value) (W : World), v' = .slice (some ⟨w.heap.size, 0, none⟩) 0 0 → W.ownsRow w.heap.size 2 1 (.slice (some ⟨w.heap.size, 0, none⟩) 0 0) 0 [] → Below w.heap.size w W → ∃ v'', Ending.returned v' = .returned v'' ∧ VOwn 1 cvI W w.heap.size v'' R ∧ Below w.heap.size w W := fun hR v' W hv hW hb => ⟨v', rfl, by rw [hv, hR]; exact vownI hW, hb⟩
  have bad : ¬ ((0 ≤ v ∧ v ≤ 100000) ∧ NeedsOk m ∧ AsksOk l m) → R = [] := fun q => by rw [HV.out, if_neg q]
  have k1 := fun W hW => ineeds_any ao2 m.length cap2 m W hW hm
  have k2 := fun W hW hW2 hm2 => iasks_any ao l.length cap l ao2 m.length cap2 m W hW hW2 hn hm2
  have r1 := HR.out.below HBA.out
  have r2 := HM.out.below HBA.out
  clear h h2
  by_cases g1 : v < 0
  · have HB2 := hidden (out (bad (by omega)))
    clear k1 k2 HV out bad r1 r2
    go_enter Try.func19, Try.ntmps19
    go_wp2_with fail
    go_ret
    exact HB2.out _ _ rfl HOA.out HBA.out
  by_cases g2 : 100000 < v
  · have HB2 := hidden (out (bad (by omega)))
    clear k1 k2 HV out bad r1 r2
    go_enter Try.func19, Try.ntmps19
    go_wp2_with fail
    go_ret
    exact HB2.out _ _ rfl HOA.out HBA.out
  have k1a := k1 _ r2
  by_cases g3 : NeedsOk m
  · rw [decide_eq_true g3] at k1a
    have k2a := k2 _ r1 r2 g3.1
    by_cases g4 : AsksOk l m
    · rw [decide_eq_true g4] at k2a
      have HN : Hid (R = (shOf m v l).2) := by rw [Hid, HV.out, if_pos ⟨by omega, g3, g4⟩]
      have HNd := hidden g3
      have HAs := hidden g4
      have v0 : 0 ≤ v := by omega
      have v1 : v ≤ 100000 := by omega
      clear k1 k2 HV out bad g3 g4 r1 r2
      go_enter Try.func19, Try.ntmps19
      go_wp2_with (first | (go_at_call 45; with_reducible refine k1a.mono ?_; rintro e w1 ⟨rfl, rfl⟩) | (go_at_call 46; with_reducible refine k2a.mono ?_; rintro e w1 ⟨rfl, rfl⟩))
      clear k1a k2a
      go_loopw [7, 8, 10, 11, 34] (fun ov sv _ _ iv wr => ∃ (i : Nat) (s : Int) (L : List Int), i ≤ l.length ∧ iv = .int .i64 i ∧ sv = .int .i64 s ∧ Hid (shOf m v (l.take i) = (s, L)) ∧ (∃ ad c, ov = .slice ad L.length c ∧ wr.ownsRow w.heap.size 2 1 (.slice ad L.length c) L.length (L.map fun z => Value.int .i64 z)) ∧ Below w.heap.size w wr) (fun _ _ _ _ iv _ => l.length - (intOf iv).toNat)
      case atStart => exact ⟨0, v, [], Nat.zero_le _, rfl, rfl, rfl, ⟨_, _, rfl, HOA.out⟩, HBA.out⟩
      case round =>
        clear HOA HBA
        obtain ⟨i, s, L, hi, rfl, rfl, HS, ⟨ad, c, rfl, ho⟩, hb⟩ := hrel
        have hsz := hb.size
        have hbd := sh_takebd HNd.out v0 v1 l i HAs.out.1
        rw [HS.out] at hbd
        obtain ⟨⟨s0, s1⟩, hLn⟩ : (0 ≤ s ∧ s ≤ 100000) ∧ L.length ≤ 20 := hbd
        by_cases hlt : i < l.length
        · have hlti : (i : Int) < (l.length : Int) := by omega
          obtain ⟨x, hx⟩ := some_of l i hlt
          have hxb := (HAs.out.2 i x hx).1
          obtain ⟨X, rfl⟩ : ∃ X : Nat, x = (X : Int) := ⟨x.toNat, by omega⟩
          have hX : (X : Int) < (m.length : Int) := hxb.2
          obtain ⟨y, hy⟩ := some_of m X (by omega)
          have hyb := HNd.out.2 y (List.mem_of_getElem? hy)
          have HX : Hid (shOf m v (l.take (i + 1)) = shStep m (s, L) (X : Int)) := by rw [Hid, shOf_take hx, HS.out]
          have hnd : nd m (X : Int) = y := nd_get (by simpa using hy)
          obtain ⟨g, off, rfl, hg, c0⟩ := vint_cell (HR.out.below hb) hx
          obtain ⟨g2, off2, rfl, hg2, d0⟩ := vint_cell (HM.out.below hb) hy
          have HO := hidden ho
          clear hx hy HS ho hxb
          by_cases q : y ≤ s
          · have HY : Hid (shOf m v (l.take (i + 1)) = (s - y, L ++ [(X : Int)])) := by rw [Hid, HX.out]; unfold shStep; rw [hnd, if_pos q]
            clear HX hnd
            go_wp2_with (at_builtin; refine wpList_append_own _ rfl (.tmp 48) (.tmp 50) 24 rfl w.heap.size 2 i0 (.int .i64 0) 1 8 Try.underlying24 hi0 hv0 hv1 hv2 rfl (by decide) _ L.length (L.map fun z => Value.int .i64 z) rfl (HO.out.alloc _) ⟨wr.heap.size, 0, none⟩ 1 1 [.int .i64 (X : Int)] rfl rfl (cell_oneW _ _ _) (by simp [Value.oneCell']) (by unfold maxLen; omega) (by omega) (by simp; omega) ?_; intro v5 w5 ho5 hg5 hn5; obtain ⟨ad5, c5, rfl⟩ := ownW_slice ho5)
            have b5 := (hb.alloc hsz (.cells #[.int .i64 (X : Int)] 2)).grown hg5 (by simp; omega) (fun k hk => (ownW_lt HO.out k hk).1)
            go_roundw
            case rel => exact ⟨i + 1, s - y, L ++ [(X : Int)], by omega, rfl, rfl, HY, ⟨_, _, by rw [List.length_append]; rfl, by rw [List.map_append, List.length_append]; exact ho5⟩, b5⟩
            case measure => simp [intOf]; omega
          · have HY : Hid (shOf m v (l.take (i + 1)) = (s, L)) := by rw [Hid, HX.out]; unfold shStep; rw [hnd, if_neg q]
            clear HX hnd
            go_wp2_with fail
            go_roundw
            case rel => exact ⟨i + 1, s, L, by omega, rfl, rfl, HY, ⟨_, _, rfl, HO.out⟩, hb⟩
            case measure => simp [intOf]; omega
        · have hlti : ¬ (i : Int) < (l.length : Int) := by omega
          have hil : i = l.length := by omega
          subst hil
          rw [List.take_length] at HS
          go_wp2_with fail
          go_ret
          have hRL : R = L := by rw [HN.out, HS.out]
          rw [hRL]
          exact ⟨_, rfl, vownI ho, hb⟩
    · rw [decide_eq_false g4] at k2a
      have HB2 := hidden (out (bad (fun q => g4 q.2.2)))
      clear k1 k2 HV out bad g3 g4 r1 r2
      go_enter Try.func19, Try.ntmps19
      go_wp2_with (first | (go_at_call 45; with_reducible refine k1a.mono ?_; rintro e w1 ⟨rfl, rfl⟩) | (go_at_call 46; with_reducible refine k2a.mono ?_; rintro e w1 ⟨rfl, rfl⟩))
      go_ret
      exact HB2.out _ _ rfl HOA.out HBA.out
  · rw [decide_eq_false g3] at k1a
    have HB2 := hidden (out (bad (fun q => g3 q.2.1)))
    clear k1 k2 HV out bad g3 r1 r2
    go_enter Try.func19, Try.ntmps19
    go_wp2_with (go_at_call 45; with_reducible refine k1a.mono ?_; rintro e w1 ⟨rfl, rfl⟩)
    go_ret
    exact HB2.out _ _ rfl HOA.out HBA.out
end Go.Proofs.Ytecljmpojninfaa
