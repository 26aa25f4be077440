/-
  Masked: the specification.
-/
import Derived.Test.YtinnmebpipnccaaA3
namespace Go.Proofs.Ytinnmebpipnccaa
open Go.RowKit Va Ax
set_option linter.all false

set_option maxRecDepth 20000 in
set_option maxHeartbeats 8000000 in
theorem smasked_any (ao : Option Addr) (n cap : Nat) (l : List Int) (s : Int) (w : World) (h : VRw 1 cvI w (.slice ao n cap) l) (hn : l.length ≤ 1048576) :
    Calls Try.prog 11 #[.slice ao n cap, .int .i64 s] w fun e w' => ∃ v', e = .returned v' ∧ VOwn 1 cvI w' w.heap.size v' (masked l s) ∧ Below w.heap.size w w' := by
  obtain rfl := h.len
  have hcap := h.cap
  have HR := hidden h
  have HV : Hid (masked l s = if rng s 0 100 = true ∧ rowB 0 l = true then (if hid (mk s l) = 1 ∧ 0 ≤ leTo s l l.length then (mk s l).set (leTo s l l.length).toNat (-1) else mk s l) else []) := rfl
  obtain ⟨i0, hi0, hv0, hv1, hv2⟩ := info_partsW infoW64
  have HOA := hidden (ownW_new w 2 1)
  have HBA : Hid (Below w.heap.size w (w.alloc (.cells #[] 2))) := (Below.refl _ _).alloc (Nat.le_refl _) _
  generalize masked l s = R at *
  have HOU : Hid (R = [] → ∀ (v' : Value) (W : World), v' = .slice (some ⟨w.heap.size, 0, none⟩) 0 0 → W.ownsRow w.heap.size 2 1 (.slice (some ⟨w.heap.size, 0, none⟩) 0 0) 0 [] → Below w.heap.size w W → ∃ v'', Ending.returned v' = .returned v'' ∧ VOwn 1 cvI W w.heap.size v'' R ∧ Below w.heap.size w W) := fun hR v' W hv hW hb => ⟨v', rfl, by rw [hv, hR]; exact vownI hW, hb⟩
  have HBD : Hid (¬ (rng s 0 100 = true ∧ rowB 0 l = true) → R = []) := fun q => by rw [HV.out, if_neg q]
  have kv := lin_any s 0 100
  clear h
  by_cases g0 : (100 : Int) < (l.length : Int)
  · have HB2 := hidden (HOU.out (HBD.out (fun q => by have := (rowB_iff.1 q.2).1; omega)))
    clear HV HOU HBD kv
    go_enter Try.func11, Try.ntmps11
    go_wp2_with fail
    go_ret
    exact HB2.out _ _ rfl HOA.out HBA.out
  cases g1 : rng s 0 100 with
  | false =>
    have HB2 := hidden (HOU.out (HBD.out (fun q => by rw [g1] at q; cases q.1)))
    rw [g1] at kv
    clear HV HOU HBD
    go_enter Try.func11, Try.ntmps11
    go_wp2_with (go_at_call 30; refine (kv _).mono ?_; rintro e w1 ⟨rfl, rfl⟩)
    go_ret
    exact HB2.out _ _ rfl HOA.out HBA.out
  | true =>
  have hsb := rng_iff.1 g1
  have HG1 := hidden g1
  rw [g1] at kv
  clear g1
  go_enter Try.func11, Try.ntmps11
  go_wp2_with (go_at_call 30; refine (kv _).mono ?_; rintro e w1 ⟨rfl, rfl⟩)
  generalize hW0 : w.alloc (.cells #[] 2) = w0 at *
  go_loopw [6] (fun iv wr => ∃ i : Nat, i ≤ l.length ∧ iv = .int .i64 i ∧ wr = w0 ∧ Hid ((l.take i).all (fun x => rng x 0 100000) = true)) (fun iv _ => l.length - (intOf iv).toNat)
  case atStart => exact ⟨0, Nat.zero_le _, rfl, rfl, rfl⟩
  case round =>
    obtain ⟨i, hi, rfl, hwr, hok⟩ := hrel
    have hwr' := hwr.symm
    clear hwr
    subst hwr'
    by_cases hlt : i < l.length
    · have hlti : (i : Int) < (l.length : Int) := by omega
      obtain ⟨y, hy⟩ := some_of l i hlt
      obtain ⟨g, off, rfl, hg, c0⟩ := vint_cell (HR.out.below HBA.out) hy
      have ky := lin_any y 0 100000
      have HX := hidden hy
      clear hy
      cases q1 : rng y 0 100000 with
      | false =>
        have HB2 := hidden (HOU.out (HBD.out (fun q => by have := all_falseA (p := fun x => rng x 0 100000) HX.out q1; have q2 := q.2; unfold rowB at q2; rw [this] at q2; simp at q2)))
        rw [q1] at ky
        clear q1
        go_wp2_with (go_at_call 30; refine (ky _).mono ?_; rintro e w1 ⟨rfl, rfl⟩)
        go_ret
        exact HB2.out _ _ rfl HOA.out HBA.out
      | true =>
        have HN := hidden (all_takeA (p := fun x => rng x 0 100000) hok.out HX.out q1)
        rw [q1] at ky
        clear q1
        go_wp2_with (go_at_call 30; refine (ky _).mono ?_; rintro e w1 ⟨rfl, rfl⟩)
        go_roundw
        case rel => exact ⟨i + 1, by omega, rfl, by simp, HN⟩
        case measure => simp [intOf]; omega
    · have hlti : ¬ (i : Int) < (l.length : Int) := by omega
      have HRB : Hid (rowB 0 l = true) := by
        rw [Hid]
        unfold rowB
        rw [all_endA hok.out hlt, decide_eq_true (show l.length ≤ 100 by omega)]
        rfl
      have HN : Hid (R = if hid (mk s l) = 1 ∧ 0 ≤ leTo s l l.length then (mk s l).set (leTo s l l.length).toNat (-1) else mk s l) := by rw [Hid, HV.out, if_pos ⟨HG1.out, HRB.out⟩]
      clear hok hi hlt HV HOU HBD kv HG1
      subst hW0
      go_wp2_with fail
      clear hlti
      go_loopw [5, 7, 8, 9, 10] (fun ov hv pv iv _ wr => ∃ (i : Nat) (p : Int) (hd : Nat), i ≤ l.length ∧ iv = .int .i64 i ∧ pv = .int .i64 p ∧ hv = .int .i64 hd ∧ Hid (leTo s l i = p) ∧ Hid (hid (mk s (l.take i)) = hd) ∧ (∃ ad c, ov = .slice ad i c ∧ Hid (wr.ownsRow w.heap.size 2 1 (.slice ad i c) i ((mk s (l.take i)).map fun z => Value.int .i64 z))) ∧ Below w.heap.size w wr) (fun _ _ _ iv _ _ => l.length - (intOf iv).toNat)
      case atStart => exact ⟨0, -1, 0, Nat.zero_le _, rfl, rfl, rfl, rfl, rfl, ⟨_, _, rfl, HOA⟩, HBA.out⟩
      case round =>
        clear HOA HBA
        obtain ⟨i, p, hd, hi, rfl, rfl, rfl, hok, hhd, ⟨ad, c, rfl, ho⟩, hb⟩ := hrel
        have hpb := leTo_bd s l i
        rw [hok.out] at hpb
        have hhb := hid_le (mk s (l.take i))
        rw [hhd.out, mk_len, List.length_take] at hhb
        have hhi : hd ≤ i := by omega
        have hsz := hb.size
        by_cases hlt : i < l.length
        · have hlti : (i : Int) < (l.length : Int) := by omega
          obtain ⟨y, hy⟩ := some_of l i hlt
          obtain ⟨g, off, rfl, hg, c0⟩ := vint_cell (HR.out.below hb) hy
          have HX := hidden hy
          have hyb := (rowB_iff.1 HRB.out).2 y (List.mem_of_getElem? hy)
          have ky := lin_any y 1 s
          clear hy hhb
          have HAP : Hid (∀ z, mk1 s y = z → ∀ (v : Value) (w' : World), w'.ownsRow w.heap.size 2 1 v (i + 1) ((mk s (l.take i)).map (fun z => Value.int .i64 z) ++ [.int .i64 z]) → w'.ownsRow w.heap.size 2 1 v (i + 1) ((mk s (l.take (i + 1))).map fun z => Value.int .i64 z)) := by
            rintro z rfl v w' h5
            rw [mk_take HX.out, List.map_append]
            exact h5
          have hml : (mk s (l.take i)).length = i := by rw [mk_len, List.length_take]; omega
          cases q1 : rng y 1 s with
          | true =>
            have q2 := rng_iff.1 q1
            have HM : Hid (mk1 s y = -1) := if_pos q2
            have HP : Hid (leTo s l (i + 1) = p) := (leTo_low HX.out (by omega)).trans hok.out
            have HH2 : Hid (hid (mk s (l.take (i + 1))) = hd + 1) := by rw [Hid, mk_take HX.out, hid_app, hhd.out, HM.out]; rfl
            rw [q1] at ky
            clear q1
            go_wp2_with (first | (go_at_call 30; refine (ky _).mono ?_; rintro e w1 ⟨rfl, rfl⟩) | (at_builtin; refine wpList_append_own _ rfl (.tmp 65) (.tmp 67) 24 rfl w.heap.size 2 i0 (.int .i64 0) 1 8 Try.underlying24 hi0 hv0 hv1 hv2 rfl (by decide) _ i ((mk s (l.take i)).map fun z => Value.int .i64 z) rfl (ho.out.alloc _) ⟨wr.heap.size, 0, none⟩ 1 1 [.int .i64 (-1)] rfl rfl (cell_oneW _ _ _) (by simp [Value.oneCell']) (by unfold maxLen; omega) (by omega) (by simp; omega) ?_; intro v5 w5 ho5 hg5 hn5; obtain ⟨ad5, c5, rfl⟩ := ownW_slice ho5))
            have b5 := (hb.alloc hsz (.cells #[.int .i64 (-1)] 2)).grown hg5 (by simp; omega) (fun k hk => (ownW_lt ho.out k hk).1)
            go_roundw
            case rel => exact ⟨i + 1, p, hd + 1, by omega, rfl, rfl, by simp, HP, HH2, ⟨_, _, rfl, HAP.out _ HM.out _ _ ho5⟩, b5⟩
            case measure => simp [intOf]; omega
          | false =>
            have q2 : ¬ (1 ≤ y ∧ y ≤ s) := fun z => by rw [rng_iff.2 z] at q1; cases q1
            have HM : Hid (mk1 s y = y) := if_neg q2
            have HH2 : Hid (hid (mk s (l.take (i + 1))) = hd) := by
              rw [Hid, mk_take HX.out, hid_app, hhd.out, HM.out]
              simp [hid]
              omega
            rw [q1] at ky
            clear q1
            by_cases q3 : s < y
            · by_cases q4 : p < 0
              · have HP : Hid (leTo s l (i + 1) = (i : Int)) := leTo_new HX.out q3 (by rw [hok.out]; exact q4)
                go_wp2_with (first | (go_at_call 30; refine (ky _).mono ?_; rintro e w1 ⟨rfl, rfl⟩) | (at_builtin; refine wpList_append_own _ rfl (.tmp 65) (.tmp 67) 24 rfl w.heap.size 2 i0 (.int .i64 0) 1 8 Try.underlying24 hi0 hv0 hv1 hv2 rfl (by decide) _ i ((mk s (l.take i)).map fun z => Value.int .i64 z) rfl (ho.out.alloc _) ⟨wr.heap.size, 0, none⟩ 1 1 [.int .i64 y] rfl rfl (cell_oneW _ _ _) (by simp [Value.oneCell']) (by unfold maxLen; omega) (by omega) (by simp; omega) ?_; intro v5 w5 ho5 hg5 hn5; obtain ⟨ad5, c5, rfl⟩ := ownW_slice ho5))
                have b5 := (hb.alloc hsz (.cells #[.int .i64 y] 2)).grown hg5 (by simp; omega) (fun k hk => (ownW_lt ho.out k hk).1)
                go_roundw
                case rel => exact ⟨i + 1, (i : Int), hd, by omega, rfl, rfl, rfl, HP, HH2, ⟨_, _, rfl, HAP.out _ HM.out _ _ ho5⟩, b5⟩
                case measure => simp [intOf]; omega
              · obtain ⟨P, rfl⟩ := Int.eq_ofNat_of_zero_le (show 0 ≤ p by omega)
                obtain ⟨z, hz⟩ := some_of l P (by omega)
                obtain ⟨g2, off2, he2, -, c1⟩ := vint_cell (HR.out.below hb) hz
                simp only [Option.some.injEq, Addr.mk.injEq, and_true] at he2
                obtain ⟨rfl, rfl⟩ := he2
                have HZ := hidden hz
                have hP1 : (P : Int) < (l.length : Int) := by omega
                clear hz
                by_cases q5 : y < z
                · have HP : Hid (leTo s l (i + 1) = (i : Int)) := leTo_less HX.out q3 hok.out HZ.out q5
                  go_wp2_with (first | (go_at_call 30; refine (ky _).mono ?_; rintro e w1 ⟨rfl, rfl⟩) | (at_builtin; refine wpList_append_own _ rfl (.tmp 65) (.tmp 67) 24 rfl w.heap.size 2 i0 (.int .i64 0) 1 8 Try.underlying24 hi0 hv0 hv1 hv2 rfl (by decide) _ i ((mk s (l.take i)).map fun z => Value.int .i64 z) rfl (ho.out.alloc _) ⟨wr.heap.size, 0, none⟩ 1 1 [.int .i64 y] rfl rfl (cell_oneW _ _ _) (by simp [Value.oneCell']) (by unfold maxLen; omega) (by omega) (by simp; omega) ?_; intro v5 w5 ho5 hg5 hn5; obtain ⟨ad5, c5, rfl⟩ := ownW_slice ho5))
                  have b5 := (hb.alloc hsz (.cells #[.int .i64 y] 2)).grown hg5 (by simp; omega) (fun k hk => (ownW_lt ho.out k hk).1)
                  go_roundw
                  case rel => exact ⟨i + 1, (i : Int), hd, by omega, rfl, rfl, rfl, HP, HH2, ⟨_, _, rfl, HAP.out _ HM.out _ _ ho5⟩, b5⟩
                  case measure => simp [intOf]; omega
                · have HP : Hid (leTo s l (i + 1) = (P : Int)) := leTo_not HX.out hok.out HZ.out q5
                  go_wp2_with (first | (go_at_call 30; refine (ky _).mono ?_; rintro e w1 ⟨rfl, rfl⟩) | (at_builtin; refine wpList_append_own _ rfl (.tmp 65) (.tmp 67) 24 rfl w.heap.size 2 i0 (.int .i64 0) 1 8 Try.underlying24 hi0 hv0 hv1 hv2 rfl (by decide) _ i ((mk s (l.take i)).map fun z => Value.int .i64 z) rfl (ho.out.alloc _) ⟨wr.heap.size, 0, none⟩ 1 1 [.int .i64 y] rfl rfl (cell_oneW _ _ _) (by simp [Value.oneCell']) (by unfold maxLen; omega) (by omega) (by simp; omega) ?_; intro v5 w5 ho5 hg5 hn5; obtain ⟨ad5, c5, rfl⟩ := ownW_slice ho5))
                  have b5 := (hb.alloc hsz (.cells #[.int .i64 y] 2)).grown hg5 (by simp; omega) (fun k hk => (ownW_lt ho.out k hk).1)
                  go_roundw
                  case rel => exact ⟨i + 1, (P : Int), hd, by omega, rfl, rfl, rfl, HP, HH2, ⟨_, _, rfl, HAP.out _ HM.out _ _ ho5⟩, b5⟩
                  case measure => simp [intOf]; omega
            · have HP : Hid (leTo s l (i + 1) = p) := (leTo_low HX.out q3).trans hok.out
              go_wp2_with (first | (go_at_call 30; refine (ky _).mono ?_; rintro e w1 ⟨rfl, rfl⟩) | (at_builtin; refine wpList_append_own _ rfl (.tmp 65) (.tmp 67) 24 rfl w.heap.size 2 i0 (.int .i64 0) 1 8 Try.underlying24 hi0 hv0 hv1 hv2 rfl (by decide) _ i ((mk s (l.take i)).map fun z => Value.int .i64 z) rfl (ho.out.alloc _) ⟨wr.heap.size, 0, none⟩ 1 1 [.int .i64 y] rfl rfl (cell_oneW _ _ _) (by simp [Value.oneCell']) (by unfold maxLen; omega) (by omega) (by simp; omega) ?_; intro v5 w5 ho5 hg5 hn5; obtain ⟨ad5, c5, rfl⟩ := ownW_slice ho5))
              have b5 := (hb.alloc hsz (.cells #[.int .i64 y] 2)).grown hg5 (by simp; omega) (fun k hk => (ownW_lt ho.out k hk).1)
              go_roundw
              case rel => exact ⟨i + 1, p, hd, by omega, rfl, rfl, rfl, HP, HH2, ⟨_, _, rfl, HAP.out _ HM.out _ _ ho5⟩, b5⟩
              case measure => simp [intOf]; omega
        · have hlti : ¬ (i : Int) < (l.length : Int) := by omega
          have hil : i = l.length := by omega
          subst hil
          have hO := ho.out
          have hh1 := hhd.out
          rw [List.take_length] at hO hh1
          have HO := hidden hO
          have hmn := mk_len s l
          rw [hh1, hok.out] at HN
          clear hO ho hhd hh1 hok hhb
          by_cases q1 : hd = 1
          · subst q1
            by_cases q2 : 0 ≤ p
            · obtain ⟨P, rfl⟩ := Int.eq_ofNat_of_zero_le q2
              have HE : Hid (R = (mk s l).set P (-1)) := by rw [Hid, HN.out, if_pos ⟨rfl, q2⟩]; rfl
              have hP : P < l.length := by omega
              obtain ⟨G, rfl, hG⟩ := ownA_some HO.out (by omega)
              obtain ⟨⟨u, hu⟩, hf, ho2⟩ := own_putA (u := .int .i64 (-1)) HO.out (j := P) (by omega)
              have HO2 := hidden ho2
              have hb2 : Below w.heap.size w (wr.setCell ⟨G, P, none⟩ (.int .i64 (-1))) := hb.setCell (p := ⟨G, P, none⟩) hG _
              have hP1 : (P : Int) < (l.length : Int) := by omega
              clear HN ho2
              go_wp2_with fail
              go_ret
              refine ⟨_, rfl, ?_, hb2⟩
              rw [HE.out]
              refine vownI ?_
              rw [List.length_set, hmn, ← map_setA]
              exact HO2.out
            · have HE : Hid (R = mk s l) := by rw [Hid, HN.out, if_neg]; exact fun z => q2 z.2
              clear HN
              go_wp2_with fail
              go_ret
              exact ⟨_, rfl, by rw [HE.out]; exact vownI (by rw [hmn]; exact HO.out), hb⟩
          · have HE : Hid (R = mk s l) := by rw [Hid, HN.out, if_neg]; exact fun z => q1 z.1
            have q3 : ((hd : Int) == 1) = false := by simp; omega
            clear HN
            go_wp2_with fail
            go_ret
            exact ⟨_, rfl, by rw [HE.out]; exact vownI (by rw [hmn]; exact HO.out), hb⟩
end Go.Proofs.Ytinnmebpipnccaa
