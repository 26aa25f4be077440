/-
  Guess: the specification.
-/
import Derived.Test.YtinnmebpipnccabA3
namespace Go.Proofs.Ytinnmebpipnccab
open Go.RowKit Va Ax
set_option linter.all false

set_option maxRecDepth 20000 in
set_option maxHeartbeats 8000000 in
theorem sguess_any (ao : Option Addr) (n cap : Nat) (l : List Int) (s : Int) (w : World) (h : VRw 1 cvI w (.slice ao n cap) l) (hn : l.length ≤ 1048576) :
    Calls Try.prog 4 #[.slice ao n cap, .int .i64 s] w fun e w' => ∃ v', e = .returned v' ∧ VOwn 1 cvI w' w.heap.size v' (guess l s) ∧ Below w.heap.size w w' := by
  obtain rfl := h.len
  have hcap := h.cap
  have HR := hidden h
  have HV : Hid (guess l s = if rng s 0 10000000 = true ∧ rowB (-1) l = true then (if hid l = 1 then l.set (atL l l.length) (s - sumL l) else l) else []) := rfl
  obtain ⟨i0, hi0, hv0, hv1, hv2⟩ := info_partsW infoW64
  have HOA := hidden (ownW_new w 2 1)
  have HBA : Hid (Below w.heap.size w (w.alloc (.cells #[] 2))) := (Below.refl _ _).alloc (Nat.le_refl _) _
  generalize guess l s = R at *
  have HOU : Hid (R = [] → ∀ (v' : Value) (W : World) (g : Nat), w.heap.size ≤ g → v' = .slice (some ⟨g, 0, none⟩) 0 0 → W.ownsRow g 2 1 (.slice (some ⟨g, 0, none⟩) 0 0) 0 [] → Below w.heap.size w W → ∃ v'', Ending.returned v' = .returned v'' ∧ VOwn 1 cvI W w.heap.size v'' R ∧ Below w.heap.size w W) := fun hR v' W g hg hv hW hb => ⟨v', rfl, by rw [hv, hR]; exact (vownI (L := []) hW).base_le hg, hb⟩
  have HBD : Hid (¬ (rng s 0 10000000 = true ∧ rowB (-1) l = true) → R = []) := fun q => by rw [HV.out, if_neg q]
  have kv := lin_any s 0 10000000
  clear h
  by_cases g0 : (100 : Int) < (l.length : Int)
  · have HB2 := hidden (HOU.out (HBD.out (fun q => by have := (rowB_iff.1 q.2).1; omega)))
    clear HV HOU HBD kv
    go_enter Try.func4, Try.ntmps4
    go_wp2_with fail
    go_ret
    exact HB2.out _ _ _ (Nat.le_refl _) rfl HOA.out HBA.out
  cases g1 : rng s 0 10000000 with
  | false =>
    have HB2 := hidden (HOU.out (HBD.out (fun q => by rw [g1] at q; cases q.1)))
    rw [g1] at kv
    clear HV HOU HBD
    go_enter Try.func4, Try.ntmps4
    go_wp2_with (go_at_call 10; refine (kv _).mono ?_; rintro e w1 ⟨rfl, rfl⟩)
    go_ret
    exact HB2.out _ _ _ (Nat.le_refl _) rfl HOA.out HBA.out
  | true =>
  have hsb := rng_iff.1 g1
  have HG1 := hidden g1
  rw [g1] at kv
  clear g1
  go_enter Try.func4, Try.ntmps4
  go_wp2_with (go_at_call 10; refine (kv _).mono ?_; rintro e w1 ⟨rfl, rfl⟩)
  go_loopw [5, 6, 7, 8, 9] (fun ov hv av lv iv wr => ∃ (i : Nat) (p : Nat) (hd : Nat) (t : Int), i ≤ l.length ∧ iv = .int .i64 i ∧ av = .int .i64 p ∧ hv = .int .i64 hd ∧ lv = .int .i64 t ∧ Hid ((l.take i).all (fun x => rng x (-1) 100000) = true) ∧ Hid (atL l i = p) ∧ Hid (hid (l.take i) = hd) ∧ Hid (t = s - sumL (l.take i)) ∧ (∃ ad c, ov = .slice ad i c ∧ Hid (wr.ownsRow w.heap.size 2 1 (.slice ad i c) i ((l.take i).map fun z => Value.int .i64 z))) ∧ Below w.heap.size w wr) (fun _ _ _ _ iv _ => l.length - (intOf iv).toNat)
  case atStart => exact ⟨0, 0, 0, s, Nat.zero_le _, rfl, rfl, rfl, rfl, rfl, rfl, rfl, by simp [Hid, sumL], ⟨_, _, rfl, HOA⟩, HBA.out⟩
  case round =>
    clear HOA HBA
    obtain ⟨i, p, hd, t, hi, rfl, rfl, rfl, rfl, hok, hat, hhd, hst, ⟨ad, c, rfl, ho⟩, hb⟩ := hrel
    have hpl : 0 < i → p < i := fun z => by have := atL_lt (l := l) i z; rw [hat.out] at this; exact this
    have hhb := hid_le (l.take i)
    rw [hhd.out, List.length_take] at hhb
    have hhi : hd ≤ i := by omega
    have htb : t ≤ 10000000 ∧ -10000000 ≤ t := by
      have h1 := sumL_bd (l := l.take i) (fun x hx => by have := hok.out; rw [List.all_eq_true] at this; exact (rng_iff.1 (this x hx)).2)
      rw [List.length_take] at h1
      have h2 := hst.out
      have h3 : ((min i l.length : Nat) : Int) ≤ 100 := by omega
      omega
    have hsz := hb.size
    clear hhb
    by_cases hlt : i < l.length
    · have hlti : (i : Int) < (l.length : Int) := by omega
      obtain ⟨y, hy⟩ := some_of l i hlt
      obtain ⟨g, off, rfl, hg, c0⟩ := vint_cell (HR.out.below hb) hy
      have ky := lin_any y (-1) 100000
      have HX := hidden hy
      clear hy
      cases q1 : rng y (-1) 100000 with
      | false =>
        have HB2 := hidden (HOU.out (HBD.out (fun q => by have := all_falseA (p := fun x => rng x (-1) 100000) HX.out q1; have q2 := q.2; unfold rowB at q2; rw [this] at q2; simp at q2)))
        have HOA := hidden (ownW_new wr 2 1)
        have HBA := hidden (hb.alloc hsz (.cells #[] 2))
        rw [q1] at ky
        clear q1
        go_wp2_with (go_at_call 10; refine (ky _).mono ?_; rintro e w1 ⟨rfl, rfl⟩)
        go_ret
        exact HB2.out _ _ _ hsz rfl HOA.out HBA.out
      | true =>
        have hyb := rng_iff.1 q1
        have HN := hidden (all_takeA (p := fun x => rng x (-1) 100000) hok.out HX.out q1)
        have HAP : Hid (∀ (v : Value) (w' : World), w'.ownsRow w.heap.size 2 1 v (i + 1) ((l.take i).map (fun z => Value.int .i64 z) ++ [.int .i64 y]) → w'.ownsRow w.heap.size 2 1 v (i + 1) ((l.take (i + 1)).map fun z => Value.int .i64 z)) := by
          intro v w' h5
          rw [take_snA HX.out, List.map_append]
          exact h5
        rw [q1] at ky
        clear q1
        by_cases q2 : y < 0
        · have HA : Hid (atL l (i + 1) = i) := atL_yes HX.out q2
          have HD : Hid (hid (l.take (i + 1)) = hd + 1) := by rw [Hid, hid_take HX.out, if_pos q2, hhd.out]
          have HT : Hid (t = s - sumL (l.take (i + 1))) := by rw [Hid, sumL_take HX.out, if_pos q2]; have := hst.out; omega
          go_wp2_with (first | (go_at_call 10; refine (ky _).mono ?_; rintro e w1 ⟨rfl, rfl⟩) | (at_builtin; refine wpList_append_own _ rfl (.tmp 48) (.tmp 53) 22 rfl w.heap.size 2 i0 (.int .i64 0) 1 8 Try.underlying22 hi0 hv0 hv1 hv2 rfl (by decide) _ i ((l.take i).map fun z => Value.int .i64 z) rfl (ho.out.alloc _) ⟨wr.heap.size, 0, none⟩ 1 1 [.int .i64 y] rfl rfl (cell_oneW _ _ _) (by simp [Value.oneCell']) (by unfold maxLen; omega) (by omega) (by simp; omega) ?_; intro v5 w5 ho5 hg5 hn5; obtain ⟨ad5, c5, rfl⟩ := ownW_slice ho5))
          have b5 := (hb.alloc hsz (.cells #[.int .i64 y] 2)).grown hg5 (by simp; omega) (fun k hk => (ownW_lt ho.out k hk).1)
          go_roundw
          case rel => exact ⟨i + 1, i, hd + 1, t, by omega, rfl, rfl, by simp, rfl, HN, HA, HD, HT, ⟨_, _, rfl, HAP.out _ _ ho5⟩, b5⟩
          case measure => simp [intOf]; omega
        · have HA : Hid (atL l (i + 1) = p) := (atL_no HX.out q2).trans hat.out
          have HD : Hid (hid (l.take (i + 1)) = hd) := by rw [Hid, hid_take HX.out, if_neg q2, hhd.out, Nat.add_zero]
          have HT : Hid (t - y = s - sumL (l.take (i + 1))) := by rw [Hid, sumL_take HX.out, if_neg q2]; have := hst.out; omega
          go_wp2_with (first | (go_at_call 10; refine (ky _).mono ?_; rintro e w1 ⟨rfl, rfl⟩) | (at_builtin; refine wpList_append_own _ rfl (.tmp 48) (.tmp 53) 22 rfl w.heap.size 2 i0 (.int .i64 0) 1 8 Try.underlying22 hi0 hv0 hv1 hv2 rfl (by decide) _ i ((l.take i).map fun z => Value.int .i64 z) rfl (ho.out.alloc _) ⟨wr.heap.size, 0, none⟩ 1 1 [.int .i64 y] rfl rfl (cell_oneW _ _ _) (by simp [Value.oneCell']) (by unfold maxLen; omega) (by omega) (by simp; omega) ?_; intro v5 w5 ho5 hg5 hn5; obtain ⟨ad5, c5, rfl⟩ := ownW_slice ho5))
          have b5 := (hb.alloc hsz (.cells #[.int .i64 y] 2)).grown hg5 (by simp; omega) (fun k hk => (ownW_lt ho.out k hk).1)
          go_roundw
          case rel => exact ⟨i + 1, p, hd, t - y, by omega, rfl, rfl, rfl, rfl, HN, HA, HD, HT, ⟨_, _, rfl, HAP.out _ _ ho5⟩, b5⟩
          case measure => simp [intOf]; omega
    · have hlti : ¬ (i : Int) < (l.length : Int) := by omega
      have hil : i = l.length := by omega
      subst hil
      have HRB : Hid (rowB (-1) l = true) := by
        rw [Hid]
        unfold rowB
        rw [all_endA hok.out hlt, decide_eq_true (show l.length ≤ 100 by omega)]
        rfl
      have HNN : Hid (R = if hid l = 1 then l.set (atL l l.length) (s - sumL l) else l) := by rw [Hid, HV.out, if_pos ⟨HG1.out, HRB.out⟩]
      have hO := ho.out
      have hh1 := hhd.out
      have ht1 := hst.out
      rw [List.take_length] at hO hh1 ht1
      have HO := hidden hO
      rw [hh1, hat.out, ← ht1] at HNN
      clear hO ho hhd hst hh1 ht1 hat hok HV HOU HBD kv HRB
      by_cases q1 : hd = 1
      · subst q1
        have HE : Hid (R = l.set p t) := by rw [Hid, HNN.out, if_pos rfl]
        have hP : p < l.length := by
          rcases Nat.eq_zero_or_pos l.length with z | z
          · omega
          · exact hpl z
        obtain ⟨G, rfl, hG⟩ := ownA_some HO.out (by omega)
        obtain ⟨⟨u, hu⟩, hf, ho2⟩ := own_putA (u := .int .i64 t) HO.out (j := p) (by omega)
        have HO2 := hidden ho2
        have hb2 : Below w.heap.size w (wr.setCell ⟨G, p, none⟩ (.int .i64 t)) := hb.setCell (p := ⟨G, p, none⟩) hG _
        have hP1 : (p : Int) < (l.length : Int) := by omega
        clear HNN ho2
        go_wp2_with fail
        go_ret
        refine ⟨_, rfl, ?_, hb2⟩
        rw [HE.out]
        refine vownI ?_
        rw [List.length_set, ← map_setA]
        exact HO2.out
      · have HE : Hid (R = l) := by rw [Hid, HNN.out, if_neg q1]
        have q3 : ((hd : Int) == 1) = false := by simp; omega
        clear HNN
        go_wp2_with fail
        go_ret
        exact ⟨_, rfl, by rw [HE.out]; exact vownI HO.out, hb⟩
end Go.Proofs.Ytinnmebpipnccab
