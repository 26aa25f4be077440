/-
  Guess: the program.
-/
import Derived.Test.YtinnmebpipnccaaA3
namespace Go.Proofs.Ytinnmebpipnccaa
open Go.RowKit Va Ax
set_option linter.all false

theorem set_inA {l : List Int} {i : Nat} {z : Int} (hb : ∀ x ∈ l, -1 ≤ x ∧ x ≤ 100000) (hz : 0 ≤ z ∧ z ≤ 100000) (ht : hid (l.take i) = 0) (hd : hid (l.drop (i + 1)) = 0) (hi : i < l.length) : ∀ x ∈ l.set i z, 0 ≤ x ∧ x ≤ 100000 := by
  intro x hx
  rw [List.set_eq_take_append_cons_drop, if_pos hi] at hx
  rcases List.mem_append.1 hx with q | q
  · have h1 := hid_zero.1 ht x q
    have h2 := hb x (List.mem_of_mem_take q)
    omega
  · rcases List.mem_cons.1 q with rfl | q
    · exact hz
    · have h1 := hid_zero.1 hd x q
      have h2 := hb x (List.mem_of_mem_drop q)
      omega

set_option maxRecDepth 20000 in
set_option maxHeartbeats 4000000 in
theorem iguess_any (ao : Option Addr) (n cap : Nat) (l : List Int) (s : Int) (w : World) (h : VRw 1 cvI w (.slice ao n cap) l) (hn : l.length ≤ 1048576) :
    Calls Try.prog 12 #[.slice ao n cap, .int .i64 s] w fun e w' => ∃ v', e = .returned v' ∧ VOwn 1 cvI w' w.heap.size v' (guess l s) ∧ Below w.heap.size w w' := by
  obtain rfl := h.len
  have hcap := h.cap
  have HR := hidden h
  have HV : Hid (guess l s = if rng s 0 10000000 = true ∧ rowB (-1) l = true then (if hid l = 1 then l.set (atL l l.length) (s - sumL l) else l) else []) := rfl
  obtain ⟨i0, hi0, hv0, hv1, hv2⟩ := info_partsW infoW64
  have HOA := hidden (ownW_new w 2 1)
  have HBA : Hid (Below w.heap.size w (w.alloc (.cells #[] 2))) := (Below.refl _ _).alloc (Nat.le_refl _) _
  generalize guess l s = R at *
  have out : R = [] → ∀ (v' : Value) (W : World), v' = .slice (some ⟨w.heap.size, 0, none⟩) 0 0 → W.ownsRow w.heap.size 2 1 (.slice (some ⟨w.heap.size, 0, none⟩) 0 0) 0 [] → Below w.heap.size w W → ∃ v'', Ending.returned v' = .returned v'' ∧ VOwn 1 cvI W w.heap.size v'' R ∧ Below w.heap.size w W := fun hR v' W hv hW hb => ⟨v', rfl, by rw [hv, hR]; exact vownI hW, hb⟩
  have bad : ¬ (rng s 0 10000000 = true ∧ rowB (-1) l = true) → R = [] := fun q => by rw [HV.out, if_neg q]
  have k1a := irow_any ao l.length cap l (-1) w h hn
  clear h
  by_cases g1 : s < 0
  · have HB2 := hidden (out (bad (fun q => by have := rng_iff.1 q.1; omega)))
    clear k1a HV out bad
    go_enter Try.func12, Try.ntmps12
    go_wp2_with fail
    go_ret
    exact HB2.out _ _ rfl HOA.out HBA.out
  by_cases g2 : 10000000 < s
  · have HB2 := hidden (out (bad (fun q => by have := rng_iff.1 q.1; omega)))
    clear k1a HV out bad
    go_enter Try.func12, Try.ntmps12
    go_wp2_with fail
    go_ret
    exact HB2.out _ _ rfl HOA.out HBA.out
  cases g3 : rowB (-1) l with
  | false =>
    have HB2 := hidden (out (bad (fun q => by rw [g3] at q; cases q.2)))
    rw [g3] at k1a
    clear HV out bad g3
    go_enter Try.func12, Try.ntmps12
    go_wp2_with (go_at_call 27; with_reducible refine k1a.mono ?_; rintro e w1 ⟨rfl, hw1⟩; have hw2 := hw1.symm; clear hw1; subst hw2)
    go_ret
    exact HB2.out _ _ rfl HOA.out HBA.out
  | true =>
    have HN : Hid (R = if hid l = 1 then l.set (atL l l.length) (s - sumL l) else l) := by rw [Hid, HV.out, if_pos ⟨rng_iff.2 ⟨by omega, by omega⟩, g3⟩]
    have hl100 := (rowB_iff.1 g3).1
    have HBd := hidden (rowB_iff.1 g3).2
    rw [g3] at k1a
    clear HV out bad g3
    go_enter Try.func12, Try.ntmps12
    go_upto_region 3 with (go_at_call 27; with_reducible refine k1a.mono ?_; rintro e w1 ⟨rfl, hw1⟩; have hw2 := hw1.symm; clear hw1; subst hw2)
    clear k1a
    go_upto_region 4 with (at_builtin; refine wpList_newA rfl (.tmp 19) (.tmp 20) rfl w.heap.size rfl (PB.new w #[] 2) ao l.length cap l rfl (HR.out.below HBA.out) hn ?_; intro v4 w4 ho4 hg4; have HO := hidden ho4; obtain ⟨ad, c, rfl⟩ := ownW_slice ho4)
    have hb := HBA.out.grown hg4 (by simp) (fun k hk => by cases hk; exact Nat.le_refl _)
    clear hg4 ho4 HOA HBA
    have hrow := (vownI (L := l) HO.out).row
    have kL := ilone_any ad l.length c l w4 hrow (by omega) (fun x hx => (HBd.out x hx).1)
    by_cases hh : hid l = 1
    · obtain ⟨i, x, h1, h2, h3, h4⟩ := hid_one hh
      have hil := get_ltA h1
      have hlo := lone_at h1 h2 h3 h4
      have hat : atL l l.length = i := by
        have := hlo
        rw [Ax.lone, if_pos hh] at this
        omega
      rw [hlo] at kL
      have HE : Hid (R = l.set i (s - (l.set i 0).sum)) := by rw [Hid, HN.out, if_pos hh, hat, sum_set h1 h2 h3 h4]
      have hlk := set_inA (z := 0) HBd.out (by omega) h3 h4 hil
      clear HN hlo hat h1 h2 h3 h4 hh
      obtain ⟨G, rfl, hG⟩ := ownA_some HO.out (by omega)
      obtain ⟨⟨u, hu⟩, hf, ho2⟩ := own_putA (u := .int .i64 0) HO.out (j := i) (by omega)
      rw [map_setA] at ho2
      have hb2 : Below w.heap.size w (w4.setCell ⟨G, i, none⟩ (.int .i64 0)) := hb.setCell (p := ⟨G, i, none⟩) hG _
      have hi1 : (i : Int) < (l.length : Int) := by omega
      go_upto_region 7 with (go_at_call 28; with_reducible refine kL.mono ?_; rintro e w5 ⟨rfl, hw1⟩; have hw2 := hw1.symm; clear hw1; subst hw2)
      clear kL hrow hb
      generalize w4.setCell ⟨G, i, none⟩ (.int .i64 0) = w6 at *
      clear hu hf HO
      have hls : (l.set i 0).length = l.length := List.length_set
      have HO2 := hidden ho2
      have kK := ilack_any (some ⟨G, 0, none⟩) l.length c (l.set i 0) s w6 (vownI (L := l.set i 0) (by rw [hls]; exact ho2)).row (by omega) ⟨by omega, by omega⟩ hlk
      generalize (l.set i 0).sum = T at *
      obtain ⟨⟨u, hu⟩, hf, ho3⟩ := own_putA (u := .int .i64 (s - T)) HO2.out (j := i) (by omega)
      rw [map_setA, List.set_set] at ho3
      have HO3 := hidden ho3
      have hb3 : Below w.heap.size w (w6.setCell ⟨G, i, none⟩ (.int .i64 (s - T))) := hb2.setCell (p := ⟨G, i, none⟩) hG _
      clear ho2 ho3 hlk
      go_wp2_with (go_at_call 31; with_reducible refine kK.mono ?_; rintro e w5 ⟨rfl, hw1⟩; have hw2 := hw1.symm; clear hw1; subst hw2)
      go_ret
      refine ⟨_, rfl, ?_, hb3⟩
      rw [HE.out]
      refine vownI ?_
      rw [List.length_set]
      exact HO3.out
    · have HE : Hid (R = l) := by rw [Hid, HN.out, if_neg hh]
      have hlo : Ax.lone l < 0 := lone_neg.2 hh
      generalize Ax.lone l = L1 at *
      clear HN hh
      have hlo2 : ¬ (0 : Int) ≤ L1 := by omega
      go_wp2_with (go_at_call 28; with_reducible refine kL.mono ?_; rintro e w5 ⟨rfl, hw1⟩; have hw2 := hw1.symm; clear hw1; subst hw2)
      go_ret
      exact ⟨_, rfl, by rw [HE.out]; exact vownI HO.out, hb⟩
end Go.Proofs.Ytinnmebpipnccaa
