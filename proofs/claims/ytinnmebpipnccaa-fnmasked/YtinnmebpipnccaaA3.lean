/-
  Masked and Guess: the program.
-/
import Derived.Test.YtinnmebpipnccaaA2
import Derived.Test.YtinnmebpipnccaaGx
import Derived.Deep.AppendSrc
import Derived.Laws.AppendOwn
namespace Go.Proofs.Ytinnmebpipnccaa
open Go.RowKit Va Ax
set_option linter.all false

theorem own_putA {W : World} {b e s n G c j : Nat} {xs : List Value} {u : Value} (h : W.ownsRow b e s (.slice (some ⟨G, 0, none⟩) n c) n xs) (hj : j < n * s) : (∃ u, W.cell? ⟨G, j, none⟩ = some u) ∧ W.frozen? ⟨G, j, none⟩ = false ∧ (W.setCell ⟨G, j, none⟩ u).ownsRow b e s (.slice (some ⟨G, 0, none⟩) n c) n (xs.set j u) := by
  obtain ⟨q, ⟨h1, _⟩ | ⟨g, cap, cur, h1, hb, hg, hc, hm, hs, ht⟩⟩ := h
  · cases h1
  · simp only [Value.slice.injEq, Option.some.injEq, Addr.mk.injEq, and_true, true_and] at h1
    obtain ⟨rfl, rfl⟩ := h1
    have hP : PB W G cur e := hg
    have hns : n * s ≤ c * s := Nat.mul_le_mul_right s hc
    refine ⟨⟨cur[j]'(by omega), by rw [hP.cell]; exact Array.getElem?_eq_getElem (by omega)⟩, hP.frozen j, by rw [List.length_set]; exact q, .inr ⟨G, c, cur.setIfInBounds j u, rfl, hb, hP.set j u, hc, hm, by rw [Array.size_setIfInBounds]; exact hs, ?_⟩⟩
    rw [Array.toList_setIfInBounds, List.take_set, ht]
theorem intsA_one (l : List Int) : ∀ u ∈ (l.map fun z => Value.int .i64 z), u.oneCell' = true := by
  intro u hu
  obtain ⟨z, _, rfl⟩ := List.mem_map.1 hu
  rfl
theorem ownA_some {w : World} {b e n cc : Nat} {ca : Option Addr} {xs : List Value} (h : w.ownsRow b e 1 (.slice ca n cc) n xs) (hn : 0 < n) : ∃ g, ca = some ⟨g, 0, none⟩ ∧ b ≤ g := by
  obtain ⟨_, ⟨h1, _⟩ | ⟨g, cap, cur, h1, hb, hh, _⟩⟩ := h
  · cases h1; omega
  · cases h1; exact ⟨g, rfl, hb⟩
theorem map_setA (l : List Int) (i : Nat) (z : Int) : (l.map fun z => Value.int .i64 z).set i (.int .i64 z) = (l.set i z).map fun z => Value.int .i64 z := by
  rw [List.map_set]

/-- Numbers are appended to an empty row of one's own; they may be none, and the slice nil. -/
theorem wpList_newA {ops : Array Oper} {rest : List Oper} {o : Oper} {a : Act} {w : World} {Q : Exit → Act → World → Prop} (hgd : o.guard = none) (s x : Operand)
    (ho : o.op = .call { callee := .builtin .append, args := #[s, x], argTypes := #[24, 24] }) (g : Nat) (hs : a.eval s = .slice (some ⟨g, 0, none⟩) 0 0) (hblk : w.heap[g]? = some (.cells #[] 2))
    (ao : Option Addr) (n cap : Nat) (l : List Int) (hx : a.eval x = .slice ao n cap) (hrow : VRw 1 cvI w (.slice ao n cap) l) (hn : l.length ≤ 1048576)
    (h : ∀ v' w', w'.ownsRow g 2 1 v' l.length (l.map fun z => Value.int .i64 z) → w.grownBy w' (some g) → wpList Try.prog ops Q rest (a.put o.dst v') w') : wpList Try.prog ops Q (o :: rest) a w := by
  obtain ⟨i0, hi, hz0, hz1, hz2⟩ := info_partsW infoW64
  have hlt := (Array.getElem?_eq_some_iff.1 hblk).1
  have hown : w.ownsRow g 2 1 (.slice (some ⟨g, 0, none⟩) 0 0) 0 [] := ⟨by simp, .inr ⟨g, 0, #[], rfl, Nat.le_refl _, hblk, Nat.le_refl _, Nat.zero_le _, by simp, by simp⟩⟩
  obtain rfl := hrow.len
  cases ao with
  | none =>
    have hl : l = [] := by
      obtain ⟨ao', cap', he, _, h2⟩ := hrow
      simp only [Value.slice.injEq, true_and] at he
      rcases h2 with h2 | ⟨b, off, h3, _⟩
      · exact List.eq_nil_of_length_eq_zero h2
      · rw [← he.1] at h3; cases h3
    subst hl
    refine wpList_plain hgd fun _ hK => ?_
    have hsrc : Src Try.prog i0.size 24 (.slice none ([] : List Int).length cap) 0 [] w := Src.ofNil w Try.underlying24 cap
    have hr := run_append_room_src (P := Try.prog) w 24 24 o.type 2 i0 Try.underlying24 hi g 0 0 0 _ 0 [] hsrc (Nat.le_refl _) (fun j hj => absurd hj (Nat.not_lt_zero _)) (fun j hj => absurd hj (Nat.not_lt_zero _))
    unfold Oper.wp execOp
    simp only [ho, resolve, invoke, builtin, Sem.run_bind, Sem.run_pure, Result.andThen_ok, List.map_toArray, List.map_cons, List.map_nil, hs, hx, hr]
    exact hK _ _ (h _ _ hown ⟨rfl, rfl, rfl, Nat.le_refl _, fun _ _ _ => rfl⟩)
  | some ad =>
    refine wpList_append_own w hgd s x 24 ho g 2 i0 (.int .i64 0) 1 8 Try.underlying24 hi hz0 hz1 hz2 rfl (by decide) _ 0 [] hs hown ad l.length cap (l.map fun z => Value.int .i64 z) hx (by simp) (fun j u hu => ?_) (intsA_one _) (by unfold maxLen; omega) (by omega) (by omega) (fun v' w' h1 h2 _ => h v' w' (by simpa using h1) h2)
    rw [List.getElem?_map] at hu
    obtain ⟨z, hz, rfl⟩ := Option.map_eq_some_iff.1 hu
    obtain ⟨b, off, he, _, hc⟩ := vint_cell hrow hz
    obtain rfl := Option.some.inj he
    rw [Addr.add_lit]
    exact hc

set_option maxRecDepth 20000 in
set_option maxHeartbeats 4000000 in
theorem imasked_any (ao : Option Addr) (n cap : Nat) (l : List Int) (s : Int) (w : World) (h : VRw 1 cvI w (.slice ao n cap) l) (hn : l.length ≤ 1048576) :
    Calls Try.prog 9 #[.slice ao n cap, .int .i64 s] w fun e w' => ∃ v', e = .returned v' ∧ VOwn 1 cvI w' w.heap.size v' (masked l s) ∧ Below w.heap.size w w' := by
  obtain rfl := h.len
  have hcap := h.cap
  have HR := hidden h
  have HV : Hid (masked l s = if rng s 0 100 = true ∧ rowB 0 l = true then (if hid (mk s l) = 1 ∧ 0 ≤ leTo s l l.length then (mk s l).set (leTo s l l.length).toNat (-1) else mk s l) else []) := rfl
  obtain ⟨i0, hi0, hv0, hv1, hv2⟩ := info_partsW infoW64
  have HOA := hidden (ownW_new w 2 1)
  have HBA : Hid (Below w.heap.size w (w.alloc (.cells #[] 2))) := (Below.refl _ _).alloc (Nat.le_refl _) _
  generalize masked l s = R at *
  have out : R = [] → ∀ (v' : Value) (W : World), v' = .slice (some ⟨w.heap.size, 0, none⟩) 0 0 → W.ownsRow w.heap.size 2 1 (.slice (some ⟨w.heap.size, 0, none⟩) 0 0) 0 [] → Below w.heap.size w W → ∃ v'', Ending.returned v' = .returned v'' ∧ VOwn 1 cvI W w.heap.size v'' R ∧ Below w.heap.size w W := fun hR v' W hv hW hb => ⟨v', rfl, by rw [hv, hR]; exact vownI hW, hb⟩
  have bad : ¬ (rng s 0 100 = true ∧ rowB 0 l = true) → R = [] := fun q => by rw [HV.out, if_neg q]
  have k1 := fun W hW => irow_any ao l.length cap l 0 W hW hn
  clear h
  by_cases g1 : s < 0
  · have HB2 := hidden (out (bad (fun q => by have := rng_iff.1 q.1; omega)))
    clear k1 HV out bad
    go_enter Try.func9, Try.ntmps9
    go_wp2_with fail
    go_ret
    exact HB2.out _ _ rfl HOA.out HBA.out
  by_cases g2 : 100 < s
  · have HB2 := hidden (out (bad (fun q => by have := rng_iff.1 q.1; omega)))
    clear k1 HV out bad
    go_enter Try.func9, Try.ntmps9
    go_wp2_with fail
    go_ret
    exact HB2.out _ _ rfl HOA.out HBA.out
  have k1a := k1 _ HR.out
  cases g3 : rowB 0 l with
  | false =>
    have HB2 := hidden (out (bad (fun q => by rw [g3] at q; cases q.2)))
    rw [g3] at k1a
    clear k1 HV out bad g3
    go_enter Try.func9, Try.ntmps9
    go_wp2_with (go_at_call 27; with_reducible refine k1a.mono ?_; rintro e w1 ⟨rfl, rfl⟩)
    go_ret
    exact HB2.out _ _ rfl HOA.out HBA.out
  | true =>
    have HN : Hid (R = if hid (mk s l) = 1 ∧ 0 ≤ leTo s l l.length then (mk s l).set (leTo s l l.length).toNat (-1) else mk s l) := by rw [Hid, HV.out, if_pos ⟨rng_iff.2 ⟨by omega, by omega⟩, g3⟩]
    have hl100 := (rowB_iff.1 g3).1
    have HG := hidden (mk_ge (s := s) g3)
    rw [g3] at k1a
    clear k1 HV out bad g3
    go_enter Try.func9, Try.ntmps9
    go_upto_region 3 with (go_at_call 27; with_reducible refine k1a.mono ?_; rintro e w1 ⟨rfl, hw1⟩; have hw2 := hw1.symm; clear hw1; subst hw2)
    clear k1a
    go_upto_region 4 with (at_builtin; refine wpList_newA rfl (.tmp 21) (.tmp 22) rfl w.heap.size rfl (PB.new w #[] 2) ao l.length cap l rfl (HR.out.below HBA.out) hn ?_; intro v4 w4 ho4 hg4; have hO4 := hidden ho4; obtain ⟨ad, c, rfl⟩ := ownW_slice ho4)
    have HB4 := hidden (HBA.out.grown hg4 (by simp) (fun k hk => by cases hk; exact Nat.le_refl _))
    clear hg4 ho4 HOA HBA
    go_wp2_with fail
    go_loopw [6, 7, 26] (fun _ _ iv wr => ∃ i : Nat, i ≤ l.length ∧ iv = .int .i64 i ∧ Hid (wr.ownsRow w.heap.size 2 1 (.slice ad l.length c) l.length ((mkTo s l i).map fun z => Value.int .i64 z)) ∧ Below w.heap.size w wr) (fun _ _ iv _ => l.length - (intOf iv).toNat)
    case atStart => exact ⟨0, Nat.zero_le _, rfl, by rw [Hid, mkTo_zero]; exact hO4.out, HB4.out⟩
    case round =>
      clear hO4 HB4
      obtain ⟨i, hi, rfl, ho, hb⟩ := hrel
      by_cases hlt : i < l.length
      · have hlti : (i : Int) < (l.length : Int) := by omega
        obtain ⟨y, hy⟩ := some_of l i hlt
        obtain ⟨g, off, rfl, hg, c0⟩ := vint_cell (HR.out.below hb) hy
        have HX := hidden hy
        obtain ⟨G, rfl, hG⟩ := ownA_some ho.out (by omega)
        obtain ⟨⟨u, hu⟩, hf, ho2⟩ := own_putA (u := .int .i64 (-1)) ho.out (j := i) (by omega)
        have HO2 := hidden ho2
        have hb2 : Below w.heap.size w (wr.setCell ⟨G, i, none⟩ (.int .i64 (-1))) := hb.setCell (p := ⟨G, i, none⟩) hG _
        clear hy ho2
        by_cases q1 : 1 ≤ y
        · by_cases q2 : y ≤ s
          · go_wp2_with fail
            go_roundw
            case rel => exact ⟨i + 1, by omega, rfl, by rw [Hid, mkTo_set HX.out ⟨q1, q2⟩, ← map_setA]; exact HO2.out, hb2⟩
            case measure => simp [intOf]; omega
          · go_wp2_with fail
            go_roundw
            case rel => exact ⟨i + 1, by omega, rfl, by rw [Hid, mkTo_stay HX.out (fun z => q2 z.2)]; exact ho.out, hb⟩
            case measure => simp [intOf]; omega
        · go_wp2_with fail
          go_roundw
          case rel => exact ⟨i + 1, by omega, rfl, by rw [Hid, mkTo_stay HX.out (fun z => q1 z.1)]; exact ho.out, hb⟩
          case measure => simp [intOf]; omega
      · have hlti : ¬ (i : Int) < (l.length : Int) := by omega
        have hil : i = l.length := by omega
        subst hil
        have hO := ho.out
        rw [mkTo_end] at hO
        have HO := hidden hO
        have hmn := mk_len s l
        have hrow := (vownI (L := mk s l) (by rw [hmn]; exact hO)).row
        have kL := ilone_any ad l.length c (mk s l) wr hrow (by omega) HG.out
        have kA := ileast_any ad l.length c (mk s l) s wr hrow (by omega)
        rw [hmn, leTo_mk (by omega) _ (Nat.le_refl _)] at kA
        have hln := lone_neg (l := mk s l)
        have hlb := leTo_bd s l l.length
        generalize Ax.lone (mk s l) = L1 at *
        generalize leTo s l l.length = L2 at *
        clear hO ho hrow HG
        by_cases q1 : L1 < 0
        · have HE : Hid (R = mk s l) := by rw [Hid, HN.out, if_neg]; exact fun z => (hln.1 q1) z.1
          clear HN hln kA
          go_wp2_with (go_at_call 28; with_reducible refine kL.mono ?_; rintro e w1 ⟨rfl, hw1⟩; have hw2 := hw1.symm; clear hw1; subst hw2)
          go_ret
          exact ⟨_, rfl, by rw [HE.out]; exact vownI (by rw [hmn]; exact HO.out), hb⟩
        have hh : hid (mk s l) = 1 := by
          rcases Nat.lt_or_ge (hid (mk s l)) 1 with z | z
          · exact absurd (hln.2 (by omega)) q1
          · by_cases z2 : hid (mk s l) = 1
            · exact z2
            · exact absurd (hln.2 z2) q1
        by_cases q2 : 0 ≤ L2
        · obtain ⟨P, rfl⟩ := Int.eq_ofNat_of_zero_le q2
          have HE : Hid (R = (mk s l).set P (-1)) := by rw [Hid, HN.out, if_pos ⟨hh, q2⟩]; rfl
          have hP : P < l.length := by omega
          obtain ⟨G, rfl, hG⟩ := ownA_some HO.out (by omega)
          obtain ⟨⟨u, hu⟩, hf, ho2⟩ := own_putA (u := .int .i64 (-1)) HO.out (j := P) (by omega)
          have HO2 := hidden ho2
          have hb2 : Below w.heap.size w (wr.setCell ⟨G, P, none⟩ (.int .i64 (-1))) := hb.setCell (p := ⟨G, P, none⟩) hG _
          have hP1 : (P : Int) < (l.length : Int) := by omega
          clear HN hln hh ho2
          go_wp2_with (first | (go_at_call 28; with_reducible refine kL.mono ?_; rintro e w1 ⟨rfl, hw1⟩; have hw2 := hw1.symm; clear hw1; subst hw2) | (go_at_call 29; with_reducible refine kA.mono ?_; rintro e w1 ⟨rfl, hw1⟩; have hw2 := hw1.symm; clear hw1; subst hw2))
          go_ret
          refine ⟨_, rfl, ?_, hb2⟩
          rw [HE.out]
          refine vownI ?_
          rw [List.length_set, hmn, ← map_setA]
          exact HO2.out
        · have HE : Hid (R = mk s l) := by rw [Hid, HN.out, if_neg]; exact fun z => q2 z.2
          have q3 : ¬ (0 : Int) ≤ L2 := q2
          clear HN hln hh
          go_wp2_with (first | (go_at_call 28; with_reducible refine kL.mono ?_; rintro e w1 ⟨rfl, hw1⟩; have hw2 := hw1.symm; clear hw1; subst hw2) | (go_at_call 29; with_reducible refine kA.mono ?_; rintro e w1 ⟨rfl, hw1⟩; have hw2 := hw1.symm; clear hw1; subst hw2))
          go_ret
          exact ⟨_, rfl, by rw [HE.out]; exact vownI (by rw [hmn]; exact HO.out), hb⟩
end Go.Proofs.Ytinnmebpipnccaa
