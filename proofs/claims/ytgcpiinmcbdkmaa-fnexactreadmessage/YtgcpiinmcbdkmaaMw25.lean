/-
  Merged: Rm14.
-/
import Derived.Test.YtgcpiinmcbdkmaaMw24
import Derived.Deep.RegionLaw
import Derived.Deep.AppendLies
namespace Go.Proofs.Ytgcpiinmcbdkmaa
open Go.RowKit Va Ms
set_option linter.all false
theorem nb_256 (s : ByteArray) (i : Nat) : nb s i < 256 := by have := nb_le s i; omega
theorem tail_eq {o : Option Code} {X Y : Code} (h : o = some (.seq .skip X)) (k : o = some (.seq .skip Y)) : X = Y := by
  rw [h] at k
  cases k; rfl
theorem BkR.drewN {s : ByteArray} {R : Nat} {w0 w : World} {i b : Nat} {nm : ByteArray} {fv dv pv : Value} {c a : Nat} {L : List (Pt × Value)} {F : Nat} (h : BkR s R w0 w i b nm fv dv pv c a L F) (k : Nat) : BkR s R w0 (w.drewN k) i b nm fv dv pv c a L F :=
  ⟨h.box.drewN k, h.keep.drewN k, h.bF, h.Fs, h.parts, h.each, h.len, h.dist⟩
theorem jj_at0 {s : ByteArray} {R : Nat} {w0 w : World} {n i : Nat} (h : ((0 : Nat) = 0 ∧ n = 3 * (s.size - i) ∧ J0 s R w0 i w) ∨ ((0 : Nat) = 2 ∧ n = 3 * (s.size - i) ∧ J2 s R w0 i w) ∨ ((0 : Nat) = 1 ∧ n = 3 * (s.size - i) ∧ J1 s R w0 i w) ∨ ((0 : Nat) = 4 ∧ n = 3 * (s.size - i) + 2 ∧ J4 s R w0 i w) ∨ ((0 : Nat) = 3 ∧ n = 3 * (s.size - i) + 1 ∧ nb s i = 92 ∧ J4 s R w0 i w)) : n = 3 * (s.size - i) ∧ J0 s R w0 i w := by
  rcases h with ⟨h, q⟩ | ⟨h, q⟩ | ⟨h, q⟩ | ⟨h, q⟩ | ⟨h, q⟩ <;> first | exact q | (exfalso; revert h; decide)
theorem jj_at2 {s : ByteArray} {R : Nat} {w0 w : World} {n i : Nat} (h : ((2 : Nat) = 0 ∧ n = 3 * (s.size - i) ∧ J0 s R w0 i w) ∨ ((2 : Nat) = 2 ∧ n = 3 * (s.size - i) ∧ J2 s R w0 i w) ∨ ((2 : Nat) = 1 ∧ n = 3 * (s.size - i) ∧ J1 s R w0 i w) ∨ ((2 : Nat) = 4 ∧ n = 3 * (s.size - i) + 2 ∧ J4 s R w0 i w) ∨ ((2 : Nat) = 3 ∧ n = 3 * (s.size - i) + 1 ∧ nb s i = 92 ∧ J4 s R w0 i w)) : n = 3 * (s.size - i) ∧ J2 s R w0 i w := by
  rcases h with ⟨h, q⟩ | ⟨h, q⟩ | ⟨h, q⟩ | ⟨h, q⟩ | ⟨h, q⟩ <;> first | exact q | (exfalso; revert h; decide)
theorem jj_at1 {s : ByteArray} {R : Nat} {w0 w : World} {n i : Nat} (h : ((1 : Nat) = 0 ∧ n = 3 * (s.size - i) ∧ J0 s R w0 i w) ∨ ((1 : Nat) = 2 ∧ n = 3 * (s.size - i) ∧ J2 s R w0 i w) ∨ ((1 : Nat) = 1 ∧ n = 3 * (s.size - i) ∧ J1 s R w0 i w) ∨ ((1 : Nat) = 4 ∧ n = 3 * (s.size - i) + 2 ∧ J4 s R w0 i w) ∨ ((1 : Nat) = 3 ∧ n = 3 * (s.size - i) + 1 ∧ nb s i = 92 ∧ J4 s R w0 i w)) : n = 3 * (s.size - i) ∧ J1 s R w0 i w := by
  rcases h with ⟨h, q⟩ | ⟨h, q⟩ | ⟨h, q⟩ | ⟨h, q⟩ | ⟨h, q⟩ <;> first | exact q | (exfalso; revert h; decide)
theorem jj_at4 {s : ByteArray} {R : Nat} {w0 w : World} {n i : Nat} (h : ((4 : Nat) = 0 ∧ n = 3 * (s.size - i) ∧ J0 s R w0 i w) ∨ ((4 : Nat) = 2 ∧ n = 3 * (s.size - i) ∧ J2 s R w0 i w) ∨ ((4 : Nat) = 1 ∧ n = 3 * (s.size - i) ∧ J1 s R w0 i w) ∨ ((4 : Nat) = 4 ∧ n = 3 * (s.size - i) + 2 ∧ J4 s R w0 i w) ∨ ((4 : Nat) = 3 ∧ n = 3 * (s.size - i) + 1 ∧ nb s i = 92 ∧ J4 s R w0 i w)) : n = 3 * (s.size - i) + 2 ∧ J4 s R w0 i w := by
  rcases h with ⟨h, q⟩ | ⟨h, q⟩ | ⟨h, q⟩ | ⟨h, q⟩ | ⟨h, q⟩ <;> first | exact q | (exfalso; revert h; decide)
theorem jj_at3 {s : ByteArray} {R : Nat} {w0 w : World} {n i : Nat} (h : ((3 : Nat) = 0 ∧ n = 3 * (s.size - i) ∧ J0 s R w0 i w) ∨ ((3 : Nat) = 2 ∧ n = 3 * (s.size - i) ∧ J2 s R w0 i w) ∨ ((3 : Nat) = 1 ∧ n = 3 * (s.size - i) ∧ J1 s R w0 i w) ∨ ((3 : Nat) = 4 ∧ n = 3 * (s.size - i) + 2 ∧ J4 s R w0 i w) ∨ ((3 : Nat) = 3 ∧ n = 3 * (s.size - i) + 1 ∧ nb s i = 92 ∧ J4 s R w0 i w)) : n = 3 * (s.size - i) + 1 ∧ nb s i = 92 ∧ J4 s R w0 i w := by
  rcases h with ⟨h, q⟩ | ⟨h, q⟩ | ⟨h, q⟩ | ⟨h, q⟩ | ⟨h, q⟩ <;> first | exact q | (exfalso; revert h; decide)
set_option maxRecDepth 20000 in
set_option maxHeartbeats 16000000 in
theorem pass3 (s : ByteArray) (hs : s.size ≤ 20000) (hE : Ended s) (R : Nat) (w0 : World) (Q : Act → World → Prop) (n : Nat) (a0 : Act) (w : World) (hJ : JJ s R w0 3 n a0 w) : ∀ X, findLabel cdRp 3 = some (.seq .skip X) → X.wp Try.prog (jumpsF (fun l a w => ∃ n1, n1 < n ∧ JJ s R w0 l n1 a w) Q) a0 w := by
  intro X hX
  obtain rfl := tail_eq (o := findLabel cdRp 3) rfl hX
  clear hX
  obtain ⟨⟨u1, u2, u3, u4, u5, u6, u7, u8, u9, u10, u11, u12, u13, u14, u15, u16, u17, u18, u19, u20, u21, u22, u23, u24, u25, u26, u27, u28, u29, u30, u31, u32, u33, u34, u35, u36, u37, u38, u39, u40, u41, u42, u43, u44, u45, u46, u47, u48, u49, u50, u51, u52, u53, u54, u55, u56, u57, u58, u59, u60, rfl⟩, i, hJ⟩ := hJ
  replace hJ := jj_at3 hJ
  obtain ⟨hn, hb92, hi, b, nm, fv, dv, pv, c, a, L, F, fs, fd, hB, hF, hfl, hD, hfd, hdl, hI⟩ := hJ
  have kt := takeE_any s i b nm fv dv pv c a R w0.heap.size fd w hB.box hi (by omega) hD hB.keep.size (by omega)
  have HB := hidden hB
  have HF := hidden hF
  have HD := hidden hD
  have HI := hidden hI
  have HN := hidden hn
  have H92 := hidden hb92
  clear hB hF hD hI hn hb92
  go_wp2_with (go_at_call 112; refine kt.mono ?_; rintro e w1 ⟨rfl, x, k, c', a', da, dc, hx, hP1, hD1, hT, hcase⟩)
  have hk1 : 1 ≤ k := by
    rcases hcase with ⟨h1, h2, -⟩ | ⟨-, h2, -⟩
    · have := h1.2.1; omega
    · omega
  have hlt : i + k < s.size := by
    rcases hcase with ⟨h1, h2, -⟩ | ⟨-, h2, -⟩
    · rw [h2]; exact hE.far _ hi (fun j hj => (esc_far h1 j hj).2)
    · rw [h2]; exact hE.next hi (by rw [H92.out]; decide)
  have hB1 := HB.out.step hT (fun j hj => ownB_lt HD.out j hj) (fun j hj => own_apartB HB.out.parts HD.out (by decide) j hj) (fun p hp j hj => own_apartB (HB.out.each p hp).1 HD.out (by decide) j hj) hP1 (Nat.le_add_right i k) (Nat.le_refl F) (Nat.le_trans HB.out.Fs hT.size)
  have hF1 := hT.own HF.out (ownU_ty HF.out HB.out.box (by decide)) (fun j hj => own_apartB HF.out HD.out (by decide) j hj)
  have hI1 : InvF s (i + k) b nm (L.map Prod.fst) fs (fd ++ [x]) c' a' := by
    rcases hcase with ⟨h1, rfl, rfl, rfl⟩ | ⟨h1, rfl, rfl, rfl⟩
    · exact inv_esc HI.out h1
    · exact inv_none HI.out hi H92.out h1
  have hfd1 : ∀ y ∈ fd ++ [x], y < 256 := fun y hy => by
    rcases List.mem_append.1 hy with q | q
    · exact hfd y q
    · obtain rfl := List.mem_singleton.1 q; exact hx
  have hm := HN.out
  refine wp_goto ?_
  show ∃ n1, n1 < n ∧ JJ s R w0 4 n1 _ _
  exact ⟨3 * (s.size - (i + k)) + 2, by omega, ⟨_, _, _, _, _, _, _, _, _, _, _, _, _, _, _, _, _, _, _, _, _, _, _, _, _, _, _, _, _, _, _, _, _, _, _, _, _, _, _, _, _, _, _, _, _, _, _, _, _, _, _, _, _, _, _, _, _, _, _, _, rfl⟩, i + k, Or.inr (Or.inr (Or.inr (Or.inl ⟨rfl, rfl, hlt, b, nm, fv, _, pv, _, _, L, F, fs, fd ++ [x], hB1, hF1, by omega, by rw [List.length_append]; exact hD1, hfd1, by rw [List.length_append]; show fd.length + 1 ≤ _; omega, hI1⟩)))⟩
set_option maxRecDepth 20000 in
set_option maxHeartbeats 16000000 in
theorem pass4 (s : ByteArray) (hs : s.size ≤ 20000) (hE : Ended s) (R : Nat) (w0 : World) (Q : Act → World → Prop) (n : Nat) (a0 : Act) (w : World) (hJ : JJ s R w0 4 n a0 w) : ∀ X, findLabel cdRp 4 = some (.seq .skip X) → X.wp Try.prog (jumpsF (fun l a w => ∃ n1, n1 < n ∧ JJ s R w0 l n1 a w) Q) a0 w := by
  intro X hX
  obtain rfl := tail_eq (o := findLabel cdRp 4) rfl hX
  clear hX
  obtain ⟨⟨u1, u2, u3, u4, u5, u6, u7, u8, u9, u10, u11, u12, u13, u14, u15, u16, u17, u18, u19, u20, u21, u22, u23, u24, u25, u26, u27, u28, u29, u30, u31, u32, u33, u34, u35, u36, u37, u38, u39, u40, u41, u42, u43, u44, u45, u46, u47, u48, u49, u50, u51, u52, u53, u54, u55, u56, u57, u58, u59, u60, rfl⟩, i, hJ⟩ := hJ
  replace hJ := jj_at4 hJ
  obtain ⟨hn, hi, b, nm, fv, dv, pv, c, a, L, F, fs, fd, hB, hF, hfl, hD, hfd, hdl, hI⟩ := hJ
  have HB := hidden hB
  have HF := hidden hF
  have HD := hidden hD
  have HI := hidden hI
  have HN := hidden hn
  have hx0 := idx_at s i (i : Int) rfl hi
  obtain ⟨p0, p1, p2, p3, p4, p5, p6, p7, p8⟩ := hB.box.nine
  clear hB hF hD hI hn
  go_upto_region 7 with fail
  go_quiet (fail)
  generalize hw8 : w.drewN _ = w8
  replace HB : Hid (BkR s R w0 w8 i b nm fv dv pv c a L F) := by rw [← hw8]; exact HB.out.drewN _
  replace HF : Hid (w8.ownsRow F 9 1 fv fs.length (strV fs)) := by rw [← hw8]; exact HF.out
  replace HD : Hid (w8.ownsRow w0.heap.size 5 1 dv fd.length (bytV fd)) := by rw [← hw8]; exact HD.out
  clear hx0 p0 p1 p2 p3 p4 p5 p6 p7 p8 hw8
  by_cases hv : nb s i = 124
  · skip
    have ke := fun W h1 h2 h3 h4 => endF_any s i b nm fv dv pv c a R F w0.heap.size fs fd W h1 h2 h3 h4 hfd (by omega)
    have e124 : (((nb s i : Nat) : Int) == 124) = true := by rw [beq_iff_eq]; omega
    have e13 : (((nb s i : Nat) : Int) == 13) = false := by rw [beq_eq_false_iff_ne]; omega
    have e92 : (((nb s i : Nat) : Int) == 92) = false := by rw [beq_eq_false_iff_ne]; omega
    have HV : Hid (nb s i = 124 ∨ nb s i = 13) := Or.inl hv
    clear hv
    go_wp2_with (go_at_call 111; refine (ke _ ?h1 ?h2 ?h3 ?h4).mono ?_; (case h1 => exact HB.out.box); (case h2 => exact HB.out.Fs); (case h3 => exact HF.out); (case h4 => exact HD.out); rintro e w1 ⟨rfl, fa, fc, hP1, hF1, hT⟩)
    have hB1 := HB.out.step hT (fun j hj => Nat.le_trans HB.out.bF (ownB_lt HF.out j hj)) (fun j hj => own_apartB HB.out.parts HF.out (by decide) j hj) (fun p hp j hj e => by have h1 := (HB.out.each p hp).2 j hj; have h2 := ownB_lt HF.out j e; omega) hP1 (Nat.le_refl i) (Nat.le_refl F) (Nat.le_trans HB.out.Fs hT.size)
    have hI1 := inv_field HI.out hi HV.out
    have hm := HN.out
    refine wp_goto ?_
    show ∃ n1, n1 < n ∧ JJ s R w0 1 n1 _ _
    exact ⟨3 * (s.size - i), by omega, ⟨_, _, _, _, _, _, _, _, _, _, _, _, _, _, _, _, _, _, _, _, _, _, _, _, _, _, _, _, _, _, _, _, _, _, _, _, _, _, _, _, _, _, _, _, _, _, _, _, _, _, _, _, _, _, _, _, _, _, _, _, rfl⟩, i, Or.inr (Or.inr (Or.inl ⟨rfl, rfl, hi, HV.out, b, nm, _, dv, pv, c, a, L, F, fs ++ [bsOf fd], hB1, by rw [List.length_append]; exact hF1, by rw [List.length_append]; show fs.length + 1 ≤ _; omega, hI1⟩))⟩
  · have h1 := hv
    clear hv
    by_cases hv : nb s i = 13
    · skip
      have ke := fun W h1 h2 h3 h4 => endF_any s i b nm fv dv pv c a R F w0.heap.size fs fd W h1 h2 h3 h4 hfd (by omega)
      have e124 : (((nb s i : Nat) : Int) == 124) = false := by rw [beq_eq_false_iff_ne]; omega
      have e13 : (((nb s i : Nat) : Int) == 13) = true := by rw [beq_iff_eq]; omega
      have e92 : (((nb s i : Nat) : Int) == 92) = false := by rw [beq_eq_false_iff_ne]; omega
      have HV : Hid (nb s i = 124 ∨ nb s i = 13) := Or.inr hv
      clear hv
      go_wp2_with (go_at_call 111; refine (ke _ ?h1 ?h2 ?h3 ?h4).mono ?_; (case h1 => exact HB.out.box); (case h2 => exact HB.out.Fs); (case h3 => exact HF.out); (case h4 => exact HD.out); rintro e w1 ⟨rfl, fa, fc, hP1, hF1, hT⟩)
      have hB1 := HB.out.step hT (fun j hj => Nat.le_trans HB.out.bF (ownB_lt HF.out j hj)) (fun j hj => own_apartB HB.out.parts HF.out (by decide) j hj) (fun p hp j hj e => by have h1 := (HB.out.each p hp).2 j hj; have h2 := ownB_lt HF.out j e; omega) hP1 (Nat.le_refl i) (Nat.le_refl F) (Nat.le_trans HB.out.Fs hT.size)
      have hI1 := inv_field HI.out hi HV.out
      have hm := HN.out
      refine wp_goto ?_
      show ∃ n1, n1 < n ∧ JJ s R w0 1 n1 _ _
      exact ⟨3 * (s.size - i), by omega, ⟨_, _, _, _, _, _, _, _, _, _, _, _, _, _, _, _, _, _, _, _, _, _, _, _, _, _, _, _, _, _, _, _, _, _, _, _, _, _, _, _, _, _, _, _, _, _, _, _, _, _, _, _, _, _, _, _, _, _, _, _, rfl⟩, i, Or.inr (Or.inr (Or.inl ⟨rfl, rfl, hi, HV.out, b, nm, _, dv, pv, c, a, L, F, fs ++ [bsOf fd], hB1, by rw [List.length_append]; exact hF1, by rw [List.length_append]; show fs.length + 1 ≤ _; omega, hI1⟩))⟩
    · have h2 := hv
      clear hv
      by_cases hv : nb s i = 92
      · skip
        have e124 : (((nb s i : Nat) : Int) == 124) = false := by rw [beq_eq_false_iff_ne]; omega
        have e13 : (((nb s i : Nat) : Int) == 13) = false := by rw [beq_eq_false_iff_ne]; omega
        have e92 : (((nb s i : Nat) : Int) == 92) = true := by rw [beq_iff_eq]; omega
        have HV := hidden hv
        clear hv h1 h2
        go_wp2_with fail
        have hm := HN.out
        refine wp_goto ?_
        show ∃ n1, n1 < n ∧ JJ s R w0 3 n1 _ _
        exact ⟨3 * (s.size - i) + 1, by omega, ⟨_, _, _, _, _, _, _, _, _, _, _, _, _, _, _, _, _, _, _, _, _, _, _, _, _, _, _, _, _, _, _, _, _, _, _, _, _, _, _, _, _, _, _, _, _, _, _, _, _, _, _, _, _, _, _, _, _, _, _, _, rfl⟩, i, Or.inr (Or.inr (Or.inr (Or.inr ⟨rfl, rfl, HV.out, hi, b, nm, fv, dv, pv, c, a, L, F, fs, fd, HB.out, HF.out, hfl, HD.out, hfd, hdl, HI.out⟩)))⟩
      · have kt := fun W h => take_any s i b nm fv dv pv c a R W h hi (by omega)
        have e124 : (((nb s i : Nat) : Int) == 124) = false := by rw [beq_eq_false_iff_ne]; omega
        have e13 : (((nb s i : Nat) : Int) == 13) = false := by rw [beq_eq_false_iff_ne]; omega
        have e92 : (((nb s i : Nat) : Int) == 92) = false := by rw [beq_eq_false_iff_ne]; omega
        have H1 := hidden h1
        have H2 := hidden h2
        have H3 := hidden hv
        clear hv h1 h2
        obtain ⟨p0, p1, p2, p3, p4, p5, p6, p7, p8⟩ := HB.out.box.nine
        obtain ⟨i0, hi0, hz0, hz1, hz2⟩ := info_parts infoU8r
        go_upto_region 12 with fail
        have HW8 := hidden (show w8.heap.size = w8.drew.heap.size from rfl)
        have hnb : nb s i < 256 := nb_256 s i
        go_region_law (first | (go_simp; go_at_call 109; refine (kt _ ?_).mono ?_; (exact HB.out.box); rintro e w1 ⟨rfl, hP1, hK1⟩; have hK8 : Keep R w8 w1 := ⟨hK1.os, hK1.tape, hK1.output, hK1.size, hK1.block⟩; have HB1 := hidden (HB.out.kept hK8 hP1 (Nat.le_succ i) (Nat.le_refl F) (Nat.le_trans HB.out.Fs hK8.size)); have T8 := Two.of_keep (r := none) hK8; have HF1 := hidden (T8.own HF.out (ownU_ty HF.out HB.out.box (by decide)) (fun j _ e => by cases e)); have HD1 := hidden (T8.own HD.out (ownU_ty HD.out HB.out.box (by decide)) (fun j _ e => by cases e)); have HP1 := hidden hP1; clear p0 p1 p2 p3 p4 p5 p6 p7 p8 hK1 hK8 T8; obtain ⟨p0, p1, p2, p3, p4, p5, p6, p7, p8⟩ := hP1.nine; have n5 : (w1.alloc (.cells #[.int .u8 (nb s i : Int)] 5)).cell? ⟨R, 5, none⟩ = some dv := (hP1.alloc _).cell 5; clear hP1) | (refine step_append_lies _ rfl (.tmp 52) (.tmp 55) 22 rfl w0.heap.size 5 i0 (.int .u8 0) 1 1 Try.underlying22 hi0 hz0 hz1 hz2 rfl (by decide) dv fd.length (bytV fd) ?_ (HD1.out.alloc _) ⟨w1.heap.size, 0, none⟩ 1 1 [.int .u8 (nb s i : Int)] ?_ rfl ?_ ?_ (by omega) ?_ ?_ ?_ (w1.heap.size + 1) ?_ ?_; (first | rfl | simp [Act.eval] | simp [Act.eval, Act.put]); (first | rfl | simp [Act.eval] | simp [Act.eval, Act.put]); (exact cell_newQ (by simp) [.int .u8 (nb s i : Int)] _); (simp [Value.oneCell']); (unfold maxLen; omega); (omega); (have h7 := HB1.out.keep.size; rw [World.size_alloc]; omega); (simp); intro g cap w4 ho4 hg4 _ _; have hP4 := (HP1.out.alloc (.cells #[.int .u8 (nb s i : Int)] 5)).kept hg4 (ownU_ty HD1.out HP1.out (by decide)); have HP4 := hidden hP4; have HO4 := hidden ho4; have HG4 := hidden hg4; clear p0 p1 p2 p3 p4 p5 p6 p7 p8 ho4 hg4; obtain ⟨p0, p1, p2, p3, p4, p5, p6, p7, p8⟩ := hP4.nine; have f5 := hP4.frozen 5; clear hP4))
        all_goals
          have hm := HN.out
          have HT := (((Two.refl R dv.ownBlock w1).alloc (.cells #[.int .u8 (nb s i : Int)] 5)).grown HG4.out).set 5 (.slice (some ⟨g, 0, none⟩) (fd.length + 1) cap)
          have hP5 := HP4.out.put 5 (.slice (some ⟨g, 0, none⟩) (fd.length + 1) cap) (vs' := rdC s (i + 1) b nm fv (.slice (some ⟨g, 0, none⟩) (fd.length + 1) cap) pv c a) rfl
          have hO5 := ownB_far HO4.out (ownU_ty HO4.out HP4.out (by decide)) 5 (.slice (some ⟨g, 0, none⟩) (fd.length + 1) cap)
          have hB5 := HB1.out.step HT (fun j hj => ownB_lt HD1.out j hj) (fun j hj => own_apartB HB1.out.parts HD1.out (by decide) j hj) (fun p hp j hj => own_apartB (HB1.out.each p hp).1 HD1.out (by decide) j hj) hP5 (Nat.le_refl _) (Nat.le_refl F) (Nat.le_trans HB1.out.Fs HT.size)
          have hF5 := HT.own HF1.out (ownU_ty HF1.out HB1.out.box (by decide)) (fun j hj => own_apartB HF1.out HD1.out (by decide) j hj)
          have hI5 := inv_byte HI.out hi H1.out H2.out H3.out
          have hlt := hE.next hi H2.out
          have HA := hidden (And.intro hB5 (And.intro hF5 (And.intro hO5 (And.intro hI5 hlt))))
          clear HT hP5 hO5 hB5 hF5 hI5 hlt hm p0 p1 p2 p3 p4 p5 p6 p7 p8 f5 HP4 HO4 HG4
          go_wp2_with fail
          obtain ⟨hB5, hF5, hO5, hI5, hlt⟩ := HA.out
          have hm := HN.out
          refine wp_goto ?_
          show ∃ n1, n1 < n ∧ JJ s R w0 4 n1 _ _
          exact ⟨3 * (s.size - (i + 1)) + 2, by omega, ⟨_, _, _, _, _, _, _, _, _, _, _, _, _, _, _, _, _, _, _, _, _, _, _, _, _, _, _, _, _, _, _, _, _, _, _, _, _, _, _, _, _, _, _, _, _, _, _, _, _, _, _, _, _, _, _, _, _, _, _, _, rfl⟩, i + 1, Or.inr (Or.inr (Or.inr (Or.inl ⟨rfl, rfl, hlt, b, nm, fv, _, pv, _, _, L, F, fs, fd ++ [nb s i], hB5, hF5, by omega, by rw [List.length_append, show bytV (fd ++ [nb s i]) = bytV fd ++ [.int .u8 (nb s i : Int)] from by simp [bytV]]; exact hO5, (fun y hy => (List.mem_append.1 hy).elim (hfd y) (fun q => by obtain rfl := List.mem_singleton.1 q; exact hnb)), by rw [List.length_append]; show fd.length + 1 ≤ _; omega, hI5⟩)))⟩
end Go.Proofs.Ytgcpiinmcbdkmaa
