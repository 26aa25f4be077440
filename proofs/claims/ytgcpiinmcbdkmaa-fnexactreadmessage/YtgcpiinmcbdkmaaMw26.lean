/-
  Merged: Rm15.
-/
import Derived.Test.YtgcpiinmcbdkmaaMw25
namespace Go.Proofs.Ytgcpiinmcbdkmaa
open Go.RowKit Va Ms
set_option linter.all false
theorem own_none0 {w : World} {O t s : Nat} (h : PB w O #[] t) : w.ownsRow O t s (.slice (some ⟨O, 0, none⟩) 0 0) 0 [] :=
  ⟨by simp, .inr ⟨O, 0, #[], rfl, Nat.le_refl _, h, Nat.le_refl _, Nat.zero_le _, by simp, by simp⟩⟩
set_option maxRecDepth 20000 in
set_option maxHeartbeats 16000000 in
theorem pass2 (s : ByteArray) (hs : s.size ≤ 20000) (hE : Ended s) (R : Nat) (w0 : World) (Q : Act → World → Prop) (n : Nat) (a0 : Act) (w : World) (hJ : JJ s R w0 2 n a0 w) : ∀ X, findLabel cdRp 2 = some (.seq .skip X) → X.wp Try.prog (jumpsF (fun l a w => ∃ n1, n1 < n ∧ JJ s R w0 l n1 a w) Q) a0 w := by
  intro X hX
  obtain rfl := tail_eq (o := findLabel cdRp 2) rfl hX
  clear hX
  obtain ⟨⟨u1, u2, u3, u4, u5, u6, u7, u8, u9, u10, u11, u12, u13, u14, u15, u16, u17, u18, u19, u20, u21, u22, u23, u24, u25, u26, u27, u28, u29, u30, u31, u32, u33, u34, u35, u36, u37, u38, u39, u40, u41, u42, u43, u44, u45, u46, u47, u48, u49, u50, u51, u52, u53, u54, u55, u56, u57, u58, u59, u60, rfl⟩, i, hJ⟩ := hJ
  replace hJ := jj_at2 hJ
  obtain ⟨hn, hi, b, nm, fv, dv, pv, a, L, F, hB, hI⟩ := hJ
  have kt := fun W h => take_any s i b nm fv dv pv 4 a R W h hi (by omega)
  have HB := hidden hB
  have HI := hidden hI
  have HN := hidden hn
  clear hB hI hn
  by_cases hv : nb s i = 13
  · skip
    have e13 : (((nb s i : Nat) : Int) == 13) = true := by rw [beq_iff_eq]; omega
    clear hv
    go_wp2_with (go_at_call 109; refine (kt _ ?_).mono ?_; (exact HB.out.box); rintro e w1 ⟨rfl, hP1, hK1⟩)
    have hB1 := HB.out.kept hK1 hP1 (Nat.le_succ i) (Nat.le_refl F) (Nat.le_trans HB.out.Fs hK1.size)
    have HB1 := hidden hB1
    clear hB1 hP1 hK1
    go_wp2_with fail
    have hm := HN.out
    refine wp_goto ?_
    show ∃ n1, n1 < n ∧ JJ s R w0 0 n1 _ _
    exact ⟨3 * (s.size - (i + 1)), by omega, ⟨_, _, _, _, _, _, _, _, _, _, _, _, _, _, _, _, _, _, _, _, _, _, _, _, _, _, _, _, _, _, _, _, _, _, _, _, _, _, _, _, _, _, _, _, _, _, _, _, _, _, _, _, _, _, _, _, _, _, _, _, rfl⟩, i + 1, Or.inl ⟨rfl, rfl, by omega, b, nm, fv, dv, pv, 4, a, L, F, HB1.out, inv_skip HI.out⟩⟩
  · have hlt := hE.next hi hv
    have e13 : (((nb s i : Nat) : Int) == 13) = false := by rw [beq_eq_false_iff_ne]; omega
    clear hv
    go_wp2_with (go_at_call 109; refine (kt _ ?_).mono ?_; (exact HB.out.box); rintro e w1 ⟨rfl, hP1, hK1⟩)
    have hB1 := HB.out.kept hK1 hP1 (Nat.le_succ i) (Nat.le_refl F) (Nat.le_trans HB.out.Fs hK1.size)
    have HB1 := hidden hB1
    clear hB1 hP1 hK1
    go_wp2_with fail
    have hm := HN.out
    refine wp_goto ?_
    show ∃ n1, n1 < n ∧ JJ s R w0 2 n1 _ _
    exact ⟨3 * (s.size - (i + 1)), by omega, ⟨_, _, _, _, _, _, _, _, _, _, _, _, _, _, _, _, _, _, _, _, _, _, _, _, _, _, _, _, _, _, _, _, _, _, _, _, _, _, _, _, _, _, _, _, _, _, _, _, _, _, _, _, _, _, _, _, _, _, _, _, rfl⟩, i + 1, Or.inr (Or.inl ⟨rfl, rfl, hlt, b, nm, fv, dv, pv, a, L, F, HB1.out, HI.out⟩)⟩
set_option maxRecDepth 20000 in
set_option maxHeartbeats 16000000 in
theorem pass1 (s : ByteArray) (hs : s.size ≤ 20000) (hE : Ended s) (R : Nat) (w0 : World) (Q : Act → World → Prop) (n : Nat) (a0 : Act) (w : World) (hJ : JJ s R w0 1 n a0 w) : ∀ X, findLabel cdRp 1 = some (.seq .skip X) → X.wp Try.prog (jumpsF (fun l a w => ∃ n1, n1 < n ∧ JJ s R w0 l n1 a w) Q) a0 w := by
  intro X hX
  obtain rfl := tail_eq (o := findLabel cdRp 1) rfl hX
  clear hX
  obtain ⟨⟨u1, u2, u3, u4, u5, u6, u7, u8, u9, u10, u11, u12, u13, u14, u15, u16, u17, u18, u19, u20, u21, u22, u23, u24, u25, u26, u27, u28, u29, u30, u31, u32, u33, u34, u35, u36, u37, u38, u39, u40, u41, u42, u43, u44, u45, u46, u47, u48, u49, u50, u51, u52, u53, u54, u55, u56, u57, u58, u59, u60, rfl⟩, i, hJ⟩ := hJ
  replace hJ := jj_at1 hJ
  obtain ⟨hn, hi, hby, b, nm, fv, dv, pv, c, a, L, F, fs, hB, hF, hfl, hI⟩ := hJ
  have kt := fun W h => take_any s i b nm fv dv pv c a R W h hi (by omega)
  have HB := hidden hB
  have HF := hidden hF
  have HI := hidden hI
  have HN := hidden hn
  obtain ⟨fa, fc, rfl⟩ := ownW_slice hF
  clear hB hF hI hn
  by_cases hv : nb s i = 13
  · skip
    have e13 : (((nb s i : Nat) : Int) == 13) = true := by rw [beq_iff_eq]; omega
    have HV := hidden hv
    clear hv hby
    go_wp2_with (first | (go_at_call 109; refine (kt _ ?_).mono ?_; (exact HB.out.box); rintro e w1 ⟨rfl, hP1, hK1⟩; have hB1 := HB.out.kept hK1 hP1 (Nat.le_succ i) (Nat.le_refl F) (Nat.le_trans HB.out.Fs hK1.size); have HB1 := hidden hB1; have HF1 := hidden ((Two.of_keep (r := none) hK1).own HF.out (ownU_ty HF.out HB.out.box (by decide)) (fun j _ e => by cases e)); have hz1 := hK1.size; obtain ⟨p0, p1, p2, p3, p4, p5, p6, p7, p8⟩ := hP1.nine; have f5 := hP1.frozen 5; clear hP1 hK1 hB1) | (go_at_call 110; refine (endP_any s (i + 1) b nm fa fc dv pv c a R w0.heap.size fs L _ HB1.out.box HB1.out.keep.size (own_vstr HF1.out) (ownU_ty HF1.out HB1.out.box (by decide)) HB1.out.parts (by omega) (by have := HB.out.len; omega)).mono ?_; rintro e w2 ⟨rfl, pa, pc, hP2, hp2, hT2⟩))
    have hB2 := HB1.out.push hT2 HF1.out hP2 hp2 (by have := HB.out.len; omega)
    have hI2 : InvN s (i + 1) ((L ++ [((⟨nm, fs⟩ : Pt), Value.slice fa fs.length fc)]).map Prod.fst) (if fieldsB fs = true then c else noteC c 6) (if fieldsB fs = true then a else noteA c a 6 b) := by
      cases hfb : fieldsB fs with
      | true => rw [if_pos rfl, if_pos rfl, List.map_append]; exact inv_endok HI.out hi HV.out hfb
      | false => rw [if_neg (by decide), if_neg (by decide)]; exact inv_endno HI.out hi HV.out hfb
    have hm := HN.out
    refine wp_goto ?_
    show ∃ n1, n1 < n ∧ JJ s R w0 0 n1 _ _
    exact ⟨3 * (s.size - (i + 1)), by omega, ⟨_, _, _, _, _, _, _, _, _, _, _, _, _, _, _, _, _, _, _, _, _, _, _, _, _, _, _, _, _, _, _, _, _, _, _, _, _, _, _, _, _, _, _, _, _, _, _, _, _, _, _, _, _, _, _, _, _, _, _, _, rfl⟩, i + 1, Or.inl ⟨rfl, rfl, by omega, b, nm, _, dv, _, _, _, _, _, hB2, hI2⟩⟩
  · have hlt := hE.next hi hv
    have h124 : nb s i = 124 := by omega
    have e13 : (((nb s i : Nat) : Int) == 13) = false := by rw [beq_eq_false_iff_ne]; omega
    have HV := hidden h124
    clear hv hby h124
    refine hide_tail ?_
    intro Z hZ
    go_wp2_with (go_at_call 109; refine (kt _ ?_).mono ?_; (exact HB.out.box); rintro e w1 ⟨rfl, hP1, hK1⟩; have hB1 := HB.out.kept hK1 hP1 (Nat.le_succ i) (Nat.le_refl F) (Nat.le_trans HB.out.Fs hK1.size); have HB1 := hidden hB1; have HF1 := hidden ((Two.of_keep (r := none) hK1).own HF.out (ownU_ty HF.out HB.out.box (by decide)) (fun j _ e => by cases e)); have hz1 := hK1.size; obtain ⟨p0, p1, p2, p3, p4, p5, p6, p7, p8⟩ := hP1.nine; have f5 := hP1.frozen 5; have n5 : (w1.alloc (.cells #[] 5)).cell? ⟨R, 5, none⟩ = some dv := (hP1.alloc _).cell 5; have g5 := (hP1.alloc (.cells #[] 5)).frozen 5; have HPA := hidden (hP1.alloc (.cells #[] 5)); clear hP1 hK1 hB1)
    have HP2 := HPA.out.put 5 (.slice (some ⟨w1.heap.size, 0, none⟩) 0 0) (vs' := rdC s (i + 1) b nm (.slice fa fs.length fc) (.slice (some ⟨w1.heap.size, 0, none⟩) 0 0) pv c a) rfl
    have HT := ((Two.refl R none w1).alloc (.cells #[] 5)).set 5 (.slice (some ⟨w1.heap.size, 0, none⟩) 0 0)
    have hE1 := (PB.new w1 #[] 5).far (show R ≠ w1.heap.size by have := HB1.out.box.lt; omega) 5 (.slice (some ⟨w1.heap.size, 0, none⟩) 0 0)
    have hD2 := ownW_base (own_none0 (s := 1) hE1) HB1.out.keep.size
    have hB2 := HB1.out.step HT (fun j e => by cases e) (fun j _ e => by cases e) (fun p _ j _ e => by cases e) HP2 (Nat.le_refl _) (Nat.le_refl F) (Nat.le_trans HB1.out.Fs HT.size)
    have hF2 := HT.own HF1.out (ownU_ty HF1.out HB1.out.box (by decide)) (fun j _ e => by cases e)
    have hI2 := inv_bar HI.out hi HV.out
    have hm := HN.out
    rw [hZ]
    refine wp_labelled (jumpsF_mono (pass4 s hs hE R w0 Q (3 * (s.size - (i + 1)) + 2) _ _ ⟨⟨_, _, _, _, _, _, _, _, _, _, _, _, _, _, _, _, _, _, _, _, _, _, _, _, _, _, _, _, _, _, _, _, _, _, _, _, _, _, _, _, _, _, _, _, _, _, _, _, _, _, _, _, _, _, _, _, _, _, _, _, rfl⟩, i + 1, Or.inr (Or.inr (Or.inr (Or.inl ⟨rfl, rfl, hlt, b, nm, _, _, pv, c, a, L, F, fs, [], hB2, hF2, hfl, hD2, (fun y hy => by cases hy), Nat.zero_le _, hI2⟩)))⟩ _ rfl) (fun l a w q => ?_))
    obtain ⟨n1, hn1, q⟩ := q
    exact ⟨n1, by omega, q⟩
set_option maxRecDepth 20000 in
set_option maxHeartbeats 16000000 in
theorem pass0 (s : ByteArray) (hs : s.size ≤ 20000) (hE : Ended s) (R : Nat) (w0 : World) (Q : Act → World → Prop) (hQ : ∀ a' w', FrR R a' → J0 s R w0 s.size w' → Q a' w') (n : Nat) (a0 : Act) (w : World) (hJ : JJ s R w0 0 n a0 w) : ∀ X, findLabel cdRp 0 = some (.seq .skip X) → X.wp Try.prog (jumpsF (fun l a w => ∃ n1, n1 < n ∧ JJ s R w0 l n1 a w) Q) a0 w := by
  intro X hX
  obtain rfl := tail_eq (o := findLabel cdRp 0) rfl hX
  clear hX
  obtain ⟨⟨u1, u2, u3, u4, u5, u6, u7, u8, u9, u10, u11, u12, u13, u14, u15, u16, u17, u18, u19, u20, u21, u22, u23, u24, u25, u26, u27, u28, u29, u30, u31, u32, u33, u34, u35, u36, u37, u38, u39, u40, u41, u42, u43, u44, u45, u46, u47, u48, u49, u50, u51, u52, u53, u54, u55, u56, u57, u58, u59, u60, rfl⟩, i, hJ⟩ := hJ
  replace hJ := jj_at0 hJ
  obtain ⟨hn, hi, b, nm, fv, dv, pv, c, a, L, F, hB, hI⟩ := hJ
  have HB := hidden hB
  have HI := hidden hI
  have HN := hidden hn
  obtain ⟨p0, p1, p2, p3, p4, p5, p6, p7, p8⟩ := hB.box.nine
  clear hB hI hn
  refine hide_tail3 ?_
  intro Z hZ
  by_cases hi0 : i < s.size
  · have e0 : (((i : Nat) : Int) == ((s.size : Nat) : Int)) = false := by rw [beq_eq_false_iff_ne]; omega
    by_cases hg : goodName s i
    · have kg := fun W h => takeN_yes s i b nm fv dv pv c a R W h (by omega) hg
      have HG := hidden hg
      clear hg
      go_upto_region 0 with fail
      go_quiet (fail)
      generalize hw8 : w.drewN _ = w8
      replace HB : Hid (BkR s R w0 w8 i b nm fv dv pv c a L F) := by rw [← hw8]; exact HB.out.drewN _
      clear p0 p1 p2 p3 p4 p5 p6 p7 p8 hw8
      obtain ⟨p0, p1, p2, p3, p4, p5, p6, p7, p8⟩ := HB.out.box.nine
      go_wp2_with (go_at_call 108; refine (kg _ ?_).mono ?_; (exact HB.out.box); rintro e w1 ⟨rfl, F1, hF1, hP1, hPF, hK1⟩)
      have hB1 := HB.out.kept hK1 hP1 (Nat.le_add_right i 3) (Nat.le_trans HB.out.Fs hF1) (Nat.le_of_lt hPF.lt)
      have hI1 := inv_good HI.out HG.out
      have HA := hidden (And.intro hB1 (And.intro hI1 (own_none0 hPF (s := 1))))
      clear hB1 hI1 hP1 hPF hK1 p0 p1 p2 p3 p4 p5 p6 p7 p8
      go_wp2_with fail
      obtain ⟨hB1, hI1, hO1⟩ := HA.out
      have hm := HN.out
      have hg3 := HG.out.1
      refine wp_goto ?_
      show ∃ n1, n1 < n ∧ JJ s R w0 1 n1 _ _
      exact ⟨3 * (s.size - (i + 3)), by omega, ⟨_, _, _, _, _, _, _, _, _, _, _, _, _, _, _, _, _, _, _, _, _, _, _, _, _, _, _, _, _, _, _, _, _, _, _, _, _, _, _, _, _, _, _, _, _, _, _, _, _, _, _, _, _, _, _, _, _, _, _, _, rfl⟩, i + 3, Or.inr (Or.inr (Or.inl ⟨rfl, rfl, hg3, HG.out.2.2, i, _, _, dv, pv, c, a, L, F1, [], hB1, hO1, Nat.zero_le _, hI1⟩))⟩
    · have kg := fun W h => takeN_no s i b nm fv dv pv c a R W h hi0 (by omega) hg
      have kn := fun W h => note_any s i i nm fv dv pv c a R 4 i W h
      rw [show ((4 : Nat) : Int) = 4 from rfl] at kn
      have HG := hidden (inv_bad HI.out hi0 hg)
      clear hg
      go_upto_region 0 with fail
      go_quiet (fail)
      generalize hw8 : w.drewN _ = w8
      replace HB : Hid (BkR s R w0 w8 i b nm fv dv pv c a L F) := by rw [← hw8]; exact HB.out.drewN _
      clear p0 p1 p2 p3 p4 p5 p6 p7 p8 hw8
      obtain ⟨p0, p1, p2, p3, p4, p5, p6, p7, p8⟩ := HB.out.box.nine
      go_wp2_with (first | (go_at_call 108; refine (kg _ ?_).mono ?_; (exact HB.out.box); rintro e w1 ⟨rfl, hP1, hK1⟩; have HB1 := hidden (HB.out.kept hK1 hP1 (Nat.le_refl i) (Nat.le_refl F) (Nat.le_trans HB.out.Fs hK1.size)); clear p0 p1 p2 p3 p4 p5 p6 p7 p8; obtain ⟨p0, p1, p2, p3, p4, p5, p6, p7, p8⟩ := hP1.nine; clear hP1 hK1) | (go_at_call 71; refine (kn _ ?_).mono ?_; (exact HB1.out.box); rintro e w2 ⟨rfl, hP2, hK2⟩))
      have hB2 := HB1.out.kept hK2 hP2 (Nat.le_refl i) (Nat.le_refl F) (Nat.le_trans HB1.out.Fs hK2.size)
      obtain ⟨hc4, ha4⟩ := HG.out
      rw [hc4] at hB2
      have hm := HN.out
      rw [hZ]
      refine wp_labelled (pass2 s hs hE R w0 Q n _ _ ⟨⟨_, _, _, _, _, _, _, _, _, _, _, _, _, _, _, _, _, _, _, _, _, _, _, _, _, _, _, _, _, _, _, _, _, _, _, _, _, _, _, _, _, _, _, _, _, _, _, _, _, _, _, _, _, _, _, _, _, _, _, _, rfl⟩, i, Or.inr (Or.inl ⟨rfl, hm, hi0, i, nm, fv, dv, pv, _, L, F, hB2, ha4⟩)⟩ _ rfl)
  · have e0 : (((i : Nat) : Int) == ((s.size : Nat) : Int)) = true := by rw [beq_iff_eq]; omega
    go_upto_region 0 with fail
    go_quiet (fail)
    generalize hw8 : w.drewN _ = w8
    replace HB : Hid (BkR s R w0 w8 i b nm fv dv pv c a L F) := by rw [← hw8]; exact HB.out.drewN _
    clear p0 p1 p2 p3 p4 p5 p6 p7 p8 hw8
    obtain ⟨p0, p1, p2, p3, p4, p5, p6, p7, p8⟩ := HB.out.box.nine
    obtain rfl : i = s.size := by omega
    go_wp2_with fail
    show Q _ _
    exact hQ _ _ ⟨_, _, _, _, _, _, _, _, _, _, _, _, _, _, _, _, _, _, _, _, _, _, _, _, _, _, _, _, _, _, _, _, _, _, _, _, _, _, _, _, _, _, _, _, _, _, _, _, _, _, _, _, _, _, _, _, _, _, _, _, rfl⟩ ⟨Nat.le_refl _, b, nm, fv, dv, pv, c, a, L, F, HB.out, HI.out⟩
end Go.Proofs.Ytgcpiinmcbdkmaa
