/-
  Reflexes: the program's, the walk.
-/
import Derived.Test.YtldggndhdilncaaT52
namespace Go.Proofs.Ytldggndhdilncaa
open Go.RowKit Go.Shelf Go.Maps Va Lb
set_option linter.all false
attribute [local go_sem] Oper.semAt_some

set_option maxRecDepth 100000 in
set_option maxHeartbeats 8000000 in
theorem irf_in (F : Fence) (n : Nat) (hF : ∀ f, F.fn f) (hro : F.round = none) (hn : 4 ≤ n) (ao : Option Addr) (cap : Nat) (rs : List Rx) (av : Option Addr) (cv : Nat) (vs : List Vl) (aa : Option Addr) (ca : Nat) (qs : List Int) (w : World)
    (h : VRw 4 cvRx w (.slice ao rs.length cap) rs) (hv : VRw 2 cvVl w (.slice av vs.length cv) vs) (ha : VRw 1 cvI w (.slice aa qs.length ca) qs) (hG : RfOk rs vs qs)
    (hFv : ∀ W, VRw 2 cvVl W (.slice av vs.length cv) vs → CallsIn F (n - 1) Try.prog 14 #[.slice av vs.length cv] W fun e w' => e = .returned (.tuple #[.map (some W.heap.size), .bool true]) ∧ (∃ D, w'.ownsMap Try.prog 2 (plainElem Try.prog 2) W.heap.size 100 D ∧ MapV D vs) ∧ W.heap.size < w'.heap.size ∧ Below W.heap.size W w')
    (hRl : ∀ W, VRw 4 cvRx W (.slice ao rs.length cap) rs → CallsIn F (n - 1) Try.prog 15 #[.slice ao rs.length cap] W fun e w' => e = .returned (.bool true) ∧ Below W.heap.size W w')
    (hAk : ∀ W, VRw 1 cvI W (.slice aa qs.length ca) qs → CallsIn F (n - 1) Try.prog 16 #[.slice aa qs.length ca] W fun e w' => e = .returned (.bool true) ∧ Below W.heap.size W w')
    (hRR : ∀ W b D, VRw 4 cvRx W (.slice ao rs.length cap) rs → b < W.heap.size → W.ownsMap Try.prog 2 (plainElem Try.prog 2) b 100 D → MapV D vs → CallsIn F (n - 1) Try.prog 18 #[.slice ao rs.length cap, .map (some b)] W fun e w' => ∃ ar cr us, e = .returned (.slice ar us.length cr) ∧ RusO w' W.heap.size (.slice ar us.length cr) us ∧ Like vs rs us ∧ Below W.heap.size W w')
    (hFR : ∀ b2 ar cr us A ST W, us.length ≤ 200 → RusO W b2 (.slice ar us.length cr) us → SetP W A ST → CallsIn F (n - 1 - 1) Try.prog 26 #[.slice ar us.length cr, .pointer (some ⟨A, 0, none⟩)] W fun e W' => e = .returned (.tuple #[.int .i64 (((firstU ST us).getD 0 : Nat) : Int), .bool (firstU ST us).isSome]) ∧ Below W.heap.size W W') :
    CallsIn F n Try.prog 6 #[.slice ao rs.length cap, .slice av vs.length cv, .slice aa qs.length ca] w fun e W' => ∃ v', e = .returned v' ∧ VOwn 1 cvI W' w.heap.size v' (growR rs vs 100 (onceL qs)) ∧ Below w.heap.size w W' := by
  obtain ⟨i0, hi0, hv0, hv1, hv2⟩ := info_partsW infoW64
  have h1 : 1 ≤ n := by omega
  have bA : Below w.heap.size w ((w.alloc (.cells #[] 2)).alloc (.cells #[.slice (some ⟨w.heap.size, 0, none⟩) 0 0] 26)) := by repeat (first | exact Below.refl _ _ | assumption | refine st_drew ?_ | refine st_drewN ?_ _ | refine Below.setCell ?_ (by first | omega | (simp; done) | (simp; omega)) _ | refine Below.alloc ?_ (by first | omega | (simp; done) | (simp; omega)) _)
  have P7 : PB ((w.alloc (.cells #[] 2)).alloc (.cells #[.slice (some ⟨w.heap.size, 0, none⟩) 0 0] 26)) (w.heap.size + 1) #[.slice (some ⟨w.heap.size, 0, none⟩) 0 0] 26 := by
    have := PB.new (w.alloc (.cells #[] 2)) #[.slice (some ⟨w.heap.size, 0, none⟩) 0 0] 26
    rw [World.size_alloc] at this; exact this
  have PO : ((w.alloc (.cells #[] 2)).alloc (.cells #[.slice (some ⟨w.heap.size, 0, none⟩) 0 0] 26)).ownsRow w.heap.size 2 1 (.slice (some ⟨w.heap.size, 0, none⟩) 0 0) 0 [] := ownW_below (ownW_new w 2 1) ((Below.refl _ _).alloc (Nat.le_refl _) _)
  have HT := hidden (⟨⟨_, _, P7, PO⟩, bA⟩ : TI w (w.heap.size + 1) [] ((w.alloc (.cells #[] 2)).alloc (.cells #[.slice (some ⟨w.heap.size, 0, none⟩) 0 0] 26)))
  have HH := hidden (And.intro h (And.intro hv ha))
  have hFa := hFv _ (hv.below bA)
  clear P7 PO bA h hv ha hFv
  refine callsIn_of_wp_marks Try.func6 rfl (hF _) ?_ hro
  simp only [Try.ntmps6, List.size_toArray, List.length_cons, List.length_nil, Nat.reduceAdd, Nat.reduceSub, Array.replicate_succ, Array.replicate_zero, List.push_toArray, List.append_toArray, List.nil_append, List.cons_append]
  gi_wp2_with (gi_at_call 14; refine hFa.mono ?_; rintro e w1 ⟨rfl, ⟨D, hm1, hD1⟩, hz1, hb1⟩)
  simp only [World.size_alloc] at hm1 hz1
  have bA := HT.out.bel
  have HT1 := hidden (HT.out.kept (below_none hb1) (fun r e => by cases e))
  have H1 := hidden (And.intro (HH.out.1.below (onto bA hb1)) (HH.out.2.2.below (onto bA hb1)))
  have HM1 := hidden hm1
  have HD1 := hidden hD1
  clear hm1 hD1 HT bA hb1 hFa
  refine (hRl w1 H1.out.1).mono ?_
  rintro e w2 ⟨rfl, hb2⟩
  gi_wp2
  refine (hAk w2 (H1.out.2.below hb2)).mono ?_
  rintro e w3 ⟨rfl, hb3⟩
  have b13 := onto hb2 hb3
  have HT3 := hidden (HT1.out.kept (below_none b13) (fun r e => by cases e))
  have HM3 := hidden (Rt.own_heap HM1.out (b13.block _ hz1))
  have hz3 : w.heap.size + 1 + 1 < w3.heap.size := Nat.lt_of_lt_of_le hz1 b13.size
  have H3 := hidden (And.intro (H1.out.1.below b13) (H1.out.2.below b13))
  clear hb2 hb3 b13 HT1 HM1 H1 hz1
  gi_wp2
  refine (hRR w3 _ D H3.out.1 hz3 HM3.out HD1.out).mono ?_
  rintro e w4 ⟨ar, cr, us, rfl, hR4, hL4, hb4⟩
  have HT4 := hidden (HT3.out.kept (below_none hb4) (fun r e => by cases e))
  have HR4 := hidden hR4
  have HL4 := hidden hL4
  have HA4 := hidden (H3.out.2.below hb4)
  have hz4 : w.heap.size + 1 + 1 < w4.heap.size := Nat.lt_of_lt_of_le hz3 hb4.size
  clear hR4 hL4 hb4 HT3 HM3 H3 HD1 hz3
  gi_wp2
  refine (asked_in F (n - 1) hF hro _ _ _ _ _ _ w4).mono ?_
  rintro e w5 ⟨rfl, rfl⟩
  gi_wp2
  have b45 : Below w4.heap.size w4 ((w4.alloc (.cells #[.slice ar us.length cr] 49)).alloc (.cells #[.slice aa qs.length ca] 26)) := by repeat (first | exact Below.refl _ _ | refine st_drew ?_ | refine st_drewN ?_ _ | refine Below.setCell ?_ (by first | omega | (simp; done) | (simp; omega)) _ | refine Below.alloc ?_ (by first | omega | (simp; done) | (simp; omega)) _)
  have HT5 := hidden (HT4.out.kept (below_none b45) (fun r e => by cases e))
  have P2 := hidden ((PB.new w4 #[.slice ar us.length cr] 49).alloc (.cells #[.slice aa qs.length ca] 26))
  have P1 : Hid (PB ((w4.alloc (.cells #[.slice ar us.length cr] 49)).alloc (.cells #[.slice aa qs.length ca] 26)) (w4.heap.size + 1) #[.slice aa qs.length ca] 26) := by
    have := PB.new (w4.alloc (.cells #[.slice ar us.length cr] 49)) #[.slice aa qs.length ca] 26
    rw [World.size_alloc] at this; exact this
  have R5 := hidden (HR4.out.below b45)
  have hz5 : w4.heap.size + 1 < ((w4.alloc (.cells #[.slice ar us.length cr] 49)).alloc (.cells #[.slice aa qs.length ca] 26)).heap.size := P1.out.lt
  obtain ⟨W5, hW5⟩ : ∃ W5, W5 = ((w4.alloc (.cells #[.slice ar us.length cr] 49)).alloc (.cells #[.slice aa qs.length ca] 26)) := ⟨_, rfl⟩
  rw [← hW5] at HT5 P2 P1 R5 hz5 ⊢
  have hul : us.length ≤ 200 := by rw [like_len HL4.out]; exact hG.1.1
  clear hW5 b45 HT4 HR4 HA4
  refine rf_law (T := 61) (N := 100) (S := fun ys => ys = growR rs vs 100 (onceL qs)) (Kp := KpR w.heap.size (w4.heap.size + 1)) (encs := encI) (w0 := W5) hro h1 (gf := 25) (lb := #[.pointer (some ⟨w4.heap.size + 1, 0, none⟩), .pointer (some ⟨w4.heap.size, 0, none⟩)]) rfl (hF _) (enters_of Try.func25 (by kernel_rfl) rfl)
    ?seq KpR.t (fun W l o o' hl ho hc => KpR.b W l o o' (by omega) ho hc) (Below.refl _ _) (fun _ => rfl) (TI w (w.heap.size + 1)) ?own ?abt HT5.out (fun x => { tmps := #[.slice ao rs.length cap, .slice av vs.length cv, .slice aa qs.length ca, undef, undef, undef, .slice none 0 0, .pointer (some ⟨w.heap.size + 1, 0, none⟩), .map (some (w.heap.size + 1 + 1)), .bool true, .int .i64 x, .slice (some ⟨w.heap.size, 0, none⟩) 0 0, .tuple #[.map (some (w.heap.size + 1 + 1)), .bool true], .slice av vs.length cv, .tuple #[.map (some (w.heap.size + 1 + 1)), .bool true], .map (some (w.heap.size + 1 + 1)), .bool true, .bool true, .bool false, .bool false, .slice ao rs.length cap, .bool true, .bool false, .bool false, .bool false, .slice aa qs.length ca, .bool true, .bool false, .bool false, undef, .slice ao rs.length cap, .map (some (w.heap.size + 1 + 1)), .slice ar us.length cr, .slice aa qs.length ca, .func (.func 25) #[] #[.pointer (some ⟨w4.heap.size + 1, 0, none⟩), .pointer (some ⟨w4.heap.size, 0, none⟩)], .int .i64 x, undef, undef, undef, undef, undef], defers := [] }) ?assign ?body ?done
  case seq =>
    intro l J W hW hJ hY h0
    exact asked1_in F (n - 1) hF hro (by omega) l (w4.heap.size + 1) w4.heap.size w.heap.size _ ca aa qs ar cr us rs vs hG.2.2 hG.1 HL4.out (fun A ST W hr hs => hFR _ ar cr us A ST W hul hr hs) J W w hJ hY rfl (HT5.out.bel.trans (hW.mono HT5.out.bel.size)) (P1.out.below hW) (P2.out.below hW) (R5.out.below hW) HH.out.2.2 h0
  case own => exact fun s A B row hs hg hr => hs.kept hg (fun r e => by obtain ⟨q1, o, ho, hc⟩ := hr r e; exact ⟨by omega, o, ho, fun vs t ht => by rw [ht] at hc; cases hc⟩)
  case abt => exact fun s A B row hs hg hr => hs.kept hg (fun r e => by obtain ⟨q1, vs, hv⟩ := hr r e; exact ⟨by omega, _, hv, fun vs' t ht => by cases ht; exact ⟨by decide, by decide⟩⟩)
  case assign =>
    rintro l x W K hK
    unfold encI
    have HK := hidden hK
    clear hK HT5 P1 P2 R5 HH HL4
    gi_wp2
    exact HK.out
  case body =>
    rintro l pre x W hI hlen
    obtain ⟨ad, c, q1, q2⟩ := hI.row
    have d7 : W.cell? ⟨w.heap.size + 1, 0, none⟩ = some (.slice ad pre.length c) := q1.cell 0
    have f7 := q1.frozen 0
    have HB := hidden hI.bel
    have hbW := hI.bel.size
    have HQ1 := hidden q1
    have HQ2 := hidden q2
    have HO1 := hidden (ownW_below q2 ((Below.refl _ W).alloc (Nat.le_refl _) (.cells #[.int .i64 x] 2)))
    have hb7 := q1.lt
    have KIT := hidden (fun (W5' : World) (ad5 : Option Addr) (c5 : Nat) (ho5 : W5'.ownsRow w.heap.size 2 1 (.slice ad5 (pre.length + 1) c5) (pre.length + 1) ((pre.map fun z => Value.int .i64 z) ++ [.int .i64 x])) (hg5 : (W.alloc (.cells #[.int .i64 x] 2)).grownBy W5' (Value.slice ad pre.length c).ownBlock) => TI.push (B := W5.heap.size) (B1 := w4.heap.size + 1) HB.out HQ1.out HQ2.out (by omega) (by omega) ho5 hg5)
    have HPB := hidden (fun (W5' : World) (hg5 : (W.alloc (.cells #[.int .i64 x] 2)).grownBy W5' (Value.slice ad pre.length c).ownBlock) => PBT_grown (HQ1.out.alloc (.cells #[.int .i64 x] 2)) hg5 (PBT_ne (HQ1.out.alloc (.cells #[.int .i64 x] 2)) HO1.out (by decide)))
    clear hI q1 q2 HT5 P1 P2 R5 HH HL4
    gi_wp2_with (gi_at_builtin; refine wpListIn_append_own _ rfl (.tmp 36) (.tmp 38) 26 rfl w.heap.size 2 i0 (.int .i64 0) 1 8 Try.underlying26 hi0 hv0 hv1 hv2 rfl (by decide) (.slice ad pre.length c) pre.length (pre.map fun z => Value.int .i64 z) rfl HO1.out ⟨W.heap.size, 0, none⟩ 1 1 [.int .i64 x] rfl rfl (cell_oneW _ _ _) (by simp [Value.oneCell']) (by unfold maxLen; omega) (by omega) (by simp; omega) ?_; intro v5 w5 ho5 hg5 hn5; obtain ⟨ad5, c5, rfl⟩ := ownW_slice ho5; have K5 := hidden (KIT.out w5 ad5 c5 ho5 hg5); have p5 := (HPB.out w5 hg5).cell 0; have f5 := (HPB.out w5 hg5).frozen 0; clear ho5 hg5)
    first | exact K5.out | exact ⟨rfl, K5.out⟩
  case done =>
    rintro D2 ys W hD rfl hI hK
    obtain ⟨ad, c, q1, q2⟩ := hI.row
    have d7 : W.cell? ⟨w.heap.size + 1, 0, none⟩ = some (.slice ad (growR rs vs 100 (onceL qs)).length c) := q1.cell 0
    have hI2 := hI.kept (grownBy_putObj' W D2 (.deferred none)) (fun r e => by cases e; exact ⟨by omega, _, hK, fun vs t ht => by cases ht⟩)
    have q3 : (W.putObj D2 (.deferred none)).ownsRow w.heap.size 2 1 (.slice ad (growR rs vs 100 (onceL qs)).length c) (growR rs vs 100 (onceL qs)).length ((growR rs vs 100 (onceL qs)).map fun z => Value.int .i64 z) := by
      obtain ⟨ad', c', q1', q2'⟩ := hI2.row
      have e := (PBT_grown q1 (grownBy_putObj' W D2 (.deferred none)) (fun k hk e2 => by cases hk; subst e2; have := hK.symm.trans q1; cases this)).symm.trans q1'
      simp at e
      obtain ⟨rfl, rfl⟩ := e
      exact q2'
    have HI2 := hidden (And.intro hI2 (And.intro q3 hK))
    clear hI hI2 q1 q2 q3 HT5 P1 P2 R5 HH HL4
    gi_wp2
    refine ⟨by simp, .inl ⟨_, _, rfl, run_takeDeferred HI2.out.2.2, ?_⟩⟩
    exact ⟨.slice ad (growR rs vs 100 (onceL qs)).length c, by simp [results, Try.results6, go_sem], _, rfl, vownI HI2.out.2.1, HI2.out.1.bel⟩
end Go.Proofs.Ytldggndhdilncaa
