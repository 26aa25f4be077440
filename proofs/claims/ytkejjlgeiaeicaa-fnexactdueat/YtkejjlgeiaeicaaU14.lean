/-
  What is due of one order: the program. What is due: the specification.
-/
import Derived.Test.YtkejjlgeiaeicaaU13
import Derived.Test.YtkejjlgeiaeicaaU10
namespace Go.Proofs.Ytkejjlgeiaeicaa
open Go.RowKit Va Uo Go.Maps
set_option linter.all false

set_option maxRecDepth 20000 in
set_option maxHeartbeats 8000000 in
theorem idue_any (x : Od) (time : Int) (B : Nat) (D : DataW Unit) (ds : List Ds) (w : World) (hown : w.ownsMap Try.prog 101 (plainElem Try.prog 3) B 500 D) (hC : Cnt D ds) (hod : odB x = true) (ht : timB time = true) :
    Calls Try.prog 44 #[aOd x, .int .i64 time, .map (some B)] w fun e w' => ∃ G c, e = .returned (.slice (some ⟨G, 0, none⟩) (turnsL ds time x x.c.toNat).length c) ∧ w'.ownsRow w.heap.size 80 3 (.slice (some ⟨G, 0, none⟩) (turnsL ds time x x.c.toNat).length c) (turnsL ds time x x.c.toNat).length (vcellsL 3 cvDu (turnsL ds time x x.c.toNat)) ∧ Below w.heap.size w w' := by
  obtain ⟨i0, hi0, hv0, hv1, hv2⟩ := info_partsW infoDue
  have ht2 : 0 ≤ time ∧ time ≤ 10000000 := rng_iff.1 ht
  obtain ⟨ht0, ht1⟩ := ht2
  have hxc : 1 ≤ x.c := by have := hod; simp only [odB, Bool.and_eq_true, rng_iff] at this; exact this.2.2.2.2.2.2.1.1
  have HOd := hidden hod
  have HOw := hidden hown
  have HC := hidden hC
  have hBl := hown.lt
  have hbA : Below w.heap.size w (w.alloc (.cells #[.int .i64 x.id, .int .i64 x.p, .int .i64 x.d, .int .i64 x.n, .int .i64 x.f, .int .i64 x.e, .int .i64 x.c, .int .i64 x.s, .bool x.two] 62)) := (Below.refl _ _).alloc (Nat.le_refl _) _
  have HB0 := hidden (hbA.alloc hbA.size (.cells #[] 80))
  have HX0 := hidden ((PB.new w #[.int .i64 x.id, .int .i64 x.p, .int .i64 x.d, .int .i64 x.n, .int .i64 x.f, .int .i64 x.e, .int .i64 x.c, .int .i64 x.s, .bool x.two] 62).alloc (.cells #[] 80))
  have HR0 : Hid (((w.alloc (.cells #[.int .i64 x.id, .int .i64 x.p, .int .i64 x.d, .int .i64 x.n, .int .i64 x.f, .int .i64 x.e, .int .i64 x.c, .int .i64 x.s, .bool x.two] 62)).alloc (.cells #[] 80)).ownsRow w.heap.size 80 3 (.slice (some ⟨w.heap.size + 1, 0, none⟩) 0 0) 0 []) := by
    have h9 := ownW_base (ownW_new (w.alloc (.cells #[.int .i64 x.id, .int .i64 x.p, .int .i64 x.d, .int .i64 x.n, .int .i64 x.f, .int .i64 x.e, .int .i64 x.c, .int .i64 x.s, .bool x.two] 62)) 80 3) hbA.size
    have e9 : (w.alloc (.cells #[.int .i64 x.id, .int .i64 x.p, .int .i64 x.d, .int .i64 x.n, .int .i64 x.f, .int .i64 x.e, .int .i64 x.c, .int .i64 x.s, .bool x.two] 62)).heap.size = w.heap.size + 1 := by simp
    rw [e9] at h9
    exact h9
  generalize hRR : turnsL ds time x x.c.toNat = RR
  have HRR := hidden hRR.symm
  clear hRR hod hown hC ht hbA
  unfold aOd
  go_enter Try.func44, Try.ntmps44
  go_upto_region 2 with fail
  generalize (w.alloc (.cells #[.int .i64 x.id, .int .i64 x.p, .int .i64 x.d, .int .i64 x.n, .int .i64 x.f, .int .i64 x.e, .int .i64 x.c, .int .i64 x.s, .bool x.two] 62)).alloc (.cells #[] 80) = wA at *
  generalize Value.agg #[.int .i64 x.id, .int .i64 x.p, .int .i64 x.d, .int .i64 x.n, .int .i64 x.f, .int .i64 x.e, .int .i64 x.c, .int .i64 x.s, .bool x.two] = av
  obtain ⟨o0, o1, o2, o3, o4, o5, o6, o7, o8⟩ := HX0.out.nine
  go_wp2_with fail
  clear o0 o1 o2 o3 o4 o5 o6 o7 o8
  go_loopw [7, 8, 9, 10, 14] (fun sv _ _ _ tv wr => ∃ (t : Nat) (L : List Du), (t : Int) ≤ x.c ∧ tv = .int .i64 t ∧ Hid (L = turnsL ds time x t) ∧ (∃ G c, sv = .slice (some ⟨G, 0, none⟩) L.length c ∧ wr.ownsRow w.heap.size 80 3 (.slice (some ⟨G, 0, none⟩) L.length c) L.length (vcellsL 3 cvDu L)) ∧ PB wr w.heap.size #[.int .i64 x.id, .int .i64 x.p, .int .i64 x.d, .int .i64 x.n, .int .i64 x.f, .int .i64 x.e, .int .i64 x.c, .int .i64 x.s, .bool x.two] 62 ∧ Below w.heap.size w wr) (fun _ _ _ _ tv _ => x.c.toNat - (intOf tv).toNat)
  case atStart => exact ⟨0, [], by omega, rfl, rfl, ⟨_, _, rfl, HR0.out⟩, HX0.out, HB0.out⟩
  case round =>
    clear HR0 HX0 HB0
    obtain ⟨t, L, htc, rfl, HL, ⟨G, c, rfl, hrow⟩, hX, hb⟩ := hrel
    obtain ⟨o0, o1, o2, o3, o4, o5, o6, o7, o8⟩ := hX.nine
    have hll : L.length ≤ t := by rw [HL.out]; exact turnsL_len ds time x t
    by_cases htl : (t : Int) < x.c
    · obtain ⟨e1, e2, e3, e4⟩ := turn_bd HOd.out htl
      have hsw : IntKind.i64.wrap ((t : Int) * x.e) = (t : Int) * x.e := by rw [IntKind.wrap_i64]; omega
      have hsw2 : IntKind.i64.wrap (x.f + (t : Int) * x.e) = x.f + (t : Int) * x.e := by rw [IntKind.wrap_i64]; omega
      have HDB : Hid (dueB ds time x t = ((decide (time - 60 ≤ x.f + (t : Int) * x.e) && decide (x.f + (t : Int) * x.e ≤ time + 30)) && !givB ds x.id (t : Int))) := rfl
      have HNo : Hid (dueB ds time x t = false → L = turnsL ds time x (t + 1)) := fun hq => by rw [turnsL, if_neg (by rw [hq]; simp)]; exact HL.out
      have HYes : Hid (dueB ds time x t = true → L ++ [dueOf x t] = turnsL ds time x (t + 1)) := fun hq => by rw [turnsL, if_pos hq, ← HL.out]
      have hz : ∀ u : World, (zeroValue 3).run Try.prog u = .ok (.int .i64 0) u := fun u => by kernel_rfl
      have bId : Bd x.id := ⟨by omega, by omega⟩
      have bT : Bd (t : Int) := ⟨by omega, by omega⟩
      have hmap := Rt.own_heap HOw.out (hb.block B hBl)
      obtain ⟨cn, hl, hat, -⟩ := hmap.lookup_int keyedT Try.underlying75 Try.underlying3 (hz wr) (key_turn bId bT)
      obtain ⟨cn2, hat2, p0, p1, p2⟩ := HC.out.at' x.id t bId bT
      have hcc : cn2 = cn := by rw [hat] at hat2; simpa using hat2.symm
      rw [hcc] at p2
      have HP2 := hidden p2
      clear hmap hat hat2 hcc p0 p1 p2 hz bId bT
      generalize dueB ds time x t = dq at *
      by_cases h1 : time - 60 ≤ x.f + (t : Int) * x.e
      · by_cases h2 : x.f + (t : Int) * x.e ≤ time + 30
        · by_cases h3 : cn = 0
          · have HI2 : Hid (L ++ [dueOf x t] = turnsL ds time x (t + 1)) := HYes.out (by rw [HDB.out, decide_eq_true h1, decide_eq_true h2, HP2.out.1 h3]; rfl)
            subst h3
            clear HNo HYes HDB HP2
            have hszw := hb.size
            go_wp2_with (at_builtin; refine wpList_append_own_at _ rfl (.tmp 44) (.tmp 50) 44 rfl w.heap.size 80 i0 (.agg #[.int .i64 0, .int .i64 0, .int .i64 0]) 3 24 Try.underlying44 hi0 hv0 hv1 hv2 rfl (by decide) _ L.length (vcellsL 3 cvDu L) rfl (hrow.alloc _) ⟨wr.heap.size, 0, none⟩ 1 1 [.int .i64 x.id, .int .i64 (t : Nat), .int .i64 (x.f + (t : Int) * x.e)] rfl rfl (cell_threeU _ _ _ _ _) (by simp [Value.oneCell']) (by unfold maxLen; omega) (by omega) (by simp; omega) ?_; intro v5 w5 ho5 hg5 hn5 hloc5; obtain ⟨ad5, c5, rfl⟩ := ownW_slice ho5; obtain ⟨G5, rfl⟩ := ownU_some ho5)
            have HX5 := hidden ((hX.alloc (.cells #[.int .i64 x.id, .int .i64 (t : Nat), .int .i64 (x.f + (t : Int) * x.e)] 80)).kept hg5 (ownU_ty hrow hX (by decide)))
            have HB5 := hidden ((hb.alloc hszw (.cells #[.int .i64 x.id, .int .i64 (t : Nat), .int .i64 (x.f + (t : Int) * x.e)] 80)).grown hg5 (by simp; omega) (fun k hk => (ownW_lt hrow k hk).1))
            have HR5 : Hid (w5.ownsRow w.heap.size 80 3 (.slice (some ⟨G5, 0, none⟩) (L ++ [dueOf x t]).length c5) (L ++ [dueOf x t]).length (vcellsL 3 cvDu (L ++ [dueOf x t]))) := by rw [Hid, vcellsL_app, List.length_append]; exact ho5
            go_roundw
            case rel => exact ⟨t + 1, L ++ [dueOf x t], by omega, rfl, HI2, ⟨_, _, by rw [List.length_append]; rfl, HR5.out⟩, HX5.out, HB5.out⟩
            case measure => simp [intOf]; omega
          · have HI2 : Hid (L = turnsL ds time x (t + 1)) := HNo.out (by
              rw [HDB.out, decide_eq_true h1, decide_eq_true h2]
              cases hg : givB ds x.id (t : Int) with
              | true => rfl
              | false => exact absurd (HP2.out.2 hg) h3)
            have q3 : (cn == 0) = false := by simpa using h3
            clear HNo HYes HDB HP2
            go_wp2_with fail
            go_roundw
            case rel => exact ⟨t + 1, L, by omega, rfl, HI2, ⟨_, _, rfl, hrow⟩, hX, hb⟩
            case measure => simp [intOf]; omega
        · have HI2 : Hid (L = turnsL ds time x (t + 1)) := HNo.out (by rw [HDB.out, decide_eq_false h2]; simp)
          clear HNo HYes HDB HP2
          go_wp2_with fail
          go_roundw
          case rel => exact ⟨t + 1, L, by omega, rfl, HI2, ⟨_, _, rfl, hrow⟩, hX, hb⟩
          case measure => simp [intOf]; omega
      · have HI2 : Hid (L = turnsL ds time x (t + 1)) := HNo.out (by rw [HDB.out, decide_eq_false h1]; simp)
        clear HNo HYes HDB HP2
        go_wp2_with fail
        go_roundw
        case rel => exact ⟨t + 1, L, by omega, rfl, HI2, ⟨_, _, rfl, hrow⟩, hX, hb⟩
        case measure => simp [intOf]; omega
    · have htl2 : ¬ (t : Int) < x.c := htl
      have HL1 : Hid (L = RR) := by rw [Hid, HRR.out, HL.out, show x.c.toNat = t by omega]
      go_wp2_with fail
      go_ret
      rw [← HL1.out]
      exact ⟨_, _, rfl, hrow, hb⟩

/-- What is due of a chart. -/
def dueAtL (os : List Od) (ds : List Ds) (time : Int) : List Du := if chartB os ds = true ∧ timB time = true then dueL os ds time 0 else []
theorem dueAt_len (os : List Od) (ds : List Ds) (time : Int) : (dueAtL os ds time).length ≤ 20000 := by
  unfold dueAtL
  split
  · rename_i h
    obtain ⟨⟨h1, _⟩, h2, _⟩ := chart_iff.1 h.1
    have := due_len (os := os) ds time 0 (fun i hi => by
      have := h2 i hi
      simp only [okOd, Bool.and_eq_true] at this
      have h3 := this.1
      simp only [odB, Bool.and_eq_true, rng_iff] at h3
      exact h3.2.2.2.2.2.2.1.2) os.length (Nat.le_refl _)
    unfold dueL
    omega
  · simp
theorem od_of_chart {os : List Od} {ds : List Ds} (h : chartB os ds = true) : ∀ (i : Nat) (x : Od), os[i]? = some x → odB x = true := fun i x hx => by
  obtain ⟨_, h2, _⟩ := chart_iff.1 h
  have := h2 i (List.getElem?_eq_some_iff.1 hx).1
  simp only [okOd, Bool.and_eq_true, od_getD hx] at this
  exact this.1

set_option maxRecDepth 20000 in
set_option maxHeartbeats 4000000 in
theorem sdueat_any (ao : Option Addr) (n cap : Nat) (ad : Option Addr) (m dcap : Nat) (os : List Od) (ds : List Ds) (time : Int) (w : World) (ho : VRw 9 cvOd w (.slice ao n cap) os) (hd : VRw 5 cvDs w (.slice ad m dcap) ds) (hn : os.length ≤ 1048576) (hm : ds.length ≤ 1048576) :
    Calls Try.prog 15 #[.agg #[.slice ao n cap, .slice ad m dcap], .int .i64 time] w fun e w' => ∃ v, e = .returned v ∧ w'.ownsRow w.heap.size 80 3 v (dueAtL os ds time).length (vcellsL 3 cvDu (dueAtL os ds time)) ∧ Below w.heap.size w w' := by
  obtain rfl := ho.len
  obtain rfl := hd.len
  have hb0 : Below w.heap.size w (w.alloc (.cells #[.slice ao os.length cap, .slice ad ds.length dcap] 40)) := (Below.refl _ _).alloc (Nat.le_refl _) _
  have HX := hidden (PB.new w #[.slice ao os.length cap, .slice ad ds.length dcap] 40)
  have HO := hidden (ho.below hb0)
  have HD := hidden (hd.below hb0)
  have HB := hidden hb0
  have H1 := hidden (fun W h1 h2 => schart_any ao os.length cap ad ds.length dcap os ds W h1 h2 hn hm)
  have h2 := stim_any time
  have H3 : Hid (chartB os ds = true → timB time = true → ∀ W, VRw 9 cvOd W (.slice ao os.length cap) os → VRw 5 cvDs W (.slice ad ds.length dcap) ds → Calls Try.prog 41 #[.agg #[.slice ao os.length cap, .slice ad ds.length dcap], .int .i64 time, .int .i64 0] W fun e w' => ∃ v, e = .returned v ∧ w'.ownsRow W.heap.size 80 3 v (dueL os ds time 0).length (vcellsL 3 cvDu (dueL os ds time 0)) ∧ Below W.heap.size W w') := fun hc ht W h1 h2 => by
    obtain ⟨⟨q1, q2⟩, _⟩ := chart_iff.1 hc
    exact sdue_any ao os.length cap ad ds.length dcap os ds time 0 W h1 h2 q1 q2 (od_of_chart hc) ht
  have HV : Hid (dueAtL os ds time = if chartB os ds = true ∧ timB time = true then dueL os ds time 0 else []) := rfl
  clear ho hd hb0
  generalize dueAtL os ds time = R at *
  generalize dueL os ds time 0 = R1 at *
  generalize chartB os ds = t1 at *
  generalize timB time = t2 at *
  go_enter Try.func15, Try.ntmps15
  go_upto_region 1 with fail
  generalize w.alloc (.cells #[.slice ao os.length cap, .slice ad ds.length dcap] 40) = wA at *
  generalize hCB : w.heap.size = CB at HX ⊢
  obtain ⟨b0, b1⟩ := HX.out.two
  cases t1 with
  | false =>
    have HN : Hid (R = []) := by rw [Hid, HV.out]; simp
    go_wp2_with (go_at_call 11; refine (H1.out _ HO.out HD.out).mono ?_; rintro e w1 ⟨rfl, hb1⟩)
    go_ret
    rw [HN.out]
    have hb2 := onto HB.out hb1
    refine ⟨_, rfl, ?_, by exact hb2.alloc hb2.size _⟩
    exact ownW_base (ownW_new w1 80 3) hb2.size
  | true =>
    cases t2 with
    | false =>
      have HN : Hid (R = []) := by rw [Hid, HV.out]; simp
      go_wp2_with (first | (go_at_call 11; refine (H1.out _ HO.out HD.out).mono ?_; rintro e w1 ⟨rfl, hb1⟩) | (go_at_call 32; refine (h2 _).mono ?_; rintro e w9 ⟨rfl, rfl⟩))
      go_ret
      rw [HN.out]
      have hb2 := onto HB.out hb1
      refine ⟨_, rfl, ?_, by exact hb2.alloc hb2.size _⟩
      exact ownW_base (ownW_new w1 80 3) hb2.size
    | true =>
      have HN : Hid (R = R1) := by rw [Hid, HV.out]; simp
      have H4 := hidden (H3.out rfl rfl)
      clear H3 HV
      go_wp2_with (first | (go_at_call 11; refine (H1.out _ HO.out HD.out).mono ?_; rintro e w1 ⟨rfl, hb1⟩; obtain ⟨e0, e1⟩ := (HX.out.below hb1).two) | (go_at_call 32; refine (h2 _).mono ?_; rintro e w9 ⟨rfl, rfl⟩) | (go_at_call 41; refine (H4.out _ (HO.out.below hb1) (HD.out.below hb1)).mono ?_; rintro e w2 ⟨v, rfl, ho2, hb2⟩))
      go_ret
      rw [HN.out]
      have hb3 := onto HB.out hb1
      refine ⟨_, rfl, ?_, by exact onto hb3 hb2⟩
      exact ownW_base ho2 hb3.size
end Go.Proofs.Ytkejjlgeiaeicaa
