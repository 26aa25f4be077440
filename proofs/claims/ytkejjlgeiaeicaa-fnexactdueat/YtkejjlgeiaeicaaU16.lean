/-
  What is due put in order: the library's sort; the program's DueAt.
-/
import Derived.Test.YtkejjlgeiaeicaaU15
namespace Go.Proofs.Ytkejjlgeiaeicaa
open Go.RowKit Go.Lib Go.Sort Go.Shelf Va Uo
set_option linter.all false

theorem sorted_due {S D : List Du} (hp : S.Perm D) (hD : SrtD D) (hS : ∀ i j (hi : i < S.length) (hj : j < S.length), i < j → ¬ ltD S[j] S[i]) : S = D := by
  refine List.Perm.eq_of_pairwise (le := fun a b => ¬ ltD b a) (fun a b ha hb h1 h2 => ?_) (List.pairwise_iff_getElem.2 (fun i j hi hj hij => hS i j hi hj hij)) (hD.imp (fun h => ltD_asymm h)) hp
  obtain ⟨i, hi, rfl⟩ := List.getElem_of_mem (hp.mem_iff.1 ha)
  obtain ⟨j, hj, rfl⟩ := List.getElem_of_mem hb
  by_cases e : i = j
  · subst e; rfl
  · rcases Nat.lt_or_gt_of_ne e with q | q
    · exact absurd (List.pairwise_iff_getElem.1 hD i j hi hj q) h2
    · exact absurd (List.pairwise_iff_getElem.1 hD j i hj hi q) h1

set_option maxRecDepth 20000 in
set_option maxHeartbeats 2000000 in
theorem isortD_any (G cap base : Nat) (K : List Du) (w : World) (h : w.ownsRow base 80 3 (.slice (some ⟨G, 0, none⟩) K.length cap) K.length (vcellsL 3 cvDu K)) (hl : K.length ≤ 1048576) :
    Calls Try.prog 45 #[.slice (some ⟨G, 0, none⟩) K.length cap, .func (.func 46) #[] #[]] w fun e w' => e = .returned (.tuple #[]) ∧ (∃ S : List Du, S.Perm K ∧ (∀ i j (hi : i < S.length) (hj : j < S.length), i < j → ¬ ltD S[j] S[i]) ∧ VOwn 3 cvDu w' base (.slice (some ⟨G, 0, none⟩) K.length cap) S) ∧ w.grownBy w' (some G) := by
  have eg : ∀ args w, (callFunc 46 args).run Try.prog w = .ok (.enter 46 args) w := enters_of Try.func46 (by kernel_rfl) rfl
  obtain ⟨hGb, hGl⟩ := ownU_lt h
  have hcap : K.length ≤ cap := by
    obtain ⟨_, ⟨h2, _⟩ | ⟨g, c, cur, h2, _, _, hc, _⟩⟩ := h
    · cases h2
    · simp only [Value.slice.injEq] at h2
      omega
  have hH : HoldsK encDu 3 w G 0 K.toArray := fun j hj => by
    have hj' : j < K.length * 3 := by simpa using hj
    obtain ⟨x, hx⟩ := some_of K (j / 3) (by omega)
    have e1 := ownU_at h (vcellsL_get (s := 3) (cs := cvDu) K (j / 3) x hx (j % 3) (by omega))
    rw [show j / 3 * 3 + j % 3 = j by omega] at e1
    rw [Nat.zero_add]
    refine ⟨?_, e1.2⟩
    rw [e1.1, get_flatK _ _ _ j (by simpa using hj')]
    have e2 : K.toArray[j / 3]! = x := by
      rw [getElem!_pos K.toArray (j / 3) (by simp; omega)]
      have := (List.getElem?_eq_some_iff.1 hx).2
      simpa using this
    rw [e2, encDu_at _ _ (by omega)]
    rfl
  have hcon := AnyQ.slices_SortFunc Try.srtF 3 Try.isAgg80 Try.sizeOf80 encDu (fun _ => rfl) (fun x v hv => by simp [encDu] at hv; rcases hv with rfl | rfl | rfl <;> rfl) cfDu swoDu 46 #[] G 0 cap K.toArray w eg (cmpLaysD G 0 K.toArray.size w) hH hGl (by simp; omega)
  change Calls Try.prog 45 _ _ _ at hcon
  rw [show K.toArray.size = K.length by simp] at hcon
  refine hcon.mono ?_
  rintro e w' ⟨rfl, d', m, os, ⟨hp1, -, hp3⟩, hs, rfl⟩
  have hd : d'.size = K.length := by simpa using hp1
  have hperm : d'.toList.Perm K := by
    have e1 : (d'.extract 0 K.length).toList = d'.toList := by rw [← hd]; simp
    have e2 : (K.toArray.extract 0 K.length).toList = K := by simp
    rw [e1, e2] at hp3
    exact hp3
  refine ⟨rfl, ⟨d'.toList, hperm, fun i j hi hj hij => ?_, ?_⟩, ?_⟩
  · have hi' : i < d'.size := by simpa using hi
    have hj' : j < d'.size := by simpa using hj
    have := hs i j (Nat.zero_le _) hij (by omega)
    rw [ltDu, getElem!_pos d' j hj', getElem!_pos d' i hi'] at this
    unfold ltD
    simpa using this
  · have hH2 := holdsK_sortWorldK encDu 3 w G 0 m K.toArray d' os hGl hH (by simpa using hd)
    refine ⟨_, cap, by simp [hd], by simpa [hd] using hcap, Or.inr ⟨G, rfl, hGb, lt_sortWorldK encDu 3 w G 0 m d' os hGl, fun j hj => ?_, fun i x hil hx k hk => ?_⟩⟩
    · have hj2 : j < d'.size * 3 := by simpa using hj
      have h2 := hH2 j (by simpa using hj2)
      rw [Nat.zero_add] at h2
      exact ⟨⟨_, h2.1⟩, h2.2⟩
    · have hi : i < d'.size := by have := (List.getElem?_eq_some_iff.1 hx).1; simpa using this
      have h2 := (hH2 (i * 3 + k) (by simp; omega)).1
      rw [get_flatK _ _ _ _ (by omega), show (i * 3 + k) / 3 = i by omega, show (i * 3 + k) % 3 = k by omega] at h2
      have e2 : d'[i]! = x := by
        rw [getElem!_pos d' i hi]
        have := (List.getElem?_eq_some_iff.1 hx).2
        simpa using this
      rw [e2, encDu_at _ _ hk, Nat.zero_add] at h2
      exact h2
  · refine ⟨rfl, rfl, rfl, size_sortWorldK_c _ _ _ _ _ _ _ _, fun k hk hne => ?_⟩
    have : G ≠ k := fun e => hne (by rw [e])
    unfold sortWorldK
    rw [heap_grow_old _ _ (by rw [size_putRowK]; simpa using hk)]
    simp [putRowK, putRow, mapBlock, Sort.ahead, Array.getElem?_modify, this]

theorem vc_app {α : Type} {s : Nat} {cs : α → Nat → Value} (l l' : List α) : vcellsL s cs (l ++ l') = vcellsL s cs l ++ vcellsL s cs l' := by simp [vcellsL]
theorem vc_one (l : List Du) : ∀ u ∈ vcellsL 3 cvDu l, u.oneCell' = true := fun u hu => by
  simp only [vcellsL, List.mem_flatMap, List.mem_map, List.mem_range] at hu
  obtain ⟨x, _, k, hk, rfl⟩ := hu
  rcases (show k = 0 ∨ k = 1 ∨ k = 2 by omega) with rfl | rfl | rfl <;> rfl
theorem own_nn {w : World} {b e s n : Nat} {v : Value} {xs : List Value} (h : w.ownsRow b e s v n xs) (hn : v ≠ .slice none 0 0) : ∃ G c, v = .slice (some ⟨G, 0, none⟩) n c := by
  obtain ⟨_, ⟨h1, _⟩ | ⟨g, cap, cur, h1, _⟩⟩ := h
  · exact absurd h1 hn
  · exact ⟨g, cap, h1⟩

set_option maxRecDepth 20000 in
set_option maxHeartbeats 8000000 in
theorem idueat_any (ao : Option Addr) (n cap : Nat) (ad : Option Addr) (m dcap : Nat) (os : List Od) (ds : List Ds) (time : Int) (w : World) (ho : VRw 9 cvOd w (.slice ao n cap) os) (hd : VRw 5 cvDs w (.slice ad m dcap) ds) (hn : os.length ≤ 1048576) (hm : ds.length ≤ 1048576) :
    Calls Try.prog 16 #[.agg #[.slice ao n cap, .slice ad m dcap], .int .i64 time] w fun e w' => ∃ v, e = .returned v ∧ VOwn 3 cvDu w' w.heap.size v (dueAtL os ds time) ∧ Below w.heap.size w w' := by
  obtain rfl := ho.len
  obtain rfl := hd.len
  obtain ⟨i0, hi0, hv0, hv1, hv2⟩ := info_partsW infoDue
  have hbA : Below w.heap.size w (w.alloc (.cells #[.slice ao os.length cap, .slice ad ds.length dcap] 40)) := (Below.refl _ _).alloc (Nat.le_refl _) _
  have hbB : Below w.heap.size w ((w.alloc (.cells #[.slice ao os.length cap, .slice ad ds.length dcap] 40)).alloc (.cells #[] 80)) := hbA.alloc hbA.size _
  have HX := hidden ((PB.new w #[.slice ao os.length cap, .slice ad ds.length dcap] 40).alloc (.cells #[] 80))
  have HO := hidden ho
  have HD := hidden hd
  have HB := hidden hbB
  have HR0 : Hid (((w.alloc (.cells #[.slice ao os.length cap, .slice ad ds.length dcap] 40)).alloc (.cells #[] 80)).ownsRow w.heap.size 80 3 (.slice (some ⟨w.heap.size + 1, 0, none⟩) 0 0) 0 []) := by
    have h9 := ownW_base (ownW_new (w.alloc (.cells #[.slice ao os.length cap, .slice ad ds.length dcap] 40)) 80 3) hbA.size
    have e9 : (w.alloc (.cells #[.slice ao os.length cap, .slice ad ds.length dcap] 40)).heap.size = w.heap.size + 1 := by simp
    rw [e9] at h9
    exact h9
  have H1 := hidden (fun W h1 h2 => ichart_any ao os.length cap ad ds.length dcap os ds W h1 h2 hn hm)
  have h2 := itimO_any time
  have HV : Hid (dueAtL os ds time = if chartB os ds = true ∧ timB time = true then dueL os ds time 0 else []) := rfl
  have HTm : Hid (timB time = rng time 0 10000000) := rfl
  clear ho hd hbA hbB
  generalize dueAtL os ds time = R at *
  cases hq : chartB os ds with
  | false =>
    have HN : Hid (R = []) := by rw [Hid, HV.out, hq]; simp
    rw [hq] at H1
    go_enter Try.func16, Try.ntmps16
    go_upto_region 2 with fail
    generalize (w.alloc (.cells #[.slice ao os.length cap, .slice ad ds.length dcap] 40)).alloc (.cells #[] 80) = wA at *
    obtain ⟨b0, b1⟩ := HX.out.two
    go_wp2_with (go_at_call 13; refine (H1.out _ (HO.out.below HB.out) (HD.out.below HB.out)).mono ?_; rintro e w1 ⟨rfl, hb1⟩)
    go_ret
    rw [HN.out]
    exact ⟨_, rfl, VOwn.nil _ _ _ _, onto HB.out hb1⟩
  | true =>
    cases hr : rng time 0 10000000 with
    | false =>
      have HN : Hid (R = []) := by rw [Hid, HV.out, HTm.out, hr]; simp
      rw [hq] at H1
      rw [hr] at h2
      go_enter Try.func16, Try.ntmps16
      go_upto_region 2 with fail
      generalize (w.alloc (.cells #[.slice ao os.length cap, .slice ad ds.length dcap] 40)).alloc (.cells #[] 80) = wA at *
      obtain ⟨b0, b1⟩ := HX.out.two
      go_wp2_with (first | (go_at_call 13; refine (H1.out _ (HO.out.below HB.out) (HD.out.below HB.out)).mono ?_; rintro e w1 ⟨rfl, hb1⟩) | (go_at_call 42; refine (h2 _).mono ?_; rintro e w9 ⟨rfl, rfl⟩))
      go_ret
      rw [HN.out]
      exact ⟨_, rfl, VOwn.nil _ _ _ _, onto HB.out hb1⟩
    | true =>
      have HN : Hid (R = dueL os ds time 0) := by rw [Hid, HV.out, HTm.out, hr, hq]; simp
      obtain ⟨⟨q1, q2⟩, q3, q4⟩ := chart_iff.1 hq
      have HOd := hidden (od_of_chart hq)
      have HRis := hidden (ris_of q3)
      have HBd : Hid (∀ (i : Nat) (d : Ds), ds[i]? = some d → Bd d.o ∧ Bd d.t) := fun i d hd => bd_of q3 (by have := q4 i (List.getElem?_eq_some_iff.1 hd).1; unfold okD at this; simp only [Bool.and_eq_true] at this; exact this.1) hd
      have HTt : Hid (timB time = true) := by rw [Hid, HTm.out]; exact hr
      have HCc : Hid (∀ i, i < os.length → (os.getD i default).c ≤ 200) := fun i hi => by
        obtain ⟨x, hx⟩ := some_of os i hi
        have := HOd.out i x hx
        rw [od_getD hx]
        simp only [odB, Bool.and_eq_true, rng_iff] at this
        exact this.2.2.2.2.2.2.1.2
      have HCe : Hid (∀ i, i < os.length → 1 ≤ (os.getD i default).e) := fun i hi => by
        obtain ⟨x, hx⟩ := some_of os i hi
        have := HOd.out i x hx
        rw [od_getD hx]
        simp only [odB, Bool.and_eq_true, rng_iff] at this
        exact this.2.2.2.2.2.1.1
      rw [hq] at H1
      rw [hr] at h2
      have HG := hidden (fun W hW => igiven_any ad ds.length dcap ds W hW q2 HBd.out)
      clear q3 q4 HV HTm hr hq
      go_enter Try.func16, Try.ntmps16
      go_upto_region 2 with fail
      generalize (w.alloc (.cells #[.slice ao os.length cap, .slice ad ds.length dcap] 40)).alloc (.cells #[] 80) = wA at *
      generalize Value.agg #[.slice ao os.length cap, .slice ad ds.length dcap] = av at ⊢
      obtain ⟨b0, b1⟩ := HX.out.two
      go_upto_region 5 with (first | (go_at_call 13; refine (H1.out _ (HO.out.below HB.out) (HD.out.below HB.out)).mono ?_; rintro e w1 ⟨rfl, hb1⟩; obtain ⟨e0, e1⟩ := (HX.out.below hb1).two) | (go_at_call 42; refine (h2 _).mono ?_; rintro e w9 ⟨rfl, rfl⟩) | (go_at_call 43; refine (HG.out _ ((HD.out.below HB.out).below hb1)).mono ?_; rintro e w2 ⟨rfl, ⟨D, hmap, hcnt⟩, hb2⟩))
      have HB2 := hidden (onto (onto HB.out hb1) hb2)
      have HX2 := hidden ((HX.out.below hb1).below hb2)
      have HR2 := hidden (ownW_below (ownW_below HR0.out hb1) hb2)
      have HMp := hidden hmap
      have HCn := hidden hcnt
      have hMl := hmap.lt
      have hMb : w.heap.size ≤ w1.heap.size := (onto HB.out hb1).size
      have HMR : Hid (w.heap.size + 1 < w1.heap.size) := Nat.lt_of_lt_of_le (ownU_lt HR0.out).2 hb1.size
      clear b0 b1 e0 e1 hb1 hb2 hmap hcnt HX HR0 HB H1 HG h2
      generalize hMB : w1.heap.size = MB at *
      obtain ⟨b0, b1⟩ := HX2.out.two
      go_wp2_with fail
      clear b0 b1
      go_loopw [5, 8, 25] (fun sv _ iv wr => ∃ (i : Nat) (L : List Du), i ≤ os.length ∧ iv = .int .i64 i ∧ Hid (L = allTo os ds time i) ∧ (∃ G c, sv = .slice (some ⟨G, 0, none⟩) L.length c ∧ G ≠ MB ∧ wr.ownsRow w.heap.size 80 3 (.slice (some ⟨G, 0, none⟩) L.length c) L.length (vcellsL 3 cvDu L)) ∧ wr.ownsMap Try.prog 101 (plainElem Try.prog 3) MB 500 D ∧ Below w.heap.size w wr) (fun _ _ iv _ => os.length - (intOf iv).toNat)
      case atStart => exact ⟨0, [], Nat.zero_le _, rfl, rfl, ⟨_, _, rfl, by have := HMR.out; omega, HR2.out⟩, HMp.out, HB2.out⟩
      case round =>
        clear HR2 HMp HB2 HX2
        obtain ⟨i, L, hi, rfl, HL, ⟨G, c, rfl, hGM, hrow⟩, hmap, hb⟩ := hrel
        have hll : L.length ≤ i * 200 := by rw [HL.out]; exact all_len ds time HCc.out i hi
        by_cases hlt : i < os.length
        · have hlti : (i : Int) < (os.length : Int) := by omega
          obtain ⟨x, hx⟩ := some_of os i hlt
          obtain ⟨g, off, rfl, hg, hcs⟩ := (HO.out.below hb).at hx
          have HodX := hidden (HOd.out i x hx)
          have c0 : wr.cell? ⟨g, off + i * 9, none⟩ = some (.int .i64 x.id) := hcs 0 (by omega)
          have c1 : wr.cell? ⟨g, off + i * 9 + 1, none⟩ = some (.int .i64 x.p) := hcs 1 (by omega)
          have c2 : wr.cell? ⟨g, off + i * 9 + 2, none⟩ = some (.int .i64 x.d) := hcs 2 (by omega)
          have c3 : wr.cell? ⟨g, off + i * 9 + 3, none⟩ = some (.int .i64 x.n) := hcs 3 (by omega)
          have c4 : wr.cell? ⟨g, off + i * 9 + 4, none⟩ = some (.int .i64 x.f) := hcs 4 (by omega)
          have c5 : wr.cell? ⟨g, off + i * 9 + 5, none⟩ = some (.int .i64 x.e) := hcs 5 (by omega)
          have c6 : wr.cell? ⟨g, off + i * 9 + 6, none⟩ = some (.int .i64 x.c) := hcs 6 (by omega)
          have c7 : wr.cell? ⟨g, off + i * 9 + 7, none⟩ = some (.int .i64 x.s) := hcs 7 (by omega)
          have c8 : wr.cell? ⟨g, off + i * 9 + 8, none⟩ = some (.bool x.two) := hcs 8 (by omega)
          have bx : Below wr.heap.size wr (wr.alloc (.cells #[.int .i64 x.id, .int .i64 x.p, .int .i64 x.d, .int .i64 x.n, .int .i64 x.f, .int .i64 x.e, .int .i64 x.c, .int .i64 x.s, .bool x.two] 62)) := (Below.refl _ _).alloc (Nat.le_refl _) _
          have HPO := hidden (PB.new wr #[.int .i64 x.id, .int .i64 x.p, .int .i64 x.d, .int .i64 x.n, .int .i64 x.f, .int .i64 x.e, .int .i64 x.c, .int .i64 x.s, .bool x.two] 62)
          have HRow := hidden (ownW_below hrow bx)
          have HMap := hidden (Rt.own_heap hmap (bx.block MB hmap.lt))
          have HB := hidden (onto hb bx)
          have HA1 : Hid (allTo os ds time (i + 1) = if x.s = 2 then L ++ turnsL ds time x x.c.toNat else L) := by rw [Hid, allTo, od_getD hx, HL.out]
          clear hcs hx bx hb hrow hmap
          go_upto_region 8 with fail
          clear c0 c1 c2 c3 c4 c5 c6 c7 c8
          generalize wr.alloc (.cells #[.int .i64 x.id, .int .i64 x.p, .int .i64 x.d, .int .i64 x.n, .int .i64 x.f, .int .i64 x.e, .int .i64 x.c, .int .i64 x.s, .bool x.two] 62) = w3 at *
          obtain ⟨o0, o1, o2, o3, o4, o5, o6, o7, o8⟩ := HPO.out.nine
          by_cases hs2 : x.s = 2
          · have HA2 : Hid (allTo os ds time (i + 1) = L ++ turnsL ds time x x.c.toNat) := by rw [Hid, HA1.out, if_pos hs2]
            have hK := idue_any x time MB D ds w3 HMap.out HCn.out HodX.out HTt.out
            have hT : (turnsL ds time x x.c.toNat).length ≤ 200 := by
              have h8 := turnsL_len ds time x x.c.toNat
              have h9 := HodX.out
              simp only [odB, Bool.and_eq_true, rng_iff] at h9
              have := h9.2.2.2.2.2.2.1.2
              omega
            unfold aOd at hK
            clear HA1
            generalize turnsL ds time x x.c.toNat = N at *
            have o7' : w3.cell? ⟨wr.heap.size, 7, none⟩ = some (.int .i64 2) := by rw [o7, hs2]
            go_upto_region 9 with fail
            clear hs2 o7'
            go_wp2_with (first | (go_at_call 44; refine hK.mono ?_; rintro e w4 ⟨G4, c4, rfl, ho4, hb4⟩; have HRow4 := hidden (ownW_below HRow.out hb4); have HB4 := hidden (onto HB.out hb4); have HMap4 := hidden (Rt.own_heap HMap.out (hb4.block MB HMap.out.lt)); have hsz4 := HB4.out.size) | (at_builtin; refine wpList_append_own_at _ rfl (.tmp 32) (.tmp 36) 44 rfl w.heap.size 80 i0 (.agg #[.int .i64 0, .int .i64 0, .int .i64 0]) 3 24 Try.underlying44 hi0 hv0 hv1 hv2 rfl (by decide) _ L.length (vcellsL 3 cvDu L) rfl HRow4.out ⟨G4, 0, none⟩ N.length c4 (vcellsL 3 cvDu N) rfl (vcellsL_len N) (fun j u hu => by rw [Addr.add_lit, Nat.zero_add]; exact (ownU_at ho4 hu).1) (vc_one N) (by unfold maxLen; omega) (by omega) (by omega) ?_; intro v5 w5 ho5 hg5 hn5 hloc5; obtain ⟨G5, c5, rfl⟩ := own_nn ho5 (fun e => by cases (hn5.1 e).1)))
            have HB5 := hidden (HB4.out.grown hg5 (by omega) (fun k hk => (ownW_lt HRow4.out k hk).1))
            have HM5 := hidden (HMap4.out.kept hg5 (fun e => hGM (by have e2 : some MB = some G := e; exact (Option.some.inj e2).symm)))
            have hG5 : G5 ≠ MB := by
              rcases hloc5 with q | q
              · have q2 : some G5 = some G := q; have := Option.some.inj q2; omega
              · have q2 : some G5 = some w4.heap.size := q; have := Option.some.inj q2; have := HMap4.out.lt; omega
            have HR5 : Hid (w5.ownsRow w.heap.size 80 3 (.slice (some ⟨G5, 0, none⟩) (L ++ N).length c5) (L ++ N).length (vcellsL 3 cvDu (L ++ N))) := by rw [Hid, vc_app, List.length_append]; exact ho5
            go_roundw
            case rel => exact ⟨i + 1, L ++ N, by omega, rfl, HA2.out.symm, ⟨_, _, by rw [List.length_append], hG5, HR5.out⟩, HM5.out, HB5.out⟩
            case measure => simp [intOf]; omega
          · have HA2 : Hid (L = allTo os ds time (i + 1)) := by rw [Hid, HA1.out, if_neg hs2]
            have q2 : (x.s == 2) = false := by simpa using hs2
            clear HA1
            go_wp2_with fail
            go_roundw
            case rel => exact ⟨i + 1, L, by omega, rfl, HA2, ⟨_, _, rfl, hGM, HRow.out⟩, HMap.out, HB.out⟩
            case measure => simp [intOf]; omega
        · have hlti : ¬ (i : Int) < (os.length : Int) := by omega
          obtain ⟨k1, k2, -⟩ := due_ok (ds := ds) (time := time) HRis.out HCe.out os.length (Nat.le_refl _)
          have HK2 : Hid (∀ S : List Du, S.Perm L → (∀ i j (hi : i < S.length) (hj : j < S.length), i < j → ¬ ltD S[j] S[i]) → S = R) := fun S hp hs => by
            rw [HN.out]
            refine sorted_due ?_ k1 hs
            rw [HL.out, show i = os.length by omega] at hp
            exact hp.trans k2.symm
          have hS := isortD_any G c w.heap.size L wr hrow (by omega)
          have hGb := (ownU_lt hrow).1
          clear k1 k2 hrow hmap
          go_wp2_with (go_at_call 45; refine hS.mono ?_; rintro e w5 ⟨rfl, ⟨S, hp, hs, hv⟩, hg5⟩)
          go_ret
          have e9 := HK2.out S hp hs
          rw [← e9]
          exact ⟨_, rfl, hv, hb.grown hg5 hb.size (fun k hk => by cases hk; exact hGb)⟩
end Go.Proofs.Ytkejjlgeiaeicaa
