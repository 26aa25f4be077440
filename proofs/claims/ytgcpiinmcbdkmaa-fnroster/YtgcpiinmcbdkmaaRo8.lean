/-
  The roster, as the program tells it: the walk.
-/
import Derived.Test.YtgcpiinmcbdkmaaRo7
namespace Go.Proofs.Ytgcpiinmcbdkmaa
open Go.RowKit Go.WideShapes Va Lb Sy Ro Go.Maps
set_option linter.all false

theorem infoWorker : (Try.prog.info? 95).map (fun i => (i.zero, i.size, i.bytes)) = some (some (.agg #[.int .i64 0, .int .i64 0]), 2, 16) := by kernel_rfl
theorem made_zero (n j : Nat) (hj : j < n * 2) : (madeCells (Value.agg #[.int .i64 0, .int .i64 0]).cells (n * 2)).toList[j]? = some (.int .i64 0) := by
  rw [show (Value.agg #[.int .i64 0, .int .i64 0]).cells = #[Value.int .i64 0, Value.int .i64 0] from rfl]
  simp only [madeCells, Array.toList_map, List.getElem?_map, Array.toList_range, List.getElem?_range hj, Option.map_some]
  rcases (show j % 2 = 0 ∨ j % 2 = 1 by omega) with e | e
  · simp [e]
  · simp [e]
theorem WR.made {w : World} {b G n c : Nat} {xs : List Value} (h : w.ownsRow b 95 2 (.slice (some ⟨G, 0, none⟩) n c) n xs) (hz : ∀ j, j < n * 2 → xs[j]? = some (.int .i64 0)) : WR w G (List.replicate n (0, 0)) := by
  obtain ⟨q, ⟨h1, _⟩ | ⟨g, cap, cur, h1, hb, hg, hc, hm, hs, ht⟩⟩ := h
  · cases h1
  · simp only [Value.slice.injEq, Option.some.injEq, Addr.mk.injEq, and_true, true_and] at h1
    obtain ⟨rfl, rfl⟩ := h1
    have hP : PB w G cur 95 := hg
    have hcell : ∀ j, j < n * 2 → w.cell? ⟨G, j, none⟩ = some (.int .i64 0) := fun j hj => by
      rw [hP.cell]
      have := hz j hj
      rw [← ht, List.getElem?_take, if_pos hj, Array.getElem?_toList] at this
      exact this
    refine ⟨(Array.getElem?_eq_some_iff.1 hg).1, fun p y hp => ?_⟩
    have hpn : p < n := by have := get_lt' hp; simpa using this
    rw [List.getElem?_replicate, if_pos hpn] at hp
    obtain rfl := (Option.some.inj hp).symm
    exact ⟨⟨hcell _ (by omega), hcell _ (by omega)⟩, hP.frozen _, hP.frozen _⟩
theorem WR.put {w : World} {H i : Nat} {ws : List Wk} {y : Wk} (h : WR w H ws) (hi : i < ws.length) : WR ((w.setCell ⟨H, i * 2, none⟩ (.int .i64 y.1)).setCell ⟨H, i * 2 + 1, none⟩ (.int .i64 y.2)) H (ws.set i y) := by
  have hd := h.2 i _ (List.getElem?_eq_getElem hi)
  obtain ⟨u1, hu1⟩ : ∃ u, w.cell? ⟨H, i * 2, none⟩ = some u := ⟨_, hd.1.1⟩
  obtain ⟨u2, hu2⟩ : ∃ u, (w.setCell ⟨H, i * 2, none⟩ (.int .i64 y.1)).cell? ⟨H, i * 2 + 1, none⟩ = some u := ⟨_, (World.cell?_setCell_other _ _ _ _ (by simp)).trans hd.1.2⟩
  clear hd
  refine ⟨by simpa [World.setCell] using h.1, fun p x hp => ⟨?_, ?_⟩⟩
  · by_cases e : i = p
    · subst e
      rw [List.getElem?_set_self hi] at hp
      obtain rfl := (Option.some.inj hp).symm
      refine ⟨?_, ?_⟩
      · rw [World.cell?_setCell_other _ _ _ _ (by simp)]
        exact World.cell?_setCell_same _ _ _ hu1
      · exact World.cell?_setCell_same _ _ _ hu2
    · rw [List.getElem?_set_ne e] at hp
      have h2 := (h.2 p x hp).1
      refine ⟨?_, ?_⟩
      · rw [World.cell?_setCell_other _ _ _ _ (by simp <;> omega), World.cell?_setCell_other _ _ _ _ (by simp <;> omega)]; exact h2.1
      · rw [World.cell?_setCell_other _ _ _ _ (by simp <;> omega), World.cell?_setCell_other _ _ _ _ (by simp <;> omega)]; exact h2.2
  · have hpl : p < ws.length := by have := get_lt' hp; simpa using this
    have h2 := (h.2 p _ (List.getElem?_eq_getElem hpl)).2
    rw [World.frozen?_setCell, World.frozen?_setCell, World.frozen?_setCell, World.frozen?_setCell]
    exact h2
theorem WR.grown {w w' : World} {H : Nat} {ws : List Wk} {row : Option Nat} (h : WR w H ws) (hg : w.grownBy w' row) (hne : ∀ k, row = some k → k ≠ H) : WR w' H ws := by
  have hb := hg.block H h.1 (fun e => hne H e.symm rfl)
  refine ⟨Nat.lt_of_lt_of_le h.1 hg.size, fun p y hp => ?_⟩
  obtain ⟨⟨h1, h2⟩, h3, h4⟩ := h.2 p y hp
  exact ⟨⟨(World.cell?_of_block (a := ⟨H, p * 2, none⟩) hb).trans h1, (World.cell?_of_block (a := ⟨H, p * 2 + 1, none⟩) hb).trans h2⟩, (World.frozen?_of_block (a := ⟨H, p * 2, none⟩) hb).trans h3, (World.frozen?_of_block (a := ⟨H, p * 2 + 1, none⟩) hb).trans h4⟩
theorem own_grownR {w w' : World} {base e s n : Nat} {v : Value} {xs : List Value} {row : Option Nat} (h : w.ownsRow base e s v n xs) (hg : w.grownBy w' row) (hne : ∀ k, v.ownBlock = some k → some k ≠ row) : w'.ownsRow base e s v n xs := by
  obtain ⟨q, ⟨q1, q2⟩ | ⟨g, c, cur, rfl, hb, hh, r⟩⟩ := h
  · exact ⟨q, Or.inl ⟨q1, q2⟩⟩
  · exact ⟨q, Or.inr ⟨g, c, cur, rfl, hb, (hg.block g (Array.getElem?_eq_some_iff.1 hh).1 (hne g rfl)).trans hh, r⟩⟩
theorem own_otherR {w : World} {b e s n T j : Nat} {v : Value} {xs : List Value} (h : w.ownsRow b e s v n xs) (hT : ∀ k, v.ownBlock = some k → k ≠ T) (u : Value) : (w.setCell ⟨T, j, none⟩ u).ownsRow b e s v n xs :=
  ownsRow_setCell_other h (a := ⟨T, j, none⟩) (fun e => hT T e rfl) u
theorem own_nnR {w : World} {b e s n : Nat} {v : Value} {xs : List Value} (h : w.ownsRow b e s v n xs) (hn : v ≠ .slice none 0 0) : ∃ G c, v = .slice (some ⟨G, 0, none⟩) n c := by
  obtain ⟨_, ⟨h1, _⟩ | ⟨g, cap, cur, h1, _⟩⟩ := h
  · exact absurd h1 hn
  · exact ⟨g, cap, h1⟩
theorem nextTo_at {ws : List Wk} {c : List Int} {i : Nat} (hi : i < ws.length) : (nextTo ws c i).getD i (0, 0) = ws.getD i (0, 0) := by
  rw [List.getD_eq_getElem?_getD, nextTo_get hi, if_neg (Nat.lt_irrefl _)]; rfl
theorem has_chosen (ws : List Wk) (nd : Nat) (run : Int) (i : Nat) : Lb.has (dayOf ws nd run) (i : Int) = decide ((i : Int) ∈ chosen ws nd run) := by
  unfold Lb.has dayOf
  rw [Bool.eq_iff_iff, List.any_eq_true, decide_eq_true_eq]
  constructor
  · rintro ⟨y, hy, e⟩
    have e' : (i : Int) = y := by simpa using e
    subst e'
    rcases List.mem_append.1 hy with h | h
    · obtain ⟨p, _, h2, h3⟩ := mem_among.1 h
      rw [h3]; exact h2
    · have := (List.mem_replicate.1 h).2
      omega
  · intro h
    refine ⟨i, List.mem_append_left _ ?_, by simp⟩
    obtain ⟨p, hp, _, e⟩ := chosen_mem h
    exact mem_among.2 ⟨p, hp, by rw [← e]; exact h, e⟩
theorem day_len (ws : List Wk) (nd : Nat) (run : Int) : (dayOf ws nd run).length = nd := by
  unfold dayOf
  have h1 := among_perm (c := chosen ws nd run) (n := ws.length) (chosen_nodup ws nd run) (fun x hx => by obtain ⟨p, h3, _, h4⟩ := chosen_mem hx; exact ⟨p, h3, h4⟩)
  rw [List.length_append, h1.length_eq, List.length_replicate]
  unfold chosen
  rw [List.length_take]; omega
theorem ros_out_len (people need : Nat) (run : Int) : ∀ d, (ros people need run d).2.length = d * need
  | 0 => by simp [ros]
  | d + 1 => by rw [ros]; simp only [List.length_append, day_len, ros_out_len people need run d]; rw [Nat.succ_mul]

set_option maxRecDepth 20000 in
set_option maxHeartbeats 16000000 in
theorem iroster_any (p d nd r : Int) (w : World) : Calls Try.prog 17 #[.int .i64 p, .int .i64 d, .int .i64 nd, .int .i64 r] w fun e w' => ∃ v', e = .returned v' ∧ VOwn 1 cvI w' w.heap.size v' (roster p d nd r) ∧ Below w.heap.size w w' := by
  obtain ⟨i0, hi0, hv0, hv1, hv2⟩ := info_partsW infoW64
  obtain ⟨i1, hi1, hu0, hu1, hu2⟩ := info_partsW infoWorker
  have k0 := fun W => isroster_any p d nd r W
  have HV : Hid (roster p d nd r = if okB p d nd r then (ros p.toNat nd.toNat r d.toNat).2 else []) := rfl
  generalize roster p d nd r = M at *
  cases hok : okB p d nd r with
  | false =>
    have HE : Hid (M = []) := by show _ = _; rw [HV.out, hok]; rfl
    rw [hok] at k0
    clear HV hok
    go_enter Try.func17, Try.ntmps17
    go_wp2_with (go_at_call 58; (with_reducible refine (k0 _).mono ?_); rintro e w4 ⟨rfl, rfl⟩)
    go_ret
    rw [HE.out]
    exact ⟨_, rfl, VOwn.nil _ _ _ _, by repeat (first | exact Below.refl _ _ | assumption | refine st_drew ?_ | refine st_drewN ?_ _ | refine Below.setCell ?_ (by first | omega | (simp; done) | (simp; omega)) _ | refine Below.alloc ?_ (by first | omega | (simp; done) | (simp; omega)) _)⟩
  | true =>
    have hok' : (1 ≤ p ∧ p ≤ 30) ∧ (0 ≤ d ∧ d ≤ 60) ∧ (0 ≤ nd ∧ nd ≤ p) ∧ 1 ≤ r ∧ r ≤ 10 := by
      have h := hok
      simp only [okB, Bool.and_eq_true, decide_eq_true_eq] at h
      obtain ⟨⟨⟨a1, a2⟩, a3⟩, a4⟩ := h
      exact ⟨a1, a2, a3, a4⟩
    have HM0 : Hid (M = (ros p.toNat nd.toNat r d.toNat).2) := by show _ = _; rw [HV.out, hok]; rfl
    rw [hok] at k0
    obtain ⟨⟨p1, p2⟩, ⟨d1, d2⟩, ⟨n1, n2⟩, r1, r2⟩ := hok'
    obtain ⟨n, rfl⟩ := Int.eq_ofNat_of_zero_le (show 0 ≤ p by omega)
    obtain ⟨dd, rfl⟩ := Int.eq_ofNat_of_zero_le d1
    obtain ⟨nk, rfl⟩ := Int.eq_ofNat_of_zero_le n1
    have HM : Hid (M = (ros n nk r dd).2) := HM0.out
    have HRl : Hid (∀ d, (ros n nk r d).1.length = n) := ros_len n nk r
    have HRb : Hid (∀ d, d ≤ 60 → ∀ x ∈ (ros n nk r d).1, (0 ≤ x.1 ∧ x.1 ≤ 1000) ∧ (0 ≤ x.2 ∧ x.2 ≤ 1000)) := fun d hd x hx => by
      obtain ⟨q1, q2, q3, q4⟩ := ros_bnd n nk r d x hx
      omega
    have HOl : Hid (∀ d, d ≤ 60 → (ros n nk r d).2.length ≤ 1800) := fun d hd => by
      rw [ros_out_len]
      exact Nat.le_trans (Nat.mul_le_mul hd (show nk ≤ 30 by omega)) (by omega)
    have hn30 : n ≤ 30 := by omega
    have hnk : nk ≤ 30 := by omega
    have hdd : dd ≤ 60 := by omega
    clear HV hok HM0 p1 p2 d1 d2 n1 n2
    have HO0 := hidden (ownW_new w 2 1)
    have HB0 : Hid (Below w.heap.size w (w.alloc (.cells #[] 2))) := (Below.refl _ _).alloc (Nat.le_refl _) _
    have HZ0 : Hid ((w.alloc (.cells #[] 2)).heap.size = w.heap.size + 1) := by show _ = _; simp
    go_enter Try.func17, Try.ntmps17
    go_wp2_with (first
      | (go_at_call 58; (with_reducible refine (k0 _).mono ?_); rintro e w4 ⟨rfl, rfl⟩)
      | (refine wpList_make_full _ rfl (.tmp 22) (.tmp 22) 92 rfl 0 95 i1 (.agg #[.int .i64 0, .int .i64 0]) 2 Try.underlying92 hi1 hu0 hu1 .i64 .i64 _ _ n rfl rfl rfl rfl (by rw [hu2]; omega) (by unfold maxLen; omega) (Nat.zero_le _) ?_; intro w1 ho1 hg1))
    have HWR := hidden (WR.made ho1 (fun j hj => made_zero n j hj))
    have hb1 : Hid (Below w.heap.size w w1) := HB0.out.grown hg1 (by have := HZ0.out; omega) (fun k hk => by cases hk)
    have HOw := hidden (own_grownR HO0.out hg1 (fun k hk => by simp))
    have hz1 := hg1.size
    have hZ := HZ0.out
    rw [hZ] at HWR
    obtain ⟨H, hH⟩ : ∃ H, w.heap.size + 1 = H := ⟨_, rfl⟩
    skip
    rw [hH] at HWR ⊢
    clear ho1 hg1 HO0 HB0 HZ0 hZ
    go_loopw [9, 11, 12, 13, 25] (fun cv _ _ _ iv wr => ∃ (i G L c : Nat), i ≤ dd ∧ iv = .int .i64 i ∧ cv = .slice (some ⟨G, 0, none⟩) L c ∧ Hid ((ros n nk r i).2.length = L) ∧ Hid (WR wr H (ros n nk r i).1) ∧ Hid (wr.ownsRow w.heap.size 2 1 (.slice (some ⟨G, 0, none⟩) L c) L ((ros n nk r i).2.map fun z => Value.int .i64 z)) ∧ Hid (G ≠ H) ∧ Below w.heap.size w wr) (fun _ _ _ _ iv _ => dd - (intOf iv).toNat)
    case atStart => exact ⟨0, w.heap.size, 0, 0, Nat.zero_le _, rfl, rfl, rfl, HWR, HOw, by show _ ≠ _; omega, hb1.out⟩
    case round =>
      clear HWR HOw hb1
      obtain ⟨i, G, L, c, hi, rfl, rfl, hL, hwr, ho, hGH, hb⟩ := hrel
      by_cases hlt : i < dd
      · have hlti : (i : Int) < (dd : Int) := by omega
        have hll := HOl.out i (by omega)
        have hlW := HRl.out i
        have hbW := hidden (HRb.out i (by omega))
        obtain ⟨W, hWe⟩ : ∃ W, (ros n nk r i).1 = W := ⟨_, rfl⟩
        obtain ⟨O, hOe⟩ : ∃ O, (ros n nk r i).2 = O := ⟨_, rfl⟩
        have hst1 : Hid ((ros n nk r (i + 1)).1 = next W (chosen W nk r)) := by show _ = _; rw [ros, hWe]
        have hst2 : Hid ((ros n nk r (i + 1)).2 = O ++ dayOf W nk r) := by show _ = _; rw [ros, hWe, hOe]
        rw [hWe] at hwr hlW hbW
        rw [hOe] at hL ho hll
        clear hWe hOe
        have kd := dayof_any W H n nk r wr (by omega) hnk hwr.out
        have hhas := hidden (has_chosen W nk r)
        have hdl := day_len W nk r
        rw [hlW, hdl] at kd
        have HDl := hidden hdl
        have HlW := hidden hlW
        obtain ⟨hG1, hG2⟩ := own_blkR ho.out
        have hHl := hwr.out.1
        have hLl : L ≤ 1800 := by have := hL.out; omega
        have hwsz := hb.size
        obtain ⟨C, hC⟩ : ∃ C, chosen W nk r = C := ⟨_, rfl⟩
        rw [hC] at hst1 hhas
        generalize dayOf W nk r = D at *
        clear hdl hlW hll hC
        go_wp2_with (first
          | (go_at_call 59; (with_reducible refine kd.mono ?_); rintro e w2 ⟨G2, c2, rfl, hoD, hb2⟩; obtain ⟨hD1, hD2⟩ := own_blkR hoD; have hz2 := hb2.size)
          | (at_builtin; refine wpList_append_own_at _ rfl (.tmp 31) (.tmp 32) 25 rfl w.heap.size 2 i0 (.int .i64 0) 1 8 Try.underlying25 hi0 hv0 hv1 hv2 rfl (by decide) (.slice (some ⟨G, 0, none⟩) L c) L (O.map fun z => Value.int .i64 z) rfl (ownW_below ho.out hb2) ⟨G2, 0, none⟩ nk c2 (D.map fun z => Value.int .i64 z) rfl (by rw [List.length_map, HDl.out, Nat.mul_one]) (fun j u hu => by
              rw [List.getElem?_map] at hu
              cases hz : D[j]? with
              | none => rw [hz] at hu; cases hu
              | some z =>
                rw [hz] at hu
                obtain rfl := (Option.some.inj hu).symm
                have := ((SR.of_own HDl.out.symm hoD).get j z hz).1
                cases j with
                | zero => simpa [Addr.add] using this
                | succ j => simpa [Addr.add] using this) (fun u hu => by obtain ⟨z, _, rfl⟩ := List.mem_map.1 hu; rfl) (by unfold maxLen; omega) (by omega) (by omega) ?_; intro v5 w5 ho5 hg5 hn5 hl5; obtain ⟨G5, c5, rfl⟩ := own_nnR ho5 (fun q => by have := (hn5.1 q).1; cases this)))
        have hG5 : G5 ≠ H := by
          have := hGH.out
          rcases hl5 with q | q
          · have : G5 = G := by simpa [Value.ownBlock] using q
            omega
          · have : G5 = w2.heap.size := by simpa [Value.ownBlock] using q
            omega
        have hrow2 : ∀ k, (Value.slice (some ⟨G, 0, none⟩) L c).ownBlock = some k → k = G := fun k hk => by simpa [Value.ownBlock, eq_comm] using hk
        have b5 : Below w.heap.size w w5 := (hb.trans (hb2.mono (by omega))).grown hg5 (by omega) (fun k hk => by rw [hrow2 k hk]; exact hG1)
        have HW5 := hidden ((hwr.out.below hb2).grown hg5 (fun k hk => by rw [hrow2 k hk]; exact hGH.out))
        have HD5 := hidden (own_grownR hoD hg5 (fun k hk e => by
          have h1 := hrow2 k e.symm
          have h2 : k = G2 := by simpa [Value.ownBlock, eq_comm] using hk
          omega))
        have HO5 : Hid (w5.ownsRow w.heap.size 2 1 (.slice (some ⟨G5, 0, none⟩) (L + nk) c5) (L + nk) ((O ++ D).map fun z => Value.int .i64 z)) := by show World.ownsRow _ _ _ _ _ _ _; rw [List.map_append]; exact ho5
        have hD2H : G2 ≠ H := by omega
        have hL5 : Hid ((ros n nk r (i + 1)).2.length = L + nk) := by show _ = _; rw [hst2.out, List.length_append, hL.out, HDl.out]
        have HG5 := hidden hG5
        have HG2 := hidden hD2H
        clear ho5 hg5 hn5 hl5 hG5 hD2H hwr hoD ho kd hb2 hb hL hGH hrow2 hD1 hD2 hG1 hG2 hHl hz2 hwsz
        go_loopw [12, 13, 36] (fun _ _ jv ws => ∃ j : Nat, j ≤ n ∧ jv = .int .i64 j ∧ Hid (WR ws H (nextTo W C j)) ∧ Hid (ws.ownsRow w.heap.size 2 1 (.slice (some ⟨G5, 0, none⟩) (L + nk) c5) (L + nk) ((O ++ D).map fun z => Value.int .i64 z)) ∧ Hid (ws.ownsRow wr.heap.size 2 1 (.slice (some ⟨G2, 0, none⟩) nk c2) nk (D.map fun z => Value.int .i64 z)) ∧ Below w.heap.size w ws) (fun _ _ jv _ => n - (intOf jv).toNat)
        case atStart => exact ⟨0, Nat.zero_le _, rfl, by show WR _ _ _; rw [nextTo_zero]; exact HW5.out, HO5, HD5, b5⟩
        case round =>
          clear HW5 HO5 HD5 b5
          rename World => ws
          obtain ⟨j, hj, rfl, hw3, ho3, hd3, hb3⟩ := hrel
          by_cases hlt2 : j < n
          · have hlti2 : (j : Int) < (n : Int) := by omega
            have hjW : j < W.length := by rw [HlW.out]; exact hlt2
            have hjW2 : j < (nextTo W C j).length := by rw [nextTo_len]; exact hjW
            have hfz := (hw3.out.2 j _ (List.getElem?_eq_getElem hjW2)).2
            obtain ⟨e1, e2⟩ := hw3.out.at hjW2
            rw [nextTo_at hjW] at e1 e2
            have hbd := hbW.out (W.getD j (0, 0)) (by rw [List.getD_eq_getElem?_getD, List.getElem?_eq_getElem hjW]; exact List.getElem_mem hjW)
            have HNX := hidden (nextTo_succ (c := C) hjW)
            have HCT : Hid (∀ X, Below ws.heap.size ws X → Calls Try.prog 61 #[.slice (some ⟨G2, 0, none⟩) nk c2, .int .i64 (j : Nat)] X fun e w' => e = .returned (.bool (decide ((j : Int) ∈ C))) ∧ w' = X) := fun X hX => by
              have h1 := hd3.out
              rw [← HDl.out] at h1 ⊢
              have h2 := cont_any (some ⟨G2, 0, none⟩) D.length c2 D (j : Int) X ((vownI h1).row.below hX) (by rw [HDl.out]; omega)
              rw [hhas.out j] at h2
              exact h2
            have HBH := hidden (fun X => behind_any (W.getD j (0, 0)).1 (W.getD j (0, 0)).2 (decide ((j : Int) ∈ C)) X hbd.1 hbd.2)
            generalize decide ((j : Int) ∈ C) = cb at *
            obtain ⟨y, hy⟩ : ∃ y, W.getD j (0, 0) = y := ⟨_, rfl⟩
            rw [hy] at e1 e2 HNX HBH hbd
            obtain ⟨y1, y2⟩ := y
            have HPB := hidden (PB.new ws #[.int .i64 y1, .int .i64 y2] 95)
            have hbx : Below ws.heap.size ws (ws.alloc (.cells #[.int .i64 y1, .int .i64 y2] 95)) := (Below.refl _ _).alloc (Nat.le_refl _) _
            obtain ⟨f1, f2⟩ := hfz
            have hHs := hw3.out.1
            have e1' := (hbx.cell (p := ⟨H, j * 2, none⟩) hHs).trans e1
            have e2' := (hbx.cell (p := ⟨H, j * 2 + 1, none⟩) hHs).trans e2
            have f1' := (hbx.frozen (p := ⟨H, j * 2, none⟩) hHs).trans f1
            have f2' := (hbx.frozen (p := ⟨H, j * 2 + 1, none⟩) hHs).trans f2
            have x0 := HPB.out.cell 0
            have x1 := HPB.out.cell 1
            have hXl := HPB.out.lt
            clear hy hbd hjW hjW2
            go_upto_region 12 with fail
            refine regRs12 (H := H) (X := ws.heap.size) (G := G2) (n := n) (m := nk) (c0 := n) (c := c2) (i := j) (x1 := y1) (x2 := y2) (r1 := (behind (y1, y2) cb).1) (r2 := (behind (y1, y2) cb).2) (cb := cb) rfl rfl rfl rfl rfl hXl x0 x1 (Nat.lt_of_lt_of_le hHs hbx.size) e1' e2' f1' f2' hlt2 hn30 (fun X hX => HCT.out X (ontoR hbx hX)) HBH.out ?_
            rintro b' w9 hf ⟨w8, hb8, rfl⟩
            rw [layRs12 hf]
            clear hf
            generalize Rg.out (Rg.opsOf Try.f17 12) b' 0 = yy0
            generalize Rg.out (Rg.opsOf Try.f17 12) b' 1 = yy1
            generalize Rg.out (Rg.opsOf Try.f17 12) b' 2 = yy2
            generalize Rg.out (Rg.opsOf Try.f17 12) b' 3 = yy3
            generalize Rg.out (Rg.opsOf Try.f17 12) b' 4 = yy4
            generalize Rg.out (Rg.opsOf Try.f17 12) b' 5 = yy5
            generalize Rg.out (Rg.opsOf Try.f17 12) b' 6 = yy6
            generalize Rg.out (Rg.opsOf Try.f17 12) b' 7 = yy7
            have hb9 := ontoR hbx hb8
            have hjW3 : j < (nextTo W C j).length := by rw [nextTo_len, HlW.out]; exact hlt2
            have HW9 := hidden ((hw3.out.below hb9).put (y := behind (y1, y2) cb) hjW3)
            rw [← HNX.out] at HW9
            have ne5 : ∀ k, (Value.slice (some ⟨G5, 0, none⟩) (L + nk) c5).ownBlock = some k → k ≠ H := fun k hk => by
              have e : k = G5 := by simpa [Value.ownBlock, eq_comm] using hk
              rw [e]; exact HG5.out
            have ne2 : ∀ k, (Value.slice (some ⟨G2, 0, none⟩) nk c2).ownBlock = some k → k ≠ H := fun k hk => by
              have e : k = G2 := by simpa [Value.ownBlock, eq_comm] using hk
              rw [e]; exact HG2.out
            have HO9 := hidden (own_otherR (own_otherR (ownW_below ho3.out hb9) ne5 (j := j * 2) (.int .i64 (behind (y1, y2) cb).1)) ne5 (j := j * 2 + 1) (.int .i64 (behind (y1, y2) cb).2))
            have HD9 := hidden (own_otherR (own_otherR (ownW_below hd3.out hb9) ne2 (j := j * 2) (.int .i64 (behind (y1, y2) cb).1)) ne2 (j := j * 2 + 1) (.int .i64 (behind (y1, y2) cb).2))
            clear ne5 ne2
            have hb10 : Below w.heap.size w ((w8.setCell ⟨H, j * 2, none⟩ (.int .i64 (behind (y1, y2) cb).1)).setCell ⟨H, j * 2 + 1, none⟩ (.int .i64 (behind (y1, y2) cb).2)) := ((hb3.trans (hb9.mono hb3.size)).setCell (p := ⟨H, j * 2, none⟩) (by show w.heap.size ≤ H; omega) _).setCell (p := ⟨H, j * 2 + 1, none⟩) (by show w.heap.size ≤ H; omega) _
            have HB10 := hidden hb10
            clear hb10 hb9 hb8 hw3 ho3 hd3 hb3 HNX HBH HCT e1 e2 e1' e2' f1 f2 f1' f2' x0 x1 hXl HPB hbx hjW3
            generalize (w8.setCell ⟨H, j * 2, none⟩ (.int .i64 (behind (y1, y2) cb).1)).setCell ⟨H, j * 2 + 1, none⟩ (.int .i64 (behind (y1, y2) cb).2) = w10 at *
            go_wp2_with fail
            go_roundw
            case rel => exact ⟨j + 1, by omega, rfl, HW9, HO9, HD9, HB10.out⟩
            case measure => simp [intOf]; omega
          · have hlti2 : ¬ (j : Int) < (n : Int) := by omega
            have HWF : Hid (WR ws H (ros n nk r (i + 1)).1) := by
              have h1 := hw3.out
              have : j = W.length := by rw [HlW.out]; omega
              rw [this, nextTo_all, ← hst1.out] at h1
              exact h1
            have HOF : Hid (ws.ownsRow w.heap.size 2 1 (.slice (some ⟨G5, 0, none⟩) (L + nk) c5) (L + nk) ((ros n nk r (i + 1)).2.map fun z => Value.int .i64 z)) := by
              show World.ownsRow _ _ _ _ _ _ _; rw [hst2.out]; exact ho3.out
            go_wp2_with fail
            go_roundw
            case rel => exact ⟨i + 1, G5, L + nk, c5, by omega, rfl, rfl, hL5, HWF, HOF, HG5, hb3⟩
            case measure => simp [intOf]; omega
      · have hlti : ¬ (i : Int) < (dd : Int) := by omega
        have HE : Hid (L = M.length ∧ wr.ownsRow w.heap.size 2 1 (.slice (some ⟨G, 0, none⟩) L c) L (M.map fun z => Value.int .i64 z)) := by
          have e : i = dd := by omega
          have h1 := ho.out
          have h2 := hL.out
          rw [e, ← HM.out] at h1 h2
          exact ⟨h2.symm, h1⟩
        clear ho hL hwr
        go_wp2_with fail
        go_ret
        obtain ⟨q1, q2⟩ := HE.out
        exact ⟨_, rfl, by rw [q1] at q2 ⊢; exact vownI q2, hb⟩
end Go.Proofs.Ytgcpiinmcbdkmaa
