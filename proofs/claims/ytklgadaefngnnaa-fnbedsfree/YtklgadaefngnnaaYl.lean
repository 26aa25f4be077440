/-
  A house drawn of a cursor.
-/
import Derived.Test.YtklgadaefngnnaaYk
namespace Go.Proofs.Ytklgadaefngnnaa
open Go.RowKit Hm
set_option linter.all false

theorem tb_grown {g T : Nat} {w w' : World} {zs : List Int} {b s n : Nat} {v : Value} {xs : List Value} {e : Nat} (h : Tb g w T zs) (hv : w.ownsRow b e s v n xs) (he : e ≠ 2) (hg : w.grownBy w' v.ownBlock) : Tb g w' T zs :=
  ⟨h.1, (hg.block T (Array.getElem?_eq_some_iff.1 h.2).1 (own_not hv h.2 (Ne.symm he))).trans h.2⟩
theorem tb_set {g T : Nat} {w : World} {zs : List Int} {X j : Nat} (h : Tb g w T zs) (hX : IsT w X 27) (u : Value) : Tb g (w.setCell ⟨X, j, none⟩ u) T zs := by
  obtain ⟨c, hc⟩ := hX
  have hne : T ≠ X := fun e => by
    rw [← e, h.2] at hc
    have := Option.some.inj hc
    simp only [Obj.cells.injEq] at this
    exact absurd this.2.1 (by decide)
  exact ⟨h.1, (Below.heap_setCell w ⟨X, j, none⟩ u T hne).trans h.2⟩
theorem own_sliceH {w : World} {b e s n : Nat} {v : Value} {xs : List Value} (h : w.ownsRow b e s v n xs) : ∃ ad c, v = .slice ad n c := by
  obtain ⟨_, ⟨q1, q2⟩ | ⟨g, c, cur, q1, _⟩⟩ := h
  · exact ⟨none, 0, by rw [q1, q2]⟩
  · exact ⟨_, _, q1⟩
theorem two_ofH {w : World} {Y : Nat} {a b : Value} {t : TypeId} (h : w.heap[Y]? = some (.cells #[a, b] t (0, 0))) : w.cell? ⟨Y, 0, none⟩ = some a ∧ w.cell? ⟨Y, 1, none⟩ = some b ∧ w.frozen? ⟨Y, 0, none⟩ = false ∧ w.frozen? ⟨Y, 1, none⟩ = false := by
  refine ⟨?_, ?_, ?_, ?_⟩ <;> simp [World.cell?, World.frozen?, h]
theorem box_old {w0 W : World} {g cap R X Y : Nat} {ao : Option Addr} {bs : List Int} {vb vs ub us z1 z2 : Value} {B : List Bd} {S S' : List St} (h : DH w0 W g ao cap bs R X vb vs B S) (hn : HNew W w0.heap.size ub us B S') (hY : W.heap[Y]? = some (.cells #[z1, z2] 27 (0, 0))) (hYX : Y ≠ X) (hYR : Y ≠ R) (hYo : w0.heap.size ≤ Y) :
    ((W.setCell ⟨Y, 0, none⟩ ub).setCell ⟨Y, 1, none⟩ us).cell? ⟨Y, 0, none⟩ = some ub ∧ ((W.setCell ⟨Y, 0, none⟩ ub).setCell ⟨Y, 1, none⟩ us).cell? ⟨Y, 1, none⟩ = some us ∧ DH w0 ((W.setCell ⟨Y, 0, none⟩ ub).setCell ⟨Y, 1, none⟩ us) g ao cap bs R X vb vs B S ∧ HNew ((W.setCell ⟨Y, 0, none⟩ ub).setCell ⟨Y, 1, none⟩ us) w0.heap.size ub us B S' := by
  have hgg := h.gg
  have e0 := setCell_eq_setRow W Y 0 _ _ _ ub hY
  have h0 : (W.setCell ⟨Y, 0, none⟩ ub).heap[Y]? = some (.cells #[ub, z2] 27 (0, 0)) := by rw [e0]; exact setRow_heap _ _ _ _ _ _ hY
  have e1 := setCell_eq_setRow (W.setCell ⟨Y, 0, none⟩ ub) Y 1 _ _ _ us h0
  have h1 : ((W.setCell ⟨Y, 0, none⟩ ub).setCell ⟨Y, 1, none⟩ us).heap[Y]? = some (.cells #[ub, us] 27 (0, 0)) := by rw [e1, setRow_heap _ _ _ _ _ _ h0]; rfl
  have hb : Below w0.heap.size W ((W.setCell ⟨Y, 0, none⟩ ub).setCell ⟨Y, 1, none⟩ us) := ((Below.refl _ W).setCell (p := ⟨Y, 0, none⟩) hYo _).setCell (p := ⟨Y, 1, none⟩) hYo _
  have hT : IsT W Y 27 := ⟨_, hY⟩
  have hN : ∀ {vb vs : Value} {B : List Bd} {S : List St}, HNew W w0.heap.size vb vs B S → HNew ((W.setCell ⟨Y, 0, none⟩ ub).setCell ⟨Y, 1, none⟩ us) w0.heap.size vb vs B S := fun h => (h.ty (p := ⟨Y, 0, none⟩) hT (by decide) (by decide) _).ty (p := ⟨Y, 1, none⟩) (hT.setCell _ _) (by decide) (by decide) _
  refine ⟨by simp [World.cell?, h1], by simp [World.cell?, h1], ⟨h.cur.below (hb.mono (by omega)), ⟨hb.os.trans h.keep.os, hb.tape.trans h.keep.tape, hb.output.trans h.keep.output, Nat.le_trans h.keep.size hb.size, fun b hb' hbg => (hb.block b hb').trans (h.keep.block b hb' hbg)⟩, ?_, ?_, hN h.own, h.ne, h.old, h.gg⟩, hN hn⟩
  · rw [e1, setRow_other _ _ _ _ (fun e => hYX e.symm), e0, setRow_other _ _ _ _ (fun e => hYX e.symm)]; exact h.x
  · rw [e1, setRow_other _ _ _ _ (fun e => hYR e.symm), e0, setRow_other _ _ _ _ (fun e => hYR e.symm)]; exact h.r
theorem box_new {w0 W : World} {g cap R X : Nat} {ao : Option Addr} {bs : List Int} {vb vs ub us : Value} {B : List Bd} {S S' : List St} (h : DH w0 W g ao cap bs R X vb vs B S) (hn : HNew W w0.heap.size ub us B S') :
    (W.alloc (.cells #[ub, us] 27)).cell? ⟨W.heap.size, 0, none⟩ = some ub ∧ (W.alloc (.cells #[ub, us] 27)).cell? ⟨W.heap.size, 1, none⟩ = some us ∧ DH w0 (W.alloc (.cells #[ub, us] 27)) g ao cap bs R X vb vs B S ∧ HNew (W.alloc (.cells #[ub, us] 27)) w0.heap.size ub us B S' := by
  have e := heap_alloc_new W (.cells #[ub, us] 27)
  exact ⟨(two_ofH e).1, (two_ofH e).2.1, h.alloc _, hn.below ((Below.refl _ _).alloc (Nat.le_refl _) _)⟩
theorem two_onesH (a b : Int) : ∀ u ∈ [Value.int .i64 a, .int .i64 b], u.oneCell' = true := by
  intro u hu
  simp only [List.mem_cons, List.not_mem_nil, or_false] at hu
  rcases hu with rfl | rfl <;> rfl
theorem six_onesH (a b c d e f : Int) : ∀ u ∈ [Value.int .i64 a, .int .i64 b, .int .i64 c, .int .i64 d, .int .i64 e, .int .i64 f], u.oneCell' = true := by
  intro u hu
  simp only [List.mem_cons, List.not_mem_nil, or_false] at hu
  rcases hu with rfl | rfl | rfl | rfl | rfl | rfl <;> rfl
theorem cell_listH (w : World) (xs : List Value) (t : TypeId) : ∀ (j : Nat) (u : Value), xs[j]? = some u → (w.alloc (.cells xs.toArray t)).cell? ((⟨w.heap.size, 0, none⟩ : Addr).add j) = some u := fun j u hu => by
  have e0 := heap_alloc_new w (Obj.cells xs.toArray t)
  rw [Addr.add_lit, Nat.zero_add]
  simp only [World.cell?, e0]
  simpa using hu

set_option maxRecDepth 20000 in
set_option maxHeartbeats 8000000 in
theorem dhouse_any (g : Nat) (ao : Option Addr) (cap : Nat) (bs : List Int) (w : World) (hc : Cur w g ao cap bs) :
    Calls Try.prog 74 #[.pointer (some ⟨g, 0, none⟩)] w fun e w' => ∃ vb vs S t, e = .returned (.tuple #[.agg #[vb, vs], .int .i64 t]) ∧ HNew w' w.heap.size vb vs (B7 7) S ∧ S.length ≤ 1000 ∧ F700 S ∧ 0 ≤ t ∧ t ≤ 960 ∧ Cur w' g ao cap bs ∧ Keep g w w' := by
  obtain ⟨i0, hi0, hy0, hy1, hy2⟩ := info_partsH infoBedH
  obtain ⟨j0, hj0, hz0, hz1, hz2⟩ := info_partsH infoStayH
  have hgl := hc.1
  have hD0 : DH w (((w.alloc (.cells #[.slice none 0 0, .slice none 0 0] 27)).alloc (.cells #[.slice none 0 0, .slice none 0 0] 27)).alloc (.cells #[.int .i64 1, .int .i64 2, .int .i64 1, .int .i64 3, .int .i64 2, .int .i64 1, .int .i64 1] 2)) g ao cap bs w.heap.size (w.heap.size + 1) (.slice none 0 0) (.slice none 0 0) [] [] := by
    refine DH.alloc ⟨hc.below (((Below.refl _ _).alloc hgl _).alloc (by simp; omega) _), ((Keep.refl g w).alloc _).alloc _, ?_, ?_, ⟨⟨rfl, .inl ⟨rfl, rfl⟩⟩, ⟨rfl, .inl ⟨rfl, rfl⟩⟩⟩, by omega, ⟨Nat.le_refl _, by omega⟩, hgl⟩ _
    · have := heap_alloc_new (w.alloc (.cells #[.slice none 0 0, .slice none 0 0] 27)) (.cells #[.slice none 0 0, .slice none 0 0] 27)
      simpa using this
    · exact (((Below.refl (w.heap.size + 1) (w.alloc (.cells #[.slice none 0 0, .slice none 0 0] 27))).alloc (by simp) _).block w.heap.size (by omega)).trans (heap_alloc_new _ _)
  have hT0 : Tb g (((w.alloc (.cells #[.slice none 0 0, .slice none 0 0] 27)).alloc (.cells #[.slice none 0 0, .slice none 0 0] 27)).alloc (.cells #[.int .i64 1, .int .i64 2, .int .i64 1, .int .i64 3, .int .i64 2, .int .i64 1, .int .i64 1] 2)) (w.heap.size + 1 + 1) K7 := by
    have := Tb.new (g := g) (w := (w.alloc (.cells #[.slice none 0 0, .slice none 0 0] 27)).alloc (.cells #[.slice none 0 0, .slice none 0 0] 27)) K7 (by simp; omega)
    simpa [K7] using this
  go_enter Try.func74, Try.ntmps74
  go_wp2_with fail
  generalize ((w.alloc (.cells #[.slice none 0 0, .slice none 0 0] 27)).alloc (.cells #[.slice none 0 0, .slice none 0 0] 27)).alloc (.cells #[.int .i64 1, .int .i64 2, .int .i64 1, .int .i64 3, .int .i64 2, .int .i64 1, .int .i64 1] 2) = wA at *
  generalize hXX : w.heap.size + 1 = X at *
  generalize hTT : X + 1 = T at *
  clear hXX hTT
  go_loopw [6] (fun iv wr => ∃ (i : Nat) (vb vs : Value), iv = .int .i64 i ∧ i ≤ 7 ∧ DH w wr g ao cap bs w.heap.size X vb vs (B7 i) [] ∧ Tb g wr T K7) (fun iv _ => 7 - (intOf iv).toNat)
  case atStart => exact ⟨0, _, _, rfl, by omega, hD0, hT0⟩
  case round =>
    clear hD0 hT0
    obtain ⟨i, vb, vs, rfl, hi7, hd, hT⟩ := hrel
    by_cases hlt : i < 7
    · have hlti : (i : Int) < 7 := by omega
      have hcell := hT.at (k := i) (by simpa [K7] using hlt)
      have HBD : Hid (bed7 i = ⟨if K7[i]'(by simpa [K7] using hlt) = 3 then 50 + (i : Int) else (i : Int) / 2, K7[i]'(by simpa [K7] using hlt)⟩) := by
        unfold Hid bed7
        rw [List.getD_eq_getElem?_getD, List.getElem?_eq_getElem (by simpa [K7] using hlt)]
        rfl
      generalize hkz : K7[i]'(by simpa [K7] using hlt) = kz at *
      have HKZ := hidden hkz
      clear hkz
      have hxc := hd.xc
      obtain ⟨x0, x1, fx0, fx1⟩ := hxc
      obtain ⟨a1, c1, a2, c2, rfl, rfl⟩ := hd.form
      have HLB : (B7 i).length ≤ 7 := by rw [B7_len]; exact hi7
      go_upto_if 24 with fail
      go_cut [7] (fun rv wx => rv = .int .i64 (if kz = 3 then 50 + (i : Int) else (i : Int) / 2) ∧ wx = wr)
      case first =>
        by_cases hz : kz = 3
        · subst hz
          go_wp2_with fail
          go_meet
          case rel => exact ⟨by simp, rfl⟩
        · have qb : (kz == 3) = false := by simpa using hz
          go_wp2_with fail
          go_meet
          case rel => exact ⟨by rw [if_neg hz], rfl⟩
      case rest =>
        obtain ⟨rfl, rfl⟩ := hcut
        generalize (if kz = 3 then 50 + (i : Int) else (i : Int) / 2) = rm at *
        have HOW := hidden (fun o => (hd.drew.alloc o).own.1)
        have HDA := hidden (fun o => hd.drew.alloc o)
        have HTA := hidden (fun (o : Obj) => (show Tb g (wc.drew.alloc o) T K7 from (Tb.keep (w := wc) hT (((Keep.refl g wc).drewN 1).alloc o))))
        have hzs := hd.keep.size
        have HTC : Hid (∀ W, Tb g W T K7 → W.cell? ⟨T, i, none⟩ = some (.int .i64 kz)) := fun W h => by rw [h.at (k := i) (by simpa [K7] using hlt), HKZ.out]
        have hTX : T ≠ X := fun e => by
          have h1 := hT.2
          rw [e, hd.x] at h1
          have := Option.some.inj h1
          simp only [Obj.cells.injEq] at this
          exact absurd this.2.1 (by decide)
        have hXT : X ≠ T := fun e => hTX e.symm
        go_upto_region 9 with fail
        have hXl := hd.lt.1
        have hTl : T < wc.heap.size := (Array.getElem?_eq_some_iff.1 hT.2).1
        go_region_law (first
            | ((refine step_append_own rfl (.tmp 28) (.tmp 35) 24 rfl w.heap.size 72 i0 (.agg #[.int .i64 0, .int .i64 0]) 2 16 Try.underlying24 hi0 hy0 hy1 hy2 rfl (by decide) (.slice a1 (B7 i).length c1) (B7 i).length (cellsL 2 csB (B7 i)) (by first | ((simp [Act.eval]); done) | fail) (HOW.out _) ⟨wc.heap.size, 0, none⟩ 1 1 [.int .i64 rm, .int .i64 kz] (by first | ((simp [Act.eval]); done) | fail) rfl (cell_listH _ _ _) (two_onesH _ _) (by unfold maxLen; omega) (by omega) (by simp; omega) ?_; intro v5 w5 ho5 hg5 hn5; obtain ⟨ad5, c5, rfl⟩ := own_sliceH ho5; have hG5 := (HDA.out (.cells #[.int .i64 rm, .int .i64 kz] 72)).grown (b := 0) (HOW.out _) (by decide) hg5; have hd5 := hidden ((HDA.out (.cells #[.int .i64 rm, .int .i64 kz] 72)).appB (b := ⟨rm, kz⟩) ho5 hg5); have hT5 := hidden (tb_grown (HTA.out (.cells #[.int .i64 rm, .int .i64 kz] 72)) (HOW.out _) (by decide) hg5); have t5 := HTC.out _ hT5.out; have hx5 := hG5.2.2.1; have y0 : w5.cell? ⟨X, 0, none⟩ = some (.slice a1 (B7 i).length c1) := (by simp [World.cell?, hx5]); have z0 : w5.frozen? ⟨X, 0, none⟩ = false := (by simp [World.frozen?, hx5]); have HX5 : Hid (IsT w5 X 27) := ⟨_, hx5⟩; clear ho5 hg5 hn5 hG5 hx5))
            | fail)
        all_goals go_wp2_with fail
        all_goals go_roundw
        all_goals first
          | exact ⟨i + 1, _, _, rfl, by omega, by rw [B7_succ, HBD.out]; exact hd5.out, tb_set hT5.out HX5.out _⟩
          | (simp [intOf]; omega)
    · have hlti : ¬ (i : Int) < 7 := by omega
      obtain rfl : i = 7 := by omega
      clear hlti hT
      go_wp2_with fail
      refine (below_any g ao cap bs 16 _ hd.cur (by omega)).mono ?_
      rintro e w1 ⟨n1, rfl, hn0, hn1, hc1, hk1⟩
      obtain ⟨n1, rfl⟩ := Int.eq_ofNat_of_zero_le hn0
      have hd1 := hd.call hc1 hk1
      clear hc1 hk1 hd
      go_wp2_with fail
      go_loopw [8, 9] (fun tv nv wr => ∃ (t : Int) (n : Nat) (vb vs : Value) (S : List St), tv = .int .i64 t ∧ nv = .int .i64 n ∧ 0 ≤ t ∧ t + 60 * n ≤ 960 ∧ DH w wr g ao cap bs w.heap.size X vb vs (B7 7) S ∧ Hid (Ok (B7 7) S ∧ F700 S)) (fun _ nv _ => (intOf nv).toNat)
      case atStart => exact ⟨0, n1, _, _, [], rfl, rfl, by omega, by omega, hd1, ⟨ok7, fun x hx => by cases hx⟩⟩
      case round =>
        clear hd1
        obtain ⟨t, n, vb, vs, S, rfl, rfl, ht0, ht1, hd, HOK⟩ := hrel
        by_cases hn : 0 < n
        · have hni : (0 : Int) < (n : Int) := by omega
          go_wp2_with fail
          refine (below_any g ao cap bs 60 _ hd.cur (by omega)).mono ?_
          rintro e w2 ⟨dt, rfl, hdt0, hdt1, hc2, hk2⟩
          have hd2 := hd.call hc2 hk2
          clear hc2 hk2 hd
          go_upto_region 15 with fail
          go_cut [10, 11] (fun xv ev wx => ∃ (Y : Nat) (ub us : Value) (S' : List St) (code : Int), xv = .pointer (some ⟨Y, 0, none⟩) ∧ ev = .int .i64 code ∧ wx.cell? ⟨Y, 0, none⟩ = some ub ∧ wx.cell? ⟨Y, 1, none⟩ = some us ∧ DH w wx g ao cap bs w.heap.size X vb vs (B7 7) S ∧ HNew wx w.heap.size ub us (B7 7) S' ∧ Hid (Ok (B7 7) S' ∧ F700 S'))
          case first =>
            obtain ⟨a1, c1, a2, c2, rfl, rfl⟩ := hd2.form
            obtain ⟨x0, x1, fx0, fx1⟩ := hd2.xc
            have hXl := hd2.lt.1
            have hRl := hd2.lt.2
            have HL2 := hidden hd2.lt
            have HZ2 := hidden hd2.old
            have hgw := hd2.cur.1
            have hb7 : (B7 7).length ≤ 200 := by rw [B7_len]; omega
            have hs7 := HOK.out.1.2.1
            have hst7 := HOK.out.1.2.2.2.1
            have HMO := hidden (fun m (hm : m.person ≠ 700) => And.intro (move_ok HOK.out.1 m) (f700_move (B := B7 7) HOK.out.2 hm))
            have hzw := hd2.keep.size
            have HDD := hidden hd2.drew
            have HDA := hidden (hd2.alloc (.cells #[.slice none 0 0, .slice none 0 0] 27)).drew
            clear hd2
            go_region_with (first
              | (go_at_call 36; refine (dmove_any g ao cap bs (t + dt) _ (by first | with_reducible exact HDD.out.cur | with_reducible exact HDA.out.cur)).mono ?_; rintro e w3 ⟨m, rfl, hc3, hk3, hmf⟩; have HMF := hidden hmf; clear hmf; have hd3 := DH.call (by first | with_reducible exact HDD.out | with_reducible exact HDA.out) hc3 hk3; (first | (have yA := hidden ((hk3.block w2.heap.size (by first | (simp; done) | fail) (by omega)).trans (heap_alloc_new w2 (.cells #[.slice none 0 0, .slice none 0 0] 27)))) | skip); obtain ⟨p0, p1, fp0, fp1⟩ := hd3.xc; have hX3 := hd3.lt.1; have HL3 := hidden hd3.lt; have hz3 := hd3.keep.size; have HD3 := hidden hd3; have HD3A := hidden (hd3.alloc (.cells #[.slice none 0 0, .slice none 0 0] 27)); clear hd3 hc3 hk3)
              | (go_at_call 40; refine (l3do_any _ _ _ _ _ _ (B7 7) S m _ (by first | with_reducible exact HD3.out.row | with_reducible exact HD3A.out.row) hb7 hs7 hst7).mono ?_; rintro e w4 ⟨b1, b2, b3, s1, s2, s3, rfl, hn4, hb4⟩; have hd4 := hidden (DH.below (by first | with_reducible exact HD3.out | with_reducible exact HD3A.out) hb4); have hn5 := hidden (hn4.base_le (show w.heap.size ≤ _ from by first | omega | (simp; omega))); (first | (have yB := (hb4.block w2.heap.size (Array.getElem?_eq_some_iff.1 yA.out).1).trans yA.out; obtain ⟨q0, q1, q2, q3⟩ := two_ofH yB; have HYB := hidden yB; clear yB) | (have yB := (hb4.block w3.heap.size (by first | (simp; done) | fail)).trans (heap_alloc_new w3 (.cells #[.slice none 0 0, .slice none 0 0] 27)); obtain ⟨q0, q1, q2, q3⟩ := two_ofH yB; have HYB := hidden yB; clear yB) | skip); have hz4 := hd4.out.keep.size; clear hn4 hb4))
            all_goals go_wp2_with fail
            all_goals go_meet
            all_goals first
              | (obtain ⟨k0, k1, k2, k3⟩ := box_new hd4.out hn5.out; exact ⟨_, _, _, _, _, rfl, rfl, k0, k1, k2, k3, HMO.out m HMF.out⟩)
              | (obtain ⟨k0, k1, k2, k3⟩ := box_old hd4.out hn5.out HYB.out (by have := HL2.out; have := HL3.out; omega) (by have := HL2.out; have := HL3.out; omega) (by have := HL2.out; have := HL3.out; omega); exact ⟨_, _, _, _, _, rfl, rfl, k0, k1, k2, k3, HMO.out m HMF.out⟩)
          case rest =>
            obtain ⟨Y, ub, us, S', code, rfl, rfl, y0, y1, hd3, hn3, HOK'⟩ := hcut
            clear hd2
            obtain ⟨x0, x1, fx0, fx1⟩ := hd3.xc
            have hlt2 := hd3.lt
            by_cases hcd : code = 0
            · subst hcd
              obtain ⟨b1, b2, s1, s2, rfl, rfl⟩ := hn3.form
              obtain ⟨p1, p2, p3, p4, rfl, rfl⟩ := hd3.form
              go_wp2_with fail
              go_roundw
              case rel => exact ⟨t + dt, n - 1, _, _, S', rfl, by congr 1; omega, by omega, by omega, hd3.set2 hn3, HOK'⟩
              case measure => simp [intOf]; omega
            · have qb : (code == 0) = false := by simpa using hcd
              go_wp2_with fail
              go_roundw
              case rel => exact ⟨t + dt, n - 1, _, _, S, rfl, by congr 1; omega, by omega, by omega, hd3, HOK⟩
              case measure => simp [intOf]; omega
        · have hni : ¬ (0 : Int) < (n : Int) := by omega
          have HS1 : S.length ≤ 1000 := HOK.out.1.2.1
          have HF1 := hidden HOK.out.2
          go_upto_if 60 with (go_at_call 50; refine (once_any g ao cap bs 60 _ hd.cur (by omega)).mono ?_; rintro e wS ⟨tS, rfl, hcS, hkS⟩)
          have hdS := hd.call hcS hkS
          clear hcS hkS hd HOK
          go_cut [] (fun wx => ∃ (us : Value) (S' : List St), DH w wx g ao cap bs w.heap.size X vb us (B7 7) S' ∧ S'.length ≤ 1000 ∧ Hid (F700 S'))
          case first =>
            rcases tS with _ | _
            · go_wp2_with fail
              go_meet
              case rel => exact ⟨_, _, hdS, HS1, HF1⟩
            · go_wp2_with fail
              go_loopw [] (fun wr => ∃ (us : Value) (S' : List St), DH w wr g ao cap bs w.heap.size X vb us (B7 7) S' ∧ S'.length ≤ 1000 ∧ Hid (F700 S')) (fun w' => match w'.cell? ⟨X, 1, none⟩ with | some (.slice _ k _) => 1000 - k | _ => 0)
              case atStart => exact ⟨_, _, hdS, HS1, HF1⟩
              case round =>
                clear hdS
                obtain ⟨us, S', hdl, hS', HF⟩ := hrel
                obtain ⟨b1, c1, s1, c2, rfl, rfl⟩ := hdl.form
                obtain ⟨x0, x1, fx0, fx1⟩ := hdl.xc
                by_cases hlt : (S'.length : Int) < 1000
                · have hll : S'.length ≤ 999 := by omega
                  have hzl := hdl.keep.size
                  go_wp2_with (at_builtin; refine wpList_append_own _ rfl (.tmp 66) (.tmp 70) 25 rfl w.heap.size 36 j0 (.agg #[.int .i64 0, .int .i64 0, .int .i64 0, .int .i64 0, .int .i64 0, .int .i64 0]) 6 48 Try.underlying25 hj0 hz0 hz1 hz2 rfl (by decide) _ S'.length (cellsL 6 csS S') rfl (hdl.alloc _).own.2 ⟨wr.heap.size, 0, none⟩ 1 1 [.int .i64 50, .int .i64 1, .int .i64 1, .int .i64 0, .int .i64 t, .int .i64 t] rfl rfl (cell_listH _ _ _) (six_onesH _ _ _ _ _ _) (by unfold maxLen; omega) (by omega) (by simp; omega) ?_; intro v5 w5 ho5 hg5 hn5; obtain ⟨ad5, c5, rfl⟩ := own_sliceH ho5; have hG5 := (hdl.alloc (.cells #[.int .i64 50, .int .i64 1, .int .i64 1, .int .i64 0, .int .i64 t, .int .i64 t] 36)).grown (b := 0) (hdl.alloc _).own.2 (by decide) hg5; have hd5 := hidden ((hdl.alloc (.cells #[.int .i64 50, .int .i64 1, .int .i64 1, .int .i64 0, .int .i64 t, .int .i64 t] 36)).appS (s := ⟨50, 1, 1, 0, t, t⟩) ho5 hg5); obtain ⟨y0, y1, y2, y3⟩ := two_ofH hG5.2.2.1; clear ho5 hg5 hn5 hG5)
                  go_roundw
                  case rel => exact ⟨_, _, hd5.out, by rw [List.length_append]; simp; omega, fun x hx => by rcases List.mem_append.1 hx with q | q; exact HF.out x q; rw [List.mem_singleton.1 q]; show (50 : Int) ≠ 700; decide⟩
                  case measure =>
                    have h5 := hd5.out.xc.2.1
                    rw [h5, x1]
                    simp only
                    omega
                · go_wp2_with fail
                  go_meet
                  case rel => exact ⟨_, _, hdl, hS', HF⟩
          case rest =>
            obtain ⟨us, S', hdf, hS', HF⟩ := hcut
            clear hdS
            obtain ⟨b1, c1, s1, c2, rfl, rfl⟩ := hdf.form
            obtain ⟨x0, x1, fx0, fx1⟩ := hdf.xc
            obtain ⟨r0, r1, fr0, fr1⟩ := hdf.rc
            obtain ⟨k0, k1, k2, k3, k4⟩ := hdf.told
            have hlt2 := hdf.lt
            have hnXR := hdf.ne
            go_wp2_with fail
            exact bodyPost_ret (v := .tuple #[.agg #[.slice b1 (B7 7).length c1, .slice s1 S'.length c2], .int .i64 t]) (by simp [results, Try.results74, go_sem, k0, k1]) rfl ⟨_, _, S', t, rfl, k2, hS', HF.out, ht0, by omega, k3, k4⟩
end Go.Proofs.Ytklgadaefngnnaa
