/-
  Free beds, the specification's.
-/
import Derived.Test.YtklgadaefngnnaaHl
namespace Go.Proofs.Ytklgadaefngnnaa
open Go.RowKit Hm
set_option linter.unusedVariables false

set_option maxRecDepth 20000 in
set_option maxHeartbeats 8000000 in
theorem l3free_any (ao ao2 : Option Addr) (n cap m cap2 : Nat) (B : List Bd) (S : List St) (sex need : Int) (w : World) (h : HRw w (.slice ao n cap) (.slice ao2 m cap2) B S) (hn : B.length ≤ 1048576) (hm : S.length ≤ 1048576) (hf : fits B.length S) :
    Calls Try.prog 54 #[.agg #[.slice ao n cap, .slice ao2 m cap2], .int .i64 sex, .int .i64 need] w fun e w' => ∃ v', e = .returned v' ∧ Own 1 csI w' w.heap.size v' (freeL B S sex need) ∧ Below w.heap.size w w' := by
  have HB := hidden h.1
  have HS := hidden h.2
  obtain rfl := h.1.len
  obtain rfl := h.2.len
  have HFI := hidden hf
  clear h hf
  obtain ⟨i0, hi0, hy0, hy1, hy2⟩ := info_parts infoInt
  have ho1 := ownsRow_empty1 (w.alloc (.cells #[.slice ao B.length cap, .slice ao2 S.length cap2] 27))
  simp only [World.size_alloc] at ho1
  go_enter Try.func54, Try.ntmps54
  go_wp2_with fail
  go_loopw [7, 8] (fun fv iv wr => ∃ (i : Nat) (fl : List Int), i ≤ B.length ∧ iv = .int .i64 i ∧ fl.length ≤ i ∧ (∃ ad c0, fv = .slice ad fl.length c0 ∧ wr.ownsRow (w.heap.size + 1) 2 1 (.slice ad fl.length c0) fl.length (cellsL 1 csI fl)) ∧ Below w.heap.size w wr ∧ w.heap.size + 1 < wr.heap.size ∧ wr.cell? ⟨w.heap.size, 0, none⟩ = some (.slice ao B.length cap) ∧ wr.cell? ⟨w.heap.size, 1, none⟩ = some (.slice ao2 S.length cap2) ∧ Hid (fl = freeTo B S sex need i)) (fun _ iv _ => B.length - (intOf iv).toNat)
  case atStart => exact ⟨0, [], Nat.zero_le _, rfl, Nat.le_refl _, ⟨_, _, rfl, ho1⟩, ((Below.refl _ _).alloc (Nat.le_refl _) _).alloc (by simp) _, by simp, by simp [go_sem], by simp [go_sem], rfl⟩
  case round =>
    clear ho1
    obtain ⟨i, fl, hi, rfl, hfl, ⟨ad, c0, rfl, ho⟩, hb, hz, d0, d1, HF⟩ := hrel
    have hsz := hb.size
    by_cases hlt : i < B.length
    · have hlti : (i : Int) < (B.length : Int) := by omega
      obtain ⟨b, hbk⟩ := some_at B i hlt
      obtain ⟨g2, off2, rfl, hg2, e0, e1⟩ := bed_cells (HB.out.below hb) hbk
      have HR := hidden (roomAt_nat hbk)
      have HK := hidden (kindAt_nat hbk)
      have hD := sdoes_any b.kind need
      have HT := hidden (freeTo_succ B S sex need i)
      clear hbk
      go_wp2_with (go_at_call 45; refine (hD _).mono ?_; rintro e w3 ⟨rfl, rfl⟩)
      clear hD
      obtain ⟨wB, rfl⟩ : ∃ z, z = wr := ⟨_, rfl⟩
      go_loopw [9, 10] (fun fv jv wr => ∃ j : Nat, j ≤ S.length ∧ jv = .int .i64 j ∧ fv = .bool (does b.kind need && !(S.take j).any (taken B i sex)) ∧ Below wB.heap.size wB wr) (fun _ jv _ => S.length - (intOf jv).toNat)
      case atStart => exact ⟨0, Nat.zero_le _, rfl, by simp, Below.refl _ _⟩
      case round =>
        obtain ⟨j, hj, rfl, rfl, hb2⟩ := hrel
        have hs2 := hb2.size
        have bw : Below w.heap.size w wr := hb.trans (hb2.mono hsz)
        have s0 : w.heap.size < wr.heap.size := by omega
        have p0 : wr.cell? ⟨w.heap.size, 0, none⟩ = some (.slice (some ⟨g2, off2, none⟩) B.length cap) := (hb2.cell (p := ⟨w.heap.size, 0, none⟩) (by show w.heap.size < wB.heap.size; omega)).trans d0
        have p1 : wr.cell? ⟨w.heap.size, 1, none⟩ = some (.slice ao2 S.length cap2) := (hb2.cell (p := ⟨w.heap.size, 1, none⟩) (by show w.heap.size < wB.heap.size; omega)).trans d1
        have p2 : wr.cell? ⟨g2, off2 + i * 2, none⟩ = some (.int .i64 b.room) := (hb2.cell (p := ⟨g2, off2 + i * 2, none⟩) hg2).trans e0
        have hg2r : g2 < wr.heap.size := by omega
        by_cases hjlt : j < S.length
        · have hjlti : (j : Int) < (S.length : Int) := by omega
          obtain ⟨y, hy⟩ := some_at S j hjlt
          obtain ⟨g, off, rfl, hg, c0', c1, c2, c3, c4, c5⟩ := stay_cells (HS.out.below bw) hy
          have HY := hidden (List.mem_of_getElem? hy)
          have HTS := hidden (take_snoc hy)
          have HSN : Hid ((does b.kind need && !(S.take (j + 1)).any (taken B i sex)) = (does b.kind need && !(S.take j).any (taken B i sex) && !taken B i sex y)) := by
            rw [Hid, HTS.out, List.any_append, List.any_cons, List.any_nil, Bool.or_false, Bool.not_or, Bool.and_assoc]
          generalize (does b.kind need && !(S.take j).any (taken B i sex)) = fin at *
          clear hy HTS
          by_cases q0 : y.til = -1
          · have HH : Hid (here y = true) := by unfold here Hid; simpa using q0
            have hfy := fitS_of HFI.out HY.out HH.out
            obtain ⟨ky, by', hky, hby⟩ := bed_nat hfy.1
            obtain ⟨g', off', hgo, -, m0, -⟩ := bed_cells (HB.out.below bw) hby
            obtain ⟨rfl, rfl⟩ : g2 = g' ∧ off2 = off' := by simpa using hgo
            have hkylt : (ky : Int) < (B.length : Int) := by have := get_lt hby; omega
            have HQ : Hid (taken B i sex y = (decide ((ky : Int) = (i : Int)) || (decide (by'.room = b.room) && !decide (y.sex = sex)))) := by unfold taken; rw [Hid, HH.out, HR.out, hky, roomAt_nat hby]; rfl
            rw [hky] at c3
            rw [q0] at c5
            clear q0 hky hby hgo hfy
            by_cases q1 : (ky : Int) = (i : Int)
            · have HN : Hid ((does b.kind need && !(S.take (j + 1)).any (taken B i sex)) = false) := by rw [Hid, HSN.out, HQ.out, decide_eq_true q1]; simp
              have n1 : ky = i := by omega
              subst n1
              clear q1
              go_wp2_with fail
              go_quiet (fail)
              go_wp2_with fail
              go_roundw
              case rel => exact ⟨j + 1, by omega, rfl, val_bool HN.out.symm, by repeat (first | exact Below.refl _ _ | assumption | refine st_drew ?_ | refine st_drewN ?_ _ | refine Below.setCell ?_ (by first | omega | (simp; done) | (simp; omega)) _ | refine Below.alloc ?_ (by first | omega | (simp; done) | (simp; omega)) _)⟩
              case measure => simp [intOf]; omega
            have n1 : ((ky : Int) == (i : Int)) = false := by simpa using q1
            have n1' : ¬ ky = i := by omega
            have n1'' : (ky == i) = false := by simpa using n1'
            by_cases q3 : by'.room = b.room
            · have n3 : (by'.room == b.room) = true := by simpa using q3
              by_cases q4 : y.sex = sex
              · have HN : Hid ((does b.kind need && !(S.take (j + 1)).any (taken B i sex)) = fin) := by rw [Hid, HSN.out, HQ.out, decide_eq_false q1, decide_eq_true q4]; simp
                have n4 : (y.sex == sex) = true := by simpa using q4
                clear q1 q3 q4
                go_wp2_with fail
                go_quiet (fail)
                go_wp2_with fail
                go_roundw
                case rel => exact ⟨j + 1, by omega, rfl, val_bool HN.out.symm, by repeat (first | exact Below.refl _ _ | assumption | refine st_drew ?_ | refine st_drewN ?_ _ | refine Below.setCell ?_ (by first | omega | (simp; done) | (simp; omega)) _ | refine Below.alloc ?_ (by first | omega | (simp; done) | (simp; omega)) _)⟩
                case measure => simp [intOf]; omega
              · have HN : Hid ((does b.kind need && !(S.take (j + 1)).any (taken B i sex)) = false) := by rw [Hid, HSN.out, HQ.out, decide_eq_true q3, decide_eq_false q4]; simp
                have n4 : (y.sex == sex) = false := by simpa using q4
                clear q1 q3 q4
                go_wp2_with fail
                go_quiet (fail)
                go_wp2_with fail
                go_roundw
                case rel => exact ⟨j + 1, by omega, rfl, val_bool HN.out.symm, by repeat (first | exact Below.refl _ _ | assumption | refine st_drew ?_ | refine st_drewN ?_ _ | refine Below.setCell ?_ (by first | omega | (simp; done) | (simp; omega)) _ | refine Below.alloc ?_ (by first | omega | (simp; done) | (simp; omega)) _)⟩
                case measure => simp [intOf]; omega
            · have HN : Hid ((does b.kind need && !(S.take (j + 1)).any (taken B i sex)) = fin) := by rw [Hid, HSN.out, HQ.out, decide_eq_false q1, decide_eq_false q3]; simp
              have n3 : (by'.room == b.room) = false := by simpa using q3
              clear q1 q3
              go_wp2_with fail
              go_quiet (fail)
              go_wp2_with fail
              go_roundw
              case rel => exact ⟨j + 1, by omega, rfl, val_bool HN.out.symm, by repeat (first | exact Below.refl _ _ | assumption | refine st_drew ?_ | refine st_drewN ?_ _ | refine Below.setCell ?_ (by first | omega | (simp; done) | (simp; omega)) _ | refine Below.alloc ?_ (by first | omega | (simp; done) | (simp; omega)) _)⟩
              case measure => simp [intOf]; omega
          · have HN : Hid ((does b.kind need && !(S.take (j + 1)).any (taken B i sex)) = fin) := by
              have : taken B i sex y = false := by unfold taken here; rw [decide_eq_false q0]; rfl
              rw [Hid, HSN.out, this]; simp
            have n0 : (y.til == -1) = false := by simpa using q0
            clear q0
            go_wp2_with fail
            go_quiet (fail)
            go_wp2_with fail
            go_roundw
            case rel => exact ⟨j + 1, by omega, rfl, val_bool HN.out.symm, by repeat (first | exact Below.refl _ _ | assumption | refine st_drew ?_ | refine st_drewN ?_ _ | refine Below.setCell ?_ (by first | omega | (simp; done) | (simp; omega)) _ | refine Below.alloc ?_ (by first | omega | (simp; done) | (simp; omega)) _)⟩
            case measure => simp [intOf]; omega
        · have hjlti : ¬ (j : Int) < (S.length : Int) := by omega
          have hjl : j = S.length := by omega
          subst hjl
          have ho2 := own_below ho hb2
          have HFR : Hid (isFr B S sex need i = (does b.kind need && !(S.take S.length).any (taken B i sex))) := by unfold isFr; rw [Hid, HK.out, List.take_length]
          cases hq : (does b.kind need && !(S.take S.length).any (taken B i sex)) with
          | true =>
            have HF2 : Hid (fl ++ [(i : Int)] = freeTo B S sex need (i + 1)) := by rw [Hid, HT.out, HFR.out, hq, HF.out]; rfl
            clear HT HF HFR hq
            go_wp2_with (at_builtin; refine wpList_append_own _ rfl (.tmp 72) (.tmp 74) 40 rfl (w.heap.size + 1) 2 i0 (.int .i64 0) 1 8 Try.underlying40 hi0 hy0 hy1 hy2 rfl (by decide) _ fl.length (cellsL 1 csI fl) rfl (ho2.alloc _) ⟨wr.heap.size, 0, none⟩ 1 1 [.int .i64 i] rfl rfl (cell_one_new' _ _ _) (by simp [Value.oneCell']) (by unfold maxLen; omega) (by omega) (by simp; omega) ?_; intro v4 w4 ho4 hg4 hnn4; obtain ⟨ad4, c4, rfl⟩ := own_slice ho4)
            have b4 := (bw.alloc (by omega) _).grown hg4 (by simp; omega) (fun k hk => by have := own_lt ho2 k hk; omega)
            have z4 := hg4.size
            simp at z4
            have k0 : w4.cell? ⟨w.heap.size, 0, none⟩ = some (.slice (some ⟨g2, off2, none⟩) B.length cap) := by
              rw [World.cell?_of_block (hg4.block w.heap.size (by simp; omega) (fun e => by have := own_lt ho2 _ e.symm; omega)), old_cell (by omega)]; exact p0
            have k1 : w4.cell? ⟨w.heap.size, 1, none⟩ = some (.slice ao2 S.length cap2) := by
              rw [World.cell?_of_block (hg4.block w.heap.size (by simp; omega) (fun e => by have := own_lt ho2 _ e.symm; omega)), old_cell (by omega)]; exact p1
            go_roundw
            case rel => exact ⟨i + 1, fl ++ [(i : Int)], by omega, rfl, by simp; omega, ⟨ad4, c4, by rw [List.length_append]; rfl, by rw [cells_int, List.length_append]; exact ho4⟩, b4, by omega, k0, k1, HF2⟩
            case measure => simp [intOf]; omega
          | false =>
            have HF2 : Hid (fl = freeTo B S sex need (i + 1)) := by rw [Hid, HT.out, HFR.out, hq, HF.out]; rfl
            clear HT HF HFR hq
            go_wp2_with fail
            go_roundw
            case rel => exact ⟨i + 1, fl, by omega, rfl, by omega, ⟨_, _, rfl, ho2⟩, bw, by omega, p0, p1, HF2⟩
            case measure => simp [intOf]; omega
    · have hlti : ¬ (i : Int) < (B.length : Int) := by omega
      have hil : i = B.length := by omega
      subst hil
      have HO : Hid (Own 1 csI wr w.heap.size (.slice ad fl.length c0) (freeL B S sex need)) := by
        rw [Hid]; unfold freeL; rw [← HF.out]
        exact (own_of rfl ho).base_le (by omega)
      clear HF ho
      go_wp2_with fail
      go_ret
      exact ⟨_, rfl, HO.out, hb⟩

set_option maxRecDepth 20000 in
set_option maxHeartbeats 2000000 in
theorem sfree_any (ao ao2 : Option Addr) (n cap m cap2 : Nat) (B : List Bd) (S : List St) (sex need : Int) (w : World) (h : HRw w (.slice ao n cap) (.slice ao2 m cap2) B S)
    (hOK0 : ∀ W, HRw W (.slice ao n cap) (.slice ao2 m cap2) B S → Calls Try.prog 13 #[.agg #[.slice ao n cap, .slice ao2 m cap2]] W fun e w' => e = .returned (.bool (okB B S)) ∧ Below W.heap.size W w') :
    Calls Try.prog 17 #[.agg #[.slice ao n cap, .slice ao2 m cap2], .int .i64 sex, .int .i64 need] w fun e w' => ∃ v', e = .returned v' ∧ Own 1 csI w' w.heap.size v' (bedsFree B S sex need) ∧ Below w.heap.size w w' := by
  have HH := hidden h
  have hOK := hidden (fun W (hW : Below w.heap.size w W) => hOK0 W (HH.out.below hW))
  have hS := lin_any sex 1 2
  rw [show (decide (1 ≤ sex) && decide (sex ≤ 2)) = sx sex from rfl] at hS
  have hN := skind_any need
  have hb0 : Below w.heap.size w (w.alloc (.cells #[.slice ao n cap, .slice ao2 m cap2] 27)) := (Below.refl _ _).alloc (Nat.le_refl _) _
  clear hOK0
  cases hk : okB B S && sx sex && kd need with
  | false =>
    have HR : Hid (bedsFree B S sex need = []) := by unfold bedsFree; rw [Hid, hk]; rfl
    generalize okB B S = t1 at *
    generalize sx sex = t2 at *
    generalize kd need = t3 at *
    go_enter Try.func17, Try.ntmps17
    go_wp2_with (first | (go_at_call 13; refine (hOK.out _ hb0).mono ?_; rintro e w1 ⟨rfl, hb1⟩; have b1 := onto hb0 hb1; have zb1 := b1.size; have c0 : w1.cell? ⟨w.heap.size, 0, none⟩ = some (.slice ao n cap) := ((bcell hb1).1 _ _ (by first | omega | (simp; done) | (simp; omega))).trans (by simp [go_sem]); have c1 : w1.cell? ⟨w.heap.size, 1, none⟩ = some (.slice ao2 m cap2) := ((bcell hb1).1 _ _ (by first | omega | (simp; done) | (simp; omega))).trans (by simp [go_sem])) | (go_at_call 41; refine (hS _).mono ?_; rintro e w2 ⟨rfl, rfl⟩) | (go_at_call 42; refine (hN _).mono ?_; rintro e w2 ⟨rfl, rfl⟩))
    all_goals first
      | (exfalso; simp_all; done)
      | (go_ret; exact ⟨_, rfl, by rw [HR.out]; exact Own.nil _ _ _ _, by repeat (first | exact Below.refl _ _ | assumption | refine st_drew ?_ | refine st_drewN ?_ _ | refine Below.setCell ?_ (by first | omega | (simp; done) | (simp; omega)) _ | refine Below.alloc ?_ (by first | omega | (simp; done) | (simp; omega)) _)⟩)
  | true =>
    have HR : Hid (bedsFree B S sex need = freeL B S sex need) := by unfold bedsFree; rw [Hid, hk]; rfl
    simp only [Bool.and_eq_true] at hk
    obtain ⟨⟨k1, k2⟩, k3⟩ := hk
    have hok := ok_of k1
    have hl1 := hok.1
    have hl2 := hok.2.1
    have HFI := hidden (fits_of hok.2.2.2.1)
    rw [k1] at hOK
    rw [k2] at hS
    rw [k3] at hN
    have hF := hidden (fun W (hW : Below w.heap.size w W) => l3free_any ao ao2 n cap m cap2 B S sex need W (HH.out.below hW) (by omega) (by omega) HFI.out)
    clear hok k1 k2 k3
    go_enter Try.func17, Try.ntmps17
    go_wp2_with (first | (go_at_call 13; refine (hOK.out _ hb0).mono ?_; rintro e w1 ⟨rfl, hb1⟩; have b1 := onto hb0 hb1; have zb1 := b1.size; have c0 : w1.cell? ⟨w.heap.size, 0, none⟩ = some (.slice ao n cap) := ((bcell hb1).1 _ _ (by first | omega | (simp; done) | (simp; omega))).trans (by simp [go_sem]); have c1 : w1.cell? ⟨w.heap.size, 1, none⟩ = some (.slice ao2 m cap2) := ((bcell hb1).1 _ _ (by first | omega | (simp; done) | (simp; omega))).trans (by simp [go_sem])) | (go_at_call 41; refine (hS _).mono ?_; rintro e w2 ⟨rfl, rfl⟩) | (go_at_call 42; refine (hN _).mono ?_; rintro e w2 ⟨rfl, rfl⟩) | (go_at_call 54; refine (hF.out _ b1).mono ?_; rintro e w2 ⟨v2, rfl, ho2, hb2⟩; have b2 := onto b1 hb2; have HO2 := hidden ho2; clear ho2))
    go_ret
    exact ⟨_, rfl, by rw [HR.out]; exact HO2.out.base_le b1.size, b2⟩

end Go.Proofs.Ytklgadaefngnnaa
