/-
  The specification: Derive and Why.
-/
import Derived.Test.YtfhecdedanlmfaaR10
namespace Go.Proofs.Ytfhecdedanlmfaa
open Go.RowKit Va Rc
set_option linter.all false

set_option maxRecDepth 20000 in
set_option maxHeartbeats 4000000 in
theorem sderive_any (ao : Option Addr) (n cap : Nat) (bo : Option Addr) (m cap' : Nat) (fs : List Int) (ls : List Lw) (w : World) (h : IRw w (.slice ao n cap) fs) (h' : LRw w (.slice bo m cap') ls) (hn : fs.length ≤ 1048576) (hm : ls.length ≤ 1048576) (ht : ∀ x ∈ ls, x.ifs.length ≤ 1048576 ∧ x.nots.length ≤ 1048576) :
    Calls Try.prog 9 #[.slice ao n cap, .slice bo m cap'] w fun e w' => ∃ ad c, e = .returned (.slice ad (derive fs ls).length c) ∧ w'.ownsRow w.heap.size 2 1 (.slice ad (derive fs ls).length c) (derive fs ls).length (intsV (derive fs ls)) ∧ Below w.heap.size w w' := by
  have k1 := fun W hW hW' => swhyl_any ao n cap bo m cap' fs ls W hW hW' hn hm ht
  have HF := hidden (fun W (hW : Below w.heap.size w W) => h.below hW)
  have HL := hidden (fun W (hW : Below w.heap.size w W) => h'.below hW)
  obtain ⟨i0, hi0, hz0, hz1, hz2⟩ := info_partsW infoW64
  have O0 := hidden (ownW_new w 2 1)
  clear h h' ht hn hm
  cases hok : okB fs ls with
  | false =>
    rw [hok] at k1
    have HD : Hid (derive fs ls = []) := by show derive fs ls = []; unfold derive; rw [hok]; rfl
    clear hok
    go_enter Try.func9, Try.ntmps9
    go_wp2_with (go_at_call 20; refine (k1 _ (HF.out _ (by repeat (first | exact Below.refl _ _ | assumption | refine st_drew ?_ | refine st_drewN ?_ _ | refine Below.setCell ?_ (by first | omega | (simp; done) | (simp; omega)) _ | refine Below.alloc ?_ (by first | omega | (simp; done) | (simp; omega)) _))) (HL.out _ (by repeat (first | exact Below.refl _ _ | assumption | refine st_drew ?_ | refine st_drewN ?_ _ | refine Below.setCell ?_ (by first | omega | (simp; done) | (simp; omega)) _ | refine Below.alloc ?_ (by first | omega | (simp; done) | (simp; omega)) _)))).mono ?_; rintro e w1 ⟨aw, cw, rfl, how, hb1⟩; have O1 := hidden (ownW_below O0.out hb1); have b1 := onto (show Below w.heap.size w _ from by repeat (first | exact Below.refl _ _ | assumption | refine st_drew ?_ | refine st_drewN ?_ _ | refine Below.setCell ?_ (by first | omega | (simp; done) | (simp; omega)) _ | refine Below.alloc ?_ (by first | omega | (simp; done) | (simp; omega)) _)) hb1; clear how hb1)
    go_loopw [5, 8] (fun sv iv wr => sv = .slice (some ⟨w.heap.size, 0, none⟩) 0 0 ∧ iv = .int .i64 0 ∧ wr = w1) (fun _ _ _ => 0)
    case atStart => exact ⟨rfl, rfl, rfl⟩
    case round =>
      obtain ⟨rfl, rfl, e1⟩ := hrel
      obtain rfl := e1
      go_wp2_with fail
      go_ret
      exact ⟨_, _, by rw [HD.out]; rfl, by rw [HD.out]; exact O1.out, b1⟩
  | true =>
    rw [hok] at k1
    have HD : Hid (derive fs ls = told fs ls 64) := by show derive fs ls = _; unfold derive; rw [hok]; rfl
    have HW : Hid (whyL fs ls = whyTo fs ls 64) := by show whyL fs ls = _; unfold whyL; rw [hok]; rfl
    have HWl := hidden (why_len fs ls 64)
    have HWg := hidden (fun k (hk : k < 64) => why_get fs ls 64 k hk)
    have HHo : Hid (∀ k z, (whyTo fs ls 64)[k]? = some z → holdsB fs ls k = decide (¬ z = -2)) := fun k z hk => by
      unfold holdsB wy
      rw [List.getD_eq_getElem?_getD, Int.toNat_natCast, hk]
      rfl
    have HTS := hidden (fun k => told_succ fs ls k)
    rw [HW.out] at k1
    rw [HWl.out] at k1
    clear hok
    generalize hWW : whyTo fs ls 64 = W at *
    clear hWW
    go_enter Try.func9, Try.ntmps9
    go_wp2_with (go_at_call 20; refine (k1 _ (HF.out _ (by repeat (first | exact Below.refl _ _ | assumption | refine st_drew ?_ | refine st_drewN ?_ _ | refine Below.setCell ?_ (by first | omega | (simp; done) | (simp; omega)) _ | refine Below.alloc ?_ (by first | omega | (simp; done) | (simp; omega)) _))) (HL.out _ (by repeat (first | exact Below.refl _ _ | assumption | refine st_drew ?_ | refine st_drewN ?_ _ | refine Below.setCell ?_ (by first | omega | (simp; done) | (simp; omega)) _ | refine Below.alloc ?_ (by first | omega | (simp; done) | (simp; omega)) _)))).mono ?_; rintro e w1 ⟨aw, cw, rfl, how, hb1⟩; have O1 := hidden (ownW_below O0.out hb1); have OW := hidden how; have b1 := onto (show Below w.heap.size w _ from by repeat (first | exact Below.refl _ _ | assumption | refine st_drew ?_ | refine st_drewN ?_ _ | refine Below.setCell ?_ (by first | omega | (simp; done) | (simp; omega)) _ | refine Below.alloc ?_ (by first | omega | (simp; done) | (simp; omega)) _)) hb1; have Z0 := hidden (ownW_lt O0.out); have ZW := hidden (ownW_lt how); clear how hb1)
    have AP : Hid (∀ k, (Value.slice aw 64 cw).ownBlock = some k → w.heap.size + 1 ≤ k) := fun k hk => by have := (ZW.out k hk).1; simpa using this
    go_loopw [5, 8] (fun sv iv wr => ∃ i : Nat, i ≤ 64 ∧ iv = .int .i64 i ∧ (∃ (T : List Int) (ad : Option Addr) (c : Nat), sv = .slice ad T.length c ∧ Hid (wr.ownsRow w.heap.size 2 1 (.slice ad T.length c) T.length (intsV T)) ∧ Hid (∀ k, (Value.slice ad T.length c).ownBlock = some k → (Value.slice aw 64 cw).ownBlock ≠ some k) ∧ Hid (T = told fs ls i) ∧ T.length ≤ i) ∧ Hid (wr.ownsRow (w.heap.size + 1) 2 1 (.slice aw 64 cw) 64 (intsV W)) ∧ Below w.heap.size w wr) (fun _ iv _ => 64 - (intOf iv).toNat)
    case atStart => exact ⟨0, Nat.zero_le _, rfl, ⟨[], _, _, rfl, O1, fun k hk hk2 => by have := AP.out k hk2; simp [Value.ownBlock] at hk; omega, rfl, Nat.le_refl _⟩, by have := OW.out; show w1.ownsRow _ _ _ _ _ _; simpa using this, b1⟩
    case round =>
      clear O1 b1 O0 OW Z0 ZW
      obtain ⟨i, hi, rfl, ⟨T, ad, c, rfl, HO, HAp, HT, hTl⟩, HOW, hb⟩ := hrel
      have hsz := hb.size
      by_cases hlt : i < 64
      · have hlti : (i : Int) < 64 := by omega
        obtain ⟨z, hz⟩ := some_of W i (by rw [HWl.out]; exact hlt)
        have HR : Hid (IRw wr (.slice aw W.length cw) W) := by
          refine ownI_irw (base := w.heap.size + 1) ?_
          rw [HWl.out]; exact HOW.out
        obtain ⟨g, off, hge, hg, hc⟩ := HR.out.at hz
        have c0 := hc i z hz
        subst hge
        have HH2 := hidden (HHo.out i z hz)
        clear hz hc HR
        by_cases hz2 : z = -2
        · subst hz2
          have HZ : Hid (T = told fs ls (i + 1)) := by show T = _; rw [HTS.out, HH2.out, HT.out]; rfl
          go_wp2_with fail
          go_roundw
          case rel => exact ⟨i + 1, by omega, rfl, ⟨T, ad, c, rfl, HO, HAp, HZ, by omega⟩, HOW, hb⟩
          case measure => simp [intOf]; omega
        · have HZ : Hid (T ++ [(i : Int)] = told fs ls (i + 1)) := by show T ++ _ = _; rw [HTS.out, HH2.out, HT.out, decide_eq_true hz2]; rfl
          have hz3 : (z != -2) = true := by simpa using hz2
          clear hz2
          go_wp2_with (at_builtin; refine wpList_append_own_at _ rfl (.tmp 28) (.tmp 30) 24 rfl w.heap.size 2 i0 (.int .i64 0) 1 8 Try.underlying24 hi0 hz0 hz1 hz2 rfl (by decide) _ T.length (intsV T) rfl (HO.out.alloc _) ⟨wr.heap.size, 0, none⟩ 1 1 [.int .i64 (i : Int)] rfl rfl (cell_oneQ (by simp) _ _) (oneI _) (by unfold maxLen; omega) (by omega) (by simp; omega) ?_; intro v4 w4 ho4 hg4 hnn4 hwh4; have hO4 := hidden ho4; obtain ⟨ad4, c4, rfl⟩ := ownW_slice ho4)
          have hwA : (Value.slice ad4 (T.length + 1) c4).ownBlock = (Value.slice ad T.length c).ownBlock ∨ (Value.slice ad4 (T.length + 1) c4).ownBlock = some (wr.alloc (.cells #[.int .i64 (i : Int)] 2)).heap.size := hwh4
          have hgA : (wr.alloc (.cells #[.int .i64 (i : Int)] 2)).grownBy w4 (Value.slice ad T.length c).ownBlock := hg4
          clear hwh4 hg4 hnn4
          have b4 := grownQ (show Below w.heap.size w (wr.alloc (.cells #[.int .i64 (i : Int)] 2)) from by repeat (first | exact Below.refl _ _ | assumption | refine st_drew ?_ | refine st_drewN ?_ _ | refine Below.setCell ?_ (by first | omega | (simp; done) | (simp; omega)) _ | refine Below.alloc ?_ (by first | omega | (simp; done) | (simp; omega)) _)) (by simp; omega) hgA (fun k hk => (ownW_lt HO.out k hk).1)
          have OW4 := hidden (ownQ_grown (HOW.out.alloc (.cells #[.int .i64 (i : Int)] 2)) hgA (fun k hk hk2 => HAp.out k hk2 hk))
          have AP4 : Hid (∀ k, (Value.slice ad4 (T.length + 1) c4).ownBlock = some k → (Value.slice (some ⟨g, off, none⟩) 64 cw).ownBlock ≠ some k) := fun k hk hk2 => by
            rcases hwA with q | q
            · exact HAp.out k (q ▸ hk) hk2
            · have h1 := (ownW_lt HOW.out k hk2).2
              rw [q] at hk
              have h3 := Option.some.inj hk
              simp at h3
              omega
          go_roundw
          case rel => exact ⟨i + 1, by omega, rfl, ⟨T ++ [(i : Int)], ad4, c4, by rw [List.length_append]; rfl, by show w4.ownsRow _ _ _ _ _ _; rw [intsV_app, List.length_append]; exact hO4.out, by rw [List.length_append]; exact AP4, HZ, by rw [List.length_append]; simp; omega⟩, OW4, b4⟩
          case measure => simp [intOf]; omega
      · have hlti : ¬ (i : Int) < 64 := by omega
        have hil : i = 64 := by omega
        subst hil
        have HZ : Hid (derive fs ls = T) := by show derive fs ls = T; rw [HD.out, HT.out]
        go_wp2_with fail
        go_ret
        exact ⟨ad, c, by rw [HZ.out]; rfl, by rw [HZ.out]; exact HO.out, hb⟩
end Go.Proofs.Ytfhecdedanlmfaa
