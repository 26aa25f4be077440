/-
  The specification: why what holds.
-/
import Derived.Test.YtfhecdedanlmfaaR9
namespace Go.Proofs.Ytfhecdedanlmfaa
open Go.RowKit Va Rc
set_option linter.all false

/-- The reasons, if facts and laws are right. -/
def whyL (fs : List Int) (ls : List Lw) : List Int := if okB fs ls then whyTo fs ls 64 else []
theorem byF_none {fs : List Int} {ls : List Lw} {W : List Int} {f : Int} (h : hasB fs f = false) (hn : ls.any (fineB W f) = false) : byF fs ls W f = -2 := by
  unfold byF; rw [h, firstB_none hn]; rfl
theorem byF_some {fs : List Int} {ls : List Lw} {W : List Int} {f : Int} {i : Nat} {x : Lw} (h : hasB fs f = false) (hn : (ls.take i).any (fineB W f) = false) (hx : ls[i]? = some x) (hp : fineB W f x = true) : byF fs ls W f = (i : Int) := by
  unfold byF; rw [h, firstB_here hn hx hp]; simp
theorem byF_has {fs : List Int} {ls : List Lw} {W : List Int} {f : Int} (h : hasB fs f = true) : byF fs ls W f = -1 := by
  unfold byF; rw [h]; rfl

set_option maxRecDepth 20000 in
set_option maxHeartbeats 16000000 in
theorem swhyl_any (ao : Option Addr) (n cap : Nat) (bo : Option Addr) (m cap' : Nat) (fs : List Int) (ls : List Lw) (w : World) (h : IRw w (.slice ao n cap) fs) (h' : LRw w (.slice bo m cap') ls) (hn : fs.length ≤ 1048576) (hm : ls.length ≤ 1048576) (ht : ∀ x ∈ ls, x.ifs.length ≤ 1048576 ∧ x.nots.length ≤ 1048576) :
    Calls Try.prog 20 #[.slice ao n cap, .slice bo m cap'] w fun e w' => ∃ ad c, e = .returned (.tuple #[.slice ad (whyL fs ls).length c, .bool (okB fs ls)]) ∧ w'.ownsRow w.heap.size 2 1 (.slice ad (whyL fs ls).length c) (whyL fs ls).length (intsV (whyL fs ls)) ∧ Below w.heap.size w w' := by
  obtain rfl := h.len
  obtain rfl := h'.len
  have HF := hidden (fun W (hW : Below w.heap.size w W) => h.below hW)
  have HL := hidden (fun W (hW : Below w.heap.size w W) => h'.below hW)
  have HT0 := hidden ht
  obtain ⟨i0, hi0, hz0, hz1, hz2⟩ := info_partsW infoW64
  have O0 := hidden (ownW_new w 2 1)
  have b0 : Below w.heap.size w (w.alloc (.cells #[] 2)) := by repeat (first | exact Below.refl _ _ | assumption | refine st_drew ?_ | refine st_drewN ?_ _ | refine Below.setCell ?_ (by first | omega | (simp; done) | (simp; omega)) _ | refine Below.alloc ?_ (by first | omega | (simp; done) | (simp; omega)) _)
  have kF : ∀ y W, Calls Try.prog 30 #[.int .i64 y, .int .i64 0, .int .i64 63] W fun e w' => e = .returned (.bool (factB y)) ∧ W = w' := fun y W => by
    have := lin_any y 0 63 W
    have e0 : rng y 0 63 = factB y := by unfold rng factB; congr 1; rw [Bool.eq_iff_iff]; simp; omega
    rw [e0] at this
    exact this
  clear h h' ht
  have bad : okB fs ls = false → whyL fs ls = [] := fun q => by unfold whyL; rw [q]; rfl
  have BAD := hidden bad
  clear bad
  by_cases hq1 : (fs.length : Int) > 64
  · have HB : Hid (okB fs ls = false) := by show okB fs ls = false; unfold okB factsB; rw [decide_eq_false (show ¬ fs.length ≤ 64 by omega)]; rfl
    go_enter Try.func20, Try.ntmps20
    go_wp2_with fail
    refine bodyPost_ret (v := .tuple #[.slice (some ⟨w.heap.size, 0, none⟩) 0 0, .bool false]) (by simp [results, Try.results20, go_sem]) rfl ?_
    exact ⟨_, _, by rw [BAD.out HB.out, HB.out]; rfl, by rw [BAD.out HB.out]; exact O0.out, b0⟩
  by_cases hq2 : (ls.length : Int) > 200
  · have HB : Hid (okB fs ls = false) := by show okB fs ls = false; unfold okB lawsB; rw [decide_eq_false (show ¬ ls.length ≤ 200 by omega)]; simp
    go_enter Try.func20, Try.ntmps20
    go_wp2_with fail
    refine bodyPost_ret (v := .tuple #[.slice (some ⟨w.heap.size, 0, none⟩) 0 0, .bool false]) (by simp [results, Try.results20, go_sem]) rfl ?_
    exact ⟨_, _, by rw [BAD.out HB.out, HB.out]; rfl, by rw [BAD.out HB.out]; exact O0.out, b0⟩
  have HOK : Hid (okB fs ls = (fs.all factB && ls.all lawB)) := by
    show okB fs ls = _
    unfold okB factsB lawsB; rw [decide_eq_true (show fs.length ≤ 64 by omega), decide_eq_true (show ls.length ≤ 200 by omega)]; rfl
  go_enter Try.func20, Try.ntmps20
  go_wp2_with fail
  go_loopw [7] (fun iv wr => ∃ i : Nat, i ≤ fs.length ∧ iv = .int .i64 i ∧ wr = w.alloc (.cells #[] 2) ∧ Hid ((fs.take i).all factB = true)) (fun iv _ => fs.length - (intOf iv).toNat)
  case atStart => exact ⟨0, Nat.zero_le _, rfl, rfl, rfl⟩
  case round =>
    obtain ⟨i, hi, rfl, rfl, hok⟩ := hrel
    by_cases hlt : i < fs.length
    · have hlti : (i : Int) < (fs.length : Int) := by omega
      obtain ⟨y, hy⟩ := some_of fs i hlt
      obtain ⟨g, off, rfl, hg, hc⟩ := (HF.out _ b0).at hy
      have c0 := hc i y hy
      have HX := hidden hy
      have hK := kF y
      clear hy hc
      cases hp : factB y with
      | true =>
        rw [hp] at hK
        have HN : Hid ((fs.take (i + 1)).all factB = true) := all_takeQ hok.out HX.out hp
        clear hp
        go_wp2_with (go_at_call 30; with_reducible refine (hK _).mono ?_; rintro e w1 ⟨rfl, e1⟩; obtain rfl := e1)
        go_roundw
        case rel => exact ⟨i + 1, by omega, rfl, (by first | rfl | trivial), HN⟩
        case measure => simp [intOf]; omega
      | false =>
        rw [hp] at hK
        have HB : Hid (okB fs ls = false) := by show okB fs ls = false; rw [HOK.out, all_falseQ HX.out hp]; rfl
        clear hp
        go_wp2_with (go_at_call 30; with_reducible refine (hK _).mono ?_; rintro e w1 ⟨rfl, e1⟩; obtain rfl := e1)
        refine bodyPost_ret (v := .tuple #[.slice (some ⟨w.heap.size, 0, none⟩) 0 0, .bool false]) (by simp [results, Try.results20, go_sem]) rfl ?_
        exact ⟨_, _, by rw [BAD.out HB.out, HB.out]; rfl, by rw [BAD.out HB.out]; exact O0.out, b0⟩
    · have hlti : ¬ (i : Int) < (fs.length : Int) := by omega
      have hil : i = fs.length := by omega
      have HFA : Hid (fs.all factB = true) := by have := hok.out; rw [hil, List.take_length] at this; exact this
      clear hok hil hlt
      go_wp2_with fail
      go_loopw [8] (fun iv wr => ∃ i : Nat, i ≤ ls.length ∧ iv = .int .i64 i ∧ Below (w.heap.size + 1) (w.alloc (.cells #[] 2)) wr ∧ Hid ((ls.take i).all lawB = true)) (fun iv _ => ls.length - (intOf iv).toNat)
      case atStart => exact ⟨0, Nat.zero_le _, rfl, Below.refl _ _, rfl⟩
      case round =>
        clear hi hlti
        obtain ⟨i, hi, rfl, hb9, hok⟩ := hrel
        have hs9 : (w.alloc (.cells #[] 2)).heap.size = w.heap.size + 1 := by simp
        rw [← hs9] at hb9
        have hb := onto b0 hb9
        have O1 := hidden (ownW_below O0.out hb9)
        by_cases hlt : i < ls.length
        · have hlti : (i : Int) < (ls.length : Int) := by omega
          obtain ⟨y, hy⟩ := some_of ls i hlt
          obtain ⟨g, off, ta, tc, ua, uc, rfl, hg, hr1, hr2, c0, c1, c2⟩ := (HL.out _ hb).at hy
          have hl2 := HT0.out y (List.mem_of_getElem? hy)
          have HX := hidden hy
          have hK := slaw_any y ta y.ifs.length tc ua y.nots.length uc wr hr1 hr2 hl2.1 hl2.2
          unfold aL at hK
          clear hy hr1 hr2 hl2
          cases hp : lawB y with
          | true =>
            rw [hp] at hK
            have HN : Hid ((ls.take (i + 1)).all lawB = true) := all_takeQ hok.out HX.out hp
            clear hp
            go_wp2_with (go_at_call 31; refine hK.mono ?_; rintro e w1 ⟨rfl, hb1⟩; have bA := onto hb9 hb1; clear hb1)
            go_roundw
            case rel => exact ⟨i + 1, by omega, rfl, by rw [← hs9]; exact bA, HN⟩
            case measure => simp [intOf]; omega
          | false =>
            rw [hp] at hK
            have HB : Hid (okB fs ls = false) := by show okB fs ls = false; rw [HOK.out, all_falseQ HX.out hp]; simp
            clear hp
            go_wp2_with (go_at_call 31; refine hK.mono ?_; rintro e w1 ⟨rfl, hb1⟩; have bA := onto hb hb1; have O2 := hidden (ownW_below O1.out hb1); clear hb1)
            refine bodyPost_ret (v := .tuple #[.slice (some ⟨w.heap.size, 0, none⟩) 0 0, .bool false]) (by simp [results, Try.results20, go_sem]) rfl ?_
            exact ⟨_, _, by rw [BAD.out HB.out, HB.out]; rfl, by rw [BAD.out HB.out]; exact O2.out, bA⟩
        · have hlti : ¬ (i : Int) < (ls.length : Int) := by omega
          have hil : i = ls.length := by omega
          have HLA : Hid (ls.all lawB = true) := by have := hok.out; rw [hil, List.take_length] at this; exact this
          have HOKT : Hid (okB fs ls = true) := by show okB fs ls = true; rw [HOK.out, HFA.out, HLA.out]; rfl
          have HWL : Hid (whyL fs ls = whyTo fs ls 64) := by show whyL fs ls = _; unfold whyL; rw [HOKT.out]; rfl
          clear hok hil hlt hb9 O0 b0 BAD HOK HFA
          go_wp2_with fail
          go_loopw [6, 9, 10, 11, 12, 13, 14] (fun sv fv _ _ _ _ _ wr => ∃ f : Nat, f ≤ 64 ∧ fv = .int .i64 f ∧ (∃ ad c, sv = .slice ad f c ∧ Hid (wr.ownsRow w.heap.size 2 1 (.slice ad f c) f (intsV (whyTo fs ls f)))) ∧ Below w.heap.size w wr) (fun _ fv _ _ _ _ _ _ => 64 - (intOf fv).toNat)
          case atStart => exact ⟨0, Nat.zero_le _, rfl, ⟨_, _, rfl, O1⟩, hb⟩
          case round =>
            clear O1 hb hs9 hlti hi
            obtain ⟨f, hf, rfl, ⟨ad, c, rfl, HO⟩, hb⟩ := hrel
            have hsz := hb.size
            by_cases hlt : f < 64
            · have hltf : (f : Int) < 64 := by omega
              obtain ⟨W, hW⟩ : ∃ W, W = whyTo fs ls f := ⟨_, rfl⟩
              have HWl : Hid (W.length = f) := by show W.length = f; rw [hW]; exact why_len fs ls f
              have HWN : Hid (whyTo fs ls (f + 1) = W ++ [byF fs ls W f]) := by show whyTo fs ls (f + 1) = _; rw [hW]; rfl
              rw [← hW] at HO
              clear hW
              have HWR : Hid (IRw wr (.slice ad f c) W) := by
                show IRw wr (.slice ad f c) W
                have e := HWl.out
                subst e
                exact ownI_irw HO.out
              have hK := shas_any ao fs.length cap fs (f : Int) wr (HF.out _ hb) (by omega)
              obtain ⟨w7, hw7⟩ : ∃ w7, w7 = wr := ⟨_, rfl⟩
              subst hw7
              cases hh : hasB fs (f : Int) with
              | true =>
                rw [hh] at hK
                have HBY : Hid (byF fs ls W f = -1) := byF_has hh
                clear hh
                go_wp2_with (go_at_call 32; refine hK.mono ?_; rintro e w1 ⟨rfl, e1⟩; obtain rfl := e1)
                go_loopw [10, 11, 12, 13, 14] (fun bv iv _ _ _ wr => bv = .int .i64 (-1) ∧ iv = .int .i64 0 ∧ wr = w1) (fun _ _ _ _ _ _ => 0)
                case atStart => exact ⟨rfl, rfl, rfl⟩
                case round =>
                  obtain ⟨rfl, rfl, e1⟩ := hrel
                  obtain rfl := e1
                  by_cases hlt2 : (0 : Int) < (ls.length : Int)
                  · go_wp2_with (at_builtin; refine wpList_append_own _ rfl (.tmp 127) (.tmp 129) 24 rfl w.heap.size 2 i0 (.int .i64 0) 1 8 Try.underlying24 hi0 hz0 hz1 hz2 rfl (by decide) _ f (intsV W) rfl (HO.out.alloc _) ⟨wr.heap.size, 0, none⟩ 1 1 [.int .i64 (-1)] rfl rfl (cell_oneQ (by simp) _ _) (oneI _) (by unfold maxLen; omega) (by omega) (by simp; omega) ?_; intro v4 w4 ho4 hg4 hnn4; have hO4 := hidden ho4; obtain ⟨ad4, c4, rfl⟩ := ownW_slice ho4)
                    have b4 := grownQ (show Below w.heap.size w (wr.alloc (.cells #[.int .i64 (-1)] 2)) from by repeat (first | exact Below.refl _ _ | assumption | refine st_drew ?_ | refine st_drewN ?_ _ | refine Below.setCell ?_ (by first | omega | (simp; done) | (simp; omega)) _ | refine Below.alloc ?_ (by first | omega | (simp; done) | (simp; omega)) _)) (by simp; omega) hg4 (fun k hk => (ownW_lt HO.out k hk).1)
                    go_roundw
                    case rel => exact ⟨f + 1, by omega, rfl, ⟨ad4, c4, rfl, by show World.ownsRow _ _ _ _ _ _ _; rw [HWN.out, HBY.out, intsV_app]; exact hO4.out⟩, b4⟩
                    case measure => simp [intOf]; omega
                  · go_wp2_with (at_builtin; refine wpList_append_own _ rfl (.tmp 127) (.tmp 129) 24 rfl w.heap.size 2 i0 (.int .i64 0) 1 8 Try.underlying24 hi0 hz0 hz1 hz2 rfl (by decide) _ f (intsV W) rfl (HO.out.alloc _) ⟨wr.heap.size, 0, none⟩ 1 1 [.int .i64 (-1)] rfl rfl (cell_oneQ (by simp) _ _) (oneI _) (by unfold maxLen; omega) (by omega) (by simp; omega) ?_; intro v4 w4 ho4 hg4 hnn4; have hO4 := hidden ho4; obtain ⟨ad4, c4, rfl⟩ := ownW_slice ho4)
                    have b4 := grownQ (show Below w.heap.size w (wr.alloc (.cells #[.int .i64 (-1)] 2)) from by repeat (first | exact Below.refl _ _ | assumption | refine st_drew ?_ | refine st_drewN ?_ _ | refine Below.setCell ?_ (by first | omega | (simp; done) | (simp; omega)) _ | refine Below.alloc ?_ (by first | omega | (simp; done) | (simp; omega)) _)) (by simp; omega) hg4 (fun k hk => (ownW_lt HO.out k hk).1)
                    go_roundw
                    case rel => exact ⟨f + 1, by omega, rfl, ⟨ad4, c4, rfl, by show World.ownsRow _ _ _ _ _ _ _; rw [HWN.out, HBY.out, intsV_app]; exact hO4.out⟩, b4⟩
                    case measure => simp [intOf]; omega

              | false =>
                rw [hh] at hK
                have HH := hidden hh
                clear hh
                go_wp2_with (go_at_call 32; refine hK.mono ?_; rintro e w1 ⟨rfl, e1⟩; obtain rfl := e1)
                go_loopw [10, 11, 12, 13, 14] (fun bv iv _ _ _ wr => ∃ (i : Nat) (by' : Int), i ≤ ls.length ∧ iv = .int .i64 i ∧ bv = .int .i64 by' ∧ wr = w1 ∧ Hid ((by' = -2 ∧ (ls.take i).any (fineB W f) = false) ∨ (by' ≠ -2 ∧ by' = byF fs ls W f))) (fun _ iv _ _ _ _ => ls.length - (intOf iv).toNat)
                case atStart => exact ⟨0, -2, Nat.zero_le _, rfl, rfl, rfl, Or.inl ⟨rfl, rfl⟩⟩
                case round =>
                  obtain ⟨i, by', hi, rfl, rfl, e1, HD⟩ := hrel
                  obtain ⟨w7, hw7⟩ : ∃ w7, w7 = wr := ⟨_, rfl⟩
                  subst hw7
                  obtain rfl := e1
                  by_cases hby : by' = -2
                  · subst hby
                    have HD2 : Hid ((ls.take i).any (fineB W f) = false) := HD.out.elim (fun q => q.2) (fun q => absurd rfl q.1)
                    clear HD
                    by_cases hlt2 : i < ls.length
                    · have hlti : (i : Int) < (ls.length : Int) := by omega
                      obtain ⟨x, hx⟩ := some_of ls i hlt2
                      obtain ⟨g, off, ta, tc, ua, uc, rfl, hg, hr1, hr2, c0, c1, c2⟩ := (HL.out _ hb).at hx
                      have HLP := hidden (law_parts (List.all_eq_true.1 HLA.out x (List.mem_of_getElem? hx)))
                      have HX := hidden hx
                      have HI := hr1
                      have HN := hr2
                      have hl64 := HLP.out.2.1.1
                      have hn64 := HLP.out.2.1.2
                      clear hx hr1 hr2
                      by_cases hth : x.thn = (f : Int)
                      · have HTH := hidden hth
                        rw [hth] at c2
                        clear hth
                        have HIH := hidden HI
                        have HNH := hidden HN
                        clear HI HN
                        go_wp2_with fail
                        go_loopw [12, 13] (fun fv kv wr => ∃ k : Nat, k ≤ x.ifs.length ∧ kv = .int .i64 k ∧ fv = .bool (true && (x.ifs.take k).all (fun x => decide (¬ wy W x = -2))) ∧ wr = w7) (fun _ kv _ => x.ifs.length - (intOf kv).toNat)
                        case atStart => exact ⟨0, Nat.zero_le _, rfl, by simp, (by first | rfl | trivial)⟩
                        case round =>
                          obtain ⟨k, hk, rfl, hfv, e7⟩ := hrel
                          obtain rfl := e7
                          generalize hfin : (true && (x.ifs.take k).all (fun x => decide (¬ wy W x = -2))) = fin at *
                          subst hfv
                          have HFN := hidden hfin
                          clear hfin
                          by_cases hkl : k < x.ifs.length
                          · have hklt : (k : Int) < (x.ifs.length : Int) := by omega
                            obtain ⟨y, hy⟩ := some_of x.ifs k hkl
                            obtain ⟨g2, off2, rfl, hg2, hc2⟩ := HIH.out.at hy
                            have d0 := hc2 k y hy
                            have hyb := HLP.out.2.2.1 y (List.mem_of_getElem? hy)
                            obtain ⟨yk, rfl⟩ := Int.eq_ofNat_of_zero_le hyb.1
                            have hyf : yk < f := by have := hyb.2; have := HTH.out; omega
                            have hyf2 : (yk : Int) < (f : Int) := by omega
                            obtain ⟨z, hz⟩ := some_of W yk (by have := HWl.out; omega)
                            obtain ⟨g3, off3, hg3e, hg3, hc3⟩ := HWR.out.at hz
                            subst hg3e
                            have d1 := hc3 yk z hz
                            have HZ : Hid (wy W (yk : Int) = z) := by show wy W (yk : Int) = z; unfold wy; rw [List.getD_eq_getElem?_getD, Int.toNat_natCast, hz]; rfl
                            have HT := hidden (take_snocQ hy)
                            clear hy hc2 hz hc3 hyb
                            cases fin with
                            | false =>
                              go_wp2_with fail
                              go_roundw
                              case rel => exact ⟨k + 1, by omega, rfl, by rw [HT.out, List.all_append, ← Bool.and_assoc, HFN.out]; rfl, (by first | rfl | trivial)⟩
                              case measure => simp [intOf]; omega
                            | true =>
                              by_cases hz0 : z = -2
                              · subst hz0
                                go_wp2_with fail
                                go_roundw
                                case rel => exact ⟨k + 1, by omega, rfl, by rw [HT.out, List.all_append, ← Bool.and_assoc, HFN.out]; simp [HZ.out], (by first | rfl | trivial)⟩
                                case measure => simp [intOf]; omega
                              · go_wp2_with fail
                                go_roundw
                                case rel => exact ⟨k + 1, by omega, rfl, by rw [HT.out, List.all_append, ← Bool.and_assoc, HFN.out]; simp [HZ.out, hz0], (by first | rfl | trivial)⟩
                                case measure => simp [intOf]; omega
                          · have hklt : ¬ (k : Int) < (x.ifs.length : Int) := by omega
                            have hke : k = x.ifs.length := by omega
                            have HF13 : Hid ((true && x.ifs.all (fun x => decide (¬ wy W x = -2))) = fin) := by have := HFN.out; rw [hke, List.take_length] at this; exact this
                            clear HFN hke hkl hk
                            have HIF := HF13
                            go_wp2_with fail
                            obtain ⟨w7, hw7⟩ : ∃ w7, w7 = wr := ⟨_, rfl⟩
                            subst hw7
                            go_loopw [12, 14] (fun fv kv wr => ∃ k : Nat, k ≤ x.nots.length ∧ kv = .int .i64 k ∧ fv = .bool (x.ifs.all (fun x => decide (¬ wy W x = -2)) && (x.nots.take k).all (fun x => decide (wy W x = -2))) ∧ wr = w7) (fun _ kv _ => x.nots.length - (intOf kv).toNat)
                            case atStart => exact ⟨0, Nat.zero_le _, rfl, by rw [← HF13.out]; simp, (by first | rfl | trivial)⟩
                            case round =>
                              obtain ⟨k, hk, rfl, hfv, e7⟩ := hrel
                              obtain rfl := e7
                              generalize hfin : (x.ifs.all (fun x => decide (¬ wy W x = -2)) && (x.nots.take k).all (fun x => decide (wy W x = -2))) = fin at *
                              subst hfv
                              have HFN := hidden hfin
                              clear hfin
                              by_cases hkl : k < x.nots.length
                              · have hklt : (k : Int) < (x.nots.length : Int) := by omega
                                obtain ⟨y, hy⟩ := some_of x.nots k hkl
                                obtain ⟨g2, off2, rfl, hg2, hc2⟩ := HNH.out.at hy
                                have d0 := hc2 k y hy
                                have hyb := HLP.out.2.2.2 y (List.mem_of_getElem? hy)
                                obtain ⟨yk, rfl⟩ := Int.eq_ofNat_of_zero_le hyb.1
                                have hyf : yk < f := by have := hyb.2; have := HTH.out; omega
                                have hyf2 : (yk : Int) < (f : Int) := by omega
                                obtain ⟨z, hz⟩ := some_of W yk (by have := HWl.out; omega)
                                obtain ⟨g3, off3, hg3e, hg3, hc3⟩ := HWR.out.at hz
                                subst hg3e
                                have d1 := hc3 yk z hz
                                have HZ : Hid (wy W (yk : Int) = z) := by show wy W (yk : Int) = z; unfold wy; rw [List.getD_eq_getElem?_getD, Int.toNat_natCast, hz]; rfl
                                have HT := hidden (take_snocQ hy)
                                clear hy hc2 hz hc3 hyb
                                cases fin with
                                | false =>
                                  go_wp2_with fail
                                  go_roundw
                                  case rel => exact ⟨k + 1, by omega, rfl, by rw [HT.out, List.all_append, ← Bool.and_assoc, HFN.out]; rfl, (by first | rfl | trivial)⟩
                                  case measure => simp [intOf]; omega
                                | true =>
                                  by_cases hz0 : z = -2
                                  · subst hz0
                                    go_wp2_with fail
                                    go_roundw
                                    case rel => exact ⟨k + 1, by omega, rfl, by rw [HT.out, List.all_append, ← Bool.and_assoc, HFN.out]; simp [HZ.out], (by first | rfl | trivial)⟩
                                    case measure => simp [intOf]; omega
                                  · go_wp2_with fail
                                    go_roundw
                                    case rel => exact ⟨k + 1, by omega, rfl, by rw [HT.out, List.all_append, ← Bool.and_assoc, HFN.out]; simp [HZ.out, hz0], (by first | rfl | trivial)⟩
                                    case measure => simp [intOf]; omega
                              · have hklt : ¬ (k : Int) < (x.nots.length : Int) := by omega
                                have hke : k = x.nots.length := by omega
                                have HF14 : Hid ((x.ifs.all (fun x => decide (¬ wy W x = -2)) && x.nots.all (fun x => decide (wy W x = -2))) = fin) := by have := HFN.out; rw [hke, List.take_length] at this; exact this
                                clear HFN hke hkl hk
                                have HFE : Hid (fineB W f x = fin) := by
                                  show fineB W f x = fin
                                  unfold fineB
                                  rw [decide_eq_true HTH.out, Bool.true_and]
                                  rw [← HF14.out]
                                cases fin with
                                | true =>
                                  have HBY : Hid (byF fs ls W f = (i : Int)) := byF_some HH.out HD2.out HX.out HFE.out
                                  go_wp2_with fail
                                  go_roundw
                                  case rel => exact ⟨i + 1, (i : Int), by omega, rfl, rfl, (by first | rfl | trivial), Or.inr ⟨by omega, HBY.out.symm⟩⟩
                                  case measure => simp [intOf]; omega
                                | false =>
                                  have HZ : Hid ((ls.take (i + 1)).any (fineB W f) = false) := any_takeQ HD2.out HX.out HFE.out
                                  go_wp2_with fail
                                  go_roundw
                                  case rel => exact ⟨i + 1, -2, by omega, rfl, rfl, (by first | rfl | trivial), Or.inl ⟨rfl, HZ.out⟩⟩
                                  case measure => simp [intOf]; omega
                      · have HZ : Hid ((ls.take (i + 1)).any (fineB W f) = false) := any_takeQ HD2.out HX.out (by unfold fineB; rw [decide_eq_false hth]; rfl)
                        clear HI HN HD2
                        go_wp2_with fail
                        go_roundw
                        case rel => exact ⟨i + 1, -2, by omega, rfl, rfl, (by first | rfl | trivial), Or.inl ⟨rfl, HZ.out⟩⟩
                        case measure => simp [intOf]; omega
                    · have hlti : ¬ (i : Int) < (ls.length : Int) := by omega
                      have hil : i = ls.length := by omega
                      have HBY : Hid (byF fs ls W f = -2) := byF_none HH.out (by have := HD2.out; rw [hil, List.take_length] at this; exact this)
                      clear hil hlt2 HD2
                      go_wp2_with (at_builtin; refine wpList_append_own _ rfl (.tmp 127) (.tmp 129) 24 rfl w.heap.size 2 i0 (.int .i64 0) 1 8 Try.underlying24 hi0 hz0 hz1 hz2 rfl (by decide) _ f (intsV W) rfl (HO.out.alloc _) ⟨w7.heap.size, 0, none⟩ 1 1 [.int .i64 (-2)] rfl rfl (cell_oneQ (by simp) _ _) (oneI _) (by unfold maxLen; omega) (by omega) (by simp; omega) ?_; intro v4 w4 ho4 hg4 hnn4; have hO4 := hidden ho4; obtain ⟨ad4, c4, rfl⟩ := ownW_slice ho4)
                      have b4 := grownQ (show Below w.heap.size w (w7.alloc (.cells #[.int .i64 (-2)] 2)) from by repeat (first | exact Below.refl _ _ | assumption | refine st_drew ?_ | refine st_drewN ?_ _ | refine Below.setCell ?_ (by first | omega | (simp; done) | (simp; omega)) _ | refine Below.alloc ?_ (by first | omega | (simp; done) | (simp; omega)) _)) (by simp; omega) hg4 (fun k hk => (ownW_lt HO.out k hk).1)
                      go_roundw
                      case rel => exact ⟨f + 1, by omega, rfl, ⟨ad4, c4, rfl, by show World.ownsRow _ _ _ _ _ _ _; rw [HWN.out, HBY.out, intsV_app]; exact hO4.out⟩, b4⟩
                      case measure => simp [intOf]; omega
                  · have HBY : Hid (byF fs ls W f = by') := HD.out.elim (fun q => absurd q.1 hby) (fun q => q.2.symm)
                    clear HD
                    have hby2 : (by' == -2) = false := by simpa using hby
                    by_cases hlt2 : (i : Int) < (ls.length : Int)
                    · go_wp2_with (at_builtin; refine wpList_append_own _ rfl (.tmp 127) (.tmp 129) 24 rfl w.heap.size 2 i0 (.int .i64 0) 1 8 Try.underlying24 hi0 hz0 hz1 hz2 rfl (by decide) _ f (intsV W) rfl (HO.out.alloc _) ⟨w7.heap.size, 0, none⟩ 1 1 [.int .i64 (by')] rfl rfl (cell_oneQ (by simp) _ _) (oneI _) (by unfold maxLen; omega) (by omega) (by simp; omega) ?_; intro v4 w4 ho4 hg4 hnn4; have hO4 := hidden ho4; obtain ⟨ad4, c4, rfl⟩ := ownW_slice ho4)
                      have b4 := grownQ (show Below w.heap.size w (w7.alloc (.cells #[.int .i64 (by')] 2)) from by repeat (first | exact Below.refl _ _ | assumption | refine st_drew ?_ | refine st_drewN ?_ _ | refine Below.setCell ?_ (by first | omega | (simp; done) | (simp; omega)) _ | refine Below.alloc ?_ (by first | omega | (simp; done) | (simp; omega)) _)) (by simp; omega) hg4 (fun k hk => (ownW_lt HO.out k hk).1)
                      go_roundw
                      case rel => exact ⟨f + 1, by omega, rfl, ⟨ad4, c4, rfl, by show World.ownsRow _ _ _ _ _ _ _; rw [HWN.out, HBY.out, intsV_app]; exact hO4.out⟩, b4⟩
                      case measure => simp [intOf]; omega
                    · go_wp2_with (at_builtin; refine wpList_append_own _ rfl (.tmp 127) (.tmp 129) 24 rfl w.heap.size 2 i0 (.int .i64 0) 1 8 Try.underlying24 hi0 hz0 hz1 hz2 rfl (by decide) _ f (intsV W) rfl (HO.out.alloc _) ⟨w7.heap.size, 0, none⟩ 1 1 [.int .i64 (by')] rfl rfl (cell_oneQ (by simp) _ _) (oneI _) (by unfold maxLen; omega) (by omega) (by simp; omega) ?_; intro v4 w4 ho4 hg4 hnn4; have hO4 := hidden ho4; obtain ⟨ad4, c4, rfl⟩ := ownW_slice ho4)
                      have b4 := grownQ (show Below w.heap.size w (w7.alloc (.cells #[.int .i64 (by')] 2)) from by repeat (first | exact Below.refl _ _ | assumption | refine st_drew ?_ | refine st_drewN ?_ _ | refine Below.setCell ?_ (by first | omega | (simp; done) | (simp; omega)) _ | refine Below.alloc ?_ (by first | omega | (simp; done) | (simp; omega)) _)) (by simp; omega) hg4 (fun k hk => (ownW_lt HO.out k hk).1)
                      go_roundw
                      case rel => exact ⟨f + 1, by omega, rfl, ⟨ad4, c4, rfl, by show World.ownsRow _ _ _ _ _ _ _; rw [HWN.out, HBY.out, intsV_app]; exact hO4.out⟩, b4⟩
                      case measure => simp [intOf]; omega

            · have hltf : ¬ (f : Int) < 64 := by omega
              have hfe : f = 64 := by omega
              subst hfe
              go_wp2_with fail
              refine bodyPost_ret (v := .tuple #[.slice ad 64 c, .bool true]) (by simp [results, Try.results20, go_sem]) rfl ?_
              exact ⟨ad, c, by rw [HWL.out, HOKT.out, why_len], by rw [HWL.out, why_len]; exact HO.out, hb⟩
end Go.Proofs.Ytfhecdedanlmfaa
