/-
  Merged: Rm22.
-/
import Derived.Test.YtgcpiinmcbdkmaaMw35
namespace Go.Proofs.Ytgcpiinmcbdkmaa
open Go.RowKit Va Ms
set_option linter.all false
set_option maxRecDepth 20000 in
set_option maxHeartbeats 16000000 in
theorem sloop_any (s : ByteArray) (hs : s.size ≤ 20000) (hE : Ended s) (w : World) : Calls Try.prog 30 #[.string s] w (fun e w' => ∃ mv c a, e = .returned (.tuple #[.agg #[mv], .agg #[.int .i64 (c : Nat), .int .i64 (a : Nat)]]) ∧ RdOut w.heap.size w' (readO s) mv c a ∧ Below w.heap.size w w') := by
  have T0 : Two0 w ((w.alloc (.cells #[.slice none 0 0] 56)).alloc (.cells #[.int .i64 0, .int .i64 0] 58)) w.heap.size (w.heap.size + 1) :=
    ⟨(PB.new w #[.slice none 0 0] 56).alloc _, by have := PB.new (w.alloc (.cells #[.slice none 0 0] 56)) #[.int .i64 0, .int .i64 0] 58; rw [World.size_alloc] at this; exact this, by repeat (first | exact Below.refl _ _ | assumption | refine st_drew ?_ | refine st_drewN ?_ _ | refine Below.setCell ?_ (by first | omega | (simp; done) | (simp; omega)) _ | refine Below.alloc ?_ (by first | omega | (simp; done) | (simp; omega)) _), Nat.le_refl _, Nat.le_succ _, by omega⟩
  have HT := hidden T0
  have hpos := hE.1
  go_enter Try.func30, Try.ntmps30
  go_upto_region 1 with fail
  generalize ((w.alloc (.cells #[.slice none 0 0] 56)).alloc (.cells #[.int .i64 0, .int .i64 0] 58)) = W1 at *
  have q0 := T0.pa.cell 0
  have f0 := T0.pa.frozen 0
  obtain ⟨y0, y1⟩ := T0.pf.two
  have g0 := T0.pf.frozen 0
  have g1 := T0.pf.frozen 1
  clear T0
  have h1i : ¬ (20000 : Int) < (s.size : Int) := by omega
  have e2 : (((s.size : Nat) : Int) == 0) = false := by rw [beq_eq_false_iff_ne]; omega
  have e3 : (((nb s (s.size - 1) : Nat) : Int) != 13) = false := by rw [hE.2]; rfl
  have hw1 : IntKind.i64.wrap ((s.size : Int) - 1) = ((s.size - 1 : Nat) : Int) := by rw [IntKind.wrap_i64]; omega
  have hx := idx_at s (s.size - 1) ((s.size - 1 : Nat) : Int) rfl (by omega)
  go_wp2_with fail
  clear h1i e2 e3 hw1 hx
  go_loopw [5] (fun iv wr => ∃ i : Nat, i ≤ s.size ∧ iv = .int .i64 i ∧ Hid (badByte s 0 = badByte s i) ∧ wr = W1) (fun iv _ => s.size - (intOf iv).toNat)
  case atStart => exact ⟨0, Nat.zero_le _, rfl, rfl, rfl⟩
  case round =>
    obtain ⟨i, hi, rfl, hbb, rfl⟩ := hrel
    by_cases hlt : i < s.size
    · have hlti : (i : Int) < (s.size : Int) := by omega
      have hxi := idx_at s i (i : Int) rfl hlt
      have hwi : IntKind.i64.wrap ((i : Int) + 1) = ((i + 1 : Nat) : Int) := by rw [IntKind.wrap_i64]; omega
      by_cases h13 : nb s i = 13
      · have e13 : (((nb s i : Nat) : Int) != 13) = false := by rw [h13]; rfl
        have HN : Hid (badByte s 0 = badByte s (i + 1)) := hbb.out.trans (bb_next hlt (Or.inr h13))
        clear hbb h13
        go_wp2_with fail
        go_roundw
        case rel => exact ⟨i + 1, by omega, by simp, HN, trivial⟩
        case measure => simp [intOf]; omega
      · have e13 : (((nb s i : Nat) : Int) != 13) = true := by rw [bne_iff_ne]; omega
        by_cases h32 : nb s i < 32
        · have e32 : ((nb s i : Nat) : Int) < 32 := by omega
          have HR : Hid (readO s = .bad 3 i) := ro3 hs hE (hbb.out.trans (bb_hit hlt (by unfold plainN; rw [Bool.and_eq_false_iff]; left; rw [decide_eq_false_iff_not]; omega) h13))
          clear hbb h13 h32
          go_wp2_with fail
          exact bad_end HT.out HR.out rfl rfl
        · have e32 : ¬ ((nb s i : Nat) : Int) < 32 := by omega
          by_cases h126 : 126 < nb s i
          · have e126 : (126 : Int) < ((nb s i : Nat) : Int) := by omega
            have HR : Hid (readO s = .bad 3 i) := ro3 hs hE (hbb.out.trans (bb_hit hlt (by unfold plainN; rw [Bool.and_eq_false_iff]; right; rw [decide_eq_false_iff_not]; omega) h13))
            clear hbb h13 h32 h126
            go_wp2_with fail
            exact bad_end HT.out HR.out rfl rfl
          · have e126 : ¬ (126 : Int) < ((nb s i : Nat) : Int) := by omega
            have HN : Hid (badByte s 0 = badByte s (i + 1)) := hbb.out.trans (bb_next hlt (Or.inl (by unfold plainN; rw [Bool.and_eq_true, decide_eq_true_eq, decide_eq_true_eq]; omega)))
            clear hbb h13 h32 h126
            go_wp2_with fail
            go_roundw
            case rel => exact ⟨i + 1, by omega, by simp, HN, trivial⟩
            case measure => simp [intOf]; omega
    · have hlti : ¬ (i : Int) < (s.size : Int) := by omega
      have HB3 : Hid (badByte s 0 = none) := hbb.out.trans (bb_end hlt)
      clear hbb hlt hi
      go_wp2_with fail
      go_loopw [6, 7] (fun fv iv W => ∃ p i : Nat, i ≤ s.size ∧ p ≤ i ∧ fv = .int .i64 p ∧ iv = .int .i64 i ∧ Hid (No13 s p i ∧ badName s 0 = badName s p) ∧ Hid (Two0 w W w.heap.size (w.heap.size + 1))) (fun _ iv _ => s.size - (intOf iv).toNat)
      case atStart => exact ⟨0, 0, Nat.zero_le _, Nat.le_refl _, rfl, rfl, ⟨No13.nil s 0, rfl⟩, HT⟩
      case round =>
        clear q0 f0 y0 y1 g0 g1 HT
        obtain ⟨p, i, hi, hpi, rfl, rfl, hno, HT⟩ := hrel
        have q0 := HT.out.pa.cell 0
        have f0 := HT.out.pa.frozen 0
        obtain ⟨y0, y1⟩ := HT.out.pf.two
        have g0 := HT.out.pf.frozen 0
        have g1 := HT.out.pf.frozen 1
        by_cases hlt : i < s.size
        · have hlti : (i : Int) < (s.size : Int) := by omega
          have hxi := idx_at s i (i : Int) rfl hlt
          have hwi : IntKind.i64.wrap ((i : Int) + 1) = ((i + 1 : Nat) : Int) := by rw [IntKind.wrap_i64]; omega
          by_cases h13 : nb s i = 13
          · have e13 : (((nb s i : Nat) : Int) != 13) = false := by rw [h13]; rfl
            have hwd : IntKind.i64.wrap ((i : Int) - (p : Int)) = ((i - p : Nat) : Int) := by rw [IntKind.wrap_i64]; omega
            have hw3 : IntKind.i64.wrap ((p : Int) + 3) = ((p + 3 : Nat) : Int) := by rw [IntKind.wrap_i64]; omega
            by_cases c1 : i - p < 3
            · have c1i : ((i - p : Nat) : Int) < 3 := by omega
              have HR : Hid (readO s = .bad 4 p) := ro4 hs hE HB3.out (hno.out.2.trans (bn_bad (by omega) (good_short hpi h13 c1)))
              clear hno h13 c1 hpi
              go_wp2_with fail
              exact bad_end HT.out HR.out rfl rfl
            · have c1i : ¬ ((i - p : Nat) : Int) < 3 := by omega
              have kn := fun W => sname_any (s.extract p (p + 3)) (by rw [ByteArray.size_extract]; omega) W
              have b1 : (0 : Int) ≤ (p : Int) := by omega
              have b2 : (p : Int) ≤ ((p + 3 : Nat) : Int) := by omega
              have b3 : ((p + 3 : Nat) : Int) ≤ (s.size : Int) := by omega
              have hxp := idx_at s (p + 3) ((p : Int) + 3) (by omega) (by omega)
              cases hn : nameB (s.extract p (p + 3)) with
              | false =>
                rw [hn] at kn
                have HR : Hid (readO s = .bad 4 p) := ro4 hs hE HB3.out (hno.out.2.trans (bn_bad (by omega) (good_name hn)))
                clear hno h13 c1 hpi hn
                go_wp2_with (go_at_call 67; (with_reducible refine (kn _).mono ?_); rintro e w2 ⟨rfl, rfl⟩)
                exact bad_end HT.out HR.out rfl rfl
              | true =>
                rw [hn] at kn
                by_cases c3 : 3 < i - p
                · have c3i : (3 : Int) < ((i - p : Nat) : Int) := by omega
                  by_cases c4 : nb s (p + 3) = 124
                  · have e4 : (((nb s (p + 3) : Nat) : Int) != 124) = false := by rw [c4]; rfl
                    have HN : Hid (No13 s (i + 1) (i + 1) ∧ badName s 0 = badName s (i + 1)) := ⟨No13.nil _ _, hno.out.2.trans ((bn_good (good_far hlt c3 c4 hn)).trans (by rw [hno.out.1.nx hpi hlt h13]))⟩
                    clear hno h13 c1 hpi hn c3 c4
                    go_wp2_with (go_at_call 67; (with_reducible refine (kn _).mono ?_); rintro e w2 ⟨rfl, rfl⟩)
                    exact ⟨⟨i + 1, i + 1, by omega, Nat.le_refl _, by simp, by simp, HN, HT⟩, by simp [intOf]; omega⟩
                  · have e4 : (((nb s (p + 3) : Nat) : Int) != 124) = true := by rw [bne_iff_ne]; omega
                    have HR : Hid (readO s = .bad 4 p) := ro4 hs hE HB3.out (hno.out.2.trans (bn_bad (by omega) (good_bar hno.out.1 c3 c4)))
                    clear hno h13 c1 hpi hn c3 c4
                    go_wp2_with (go_at_call 67; (with_reducible refine (kn _).mono ?_); rintro e w2 ⟨rfl, rfl⟩)
                    exact bad_end HT.out HR.out rfl rfl
                · have c3i : ¬ (3 : Int) < ((i - p : Nat) : Int) := by omega
                  have HN : Hid (No13 s (i + 1) (i + 1) ∧ badName s 0 = badName s (i + 1)) := ⟨No13.nil _ _, hno.out.2.trans ((bn_good (good_at hlt h13 (by omega) hpi hn)).trans (by rw [hno.out.1.nx hpi hlt h13]))⟩
                  clear hno h13 c1 hpi hn c3
                  go_wp2_with (go_at_call 67; (with_reducible refine (kn _).mono ?_); rintro e w2 ⟨rfl, rfl⟩)
                  exact ⟨⟨i + 1, i + 1, by omega, Nat.le_refl _, by simp, by simp, HN, HT⟩, by simp [intOf]; omega⟩
          · have e13 : (((nb s i : Nat) : Int) != 13) = true := by rw [bne_iff_ne]; omega
            have HN : Hid (No13 s p (i + 1) ∧ badName s 0 = badName s p) := ⟨hno.out.1.step h13, hno.out.2⟩
            clear hno h13
            go_wp2_with fail
            go_roundw
            case rel => exact ⟨p, i + 1, by omega, by omega, rfl, by simp, HN, HT⟩
            case measure => simp [intOf]; omega

        · have hlti : ¬ (i : Int) < (s.size : Int) := by omega
          have HB4 : Hid (badName s 0 = none) := by
            refine hno.out.2.trans (bn_end (fun hp => ?_))
            exact hno.out.1 (s.size - 1) (by omega) (by omega) hE.2
          clear hno hlt hi hpi
          go_wp2_with fail
          go_loopw [8, 9, 10] (fun iv _ _ W => ∃ i : Nat, i ≤ s.size ∧ iv = .int .i64 i ∧ Hid (badEsc s 0 = badEsc s i) ∧ Hid (Two0 w W w.heap.size (w.heap.size + 1))) (fun iv _ _ _ => s.size - (intOf iv).toNat)
          case atStart => exact ⟨0, Nat.zero_le _, rfl, rfl, HT⟩
          case round =>
            clear q0 f0 y0 y1 g0 g1 HT
            obtain ⟨i, hi, rfl, hbe, HT⟩ := hrel
            have q0 := HT.out.pa.cell 0
            have f0 := HT.out.pa.frozen 0
            obtain ⟨y0, y1⟩ := HT.out.pf.two
            have g0 := HT.out.pf.frozen 0
            have g1 := HT.out.pf.frozen 1
            by_cases hlt : i < s.size
            · have hlti : (i : Int) < (s.size : Int) := by omega
              have hxi := idx_at s i (i : Int) rfl hlt
              have hwi : IntKind.i64.wrap ((i : Int) + 1) = ((i + 1 : Nat) : Int) := by rw [IntKind.wrap_i64]; omega
              by_cases h92 : nb s i = 92
              · have e92 : (((nb s i : Nat) : Int) != 92) = false := by rw [h92]; rfl
                have kr := fun W => sread_any s (by omega) i hi W
                cases hr : rdE s i with
                | none =>
                  have hp : rdP s i = (0, 0) := by rw [rdP, hr]
                  rw [hp] at kr
                  have HR : Hid (readO s = .bad 5 i) := ro5 hs hE HB3.out HB4.out (hbe.out.trans (be_none hlt h92 hr))
                  clear hbe h92 hr hp
                  go_wp2_with (go_at_call 68; refine (kr _).mono ?_; rintro e w2 ⟨rfl, hb2⟩; have HT2 := hidden (HT.out.below hb2); clear q0 f0 y0 y1 g0 g1 hb2; have q0 := HT2.out.pa.cell 0; have f0 := HT2.out.pa.frozen 0; obtain ⟨y0, y1⟩ := HT2.out.pf.two; have g0 := HT2.out.pf.frozen 0; have g1 := HT2.out.pf.frozen 1)
                  exact bad_end HT2.out HR.out rfl rfl
                | some q =>
                  obtain ⟨x, k⟩ := q
                  have hp : rdP s i = (x, k) := by rw [rdP, hr]
                  rw [hp] at kr
                  obtain ⟨hE1, hk⟩ := rd_of hr
                  have hk2 : 2 ≤ k := by have := hE1.2.1; omega
                  have hks : i + k ≤ s.size := by have := hE1.2.2.1; omega
                  have ek : (((k : Nat) : Int) == 0) = false := by rw [beq_eq_false_iff_ne]; omega
                  have HN : Hid (badEsc s 0 = badEsc s (i + k)) := hbe.out.trans (by rw [hk]; exact be_some hE1)
                  have hw1 : IntKind.i64.wrap ((i : Int) + (k : Int)) = ((i + k : Nat) : Int) := by rw [IntKind.wrap_i64]; omega
                  have hw2 : IntKind.i64.wrap (((i + k : Nat) : Int) - 1) = ((i + k - 1 : Nat) : Int) := by rw [IntKind.wrap_i64]; omega
                  have hw3 : IntKind.i64.wrap (((i + k - 1 : Nat) : Int) + 1) = ((i + k : Nat) : Int) := by rw [IntKind.wrap_i64]; omega
                  clear hbe h92 hr hp hE1 hk
                  go_wp2_with (go_at_call 68; refine (kr _).mono ?_; rintro e w2 ⟨rfl, hb2⟩; have HT2 := hidden (HT.out.below hb2); clear q0 f0 y0 y1 g0 g1 hb2; have q0 := HT2.out.pa.cell 0; have f0 := HT2.out.pa.frozen 0; obtain ⟨y0, y1⟩ := HT2.out.pf.two; have g0 := HT2.out.pf.frozen 0; have g1 := HT2.out.pf.frozen 1)
                  exact ⟨⟨i + k, hks, by simp, HN, HT2⟩, by simp [intOf]; omega⟩
              · have e92 : (((nb s i : Nat) : Int) != 92) = true := by rw [bne_iff_ne]; omega
                have HN : Hid (badEsc s 0 = badEsc s (i + 1)) := hbe.out.trans (be_plain hlt h92)
                clear hbe h92
                go_wp2_with fail
                go_roundw
                case rel => exact ⟨i + 1, by omega, by simp, HN, HT⟩
                case measure => simp [intOf]; omega

            · have hlti : ¬ (i : Int) < (s.size : Int) := by omega
              have HB5 : Hid (badEsc s 0 = none) := hbe.out.trans (be_end hlt)
              clear hbe hlt hi
              go_wp2_with fail
              have HS := hidden (Sm.start HT.out)
              generalize wr.alloc (.cells #[.slice none 0 0] 56) = W4 at *
              generalize wr.heap.size = M at *
              clear q0 f0 y0 y1 g0 g1 HT
              have hn20 := hs
              obtain ⟨i0, hi0, hz0, hz1, hz2⟩ := info_parts infoStr
              obtain ⟨j0, hj0, hy0, hy1, hy2⟩ := info_parts infoU8r
              obtain ⟨n0, hn0, hv0, hv1, hv2⟩ := info_parts infoPart
              go_loopw [6, 12, 13, 14, 15, 16, 17, 18] (fun pv iv _ _ _ _ _ _ W => ∃ (p i F : Nat) (L : List (Pt × Value)) (v : Value), i ≤ s.size ∧ p ≤ i ∧ L.length ≤ p ∧ pv = .int .i64 p ∧ iv = .int .i64 i ∧ Hid (No13 s p i ∧ badName s p = none ∧ badEsc s p = none ∧ build s 0 [] = build s p (L.map Prod.fst)) ∧ Hid (Sm w W w.heap.size (w.heap.size + 1) M v L F)) (fun _ iv _ _ _ _ _ _ _ => s.size - (intOf iv).toNat)
              case atStart => exact ⟨0, 0, _, [], _, Nat.zero_le _, Nat.le_refl _, Nat.le_refl _, rfl, rfl, ⟨No13.nil s 0, HB4.out, HB5.out, rfl⟩, HS⟩
              case round =>
                clear HS
                obtain ⟨p, i, F, L, v, hi, hpi, hLp, rfl, rfl, hno, HS⟩ := hrel
                by_cases hlt : i < s.size
                · have hlti : (i : Int) < (s.size : Int) := by omega
                  have hxi := idx_at s i (i : Int) rfl hlt
                  have hwi : IntKind.i64.wrap ((i : Int) + 1) = ((i + 1 : Nat) : Int) := by rw [IntKind.wrap_i64]; omega
                  by_cases h13 : nb s i = 13
                  · have e13 : (((nb s i : Nat) : Int) != 13) = false := by rw [h13]; rfl
                    obtain ⟨hg, hbn⟩ := bn_none hno.out.2.1 (show p < s.size by omega)
                    have hnx := hno.out.1.nx hpi hlt h13
                    rw [hnx] at hbn
                    have hp3 : p + 3 ≤ i := by
                      rcases Nat.lt_or_ge i (p + 3) with q | q
                      · exact absurd h13 (by have := (gd_plain (name_bytes hg (i - p) (by omega))).1; rwa [show p + (i - p) = i by omega] at this)
                      · exact q
                    have hw3 : IntKind.i64.wrap ((p : Int) + 3) = ((p + 3 : Nat) : Int) := by rw [IntKind.wrap_i64]; omega
                    have hw4 : IntKind.i64.wrap ((p : Int) + 4) = ((p + 4 : Nat) : Int) := by rw [IntKind.wrap_i64]; omega
                    have b1 : (0 : Int) ≤ (p : Int) := by omega
                    have b2 : (p : Int) ≤ ((p + 3 : Nat) : Int) := by omega
                    have b3 : ((p + 3 : Nat) : Int) ≤ (s.size : Int) := by omega
                    have HSp := hidden (Sp.start HS.out (s.extract p (p + 3)))
                    have HB := hidden hno.out.2.2.2
                    have HN := hidden hno.out.1
                    have HG := hidden (And.intro hg (And.intro hbn (And.intro hnx h13)))
                    have HE := hidden hno.out.2.2.1
                    clear hno hg hbn hnx HS h13
                    go_wp2_with fail
                    have HT0 := hidden (st_start HG.out.1 HN.out HG.out.2.2.2 hp3 HE.out)
                    generalize (wr.alloc (.cells #[.string (s.extract p (p + 3)), .slice none 0 0] 106)).alloc (.cells #[] 5) = W5 at *
                    generalize wr.heap.size = P at *
                    clear HE
                    go_loopw [14, 15, 16, 17] (fun dv kv _ _ W => ∃ (k : Nat) (fv : Value) (fs : List ByteArray) (fd : List Nat), p + 4 ≤ k ∧ k ≤ i + 1 ∧ fs.length ≤ k ∧ fd.length ≤ k ∧ kv = .int .i64 k ∧ Hid (St s p i k fs fd) ∧ Hid (Sp w W w.heap.size (w.heap.size + 1) M v L P P (s.extract p (p + 3)) fv dv fs fd)) (fun _ kv _ _ _ => i + 1 - (intOf kv).toNat)
                    case atStart => exact ⟨p + 4, _, [], [], Nat.le_refl _, by omega, Nat.zero_le _, Nat.zero_le _, rfl, HT0, HSp⟩
                    case round =>
                      clear HSp HT0
                      obtain ⟨k, fv, fs, fd, hk4, hki, hfs, hfd, rfl, HT, HSp⟩ := hrel
                      obtain ⟨da, dc, rfl⟩ := ownW_slice HSp.out.dat
                      obtain ⟨fa, fc, rfl⟩ := ownW_slice HSp.out.fld
                      obtain ⟨z0, z1⟩ := HSp.out.pb.two
                      have zf1 := HSp.out.pb.frozen 1
                      have hPs : P ≤ wr.heap.size := Nat.le_of_lt HSp.out.pb.lt
                      by_cases hle : k ≤ i
                      · have hlei : (k : Int) ≤ (i : Int) := by omega
                        have hip : p + 3 < i := (HT.out.go hle).1
                        have hipi : ((p + 3 : Nat) : Int) < (i : Int) := by omega
                        have hwk : IntKind.i64.wrap ((k : Int) + 1) = ((k + 1 : Nat) : Int) := by rw [IntKind.wrap_i64]; omega
                        by_cases hke : k = i
                        · have ek : ((k : Int) == (i : Int)) = true := by rw [beq_iff_eq]; omega
                          have HT2 := hidden (show St s p i (k + 1) (fs ++ [bsOf fd]) [] by have := HT.out; subst hke; exact this.last hlt HG.out.2.2.2)
                          have hcv := conv_own HSp.out.dat HSp.out.lt
                          have HOf := hidden (HSp.out.below (W' := wr.alloc (.cells #[.string (bsOf fd)] 9)) (by repeat (first | exact Below.refl _ _ | assumption | refine st_drew ?_ | refine st_drewN ?_ _ | refine Below.setCell ?_ (by first | omega | (simp; done) | (simp; omega)) _ | refine Below.alloc ?_ (by first | omega | (simp; done) | (simp; omega)) _))).fld
                          clear HT
                          go_wp2_with (at_builtin; refine wpList_append_own _ rfl (.tmp 165) (.tmp 168) 104 rfl P 9 i0 (.string .empty) 1 16 Try.underlying104 hi0 hz0 hz1 hz2 rfl (by decide) (.slice fa fs.length fc) fs.length (strV fs) rfl HOf.out ⟨wr.heap.size, 0, none⟩ 1 1 [.string (bsOf fd)] rfl rfl (cell_newQ rfl [.string (bsOf fd)] _) (by simp [Value.oneCell']) (by unfold maxLen; omega) (by omega) (by simp; omega) ?_; intro v4 w4 ho4 hg4 hnn4; obtain ⟨va, vc, rfl⟩ := ownW_slice ho4; have HP4 := hidden ((HSp.out.below (W' := wr.alloc (.cells #[.string (bsOf fd)] 9)) (by repeat (first | exact Below.refl _ _ | assumption | refine st_drew ?_ | refine st_drewN ?_ _ | refine Below.setCell ?_ (by first | omega | (simp; done) | (simp; omega)) _ | refine Below.alloc ?_ (by first | omega | (simp; done) | (simp; omega)) _))).pb.kept hg4 (ownU_ty HOf.out (HSp.out.below (W' := wr.alloc (.cells #[.string (bsOf fd)] 9)) (by repeat (first | exact Below.refl _ _ | assumption | refine st_drew ?_ | refine st_drewN ?_ _ | refine Below.setCell ?_ (by first | omega | (simp; done) | (simp; omega)) _ | refine Below.alloc ?_ (by first | omega | (simp; done) | (simp; omega)) _))).pb (by decide))); obtain ⟨y0, y1⟩ := HP4.out.two; have yf1 := HP4.out.frozen 1; have HF4 := hidden (((HSp.out.below (W' := wr.alloc (.cells #[.string (bsOf fd)] 9)) (by repeat (first | exact Below.refl _ _ | assumption | refine st_drew ?_ | refine st_drewN ?_ _ | refine Below.setCell ?_ (by first | omega | (simp; done) | (simp; omega)) _ | refine Below.alloc ?_ (by first | omega | (simp; done) | (simp; omega)) _))).field hg4 ho4).fresh); clear hnn4 z0 z1 zf1)
                          rw [size_setM] at HF4
                          exact ⟨⟨k + 1, _, fs ++ [bsOf fd], [], by omega, by omega, by rw [List.length_append]; simp; omega, Nat.zero_le _, (by first | rfl | (simp; done) | (simp; omega)), HT2, HF4⟩, by simp [intOf]; omega⟩
                        · have ek : ((k : Int) == (i : Int)) = false := by rw [beq_eq_false_iff_ne]; omega
                          have hkl : k < i := by omega
                          have hxk := idx_at s k (k : Int) rfl (by omega)
                          have hn13 := hidden (HN.out k (by omega) hkl)
                          by_cases h124 : nb s k = 124
                          · have e124 : (((nb s k : Nat) : Int) == 124) = true := by rw [h124]; rfl
                            have HT2 := hidden (HT.out.bar hkl hlt h124)
                            have hcv := conv_own HSp.out.dat HSp.out.lt
                            have HOf := hidden (HSp.out.below (W' := wr.alloc (.cells #[.string (bsOf fd)] 9)) (by repeat (first | exact Below.refl _ _ | assumption | refine st_drew ?_ | refine st_drewN ?_ _ | refine Below.setCell ?_ (by first | omega | (simp; done) | (simp; omega)) _ | refine Below.alloc ?_ (by first | omega | (simp; done) | (simp; omega)) _))).fld
                            clear HT
                            go_wp2_with (at_builtin; refine wpList_append_own _ rfl (.tmp 165) (.tmp 168) 104 rfl P 9 i0 (.string .empty) 1 16 Try.underlying104 hi0 hz0 hz1 hz2 rfl (by decide) (.slice fa fs.length fc) fs.length (strV fs) rfl HOf.out ⟨wr.heap.size, 0, none⟩ 1 1 [.string (bsOf fd)] rfl rfl (cell_newQ rfl [.string (bsOf fd)] _) (by simp [Value.oneCell']) (by unfold maxLen; omega) (by omega) (by simp; omega) ?_; intro v4 w4 ho4 hg4 hnn4; obtain ⟨va, vc, rfl⟩ := ownW_slice ho4; have HP4 := hidden ((HSp.out.below (W' := wr.alloc (.cells #[.string (bsOf fd)] 9)) (by repeat (first | exact Below.refl _ _ | assumption | refine st_drew ?_ | refine st_drewN ?_ _ | refine Below.setCell ?_ (by first | omega | (simp; done) | (simp; omega)) _ | refine Below.alloc ?_ (by first | omega | (simp; done) | (simp; omega)) _))).pb.kept hg4 (ownU_ty HOf.out (HSp.out.below (W' := wr.alloc (.cells #[.string (bsOf fd)] 9)) (by repeat (first | exact Below.refl _ _ | assumption | refine st_drew ?_ | refine st_drewN ?_ _ | refine Below.setCell ?_ (by first | omega | (simp; done) | (simp; omega)) _ | refine Below.alloc ?_ (by first | omega | (simp; done) | (simp; omega)) _))).pb (by decide))); obtain ⟨y0, y1⟩ := HP4.out.two; have yf1 := HP4.out.frozen 1; have HF4 := hidden (((HSp.out.below (W' := wr.alloc (.cells #[.string (bsOf fd)] 9)) (by repeat (first | exact Below.refl _ _ | assumption | refine st_drew ?_ | refine st_drewN ?_ _ | refine Below.setCell ?_ (by first | omega | (simp; done) | (simp; omega)) _ | refine Below.alloc ?_ (by first | omega | (simp; done) | (simp; omega)) _))).field hg4 ho4).fresh); clear hnn4 z0 z1 zf1)
                            rw [size_setM] at HF4
                            exact ⟨⟨k + 1, _, fs ++ [bsOf fd], [], by omega, by omega, by rw [List.length_append]; simp; omega, Nat.zero_le _, (by first | rfl | (simp; done) | (simp; omega)), HT2, HF4⟩, by simp [intOf]; omega⟩
                          · have e124 : (((nb s k : Nat) : Int) == 124) = false := by rw [beq_eq_false_iff_ne]; omega
                            by_cases h92 : nb s k = 92
                            · have e92 : (((nb s k : Nat) : Int) == 92) = true := by rw [h92]; rfl
                              obtain ⟨x, z, hr, hx256, hz3, hkz, HT2⟩ := HT.out.esc hkl hlt HG.out.2.2.2 h92
                              have HT2 := hidden HT2
                              have kr := fun W => sread_any s (by omega) k (by omega) W
                              rw [hr] at kr
                              have hwz1 : IntKind.i64.wrap ((k : Int) + (z : Int)) = ((k + z : Nat) : Int) := by rw [IntKind.wrap_i64]; omega
                              have hwz2 : IntKind.i64.wrap (((k + z : Nat) : Int) - 1) = ((k + z - 1 : Nat) : Int) := by rw [IntKind.wrap_i64]; omega
                              have hwz3 : IntKind.i64.wrap (((k + z - 1 : Nat) : Int) + 1) = ((k + z : Nat) : Int) := by rw [IntKind.wrap_i64]; omega
                              clear HT h92 hr h124
                              go_wp2_with (first | (go_at_call 68; refine (kr _).mono ?_; rintro e w2 ⟨rfl, hb2⟩; have hs2 := hb2.size; have HS2 := hidden ((HSp.out.below hb2).below (W' := w2.alloc (.cells #[.int .u8 (x : Nat)] 5)) (by repeat (first | exact Below.refl _ _ | assumption | refine st_drew ?_ | refine st_drewN ?_ _ | refine Below.setCell ?_ (by first | omega | (simp; done) | (simp; omega)) _ | refine Below.alloc ?_ (by first | omega | (simp; done) | (simp; omega)) _))); clear hb2) | (at_builtin; refine wpList_append_own _ rfl (.tmp 182) (.tmp 184) 22 rfl P 5 j0 (.int .u8 0) 1 1 Try.underlying22 hj0 hy0 hy1 hy2 rfl (by decide) (.slice da fd.length dc) fd.length (bytV fd) rfl HS2.out.dat ⟨w2.heap.size, 0, none⟩ 1 1 [.int .u8 (x : Nat)] rfl rfl (cell_newQ rfl [.int .u8 (x : Nat)] _) (by simp [Value.oneCell']) (by unfold maxLen; omega) (by omega) (by simp; omega) ?_; intro v4 w4 ho4 hg4 hnn4; have HF4 := hidden (HS2.out.byte hg4 hx256 ho4); clear hnn4))
                              exact ⟨⟨k + z, _, fs, fd ++ [x], by omega, by omega, by omega, by rw [List.length_append]; simp; omega, rfl, HT2, HF4⟩, by simp [intOf]; omega⟩
                            · have e92 : (((nb s k : Nat) : Int) == 92) = false := by rw [beq_eq_false_iff_ne]; omega
                              have HT2 := hidden (HT.out.byte hkl hlt hn13.out h124 h92)
                              have HS2 := hidden (HSp.out.below (W' := wr.alloc (.cells #[.int .u8 (nb s k : Nat)] 5)) (by repeat (first | exact Below.refl _ _ | assumption | refine st_drew ?_ | refine st_drewN ?_ _ | refine Below.setCell ?_ (by first | omega | (simp; done) | (simp; omega)) _ | refine Below.alloc ?_ (by first | omega | (simp; done) | (simp; omega)) _)))
                              clear HT h92 h124
                              go_wp2_with (at_builtin; refine wpList_append_own _ rfl (.tmp 190) (.tmp 194) 22 rfl P 5 j0 (.int .u8 0) 1 1 Try.underlying22 hj0 hy0 hy1 hy2 rfl (by decide) (.slice da fd.length dc) fd.length (bytV fd) rfl HS2.out.dat ⟨wr.heap.size, 0, none⟩ 1 1 [.int .u8 (nb s k : Nat)] rfl rfl (cell_newQ rfl [.int .u8 (nb s k : Nat)] _) (by simp [Value.oneCell']) (by unfold maxLen; omega) (by omega) (by simp; omega) ?_; intro v4 w4 ho4 hg4 hnn4; have HF4 := hidden (HS2.out.byte hg4 (nb_256 s k) ho4); clear hnn4)
                              exact ⟨⟨k + 1, _, fs, fd ++ [nb s k], by omega, by omega, by omega, by rw [List.length_append]; simp; omega, rfl, HT2, HF4⟩, by simp [intOf]; omega⟩
                      · have hlei : ¬ (k : Int) ≤ (i : Int) := by omega
                        obtain ⟨hfe, hbe⟩ := HT.out.exit hle
                        have HX := hidden (And.intro hfe hbe)
                        have hML : M + 1 ≤ wr.heap.size := by have := HSp.out.m.MF; have := HSp.out.m.Fs; omega
                        obtain ⟨pa, pc, rfl⟩ := ownW_slice HSp.out.m.parts
                        have m0 := HSp.out.m.box.cell 0
                        have mf0 := HSp.out.m.box.frozen 0
                        have q0 := HSp.out.m.two.pa.cell 0
                        have f0 := HSp.out.m.two.pa.frozen 0
                        obtain ⟨y0, y1⟩ := HSp.out.m.two.pf.two
                        have g0 := HSp.out.m.two.pf.frozen 0
                        have g1 := HSp.out.m.two.pf.frozen 1
                        clear hfe hbe HT
                        by_cases h30 : 30 < fs.length
                        · have h30i : (30 : Int) < (fs.length : Int) := by omega
                          have HR : Hid (readO s = .bad 6 p) := ro6 hs hE HB3.out HB4.out HB5.out (HB.out.trans (build_bad (show p < s.size by omega) (by rw [← HX.out.1]; exact fields_many h30)))
                          clear HX HB
                          go_wp2_with fail
                          exact bad_end HSp.out.m.two HR.out rfl rfl
                        · have h30i : ¬ (30 : Int) < (fs.length : Int) := by omega
                          by_cases h0 : fs.length = 0
                          · have h0i : ¬ (0 : Int) < (fs.length : Int) := by omega
                            have HF : Hid (fieldsB (fieldsOf s p) = true) := by show fieldsB _ = true; rw [← HX.out.1, List.eq_nil_of_length_eq_zero h0]; rfl
                            clear h0
                            have HREL : Hid (No13 s (i + 1) (i + 1) ∧ badName s (i + 1) = none ∧ badEsc s (i + 1) = none ∧ build s 0 [] = build s (i + 1) ((L ++ [((⟨s.extract p (p + 3), fs⟩ : Pt), Value.slice fa fs.length fc)]).map Prod.fst)) := by
                              refine ⟨No13.nil _ _, HG.out.2.1, be_plainN HX.out.2 hlt (by have := HG.out.2.2.2; omega), HB.out.trans ?_⟩
                              rw [build_good (show p < s.size by omega) HG.out.2.2.1 HF.out, List.map_append, ← HX.out.1]
                              rfl
                            have HSa := hidden (HSp.out.below (W' := wr.alloc (.cells #[.string (s.extract p (p + 3)), .slice fa fs.length fc] 106)) (by repeat (first | exact Below.refl _ _ | assumption | refine st_drew ?_ | refine st_drewN ?_ _ | refine Below.setCell ?_ (by first | omega | (simp; done) | (simp; omega)) _ | refine Below.alloc ?_ (by first | omega | (simp; done) | (simp; omega)) _)))
                            clear HF HB HX
                            go_wp2_with (at_builtin; refine wpList_append_own _ rfl (.tmp 218) (.tmp 220) 54 rfl (M + 1) 106 n0 (.agg #[.string .empty, .slice none 0 0]) 2 40 Try.underlying54 hn0 hv0 hv1 hv2 rfl (by decide) (.slice pa L.length pc) L.length (cellsP L) rfl HSa.out.m.parts ⟨wr.heap.size, 0, none⟩ 1 1 [.string (s.extract p (p + 3)), .slice fa fs.length fc] rfl rfl (cell_newQ rfl [.string (s.extract p (p + 3)), .slice fa fs.length fc] _) (by simp [Value.oneCell']) (by unfold maxLen; omega) (by omega) (by simp; omega) ?_; intro v4 w4 ho4 hg4 hnn4; obtain ⟨va, vc, rfl⟩ := ownW_slice ho4; have HM4 := hidden (HSa.out.m.box.kept hg4 (ownU_ty HSa.out.m.parts HSa.out.m.box (by decide))); have x0 := HM4.out.cell 0; have xf0 := HM4.out.frozen 0; have HN4 := hidden (HSa.out.push hg4 ho4); clear hnn4 m0 mf0 q0 f0 y0 y1 g0 g1 z0 z1 zf1)
                            exact ⟨⟨i + 1, i + 1, _, _, _, by omega, Nat.le_refl _, by rw [List.length_append]; simp; omega, by simp, by simp, HREL, HN4⟩, by simp [intOf]; omega⟩
                          · obtain ⟨m, hm⟩ : ∃ m, fs.length = m + 1 := ⟨fs.length - 1, by omega⟩
                            obtain ⟨y, hy⟩ := some_of fs m (by omega)
                            obtain ⟨G, rfl, hG⟩ := ownM_some HSp.out.fld (by omega)
                            have c0 := own_getM HSp.out.fld (j := m) (u := .string y) (by unfold strV; rw [List.getElem?_map, hy]; rfl)
                            have hwm : IntKind.i64.wrap ((fs.length : Int) - 1) = (m : Int) := by rw [IntKind.wrap_i64]; omega
                            have h0i : (0 : Int) < (fs.length : Int) := by omega
                            have hm0 : (0 : Int) ≤ (m : Int) := by omega
                            have hmi : (m : Int) < (fs.length : Int) := by omega
                            have HV := hidden (fields_last hm (by omega) hy)
                            have HM := hidden hm
                            clear hm hy h0
                            by_cases q : y = .empty
                            · rw [decide_eq_true q] at HV
                              subst q
                              have HR : Hid (readO s = .bad 6 p) := ro6 hs hE HB3.out HB4.out HB5.out (HB.out.trans (build_bad (show p < s.size by omega) (by rw [← HX.out.1]; exact HV.out)))
                              clear HX HB
                              go_wp2_with fail
                              exact bad_end HSp.out.m.two HR.out rfl rfl
                            · rw [decide_eq_false q] at HV
                              have q2 := not_empty q
                              have HF : Hid (fieldsB (fieldsOf s p) = true) := by show fieldsB _ = true; rw [← HX.out.1]; exact HV.out
                              clear HV q
                              have HREL : Hid (No13 s (i + 1) (i + 1) ∧ badName s (i + 1) = none ∧ badEsc s (i + 1) = none ∧ build s 0 [] = build s (i + 1) ((L ++ [((⟨s.extract p (p + 3), fs⟩ : Pt), Value.slice (some ⟨G, 0, none⟩) fs.length fc)]).map Prod.fst)) := by
                                refine ⟨No13.nil _ _, HG.out.2.1, be_plainN HX.out.2 hlt (by have := HG.out.2.2.2; omega), HB.out.trans ?_⟩
                                rw [build_good (show p < s.size by omega) HG.out.2.2.1 HF.out, List.map_append, ← HX.out.1]
                                rfl
                              have HSa := hidden (HSp.out.below (W' := wr.alloc (.cells #[.string (s.extract p (p + 3)), .slice (some ⟨G, 0, none⟩) fs.length fc] 106)) (by repeat (first | exact Below.refl _ _ | assumption | refine st_drew ?_ | refine st_drewN ?_ _ | refine Below.setCell ?_ (by first | omega | (simp; done) | (simp; omega)) _ | refine Below.alloc ?_ (by first | omega | (simp; done) | (simp; omega)) _)))
                              clear HF HB HX
                              go_wp2_with (at_builtin; refine wpList_append_own _ rfl (.tmp 218) (.tmp 220) 54 rfl (M + 1) 106 n0 (.agg #[.string .empty, .slice none 0 0]) 2 40 Try.underlying54 hn0 hv0 hv1 hv2 rfl (by decide) (.slice pa L.length pc) L.length (cellsP L) rfl HSa.out.m.parts ⟨wr.heap.size, 0, none⟩ 1 1 [.string (s.extract p (p + 3)), .slice (some ⟨G, 0, none⟩) fs.length fc] rfl rfl (cell_newQ rfl [.string (s.extract p (p + 3)), .slice (some ⟨G, 0, none⟩) fs.length fc] _) (by simp [Value.oneCell']) (by unfold maxLen; omega) (by omega) (by simp; omega) ?_; intro v4 w4 ho4 hg4 hnn4; obtain ⟨va, vc, rfl⟩ := ownW_slice ho4; have HM4 := hidden (HSa.out.m.box.kept hg4 (ownU_ty HSa.out.m.parts HSa.out.m.box (by decide))); have x0 := HM4.out.cell 0; have xf0 := HM4.out.frozen 0; have HN4 := hidden (HSa.out.push hg4 ho4); clear hnn4 m0 mf0 q0 f0 y0 y1 g0 g1 z0 z1 zf1)
                              exact ⟨⟨i + 1, i + 1, _, _, _, by omega, Nat.le_refl _, by rw [List.length_append]; simp; omega, by simp, by simp, HREL, HN4⟩, by simp [intOf]; omega⟩
                  · have e13 : (((nb s i : Nat) : Int) != 13) = true := by rw [bne_iff_ne]; omega
                    have HN : Hid (No13 s p (i + 1) ∧ badName s p = none ∧ badEsc s p = none ∧ build s 0 [] = build s p (L.map Prod.fst)) := ⟨hno.out.1.step h13, hno.out.2⟩
                    clear hno h13
                    go_wp2_with fail
                    exact ⟨⟨p, i + 1, F, L, v, by omega, by omega, hLp, rfl, by simp, HN, HS⟩, by simp [intOf]; omega⟩
                · have hlti : ¬ (i : Int) < (s.size : Int) := by omega
                  have hpe : ¬ p < s.size := fun q => hno.out.1 (s.size - 1) (by omega) (by omega) hE.2
                  have HBE : Hid (build s 0 [] = .ok (L.map Prod.fst)) := hno.out.2.2.2.trans (build_end hpe)
                  obtain ⟨pa, pc, rfl⟩ := ownW_slice HS.out.parts
                  have m0 := HS.out.box.cell 0
                  have q0 := HS.out.two.pa.cell 0
                  have f0 := HS.out.two.pa.frozen 0
                  obtain ⟨y0, y1⟩ := HS.out.two.pf.two
                  have g0 := HS.out.two.pf.frozen 0
                  have g1 := HS.out.two.pf.frozen 1
                  clear hno
                  by_cases h20 : 20 < L.length
                  · have h20i : (20 : Int) < (L.length : Int) := by omega
                    have HR : Hid (readO s = .bad 7 s.size) := (ro7 hs hE HB3.out HB4.out HB5.out HBE.out).trans (if_pos (by rw [List.length_map]; exact h20))
                    go_wp2_with fail
                    exact bad_end HS.out.two HR.out rfl rfl
                  · have h20i : ¬ (20 : Int) < (L.length : Int) := by omega
                    have HR : Hid (readO s = .ok (L.map Prod.fst)) := (ro7 hs hE HB3.out HB4.out HB5.out HBE.out).trans (if_neg (by rw [List.length_map]; exact h20))
                    go_wp2_with fail
                    exact ok_end HS.out.two HS.out.own HR.out rfl rfl
end Go.Proofs.Ytgcpiinmcbdkmaa
