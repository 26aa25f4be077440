/-
  Control: the specification's.
-/
import Derived.Test.YtecljmpojninfaaT30
import Derived.Test.YtecljmpojninfaaT8
import Derived.Test.YtecljmpojninfaaT9
import Derived.Deep.CutBlock
namespace Go.Proofs.Ytecljmpojninfaa
open Go.RowKit Va Lb
set_option linter.all false

theorem offs_get {t : Int} {l : List Int} {i j : Nat} {y : Int} (hj : j < i + 1) (hy : l[j]? = some y) : (offs t (l.take (i + 1)))[j]? = some (y - t) := by
  unfold offs
  rw [List.getElem?_map, List.getElem?_take, if_pos hj, hy]
  rfl
theorem offs_len {t : Int} {l : List Int} {i : Nat} (hi : i < l.length) : (offs t (l.take (i + 1))).length = i + 1 := by
  unfold offs
  rw [List.length_map, List.length_take]
  omega

set_option maxRecDepth 20000 in
set_option maxHeartbeats 16000000 in
theorem scontrol_any (t s : Int) (ao : Option Addr) (n cap : Nat) (l : List Int) (w : World) (h : VRw 1 cvI w (.slice ao n cap) l) (hn : l.length ≤ 1048576) :
    Calls Try.prog 12 #[.int .i64 t, .int .i64 s, .slice ao n cap] w fun e w' => ∃ v', e = .returned v' ∧ VOwn 1 cvI w' w.heap.size v' (control t s l) ∧ Below w.heap.size w w' := by
  obtain rfl := h.len
  have HR := hidden h
  have HV : Hid (control t s l = if CtlOk t s l then ctlTo t s l l.length else []) := rfl
  obtain ⟨i0, hi0, hv0, hv1, hv2⟩ := info_partsW infoW64
  have HOA := hidden (ownW_new w 2 1)
  have HBA : Hid (Below w.heap.size w (w.alloc (.cells #[] 2))) := (Below.refl _ _).alloc (Nat.le_refl _) _
  generalize control t s l = R at *
  clear h
  have kt := svalue_any t
  have ks := lin_any s 1 100000
  have bad : ¬ CtlOk t s l → R = [] := fun q => by rw [HV.out, if_neg q]
  cases g1 : vlB t with
  | false =>
    have HN := hidden (bad (fun q => by rw [vlB_iff.2 q.1] at g1; cases g1))
    rw [g1] at kt
    clear bad HV
    go_enter Try.func12, Try.ntmps12
    go_wp2_with (go_at_call 41; refine (kt _).mono ?_; rintro e w1 ⟨rfl, hw1⟩; obtain rfl := hw1)
    go_ret
    exact vownE (b := 0) HN.out rfl HOA.out HBA.out
  | true =>
  have ht := vlB_iff.1 g1
  rw [g1] at kt
  cases g2 : rng s 1 100000 with
  | false =>
    have HN := hidden (bad (fun q => by rw [rng_iff.2 q.2.1] at g2; cases g2))
    rw [g2] at ks
    clear bad HV
    go_enter Try.func12, Try.ntmps12
    go_wp2_with (first | (go_at_call 41; refine (kt _).mono ?_; rintro e w1 ⟨rfl, hw1⟩; obtain rfl := hw1) | (go_at_call 42; refine (ks _).mono ?_; rintro e w1 ⟨rfl, rfl⟩))
    go_ret
    exact vownE (b := 0) HN.out rfl HOA.out HBA.out
  | true =>
  have hs := rng_iff.1 g2
  rw [g2] at ks
  clear g1 g2
  by_cases g3 : (2000 : Int) < (l.length : Int)
  · have HN := hidden (bad (fun q => by have := q.2.2.1; omega))
    clear bad HV
    go_enter Try.func12, Try.ntmps12
    go_wp2_with (first | (go_at_call 41; refine (kt _).mono ?_; rintro e w1 ⟨rfl, hw1⟩; obtain rfl := hw1) | (go_at_call 42; refine (ks _).mono ?_; rintro e w1 ⟨rfl, rfl⟩))
    go_ret
    exact vownE (b := 0) HN.out rfl HOA.out HBA.out
  have HBD := hidden bad
  clear bad
  go_enter Try.func12, Try.ntmps12
  go_wp2_with (first | (go_at_call 41; refine (kt _).mono ?_; rintro e w1 ⟨rfl, hw1⟩; obtain rfl := hw1) | (go_at_call 42; refine (ks _).mono ?_; rintro e w1 ⟨rfl, rfl⟩))
  clear kt ks
  generalize hW0 : w.alloc (.cells #[] 2) = w0 at *
  go_loopw [8] (fun iv wr => ∃ i : Nat, i ≤ l.length ∧ iv = .int .i64 i ∧ wr = w0 ∧ Hid (∀ y ∈ l.take i, -100000 ≤ y ∧ y ≤ 100000)) (fun iv _ => l.length - (intOf iv).toNat)
  case atStart => exact ⟨0, Nat.zero_le _, rfl, rfl, by intro y hy; simp at hy⟩
  case round =>
    obtain ⟨i, hi, rfl, hwr, hok⟩ := hrel
    have hwr' := hwr.symm
    clear hwr
    subst hwr'
    by_cases hlt : i < l.length
    · have hlti : (i : Int) < (l.length : Int) := by omega
      obtain ⟨y, hy⟩ := some_of l i hlt
      obtain ⟨g, off, rfl, hg, c0⟩ := vint_cell (HR.out.below HBA.out) hy
      have ky := svalue_any y
      cases q1 : vlB y with
      | false =>
        have HN := hidden (HBD.out (fun q => by have := vlB_iff.2 (q.2.2.2 y (List.mem_of_getElem? hy)); rw [q1] at this; cases this))
        rw [q1] at ky
        clear hy q1
        go_wp2_with (go_at_call 41; refine (ky _).mono ?_; rintro e w1 ⟨rfl, hw1⟩; obtain rfl := hw1)
        go_ret
        exact vownE (b := 0) HN.out rfl HOA.out HBA.out
      | true =>
        have HN : Hid (∀ y ∈ l.take (i + 1), -100000 ≤ y ∧ y ≤ 100000) := by
          rw [Hid, take_snL hy]
          intro z hz
          rcases List.mem_append.1 hz with q | q
          · exact hok.out z q
          · simp at q; subst q; exact vlB_iff.1 q1
        rw [q1] at ky
        clear hy q1
        go_wp2_with (go_at_call 41; refine (ky _).mono ?_; rintro e w1 ⟨rfl, hw1⟩; obtain rfl := hw1)
        go_roundw
        case rel => exact ⟨i + 1, by omega, rfl, by simp, HN⟩
        case measure => simp [intOf]; omega
    · have hlti : ¬ (i : Int) < (l.length : Int) := by omega
      have HCk : Hid (CtlOk t s l) := ⟨ht, hs, by omega, by have := hok.out; rw [List.take_of_length_le (by omega)] at this; exact this⟩
      have HN : Hid (R = ctlTo t s l l.length) := by rw [Hid, HV.out, if_pos HCk.out]
      obtain ⟨ht0, ht1⟩ := ht
      obtain ⟨hs0, hs1⟩ := hs
      clear hok hi hlt HBD HV
      go_wp2_with fail
      go_loopw [7, 9, 10, 11, 12, 13, 14, 15, 16, 17, 18, 19, 20] (fun ov iv _ _ _ _ _ _ _ _ _ _ _ wr => ∃ i : Nat, i ≤ l.length ∧ iv = .int .i64 i ∧ (∃ ad c, ov = .slice ad i c ∧ wr.ownsRow w.heap.size 2 1 (.slice ad i c) i ((ctlTo t s l i).map fun z => Value.int .i64 z)) ∧ Below w.heap.size w wr) (fun _ iv _ _ _ _ _ _ _ _ _ _ _ _ => l.length - (intOf iv).toNat)
      case atStart => exact ⟨0, Nat.zero_le _, rfl, ⟨_, _, rfl, HOA.out⟩, HBA.out⟩
      case round =>
        clear HOA HBA
        obtain ⟨i, hi, rfl, ⟨ad, c, rfl, ho⟩, hb⟩ := hrel
        obtain ⟨w7, hw7⟩ : ∃ w7, w7 = wr := ⟨_, rfl⟩
        subst hw7
        have HO := hidden ho
        have HB7 := hidden hb
        have hsz := hb.size
        clear ho
        by_cases hlt : i < l.length
        · have hlti : (i : Int) < (l.length : Int) := by omega
          obtain ⟨x, hx⟩ := some_of l i hlt
          have hxb := HCk.out.2.2.2 x (List.mem_of_getElem? hx)
          obtain ⟨hx0, hx1⟩ := hxb
          obtain ⟨g, off, rfl, hg, c0⟩ := vint_cell (HR.out.below hb) hx
          have HX := hidden hx
          have HLn := hidden (offs_len (t := t) hlt)
          clear hx hb
          go_upto_if 62 with fail
          go_cut [11] (fun bv wx => ∃ b : Int, bv = .int .i64 b ∧ -200000 ≤ b ∧ b ≤ 200000 ∧ Hid ((0 < i → (offs t (l.take (i + 1)))[i - 1]? = some b) ∧ (i = 0 → b = 0)) ∧ wx = w7)
          case first =>
            by_cases hi0' : 0 < i
            · have hi1 : (0 : Int) < (i : Int) := by omega
              obtain ⟨K, hK, hK2⟩ : ∃ K : Nat, (i : Int) - 1 = (K : Int) ∧ K = i - 1 := ⟨i - 1, by omega, rfl⟩
              obtain ⟨y, hy⟩ := some_of l K (by omega)
              have hyb := HCk.out.2.2.2 y (List.mem_of_getElem? hy)
              obtain ⟨g', off', he, hg', e0⟩ := vint_cell (HR.out.below HB7.out) hy
              obtain ⟨rfl, rfl⟩ : g = g' ∧ off = off' := by simpa using he
              have HOF : Hid ((offs t (l.take (i + 1)))[i - 1]? = some (y - t)) := by rw [← hK2]; exact offs_get (by omega) hy
              have hKl : (i : Int) - 1 < (l.length : Int) := by omega
              have hK0 : (0 : Int) ≤ (i : Int) - 1 := by omega
              have hKt : ((i : Int) - 1).toNat = K := by omega
              clear hy he hK2 hK
              go_wp2_with fail
              go_meet
              case rel => exact ⟨y - t, rfl, by omega, by omega, ⟨fun _ => HOF.out, fun e => by omega⟩, by simp⟩
            · have hi1 : ¬ (0 : Int) < (i : Int) := by omega
              go_wp2_with fail
              go_meet
              case rel => exact ⟨0, rfl, by omega, by omega, ⟨fun e => absurd e hi0', fun _ => rfl⟩, by simp⟩
          case rest =>
            obtain ⟨b, rfl, hb0, hb1, HBB, hwx⟩ := hcut
            have hwx' := hwx.symm
            clear hwx
            subst hwx'
            obtain ⟨d, hd, hd0, hd1⟩ : ∃ d : Int, d = x - t ∧ -200000 ≤ d ∧ d ≤ 200000 := ⟨_, rfl, by omega, by omega⟩
            go_upto_block 4 with fail
            go_cut [12, 16] (fun av _ wx => ∃ n : Nat, av = .int .i64 n ∧ n ≤ i + 1 ∧ Hid (Run (fun x => decide ((0 : Int) < x)) (offs t (l.take (i + 1))) n) ∧ wx = w7)
            case first =>
              as_aux_lemma =>
                go_wp2_with fail
                go_loopw [12, 16] (fun av kv wk => ∃ n : Nat, n ≤ i + 1 ∧ av = .int .i64 n ∧ kv = .int .i64 ((i : Int) - (n : Int)) ∧ Hid (∀ j x, i + 1 - n ≤ j → (offs t (l.take (i + 1)))[j]? = some x → ((0 : Int) < x)) ∧ wk = w7) (fun _ kv _ => (intOf kv + 1).toNat)
                case atStart => exact ⟨0, by omega, rfl, by simp, (fun j x hj hx => by have := get_ltL hx; rw [HLn.out] at this; omega), rfl⟩
                case round =>
                  obtain ⟨n, hn, rfl, rfl, HP, hwr⟩ := hrel
                  have hwr' := hwr.symm
                  clear hwr
                  subst hwr'
                  by_cases hk : n ≤ i
                  · obtain ⟨K, hK, hK2⟩ : ∃ K : Nat, (i : Int) - (n : Int) = (K : Int) ∧ K = i - n := ⟨i - n, by omega, rfl⟩
                    rw [hK]
                    have hKl : (K : Int) < (l.length : Int) := by omega
                    have hK0 : (0 : Int) ≤ (K : Int) := by omega
                    obtain ⟨y, hy⟩ := some_of l K (by omega)
                    have hyb := HCk.out.2.2.2 y (List.mem_of_getElem? hy)
                    obtain ⟨g', off', he, hg', e0⟩ := vint_cell (HR.out.below HB7.out) hy
                    obtain ⟨rfl, rfl⟩ : g = g' ∧ off = off' := by simpa using he
                    have HOF : Hid ((offs t (l.take (i + 1)))[K]? = some (y - t)) := offs_get (by omega) hy
                    have HKK := hidden (And.intro hK hK2)
                    clear hy he hK hK2
                    by_cases q : (0 : Int) < y - t
                    · have HP2 : Hid (∀ j x, i + 1 - (n + 1) ≤ j → (offs t (l.take (i + 1)))[j]? = some x → ((0 : Int) < x)) := by
                        intro j x hj hx
                        by_cases e : j = K
                        · subst e
                          obtain rfl : y - t = x := Option.some.inj (HOF.out.symm.trans hx)
                          omega
                        · exact HP.out j x (by have := HKK.out.2; omega) hx
                      go_wp2_with fail
                      go_roundw
                      case rel => exact ⟨n + 1, by omega, rfl, by have := HKK.out.1; congr 1; omega, HP2, by simp⟩
                      case measure => have := HKK.out.1; first | (simp [intOf]; done) | (simp [intOf]; omega)
                    · have HRun : Hid (Run (fun x => decide ((0 : Int) < x)) (offs t (l.take (i + 1))) n) := by
                        refine ⟨by rw [HLn.out]; omega, fun j x hj hx => decide_eq_true (HP.out j x (by rw [HLn.out] at hj; exact hj) hx), fun x h9 hx => ?_⟩
                        rw [HLn.out, show i + 1 - 1 - n = K by have := HKK.out.2; omega, HOF.out] at hx
                        obtain rfl : y - t = x := Option.some.inj hx
                        rw [decide_eq_false_iff_not]
                        omega
                      go_wp2_with fail
                      go_meet
                      case rel => exact ⟨n, rfl, by omega, HRun, by simp⟩
                  · have hk2 : ¬ (0 : Int) ≤ (i : Int) - (n : Int) := by omega
                    have HRun : Hid (Run (fun x => decide ((0 : Int) < x)) (offs t (l.take (i + 1))) n) := by
                      refine ⟨by rw [HLn.out]; omega, fun j x hj hx => decide_eq_true (HP.out j x (by rw [HLn.out] at hj; exact hj) hx), fun x h9 hx => ?_⟩
                      rw [HLn.out] at h9; omega
                    go_wp2_with fail
                    go_meet
                    case rel => exact ⟨n, rfl, by omega, HRun, by simp⟩
            case rest =>
              obtain ⟨ab, rfl, hab, Hab, hwx⟩ := hcut
              have hwx' := hwx.symm
              clear hwx
              subst hwx'
              go_upto_block 6 with fail
              go_cut [13, 17] (fun av _ wx => ∃ n : Nat, av = .int .i64 n ∧ n ≤ i + 1 ∧ Hid (Run (fun x => decide (x < -(0 : Int))) (offs t (l.take (i + 1))) n) ∧ wx = w7)
              case first =>
                as_aux_lemma =>
                  go_wp2_with fail
                  go_loopw [13, 17] (fun av kv wk => ∃ n : Nat, n ≤ i + 1 ∧ av = .int .i64 n ∧ kv = .int .i64 ((i : Int) - (n : Int)) ∧ Hid (∀ j x, i + 1 - n ≤ j → (offs t (l.take (i + 1)))[j]? = some x → (x < -(0 : Int))) ∧ wk = w7) (fun _ kv _ => (intOf kv + 1).toNat)
                  case atStart => exact ⟨0, by omega, rfl, by simp, (fun j x hj hx => by have := get_ltL hx; rw [HLn.out] at this; omega), rfl⟩
                  case round =>
                    obtain ⟨n, hn, rfl, rfl, HP, hwr⟩ := hrel
                    have hwr' := hwr.symm
                    clear hwr
                    subst hwr'
                    by_cases hk : n ≤ i
                    · obtain ⟨K, hK, hK2⟩ : ∃ K : Nat, (i : Int) - (n : Int) = (K : Int) ∧ K = i - n := ⟨i - n, by omega, rfl⟩
                      rw [hK]
                      have hKl : (K : Int) < (l.length : Int) := by omega
                      have hK0 : (0 : Int) ≤ (K : Int) := by omega
                      obtain ⟨y, hy⟩ := some_of l K (by omega)
                      have hyb := HCk.out.2.2.2 y (List.mem_of_getElem? hy)
                      obtain ⟨g', off', he, hg', e0⟩ := vint_cell (HR.out.below HB7.out) hy
                      obtain ⟨rfl, rfl⟩ : g = g' ∧ off = off' := by simpa using he
                      have HOF : Hid ((offs t (l.take (i + 1)))[K]? = some (y - t)) := offs_get (by omega) hy
                      have HKK := hidden (And.intro hK hK2)
                      clear hy he hK hK2
                      by_cases q : y - t < 0
                      · have HP2 : Hid (∀ j x, i + 1 - (n + 1) ≤ j → (offs t (l.take (i + 1)))[j]? = some x → (x < -(0 : Int))) := by
                          intro j x hj hx
                          by_cases e : j = K
                          · subst e
                            obtain rfl : y - t = x := Option.some.inj (HOF.out.symm.trans hx)
                            omega
                          · exact HP.out j x (by have := HKK.out.2; omega) hx
                        go_wp2_with fail
                        go_roundw
                        case rel => exact ⟨n + 1, by omega, rfl, by have := HKK.out.1; congr 1; omega, HP2, by simp⟩
                        case measure => have := HKK.out.1; first | (simp [intOf]; done) | (simp [intOf]; omega)
                      · have HRun : Hid (Run (fun x => decide (x < -(0 : Int))) (offs t (l.take (i + 1))) n) := by
                          refine ⟨by rw [HLn.out]; omega, fun j x hj hx => decide_eq_true (HP.out j x (by rw [HLn.out] at hj; exact hj) hx), fun x h9 hx => ?_⟩
                          rw [HLn.out, show i + 1 - 1 - n = K by have := HKK.out.2; omega, HOF.out] at hx
                          obtain rfl : y - t = x := Option.some.inj hx
                          rw [decide_eq_false_iff_not]
                          omega
                        go_wp2_with fail
                        go_meet
                        case rel => exact ⟨n, rfl, by omega, HRun, by simp⟩
                    · have hk2 : ¬ (0 : Int) ≤ (i : Int) - (n : Int) := by omega
                      have HRun : Hid (Run (fun x => decide (x < -(0 : Int))) (offs t (l.take (i + 1))) n) := by
                        refine ⟨by rw [HLn.out]; omega, fun j x hj hx => decide_eq_true (HP.out j x (by rw [HLn.out] at hj; exact hj) hx), fun x h9 hx => ?_⟩
                        rw [HLn.out] at h9; omega
                      go_wp2_with fail
                      go_meet
                      case rel => exact ⟨n, rfl, by omega, HRun, by simp⟩
              case rest =>
                obtain ⟨be, rfl, hbe, Hbe, hwx⟩ := hcut
                have hwx' := hwx.symm
                clear hwx
                subst hwx'
                go_upto_block 8 with fail
                go_cut [14, 18] (fun av _ wx => ∃ n : Nat, av = .int .i64 n ∧ n ≤ i + 1 ∧ Hid (Run (fun x => decide (s < x)) (offs t (l.take (i + 1))) n) ∧ wx = w7)
                case first =>
                  as_aux_lemma =>
                    go_wp2_with fail
                    go_loopw [14, 18] (fun av kv wk => ∃ n : Nat, n ≤ i + 1 ∧ av = .int .i64 n ∧ kv = .int .i64 ((i : Int) - (n : Int)) ∧ Hid (∀ j x, i + 1 - n ≤ j → (offs t (l.take (i + 1)))[j]? = some x → (s < x)) ∧ wk = w7) (fun _ kv _ => (intOf kv + 1).toNat)
                    case atStart => exact ⟨0, by omega, rfl, by simp, (fun j x hj hx => by have := get_ltL hx; rw [HLn.out] at this; omega), rfl⟩
                    case round =>
                      obtain ⟨n, hn, rfl, rfl, HP, hwr⟩ := hrel
                      have hwr' := hwr.symm
                      clear hwr
                      subst hwr'
                      by_cases hk : n ≤ i
                      · obtain ⟨K, hK, hK2⟩ : ∃ K : Nat, (i : Int) - (n : Int) = (K : Int) ∧ K = i - n := ⟨i - n, by omega, rfl⟩
                        rw [hK]
                        have hKl : (K : Int) < (l.length : Int) := by omega
                        have hK0 : (0 : Int) ≤ (K : Int) := by omega
                        obtain ⟨y, hy⟩ := some_of l K (by omega)
                        have hyb := HCk.out.2.2.2 y (List.mem_of_getElem? hy)
                        obtain ⟨g', off', he, hg', e0⟩ := vint_cell (HR.out.below HB7.out) hy
                        obtain ⟨rfl, rfl⟩ : g = g' ∧ off = off' := by simpa using he
                        have HOF : Hid ((offs t (l.take (i + 1)))[K]? = some (y - t)) := offs_get (by omega) hy
                        have HKK := hidden (And.intro hK hK2)
                        clear hy he hK hK2
                        by_cases q : s < y - t
                        · have HP2 : Hid (∀ j x, i + 1 - (n + 1) ≤ j → (offs t (l.take (i + 1)))[j]? = some x → (s < x)) := by
                            intro j x hj hx
                            by_cases e : j = K
                            · subst e
                              obtain rfl : y - t = x := Option.some.inj (HOF.out.symm.trans hx)
                              omega
                            · exact HP.out j x (by have := HKK.out.2; omega) hx
                          go_wp2_with fail
                          go_roundw
                          case rel => exact ⟨n + 1, by omega, rfl, by have := HKK.out.1; congr 1; omega, HP2, by simp⟩
                          case measure => have := HKK.out.1; first | (simp [intOf]; done) | (simp [intOf]; omega)
                        · have HRun : Hid (Run (fun x => decide (s < x)) (offs t (l.take (i + 1))) n) := by
                            refine ⟨by rw [HLn.out]; omega, fun j x hj hx => decide_eq_true (HP.out j x (by rw [HLn.out] at hj; exact hj) hx), fun x h9 hx => ?_⟩
                            rw [HLn.out, show i + 1 - 1 - n = K by have := HKK.out.2; omega, HOF.out] at hx
                            obtain rfl : y - t = x := Option.some.inj hx
                            rw [decide_eq_false_iff_not]
                            omega
                          go_wp2_with fail
                          go_meet
                          case rel => exact ⟨n, rfl, by omega, HRun, by simp⟩
                      · have hk2 : ¬ (0 : Int) ≤ (i : Int) - (n : Int) := by omega
                        have HRun : Hid (Run (fun x => decide (s < x)) (offs t (l.take (i + 1))) n) := by
                          refine ⟨by rw [HLn.out]; omega, fun j x hj hx => decide_eq_true (HP.out j x (by rw [HLn.out] at hj; exact hj) hx), fun x h9 hx => ?_⟩
                          rw [HLn.out] at h9; omega
                        go_wp2_with fail
                        go_meet
                        case rel => exact ⟨n, rfl, by omega, HRun, by simp⟩
                case rest =>
                  obtain ⟨fa, rfl, hfa, Hfa, hwx⟩ := hcut
                  have hwx' := hwx.symm
                  clear hwx
                  subst hwx'
                  go_upto_block 10 with fail
                  go_cut [15, 19] (fun av _ wx => ∃ n : Nat, av = .int .i64 n ∧ n ≤ i + 1 ∧ Hid (Run (fun x => decide (x < -s)) (offs t (l.take (i + 1))) n) ∧ wx = w7)
                  case first =>
                    as_aux_lemma =>
                      go_wp2_with fail
                      go_loopw [15, 19] (fun av kv wk => ∃ n : Nat, n ≤ i + 1 ∧ av = .int .i64 n ∧ kv = .int .i64 ((i : Int) - (n : Int)) ∧ Hid (∀ j x, i + 1 - n ≤ j → (offs t (l.take (i + 1)))[j]? = some x → (x < -s)) ∧ wk = w7) (fun _ kv _ => (intOf kv + 1).toNat)
                      case atStart => exact ⟨0, by omega, rfl, by simp, (fun j x hj hx => by have := get_ltL hx; rw [HLn.out] at this; omega), rfl⟩
                      case round =>
                        obtain ⟨n, hn, rfl, rfl, HP, hwr⟩ := hrel
                        have hwr' := hwr.symm
                        clear hwr
                        subst hwr'
                        by_cases hk : n ≤ i
                        · obtain ⟨K, hK, hK2⟩ : ∃ K : Nat, (i : Int) - (n : Int) = (K : Int) ∧ K = i - n := ⟨i - n, by omega, rfl⟩
                          rw [hK]
                          have hKl : (K : Int) < (l.length : Int) := by omega
                          have hK0 : (0 : Int) ≤ (K : Int) := by omega
                          obtain ⟨y, hy⟩ := some_of l K (by omega)
                          have hyb := HCk.out.2.2.2 y (List.mem_of_getElem? hy)
                          obtain ⟨g', off', he, hg', e0⟩ := vint_cell (HR.out.below HB7.out) hy
                          obtain ⟨rfl, rfl⟩ : g = g' ∧ off = off' := by simpa using he
                          have HOF : Hid ((offs t (l.take (i + 1)))[K]? = some (y - t)) := offs_get (by omega) hy
                          have HKK := hidden (And.intro hK hK2)
                          clear hy he hK hK2
                          by_cases q : y - t < -s
                          · have HP2 : Hid (∀ j x, i + 1 - (n + 1) ≤ j → (offs t (l.take (i + 1)))[j]? = some x → (x < -s)) := by
                              intro j x hj hx
                              by_cases e : j = K
                              · subst e
                                obtain rfl : y - t = x := Option.some.inj (HOF.out.symm.trans hx)
                                omega
                              · exact HP.out j x (by have := HKK.out.2; omega) hx
                            go_wp2_with fail
                            go_roundw
                            case rel => exact ⟨n + 1, by omega, rfl, by have := HKK.out.1; congr 1; omega, HP2, by simp⟩
                            case measure => have := HKK.out.1; first | (simp [intOf]; done) | (simp [intOf]; omega)
                          · have HRun : Hid (Run (fun x => decide (x < -s)) (offs t (l.take (i + 1))) n) := by
                              refine ⟨by rw [HLn.out]; omega, fun j x hj hx => decide_eq_true (HP.out j x (by rw [HLn.out] at hj; exact hj) hx), fun x h9 hx => ?_⟩
                              rw [HLn.out, show i + 1 - 1 - n = K by have := HKK.out.2; omega, HOF.out] at hx
                              obtain rfl : y - t = x := Option.some.inj hx
                              rw [decide_eq_false_iff_not]
                              omega
                            go_wp2_with fail
                            go_meet
                            case rel => exact ⟨n, rfl, by omega, HRun, by simp⟩
                        · have hk2 : ¬ (0 : Int) ≤ (i : Int) - (n : Int) := by omega
                          have HRun : Hid (Run (fun x => decide (x < -s)) (offs t (l.take (i + 1))) n) := by
                            refine ⟨by rw [HLn.out]; omega, fun j x hj hx => decide_eq_true (HP.out j x (by rw [HLn.out] at hj; exact hj) hx), fun x h9 hx => ?_⟩
                            rw [HLn.out] at h9; omega
                          go_wp2_with fail
                          go_meet
                          case rel => exact ⟨n, rfl, by omega, HRun, by simp⟩
                  case rest =>
                    obtain ⟨ne, rfl, hne, Hne, hwx⟩ := hcut
                    have hwx' := hwx.symm
                    clear hwx
                    subst hwx'
                    go_upto_block 12 with fail
                    rw [← hd]
                    have HD := hidden hd
                    clear c0 hd
                    go_cut [20] (fun cv wx => cv = .int .i64 (codeS s d b fa ne ab be) ∧ wx = w7)
                    case first =>
                      as_aux_lemma =>
                        have q1 : -200000 ≤ d := by omega
                        have q2 : d ≤ 200000 := by omega
                        by_cases d1 : 3 * s < d
                        · have HC : Hid (codeS s d b fa ne ab be = 1) := (by show codeS s d b fa ne ab be = 1; unfold codeS; repeat (first | rw [if_pos (by omega)] | rw [if_neg (by omega)]))
                          go_wp2_with fail
                          go_meet
                          case rel => exact ⟨by rw [HC.out], by simp⟩
                        by_cases d2 : d < -3 * s
                        · have HC : Hid (codeS s d b fa ne ab be = 1) := (by show codeS s d b fa ne ab be = 1; unfold codeS; repeat (first | rw [if_pos (by omega)] | rw [if_neg (by omega)]))
                          go_wp2_with fail
                          go_meet
                          case rel => exact ⟨by rw [HC.out], by simp⟩
                        by_cases d3 : 2 * s < d
                        · have d4 : ¬ d < -2 * s := by omega
                          by_cases b1 : 2 * s < b
                          · have HC : Hid (codeS s d b fa ne ab be = 2) := (by show codeS s d b fa ne ab be = 2; unfold codeS; repeat (first | rw [if_pos (by omega)] | rw [if_neg (by omega)]))
                            go_wp2_with fail
                            go_meet
                            case rel => exact ⟨by rw [HC.out], by simp⟩
                          by_cases b2 : b < -2 * s
                          · have HC : Hid (codeS s d b fa ne ab be = 3) := (by show codeS s d b fa ne ab be = 3; unfold codeS; repeat (first | rw [if_pos (by omega)] | rw [if_neg (by omega)]))
                            go_wp2_with fail
                            go_meet
                            case rel => exact ⟨by rw [HC.out], by simp⟩
                          by_cases f1 : (4 : Int) ≤ (fa : Int)
                          · have HC : Hid (codeS s d b fa ne ab be = 4) := (by show codeS s d b fa ne ab be = 4; unfold codeS; repeat (first | rw [if_pos (by omega)] | rw [if_neg (by omega)]))
                            go_wp2_with fail
                            go_meet
                            case rel => exact ⟨by rw [HC.out], by simp⟩
                          by_cases f2 : (4 : Int) ≤ (ne : Int)
                          · have HC : Hid (codeS s d b fa ne ab be = 4) := (by show codeS s d b fa ne ab be = 4; unfold codeS; repeat (first | rw [if_pos (by omega)] | rw [if_neg (by omega)]))
                            go_wp2_with fail
                            go_meet
                            case rel => exact ⟨by rw [HC.out], by simp⟩
                          by_cases f3 : (10 : Int) ≤ (ab : Int)
                          · have HC : Hid (codeS s d b fa ne ab be = 5) := (by show codeS s d b fa ne ab be = 5; unfold codeS; repeat (first | rw [if_pos (by omega)] | rw [if_neg (by omega)]))
                            go_wp2_with fail
                            go_meet
                            case rel => exact ⟨by rw [HC.out], by simp⟩
                          by_cases f4 : (10 : Int) ≤ (be : Int)
                          · have HC : Hid (codeS s d b fa ne ab be = 5) := (by show codeS s d b fa ne ab be = 5; unfold codeS; repeat (first | rw [if_pos (by omega)] | rw [if_neg (by omega)]))
                            go_wp2_with fail
                            go_meet
                            case rel => exact ⟨by rw [HC.out], by simp⟩
                          have HC : Hid (codeS s d b fa ne ab be = 6) := (by show codeS s d b fa ne ab be = 6; unfold codeS; repeat (first | rw [if_pos (by omega)] | rw [if_neg (by omega)]))
                          go_wp2_with fail
                          go_meet
                          case rel => exact ⟨by rw [HC.out], by simp⟩
                        by_cases d4 : d < -2 * s
                        · by_cases b2 : b < -2 * s
                          · have HC : Hid (codeS s d b fa ne ab be = 2) := (by show codeS s d b fa ne ab be = 2; unfold codeS; repeat (first | rw [if_pos (by omega)] | rw [if_neg (by omega)]))
                            go_wp2_with fail
                            go_meet
                            case rel => exact ⟨by rw [HC.out], by simp⟩
                          by_cases b1 : 2 * s < b
                          · have HC : Hid (codeS s d b fa ne ab be = 3) := (by show codeS s d b fa ne ab be = 3; unfold codeS; repeat (first | rw [if_pos (by omega)] | rw [if_neg (by omega)]))
                            go_wp2_with fail
                            go_meet
                            case rel => exact ⟨by rw [HC.out], by simp⟩
                          by_cases f1 : (4 : Int) ≤ (fa : Int)
                          · have HC : Hid (codeS s d b fa ne ab be = 4) := (by show codeS s d b fa ne ab be = 4; unfold codeS; repeat (first | rw [if_pos (by omega)] | rw [if_neg (by omega)]))
                            go_wp2_with fail
                            go_meet
                            case rel => exact ⟨by rw [HC.out], by simp⟩
                          by_cases f2 : (4 : Int) ≤ (ne : Int)
                          · have HC : Hid (codeS s d b fa ne ab be = 4) := (by show codeS s d b fa ne ab be = 4; unfold codeS; repeat (first | rw [if_pos (by omega)] | rw [if_neg (by omega)]))
                            go_wp2_with fail
                            go_meet
                            case rel => exact ⟨by rw [HC.out], by simp⟩
                          by_cases f3 : (10 : Int) ≤ (ab : Int)
                          · have HC : Hid (codeS s d b fa ne ab be = 5) := (by show codeS s d b fa ne ab be = 5; unfold codeS; repeat (first | rw [if_pos (by omega)] | rw [if_neg (by omega)]))
                            go_wp2_with fail
                            go_meet
                            case rel => exact ⟨by rw [HC.out], by simp⟩
                          by_cases f4 : (10 : Int) ≤ (be : Int)
                          · have HC : Hid (codeS s d b fa ne ab be = 5) := (by show codeS s d b fa ne ab be = 5; unfold codeS; repeat (first | rw [if_pos (by omega)] | rw [if_neg (by omega)]))
                            go_wp2_with fail
                            go_meet
                            case rel => exact ⟨by rw [HC.out], by simp⟩
                          have HC : Hid (codeS s d b fa ne ab be = 6) := (by show codeS s d b fa ne ab be = 6; unfold codeS; repeat (first | rw [if_pos (by omega)] | rw [if_neg (by omega)]))
                          go_wp2_with fail
                          go_meet
                          case rel => exact ⟨by rw [HC.out], by simp⟩
                        by_cases f1 : (4 : Int) ≤ (fa : Int)
                        · have HC : Hid (codeS s d b fa ne ab be = 4) := (by show codeS s d b fa ne ab be = 4; unfold codeS; repeat (first | rw [if_pos (by omega)] | rw [if_neg (by omega)]))
                          go_wp2_with fail
                          go_meet
                          case rel => exact ⟨by rw [HC.out], by simp⟩
                        by_cases f2 : (4 : Int) ≤ (ne : Int)
                        · have HC : Hid (codeS s d b fa ne ab be = 4) := (by show codeS s d b fa ne ab be = 4; unfold codeS; repeat (first | rw [if_pos (by omega)] | rw [if_neg (by omega)]))
                          go_wp2_with fail
                          go_meet
                          case rel => exact ⟨by rw [HC.out], by simp⟩
                        by_cases f3 : (10 : Int) ≤ (ab : Int)
                        · have HC : Hid (codeS s d b fa ne ab be = 5) := (by show codeS s d b fa ne ab be = 5; unfold codeS; repeat (first | rw [if_pos (by omega)] | rw [if_neg (by omega)]))
                          go_wp2_with fail
                          go_meet
                          case rel => exact ⟨by rw [HC.out], by simp⟩
                        by_cases f4 : (10 : Int) ≤ (be : Int)
                        · have HC : Hid (codeS s d b fa ne ab be = 5) := (by show codeS s d b fa ne ab be = 5; unfold codeS; repeat (first | rw [if_pos (by omega)] | rw [if_neg (by omega)]))
                          go_wp2_with fail
                          go_meet
                          case rel => exact ⟨by rw [HC.out], by simp⟩
                        have HC : Hid (codeS s d b fa ne ab be = 0) := (by show codeS s d b fa ne ab be = 0; unfold codeS; repeat (first | rw [if_pos (by omega)] | rw [if_neg (by omega)]))
                        go_wp2_with fail
                        go_meet
                        case rel => exact ⟨by rw [HC.out], by simp⟩
                    case rest =>
                      obtain ⟨rfl, hwx⟩ := hcut
                      have hwx' := hwx.symm
                      clear hwx
                      subst hwx'
                      have HCR : Hid (ctlTo t s l (i + 1) = ctlTo t s l i ++ [codeS s d b fa ne ab be]) := by
                        rw [Hid, ctlTo, codeS_eq (d := d) (b := b) hs0 HLn.out (by rw [HD.out]; exact offs_get (Nat.lt_succ_self _) HX.out) HBB.out Hfa.out Hne.out Hab.out Hbe.out]
                      generalize codeS s d b fa ne ab be = C at *
                      go_wp2_with (at_builtin; refine wpList_append_own _ rfl (.tmp 219) (.tmp 221) 24 rfl w.heap.size 2 i0 (.int .i64 0) 1 8 Try.underlying24 hi0 hv0 hv1 hv2 rfl (by decide) _ i ((ctlTo t s l i).map fun z => Value.int .i64 z) rfl (HO.out.alloc _) ⟨w7.heap.size, 0, none⟩ 1 1 [.int .i64 C] rfl rfl (cell_oneW _ _ _) (by simp [Value.oneCell']) (by unfold maxLen; omega) (by omega) (by simp; omega) ?_; intro v5 w5 ho5 hg5 hn5; obtain ⟨ad5, c5, rfl⟩ := ownW_slice ho5)
                      have b5 := (HB7.out.alloc HB7.out.size (.cells #[.int .i64 C] 2)).grown hg5 (by have := HB7.out.size; simp; omega) (fun k hk => (ownW_lt HO.out k hk).1)
                      go_roundw
                      case rel => exact ⟨i + 1, by omega, rfl, ⟨_, _, rfl, by rw [HCR.out, List.map_append]; exact ho5⟩, b5⟩
                      case measure => simp [intOf]; omega
        · have hlti : ¬ (i : Int) < (l.length : Int) := by omega
          have hil : i = l.length := by omega
          subst hil
          go_wp2_with fail
          go_ret
          rw [HN.out]
          exact ⟨_, rfl, vownI (by rw [ctlTo_len]; exact HO.out), HB7.out⟩
end Go.Proofs.Ytecljmpojninfaa
