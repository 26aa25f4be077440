/-
  The roster's law: the walk.
-/
import Derived.Test.YtgcpiinmcbdkmaaRo13
import Derived.Test.YtgcpiinmcbdkmaaBy
namespace Go.Proofs.Ytgcpiinmcbdkmaa
open Go.RowKit Go.WideShapes Va Lb Sy Ro Go.Maps
set_option linter.all false

set_option maxRecDepth 20000 in
set_option maxHeartbeats 2000000 in
theorem sameR_any (a1 : Option Addr) (n1 c1 : Nat) (a2 : Option Addr) (n2 c2 : Nat) (l : List Int) (w : World) (h : VRw 1 cvI w (.slice a1 n1 c1) l) (h' : VRw 1 cvI w (.slice a2 n2 c2) l) (hn : l.length ≤ 1048576) :
    Calls Try.prog 11 #[.slice a1 n1 c1, .slice a2 n2 c2] w fun e w' => e = .returned (.bool true) ∧ Below w.heap.size w w' := by
  obtain rfl := h.len
  obtain rfl := h'.len
  have HH := hidden h
  have HH' := hidden h'
  clear h h'
  go_enter Try.func11, Try.ntmps11
  go_wp2_with fail
  go_loopw [5] (fun iv wr => ∃ i : Nat, i ≤ l.length ∧ iv = .int .i64 i ∧ Below w.heap.size w wr) (fun iv _ => l.length - (intOf iv).toNat)
  case atStart => exact ⟨0, Nat.zero_le _, rfl, Below.refl _ _⟩
  case round =>
    obtain ⟨i, hil, rfl, hb⟩ := hrel
    by_cases hlt : i < l.length
    · have hlti : (i : Int) < (l.length : Int) := by omega
      obtain ⟨x, hx⟩ := some_of l i hlt
      obtain ⟨g, off, rfl, hg, k0⟩ := vint_cell (HH.out.below hb) hx
      obtain ⟨g', off', rfl, hg', d0⟩ := vint_cell (HH'.out.below hb) hx
      clear hx
      go_wp2_with fail
      go_quiet (fail)
      go_wp2_with fail
      go_roundw
      case rel => exact ⟨i + 1, by omega, rfl, by repeat (first | exact Below.refl _ _ | assumption | refine st_drew ?_ | refine st_drewN ?_ _ | refine Below.setCell ?_ (by first | omega | (simp; done) | (simp; omega)) _ | refine Below.alloc ?_ (by first | omega | (simp; done) | (simp; omega)) _)⟩
      case measure => simp [intOf]; omega
    · have hlti : ¬ (i : Int) < (l.length : Int) := by omega
      go_wp2_with fail
      go_ret
      exact ⟨rfl, hb⟩
theorem ros_run (people need : Nat) (run : Int) (h0 : 0 ≤ run) : ∀ d, ∀ x ∈ (ros people need run d).1, x.2 ≤ run
  | 0 => by
    intro x hx
    simp [ros] at hx
    rw [hx.2]; exact h0
  | d + 1 => by
    intro x hx
    obtain ⟨p, hp, rfl⟩ := List.mem_iff_getElem.1 hx
    have h := List.getElem?_eq_getElem hp
    rw [ros] at hp
    have hp' : p < (ros people need run d).1.length := by simpa [next_len] using hp
    have h2 := next_get (ws := (ros people need run d).1) (c := chosen (ros people need run d).1 need run) hp'
    have h3 : (ros people need run (d + 1)).1[p]? = some (behind ((ros people need run d).1.getD p (0, 0)) (decide ((p : Int) ∈ chosen (ros people need run d).1 need run))) := by rw [ros]; exact h2
    rw [h] at h3
    rw [Option.some.inj h3]
    by_cases hc : (p : Int) ∈ chosen (ros people need run d).1 need run
    · have := chosen_less hc
      rw [decide_eq_true hc]
      show ((ros people need run d).1.getD p (0, 0)).2 + 1 ≤ run
      omega
    · rw [decide_eq_false hc]; exact h0

set_option maxRecDepth 20000 in
set_option maxHeartbeats 16000000 in
theorem fros_walk (ao : Option Addr) (cap : Nat) (bs : List Int) (w : World) (hb : Bytes w w.heap.size ao bs) :
    Calls Try.prog 4 #[.slice ao bs.length cap] w fun e w' => e = .returned (.bool true) ∧ Below w.heap.size w w' := by
  have kb := big_any ao cap bs.length w
  by_cases hbig : (4096 : Int) < (bs.length : Int)
  · rw [decide_eq_true hbig] at kb
    clear hb
    go_enter Try.func4, Try.ntmps4
    go_wp2_with fail
    refine kb.mono ?_
    rintro e w1 ⟨rfl, hw1⟩
    subst hw1
    go_wp2_with fail
    go_ret
    exact ⟨rfl, Below.refl _ _⟩
  rw [decide_eq_false hbig] at kb
  have hl : bs.length ≤ 4096 := by omega
  have HD := hidden (droster_any ao cap bs w hb (by omega))
  obtain ⟨i0, hi0, hv0, hv1, hv2⟩ := info_partsW infoW64
  obtain ⟨i1, hi1, hu0, hu1, hu2⟩ := info_partsW infoBool
  clear hb hbig
  go_enter Try.func4, Try.ntmps4
  go_wp2_with fail
  refine kb.mono ?_
  rintro e w1 ⟨rfl, hw1⟩
  subst hw1
  clear kb
  go_wp2_with fail
  refine HD.out.mono ?_
  rintro e wD ⟨p, d, nd, r, rfl, hbD⟩
  have HBD := hidden hbD
  have kI := fun W => iroster_any p d nd r W
  have kS := fun W => sroster_any p d nd r W
  have hLL : (roster p d nd r).length ≤ 1048576 := by
    unfold roster
    split
    · rename_i h
      simp only [okB, Bool.and_eq_true, decide_eq_true_eq] at h
      rw [ros_lenL]
      exact Nat.le_trans (Nat.mul_le_mul (show d.toNat ≤ 60 by omega) (show nd.toNat ≤ 30 by omega)) (by omega)
    · simp
  have HV : Hid (roster p d nd r = if okB p d nd r then (ros p.toNat nd.toNat r d.toNat).2 else []) := rfl
  generalize roster p d nd r = M at *
  clear HD hbD
  go_wp2_with fail
  with_reducible refine (kI _).mono ?_
  rintro e w2 ⟨v2, rfl, ho2, hb2⟩
  obtain ⟨a2, k2, rfl⟩ := ho2.row.form
  have O2 := hidden ho2.row
  have B2 := hidden (HBD.out.trans (hb2.mono HBD.out.size))
  clear ho2 hb2 HBD kI
  go_wp2_with fail
  with_reducible refine (kS _).mono ?_
  rintro e w3 ⟨v3, rfl, ho3, hb3⟩
  obtain ⟨a3, k3, rfl⟩ := ho3.row.form
  have O3 := hidden ho3.row
  have O2' := hidden (O2.out.below hb3)
  have B3 := hidden (B2.out.trans (hb3.mono B2.out.size))
  clear ho3 hb3 B2 O2 kS
  go_wp2_with fail
  with_reducible refine (sameR_any _ _ _ _ _ _ M _ O2'.out O3.out hLL).mono ?_
  rintro e w4 ⟨rfl, hb4⟩
  have OM := hidden (O2'.out.below hb4)
  have B4 := hidden (B3.out.trans (hb4.mono B3.out.size))
  clear hb4 B3 O2' O3
  by_cases hM : M.length = 0
  · have hMi : ((M.length : Int) == 0) = true := by simp [hM]
    go_wp2_with fail
    go_ret
    exact ⟨rfl, B4.out⟩
  · have hok : okB p d nd r = true := by
      cases h : okB p d nd r with
      | true => rfl
      | false => rw [HV.out, h] at hM; simp at hM
    have hok' : (1 ≤ p ∧ p ≤ 30) ∧ (0 ≤ d ∧ d ≤ 60) ∧ (0 ≤ nd ∧ nd ≤ p) ∧ 1 ≤ r ∧ r ≤ 10 := by
      have h := hok
      simp only [okB, Bool.and_eq_true, decide_eq_true_eq] at h
      obtain ⟨⟨⟨a1, a2⟩, a3⟩, a4⟩ := h
      exact ⟨a1, a2, a3, a4⟩
    have HM0 : Hid (M = (ros p.toNat nd.toNat r d.toNat).2) := by show _ = _; rw [HV.out, hok]; rfl
    obtain ⟨⟨p1, p2⟩, ⟨d1, d2⟩, ⟨n1, n2⟩, r1, r2⟩ := hok'
    obtain ⟨n, rfl⟩ := Int.eq_ofNat_of_zero_le (show 0 ≤ p by omega)
    obtain ⟨dd, rfl⟩ := Int.eq_ofNat_of_zero_le d1
    obtain ⟨nk, rfl⟩ := Int.eq_ofNat_of_zero_le n1
    have HM : Hid (M = (ros n nk r dd).2) := HM0.out
    have hml : M.length = dd * nk := by rw [HM.out, ros_lenL]
    have hn30 : n ≤ 30 := by omega
    have hnk : nk ≤ 30 := by omega
    have hdd : dd ≤ 60 := by omega
    have hmul : IntKind.i64.wrap ((dd : Int) * (nk : Int)) = (M.length : Int) := by
      have h1 : dd * nk ≤ 60 * 30 := Nat.mul_le_mul hdd hnk
      have h2 : (dd : Int) * (nk : Int) = ((dd * nk : Nat) : Int) := by simp
      rw [h2, ← hml, IntKind.wrap_i64]; omega
    have hm18 : M.length ≤ 1800 := by rw [hml]; exact Nat.mul_le_mul hdd hnk
    have HML := hidden hml
    have hMi : ((M.length : Int) == 0) = false := by rw [beq_eq_false_iff_ne]; omega
    have HRl : Hid (∀ d, (ros n nk r d).1.length = n) := ros_len n nk r
    have HRb : Hid (∀ d, d ≤ 60 → ∀ x ∈ (ros n nk r d).1, 0 ≤ x.2 ∧ x.2 ≤ r) := fun d hd x hx => ⟨(ros_bnd n nk r d x hx).2.2.1, ros_run n nk r (by omega) d x hx⟩
    clear HV hok HM0 p1 p2 d1 d2 n1 n2 hml hM
    go_wp2_with (refine wpList_make_full _ rfl (.tmp 46) (.tmp 46) 25 rfl 0 2 i0 (.int .i64 0) 1 Try.underlying25 hi0 hv0 hv1 .i64 .i64 _ _ n rfl rfl rfl rfl (by rw [hv2]; omega) (by unfold maxLen; omega) (Nat.zero_le _) ?_; intro w5 ho5 hg5; rw [made_intsR] at ho5)
    have hz5 := hg5.size
    have HS0 : Hid (SR n w5 w4.heap.size ((ros n nk r 0).1.map (·.2))) := by
      show SR _ _ _ _
      rw [show (ros n nk r 0).1.map (·.2) = List.replicate n (0 : Int) from by simp [ros]]
      exact SR.of_own (by simp) ho5
    have HB5 : Hid (Below w4.heap.size w4 w5) := (Below.refl _ _).grown hg5 (Nat.le_refl _) (fun k hk => by cases hk)
    obtain ⟨G, hG⟩ : ∃ G, w4.heap.size = G := ⟨_, rfl⟩
    rw [hG] at HS0 ⊢
    clear ho5 hg5 hz5
    go_loopw [9, 10, 11, 12, 13, 14] (fun iv _ _ _ _ _ wr => ∃ (i : Nat), i ≤ dd ∧ iv = .int .i64 i ∧ Hid (SR n wr G ((ros n nk r i).1.map (·.2))) ∧ Below w4.heap.size w4 wr) (fun iv _ _ _ _ _ _ => dd - (intOf iv).toNat)
    case atStart => exact ⟨0, Nat.zero_le _, rfl, HS0, HB5.out⟩
    case round =>
      clear HS0 HB5
      obtain ⟨i, hi, rfl, hsr, hbw⟩ := hrel
      by_cases hlt : i < dd
      · have hlti : (i : Int) < (dd : Int) := by omega
        have hdn := HRl.out i
        have hbW := hidden (HRb.out i (by omega))
        have HGet := hidden (fun (k : Nat) (hk : k < nk) => (congrArg (fun l : List Int => l[i * nk + k]?) HM.out).trans (ros_get n nk r (d := i) hk dd hlt))
        have hst1 : Hid ((ros n nk r (i + 1)).1 = next (ros n nk r i).1 (chosen (ros n nk r i).1 nk r)) := by show _ = _; rw [ros]
        have hbase : i * nk + nk ≤ M.length := by
          rw [HML.out, ← Nat.succ_mul]; exact Nat.mul_le_mul_right nk hlt
        obtain ⟨W, hWe⟩ : ∃ W, (ros n nk r i).1 = W := ⟨_, rfl⟩
        rw [hWe] at hsr hbW hst1 hdn
        have HGet2 : Hid (∀ k, k < nk → M[i * nk + k]? = (dayOf W nk r)[k]?) := fun k hk => by
          have := HGet.out k hk
          rw [hWe] at this; exact this
        clear HGet hWe
        obtain ⟨A, hA⟩ : ∃ A, among (chosen W nk r) W.length = A := ⟨_, rfl⟩
        obtain ⟨C, hC⟩ : ∃ C, chosen W nk r = C := ⟨_, rfl⟩
        have hAk : A.length ≤ nk := by rw [← hA, day_lenL]; omega
        have HAget : Hid (∀ k, k < A.length → ∃ q : Nat, (dayOf W nk r)[k]? = some (q : Int) ∧ A[k]? = some (q : Int) ∧ q < n ∧ (q : Int) ∉ A.take k) := fun k hk => by
          have := am_get (ws := W) (nd := nk) (run := r) (k := k) (by rw [hA]; exact hk)
          rw [hA, hdn] at this; exact this
        have HAless : Hid (∀ k q q' : Nat, A[k + 1]? = some (q : Int) → A[k]? = some (q' : Int) → (q' : Int) < (q : Int)) := fun k q q' h h' => am_less (ws := W) (nd := nk) (run := r) (by rw [hA]; exact h) (by rw [hA]; exact h')
        have HAlack : Hid (∀ k, ¬ k < A.length → k < nk → (dayOf W nk r)[k]? = some (-1)) := fun k h h' => lack_get (by rw [hA]; exact h) h'
        have HAmem : Hid (∀ p, p < n → (decide ((p : Int) ∈ A) = decide ((p : Int) ∈ C))) := fun p hp => by
          rw [decide_eq_decide, ← hA, ← hC]; exact am_mem (by rw [hdn]; exact hp)
        have HArest : Hid (A.length < nk → ∀ p, p < n → (p : Int) ∉ C → ¬ (W.getD p (0, 0)).2 < r) := fun h p hp hn => lack_rest (ws := W) (nd := nk) (run := r) (by rw [hA]; exact h) (by rw [hdn]; exact hp) (by rw [hC]; exact hn)
        have HCless : Hid (∀ p : Nat, (p : Int) ∈ C → (W.getD p (0, 0)).2 < r) := fun p h => chosen_less (nd := nk) (by rw [hC]; exact h)
        rw [hC] at hst1
        have HWl := hidden hdn
        obtain ⟨m, hm⟩ : ∃ m, i * nk = m := ⟨_, rfl⟩
        have hmi : IntKind.i64.wrap ((i : Int) * (nk : Int)) = (m : Int) := by
          have h2 : (i : Int) * (nk : Int) = ((i * nk : Nat) : Int) := by simp
          rw [h2, hm, IntKind.wrap_i64]; omega
        rw [hm] at HGet2 hbase
        clear hm hA hC hdn
        generalize dayOf W nk r = D at *
        have hGl := hsr.out.lt
        go_wp2_with (refine wpList_make_full _ rfl (.tmp 53) (.tmp 53) 41 rfl 0 4 i1 (.bool false) 1 Try.underlying41 hi1 hu0 hu1 .i64 .i64 _ _ n rfl rfl rfl rfl (by rw [hu2]; omega) (by unfold maxLen; omega) (Nat.zero_le _) ?_; intro w6 ho6 hg6)
        have HBI : Hid (BI w6 wr.heap.size n (A.take 0)) := by
          have h := BI.made ho6
          rw [List.take_zero]; exact h
        have HSR := hidden (hsr.out.grown hg6 (fun k hk => by cases hk))
        have HB6 := hidden (hbw.grown hg6 hbw.size (fun k hk => by cases hk))
        obtain ⟨I, hI⟩ : ∃ I, wr.heap.size = I := ⟨_, rfl⟩
        have hIw : w4.heap.size ≤ I := by have := hbw.size; omega
        have hGI : G ≠ I := by omega
        rw [hI] at HBI ⊢
        clear ho6 hg6 hI hsr hbw
        go_loopw [11, 12, 13] (fun lv kv _ ws => ∃ (k : Nat), k ≤ nk ∧ kv = .int .i64 k ∧ lv = .bool (decide (A.length < k)) ∧ Hid (BI ws I n (A.take k)) ∧ Hid (SR n ws G (W.map (·.2))) ∧ Below w4.heap.size w4 ws) (fun _ kv _ _ => nk - (intOf kv).toNat)
        case atStart => exact ⟨0, Nat.zero_le _, rfl, by simp, HBI, HSR, HB6.out⟩
        case round =>
          clear HBI HSR HB6
          obtain ⟨k, hk, rfl, rfl, hbi, hsr, hbw⟩ := hrel
          rename World => ws
          by_cases hlt2 : k < nk
          · have hlti2 : (k : Int) < (nk : Int) := by omega
            have hx := HGet2.out k hlt2
            have hmk : IntKind.i64.wrap ((m : Int) + (k : Int)) = ((m + k : Nat) : Int) := by rw [IntKind.wrap_i64]; omega
            have hmk2 : ((m + k : Nat) : Int) < (M.length : Int) := by omega
            obtain ⟨mk, hmke⟩ : ∃ mk, m + k = mk := ⟨_, rfl⟩
            rw [hmke] at hx hmk hmk2
            by_cases hka : k < A.length
            · obtain ⟨q, q1, q2, q3, q4⟩ := HAget.out k hka
              rw [q1] at hx
              obtain ⟨gL, oL, rfl, hgL, cL⟩ := vint_cell (OM.out.below hbw) hx
              have hlk : decide (A.length < k) = false := decide_eq_false (by omega)
              have hlk1 : Hid (Value.bool (decide (A.length < k)) = .bool (decide (A.length < k + 1))) := by show _ = _; rw [hlk, decide_eq_false (by omega)]
              obtain ⟨e1, f1⟩ := hbi.out.2 q q3
              rw [decide_eq_false q4] at e1
              have hqi : (q : Int) < (n : Int) := by omega
              have hq1 : ((q : Int) == -1) = false := by rw [beq_eq_false_iff_ne]; omega
              have hq2 : ¬ (n : Int) ≤ (q : Int) := by omega
              have HB2 : Hid (BI (ws.setCell ⟨I, q, none⟩ (.bool true)) I n (A.take (k + 1))) := by
                show BI _ _ _ _
                rw [List.take_add_one, q2]; exact hbi.out.put q3
              have HS2 : Hid (SR n (ws.setCell ⟨I, q, none⟩ (.bool true)) G (W.map (·.2))) := hsr.out.far (fun e => hGI e.symm) _
              have HW2 : Hid (Below w4.heap.size w4 (ws.setCell ⟨I, q, none⟩ (.bool true))) := hbw.setCell (p := ⟨I, q, none⟩) hIw _
              by_cases hk0 : 0 < k
              · have hk0i : (0 : Int) < (k : Int) := by omega
                obtain ⟨k', hkk⟩ : ∃ k', k' + 1 = k := ⟨k - 1, by omega⟩
                obtain ⟨q', u1, u2, u3, u4⟩ := HAget.out k' (by omega)
                have hx' := HGet2.out k' (by omega)
                rw [u1] at hx'
                have hless := HAless.out k' q q' (by rw [hkk]; exact q2) u2
                obtain ⟨gL', oL', he', hgL', cL'⟩ := vint_cell (OM.out.below hbw) hx'
                obtain ⟨rfl, rfl⟩ : gL = gL' ∧ oL = oL' := by simpa using he'
                have hm1 : IntKind.i64.wrap ((mk : Int) - 1) = ((m + k' : Nat) : Int) := by rw [IntKind.wrap_i64]; omega
                have hm2 : ((m + k' : Nat) : Int) < (M.length : Int) := by omega
                obtain ⟨mk', hmke'⟩ : ∃ mk', m + k' = mk' := ⟨_, rfl⟩
                rw [hmke'] at hm1 hm2 cL'
                have hle : ¬ (q : Int) ≤ (q' : Int) := by omega
                rw [hlk]
                clear hx hx' he' q1 q2 q4 u1 u2 u4 hmke hmke' hless hkk
                go_wp2_with fail
                go_roundw
                case rel => exact ⟨k + 1, by omega, rfl, by rw [← hlk1.out, hlk], HB2, HS2, HW2.out⟩
                case measure => simp [intOf]; omega
              · have hk0i : ¬ (0 : Int) < (k : Int) := by omega
                rw [hlk]
                clear hx q1 q2 q4 hmke
                go_wp2_with fail
                go_roundw
                case rel => exact ⟨k + 1, by omega, rfl, by rw [← hlk1.out, hlk], HB2, HS2, HW2.out⟩
                case measure => simp [intOf]; omega
            · rw [HAlack.out k hka hlt2] at hx
              obtain ⟨gL, oL, rfl, hgL, cL⟩ := vint_cell (OM.out.below hbw) hx
              have hlk1 : Hid (Value.bool true = .bool (decide (A.length < k + 1))) := by show _ = _; rw [decide_eq_true (by omega)]
              have HB2 : Hid (BI ws I n (A.take (k + 1))) := by
                show BI _ _ _ _
                have h := hbi.out
                rw [List.take_of_length_le (by omega)] at h ⊢; exact h
              clear hx hmke
              generalize decide (A.length < k) = lk at *
              go_wp2_with fail
              go_roundw
              case rel => exact ⟨k + 1, by omega, rfl, by rw [← hlk1.out], HB2, hsr, hbw⟩
              case measure => simp [intOf]; omega
          · have hlti2 : ¬ (k : Int) < (nk : Int) := by omega
            obtain rfl : k = nk := by omega
            have HBA : Hid (BI ws I n A) := by have h := hbi.out; rw [List.take_of_length_le hAk] at h; exact h
            have HS4 : Hid (SR n ws G ((nextTo W C 0).map (·.2))) := by show SR _ _ _ _; rw [nextTo_zero]; exact hsr.out
            have HLK : Hid (decide (A.length < k) = true → A.length < k) := fun h => of_decide_eq_true h
            generalize decide (A.length < k) = lk at *
            clear hbi hsr
            go_wp2_with fail
            go_loopw [14] (fun pv ws => ∃ (p : Nat), p ≤ n ∧ pv = .int .i64 p ∧ Hid (BI ws I n A) ∧ Hid (SR n ws G ((nextTo W C p).map (·.2))) ∧ Below w4.heap.size w4 ws) (fun pv _ => n - (intOf pv).toNat)
            case atStart => exact ⟨0, Nat.zero_le _, rfl, HBA, HS4, hbw⟩
            case round =>
              clear HBA HS4 hbw
              obtain ⟨p, hp, rfl, hbi, hsr, hbw⟩ := hrel
              rename World => ws
              by_cases hlt3 : p < n
              · have hlti3 : (p : Int) < (n : Int) := by omega
                have hpW : p < W.length := by rw [HWl.out]; exact hlt3
                obtain ⟨e1, -⟩ := hbi.out.2 p hlt3
                rw [HAmem.out p hlt3] at e1
                have hg : ((nextTo W C p).map (·.2))[p]? = some (W.getD p (0, 0)).2 := by
                  rw [List.getElem?_map, nextTo_get hpW, if_neg (Nat.lt_irrefl _)]; rfl
                obtain ⟨e2, f2⟩ := hsr.out.get p _ hg
                obtain ⟨y1, y2⟩ := hbW.out (W.getD p (0, 0)) (by rw [List.getD_eq_getElem?_getD, List.getElem?_eq_getElem hpW]; exact List.getElem_mem hpW)
                have HF2 := hidden (snd_next (c := C) hpW)
                have hrest := HArest.out
                have hless := HCless.out p
                have HG4 : Hid (w4.heap.size ≤ G) := by show _ ≤ _; omega
                cases hcb : decide ((p : Int) ∈ C) with
                | true =>
                  rw [hcb] at e1 HF2
                  have hyr := hless (of_decide_eq_true hcb)
                  have HF3 : Hid ((nextTo W C (p + 1)).map (·.2) = ((nextTo W C p).map (·.2)).set p ((W.getD p (0, 0)).2 + 1)) := HF2.out
                  generalize (W.getD p (0, 0)).2 = y at *
                  have hwy : IntKind.i64.wrap (y + 1) = y + 1 := by rw [IntKind.wrap_i64]; omega
                  have hyr2 : ¬ r < y + 1 := by omega
                  have HS5 : Hid (SR n (ws.setCell ⟨G, p, none⟩ (.int .i64 (y + 1))) G ((nextTo W C (p + 1)).map (·.2))) := by
                    show SR _ _ _ _
                    rw [HF3.out]; exact hsr.out.set p (y + 1)
                  have HB5 := hidden (hbi.out.far (B := G) (j := p) hGI (.int .i64 (y + 1)))
                  have HW5 := hidden (hbw.setCell (p := ⟨G, p, none⟩) HG4.out (.int .i64 (y + 1)))
                  have e3 : (ws.setCell ⟨G, p, none⟩ (.int .i64 (y + 1))).cell? ⟨G, p, none⟩ = some (.int .i64 (y + 1)) := World.cell?_setCell_same _ _ _ e2
                  clear hg HF2 HF3 hcb hrest hless hsr hbi hbw
                  go_wp2_with fail
                  go_roundw
                  case rel => exact ⟨p + 1, by omega, rfl, HB5, HS5, HW5.out⟩
                  case measure => simp [intOf]; omega
                | false =>
                  rw [hcb] at e1 HF2
                  have HF3 : Hid ((nextTo W C (p + 1)).map (·.2) = ((nextTo W C p).map (·.2)).set p 0) := HF2.out
                  have hyr : lk = true → ¬ (W.getD p (0, 0)).2 < r := fun h => Int.not_lt.2 (hrest (HLK.out h) p hlt3 (of_decide_eq_false hcb))
                  generalize (W.getD p (0, 0)).2 = y at *
                  have HS5 : Hid (SR n (ws.setCell ⟨G, p, none⟩ (.int .i64 0)) G ((nextTo W C (p + 1)).map (·.2))) := by
                    show SR _ _ _ _
                    rw [HF3.out]; exact hsr.out.set p 0
                  have HB5 := hidden (hbi.out.far (B := G) (j := p) hGI (.int .i64 0))
                  have HW5 := hidden (hbw.setCell (p := ⟨G, p, none⟩) HG4.out (.int .i64 0))
                  have e3 : (ws.setCell ⟨G, p, none⟩ (.int .i64 0)).cell? ⟨G, p, none⟩ = some (.int .i64 0) := World.cell?_setCell_same _ _ _ e2
                  have hr0 : ¬ r < 0 := by omega
                  clear hg HF2 HF3 hcb hrest hless hsr hbi hbw HLK
                  cases lk with
                  | true =>
                    have hyr2 := hyr rfl
                    go_wp2_with fail
                    go_roundw
                    case rel => exact ⟨p + 1, by omega, rfl, HB5, HS5, HW5.out⟩
                    case measure => simp [intOf]; omega
                  | false =>
                    go_wp2_with fail
                    go_roundw
                    case rel => exact ⟨p + 1, by omega, rfl, HB5, HS5, HW5.out⟩
                    case measure => simp [intOf]; omega
              · have hlti3 : ¬ (p : Int) < (n : Int) := by omega
                obtain rfl : p = n := by omega
                have HS5 : Hid (SR p ws G ((ros p k r (i + 1)).1.map (·.2))) := by
                  have h := hsr.out
                  show SR _ _ _ _
                  rw [hst1.out, ← nextTo_all, HWl.out]; exact h
                clear hsr hbi
                go_wp2_with fail
                go_roundw
                case rel => exact ⟨i + 1, by omega, rfl, HS5, hbw⟩
                case measure => simp [intOf]; omega
      · have hlti : ¬ (i : Int) < (dd : Int) := by omega
        have HF := hidden (B4.out.trans (hbw.mono B4.out.size))
        go_wp2_with fail
        go_ret
        exact ⟨rfl, HF.out⟩
end Go.Proofs.Ytgcpiinmcbdkmaa
