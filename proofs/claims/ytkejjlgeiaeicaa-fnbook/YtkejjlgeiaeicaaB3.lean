/-
  The lines that were taken balance: the walk of the law.
-/
import Derived.Test.YtkejjlgeiaeicaaB2
import Derived.Test.YtkejjlgeiaeicaaU3
import Derived.Test.YtkejjlgeiaeicaaU4
namespace Go.Proofs.Ytkejjlgeiaeicaa
open Go.RowKit Va Ua
set_option linter.all false

set_option maxRecDepth 20000 in
set_option maxHeartbeats 8000000 in
theorem fbo_walk (ao : Option Addr) (cap : Nat) (bs : List Int) (w : World) (hb : Bytes w w.heap.size ao bs) :
    Calls Try.prog 3 #[.slice ao bs.length cap] w fun e w' => e = .returned (.bool true) ∧ Below w.heap.size w w' := by
  have hB := big_any ao cap bs.length
  have HBY := hidden hb
  clear hb
  by_cases hbig : (4096 : Int) < (bs.length : Int)
  · rw [decide_eq_true hbig] at hB
    go_enter Try.func3, Try.ntmps3
    go_wp2_with fail
    refine (hB _).mono ?_
    rintro e w1 ⟨rfl, rfl⟩
    go_wp2_with fail
    go_ret
    exact ⟨rfl, Below.refl _ _⟩
  rw [decide_eq_false hbig] at hB
  have hl : bs.length ≤ 4096 := by omega
  go_enter Try.func3, Try.ntmps3
  go_wp2_with fail
  refine (hB w).mono ?_
  rintro e w1 ⟨rfl, hw1⟩
  subst hw1
  clear hB
  go_wp2_with fail
  refine (dbook_any ao cap bs _ HBY.out (by omega)).mono ?_
  rintro e w2 ⟨s, ad, c, l, rfl, hl12, hrow, b2⟩
  have HI := hidden (fun W hW => ibook_any s ad l.length c l W hW (by omega))
  have HS := hidden (fun W hW => sbookS_any s ad l.length c l W hW (by omega))
  have HV : Hid (book s l = if rng s 0 1000000000 = true ∧ l.length ≤ 1000 then told s l else []) := rfl
  have hbl := book_len s l
  generalize book s l = L at *
  have HR := hidden hrow
  have B2 := hidden b2
  clear hrow b2 HBY
  go_wp2_with fail
  refine (HI.out _ HR.out).mono ?_
  rintro e w3 ⟨v3, rfl, ho3, b3⟩
  obtain ⟨ad3, k3, rfl⟩ := ownW_slice ho3
  have V3 := hidden (ownI ho3).row
  have B3 := hidden (onto B2.out b3)
  have R3 := hidden (HR.out.below b3)
  clear ho3 b3 B2 HI
  go_wp2_with fail
  refine (HS.out _ R3.out).mono ?_
  rintro e w4 ⟨G4, k4, rfl, ho4, b4⟩
  have V4 := hidden (V3.out.below b4)
  have R4 := hidden (R3.out.below b4)
  have B4 := hidden (onto B3.out b4)
  clear ho4 b4 B3 HS HR R3 V3
  by_cases hc : rng s 0 1000000000 = true ∧ l.length ≤ 1000
  · have HT : Hid (L = told s l) := by rw [Hid, HV.out, if_pos hc]
    have hLl : L.length = l.length := by rw [HT.out, told_len]
    have HLl := hidden hLl
    obtain ⟨s0, s1⟩ := rng_iff.1 hc.1
    clear hc HV hLl
    go_wp2_with fail
    go_loopw [6, 7, 42, 51, 61] (fun nv iv _ _ _ wr => wr = w4 ∧ ∃ (i : Nat) (n : Int), i ≤ L.length ∧ iv = .int .i64 i ∧ nv = .int .i64 n ∧ Hid (n = left s (l.take i))) (fun _ iv _ _ _ _ => L.length - (intOf iv).toNat)
    case atStart => exact ⟨rfl, 0, s, Nat.zero_le _, rfl, rfl, rfl⟩
    case round =>
      obtain ⟨hwr, i, n, hi, rfl, rfl, HN⟩ := hrel
      have hwr2 := hwr.symm
      clear hwr
      subst hwr2
      by_cases hlt : i < L.length
      · have hlti : (i : Int) < (L.length : Int) := by omega
        obtain ⟨x, hx⟩ : ∃ x, l[i]? = some x := ⟨_, List.getElem?_eq_getElem (by rw [← HLl.out]; exact hlt)⟩
        have hil : i < l.length := (List.getElem?_eq_some_iff.1 hx).1
        have hili : (i : Int) < (l.length : Int) := by omega
        have hn : 0 ≤ n ∧ n ≤ 1000000000 := by rw [HN.out]; exact left_bd s0 s1 _
        have HL2 : Hid ((stepL n x).2 = left s (l.take (i + 1))) := by rw [Hid, left_take hx, HN.out]
        have hT : L[i]? = some (stepL n x).1 := by rw [HT.out, told_get s l i x hx, ← HN.out]
        obtain ⟨g3, off3, rfl, hg3, hc3⟩ := V4.out.at hT
        have t0 := hc3 0 (by omega)
        obtain ⟨g, off, rfl, hg, hcs⟩ := R4.out.at hx
        have c0 : w4.cell? ⟨g, off + i * 4, none⟩ = some (.int .i64 x.k) := hcs 0 (by omega)
        have c1 : w4.cell? ⟨g, off + i * 4 + 1, none⟩ = some (.int .i64 x.n) := hcs 1 (by omega)
        have t0 : w4.cell? ⟨g3, off3 + i, none⟩ = some (.int .i64 (stepL n x).1) := by simpa [csI] using t0
        have HF : Hid ((stepL n x).1 < 0 → (stepL n x).2 = n) := fun q => step_fault x hn.1 hn.2 q
        have HG := hidden (fun q => step_told (n := n) x hn.1 q)
        have HB9 := hidden (step_bd x hn.1 hn.2)
        obtain ⟨n0, n1⟩ := hn
        clear hx hT hc3 hcs
        generalize (stepL n x).1 = y at *
        generalize (stepL n x).2 = m at *
        by_cases hy : y < 0
        · have HN1 : Hid (n = left s (l.take (i + 1))) := by rw [Hid, ← HL2.out, HF.out hy]
          clear HF HG HB9
          go_wp2_with fail
          go_roundw
          case rel => exact ⟨by first | rfl | trivial, i + 1, n, by omega, rfl, rfl, HN1⟩
          case measure => simp [intOf]; omega
        · obtain ⟨hym, hlB, f1, f23, f4⟩ := HG.out (by omega)
          obtain ⟨m0, m1⟩ := HB9.out
          simp only [lineB, Bool.and_eq_true, rng_iff] at hlB
          obtain ⟨⟨k0, k1⟩, ⟨q0, q1⟩, -⟩ := hlB
          have q2 : 0 ≤ x.n := by split at q0 <;> omega
          subst hym
          clear HF HG HB9 q0
          obtain ⟨xk, xn, xb, xa⟩ := x
          dsimp only at *
          rcases (show xk = 1 ∨ xk = 2 ∨ xk = 3 ∨ xk = 4 by omega) with rfl | rfl | rfl | rfl
          · obtain rfl : y = n + xn := f1 rfl
            clear f1 f23 f4
            go_wp2_with fail
            go_roundw
            case rel => exact ⟨by first | rfl | trivial, i + 1, n + xn, by omega, rfl, rfl, HL2⟩
            case measure => simp [intOf]; omega
          · obtain rfl : y = n - xn := f23 (Or.inl rfl)
            clear f1 f23 f4
            go_wp2_with fail
            go_roundw
            case rel => exact ⟨by first | rfl | trivial, i + 1, n - xn, by omega, rfl, rfl, HL2⟩
            case measure => simp [intOf]; omega
          · obtain rfl : y = n - xn := f23 (Or.inr rfl)
            clear f1 f23 f4
            go_wp2_with fail
            go_roundw
            case rel => exact ⟨by first | rfl | trivial, i + 1, n - xn, by omega, rfl, rfl, HL2⟩
            case measure => simp [intOf]; omega
          · obtain ⟨e1, e2⟩ := f4 rfl
            subst e1
            obtain rfl : y = xn := e2
            clear f1 f23 f4
            go_wp2_with fail
            go_roundw
            case rel => exact ⟨by first | rfl | trivial, i + 1, _, by omega, rfl, rfl, HL2⟩
            case measure => simp [intOf]; omega
      · have hlti : ¬ (i : Int) < (L.length : Int) := by omega
        go_wp2_with fail
        go_ret
        exact ⟨rfl, B4.out⟩
  · have HT : Hid (L = []) := by rw [Hid, HV.out, if_neg hc]
    have hL0 : L.length = 0 := by rw [HT.out]; rfl
    have HL0 := hidden hL0
    clear hc HV hL0
    go_wp2_with fail
    go_loopw [6, 7, 42, 51, 61] (fun _ iv _ _ _ wr => wr = w4 ∧ iv = .int .i64 0) (fun _ _ _ _ _ _ => 0)
    case atStart => exact ⟨rfl, rfl⟩
    case round =>
      obtain ⟨hwr, rfl⟩ := hrel
      have hwr2 := hwr.symm
      clear hwr
      subst hwr2
      have hlti : ¬ (0 : Int) < (L.length : Int) := by have := HL0.out; omega
      go_wp2_with fail
      go_ret
      exact ⟨rfl, B4.out⟩
end Go.Proofs.Ytkejjlgeiaeicaa
