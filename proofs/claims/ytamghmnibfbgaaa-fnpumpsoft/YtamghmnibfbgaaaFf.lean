/-
  A rate beyond the soft limits is taken only once it is confirmed: the walk of the law.
-/
import Derived.Test.YtamghmnibfbgaaaFe
import Derived.Test.YtamghmnibfbgaaaCh
namespace Go.Proofs.Ytamghmnibfbgaaa
open Go.RowKit Va Ba
set_option linter.unusedVariables false

theorem newT {l : Lm} {lf : Int} (h : (Ba.new l lf).2 = true) : (Ba.new l lf).1 = newP l lf ∧ Right (newP l lf) := by
  unfold Ba.new at *
  split at h
  · rename_i hp
    rw [if_pos hp]
    exact ⟨rfl, right_iff.1 hp⟩
  · cases h
/-- The pump that was asked for a rate beyond its soft limits. -/
def softQ (l : Lm) (lf : Int) : Pm := ⟨l, 0, l.hh, 2, false, lf, 0⟩
theorem soft_facts {l : Lm} {lf : Int} (R : Right (newP l lf)) (hne : l.sh ≠ l.hh) :
    pdo (newP l lf) ⟨1, l.hh⟩ = (softQ l lf, 5) ∧ (pdo (softQ l lf) ⟨3, 0⟩).2 = 3 ∧ pdo (softQ l lf) ⟨2, 0⟩ = (⟨l, l.hh, 0, 2, false, lf, 0⟩, 0) ∧ (pdo (newP l lf) ⟨1, l.hh + 1⟩).2 = (if l.hh = 100000 then 2 else 4) ∧ 0 < l.hh ∧ l.hh ≤ 100000 := by
  have hl := R.lim
  have hlf := R.left
  simp only [newP] at hl hlf
  have hk : pmOk (newP l lf) = true := right_iff.2 R
  have hh1 : 0 < l.hh := by omega
  have hz0 : l.hh ≠ 0 := by omega
  have hs : soft l l.hh = false := by
    cases q : soft l l.hh with
    | false => rfl
    | true => have := rng_iff.1 q; omega
  have hd : hard l l.hh = true := rng_iff.2 (by omega)
  have e1 : Ba.step (newP l lf) ⟨1, l.hh⟩ = (softQ l lf, 5) := by
    rw [Ba.step, if_pos (by simp [actOk, counts, rng]; omega), if_pos (by simp [forK, newP])]
    simp only [doK, if_true]
    rw [if_neg (by simp [newP, hd, hz0]), if_pos (by simp only [newP]; exact hs)]
    simp [newP, softQ]
  have RQ : Right (softQ l lf) := by
    have := right_step R ⟨1, l.hh⟩
    rw [e1] at this
    exact this
  have hkq : pmOk (softQ l lf) = true := right_iff.2 RQ
  refine ⟨by rw [pdo, if_pos hk, e1], ?_, ?_, ?_, hh1, hl.2.2.2.2⟩
  · rw [pdo, if_pos hkq, Ba.step, if_pos (by simp [actOk, counts, rng]), if_neg (by simp [forK, softQ])]
  · rw [pdo, if_pos hkq, Ba.step, if_pos (by simp [actOk, counts, rng]), if_pos (by simp [forK, softQ, hz0])]
    simp [doK, softQ]
  · rw [pdo, if_pos hk]
    by_cases h1 : l.hh = 100000
    · rw [if_pos h1, Ba.step, if_neg (by simp [actOk, counts, rng]; omega)]
    · rw [if_neg h1, Ba.step, if_pos (by simp [actOk, counts, rng]; omega), if_pos (by simp [forK, newP])]
      simp only [doK, if_true]
      rw [if_pos (.inr (by
        simp only [newP]
        cases q : hard l (l.hh + 1) with
        | false => rfl
        | true => have := rng_iff.1 q; omega))]

set_option maxRecDepth 20000 in
set_option maxHeartbeats 8000000 in
theorem fps_walk (ao : Option Addr) (cap : Nat) (bs : List Int) (w : World) (hb : Bytes w w.heap.size ao bs) :
    Calls Try.prog 4 #[.slice ao bs.length cap] w fun e w' => e = .returned (.bool true) ∧ Below w.heap.size w w' := by
  have hB := big_any ao cap bs.length
  have HBY := hidden hb
  clear hb
  by_cases hbig : (4096 : Int) < (bs.length : Int)
  · rw [decide_eq_true hbig] at hB
    go_enter Try.func4, Try.ntmps4
    go_wp2_with fail
    refine (hB _).mono ?_
    rintro e w1 ⟨rfl, rfl⟩
    go_wp2_with fail
    go_ret
    exact ⟨rfl, Below.refl _ _⟩
  rw [decide_eq_false hbig] at hB
  have hl : bs.length ≤ 4096 := by omega
  have hD := dnew_any ao cap bs w HBY.out (by omega)
  unfold aL at hD
  go_enter Try.func4, Try.ntmps4
  go_wp2_with fail
  refine (hB _).mono ?_
  rintro e w1 ⟨rfl, hw1⟩
  have hw2 := hw1.symm
  clear hw1
  subst hw2
  go_wp2_with fail
  refine hD.mono ?_
  rintro e w1 ⟨l, lf, rfl, hb1⟩
  clear hB hD
  go_upto_region 4 with fail
  have HL := hidden (PB.new w1 #[.int .i64 l.sl, .int .i64 l.sh, .int .i64 l.hl, .int .i64 l.hh] 25)
  have HB : Hid (Below w.heap.size w (w1.alloc (.cells #[.int .i64 l.sl, .int .i64 l.sh, .int .i64 l.hl, .int .i64 l.hh] 25))) := hb1.alloc hb1.size _
  generalize w1.alloc (.cells #[.int .i64 l.sl, .int .i64 l.sh, .int .i64 l.hl, .int .i64 l.hh] 25) = w2 at *
  generalize w1.heap.size = LB at *
  clear hb1
  have hI := inew_any l lf
  have hS := snew_any l lf
  have HN : Hid ((Ba.new l lf).2 = true → (Ba.new l lf).1 = newP l lf ∧ Right (newP l lf)) := newT
  generalize Ba.new l lf = N at *
  obtain ⟨p, b⟩ := N
  dsimp only at hI hS HN
  unfold aPm aL at hI hS
  obtain ⟨c0, c1, c2, c3⟩ := HL.out.four
  go_upto_region 5 with (with_reducible refine (hI _).mono ?_; rintro e w3 ⟨rfl, hb⟩)
  have bx : Below w3.heap.size w3 (w3.alloc (.cells #[.int .i64 p.lim.sl, .int .i64 p.lim.sh, .int .i64 p.lim.hl, .int .i64 p.lim.hh, .int .i64 p.rate, .int .i64 p.asked, .int .i64 p.st, .bool p.door, .int .i64 p.left, .int .i64 p.given] 27)) := (Below.refl _ _).alloc (Nat.le_refl _) _
  have hNew := PB.new w3 #[.int .i64 p.lim.sl, .int .i64 p.lim.sh, .int .i64 p.lim.hl, .int .i64 p.lim.hh, .int .i64 p.rate, .int .i64 p.asked, .int .i64 p.st, .bool p.door, .int .i64 p.left, .int .i64 p.given] 27
  have HL2 := hidden ((HL.out.below hb).below bx)
  have HB2 := hidden (onto (onto HB.out hb) bx)
  clear HL HB hb bx
  have HL := HL2
  clear HL2
  have HB := HB2
  clear HB2
  generalize w3.alloc (.cells #[.int .i64 p.lim.sl, .int .i64 p.lim.sh, .int .i64 p.lim.hl, .int .i64 p.lim.hh, .int .i64 p.rate, .int .i64 p.asked, .int .i64 p.st, .bool p.door, .int .i64 p.left, .int .i64 p.given] 27) = w4 at *
  have HP := hidden hNew
  generalize w3.heap.size = PP at *
  clear hNew c0 c1 c2 c3 hI
  obtain ⟨c0, c1, c2, c3⟩ := HL.out.four
  go_upto_region 6 with (with_reducible refine (hS _).mono ?_; rintro e w5 ⟨rfl, hb⟩)
  have bx : Below w5.heap.size w5 (w5.alloc (.cells #[.int .i64 p.lim.sl, .int .i64 p.lim.sh, .int .i64 p.lim.hl, .int .i64 p.lim.hh, .int .i64 p.rate, .int .i64 p.asked, .int .i64 p.st, .bool p.door, .int .i64 p.left, .int .i64 p.given] 27)) := (Below.refl _ _).alloc (Nat.le_refl _) _
  have hNew := PB.new w5 #[.int .i64 p.lim.sl, .int .i64 p.lim.sh, .int .i64 p.lim.hl, .int .i64 p.lim.hh, .int .i64 p.rate, .int .i64 p.asked, .int .i64 p.st, .bool p.door, .int .i64 p.left, .int .i64 p.given] 27
  have HL2 := hidden ((HL.out.below hb).below bx)
  have HP2 := hidden ((HP.out.below hb).below bx)
  have HB2 := hidden (onto (onto HB.out hb) bx)
  clear HL HP HB hb bx
  have HL := HL2
  clear HL2
  have HP := HP2
  clear HP2
  have HB := HB2
  clear HB2
  generalize w5.alloc (.cells #[.int .i64 p.lim.sl, .int .i64 p.lim.sh, .int .i64 p.lim.hl, .int .i64 p.lim.hh, .int .i64 p.rate, .int .i64 p.asked, .int .i64 p.st, .bool p.door, .int .i64 p.left, .int .i64 p.given] 27) = w6 at *
  clear hNew c0 c1 c2 c3 hS
  have hS5 := w5.heap.size
  obtain ⟨c0, c1, c2, c3⟩ := HL.out.four
  cases b with
  | false =>
    go_wp2_with fail
    go_ret
    exact ⟨rfl, HB.out⟩
  | true =>
  obtain ⟨rfl, hRt⟩ := HN.out rfl
  clear HN
  by_cases hne : l.sh = l.hh
  · go_wp2_with fail
    go_ret
    exact ⟨rfl, HB.out⟩
  obtain ⟨s1, s2, s3, s4, hh0, hh1⟩ := soft_facts hRt hne
  have H1 := hidden (ipdo_any (newP l lf) ⟨1, l.hh⟩)
  have H2 := hidden (ipdo_any (softQ l lf) ⟨3, 0⟩)
  have H3 := hidden (ipdo_any (softQ l lf) ⟨2, 0⟩)
  have H4 := hidden (ipdo_any (newP l lf) ⟨1, l.hh + 1⟩)
  rw [s1] at H1
  rw [s3] at H3
  generalize pdo (softQ l lf) ⟨3, 0⟩ = S3 at *
  generalize pdo (newP l lf) ⟨1, l.hh + 1⟩ = S4 at *
  obtain ⟨q3, f3⟩ := S3
  obtain ⟨q4, f4⟩ := S4
  dsimp only at H1 H2 H3 H4 s2 s4
  subst s2
  clear s1 s3
  unfold aPm aAc at H1 H2 H3 H4
  unfold newP softQ at H1
  unfold softQ at H2 H3
  unfold newP at H4 HP
  dsimp only at H1 H2 H3 H4 HP
  have hx : (l.sh == l.hh) = false := by simp [hne]
  obtain ⟨d0, d1, d2, d3, d4, d5, d6, d7, d8, d9⟩ := HP.out.ten
  have h1 := H1.out
  clear H1
  go_upto_region 11 with (with_reducible refine (h1 _).mono ?_; rintro e w7 ⟨rfl, hb⟩)
  have bx : Below w7.heap.size w7 (w7.alloc (.cells #[.int .i64 l.sl, .int .i64 l.sh, .int .i64 l.hl, .int .i64 l.hh, .int .i64 0, .int .i64 l.hh, .int .i64 2, .bool false, .int .i64 lf, .int .i64 0] 27)) := (Below.refl _ _).alloc (Nat.le_refl _) _
  have hNew := PB.new w7 #[.int .i64 l.sl, .int .i64 l.sh, .int .i64 l.hl, .int .i64 l.hh, .int .i64 0, .int .i64 l.hh, .int .i64 2, .bool false, .int .i64 lf, .int .i64 0] 27
  have HL2 := hidden ((HL.out.below hb).below bx)
  have HP2 := hidden ((HP.out.below hb).below bx)
  have HB2 := hidden (onto (onto HB.out hb) bx)
  clear HL HP HB hb bx
  have HL := HL2
  clear HL2
  have HP := HP2
  clear HP2
  have HB := HB2
  clear HB2
  generalize w7.alloc (.cells #[.int .i64 l.sl, .int .i64 l.sh, .int .i64 l.hl, .int .i64 l.hh, .int .i64 0, .int .i64 l.hh, .int .i64 2, .bool false, .int .i64 lf, .int .i64 0] 27) = w8 at *
  have HQ := hidden hNew
  generalize w7.heap.size = QQ at *
  clear hNew c0 c1 c2 c3 d0 d1 d2 d3 d4 d5 d6 d7 d8 d9 h1
  obtain ⟨c0, c1, c2, c3⟩ := HL.out.four
  obtain ⟨e0, e1, e2, e3, e4, e5, e6, e7, e8, e9⟩ := HQ.out.ten
  go_upto_region 13 with fail
  have h2 := H2.out
  clear H2
  go_upto_region 14 with (with_reducible refine (h2 _).mono ?_; rintro e w9 ⟨rfl, hb⟩)
  have bx : Below w9.heap.size w9 (w9.alloc (.cells #[.int .i64 q3.lim.sl, .int .i64 q3.lim.sh, .int .i64 q3.lim.hl, .int .i64 q3.lim.hh, .int .i64 q3.rate, .int .i64 q3.asked, .int .i64 q3.st, .bool q3.door, .int .i64 q3.left, .int .i64 q3.given] 27)) := (Below.refl _ _).alloc (Nat.le_refl _) _
  have hNew := PB.new w9 #[.int .i64 q3.lim.sl, .int .i64 q3.lim.sh, .int .i64 q3.lim.hl, .int .i64 q3.lim.hh, .int .i64 q3.rate, .int .i64 q3.asked, .int .i64 q3.st, .bool q3.door, .int .i64 q3.left, .int .i64 q3.given] 27
  have HL2 := hidden ((HL.out.below hb).below bx)
  have HP2 := hidden ((HP.out.below hb).below bx)
  have HQ2 := hidden ((HQ.out.below hb).below bx)
  have HB2 := hidden (onto (onto HB.out hb) bx)
  clear HL HP HQ HB hb bx
  have HL := HL2
  clear HL2
  have HP := HP2
  clear HP2
  have HQ := HQ2
  clear HQ2
  have HB := HB2
  clear HB2
  generalize w9.alloc (.cells #[.int .i64 q3.lim.sl, .int .i64 q3.lim.sh, .int .i64 q3.lim.hl, .int .i64 q3.lim.hh, .int .i64 q3.rate, .int .i64 q3.asked, .int .i64 q3.st, .bool q3.door, .int .i64 q3.left, .int .i64 q3.given] 27) = w10 at *
  clear hNew c0 c1 c2 c3 e0 e1 e2 e3 e4 e5 e6 e7 e8 e9 h2
  obtain ⟨e0, e1, e2, e3, e4, e5, e6, e7, e8, e9⟩ := HQ.out.ten
  have h3 := H3.out
  clear H3
  go_upto_region 15 with (with_reducible refine (h3 _).mono ?_; rintro e w11 ⟨rfl, hb⟩)
  have bx : Below w11.heap.size w11 (w11.alloc (.cells #[.int .i64 l.sl, .int .i64 l.sh, .int .i64 l.hl, .int .i64 l.hh, .int .i64 l.hh, .int .i64 0, .int .i64 2, .bool false, .int .i64 lf, .int .i64 0] 27)) := (Below.refl _ _).alloc (Nat.le_refl _) _
  have hNew := PB.new w11 #[.int .i64 l.sl, .int .i64 l.sh, .int .i64 l.hl, .int .i64 l.hh, .int .i64 l.hh, .int .i64 0, .int .i64 2, .bool false, .int .i64 lf, .int .i64 0] 27
  have HL2 := hidden ((HL.out.below hb).below bx)
  have HP2 := hidden ((HP.out.below hb).below bx)
  have HQ2 := hidden ((HQ.out.below hb).below bx)
  have HB2 := hidden (onto (onto HB.out hb) bx)
  clear HL HP HQ HB hb bx
  have HL := HL2
  clear HL2
  have HP := HP2
  clear HP2
  have HQ := HQ2
  clear HQ2
  have HB := HB2
  clear HB2
  generalize w11.alloc (.cells #[.int .i64 l.sl, .int .i64 l.sh, .int .i64 l.hl, .int .i64 l.hh, .int .i64 l.hh, .int .i64 0, .int .i64 2, .bool false, .int .i64 lf, .int .i64 0] 27) = w12 at *
  have HR := hidden hNew
  generalize w11.heap.size = RR at *
  clear hNew e0 e1 e2 e3 e4 e5 e6 e7 e8 e9 h3
  obtain ⟨c0, c1, c2, c3⟩ := HL.out.four
  obtain ⟨d0, d1, d2, d3, d4, d5, d6, d7, d8, d9⟩ := HP.out.ten
  have h4 := H4.out
  clear H4
  go_upto_region 16 with (with_reducible refine (h4 _).mono ?_; rintro e w13 ⟨rfl, hb⟩)
  have bx : Below w13.heap.size w13 (w13.alloc (.cells #[.int .i64 q4.lim.sl, .int .i64 q4.lim.sh, .int .i64 q4.lim.hl, .int .i64 q4.lim.hh, .int .i64 q4.rate, .int .i64 q4.asked, .int .i64 q4.st, .bool q4.door, .int .i64 q4.left, .int .i64 q4.given] 27)) := (Below.refl _ _).alloc (Nat.le_refl _) _
  have hNew := PB.new w13 #[.int .i64 q4.lim.sl, .int .i64 q4.lim.sh, .int .i64 q4.lim.hl, .int .i64 q4.lim.hh, .int .i64 q4.rate, .int .i64 q4.asked, .int .i64 q4.st, .bool q4.door, .int .i64 q4.left, .int .i64 q4.given] 27
  have HL2 := hidden ((HL.out.below hb).below bx)
  have HP2 := hidden ((HP.out.below hb).below bx)
  have HQ2 := hidden ((HQ.out.below hb).below bx)
  have HR2 := hidden ((HR.out.below hb).below bx)
  have HB2 := hidden (onto (onto HB.out hb) bx)
  clear HL HP HQ HR HB hb bx
  have HL := HL2
  clear HL2
  have HP := HP2
  clear HP2
  have HQ := HQ2
  clear HQ2
  have HR := HR2
  clear HR2
  have HB := HB2
  clear HB2
  generalize w13.alloc (.cells #[.int .i64 q4.lim.sl, .int .i64 q4.lim.sh, .int .i64 q4.lim.hl, .int .i64 q4.lim.hh, .int .i64 q4.rate, .int .i64 q4.asked, .int .i64 q4.st, .bool q4.door, .int .i64 q4.left, .int .i64 q4.given] 27) = w14 at *
  clear hNew c0 c1 c2 c3 d0 d1 d2 d3 d4 d5 d6 d7 d8 d9 h4
  obtain ⟨c0, c1, c2, c3⟩ := HL.out.four
  obtain ⟨d0, d1, d2, d3, d4, d5, d6, d7, d8, d9⟩ := HR.out.ten
  by_cases hm : l.hh = 100000
  · rw [if_pos hm] at s4
    subst s4
    go_wp2_with fail
    go_ret
    exact ⟨rfl, HB.out⟩
  · rw [if_neg hm] at s4
    subst s4
    go_wp2_with fail
    go_ret
    exact ⟨rfl, HB.out⟩
end Go.Proofs.Ytamghmnibfbgaaa
