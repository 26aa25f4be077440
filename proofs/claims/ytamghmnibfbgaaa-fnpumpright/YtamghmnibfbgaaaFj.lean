/-
  A right pump stays right: the walk of the law.
-/
import Derived.Test.YtamghmnibfbgaaaFi
import Derived.Test.YtamghmnibfbgaaaCh
namespace Go.Proofs.Ytamghmnibfbgaaa
open Go.RowKit Va Ba
set_option linter.unusedVariables false

set_option maxHeartbeats 4000000 in
theorem step_facts {p : Pm} (R : Right p) (c : Ac) : (Ba.step p c).2 ≠ 1 ∧ ((Ba.step p c).2 ≠ 0 → (Ba.step p c).2 ≠ 5 → (Ba.step p c).1 = p) ∧ (c.kind = 10 → (Ba.step p c).2 = 0 → (Ba.step p c).1.left = p.left + c.n ∧ (Ba.step p c).1.given = p.given ∧ 0 ≤ c.n ∧ c.n ≤ 100000) ∧
    (c.kind ≠ 10 → (Ba.step p c).1.left + (Ba.step p c).1.given = p.left + p.given ∧ p.given ≤ (Ba.step p c).1.given ∧ (c.kind ≠ 7 → (Ba.step p c).1.given = p.given)) := by
  unfold Ba.step
  split
  case isFalse => exact ⟨by simp, fun _ _ => rfl, fun _ h => by simp at h, fun _ => ⟨rfl, Int.le_refl _, fun _ => rfl⟩⟩
  rename_i ha
  split
  case isFalse => exact ⟨by simp, fun _ _ => rfl, fun _ h => by simp at h, fun _ => ⟨rfl, Int.le_refl _, fun _ => rfl⟩⟩
  rename_i hf
  simp only [actOk, Bool.and_eq_true] at ha
  obtain ⟨a1, a2⟩ := ha
  obtain ⟨k1, k2⟩ := rng_iff.1 a1
  have hN : counts c.kind = true → 0 ≤ c.n ∧ c.n ≤ 100000 := fun q => by
    rw [q] at a2; simp at a2; exact rng_iff.1 a2
  have hid : ∀ {e : Int}, e ≠ 1 → e ≠ 0 → ((p, e) : Pm × Int).2 ≠ 1 ∧ (((p, e) : Pm × Int).2 ≠ 0 → ((p, e) : Pm × Int).2 ≠ 5 → ((p, e) : Pm × Int).1 = p) ∧ (c.kind = 10 → ((p, e) : Pm × Int).2 = 0 → ((p, e) : Pm × Int).1.left = p.left + c.n ∧ ((p, e) : Pm × Int).1.given = p.given ∧ 0 ≤ c.n ∧ c.n ≤ 100000) ∧ (c.kind ≠ 10 → ((p, e) : Pm × Int).1.left + ((p, e) : Pm × Int).1.given = p.left + p.given ∧ p.given ≤ ((p, e) : Pm × Int).1.given ∧ (c.kind ≠ 7 → ((p, e) : Pm × Int).1.given = p.given)) :=
    fun h1 h0 => ⟨h1, fun _ _ => rfl, fun _ h => absurd h h0, fun _ => ⟨rfl, Int.le_refl _, fun _ => rfl⟩⟩
  unfold doK
  split
  · rename_i e
    split
    · exact hid (by decide) (by decide)
    · split
      · exact ⟨by simp, fun _ h => absurd rfl h, fun h => by omega, fun _ => ⟨rfl, Int.le_refl _, fun _ => rfl⟩⟩
      · exact ⟨by simp, fun h => absurd rfl h, fun h => by omega, fun _ => ⟨rfl, Int.le_refl _, fun _ => rfl⟩⟩
  split
  · exact ⟨by simp, fun h => absurd rfl h, fun h => by omega, fun _ => ⟨rfl, Int.le_refl _, fun _ => rfl⟩⟩
  split
  · split
    · exact hid (by decide) (by decide)
    · split
      · exact hid (by decide) (by decide)
      · exact ⟨by simp, fun h => absurd rfl h, fun h => by omega, fun _ => ⟨rfl, Int.le_refl _, fun _ => rfl⟩⟩
  split
  · exact ⟨by simp, fun h => absurd rfl h, fun h => by omega, fun _ => ⟨rfl, Int.le_refl _, fun _ => rfl⟩⟩
  split
  · exact ⟨by simp, fun h => absurd rfl h, fun h => by omega, fun _ => ⟨rfl, Int.le_refl _, fun _ => rfl⟩⟩
  split
  · exact ⟨by simp, fun h => absurd rfl h, fun h => by omega, fun _ => ⟨rfl, Int.le_refl _, fun _ => rfl⟩⟩
  split
  · rename_i e
    have n1 := hN (by simp [counts, e])
    split
    · exact hid (by decide) (by decide)
    · have hl := R.left
      have hr : 0 ≤ p.rate := by have h1 := R.lim; have h2 := R.rate; omega
      have hm0 : 0 ≤ p.rate * c.n := Int.mul_nonneg hr n1.1
      have hm : 0 ≤ min (p.rate * c.n) p.left := by omega
      generalize min (p.rate * c.n) p.left = m at *
      exact ⟨by simp, fun h => absurd rfl h, fun h => by omega, fun _ => ⟨by dsimp only; omega, by dsimp only; omega, fun h => absurd e h⟩⟩
  split
  · exact ⟨by simp, fun h => absurd rfl h, fun h => by omega, fun _ => ⟨rfl, Int.le_refl _, fun _ => rfl⟩⟩
  split
  · exact ⟨by simp, fun h => absurd rfl h, fun h => by omega, fun _ => ⟨rfl, Int.le_refl _, fun _ => rfl⟩⟩
  · have n1 : c.kind = 10 := by omega
    have n2 := hN (by simp [counts, n1])
    split
    · exact hid (by decide) (by decide)
    · exact ⟨by simp, fun h => absurd rfl h, fun _ _ => ⟨rfl, rfl, n2⟩, fun h => absurd n1 h⟩

set_option maxRecDepth 20000 in
set_option maxHeartbeats 16000000 in
theorem fpr_walk (ao : Option Addr) (cap : Nat) (bs : List Int) (w : World) (hb : Bytes w w.heap.size ao bs) :
    Calls Try.prog 3 #[.slice ao bs.length cap] w fun e w' => e = .returned (.bool true) ∧ Below w.heap.size w w' := by
  have hB := big_any ao cap bs.length
  have HBY := hidden hb
  clear hb
  by_cases hbig : (4096 : Int) < (bs.length : Int)
  · rw [decide_eq_true hbig] at hB
    go_enter Try.func3, Try.ntmps3
    go_wp2_with fail
    refine (hB _).mono ?_
    rintro e w1 ⟨rfl, rfl⟩
    go_wp2_with fail
    go_ret
    exact ⟨rfl, Below.refl _ _⟩
  rw [decide_eq_false hbig] at hB
  have hl : bs.length ≤ 4096 := by omega
  have hD := ddo_any ao cap bs w HBY.out (by omega)
  unfold aPm aAc at hD
  go_enter Try.func3, Try.ntmps3
  go_wp2_with fail
  refine (hB _).mono ?_
  rintro e w1 ⟨rfl, hw1⟩
  have hw2 := hw1.symm
  clear hw1
  subst hw2
  go_wp2_with fail
  refine hD.mono ?_
  rintro e w1 ⟨p, c, rfl, hb1⟩
  clear hB hD
  go_upto_region 4 with fail
  have HP := hidden ((PB.new w1 #[.int .i64 p.lim.sl, .int .i64 p.lim.sh, .int .i64 p.lim.hl, .int .i64 p.lim.hh, .int .i64 p.rate, .int .i64 p.asked, .int .i64 p.st, .bool p.door, .int .i64 p.left, .int .i64 p.given] 27).alloc (.cells #[.int .i64 c.kind, .int .i64 c.n] 29))
  have HA := hidden (PB.new (w1.alloc (.cells #[.int .i64 p.lim.sl, .int .i64 p.lim.sh, .int .i64 p.lim.hl, .int .i64 p.lim.hh, .int .i64 p.rate, .int .i64 p.asked, .int .i64 p.st, .bool p.door, .int .i64 p.left, .int .i64 p.given] 27)) #[.int .i64 c.kind, .int .i64 c.n] 29)
  simp only [World.size_alloc w1] at HA
  have HB : Hid (Below w.heap.size w ((w1.alloc (.cells #[.int .i64 p.lim.sl, .int .i64 p.lim.sh, .int .i64 p.lim.hl, .int .i64 p.lim.hh, .int .i64 p.rate, .int .i64 p.asked, .int .i64 p.st, .bool p.door, .int .i64 p.left, .int .i64 p.given] 27)).alloc (.cells #[.int .i64 c.kind, .int .i64 c.n] 29))) := (hb1.alloc hb1.size _).alloc (by simp; exact Nat.le_trans hb1.size (Nat.le_succ _)) _
  generalize (w1.alloc (.cells #[.int .i64 p.lim.sl, .int .i64 p.lim.sh, .int .i64 p.lim.hl, .int .i64 p.lim.hh, .int .i64 p.rate, .int .i64 p.asked, .int .i64 p.st, .bool p.door, .int .i64 p.left, .int .i64 p.given] 27)).alloc (.cells #[.int .i64 c.kind, .int .i64 c.n] 29) = w2 at *
  generalize w1.heap.size + 1 = AA at *
  generalize w1.heap.size = PP at *
  clear hb1
  have hI := ipdo_any p c
  have hS := spdo_any p c
  have HV : Hid (pdo p c = if pmOk p = true then Ba.step p c else (zeroP, 1)) := rfl
  have HF := hidden (fun R : Right p => step_facts R c)
  have HR := hidden (fun R : Right p => right_step R c)
  generalize pdo p c = N at *
  generalize Ba.step p c = S at *
  obtain ⟨q, e⟩ := N
  dsimp only at hI hS
  unfold aPm aAc at hI hS
  obtain ⟨c0, c1, c2, c3, c4, c5, c6, c7, c8, c9⟩ := HP.out.ten
  obtain ⟨a0, a1⟩ := HA.out.two
  go_upto_region 5 with (with_reducible refine (hI _).mono ?_; rintro e w3 ⟨rfl, hb⟩)
  have bx : Below w3.heap.size w3 (w3.alloc (.cells #[.int .i64 q.lim.sl, .int .i64 q.lim.sh, .int .i64 q.lim.hl, .int .i64 q.lim.hh, .int .i64 q.rate, .int .i64 q.asked, .int .i64 q.st, .bool q.door, .int .i64 q.left, .int .i64 q.given] 27)) := (Below.refl _ _).alloc (Nat.le_refl _) _
  have hNew := PB.new w3 #[.int .i64 q.lim.sl, .int .i64 q.lim.sh, .int .i64 q.lim.hl, .int .i64 q.lim.hh, .int .i64 q.rate, .int .i64 q.asked, .int .i64 q.st, .bool q.door, .int .i64 q.left, .int .i64 q.given] 27
  have HP2 := hidden ((HP.out.below hb).below bx)
  have HA2 := hidden ((HA.out.below hb).below bx)
  have HB2 := hidden (onto (onto HB.out hb) bx)
  clear HP HA HB hb bx
  have HP := HP2
  clear HP2
  have HA := HA2
  clear HA2
  have HB := HB2
  clear HB2
  generalize w3.alloc (.cells #[.int .i64 q.lim.sl, .int .i64 q.lim.sh, .int .i64 q.lim.hl, .int .i64 q.lim.hh, .int .i64 q.rate, .int .i64 q.asked, .int .i64 q.st, .bool q.door, .int .i64 q.left, .int .i64 q.given] 27) = w4 at *
  have HQ := hidden hNew
  generalize w3.heap.size = QQ at *
  clear hNew c0 c1 c2 c3 c4 c5 c6 c7 c8 c9 a0 a1 hI
  obtain ⟨c0, c1, c2, c3, c4, c5, c6, c7, c8, c9⟩ := HP.out.ten
  obtain ⟨a0, a1⟩ := HA.out.two
  go_upto_region 6 with (with_reducible refine (hS _).mono ?_; rintro e w5 ⟨rfl, hb⟩)
  have bx : Below w5.heap.size w5 (w5.alloc (.cells #[.int .i64 q.lim.sl, .int .i64 q.lim.sh, .int .i64 q.lim.hl, .int .i64 q.lim.hh, .int .i64 q.rate, .int .i64 q.asked, .int .i64 q.st, .bool q.door, .int .i64 q.left, .int .i64 q.given] 27)) := (Below.refl _ _).alloc (Nat.le_refl _) _
  have hNew := PB.new w5 #[.int .i64 q.lim.sl, .int .i64 q.lim.sh, .int .i64 q.lim.hl, .int .i64 q.lim.hh, .int .i64 q.rate, .int .i64 q.asked, .int .i64 q.st, .bool q.door, .int .i64 q.left, .int .i64 q.given] 27
  have HP2 := hidden ((HP.out.below hb).below bx)
  have HA2 := hidden ((HA.out.below hb).below bx)
  have HQ2 := hidden ((HQ.out.below hb).below bx)
  have HB2 := hidden (onto (onto HB.out hb) bx)
  clear HP HA HQ HB hb bx
  have HP := HP2
  clear HP2
  have HA := HA2
  clear HA2
  have HQ := HQ2
  clear HQ2
  have HB := HB2
  clear HB2
  generalize w5.alloc (.cells #[.int .i64 q.lim.sl, .int .i64 q.lim.sh, .int .i64 q.lim.hl, .int .i64 q.lim.hh, .int .i64 q.rate, .int .i64 q.asked, .int .i64 q.st, .bool q.door, .int .i64 q.left, .int .i64 q.given] 27) = w6 at *
  clear hNew c0 c1 c2 c3 c4 c5 c6 c7 c8 c9 a0 a1 hS
  obtain ⟨c0, c1, c2, c3, c4, c5, c6, c7, c8, c9⟩ := HP.out.ten
  obtain ⟨a0, a1⟩ := HA.out.two
  obtain ⟨d0, d1, d2, d3, d4, d5, d6, d7, d8, d9⟩ := HQ.out.ten
  cases hbk : pmOk p with
  | false =>
    rw [hbk, if_neg (by simp)] at HV
    obtain ⟨rfl, rfl⟩ := Prod.mk.inj HV.out
    unfold zeroP at d0 d1 d2 d3 d4 d5 d6 d7 d8 d9
    dsimp only at d0 d1 d2 d3 d4 d5 d6 d7 d8 d9
    clear HV HF HR HP HA
    go_wp2_with fail
    go_ret
    exact ⟨rfl, HB.out⟩
  | true =>
    rw [hbk, if_pos rfl] at HV
    have hRp := right_iff.1 hbk
    have hRq : Right S.1 := HR.out hRp
    obtain ⟨f1, f2, f3, f4⟩ := HF.out hRp
    obtain rfl := HV.out
    dsimp only at hRq f1 f2 f3 f4
    have hK : ∀ w, Calls Try.prog 13 #[.agg #[.int .i64 q.lim.sl, .int .i64 q.lim.sh, .int .i64 q.lim.hl, .int .i64 q.lim.hh, .int .i64 q.rate, .int .i64 q.asked, .int .i64 q.st, .bool q.door, .int .i64 q.left, .int .i64 q.given]] w fun e w' => e = .returned (.bool true) ∧ Below w.heap.size w w' := fun w => (spok_any q w).mono fun e w' ⟨h1, h2⟩ => ⟨by rw [h1, right_iff.2 hRq], h2⟩
    have pl := hRp.left
    have pg := hRp.given
    have ql := hRq.left
    have qg := hRq.given
    have HRUN := hidden hRq.run
    have HRATE := hidden hRq.rate
    clear HV HF HR hbk hRp hRq
    clear c0 c1 c2 c3 c4 c5 c6 c7 c8 c9 a0 a1 d0 d1 d2 d3 d4 d5 d6 d7 d8 d9
    have HF2 := hidden f2
    have HF3 := hidden f3
    have HF4 := hidden f4
    clear f2 f3 f4
    have hcase : e = 0 ∨ e = 5 ∨ (e ≠ 0 ∧ e ≠ 5) := by omega
    rcases hcase with rfl | rfl | ⟨he0, he5⟩
    · skip
      obtain ⟨d0, d1, d2, d3, d4, d5, d6, d7, d8, d9⟩ := HQ.out.ten
      go_upto_region 12 with (with_reducible refine (hK _).mono ?_; rintro e7 w7 ⟨rfl, hb7⟩; obtain ⟨p0, p1, p2, p3, p4, p5, p6, p7, p8, p9⟩ := (HP.out.below hb7).ten; obtain ⟨s0, s1, s2, s3, s4, s5, s6, s7, s8, s9⟩ := (HQ.out.below hb7).ten; obtain ⟨b0, b1⟩ := (HA.out.below hb7).two)
      have HB7 := hidden (onto HB.out hb7)
      clear HB hb7 HP HQ HA hK d0 d1 d2 d3 d4 d5 d6 d7 d8 d9
      by_cases h3 : q.st = 3
      · obtain ⟨hr0, hd0⟩ := HRUN.out h3
        have hrr : q.lim.hl ≤ q.rate ∧ q.rate ≤ q.lim.hh := by have := HRATE.out; omega
        obtain ⟨hr1, hr2⟩ := hrr
        by_cases h10 : c.kind = 10
        · obtain ⟨g1, g2, n0, n1⟩ := HF3.out h10 (by simp)
          have hsum : p.left + c.n ≤ 100100000 := by omega
          go_wp2_with fail
          all_goals go_ret
          all_goals exact ⟨ret_bool (by first | rfl | (simp; done) | (simp; omega) | (simp_all; done) | (simp_all; omega)), HB7.out⟩
        · obtain ⟨g1, g2, g3⟩ := HF4.out h10
          by_cases h7 : c.kind = 7
          · clear g3
            go_wp2_with fail
            all_goals go_ret
            all_goals exact ⟨ret_bool (by first | rfl | (simp; done) | (simp; omega) | (simp_all; done) | (simp_all; omega)), HB7.out⟩
          · have g4 := g3 h7
            clear g3
            go_wp2_with fail
            all_goals go_ret
            all_goals exact ⟨ret_bool (by first | rfl | (simp; done) | (simp; omega) | (simp_all; done) | (simp_all; omega)), HB7.out⟩
      · skip
        by_cases h10 : c.kind = 10
        · obtain ⟨g1, g2, n0, n1⟩ := HF3.out h10 (by simp)
          have hsum : p.left + c.n ≤ 100100000 := by omega
          go_wp2_with fail
          all_goals go_ret
          all_goals exact ⟨ret_bool (by first | rfl | (simp; done) | (simp; omega) | (simp_all; done) | (simp_all; omega)), HB7.out⟩
        · obtain ⟨g1, g2, g3⟩ := HF4.out h10
          by_cases h7 : c.kind = 7
          · clear g3
            go_wp2_with fail
            all_goals go_ret
            all_goals exact ⟨ret_bool (by first | rfl | (simp; done) | (simp; omega) | (simp_all; done) | (simp_all; omega)), HB7.out⟩
          · have g4 := g3 h7
            clear g3
            go_wp2_with fail
            all_goals go_ret
            all_goals exact ⟨ret_bool (by first | rfl | (simp; done) | (simp; omega) | (simp_all; done) | (simp_all; omega)), HB7.out⟩
    · skip
      obtain ⟨d0, d1, d2, d3, d4, d5, d6, d7, d8, d9⟩ := HQ.out.ten
      go_upto_region 12 with (with_reducible refine (hK _).mono ?_; rintro e7 w7 ⟨rfl, hb7⟩; obtain ⟨p0, p1, p2, p3, p4, p5, p6, p7, p8, p9⟩ := (HP.out.below hb7).ten; obtain ⟨s0, s1, s2, s3, s4, s5, s6, s7, s8, s9⟩ := (HQ.out.below hb7).ten; obtain ⟨b0, b1⟩ := (HA.out.below hb7).two)
      have HB7 := hidden (onto HB.out hb7)
      clear HB hb7 HP HQ HA hK d0 d1 d2 d3 d4 d5 d6 d7 d8 d9
      by_cases h3 : q.st = 3
      · obtain ⟨hr0, hd0⟩ := HRUN.out h3
        have hrr : q.lim.hl ≤ q.rate ∧ q.rate ≤ q.lim.hh := by have := HRATE.out; omega
        obtain ⟨hr1, hr2⟩ := hrr
        by_cases h10 : c.kind = 10
        · go_wp2_with fail
          all_goals go_ret
          all_goals exact ⟨ret_bool (by first | rfl | (simp; done) | (simp; omega) | (simp_all; done) | (simp_all; omega)), HB7.out⟩
        · obtain ⟨g1, g2, g3⟩ := HF4.out h10
          by_cases h7 : c.kind = 7
          · clear g3
            go_wp2_with fail
            all_goals go_ret
            all_goals exact ⟨ret_bool (by first | rfl | (simp; done) | (simp; omega) | (simp_all; done) | (simp_all; omega)), HB7.out⟩
          · have g4 := g3 h7
            clear g3
            go_wp2_with fail
            all_goals go_ret
            all_goals exact ⟨ret_bool (by first | rfl | (simp; done) | (simp; omega) | (simp_all; done) | (simp_all; omega)), HB7.out⟩
      · skip
        by_cases h10 : c.kind = 10
        · go_wp2_with fail
          all_goals go_ret
          all_goals exact ⟨ret_bool (by first | rfl | (simp; done) | (simp; omega) | (simp_all; done) | (simp_all; omega)), HB7.out⟩
        · obtain ⟨g1, g2, g3⟩ := HF4.out h10
          by_cases h7 : c.kind = 7
          · clear g3
            go_wp2_with fail
            all_goals go_ret
            all_goals exact ⟨ret_bool (by first | rfl | (simp; done) | (simp; omega) | (simp_all; done) | (simp_all; omega)), HB7.out⟩
          · have g4 := g3 h7
            clear g3
            go_wp2_with fail
            all_goals go_ret
            all_goals exact ⟨ret_bool (by first | rfl | (simp; done) | (simp; omega) | (simp_all; done) | (simp_all; omega)), HB7.out⟩
    · obtain rfl := HF2.out he0 he5
      obtain ⟨d0, d1, d2, d3, d4, d5, d6, d7, d8, d9⟩ := HQ.out.ten
      go_upto_region 12 with (with_reducible refine (hK _).mono ?_; rintro e7 w7 ⟨rfl, hb7⟩; obtain ⟨p0, p1, p2, p3, p4, p5, p6, p7, p8, p9⟩ := (HP.out.below hb7).ten; obtain ⟨s0, s1, s2, s3, s4, s5, s6, s7, s8, s9⟩ := (HQ.out.below hb7).ten; obtain ⟨b0, b1⟩ := (HA.out.below hb7).two)
      have HB7 := hidden (onto HB.out hb7)
      clear HB hb7 HP HQ HA hK d0 d1 d2 d3 d4 d5 d6 d7 d8 d9
      by_cases h3 : q.st = 3
      · obtain ⟨hr0, hd0⟩ := HRUN.out h3
        have hrr : q.lim.hl ≤ q.rate ∧ q.rate ≤ q.lim.hh := by have := HRATE.out; omega
        obtain ⟨hr1, hr2⟩ := hrr
        by_cases h10 : c.kind = 10
        · go_wp2_with fail
          all_goals go_ret
          all_goals exact ⟨ret_bool (by first | rfl | (simp; done) | (simp; omega) | (simp_all; done) | (simp_all; omega)), HB7.out⟩
        · obtain ⟨g1, g2, g3⟩ := HF4.out h10
          by_cases h7 : c.kind = 7
          · clear g3
            go_wp2_with fail
            all_goals go_ret
            all_goals exact ⟨ret_bool (by first | rfl | (simp; done) | (simp; omega) | (simp_all; done) | (simp_all; omega)), HB7.out⟩
          · have g4 := g3 h7
            clear g3
            go_wp2_with fail
            all_goals go_ret
            all_goals exact ⟨ret_bool (by first | rfl | (simp; done) | (simp; omega) | (simp_all; done) | (simp_all; omega)), HB7.out⟩
      · skip
        by_cases h10 : c.kind = 10
        · go_wp2_with fail
          all_goals go_ret
          all_goals exact ⟨ret_bool (by first | rfl | (simp; done) | (simp; omega) | (simp_all; done) | (simp_all; omega)), HB7.out⟩
        · obtain ⟨g1, g2, g3⟩ := HF4.out h10
          by_cases h7 : c.kind = 7
          · clear g3
            go_wp2_with fail
            all_goals go_ret
            all_goals exact ⟨ret_bool (by first | rfl | (simp; done) | (simp; omega) | (simp_all; done) | (simp_all; omega)), HB7.out⟩
          · have g4 := g3 h7
            clear g3
            go_wp2_with fail
            all_goals go_ret
            all_goals exact ⟨ret_bool (by first | rfl | (simp; done) | (simp; omega) | (simp_all; done) | (simp_all; omega)), HB7.out⟩
end Go.Proofs.Ytamghmnibfbgaaa
