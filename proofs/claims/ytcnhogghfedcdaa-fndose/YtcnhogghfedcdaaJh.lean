/-
  A dose is at most the most, no less for somebody heavier, no more for kidneys that work less: the walk of the law.
-/
import Derived.Test.YtcnhogghfedcdaaJf
import Derived.Test.YtcnhogghfedcdaaJg
import Derived.Test.YtcnhogghfedcdaaGk
namespace Go.Proofs.Ytcnhogghfedcdaa
open Go.RowKit Va Ga
set_option linter.unusedVariables false

set_option maxRecDepth 20000 in
set_option maxHeartbeats 8000000 in
theorem fdo_walk (ao : Option Addr) (cap : Nat) (bs : List Int) (w : World) (hb : Bytes w w.heap.size ao bs) :
    Calls Try.prog 3 #[.slice ao bs.length cap] w fun e w' => e = .returned (.bool true) ∧ Below w.heap.size w w' := by
  have hB := big_any ao cap bs.length
  have HBY := hidden hb
  clear hb
  by_cases hbig : (4096 : Int) < (bs.length : Int)
  · rw [decide_eq_true hbig] at hB
    go_enter Try.func3, Try.ntmps3
    go_wp2_with fail
    refine (hB _).mono ?_
    rintro e w1 ⟨rfl, rfl⟩
    go_wp2_with fail
    go_ret
    exact ⟨rfl, Below.refl _ _⟩
  rw [decide_eq_false hbig] at hB
  have hl : bs.length ≤ 4096 := by omega
  go_enter Try.func3, Try.ntmps3
  go_wp2_with fail
  refine (hB w).mono ?_
  rintro e w1 ⟨rfl, hw1⟩
  subst hw1
  clear hB
  have hDD := ddose_any ao cap bs w1 HBY.out (by omega)
  unfold aD at hDD
  go_wp2_with fail
  refine hDD.mono ?_
  rintro e w2 ⟨x, ad, c, g, k, rfl, hlen, hrow, b2⟩
  clear hDD
  go_upto_region 4 with fail
  have hI := fun g k W hW => idose_any x ad x.cls.length c g k W hW (by omega)
  have hS := fun g k W hW => sdose_any x ad x.cls.length c g k W hW (by omega)
  unfold aD at hI hS
  have PX := hidden (PB.new w2 #[.int .i64 x.id, .slice ad x.cls.length c, .int .i64 x.pk, .int .i64 x.most, .int .i64 x.day, .int .i64 x.kid] 26)
  have bx : Below w2.heap.size w2 (w2.alloc (.cells #[.int .i64 x.id, .slice ad x.cls.length c, .int .i64 x.pk, .int .i64 x.most, .int .i64 x.day, .int .i64 x.kid] 26)) := (Below.refl _ _).alloc (Nat.le_refl _) _
  have RX := hidden (hrow.below bx)
  have BX := hidden (onto b2 bx)
  clear hrow bx b2
  generalize w2.alloc (.cells #[.int .i64 x.id, .slice ad x.cls.length c, .int .i64 x.pk, .int .i64 x.most, .int .i64 x.day, .int .i64 x.kid] 26) = wX at *
  generalize w2.heap.size = V at *
  have HF := hidden (dose_facts x g k)
  have i1 := hI g k
  have i2 := hI (g + 1) k
  have i3 := hI g (k - 1)
  have s1 := hS g k
  clear hI hS
  generalize doseFor x g k = D1 at *
  generalize doseFor x (g + 1) k = D2 at *
  generalize doseFor x g (k - 1) = D3 at *
  obtain ⟨n1, t1⟩ := D1
  obtain ⟨n2, t2⟩ := D2
  obtain ⟨n3, t3⟩ := D3
  dsimp only at HF i1 i2 i3 s1
  obtain ⟨d0, d1, d2, d3, d4, d5⟩ := PX.out.six
  go_wp2_with fail
  refine (i1 _ RX.out).mono ?_
  rintro e w3 ⟨rfl, b3⟩
  clear d0 d1 d2 d3 d4 d5 i1
  obtain ⟨d0, d1, d2, d3, d4, d5⟩ := (PX.out.below b3).six
  go_wp2_with fail
  refine (s1 _ (RX.out.below b3)).mono ?_
  rintro e w4 ⟨rfl, b4⟩
  have B4 := hidden (b3.trans (b4.mono b3.size))
  clear d0 d1 d2 d3 d4 d5 s1 b3 b4
  rcases t1 with _ | _
  · go_wp2_with fail
    go_ret
    exact ⟨rfl, onto BX.out B4.out⟩
  obtain ⟨p0, p1, ⟨g0, g1⟩, ⟨k0, k1⟩, hm, hs⟩ := HF.out rfl
  clear HF
  obtain ⟨d0, d1, d2, d3, d4, d5⟩ := (PX.out.below B4.out).six
  go_wp2_with fail
  refine (i2 _ (RX.out.below B4.out)).mono ?_
  rintro e w5 ⟨rfl, b5⟩
  have B5 := hidden (B4.out.trans (b5.mono B4.out.size))
  clear d0 d1 d2 d3 d4 d5 i2 b5 B4
  obtain ⟨d0, d1, d2, d3, d4, d5⟩ := (PX.out.below B5.out).six
  go_wp2_with fail
  refine (i3 _ (RX.out.below B5.out)).mono ?_
  rintro e w6 ⟨rfl, b6⟩
  have B6 := hidden (B5.out.trans (b6.mono B5.out.size))
  clear d0 d1 d2 d3 d4 d5 i3 b6 B5
  obtain ⟨d0, d1, d2, d3, d4, d5⟩ := (PX.out.below B6.out).six
  rcases hm with ⟨rfl, rfl⟩ | ⟨rfl, hm⟩
  · rcases t3 with _ | _
    · go_wp2_with fail
      all_goals go_ret
      all_goals exact ⟨rfl, onto BX.out B6.out⟩
    · have hs1 : n3 ≤ n1 := by
        rcases hs with h | h
        · cases h
        · exact h
      clear hs
      go_wp2_with fail
      all_goals go_ret
      all_goals exact ⟨rfl, onto BX.out B6.out⟩
  · rcases t3 with _ | _
    · clear hs
      go_wp2_with fail
      all_goals go_ret
      all_goals exact ⟨rfl, onto BX.out B6.out⟩
    · have hs1 : n3 ≤ n1 := by
        rcases hs with h | h
        · cases h
        · exact h
      clear hs
      go_wp2_with fail
      all_goals go_ret
      all_goals exact ⟨rfl, onto BX.out B6.out⟩
end Go.Proofs.Ytcnhogghfedcdaa
