/-
  A draw for JoinDo: joins and two numbers.
-/
import Derived.Test.YtdnnenklkfkhcaaDs
namespace Go.Proofs.Ytdnnenklkfkhcaa
open Go.RowKit Jn Go.Maps

set_option maxRecDepth 20000 in
set_option maxHeartbeats 2000000 in
theorem ddo_any (ao : Option Addr) (cap : Nat) (bs : List Int) (w : World) (hb : Bytes w w.heap.size ao bs) (hl : bs.length ≤ 1048576) :
    Calls Try.prog 23 #[.slice ao bs.length cap] w fun e w' => ∃ (v : Value) (l : List J) (k g : Int), e = .returned (.tuple #[v, .int .i64 k, .int .i64 g]) ∧ Own1 w' w.heap.size v l ∧ l.length ≤ 201 ∧ -1 ≤ k ∧ k ≤ 4611686018427387904 ∧ -1 ≤ g ∧ g ≤ 4611686018427387904 ∧ Below w.heap.size w w' := by
  go_enter Try.func23, Try.ntmps23
  go_wp2_with fail
  refine (new_any ao cap bs w hb hl).mono ?_
  rintro e w1 ⟨rfl, hc1, hb1⟩
  have hg1 := hc1.1
  clear hb
  go_wp2_with fail
  refine (dany_any w.heap.size ao cap bs w1 hc1).mono ?_
  rintro e w2 ⟨v2, rfl, l, hl2, ho2, hc2, hk2⟩
  have HO2 := hidden ho2
  have HL2 := hidden hl2
  clear ho2 hl2 hc1
  go_wp2_with fail
  refine (did_any w.heap.size ao cap bs w2 hc2).mono ?_
  rintro e w3 ⟨k, rfl, hk0, hk1, hc3, hk3⟩
  have HO3 := hidden (HO2.out.keep hk3 hg1)
  have K3 := hidden (hk2.trans hk3)
  clear HO2 hk2 hk3 hc2
  go_wp2_with fail
  refine (did_any w.heap.size ao cap bs w3 hc3).mono ?_
  rintro e w4 ⟨g, rfl, hg0, hg1', hc4, hk4⟩
  have HO4 := hidden (HO3.out.keep hk4 hg1)
  have K4 := hidden (K3.out.trans hk4)
  clear HO3 K3 hk4 hc3
  go_wp2_with fail
  exact bodyPost_ret (v := .tuple #[v2, .int .i64 k, .int .i64 g]) (by simp [results, Try.results23, go_sem]) rfl
    ⟨v2, l, k, g, rfl, own1_base HO4.out hb1.size, HL2.out, hk0, hk1, hg0, hg1', hb1.trans (K4.out.below (Nat.le_refl _) (by omega))⟩
end Go.Proofs.Ytdnnenklkfkhcaa
