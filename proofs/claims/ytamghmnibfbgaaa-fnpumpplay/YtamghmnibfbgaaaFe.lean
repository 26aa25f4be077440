/-
  A new pump's limit and how much is left, drawn.
-/
import Derived.Test.YtamghmnibfbgaaaFd
import Derived.Deep.RegionWith
namespace Go.Proofs.Ytamghmnibfbgaaa
open Go.RowKit Va Ba
set_option linter.unusedVariables false

theorem bytes_upY {w w' : World} {ao : Option Addr} {bs : List Int} (h : Bytes w w.heap.size ao bs) (hb : Below w.heap.size w w') : Bytes w' w'.heap.size ao bs := by
  have h2 := h.below hb
  have hs := hb.size
  refine ⟨h2.1, ?_⟩
  rcases h2.2 with q | ⟨b, o, e, hl, hc⟩
  · exact Or.inl q
  · exact Or.inr ⟨b, o, e, by omega, hc⟩

set_option maxRecDepth 20000 in
set_option maxHeartbeats 8000000 in
theorem dnew_any (ao : Option Addr) (cap : Nat) (bs : List Int) (w : World) (hb : Bytes w w.heap.size ao bs) (hl : bs.length ≤ 1048576) :
    Calls Try.prog 14 #[.slice ao bs.length cap] w fun e w' => ∃ (l : Lm) (z : Int), e = .returned (.tuple #[aL l, .int .i64 z]) ∧ Below w.heap.size w w' := by
  have hbA : Below w.heap.size w (w.alloc (.cells #[.int .i64 0, .int .i64 0, .int .i64 0, .int .i64 0] 25)) := (Below.refl _ _).alloc (Nat.le_refl _) _
  have hby := bytes_upY hb hbA
  have hR := PB.new w #[.int .i64 0, .int .i64 0, .int .i64 0, .int .i64 0] 25
  clear hb
  go_enter Try.func14, Try.ntmps14
  go_upto_region 1 with fail
  generalize w.alloc (.cells #[.int .i64 0, .int .i64 0, .int .i64 0, .int .i64 0] 25) = wA at *
  go_wp2_with fail
  refine (new_any ao cap bs wA hby hl).mono ?_
  rintro e wN ⟨rfl, hcN, hbN⟩
  have hRg : w.heap.size < wA.heap.size := hR.lt
  have hRN := hR.below hbN
  have hbW := onto hbA hbN
  clear hR hbA hbN hby
  generalize wA.heap.size = g at *
  have hDL := fun W hW => dlimit_any g ao cap bs W hW
  unfold aL at hDL
  go_wp2_with fail
  refine (hDL _ hcN).mono ?_
  rintro e w1 ⟨l, rfl, hc1, hk1⟩
  go_upto_region 3 with fail
  have hV := PB.new w1 #[.int .i64 l.sl, .int .i64 l.sh, .int .i64 l.hl, .int .i64 l.hh] 25
  have hRV := (hRN.keep hk1 (by omega)).alloc (.cells #[.int .i64 l.sl, .int .i64 l.sh, .int .i64 l.hl, .int .i64 l.hh] 25)
  have hbV : Below w.heap.size w (w1.alloc (.cells #[.int .i64 l.sl, .int .i64 l.sh, .int .i64 l.hl, .int .i64 l.hh] 25)) := (hbW.trans (hk1.below (by omega) hbW.size)).alloc (Nat.le_trans hbW.size hk1.size) _
  have hcV := hc1.alloc (.cells #[.int .i64 l.sl, .int .i64 l.sh, .int .i64 l.hl, .int .i64 l.hh] 25)
  have hVR : w.heap.size ≠ w1.heap.size := by have := (hRN.keep hk1 (by omega)).lt; omega
  generalize w1.alloc (.cells #[.int .i64 l.sl, .int .i64 l.sh, .int .i64 l.hl, .int .i64 l.hh] 25) = wV at *
  have hVg2 : w1.heap.size ≠ g := Nat.ne_of_gt hc1.1
  generalize w1.heap.size = V at *
  clear hRN hbW hcN hc1 hk1 hDL
  obtain ⟨c0, c1, c2, c3⟩ := hV.four
  have hVg : g < wV.heap.size := hcV.1
  have HC : Hid (Cur wV.drew g ao cap bs) := hcV.drewN 1
  have HR : Hid (PB wV.drew w.heap.size #[.int .i64 0, .int .i64 0, .int .i64 0, .int .i64 0] 25) := hRV.drewN 1
  have HB : Hid (Below w.heap.size w wV.drew) := st_drew hbV
  have HV : Hid (PB wV.drew V #[.int .i64 l.sl, .int .i64 l.sh, .int .i64 l.hl, .int .i64 l.hh] 25) := hV.drewN 1
  clear hcV hRV hbV hV
  first
    | go_region_with (go_at_call 39; refine (dleft_any g ao cap bs _ (by first | with_reducible exact HC.out | fail)).mono ?_; rintro e w5 ⟨z, rfl, hc5, hk5⟩; have hR5 := hidden (HR.out.keep hk5 (by omega)); obtain ⟨x0, x1, x2, x3⟩ := (HV.out.keep hk5 hVg2).four; have hB5 := hidden (HB.out.trans (hk5.below (by omega) HB.out.size)); obtain ⟨z0, z1, z2, z3⟩ := hR5.out.four; have f0 := hR5.out.frozen 0; have f1 := hR5.out.frozen 1; have f2 := hR5.out.frozen 2; have f3 := hR5.out.frozen 3; clear hc5 hk5)
    | fail
  all_goals go_wp2_with fail
  all_goals (try simp only [Exit.inBlock, Exit.then])
  all_goals refine bodyPost_ret (results_ct Try.results14 _ _ w.heap.size 25 _ _ rfl (put_four hR5.out (.int .i64 l.sl) (.int .i64 l.sh) (.int .i64 l.hl) (.int .i64 l.hh)) Try.underlying25 rfl (by kernel_rfl)) rfl ⟨l, z, rfl, ?_⟩
  all_goals exact (((hB5.out.setCell (p := ⟨w.heap.size, 0, none⟩) (Nat.le_refl _) _).setCell (p := ⟨w.heap.size, 1, none⟩) (Nat.le_refl _) _).setCell (p := ⟨w.heap.size, 2, none⟩) (Nat.le_refl _) _).setCell (p := ⟨w.heap.size, 3, none⟩) (Nat.le_refl _) _
end Go.Proofs.Ytamghmnibfbgaaa
