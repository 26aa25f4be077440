/-
  What the specification's CycleOf answers.
-/
import Derived.Test.YtgedaobgomnflaaWp
namespace Go.Proofs.Ytgedaobgomnflaa
open Go.RowKit Va Wa Go.Maps
set_option linter.unusedVariables false

theorem cycle_no {l : List Stp} {a : Int} (h : ¬ (ssB l = true ∧ 0 ≤ a ∧ a < l.length)) : cycleOf l a = -1 := by unfold cycleOf; rw [if_neg h]
theorem cycle_yes {l : List Stp} {a : Nat} (h : ssB l = true) (ha : a < l.length) : (bysF rm0 l)[a]? = some (cycleOf l a) := by
  unfold cycleOf
  rw [if_pos ⟨h, by omega, by omega⟩, List.getD_eq_getElem?_getD]
  have : a < (bysF rm0 l).length := by rw [bysF_len]; exact ha
  simp [List.getElem?_eq_getElem this]

set_option maxRecDepth 20000 in
set_option maxHeartbeats 4000000 in
theorem scycle_any (ao : Option Addr) (n cap : Nat) (l : List Stp) (a : Int) (w : World) (h : Rw 4 csT w (.slice ao n cap) l) (hn : l.length ≤ 1048576) :
    Calls Try.prog 31 #[.slice ao n cap, .int .i64 a] w fun e w' => e = .returned (.int .i64 (cycleOf l a)) ∧ Below w.heap.size w w' := by
  obtain rfl := h.len
  have k1 := fun W hW => ssteps_any ao l.length cap l W hW hn
  have HW := hidden (fun W (hW : Below w.heap.size w W) => h.below hW)
  clear h
  cases hs : ssB l with
  | false =>
    rw [hs] at k1
    have HN : Hid (cycleOf l a = -1) := cycle_no (fun z => by rw [hs] at z; cases z.1)
    clear hs
    go_enter Try.func31, Try.ntmps31
    go_wp2_with (go_at_call 56; refine (k1 _ (HW.out _ (by repeat (first | exact Below.refl _ _ | assumption | refine st_drew ?_ | refine st_drewN ?_ _ | refine Below.setCell ?_ (by first | omega | (simp; done) | (simp; omega)) _ | refine Below.alloc ?_ (by first | omega | (simp; done) | (simp; omega)) _)))).mono ?_; rintro e w1 ⟨rfl, hb1⟩)
    go_ret
    exact ⟨by rw [HN.out]; rfl, hb1⟩
  | true =>
  rw [hs] at k1
  by_cases h0 : a < 0
  · have HN : Hid (cycleOf l a = -1) := cycle_no (fun z => by omega)
    clear hs
    go_enter Try.func31, Try.ntmps31
    go_wp2_with (go_at_call 56; refine (k1 _ (HW.out _ (by repeat (first | exact Below.refl _ _ | assumption | refine st_drew ?_ | refine st_drewN ?_ _ | refine Below.setCell ?_ (by first | omega | (simp; done) | (simp; omega)) _ | refine Below.alloc ?_ (by first | omega | (simp; done) | (simp; omega)) _)))).mono ?_; rintro e w1 ⟨rfl, hb1⟩)
    go_ret
    exact ⟨by rw [HN.out]; rfl, hb1⟩
  by_cases h1 : (l.length : Int) ≤ a
  · have HN : Hid (cycleOf l a = -1) := cycle_no (fun z => by omega)
    clear hs
    go_enter Try.func31, Try.ntmps31
    go_wp2_with (go_at_call 56; refine (k1 _ (HW.out _ (by repeat (first | exact Below.refl _ _ | assumption | refine st_drew ?_ | refine st_drewN ?_ _ | refine Below.setCell ?_ (by first | omega | (simp; done) | (simp; omega)) _ | refine Below.alloc ?_ (by first | omega | (simp; done) | (simp; omega)) _)))).mono ?_; rintro e w1 ⟨rfl, hb1⟩)
    go_ret
    exact ⟨by rw [HN.out]; rfl, hb1⟩
  obtain ⟨a, rfl⟩ : ∃ a' : Nat, a = (a' : Int) := ⟨a.toNat, by omega⟩
  have hal : a < l.length := by omega
  have hai : (a : Int) < (l.length : Int) := by omega
  have h00 : ¬ (a : Int) < 0 := by omega
  have hok := of_ssB hs
  have HN := hidden (cycle_yes hs hal)
  have k2 := fun W hW => srun_any ao l.length cap l W hW hok
  have hfl := fld1
  clear hs hok
  go_enter Try.func31, Try.ntmps31
  go_wp2_with (first | (go_at_call 56; refine (k1 _ (HW.out _ (by repeat (first | exact Below.refl _ _ | assumption | refine st_drew ?_ | refine st_drewN ?_ _ | refine Below.setCell ?_ (by first | omega | (simp; done) | (simp; omega)) _ | refine Below.alloc ?_ (by first | omega | (simp; done) | (simp; omega)) _)))).mono ?_; rintro e w1 ⟨rfl, hb1⟩) | (go_at_call 57; refine (k2 _ (HW.out _ (by repeat (first | exact Below.refl _ _ | assumption | refine st_drew ?_ | refine st_drewN ?_ _ | refine Below.setCell ?_ (by first | omega | (simp; done) | (simp; omega)) _ | refine Below.alloc ?_ (by first | omega | (simp; done) | (simp; omega)) _)))).mono ?_; rintro e w3 ⟨cv, bv, S, C, rfl, ho1, ho2, hT, hb3⟩; obtain ⟨ba, bc, rfl⟩ := ownW_slice ho2; obtain ⟨g, rfl, hgl, hcl⟩ := ownW_some ho2 (by omega); have c0 := hcl a _ (by rw [List.getElem?_map, HN.out]; rfl); rw [Addr.add_lit, Nat.zero_add] at c0; have b3 := onto hb1 hb3; clear ho1 ho2 hT hb3 hcl))
  go_ret
  exact ⟨rfl, b3⟩
end Go.Proofs.Ytgedaobgomnflaa
