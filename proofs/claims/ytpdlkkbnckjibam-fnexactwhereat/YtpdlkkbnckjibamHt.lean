/-
  WhereAt, the specification's.
-/
import Derived.Test.YtpdlkkbnckjibamHc
import Derived.Test.YtpdlkkbnckjibamHp
namespace Go.Proofs.Ytpdlkkbnckjibam
open Go.RowKit Hm
set_option linter.unusedVariables false

set_option maxRecDepth 20000 in
set_option maxHeartbeats 4000000 in
theorem l3where_any (ao ao2 : Option Addr) (n cap m cap2 : Nat) (S : List St) (p t : Int) (w : World) (h : Rw 6 csS w (.slice ao2 m cap2) S) (hn : S.length ≤ 1048576) :
    Calls Try.prog 43 #[.agg #[.slice ao n cap, .slice ao2 m cap2], .int .i64 p, .int .i64 t] w fun e w' => e = .returned (.int .i64 (lastBed p t S)) ∧ Below w.heap.size w w' := by
  have HS := hidden h
  obtain rfl := h.len
  clear h
  go_enter Try.func43, Try.ntmps43
  go_wp2_with fail
  go_loopw [7, 8] (fun sv iv wr => ∃ i : Nat, i ≤ S.length ∧ iv = .int .i64 i ∧ sv = .int .i64 (lastBed p t (S.take i)) ∧ Below w.heap.size w wr ∧ w.heap.size < wr.heap.size ∧ wr.cell? ⟨w.heap.size, 1, none⟩ = some (.slice ao2 S.length cap2)) (fun _ iv _ => S.length - (intOf iv).toNat)
  case atStart => exact ⟨0, Nat.zero_le _, rfl, rfl, (Below.refl _ _).alloc (Nat.le_refl _) _, by simp, by simp⟩
  case round =>
    obtain ⟨i, hi, rfl, rfl, hb, hz, d1⟩ := hrel
    have hsz := hb.size
    by_cases hlt : i < S.length
    · have hlti : (i : Int) < (S.length : Int) := by omega
      obtain ⟨x, hx⟩ := some_at S i hlt
      obtain ⟨g, off, rfl, hg, c0, c1, c2, c3, c4, c5⟩ := stay_cells (HS.out.below hb) hx
      have HT := hidden (take_snoc hx)
      have HSN : Hid (lastBed p t (S.take (i + 1)) = if (decide (x.person = p) && (decide (x.frm ≤ t) && (decide (x.til = -1) || decide (t < x.til)))) then x.bed else lastBed p t (S.take i)) := by rw [Hid, HT.out, lastBed_snoc]; rfl
      have HDD : Hid (∀ x, Below w.heap.size w (wr.alloc x) ∧ w.heap.size < (wr.alloc x).heap.size ∧ (wr.alloc x).cell? ⟨w.heap.size, 1, none⟩ = some (.slice (some ⟨g, off, none⟩) S.length cap2)) := fun x => ⟨hb.alloc hsz x, by simp; omega, (old_cell hz _ _).trans d1⟩
      clear hx
      generalize lastBed p t (S.take i) = sm at *
      go_wp2_with fail
      all_goals go_roundw
      all_goals first
        | (simp [intOf]; omega)
        | exact ⟨i + 1, by omega, rfl, by rw [HSN.out]; first | (simp_all; done) | (rw [if_neg (by simp; omega)]) | (rw [if_pos (by simp; omega)]), HDD.out _⟩
    · have hlti : ¬ (i : Int) < (S.length : Int) := by omega
      have hil : i = S.length := by omega
      subst hil
      have HRR : Hid (lastBed p t S = lastBed p t (S.take S.length)) := by rw [Hid, List.take_length]
      generalize lastBed p t (S.take S.length) = sm at *
      go_wp2_with fail
      go_ret
      exact ⟨ret_int HRR.out.symm, hb⟩

set_option maxRecDepth 20000 in
set_option maxHeartbeats 2000000 in
theorem swhere_any (ao ao2 : Option Addr) (n cap m cap2 : Nat) (B : List Bd) (S : List St) (p t : Int) (w : World) (h : HRw w (.slice ao n cap) (.slice ao2 m cap2) B S)
    (hOK0 : ∀ W, HRw W (.slice ao n cap) (.slice ao2 m cap2) B S → Calls Try.prog 30 #[.agg #[.slice ao n cap, .slice ao2 m cap2]] W fun e w' => e = .returned (.bool (okB B S)) ∧ Below W.heap.size W w') :
    Calls Try.prog 17 #[.agg #[.slice ao n cap, .slice ao2 m cap2], .int .i64 p, .int .i64 t] w fun e w' => e = .returned (.int .i64 (whereAt B S p t)) ∧ Below w.heap.size w w' := by
  have HH := hidden h
  have hOK := hidden (fun W (hW : Below w.heap.size w W) => hOK0 W (HH.out.below hW))
  have hb0 : Below w.heap.size w (w.alloc (.cells #[.slice ao n cap, .slice ao2 m cap2] 32)) := (Below.refl _ _).alloc (Nat.le_refl _) _
  clear hOK0 h
  cases hk : okB B S with
  | false =>
    have HR : Hid (whereAt B S p t = -1) := by unfold whereAt; rw [Hid, hk]; rfl
    rw [hk] at hOK
    go_enter Try.func17, Try.ntmps17
    go_wp2_with fail
    refine (hOK.out _ hb0).mono ?_
    rintro e w1 ⟨rfl, hb1⟩
    have b1 := onto hb0 hb1
    go_wp2_with fail
    go_ret
    exact ⟨ret_int HR.out.symm, b1⟩
  | true =>
    have HR : Hid (whereAt B S p t = lastBed p t S) := by unfold whereAt; rw [Hid, hk]; rfl
    have hl2 := (ok_of hk).2.1
    have hL := hidden (fun W (hW : Below w.heap.size w W) => l3where_any ao ao2 n cap m cap2 S p t W (HH.out.below hW).2 (by omega))
    rw [hk] at hOK
    clear hk
    generalize lastBed p t S = sm at *
    go_enter Try.func17, Try.ntmps17
    go_wp2_with fail
    refine (hOK.out _ hb0).mono ?_
    rintro e w1 ⟨rfl, hb1⟩
    have b1 := onto hb0 hb1
    obtain ⟨hc1, hf1⟩ := bcell hb1
    go_wp2_with fail
    refine (hL.out _ b1).mono ?_
    rintro e w2 ⟨rfl, hb2⟩
    have b2 := onto b1 hb2
    go_wp2_with fail
    go_ret
    exact ⟨ret_int HR.out.symm, b2⟩

end Go.Proofs.Ytpdlkkbnckjibam
