/-
  The law's own marking of a house.
-/
import Derived.Test.YtpdlkkbnckjibamXb
import Derived.Test.YtpdlkkbnckjibamXc
namespace Go.Proofs.Ytpdlkkbnckjibam
open Go.RowKit Hm
set_option linter.unusedVariables false

/-- Nothing old has turned but what is allowed. -/
structure Turn (w w' : World) (may : Nat → Prop) : Prop where
  os : w'.os = w.os
  tape : w'.tape = w.tape
  output : w'.output = w.output
  size : w.heap.size ≤ w'.heap.size
  block : ∀ j, j < w.heap.size → ¬ may j → w'.heap[j]? = w.heap[j]?
theorem Turn.below {w0 w w' : World} {may : Nat → Prop} {b : Nat} (h : Turn w w' may) (hb : Below b w0 w) (hs : b ≤ w.heap.size) (hm : ∀ j, j < b → ¬ may j) : Below b w0 w' :=
  ⟨h.os.trans hb.os, h.tape.trans hb.tape, h.output.trans hb.output, Nat.le_trans hb.size h.size, fun k hk => (h.block k (by omega) (hm k hk)).trans (hb.block k hk)⟩
theorem Turn.own {α : Type} {s : Nat} {cs : α → Nat → Int} {w w' : World} {may : Nat → Prop} {base : Nat} {v : Value} {l : List α} (h : Turn w w' may) (ho : Own s cs w base v l) (hm : ∀ j, base ≤ j → ¬ may j) : Own s cs w' base v l :=
  ho.keep h.size (fun j hj hl => h.block j hl (hm j hj))
def mayH (vb vs : Value) (B : List Bd) (S : List St) (j : Nat) : Prop := (B.length ≠ 0 ∧ vb.ownBlock = some j) ∨ (S.length ≠ 0 ∧ vs.ownBlock = some j)
theorem Own.block_lt {α : Type} {s : Nat} {cs : α → Nat → Int} {w : World} {base : Nat} {v : Value} {l : List α} (h : Own s cs w base v l) (h0 : l.length ≠ 0) {j : Nat} (hj : v.ownBlock = some j) : base ≤ j ∧ j < w.heap.size := by
  obtain ⟨ao, cap, rfl, _, h1 | ⟨G, rfl, hG, ho⟩⟩ := h
  · exact absurd h1 h0
  · have e : G = j := Option.some.inj hj
    exact ⟨by omega, by have := ho.1; omega⟩
theorem mayH_in {w : World} {base : Nat} {vb vs : Value} {B : List Bd} {S : List St} (h : HOwn w base vb vs B S) {j : Nat} (hj : mayH vb vs B S j) : base ≤ j ∧ j < w.heap.size := by
  rcases hj with ⟨h0, h1⟩ | ⟨h0, h1⟩
  · exact h.1.block_lt h0 h1
  · exact h.2.1.block_lt h0 h1

set_option maxRecDepth 20000 in
set_option maxHeartbeats 2000000 in
theorem markhouse_any (a1 a2 : Option Addr) (c1 c2 : Nat) (B : List Bd) (S : List St) (base : Nat) (w : World) (h : HOwn w base (.slice a1 B.length c1) (.slice a2 S.length c2) B S) (hn : B.length ≤ 1048576) (hm : S.length ≤ 1048576) :
    Calls Try.prog 15 #[.agg #[.slice a1 B.length c1, .slice a2 S.length c2], .int .i64 1] w fun e w' => e = .returned (.int .i64 (1 + 2 * (B.length : Int) + 6 * (S.length : Int))) ∧
      Own 2 csM w' base (.slice a1 B.length c1) (marks 2 1 B.length) ∧ Own 6 csM w' base (.slice a2 S.length c2) (marks 6 (1 + 2 * (B.length : Int)) S.length) ∧ Turn w w' (mayH (.slice a1 B.length c1) (.slice a2 S.length c2) B S) := by
  have hb0 : Below w.heap.size w (w.alloc (.cells #[.slice a1 B.length c1, .slice a2 S.length c2] 32)) := (Below.refl _ _).alloc (Nat.le_refl _) _
  have H0 := hidden (h.below hb0)
  have H1 := hidden (markbed_any (.slice a1 B.length c1) B base 1 _ H0.out.1 hn (by omega) (by omega))
  have HH := hidden h
  clear h
  go_enter Try.func15, Try.ntmps15
  go_wp2_with fail
  refine H1.out.mono ?_
  rintro e w1 ⟨rfl, hm1, ha1, hz1⟩
  have y1 := ha1.size
  simp only [World.size_alloc] at y1
  have keep1 : ∀ j, j ≤ w.heap.size → ¬ (B.length ≠ 0 ∧ (Value.slice a1 B.length c1).ownBlock = some j) → w1.heap[j]? = (w.alloc (.cells #[.slice a1 B.length c1, .slice a2 S.length c2] 32)).heap[j]? := fun j hj hq => by
    rcases Nat.eq_zero_or_pos B.length with q | q
    · rw [hz1 q]
    · exact ha1.block j (fun e => hq ⟨by omega, e⟩)
  have kb : w1.heap[w.heap.size]? = (w.alloc (.cells #[.slice a1 B.length c1, .slice a2 S.length c2] 32)).heap[w.heap.size]? := keep1 _ (Nat.le_refl _) (fun q => by have := HH.out.1.block_lt q.1 q.2; omega)
  have p0 : w1.cell? ⟨w.heap.size, 0, none⟩ = some (.slice a1 B.length c1) := (World.cell?_of_block kb).trans (by simp)
  have p1 : w1.cell? ⟨w.heap.size, 1, none⟩ = some (.slice a2 S.length c2) := (World.cell?_of_block kb).trans (by simp)
  have hs1 : Own 6 csS w1 base (.slice a2 S.length c2) S := by
    rcases Nat.eq_zero_or_pos B.length with q | q
    · rw [hz1 q]; exact H0.out.2.1
    · rcases Nat.eq_zero_or_pos S.length with q2 | q2
      · have : S = [] := List.eq_nil_of_length_eq_zero q2
        subst this
        exact Own.nil _ _ _ _
      · rcases HH.out.2.2 with r | r | r
        · omega
        · omega
        · exact Own.mark_apart r ha1 H0.out.2.1
  have H2 := hidden (markstay_any (.slice a2 S.length c2) S base (1 + 2 * (B.length : Int)) w1 hs1 hm (by omega) (by omega))
  have HM1 := hidden hm1
  have KB := hidden keep1
  have hA1 := hidden ha1
  clear hm1 keep1 kb ha1 hz1
  go_wp2_with fail
  refine H2.out.mono ?_
  rintro e w2 ⟨rfl, hm2, ha2, hz2⟩
  have HM2 := hidden hm2
  have HA2 := hidden ha2
  have HZ2 := hidden hz2
  clear hm2 ha2 hz2 p0 p1
  go_wp2_with fail
  go_ret
  refine ⟨rfl, ?_, HM2.out, ?_⟩
  · rcases Nat.eq_zero_or_pos S.length with q | q
    · rw [HZ2.out q]; exact HM1.out
    · rcases HH.out.2.2 with r | r | r
      · have e : marks 2 1 B.length = [] := List.eq_nil_of_length_eq_zero (by rw [marks_len]; exact r)
        have := HM1.out
        rw [e, r] at this ⊢
        exact Own.nil _ _ _ _
      · omega
      · refine Own.mark_apart (fun j hj hj2 => r j hj2 hj) HA2.out HM1.out
  · have y2 := HA2.out.size
    refine ⟨HA2.out.os.trans hA1.out.os, HA2.out.tape.trans hA1.out.tape, HA2.out.output.trans hA1.out.output, by omega, fun j hj hq => ?_⟩
    have e1 := KB.out j (by omega) (fun q => hq (Or.inl q))
    have e2 : w2.heap[j]? = w1.heap[j]? := by
      rcases Nat.eq_zero_or_pos S.length with q | q
      · rw [HZ2.out q]
      · exact HA2.out.block j (fun e => hq (Or.inr ⟨by omega, e⟩))
    rw [e2, e1]
    exact Below.heap_alloc _ _ _ hj

end Go.Proofs.Ytpdlkkbnckjibam
