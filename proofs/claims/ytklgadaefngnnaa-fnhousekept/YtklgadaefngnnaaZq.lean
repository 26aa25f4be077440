/-
  Two houses alike; plain facts on what a move answers.
-/
import Derived.Test.YtklgadaefngnnaaZp
import Derived.Test.YtklgadaefngnnaaHh
import Derived.Test.YtklgadaefngnnaaHj
import Derived.Test.YtklgadaefngnnaaKa
namespace Go.Proofs.Ytklgadaefngnnaa
open Go.RowKit Hm
set_option linter.all false

theorem placed_code {B : List Bd} {S0 S : List St} {x : St} : ((placed B S0 S x).2 = 0 ∨ (placed B S0 S x).1 = S0) ∧ (placed B S0 S x).2 ≠ 1 := by
  unfold placed
  repeat' split
  all_goals simp
theorem move_code (B : List Bd) (S : List St) (m : Mv) : ((moveR B S m).2 = 0 ∨ (moveR B S m).1 = S) ∧ (moveR B S m).2 ≠ 1 := by
  unfold moveR
  repeat' split
  all_goals first | exact placed_code | simp
theorem do_ok {B : List Bd} {S : List St} {m : Mv} (h : okB B S = true) : doB B S = B ∧ doS B S m = (moveR B S m).1 ∧ doC B S m = (moveR B S m).2 := by simp [doB, doS, doC, h]
theorem do_no {B : List Bd} {S : List St} {m : Mv} (h : okB B S = false) : doB B S = [] ∧ doS B S m = [] ∧ doC B S m = 1 := by simp [doB, doS, doC, h]

set_option maxRecDepth 20000 in
set_option maxHeartbeats 4000000 in
theorem same_house_any (a1 a2 b1 b2 : Option Addr) (n1 n2 m1 m2 c1 c2 d1 d2 : Nat) (B : List Bd) (S : List St) (w : World) (h : HRw w (.slice a1 n1 c1) (.slice a2 n2 c2) B S) (h' : HRw w (.slice b1 m1 d1) (.slice b2 m2 d2) B S) (hB : B.length ≤ 1000000) (hS : S.length ≤ 1000000) :
    Calls Try.prog 12 #[.agg #[.slice a1 n1 c1, .slice a2 n2 c2], .agg #[.slice b1 m1 d1, .slice b2 m2 d2]] w fun e w' => e = .returned (.bool true) ∧ Below w.heap.size w w' := by
  obtain rfl := h.1.len
  obtain rfl := h.2.len
  obtain rfl := h'.1.len
  obtain rfl := h'.2.len
  have bA : Below w.heap.size w ((w.alloc (.cells #[.slice a1 B.length c1, .slice a2 S.length c2] 27)).alloc (.cells #[.slice b1 B.length d1, .slice b2 S.length d2] 27)) := ((Below.refl _ w).alloc (Nat.le_refl _) _).alloc (by simp) _
  have hXA : ((w.alloc (.cells #[.slice a1 B.length c1, .slice a2 S.length c2] 27)).alloc (.cells #[.slice b1 B.length d1, .slice b2 S.length d2] 27)).heap[w.heap.size]? = some (.cells #[.slice a1 B.length c1, .slice a2 S.length c2] 27 (0, 0)) := (((Below.refl (w.heap.size + 1) (w.alloc (.cells #[.slice a1 B.length c1, .slice a2 S.length c2] 27))).alloc (by simp) _).block w.heap.size (by omega)).trans (heap_alloc_new _ _)
  have hYA : ((w.alloc (.cells #[.slice a1 B.length c1, .slice a2 S.length c2] 27)).alloc (.cells #[.slice b1 B.length d1, .slice b2 S.length d2] 27)).heap[w.heap.size + 1]? = some (.cells #[.slice b1 B.length d1, .slice b2 S.length d2] 27 (0, 0)) := by
    have := heap_alloc_new (w.alloc (.cells #[.slice a1 B.length c1, .slice a2 S.length c2] 27)) (.cells #[.slice b1 B.length d1, .slice b2 S.length d2] 27)
    simpa using this
  have H1 := hidden (h.below bA)
  have H2 := hidden (h'.below bA)
  clear h h'
  go_enter Try.func12, Try.ntmps12
  go_wp2_with fail
  generalize (w.alloc (.cells #[.slice a1 B.length c1, .slice a2 S.length c2] 27)).alloc (.cells #[.slice b1 B.length d1, .slice b2 S.length d2] 27) = wA at *
  have hlX := (Array.getElem?_eq_some_iff.1 hXA).1
  have hlY := (Array.getElem?_eq_some_iff.1 hYA).1
  go_loopw [5] (fun iv wr => ∃ i : Nat, i ≤ B.length ∧ iv = .int .i64 i ∧ Below wA.heap.size wA wr) (fun iv _ => B.length - (intOf iv).toNat)
  case atStart => exact ⟨0, Nat.zero_le _, rfl, Below.refl _ _⟩
  case round =>
    obtain ⟨i, hi, rfl, br⟩ := hrel
    obtain ⟨x0, x1, -, -⟩ := two_ofH ((br.block _ hlX).trans hXA)
    obtain ⟨y0, y1, -, -⟩ := two_ofH ((br.block _ hlY).trans hYA)
    by_cases hlt : i < B.length
    · have hlti : (i : Int) < (B.length : Int) := by omega
      obtain ⟨x, hx⟩ := some_at B i hlt
      obtain ⟨g1, o1, rfl, hg1, k1⟩ := (H1.out.below br).1.at hx
      obtain ⟨g2, o2, rfl, hg2, k2⟩ := (H2.out.below br).1.at hx
      have p0 : wr.cell? ⟨g1, o1 + i * 2, none⟩ = some (.int .i64 x.room) := by have := k1 0 (by omega); simpa [csB] using this
      have p1 : wr.cell? ⟨g1, o1 + i * 2 + 1, none⟩ = some (.int .i64 x.kind) := by have := k1 1 (by omega); simpa [csB] using this
      have q0 : wr.cell? ⟨g2, o2 + i * 2, none⟩ = some (.int .i64 x.room) := by have := k2 0 (by omega); simpa [csB] using this
      have q1 : wr.cell? ⟨g2, o2 + i * 2 + 1, none⟩ = some (.int .i64 x.kind) := by have := k2 1 (by omega); simpa [csB] using this
      clear k1 k2 hx H1 H2 x1 y1
      go_wp2_with fail
      first | go_region | fail
      all_goals go_wp2_with fail
      all_goals go_roundw
      all_goals first
        | exact ⟨i + 1, by omega, rfl, by first | exact br | exact st_drew br⟩
        | (simp [intOf]; omega)
    · have hlti : ¬ (i : Int) < (B.length : Int) := by omega
      go_wp2_with fail
      go_loopw [6] (fun iv wr => ∃ i : Nat, i ≤ S.length ∧ iv = .int .i64 i ∧ Below wA.heap.size wA wr) (fun iv _ => S.length - (intOf iv).toNat)
      case atStart => exact ⟨0, Nat.zero_le _, rfl, br⟩
      case round =>
        clear x0 x1 y0 y1 br
        obtain ⟨k, hk, rfl, br⟩ := hrel
        obtain ⟨x0, x1, -, -⟩ := two_ofH ((br.block _ hlX).trans hXA)
        obtain ⟨y0, y1, -, -⟩ := two_ofH ((br.block _ hlY).trans hYA)
        by_cases hlt2 : k < S.length
        · have hlti2 : (k : Int) < (S.length : Int) := by omega
          obtain ⟨x, hx⟩ := some_at S k hlt2
          obtain ⟨g1, o1, rfl, hg1, k1⟩ := (H1.out.below br).2.at hx
          obtain ⟨g2, o2, rfl, hg2, k2⟩ := (H2.out.below br).2.at hx
          obtain ⟨xa, xb, xc, xd, xe, xf⟩ := x
          have p0 : wr.cell? ⟨g1, o1 + k * 6, none⟩ = some (.int .i64 xa) := by have := k1 0 (by omega); simpa [csS] using this
          have p1 : wr.cell? ⟨g1, o1 + k * 6 + 1, none⟩ = some (.int .i64 xb) := by have := k1 1 (by omega); simpa [csS] using this
          have p2 : wr.cell? ⟨g1, o1 + k * 6 + 2, none⟩ = some (.int .i64 xc) := by have := k1 2 (by omega); simpa [csS] using this
          have p3 : wr.cell? ⟨g1, o1 + k * 6 + 3, none⟩ = some (.int .i64 xd) := by have := k1 3 (by omega); simpa [csS] using this
          have p4 : wr.cell? ⟨g1, o1 + k * 6 + 4, none⟩ = some (.int .i64 xe) := by have := k1 4 (by omega); simpa [csS] using this
          have p5 : wr.cell? ⟨g1, o1 + k * 6 + 5, none⟩ = some (.int .i64 xf) := by have := k1 5 (by omega); simpa [csS] using this
          have q0 : wr.cell? ⟨g2, o2 + k * 6, none⟩ = some (.int .i64 xa) := by have := k2 0 (by omega); simpa [csS] using this
          have q1 : wr.cell? ⟨g2, o2 + k * 6 + 1, none⟩ = some (.int .i64 xb) := by have := k2 1 (by omega); simpa [csS] using this
          have q2 : wr.cell? ⟨g2, o2 + k * 6 + 2, none⟩ = some (.int .i64 xc) := by have := k2 2 (by omega); simpa [csS] using this
          have q3 : wr.cell? ⟨g2, o2 + k * 6 + 3, none⟩ = some (.int .i64 xd) := by have := k2 3 (by omega); simpa [csS] using this
          have q4 : wr.cell? ⟨g2, o2 + k * 6 + 4, none⟩ = some (.int .i64 xe) := by have := k2 4 (by omega); simpa [csS] using this
          have q5 : wr.cell? ⟨g2, o2 + k * 6 + 5, none⟩ = some (.int .i64 xf) := by have := k2 5 (by omega); simpa [csS] using this
          clear k1 k2 hx H1 H2 x0 y0
          go_wp2_with fail
          first | go_region | fail
          all_goals go_wp2_with fail
          all_goals go_roundw
          all_goals first
            | exact ⟨k + 1, by omega, rfl, by first | exact br | exact st_drew br⟩
            | (simp [intOf]; omega)
        · have hlti2 : ¬ (k : Int) < (S.length : Int) := by omega
          go_wp2_with fail
          go_ret
          exact ⟨rfl, bA.trans (br.mono bA.size)⟩
end Go.Proofs.Ytklgadaefngnnaa
