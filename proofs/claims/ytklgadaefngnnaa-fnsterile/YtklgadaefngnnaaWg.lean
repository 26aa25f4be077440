/-
  What the program does to the room, step by step: a tray is washed, or soiled.
-/
import Derived.Test.YtklgadaefngnnaaWf
namespace Go.Proofs.Ytklgadaefngnnaa
open Go.RowKit Va Wa Go.Maps
set_option linter.unusedVariables false

set_option maxRecDepth 20000 in
set_option maxHeartbeats 1000000 in
theorem iwash_any (base g K t : Nat) (R : Rm) (w : World) (h : Room w base g K R) (ht : t < 1000) :
    Calls Try.prog 100 #[.pointer (some ⟨g, 0, none⟩), .int .i64 t] w fun e w' => e = .returned (.int .i64 (if R.st t = 2 then 1 else 0)) ∧ Room w' base g K (if R.st t = 2 then R else ⟨upd R.st t 1, R.cy, R.ov⟩) ∧ Tf base w w' := by
  have hti : (t : Int) < 1000 := by omega
  have hf0 := h.fro (t * 2)
  have hf1 := h.fro (t * 2 + 1)
  by_cases q : R.st t = 2
  · have c0 := h.cellSt ht
    rw [q] at c0
    rw [if_pos q, if_pos q]
    have HH := hidden h
    clear h q
    go_enter Try.func100, Try.ntmps100
    go_wp2_with fail
    go_ret
    exact ⟨rfl, HH.out, Tf.refl _ _⟩
  · have c0 := h.cellSt ht
    obtain ⟨cc, c1, -⟩ := h.cellCy ht
    have q1 : (R.st t == 2) = false := by simp [q]
    rw [if_neg q, if_neg q]
    have h1 := h.putSt ht q 1 (by omega)
    have h2 := h1.putCy ht (by simp [upd]) 0
    have HH := hidden (And.intro h2 ((Tf.set h (t * 2) (.int .i64 1)).trans (Tf.set h1 (t * 2 + 1) (.int .i64 0))))
    clear h h1 h2 q
    generalize R.st t = v at c0 q1
    go_enter Try.func100, Try.ntmps100
    go_wp2_with fail
    go_ret
    exact ⟨rfl, HH.out.1, HH.out.2⟩

set_option maxRecDepth 20000 in
set_option maxHeartbeats 1000000 in
theorem isoil_any (base g K t : Nat) (code : Int) (R : Rm) (w : World) (h : Room w base g K R) (ht : t < 1000) :
    Calls Try.prog 103 #[.pointer (some ⟨g, 0, none⟩), .int .i64 t, .int .i64 code] w fun e w' => e = .returned (.int .i64 (if R.st t = 3 then 0 else code)) ∧ Room w' base g K (if R.st t = 3 then ⟨upd R.st t 0, R.cy, R.ov⟩ else R) ∧ Tf base w w' := by
  have hti : (t : Int) < 1000 := by omega
  have hf0 := h.fro (t * 2)
  by_cases q : R.st t = 3
  · have c0 := h.cellSt ht
    have h1 := h.putSt ht (by omega) 0 (by omega)
    have HH := hidden (And.intro h1 (Tf.set h (t * 2) (.int .i64 0)))
    rw [q] at c0
    rw [if_pos q, if_pos q]
    clear h h1 q
    go_enter Try.func103, Try.ntmps103
    go_wp2_with fail
    go_ret
    exact ⟨rfl, HH.out.1, HH.out.2⟩
  · have c0 := h.cellSt ht
    have q1 : (R.st t != 3) = true := by simp [q]
    have q2 : (R.st t == 3) = false := by simp [q]
    rw [if_neg q, if_neg q]
    have HH := hidden h
    clear h q
    generalize R.st t = v at c0 q1 q2
    go_enter Try.func103, Try.ntmps103
    go_wp2_with fail
    go_ret
    exact ⟨rfl, HH.out, Tf.refl _ _⟩
end Go.Proofs.Ytklgadaefngnnaa
