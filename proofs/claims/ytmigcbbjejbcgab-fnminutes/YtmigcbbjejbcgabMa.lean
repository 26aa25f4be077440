/-
  Bytes put behind a byte.
-/
import Derived.Test.YtmigcbbjejbcgabCuC
import Derived.Test.YtmigcbbjejbcgabIh
import Derived.Deep.AppendSrc
namespace Go.Proofs.Ytmigcbbjejbcgab
open Go.RowKit
set_option linter.unusedVariables false

theorem infoU8 : (Try.prog.info? 5).map (fun i => (i.zero, i.size, i.bytes)) = some (some (.int .u8 0), 1, 1) := by kernel_rfl
theorem bytes_at {w : World} {g : Nat} {ao : Option Addr} {bs : List Int} (h : Bytes w g ao bs) (hg : g ≤ w.heap.size) : Bytes w w.heap.size ao bs := by
  refine ⟨h.1, ?_⟩
  rcases h.2 with q | ⟨b, off, q1, q2, q3⟩
  · exact Or.inl q
  · exact Or.inr ⟨b, off, q1, by omega, q3⟩
theorem app_bytes {ops : Array Oper} {rest : List Oper} {o : Oper} {a : Act} {w : World} {Q : Exit → Act → World → Prop} (hgd : o.guard = none) (s x : Operand)
    (ho : o.op = .call { callee := .builtin .append, args := #[s, x], argTypes := #[22, 22] })
    (g : Nat) (c1 : Int) (h0 : 0 ≤ c1) (h1 : c1 ≤ 255) (hs : a.eval s = .slice (some ⟨g, 0, none⟩) 1 1) (hblk : w.heap[g]? = some (.cells #[.int .u8 c1] 5))
    (ao : Option Addr) (cap : Nat) (bs : List Int) (hx : a.eval x = .slice ao bs.length cap) (hby : Bytes w w.heap.size ao bs) (hl : bs.length ≤ 4096)
    (h : ∀ ao' cap' w', Bytes w' w'.heap.size ao' (c1 :: bs) → Below g w w' → wpList Try.prog ops Q rest (a.put o.dst (.slice ao' (bs.length + 1) cap')) w') : wpList Try.prog ops Q (o :: rest) a w := by
  obtain ⟨i0, hi, hz0, hz1, hz2⟩ := info_parts infoU8
  have hlt := (Array.getElem?_eq_some_iff.1 hblk).1
  have hown : w.ownsRow g 5 1 (.slice (some ⟨g, 0, none⟩) 1 1) 1 [.int .u8 c1] := ⟨by simp, .inr ⟨g, 1, #[.int .u8 c1], rfl, Nat.le_refl _, hblk, by first | (simp; done) | omega | decide | exact Nat.le_refl _ | rfl, by first | (simp; done) | omega | decide | exact Nat.le_refl _ | rfl, by first | (simp; done) | omega | decide | exact Nat.le_refl _ | rfl, by first | (simp; done) | omega | decide | exact Nat.le_refl _ | rfl⟩⟩
  have hall : ∀ x ∈ c1 :: bs, 0 ≤ x ∧ x ≤ 255 := by
    intro y hy
    rcases List.mem_cons.1 hy with rfl | q
    · exact ⟨h0, h1⟩
    · exact hby.1 y q
  rcases hby.2 with hn | ⟨b, off, rfl, hb, hc⟩
  · have e : bs = [] := List.length_eq_zero_iff.1 hn
    subst e
    have hsrc : Src Try.prog i0.size 22 (.slice ao ([] : List Int).length cap) 0 [] w := by
      cases ao with
      | none => exact Src.ofNil w Try.underlying22 cap
      | some ad => exact Src.ofSlice w Try.underlying22 ad 0 cap [] (by simp) (fun j u hu => by simp at hu) (fun u hu => by cases hu)
    have hr := run_append_room_src (P := Try.prog) w 22 22 o.type 5 i0 Try.underlying22 hi g 0 1 1 _ 0 [] hsrc (Nat.le_refl _) (fun j hj => absurd hj (Nat.not_lt_zero _)) (fun j hj => absurd hj (Nat.not_lt_zero _))
    refine wpList_plain hgd fun K hK => ?_
    unfold Oper.wp execOp
    simp only [ho, resolve, invoke, builtin, Sem.run_bind, Sem.run_pure, Result.andThen_ok, List.map_toArray, List.map_cons, List.map_nil, hs, hx, hr]
    refine hK _ _ (h (some ⟨g, 0, none⟩) 1 w ⟨hall, Or.inr ⟨g, 0, rfl, hlt, ?_⟩⟩ (Below.refl _ _))
    intro i hi
    obtain rfl : i = 0 := by simp at hi; omega
    simp [World.cell?, hblk]
  · refine wpList_append_own _ hgd s x 22 ho g 5 i0 (.int .u8 0) 1 1 Try.underlying22 hi hz0 hz1 hz2 rfl (by decide) _ 1 [.int .u8 c1] hs hown ⟨b, off, none⟩ bs.length cap (bs.map (fun z => Value.int .u8 z)) hx (by simp) ?_ ?_ (by unfold maxLen; omega) (by omega) (by omega) ?_
    · intro j u hu
      have hj : j < bs.length := by have := (List.getElem?_eq_some_iff.1 hu).1; simpa using this
      rw [Addr.add_lit, hc j hj]
      rw [List.getElem?_map] at hu
      rw [List.getD_eq_getElem?_getD]
      rw [List.getElem?_eq_getElem hj] at hu ⊢
      simpa using hu
    · intro u hu
      obtain ⟨z, _, rfl⟩ := List.mem_map.1 hu
      rfl
    · intro v' w' ho' hg' _
      obtain ⟨ad, c, hv⟩ := own_slice ho'
      have hbel : Below g w w' := (Below.refl g w).grown hg' (by omega) (fun k hk => by cases hk; exact Nat.le_refl _)
      rw [hv, Nat.add_comm]
      rw [hv] at ho'
      refine h ad c w' ⟨hall, Or.inr ?_⟩ hbel
      obtain ⟨q, ⟨q1, q2⟩ | ⟨g1, c', cur, e1, hg1, hh, r⟩⟩ := ho'
      · simp at q2
      · have e2 : ad = some ⟨g1, 0, none⟩ := by injection e1
        refine ⟨g1, 0, e2, (Array.getElem?_eq_some_iff.1 hh).1, ?_⟩
        intro i hi
        subst e2
        have hw : w'.ownsRow g 5 1 (.slice (some ⟨g1, 0, none⟩) (1 + bs.length) c) (1 + bs.length) ([.int .u8 c1] ++ bs.map (fun z => Value.int .u8 z)) := ⟨q, Or.inr ⟨g1, c', cur, e1, hg1, hh, r⟩⟩
        rw [Nat.zero_add, hw.cellAt i (by simp at hi; omega)]
        have : ([.int .u8 c1] ++ bs.map (fun z => Value.int .u8 z)) = (c1 :: bs).map (fun z => Value.int .u8 z) := rfl
        rw [this, List.getElem?_map, List.getD_eq_getElem?_getD, List.getElem?_eq_getElem hi]
        rfl
end Go.Proofs.Ytmigcbbjejbcgab
