/-
  The law's own helpers on rows of numbers: copies.
-/
import Derived.Test.YtaidhcbchpcemabQ3
import Derived.Test.YtaidhcbchpcemabGx
namespace Go.Proofs.Ytaidhcbchpcemab
open Go.RowKit Va Bl
set_option linter.unusedVariables false

/-- The parts that a proof reads of a type's row. -/
theorem info_partsO {P : Program} {t : TypeId} {z : Value} {n b : Nat} (h : (P.info? t).map (fun i => (i.zero, i.size, i.bytes)) = some (some z, n, b)) : ∃ i, P.info? t = some i ∧ i.zero = some z ∧ i.size = n ∧ i.bytes = b := by
  obtain ⟨i, h1, h2⟩ := Option.map_eq_some_iff.1 h
  simp only [Prod.mk.injEq] at h2
  exact ⟨i, h1, h2.1, h2.2.1, h2.2.2⟩

def csI (x : Int) (_ : Nat) : Int := x
theorem infoI64 : (Try.prog.info? 2).map (fun i => (i.zero, i.size, i.bytes)) = some (some (.int .i64 0), 1, 8) := by kernel_rfl

/-- A row of numbers in a block of one's own, as a row. -/
theorem out_irw {w : World} {G : Nat} {l : List Int} (h : Out 1 csI w G l.length l l.length) (c : Nat) (hc : l.length ≤ c) : IRw w (.slice (some ⟨G, 0, none⟩) l.length c) l :=
  ⟨_, c, rfl, hc, Or.inr ⟨G, 0, rfl, h.1, fun i x hx => by
    have := h.2.2 i x (get_lt' hx) hx 0 (by omega)
    simp only [Nat.mul_one, Nat.add_zero] at this
    rw [Nat.zero_add]
    exact this⟩⟩

set_option maxRecDepth 20000 in
set_option maxHeartbeats 2000000 in
theorem toints_any (ao : Option Addr) (n cap : Nat) (l : List Int) (w : World) (h : IRw w (.slice ao n cap) l) (hn : l.length ≤ 1048576) :
    Calls Try.prog 36 #[.slice ao n cap] w fun e w' => e = .returned (.slice (some ⟨w.heap.size, 0, none⟩) l.length l.length) ∧ Out 1 csI w' w.heap.size l.length l l.length ∧ Below w.heap.size w w' := by
  obtain rfl := h.len
  have HH := hidden h
  clear h
  obtain ⟨i0, hi, hz0, hz1, hz2⟩ := info_partsO infoI64
  go_enter Try.func36, Try.ntmps36
  go_wp2_with (refine wpList_make_full _ rfl (.tmp 6) (.tmp 6) 22 rfl w.heap.size 2 i0 (.int .i64 0) 1 Try.underlying22 hi hz0 hz1 .i64 .i64 _ _ l.length rfl rfl rfl rfl (by rw [hz2]; omega) (by unfold maxLen; omega) (Nat.le_refl _) ?_; intro w1 ho1 hg1)
  have b1 : Below w.heap.size w w1 := (Below.refl _ w).grown hg1 (Nat.le_refl _) (by simp)
  have ho := Out.made (cs := csI) l ho1
  clear ho1 hg1
  go_wp2_with fail
  go_loopw [4] (fun iv wr => ∃ i : Nat, i ≤ l.length ∧ iv = .int .i64 i ∧ Below w.heap.size w wr ∧ Out 1 csI wr w.heap.size l.length l i) (fun iv _ => l.length - (intOf iv).toNat)
  case atStart => exact ⟨0, Nat.zero_le _, rfl, b1, ho⟩
  case round =>
    clear b1 ho
    obtain ⟨i, hil, rfl, hb, ho⟩ := hrel
    by_cases hlt : i < l.length
    · have hlti : (i : Int) < (l.length : Int) := by omega
      obtain ⟨x, hx⟩ := some_of l i hlt
      obtain ⟨g, off, rfl, hg, hcs⟩ := (HH.out.below hb).at hx
      have c0 := hcs i x hx
      have hset := ho.set hlt hx [.int .i64 x] rfl (fun k hk => by
        match k, hk with
        | 0, _ => rfl)
      obtain ⟨⟨u0, hu0⟩, hf0⟩ := ho.old hlt (k := 0) (by omega)
      simp only [Nat.mul_one, Nat.add_zero] at hu0 hf0
      rw [Nat.mul_one] at hset
      have HS := hidden hset
      have b3 : Below w.heap.size w (wr.setCell ⟨w.heap.size, i, none⟩ (.int .i64 x)) := hb.setCell (Nat.le_refl _) _
      clear hcs hx ho hset
      go_wp2_with fail
      go_roundw
      case rel => exact ⟨i + 1, by omega, rfl, b3, HS.out⟩
      case measure => simp [intOf]; omega
    · have hlti : ¬ (i : Int) < (l.length : Int) := by omega
      have hil2 : i = l.length := by omega
      subst hil2
      go_wp2_with fail
      go_ret
      exact ⟨rfl, ho, hb⟩

theorem out_far {α : Type} {s : Nat} {cs : α → Nat → Int} {w : World} {G n i : Nat} {l : List α} (h : Out s cs w G n l i) {b : Nat} (hb : b ≠ G) (o : Nat) (v : Value) : Out s cs (w.setCell ⟨b, o, none⟩ v) G n l i := by
  obtain ⟨h1, h2, h3⟩ := h
  refine ⟨by simpa [World.setCell] using h1, fun j hj => ⟨?_, by rw [World.frozen?_setCell]; exact (h2 j hj).2⟩, fun j x hj hx k hk => ?_⟩
  · obtain ⟨u, hu⟩ := (h2 j hj).1
    exact ⟨u, (World.cell?_setCell_far _ _ _ _ (fun e => hb e)).trans hu⟩
  · exact (World.cell?_setCell_far _ _ _ _ (fun e => hb e)).trans (h3 j x hj hx k hk)

end Go.Proofs.Ytaidhcbchpcemab
