/-
  What is drawn for a join: joins, and a number.
-/
import Derived.Test.YtdnnenklkfkhcaaGi
import Derived.Test.YtdnnenklkfkhcaaCuC
namespace Go.Proofs.Ytdnnenklkfkhcaa
open Go.RowKit Jn Go.Maps

theorem own_keep {w w' : World} {g base e s n : Nat} {v : Value} {xs : List Value} (h : w.ownsRow base e s v n xs) (hk : Keep g w w') (hg : g < base) : w'.ownsRow base e s v n xs := by
  obtain ⟨q, ⟨q1, q2⟩ | ⟨G, c, cur, rfl, hb, hh, r⟩⟩ := h
  · exact ⟨q, Or.inl ⟨q1, q2⟩⟩
  · exact ⟨q, Or.inr ⟨G, c, cur, rfl, hb, (hk.block G (Array.getElem?_eq_some_iff.1 hh).1 (by omega)).trans hh, r⟩⟩
theorem Own1.keep {w w' : World} {g base : Nat} {v : Value} {l : List J} (h : Own1 w base v l) (hk : Keep g w w') (hg : g < base) : Own1 w' base v l := by
  obtain ⟨G, cap, rfl, ho⟩ := h
  exact ⟨G, cap, rfl, own_keep ho hk hg⟩
theorem Keep.on {g : Nat} {w w1 w2 : World} (h : Keep g w w1) (hb : Below w.heap.size w1 w2) : Keep g w w2 :=
  ⟨hb.os.trans h.os, hb.tape.trans h.tape, hb.output.trans h.output, Nat.le_trans h.size hb.size, fun j hj hg => (hb.block j hj).trans (h.block j hj hg)⟩
theorem doL_len (l : List J) (k g : Int) : (doL l k g).length ≤ l.length + 1 := by
  unfold doL
  split
  · split
    · simp
    · omega
  · simp

set_option maxRecDepth 20000 in
set_option maxHeartbeats 2000000 in
theorem did_any (g : Nat) (ao : Option Addr) (cap : Nat) (bs : List Int) (w : World) (hc : Cur w g ao cap bs) :
    Calls Try.prog 56 #[.pointer (some ⟨g, 0, none⟩)] w fun e w' => ∃ x : Int, e = .returned (.int .i64 x) ∧ -1 ≤ x ∧ x ≤ 4611686018427387904 ∧ Cur w' g ao cap bs ∧ Keep g w w' := by
  have hgl := hc.1
  go_enter Try.func56, Try.ntmps56
  go_wp2_with fail
  refine (once_any g ao cap bs 16 _ hc (by omega)).mono ?_
  rintro e w1 ⟨t, rfl, hc1, hk1⟩
  cases t with
  | true =>
    have hN := hk1.size
    have hba : Below w1.heap.size w1 (w1.alloc (.cells #[.int .i64 (-1), .int .i64 999, .int .i64 1000, .int .i64 4611686018427387904] 2)) := (Below.refl _ w1).alloc (Nat.le_refl _) _
    have HC2 := hidden (below_any g ao cap bs 4 _ (hc1.below (hba.mono (by have := hc1.1; omega))) (by omega))
    have hkA : Keep g w (w1.alloc (.cells #[.int .i64 (-1), .int .i64 999, .int .i64 1000, .int .i64 4611686018427387904] 2)) := hk1.alloc _
    have hnew := heap_alloc_new w1 (Obj.cells #[.int .i64 (-1), .int .i64 999, .int .i64 1000, .int .i64 4611686018427387904] 2)
    have hsz : (w1.alloc (.cells #[.int .i64 (-1), .int .i64 999, .int .i64 1000, .int .i64 4611686018427387904] 2)).heap.size = w1.heap.size + 1 := by simp
    have HNEW := hidden hnew
    clear hnew hba
    go_wp2_with fail
    refine HC2.out.mono ?_
    rintro e w2 ⟨x, rfl, hx0, hx1, hc2, hk2⟩
    have hcl : ∀ j, w2.cell? ⟨w1.heap.size, j, none⟩ = #[Value.int .i64 (-1), .int .i64 999, .int .i64 1000, .int .i64 4611686018427387904][j]? := fun j => by
      have := hk2.block w1.heap.size (by omega) (by have := hc1.1; omega)
      simp only [World.cell?, this, HNEW.out]; rfl
    have hk := hkA.trans hk2
    clear hkA hk2 HC2 HNEW
    obtain rfl | rfl | rfl | rfl : x = 0 ∨ x = 1 ∨ x = 2 ∨ x = 3 := by omega
    · have hcj := hcl 0
      clear hcl
      simp at hcj
      go_wp2_with fail
      go_ret
      exact ⟨_, rfl, by omega, by omega, hc2, hk⟩
    · have hcj := hcl 1
      clear hcl
      simp at hcj
      go_wp2_with fail
      go_ret
      exact ⟨_, rfl, by omega, by omega, hc2, hk⟩
    · have hcj := hcl 2
      clear hcl
      simp at hcj
      go_wp2_with fail
      go_ret
      exact ⟨_, rfl, by omega, by omega, hc2, hk⟩
    · have hcj := hcl 3
      clear hcl
      simp at hcj
      go_wp2_with fail
      go_ret
      exact ⟨_, rfl, by omega, by omega, hc2, hk⟩
  | false =>
    have HC2 := hidden (below_any g ao cap bs 12 _ hc1 (by omega))
    go_wp2_with fail
    refine HC2.out.mono ?_
    rintro e w2 ⟨x, rfl, hx0, hx1, hc2, hk2⟩
    have hk := hk1.trans hk2
    go_wp2_with fail
    go_ret
    exact ⟨_, rfl, by omega, by omega, hc2, hk⟩

set_option maxRecDepth 20000 in
set_option maxHeartbeats 2000000 in
theorem djoins_any (g : Nat) (ao : Option Addr) (cap : Nat) (bs : List Int) (w : World) (hc : Cur w g ao cap bs) :
    Calls Try.prog 78 #[.pointer (some ⟨g, 0, none⟩)] w fun e w' => ∃ v l, e = .returned v ∧ Own1 w' w.heap.size v l ∧ l.length ≤ 10 ∧ Cur w' g ao cap bs ∧ Keep g w w' := by
  have hgl := hc.1
  have hba : Below w.heap.size w (w.alloc (.cells #[] 50)) := (Below.refl _ w).alloc (Nat.le_refl _) _
  have hcA := hc.below (hba.mono (by omega))
  have hkA : Keep g w (w.alloc (.cells #[] 50)) := (Keep.refl g w).alloc _
  have hoA := own1_empty w
  have HB := hidden (below_any g ao cap bs 10 _ hcA (by omega))
  clear hba hc hcA
  go_enter Try.func78, Try.ntmps78
  go_wp2_with fail
  refine HB.out.mono ?_
  rintro e w1 ⟨x, rfl, hx0, hx1, hc1, hk1⟩
  have hk := hkA.trans hk1
  have ho := hoA.keep hk1 hgl
  obtain ⟨m, rfl⟩ : ∃ m : Nat, x = m := ⟨x.toNat, by omega⟩
  clear hkA hk1 hoA HB
  go_wp2_with fail
  go_loopw [3, 4] (fun ov nv wr => ∃ (i : Nat) (l : List J), i ≤ 10 ∧ nv = .int .i64 i ∧ l.length + i ≤ 10 ∧ (∃ G c0, ov = .slice (some ⟨G, 0, none⟩) l.length c0 ∧ Own1 wr w.heap.size (.slice (some ⟨G, 0, none⟩) l.length c0) l) ∧ Cur wr g ao cap bs ∧ Keep g w wr) (fun _ nv _ => (intOf nv).toNat)
  case atStart => exact ⟨m, [], by omega, rfl, by simp; omega, ⟨_, _, rfl, ho⟩, hc1, hk⟩
  case round =>
    clear ho hc1 hk
    obtain ⟨i, l, hi, rfl, hl, ⟨G, c0, rfl, ho⟩, hc, hk⟩ := hrel
    by_cases hp : 0 < i
    · have hpi : (i : Int) > 0 := by omega
      have HO := hidden ho
      clear ho
      go_wp2_with fail
      refine (below_any g ao cap bs 12 _ hc (by omega)).mono ?_
      rintro e w2 ⟨a, rfl, ha0, ha1, hc2, hk2⟩
      have HO2 := hidden (HO.out.keep hk2 hgl)
      have K2 := hidden (hk.trans hk2)
      clear hk2 hk HO hc
      go_wp2_with fail
      refine (below_any g ao cap bs 12 _ hc2 (by omega)).mono ?_
      rintro e w3 ⟨b, rfl, hb0, hb1, hc3, hk3⟩
      have HO3 := hidden (HO2.out.keep hk3 hgl)
      have K3 := hidden (K2.out.trans hk3)
      clear hk3 HO2 K2 hc2
      go_wp2_with fail
      refine (sdo_any _ l a b w.heap.size _ HO3.out).mono ?_
      rintro e w4 ⟨v4, rfl, ho4, hb4⟩
      have hlen := doL_len l a b
      have hc4 := hc3.below (hb4.mono (by have := hc3.1; omega))
      have K4 := hidden (K3.out.on (hb4.mono K3.out.size))
      have HO4 := hidden (HO3.out.below hb4)
      have HO5 := hidden (own1_base ho4 K3.out.size)
      clear hb4 HO3 K3 hc3
      obtain ⟨G5, c5, rfl, -⟩ := ho4
      generalize doC l a b = cc at *
      by_cases hz : cc = 0
      · subst hz
        go_wp2_with fail
        go_roundw
        case rel => exact ⟨i - 1, doL l a b, by omega, by congr 1; omega, by omega, ⟨_, _, rfl, HO5.out⟩, hc4, K4.out⟩
        case measure => simp [intOf]; omega
      · have hz2 : (cc == 0) = false := by simpa using hz
        go_wp2_with fail
        go_roundw
        case rel => exact ⟨i - 1, l, by omega, by congr 1; omega, by omega, ⟨_, _, rfl, HO4.out⟩, hc4, K4.out⟩
        case measure => simp [intOf]; omega
    · have hpi : ¬ (i : Int) > 0 := by omega
      have HO := hidden ho
      clear ho
      go_wp2_with fail
      go_ret
      exact ⟨_, rfl, l, HO.out, by omega, hc, hk⟩
end Go.Proofs.Ytdnnenklkfkhcaa
