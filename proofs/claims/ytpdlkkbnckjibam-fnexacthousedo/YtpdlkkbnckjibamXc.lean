/-
  The law's own helpers on houses: sizes, copies, sameness.
-/
import Derived.Test.YtpdlkkbnckjibamXa
namespace Go.Proofs.Ytpdlkkbnckjibam
open Go.RowKit Hm
set_option linter.unusedVariables false

theorem Out.keep {α : Type} {s : Nat} {cs : α → Nat → Int} {w w' : World} {G n i : Nat} {l : List α} (h : Out s cs w G n l i) (hs : w.heap.size ≤ w'.heap.size) (hb : w'.heap[G]? = w.heap[G]?) : Out s cs w' G n l i := by
  have hc : ∀ j, w'.cell? ⟨G, j, none⟩ = w.cell? ⟨G, j, none⟩ := fun j => by simp only [World.cell?, hb]
  have hf : ∀ j, w'.frozen? ⟨G, j, none⟩ = w.frozen? ⟨G, j, none⟩ := fun j => by simp only [World.frozen?, hb]
  refine ⟨Nat.lt_of_lt_of_le h.1 hs, fun j hj => ?_, fun j x hj hx k hk => ?_⟩
  · rw [hc, hf]; exact h.2.1 j hj
  · rw [hc]; exact h.2.2 j x hj hx k hk
theorem Own.keep {α : Type} {s : Nat} {cs : α → Nat → Int} {w w' : World} {base : Nat} {v : Value} {l : List α} (h : Own s cs w base v l) (hs : w.heap.size ≤ w'.heap.size) (hb : ∀ j, base ≤ j → j < w.heap.size → w'.heap[j]? = w.heap[j]?) : Own s cs w' base v l := by
  obtain ⟨ao, cap, rfl, hc, h0 | ⟨G, rfl, hG, ho⟩⟩ := h
  · exact ⟨ao, cap, rfl, hc, Or.inl h0⟩
  · exact ⟨_, cap, rfl, hc, Or.inr ⟨G, rfl, hG, ho.keep hs (hb G hG ho.1)⟩⟩
theorem Own.setCell {α : Type} {s : Nat} {cs : α → Nat → Int} {w : World} {base : Nat} {v : Value} {l : List α} (h : Own s cs w base v l) {p : Addr} (hp : p.block < base) (u : Value) : Own s cs (w.setCell p u) base v l :=
  h.keep (by simp) (fun j hj _ => Below.heap_setCell _ _ _ _ (by omega))
/-- A house of the call's own: beds and stays in two blocks. -/
def HOwn (w : World) (base : Nat) (vb vs : Value) (B : List Bd) (S : List St) : Prop := Own 2 csB w base vb B ∧ Own 6 csS w base vs S ∧ (B.length = 0 ∨ S.length = 0 ∨ Apart vb vs)
theorem HOwn.row {w : World} {base : Nat} {vb vs : Value} {B : List Bd} {S : List St} (h : HOwn w base vb vs B S) : HRw w vb vs B S := ⟨h.1.row, h.2.1.row⟩
theorem HOwn.below {w w' : World} {base : Nat} {vb vs : Value} {B : List Bd} {S : List St} (h : HOwn w base vb vs B S) (hb : Below w.heap.size w w') : HOwn w' base vb vs B S := ⟨h.1.below hb, h.2.1.below hb, h.2.2⟩
theorem HOwn.base_le {w : World} {base b2 : Nat} {vb vs : Value} {B : List Bd} {S : List St} (h : HOwn w base vb vs B S) (hb : b2 ≤ base) : HOwn w b2 vb vs B S := ⟨h.1.base_le hb, h.2.1.base_le hb, h.2.2⟩
theorem apart_of {α β : Type} {s s2 : Nat} {cs : α → Nat → Int} {cs2 : β → Nat → Int} {w1 w2 : World} {b1 : Nat} {v v2 : Value} {l : List α} {l2 : List β} (h : Own s cs w1 b1 v l) (h2 : Own s2 cs2 w2 w1.heap.size v2 l2) : l.length = 0 ∨ l2.length = 0 ∨ Apart v v2 := by
  obtain ⟨ao, cap, rfl, _, h0 | ⟨G, rfl, hG, ho⟩⟩ := h
  · exact Or.inl h0
  obtain ⟨ao2, cap2, rfl, _, h0 | ⟨G2, rfl, hG2, ho2⟩⟩ := h2
  · exact Or.inr (Or.inl h0)
  refine Or.inr (Or.inr fun j hj hj2 => ?_)
  have e1 : G = j := Option.some.inj hj
  have e2 : G2 = j := Option.some.inj hj2
  have := ho.1
  omega

set_option maxRecDepth 20000 in
set_option maxHeartbeats 1000000 in
theorem szhouse_any (ao ao2 : Option Addr) (n cap m cap2 : Nat) (w : World) (hn : (n : Int) ≤ 9223372036854775807) (hm : (m : Int) ≤ 9223372036854775807) :
    Calls Try.prog 9 #[.agg #[.slice ao n cap, .slice ao2 m cap2], .int .i64 1048576] w fun e w' => (∃ r : Int, e = .returned (.int .i64 r) ∧ (r < 0 ∨ (0 ≤ r ∧ n ≤ 1048576 ∧ m ≤ 1048576))) ∧ Below w.heap.size w w' := by
  have h1 := szbeds_any ao n cap 1048576
  by_cases hb : (1048576 : Int) < (n : Int)
  · rw [if_pos hb] at h1
    go_enter Try.func9, Try.ntmps9
    go_wp2_with (go_at_call 28; refine (h1 _ hn (by omega) (by omega)).mono ?_; rintro e w1 ⟨rfl, rfl⟩)
    go_ret
    exact ⟨⟨-1, rfl, Or.inl (by omega)⟩, by repeat (first | exact Below.refl _ _ | assumption | refine st_drew ?_ | refine st_drewN ?_ _ | refine Below.setCell ?_ (by first | omega | (simp; done) | (simp; omega)) _ | refine Below.alloc ?_ (by first | omega | (simp; done) | (simp; omega)) _)⟩
  · rw [if_neg hb] at h1
    have h2 := szstays_any ao2 m cap2 (1048576 - n)
    have hn0 : ¬ (1048576 : Int) - n < 0 := by omega
    by_cases hc : (1048576 : Int) - n < (m : Int)
    · rw [if_pos hc] at h2
      go_enter Try.func9, Try.ntmps9
      go_wp2_with (first | (go_at_call 28; refine (h1 _ hn (by omega) (by omega)).mono ?_; rintro e w1 ⟨rfl, rfl⟩) | (go_at_call 29; refine (h2 _ hm (by omega) (by omega)).mono ?_; rintro e w1 ⟨rfl, rfl⟩))
      go_ret
      exact ⟨⟨-1, rfl, Or.inl (by omega)⟩, by repeat (first | exact Below.refl _ _ | assumption | refine st_drew ?_ | refine st_drewN ?_ _ | refine Below.setCell ?_ (by first | omega | (simp; done) | (simp; omega)) _ | refine Below.alloc ?_ (by first | omega | (simp; done) | (simp; omega)) _)⟩
    · rw [if_neg hc] at h2
      have hn1 : ¬ (1048576 : Int) - n - m < 0 := by omega
      go_enter Try.func9, Try.ntmps9
      go_wp2_with (first | (go_at_call 28; refine (h1 _ hn (by omega) (by omega)).mono ?_; rintro e w1 ⟨rfl, rfl⟩) | (go_at_call 29; refine (h2 _ hm (by omega) (by omega)).mono ?_; rintro e w1 ⟨rfl, rfl⟩))
      go_ret
      exact ⟨⟨_, rfl, Or.inr ⟨by omega, by omega, by omega⟩⟩, by repeat (first | exact Below.refl _ _ | assumption | refine st_drew ?_ | refine st_drewN ?_ _ | refine Below.setCell ?_ (by first | omega | (simp; done) | (simp; omega)) _ | refine Below.alloc ?_ (by first | omega | (simp; done) | (simp; omega)) _)⟩

set_option maxRecDepth 20000 in
set_option maxHeartbeats 2000000 in
theorem tohouse_any (ao ao2 : Option Addr) (n cap m cap2 : Nat) (B : List Bd) (S : List St) (w : World) (h : HRw w (.slice ao n cap) (.slice ao2 m cap2) B S) (hn : B.length ≤ 1048576) (hm : S.length ≤ 1048576) :
    Calls Try.prog 11 #[.agg #[.slice ao n cap, .slice ao2 m cap2]] w fun e w' => ∃ a1 c1 a2 c2, e = .returned (.agg #[.slice a1 B.length c1, .slice a2 S.length c2]) ∧ HOwn w' w.heap.size (.slice a1 B.length c1) (.slice a2 S.length c2) B S ∧ Below w.heap.size w w' := by
  have HH := hidden h
  have hB := hidden (fun W (hW : Below w.heap.size w W) => tobeds_any (.slice ao n cap) B W (HH.out.below hW).1 hn)
  have hS := hidden (fun W (hW : Below w.heap.size w W) => tostays_any (.slice ao2 m cap2) S W (HH.out.below hW).2 hm)
  clear h
  have hb0 : Below w.heap.size w (((w.alloc (.cells #[.slice ao n cap, .slice ao2 m cap2] 25)).alloc (.cells #[.slice none 0 0, .slice none 0 0] 32)).alloc (.cells #[.slice none 0 0, .slice none 0 0] 32)) := (((Below.refl _ _).alloc (Nat.le_refl _) _).alloc (by first | omega | (simp; done) | (simp; omega)) _).alloc (by first | omega | (simp; done) | (simp; omega)) _
  go_enter Try.func11, Try.ntmps11
  go_wp2_with fail
  go_at_call 32
  refine (hB.out _ hb0).mono ?_
  rintro e w1 ⟨v1, rfl, ho1, hb1⟩
  obtain ⟨a1, c1, rfl⟩ := ho1.row.form
  have b1 := onto hb0 hb1
  have HO1 := hidden ho1
  have z1 := hb1.size
  simp only [World.size_alloc] at z1
  have y1 : w.heap.size + 1 + 1 < w1.heap.size := by omega
  have y2 : w.heap.size < w1.heap.size := by omega
  have y3 : w.heap.size + 1 < w1.heap.size := by omega
  obtain ⟨hc1, hf1⟩ := bcell hb1
  clear ho1
  go_wp2_with fail
  go_at_call 33
  refine (hS.out _ (by repeat (first | exact Below.refl _ _ | assumption | refine st_drew ?_ | refine st_drewN ?_ _ | refine Below.setCell ?_ (by first | omega | (simp; done) | (simp; omega)) _ | refine Below.alloc ?_ (by first | omega | (simp; done) | (simp; omega)) _))).mono ?_
  rintro e w2 ⟨v2, rfl, ho2, hb2⟩
  obtain ⟨a2, c2, rfl⟩ := ho2.row.form
  have HO2 := hidden ho2
  have z2 := hb2.size
  simp only [World.size_setCell] at z2
  have y4 : w.heap.size + 1 + 1 < w2.heap.size := by omega
  have y5 : w.heap.size + 1 < w2.heap.size := by omega
  obtain ⟨hc2, hf2⟩ := bcell hb2
  clear ho2
  go_wp2_with fail
  have O1 : Hid (Own 2 csB w2 (w.heap.size + 1 + 1 + 1) (.slice a1 B.length c1) B) := by
    have h1 := HO1.out
    simp only [World.size_alloc] at h1
    exact (h1.setCell (p := ⟨w.heap.size + 1 + 1, 0, none⟩) (by first | omega | (simp; done) | (simp; omega)) _).below hb2
  have O2 : Hid (Own 6 csS w2 w1.heap.size (.slice a2 S.length c2) S) := by
    have h2 := HO2.out
    simp only [World.size_setCell] at h2
    exact h2
  have b2 : Below w.heap.size w w2 := (b1.setCell (p := ⟨w.heap.size + 1 + 1, 0, none⟩) (by first | omega | (simp; done) | (simp; omega)) _).trans (hb2.mono (by simp; omega))
  refine bodyPost_ret (v := .agg #[.slice a1 B.length c1, .slice a2 S.length c2]) (by simp [results, Try.results11, go_sem, hc2, hc1, y3]) rfl ⟨a1, c1, a2, c2, rfl, ⟨?_, ?_, ?_⟩, ?_⟩
  · exact (((O1.out.setCell (p := ⟨w.heap.size + 1 + 1, 1, none⟩) (by first | omega | (simp; done) | (simp; omega)) _).setCell (p := ⟨w.heap.size + 1, 0, none⟩) (by first | omega | (simp; done) | (simp; omega)) _).setCell (p := ⟨w.heap.size + 1, 1, none⟩) (by first | omega | (simp; done) | (simp; omega)) _).base_le (by omega)
  · exact (((O2.out.setCell (p := ⟨w.heap.size + 1 + 1, 1, none⟩) (by first | omega | (simp; done) | (simp; omega)) _).setCell (p := ⟨w.heap.size + 1, 0, none⟩) (by first | omega | (simp; done) | (simp; omega)) _).setCell (p := ⟨w.heap.size + 1, 1, none⟩) (by first | omega | (simp; done) | (simp; omega)) _).base_le (by omega)
  · exact apart_of HO1.out O2.out
  · exact ((b2.setCell (p := ⟨w.heap.size + 1 + 1, 1, none⟩) (by first | omega | (simp; done) | (simp; omega)) _).setCell (p := ⟨w.heap.size + 1, 0, none⟩) (by first | omega | (simp; done) | (simp; omega)) _).setCell (p := ⟨w.heap.size + 1, 1, none⟩) (by first | omega | (simp; done) | (simp; omega)) _

set_option maxRecDepth 20000 in
set_option maxHeartbeats 1000000 in
theorem eqhouse_any (ao ao2 ao' ao2' : Option Addr) (n cap m cap2 n' cap' m' cap2' : Nat) (B : List Bd) (S : List St) (w : World) (h : HRw w (.slice ao n cap) (.slice ao2 m cap2) B S) (h' : HRw w (.slice ao' n' cap') (.slice ao2' m' cap2') B S) (hn : B.length ≤ 1048576) (hm : S.length ≤ 1048576) :
    Calls Try.prog 14 #[.agg #[.slice ao n cap, .slice ao2 m cap2], .agg #[.slice ao' n' cap', .slice ao2' m' cap2']] w fun e w' => e = .returned (.bool true) ∧ Below w.heap.size w w' := by
  have HB := hidden (fun W (hW : Below w.heap.size w W) => eqbeds_any (.slice ao n cap) (.slice ao' n' cap') B W (h.below hW).1 (h'.below hW).1 hn)
  have HS := hidden (fun W (hW : Below w.heap.size w W) => eqstays_any (.slice ao2 m cap2) (.slice ao2' m' cap2') S W (h.below hW).2 (h'.below hW).2 hm)
  clear h h'
  go_enter Try.func14, Try.ntmps14
  go_wp2_with fail
  refine (HB.out _ (by repeat (first | exact Below.refl _ _ | assumption | refine st_drew ?_ | refine st_drewN ?_ _ | refine Below.setCell ?_ (by first | omega | (simp; done) | (simp; omega)) _ | refine Below.alloc ?_ (by first | omega | (simp; done) | (simp; omega)) _))).mono ?_
  rintro e w1 ⟨rfl, hb1⟩
  have b1 := onto (show Below w.heap.size w _ from by repeat (first | exact Below.refl _ _ | assumption | refine st_drew ?_ | refine st_drewN ?_ _ | refine Below.setCell ?_ (by first | omega | (simp; done) | (simp; omega)) _ | refine Below.alloc ?_ (by first | omega | (simp; done) | (simp; omega)) _)) hb1
  obtain ⟨hc1, hf1⟩ := bcell hb1
  go_wp2_with fail
  refine (HS.out _ b1).mono ?_
  rintro e w2 ⟨rfl, hb2⟩
  have b2 := onto b1 hb2
  go_wp2_with fail
  go_ret
  exact ⟨rfl, b2⟩

end Go.Proofs.Ytpdlkkbnckjibam
