/-
  Merged: M15 M16 M17.
-/
import Derived.Test.YtgcpiinmcbdkmaaMw8
import Derived.Deep.RegionWith
import Derived.Test.YtgcpiinmcbdkmaaMw6
namespace Go.Proofs.Ytgcpiinmcbdkmaa
open Go.RowKit Va Ms
set_option linter.all false
theorem VOut.far {α : Type} {s : Nat} {cs : α → Nat → Value} {w : World} {G n i : Nat} {l : List α} (h : VOut s cs w G n l i) {b : Nat} (hb : b ≠ G) (o : Nat) (v : Value) : VOut s cs (w.setCell ⟨b, o, none⟩ v) G n l i := by
  obtain ⟨h1, h2, h3⟩ := h
  have hc : ∀ j, (w.setCell ⟨b, o, none⟩ v).cell? ⟨G, j, none⟩ = w.cell? ⟨G, j, none⟩ := fun j => World.cell?_setCell_far _ _ _ _ hb
  refine ⟨by simpa [World.setCell] using h1, fun j hj => ⟨by rw [hc]; exact (h2 j hj).1, by rw [World.frozen?_setCell]; exact (h2 j hj).2⟩, fun j x hj hx k hk => by rw [hc]; exact h3 j x hj hx k hk⟩
set_option maxRecDepth 20000 in
set_option maxHeartbeats 4000000 in
theorem eqpart_any (x : Pt) (a1 : Option Addr) (n1 c1 : Nat) (a2 : Option Addr) (n2 c2 : Nat) (w : World) (h : VRw 1 cvS w (.slice a1 n1 c1) x.fs) (h' : VRw 1 cvS w (.slice a2 n2 c2) x.fs) (hn : x.fs.length ≤ 1048576) :
    Calls Try.prog 113 #[aP x (.slice a1 n1 c1), aP x (.slice a2 n2 c2)] w fun e w' => e = .returned (.bool true) ∧ Below w.heap.size w w' := by
  have hK := fun W hW hW' => eqstrs_any a1 n1 c1 a2 n2 c2 x.fs W hW hW' hn
  have HA := hidden (fun W (hW : Below w.heap.size w W) => h.below hW)
  have HB := hidden (fun W (hW : Below w.heap.size w W) => h'.below hW)
  clear h h'
  unfold aP
  go_enter Try.func113, Try.ntmps113
  go_wp2_with (go_at_call 140; (with_reducible refine (hK _ (HA.out _ (by repeat (first | exact Below.refl _ _ | assumption | refine st_drew ?_ | refine st_drewN ?_ _ | refine Below.setCell ?_ (by first | omega | (simp; done) | (simp; omega)) _ | refine Below.alloc ?_ (by first | omega | (simp; done) | (simp; omega)) _))) (HB.out _ (by repeat (first | exact Below.refl _ _ | assumption | refine st_drew ?_ | refine st_drewN ?_ _ | refine Below.setCell ?_ (by first | omega | (simp; done) | (simp; omega)) _ | refine Below.alloc ?_ (by first | omega | (simp; done) | (simp; omega)) _)))).mono ?_); rintro e w1 ⟨rfl, hb1⟩; have bA := ontoT (show Below w.heap.size w _ from by repeat (first | exact Below.refl _ _ | assumption | refine st_drew ?_ | refine st_drewN ?_ _ | refine Below.setCell ?_ (by first | omega | (simp; done) | (simp; omega)) _ | refine Below.alloc ?_ (by first | omega | (simp; done) | (simp; omega)) _)) hb1)
  go_ret
  exact ⟨rfl, bA⟩
end Go.Proofs.Ytgcpiinmcbdkmaa

namespace Go.Proofs.Ytgcpiinmcbdkmaa
open Go.RowKit Go.WideShapes Va Ms
set_option linter.all false
set_option maxRecDepth 20000 in
set_option maxHeartbeats 2000000 in
theorem eqparts_any (a1 : Option Addr) (n1 c1 : Nat) (a2 : Option Addr) (n2 c2 : Nat) (l : List Pt) (w : World) (h : PRw w (.slice a1 n1 c1) l) (h' : PRw w (.slice a2 n2 c2) l) (hn : l.length ≤ 1048576) (ht : ∀ x ∈ l, x.fs.length ≤ 1048576) :
    Calls Try.prog 72 #[.slice a1 n1 c1, .slice a2 n2 c2] w fun e w' => e = .returned (.bool true) ∧ Below w.heap.size w w' := by
  obtain rfl := h.len
  obtain rfl := h'.len
  have HH := hidden h
  have HH' := hidden h'
  have HT := hidden ht
  clear h h' ht
  go_enter Try.func72, Try.ntmps72
  go_wp2_with fail
  go_loopw [5] (fun iv wr => ∃ i : Nat, i ≤ l.length ∧ iv = .int .i64 i ∧ Below w.heap.size w wr) (fun iv _ => l.length - (intOf iv).toNat)
  case atStart => exact ⟨0, Nat.zero_le _, rfl, Below.refl _ _⟩
  case round =>
    obtain ⟨i, hil, rfl, hb⟩ := hrel
    have hsz := hb.size
    by_cases hlt : i < l.length
    · have hlti : (i : Int) < (l.length : Int) := by omega
      obtain ⟨x, hx⟩ := some_of l i hlt
      obtain ⟨g, off, fa, fc, rfl, hg, hr1, c0, c1⟩ := (HH.out.below hb).at hx
      obtain ⟨g', off', fa', fc', rfl, hg', hr1', d0, d1⟩ := (HH'.out.below hb).at hx
      have hl2 := HT.out x (List.mem_of_getElem? hx)
      have hK := fun W h1 h2 => eqpart_any x fa x.fs.length fc fa' x.fs.length fc' W h1 h2 hl2
      unfold aP at hK
      have HA := hidden (fun W (hW : Below wr.heap.size wr W) => hr1.below hW)
      have HC := hidden (fun W (hW : Below wr.heap.size wr W) => hr1'.below hW)
      clear hx hr1 hr1' hl2
      go_wp2_with fail
      first | go_region_with (go_at_call 113; refine (hK _ (HA.out _ (by repeat (first | exact Below.refl _ _ | assumption | refine st_drew ?_ | refine st_drewN ?_ _ | refine Below.setCell ?_ (by first | omega | (simp; done) | (simp; omega)) _ | refine Below.alloc ?_ (by first | omega | (simp; done) | (simp; omega)) _))) (HC.out _ (by repeat (first | exact Below.refl _ _ | assumption | refine st_drew ?_ | refine st_drewN ?_ _ | refine Below.setCell ?_ (by first | omega | (simp; done) | (simp; omega)) _ | refine Below.alloc ?_ (by first | omega | (simp; done) | (simp; omega)) _)))).mono ?_; rintro e w1 ⟨rfl, hb1⟩; have bA := ontoT (show Below w.heap.size w _ from by repeat (first | exact Below.refl _ _ | assumption | refine st_drew ?_ | refine st_drewN ?_ _ | refine Below.setCell ?_ (by first | omega | (simp; done) | (simp; omega)) _ | refine Below.alloc ?_ (by first | omega | (simp; done) | (simp; omega)) _)) hb1; clear hb1) | fail
      all_goals go_wp2_with fail
      all_goals go_roundw
      all_goals first
        | exact ⟨i + 1, by omega, rfl, by repeat (first | exact Below.refl _ _ | assumption | refine st_drew ?_ | refine st_drewN ?_ _ | refine Below.setCell ?_ (by first | omega | (simp; done) | (simp; omega)) _ | refine Below.alloc ?_ (by first | omega | (simp; done) | (simp; omega)) _)⟩
        | (simp [intOf]; omega)
    · have hlti : ¬ (i : Int) < (l.length : Int) := by omega
      go_wp2_with fail
      go_ret
      exact ⟨rfl, hb⟩
theorem WOut.far {w : World} {base G n i : Nat} {l : List Pt} (h : WOut w base G n l i) {b : Nat} (hb : b < base) (o : Nat) (v : Value) : WOut (w.setCell ⟨b, o, none⟩ v) base G n l i := by
  obtain ⟨h0, h1, h2, h3⟩ := h
  have hc : ∀ T j, base ≤ T → (w.setCell ⟨b, o, none⟩ v).cell? ⟨T, j, none⟩ = w.cell? ⟨T, j, none⟩ := fun T j hT => World.cell?_setCell_far _ _ _ _ (by show b ≠ T; omega)
  refine ⟨h0, by simpa [World.setCell] using h1, fun j hj => ⟨by rw [hc G j h0]; exact (h2 j hj).1, by rw [World.frozen?_setCell]; exact (h2 j hj).2⟩, fun j x hj hx => ?_⟩
  obtain ⟨T, k1, ⟨e0, e1⟩, k4⟩ := h3 j x hj hx
  exact ⟨T, k1, ⟨by rw [hc G _ h0]; exact e0, by rw [hc G _ h0]; exact e1⟩, k4.far (by omega) o v⟩
set_option maxRecDepth 20000 in
set_option maxHeartbeats 2000000 in
theorem eqmess_any (a1 : Option Addr) (n1 c1 : Nat) (a2 : Option Addr) (n2 c2 : Nat) (l : List Pt) (w : World) (h : PRw w (.slice a1 n1 c1) l) (h' : PRw w (.slice a2 n2 c2) l) (hn : l.length ≤ 1048576) (ht : ∀ x ∈ l, x.fs.length ≤ 1048576) :
    Calls Try.prog 32 #[.agg #[.slice a1 n1 c1], .agg #[.slice a2 n2 c2]] w fun e w' => e = .returned (.bool true) ∧ Below w.heap.size w w' := by
  have HT := hidden (fun W (hW : Below w.heap.size w W) => eqparts_any a1 n1 c1 a2 n2 c2 l W (h.below hW) (h'.below hW) hn ht)
  clear h h' ht
  go_enter Try.func32, Try.ntmps32
  go_wp2_with (go_at_call 72; (with_reducible refine (HT.out _ (by repeat (first | exact Below.refl _ _ | assumption | refine st_drew ?_ | refine st_drewN ?_ _ | refine Below.setCell ?_ (by first | omega | (simp; done) | (simp; omega)) _ | refine Below.alloc ?_ (by first | omega | (simp; done) | (simp; omega)) _))).mono ?_); rintro e w1 ⟨rfl, hb1⟩; have bA := ontoT (show Below w.heap.size w _ from by repeat (first | exact Below.refl _ _ | assumption | refine st_drew ?_ | refine st_drewN ?_ _ | refine Below.setCell ?_ (by first | omega | (simp; done) | (simp; omega)) _ | refine Below.alloc ?_ (by first | omega | (simp; done) | (simp; omega)) _)) hb1)
  go_ret
  exact ⟨rfl, bA⟩
end Go.Proofs.Ytgcpiinmcbdkmaa

namespace Go.Proofs.Ytgcpiinmcbdkmaa
open Go.RowKit Va Ms
set_option linter.all false
theorem not_empty {y : ByteArray} (h : ¬ y = .empty) : y.toList.isEmpty = false := by
  rw [ByteArray.toList_eq]
  cases q : y.data.toList.isEmpty with
  | false => rfl
  | true =>
    have e : y.data.toList = [] := by simpa using q
    have e2 : y.data = #[] := Array.toList_inj.1 (by rw [e])
    exact absurd (show y = .empty by obtain ⟨d⟩ := y; simp only at e2; rw [e2]; rfl) h
theorem fields_many {l : List ByteArray} (h : 30 < l.length) : fieldsB l = false := by
  unfold fieldsB
  rw [decide_eq_false (show ¬ l.length = 0 by omega), decide_eq_false (show ¬ l.length ≤ 30 by omega)]
  rfl
theorem fields_last {l : List ByteArray} {m : Nat} {y : ByteArray} (h : l.length = m + 1) (h2 : m + 1 ≤ 30) (hy : l[m]? = some y) : fieldsB l = !decide (y = .empty) := by
  have hm : m + 1 - 1 = m := by omega
  unfold fieldsB
  rw [h, hm, decide_eq_false (show ¬ m + 1 = 0 by omega), decide_eq_true h2, List.getD_eq_getElem?_getD, hy]
  rfl
set_option maxRecDepth 20000 in
set_option maxHeartbeats 4000000 in
theorem ifields_any (ao : Option Addr) (n cap : Nat) (l : List ByteArray) (w : World) (h : VRw 1 cvS w (.slice ao n cap) l) (hn : l.length ≤ 1048576) :
    Calls Try.prog 138 #[.slice ao n cap] w fun e w' => e = .returned (.bool (fieldsB l)) ∧ w = w' := by
  obtain rfl := h.len
  by_cases h0 : l.length = 0
  · obtain rfl := List.eq_nil_of_length_eq_zero h0
    clear h h0
    go_enter Try.func138, Try.ntmps138
    go_wp2
    go_ret
    exact ⟨rfl, rfl⟩
  by_cases h1 : 30 < l.length
  · have HV := hidden (fields_many h1)
    have h1i : ¬ ((l.length : Int) ≤ 30) := by omega
    have h0i : ((l.length : Int) == 0) = false := beq_eq_false_iff_ne.2 (by omega)
    clear h h0 h1
    go_enter Try.func138, Try.ntmps138
    go_wp2
    go_ret
    exact ⟨by rw [HV.out]; first | done | rfl, rfl⟩
  obtain ⟨m, hm⟩ : ∃ m, l.length = m + 1 := ⟨l.length - 1, by omega⟩
  obtain ⟨y, hy⟩ := some_of l m (by omega)
  obtain ⟨g, off, rfl, hg, c0⟩ := str_cell h hy
  have HV := hidden (fields_last hm (by omega) hy)
  have hm30 : m + 1 ≤ 30 := by omega
  rw [hm]
  clear h h0 h1 hy hm hn
  have h1i : (((m + 1 : Nat) : Int) ≤ 30) := by omega
  have h0i : ((m : Int) + 1 == 0) = false := beq_eq_false_iff_ne.2 (by omega)
  by_cases q : y = .empty
  · rw [decide_eq_true q] at HV
    subst q
    go_enter Try.func138, Try.ntmps138
    go_wp2
    go_ret
    exact ⟨by rw [HV.out]; first | done | rfl, rfl⟩
  · rw [decide_eq_false q] at HV
    have q2 := not_empty q
    go_enter Try.func138, Try.ntmps138
    go_wp2
    go_ret
    exact ⟨by rw [HV.out]; first | done | rfl, rfl⟩
end Go.Proofs.Ytgcpiinmcbdkmaa
