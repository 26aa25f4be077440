/-
  The earliest time, as the specification finds it.
-/
import Derived.Test.YtcapmobhgffnhaaOg
namespace Go.Proofs.Ytcapmobhgffnhaa
open Go.RowKit Va Oa
set_option linter.unusedVariables false

/-- None of the first n clashes with x. -/
def freeTo (l : List Opn) (x : Opn) (r : Int) (n : Nat) : Prop := ∀ j y, j < n → l[j]? = some y → why y x r = 0
noncomputable def fitB (l : List Opn) (x : Opn) (r : Int) : Bool := by classical exact decide (freeTo l x r l.length)
theorem fitB_true {l : List Opn} {x : Opn} {r : Int} (h : freeTo l x r l.length) : fitB l x r = true := by simp [fitB, h]
theorem fitB_false {l : List Opn} {x : Opn} {r : Int} (h : ¬ freeTo l x r l.length) : fitB l x r = false := by simp [fitB, h]
theorem of_fitB {l : List Opn} {x : Opn} {r : Int} (h : fitB l x r = true) : freeTo l x r l.length := by
  rcases Classical.em (freeTo l x r l.length) with k | k
  · exact k
  · rw [fitB_false k] at h; cases h
theorem fit_iff {l : List Opn} {x : Opn} {r t : Int} : fitB l (mv x t) r = true ↔ Fit l x r t := by
  constructor
  · intro h y hy
    obtain ⟨j, hj⟩ := List.getElem?_of_mem hy
    exact of_fitB h j y (lt_of_get hj) hj
  · intro h
    exact fitB_true fun j y _ hy => h y (List.mem_of_getElem? hy)

set_option maxRecDepth 20000 in
set_option maxHeartbeats 2000000 in
theorem sfits_any (x : Opn) (ta : Option Addr) (tn tc : Nat) (ao : Option Addr) (n cap : Nat) (l : List Opn) (r : Int) (w : World) (h : ORw w (.slice ao n cap) l) (hn : l.length ≤ 1048576)
    (hR : IRw w (.slice ta tn tc) x.team) (hx : Tms x) (hxt : x.team.length ≤ 1048576) (hl : ∀ y ∈ l, opB y = true) (hr : 0 ≤ r ∧ r ≤ 1440) :
    Calls Try.prog 72 #[.slice ao n cap, aO x (.slice ta tn tc), .int .i64 r] w fun e w' => e = .returned (.bool (fitB l x r)) ∧ Below w.heap.size w w' := by
  obtain rfl := h.len
  have HH := hidden h
  have HT := hidden hR
  have HL := hidden hl
  have HX := hidden hx
  clear h hR hl hx
  unfold aO
  go_enter Try.func72, Try.ntmps72
  go_wp2_with fail
  go_loopw [7] (fun iv wr => ∃ i : Nat, i ≤ l.length ∧ iv = .int .i64 i ∧ OBox wr w.heap.size x (.slice ta tn tc) ∧ Below w.heap.size w wr ∧ w.heap.size < wr.heap.size ∧ Hid (freeTo l x r i)) (fun iv _ => l.length - (intOf iv).toNat)
  case atStart => exact ⟨0, Nat.zero_le _, rfl, ⟨by simp, by simp, by simp, by simp, fun j => by simp⟩, by repeat (first | exact Below.refl _ _ | assumption | refine st_drew ?_ | refine st_drewN ?_ _ | refine Below.setCell ?_ (by first | omega | (simp; done) | (simp; omega)) _ | refine Below.alloc ?_ (by first | omega | (simp; done) | (simp; omega)) _), by simp, fun j y hj => absurd hj (by omega)⟩
  case round =>
    obtain ⟨i, hi, rfl, hO, hbx, hzx, hno⟩ := hrel
    have hsz := hbx.size
    by_cases hlt : i < l.length
    · have hlti : (i : Int) < (l.length : Int) := by omega
      obtain ⟨y, hy⟩ := some_of l i hlt
      obtain ⟨g, off, tb, td, rfl, hgl, hrow, c0, c1, c2, c3⟩ := (HH.out.below hbx).at hy
      have hyo := HL.out y (List.mem_of_getElem? hy)
      obtain ⟨-, hy1, hy2, hy3, hy4⟩ := of_opB hyo
      have hK := fun W hW1 hW2 => swhy_any y x tb y.team.length td ta tn tc r W (tms_of hyo) HX.out hr hW1 hW2 (by have := hy4.2.1; omega) hxt
      have HR1 := hidden (fun W (hW : Below wr.heap.size wr W) => hrow.below hW)
      have HR2 := hidden (fun W (hW : Below w.heap.size w W) => HT.out.below hW)
      have HO := hidden hO
      obtain ⟨b0, b1, b2, b3, bf⟩ := hO
      unfold aO at hK
      have HY := hidden hy
      clear hy hrow
      by_cases q : why y x r = 0
      · have hno2 : Hid (freeTo l x r (i + 1)) := fun j z hj hz => by
          rcases Nat.lt_succ_iff_lt_or_eq.1 hj with k | rfl
          · exact hno.out j z k hz
          · have := HY.out; rw [this] at hz; cases hz; exact q
        rw [q] at hK
        clear hno q
        go_wp2_with fail
        first | go_region_with (go_at_call 40; refine (hK _ (HR1.out _ (by repeat (first | exact Below.refl _ _ | assumption | refine st_drew ?_ | refine st_drewN ?_ _ | refine Below.setCell ?_ (by first | omega | (simp; done) | (simp; omega)) _ | refine Below.alloc ?_ (by first | omega | (simp; done) | (simp; omega)) _))) (HR2.out _ (by repeat (first | exact Below.refl _ _ | assumption | refine st_drew ?_ | refine st_drewN ?_ _ | refine Below.setCell ?_ (by first | omega | (simp; done) | (simp; omega)) _ | refine Below.alloc ?_ (by first | omega | (simp; done) | (simp; omega)) _)))).mono ?_; rintro e w1 ⟨rfl, hb1⟩; have bA := onto (show Below w.heap.size w _ from by repeat (first | exact Below.refl _ _ | assumption | refine st_drew ?_ | refine st_drewN ?_ _ | refine Below.setCell ?_ (by first | omega | (simp; done) | (simp; omega)) _ | refine Below.alloc ?_ (by first | omega | (simp; done) | (simp; omega)) _)) hb1; have bD := onto (show Below wr.heap.size wr _ from by repeat (first | exact Below.refl _ _ | assumption | refine st_drew ?_ | refine st_drewN ?_ _ | refine Below.setCell ?_ (by first | omega | (simp; done) | (simp; omega)) _ | refine Below.alloc ?_ (by first | omega | (simp; done) | (simp; omega)) _)) hb1; clear hb1) | fail
        all_goals go_wp2_with fail
        all_goals go_roundw
        all_goals first
          | exact ⟨i + 1, by omega, rfl, HO.out.below (by repeat (first | exact Below.refl _ _ | assumption | refine st_drew ?_ | refine st_drewN ?_ _ | refine Below.setCell ?_ (by first | omega | (simp; done) | (simp; omega)) _ | refine Below.alloc ?_ (by first | omega | (simp; done) | (simp; omega)) _)) hzx, by repeat (first | exact Below.refl _ _ | assumption | refine st_drew ?_ | refine st_drewN ?_ _ | refine Below.setCell ?_ (by first | omega | (simp; done) | (simp; omega)) _ | refine Below.alloc ?_ (by first | omega | (simp; done) | (simp; omega)) _), by have := bD.size; (try simp only [World.size_alloc]); omega, hno2⟩
          | (simp [intOf]; omega)
      · have hF : Hid (fitB l x r = false) := fitB_false fun z => q (z i y hlt HY.out)
        have hpos : 0 < why y x r := by have := why_bd y x r; omega
        generalize why y x r = wy at *
        clear hno q
        go_wp2_with fail
        first | go_region_with (go_at_call 40; refine (hK _ (HR1.out _ (by repeat (first | exact Below.refl _ _ | assumption | refine st_drew ?_ | refine st_drewN ?_ _ | refine Below.setCell ?_ (by first | omega | (simp; done) | (simp; omega)) _ | refine Below.alloc ?_ (by first | omega | (simp; done) | (simp; omega)) _))) (HR2.out _ (by repeat (first | exact Below.refl _ _ | assumption | refine st_drew ?_ | refine st_drewN ?_ _ | refine Below.setCell ?_ (by first | omega | (simp; done) | (simp; omega)) _ | refine Below.alloc ?_ (by first | omega | (simp; done) | (simp; omega)) _)))).mono ?_; rintro e w1 ⟨rfl, hb1⟩; have bA := onto (show Below w.heap.size w _ from by repeat (first | exact Below.refl _ _ | assumption | refine st_drew ?_ | refine st_drewN ?_ _ | refine Below.setCell ?_ (by first | omega | (simp; done) | (simp; omega)) _ | refine Below.alloc ?_ (by first | omega | (simp; done) | (simp; omega)) _)) hb1; clear hb1) | fail
        all_goals go_wp2_with fail
        all_goals go_ret
        all_goals exact ⟨by rw [hF.out]; rfl, by repeat (first | exact Below.refl _ _ | assumption | refine st_drew ?_ | refine st_drewN ?_ _ | refine Below.setCell ?_ (by first | omega | (simp; done) | (simp; omega)) _ | refine Below.alloc ?_ (by first | omega | (simp; done) | (simp; omega)) _)⟩
    · have hlti : ¬ (i : Int) < (l.length : Int) := by omega
      have hil : i = l.length := by omega
      subst hil
      have hyes : Hid (fitB l x r = true) := fitB_true hno.out
      go_wp2_with fail
      go_ret
      exact ⟨by rw [hyes.out]; rfl, hbx⟩
end Go.Proofs.Ytcapmobhgffnhaa
