/-
  Copies of operations, as the specification makes them.
-/
import Derived.Test.YtcapmobhgffnhaaOs
import Derived.Deep.RegionLawGrows
import Derived.Deep.RegionHeld3
namespace Go.Proofs.Ytcapmobhgffnhaa
open Go.RowKit Va Oa
set_option linter.unusedVariables false

theorem two_boxes2 (w : World) (a b : Array Value) (t s : TypeId) : TBox ((w.alloc (.cells a t)).alloc (.cells b s)) w.heap.size a t ∧ TBox ((w.alloc (.cells a t)).alloc (.cells b s)) (w.heap.size + 1) b s := by
  constructor
  · exact TBox.below (W := w.alloc (.cells a t)) (heap_alloc_new w _) ((Below.refl _ _).alloc (Nat.le_refl _) _)
  · have : TBox ((w.alloc (.cells a t)).alloc (.cells b s)) (w.alloc (.cells a t)).heap.size b s := heap_alloc_new (w.alloc (.cells a t)) _
    simp only [World.size_alloc] at this
    exact this

theorem st_allocO {w0 w : World} {o : Obj} (h : Below w0.heap.size w0 w) : Below w0.heap.size w0 (w.alloc o) := h.alloc h.size o
theorem grown_bB {w0 w w' : World} (h : Below w0.heap.size w0 w) (hg : w.grownBy w' none) : Below w0.heap.size w0 w' := h.grown hg h.size (fun k hk => by cases hk)

set_option maxRecDepth 20000 in
set_option maxHeartbeats 4000000 in
theorem copy_any (x : Opn) (ta : Option Addr) (tn tc : Nat) (w : World) (h : IRw w (.slice ta tn tc) x.team) (hn : x.team.length ≤ 1048576) (hpos : 1 ≤ x.team.length) :
    Calls Try.prog 50 #[aO x (.slice ta tn tc)] w fun e w' => ∃ ad c, e = .returned (aO x (.slice ad x.team.length c)) ∧ w'.ownsRow w.heap.size 2 1 (.slice ad x.team.length c) x.team.length (x.team.map fun z => Value.int .i64 z) ∧ Below w.heap.size w w' := by
  obtain rfl := h.len
  obtain ⟨y, hy⟩ := some_of x.team 0 (by omega)
  obtain ⟨g, off, rfl, hg, hc⟩ := h.at hy
  obtain ⟨i0, hi0, hz0, hzs, hz2'⟩ := info_partsO infoI64
  clear h hy
  unfold aO
  have tb := two_boxes2 w #[.int .i64 x.room, .int .i64 x.fr, .int .i64 x.to, .slice (some ⟨g, off, none⟩) x.team.length tc] #[.int .i64 0, .int .i64 0, .int .i64 0, .slice none 0 0] 31 31
  have hb0 : Below w.heap.size w ((w.alloc (.cells #[.int .i64 x.room, .int .i64 x.fr, .int .i64 x.to, .slice (some ⟨g, off, none⟩) x.team.length tc] 31)).alloc (.cells #[.int .i64 0, .int .i64 0, .int .i64 0, .slice none 0 0] 31)) := by repeat (first | exact Below.refl _ _ | assumption | refine st_drew ?_ | refine st_drewN ?_ _ | refine Below.setCell ?_ (by first | omega | (simp; done) | (simp; omega)) _ | refine Below.alloc ?_ (by first | omega | (simp; done) | (simp; omega)) _)
  have hz1 : ((w.alloc (.cells #[.int .i64 x.room, .int .i64 x.fr, .int .i64 x.to, .slice (some ⟨g, off, none⟩) x.team.length tc] 31)).alloc (.cells #[.int .i64 0, .int .i64 0, .int .i64 0, .slice none 0 0] 31)).heap.size = w.heap.size + 1 + 1 := by simp
  go_enter Try.func50, Try.ntmps50
  go_wp2_with fail
  generalize ((w.alloc (.cells #[.int .i64 x.room, .int .i64 x.fr, .int .i64 x.to, .slice (some ⟨g, off, none⟩) x.team.length tc] 31)).alloc (.cells #[.int .i64 0, .int .i64 0, .int .i64 0, .slice none 0 0] 31)) = W1 at *
  obtain ⟨⟨c0, c1, c2, c3⟩, -⟩ := tb.1.four
  have HT1 := hidden (fun W (hW : Below W1.heap.size W1 W) => tb.1.below hW)
  have HT2 := hidden (fun W (hW : Below W1.heap.size W1 W) => tb.2.below hW)
  have hsrc := hidden (fun W (hW : Below W1.heap.size W1 W) (j : Nat) (u : Value) (hu : (x.team.map fun z => Value.int .i64 z)[j]? = some u) => (show W.cell? ((⟨g, off, none⟩ : Addr).add j) = some u by
    rw [List.getElem?_map] at hu
    obtain ⟨z, hz, rfl⟩ := Option.map_eq_some_iff.1 hu
    rw [Addr.add_lit]
    exact ((onto hb0 hW).cell (p := ⟨g, off + j, none⟩) hg).trans (hc j z hz)))
  have HZ := hidden hz1
  have hz2 : w.heap.size < W1.heap.size := by omega
  have hz3 : w.heap.size + 1 < W1.heap.size := by omega
  clear hc tb hz1
  go_region_held3 (fun w' => w'.cell? ⟨w.heap.size, 0, none⟩ = some (.int .i64 x.room) ∧ w'.cell? ⟨w.heap.size, 1, none⟩ = some (.int .i64 x.fr) ∧ w'.cell? ⟨w.heap.size, 2, none⟩ = some (.int .i64 x.to) ∧ w'.cell? ⟨w.heap.size, 3, none⟩ = some (.slice (some ⟨g, off, none⟩) x.team.length tc)) (go_keep)
    (first
      | ((refine step_append_grows rfl (.tmp 9) (.tmp 11) 29 rfl 2 i0 (.int .i64 0) 1 8 Try.underlying29 hi0 hz0 hzs hz2' rfl (by decide) (some ⟨W1.heap.size, 0, none⟩) 0 0 [] (by first | ((simp [Act.eval]); done) | fail) (by simp) (by simp) (by simp) ⟨g, off, none⟩ x.team.length tc (x.team.map fun z => Value.int .i64 z) (by first | ((simp [Act.eval]); done) | fail) (by simp) (hsrc.out _ (by first | ((repeat (first | assumption | with_reducible exact Below.refl _ _ | with_reducible apply st_drew | with_reducible apply st_drewN | with_reducible apply st_allocO)); done) | fail)) (ints_one _) (by omega) (by unfold maxLen; omega) (by omega) ?_; intro v4 w4 ho4 hg4; have hO4 := hidden ho4; obtain ⟨ad4, c4, rfl⟩ := ownO_slice ho4; have bB := hidden (grown_bB (show Below W1.heap.size W1 _ from by first | ((repeat (first | assumption | with_reducible exact Below.refl _ _ | with_reducible apply st_drew | with_reducible apply st_drewN | with_reducible apply st_allocO)); done) | fail) hg4); obtain ⟨⟨p0, p1, p2, p3⟩, pf⟩ := (HT1.out _ bB.out).four; obtain ⟨⟨q0, q1, q2, q3⟩, qf⟩ := (HT2.out _ bB.out).four))
      | fail)
  all_goals go_wp2_with fail
  all_goals have hO5 := hO4.out
  all_goals simp only [Nat.zero_add, List.nil_append] at hO5
  all_goals have hT := (HT2.out _ bB.out).put4 (.int .i64 x.room) (.int .i64 x.fr) (.int .i64 x.to) (.slice ad4 x.team.length c4)
  all_goals have hfin := own_base (own_set (own_set (own_set (own_set (b := w.heap.size + 1) (o := 0) hO5 (by first | omega | (simp; omega)) (.int .i64 x.room)) (b := w.heap.size + 1) (o := 1) (by first | omega | (simp; omega)) (.int .i64 x.fr)) (b := w.heap.size + 1) (o := 2) (by first | omega | (simp; omega)) (.int .i64 x.to)) (b := w.heap.size + 1) (o := 3) (by first | omega | (simp; omega)) (.slice ad4 x.team.length c4)) (show w.heap.size ≤ _ by first | omega | (simp; omega))
  all_goals have b5 := ((((onto hb0 bB.out).setCell (p := ⟨w.heap.size + 1, 0, none⟩) (by show w.heap.size ≤ w.heap.size + 1; omega) (.int .i64 x.room)).setCell (p := ⟨w.heap.size + 1, 1, none⟩) (by show w.heap.size ≤ w.heap.size + 1; omega) (.int .i64 x.fr)).setCell (p := ⟨w.heap.size + 1, 2, none⟩) (by show w.heap.size ≤ w.heap.size + 1; omega) (.int .i64 x.to)).setCell (p := ⟨w.heap.size + 1, 3, none⟩) (by show w.heap.size ≤ w.heap.size + 1; omega) (.slice ad4 x.team.length c4)
  all_goals exact bodyPost_ret (v := .agg #[.int .i64 x.room, .int .i64 x.fr, .int .i64 x.to, .slice ad4 x.team.length c4]) (results_cell_row Try.results50 _ _ (w.heap.size + 1) 31 _ (0, 0) _ rfl hT Try.underlying31 rfl (by kernel_rfl)) rfl ⟨_, _, rfl, hfin, b5⟩
end Go.Proofs.Ytcapmobhgffnhaa
