/-
  The doses of one drug, in order of time: what the program makes of what was given.
-/
import Derived.Test.YtcnhogghfedcdaaMj
namespace Go.Proofs.Ytcnhogghfedcdaa
open Go.RowKit Va Ga
set_option linter.unusedVariables false

theorem cellsG_one (l : List Gv) : ∀ v ∈ cellsL 3 csGv l, v.oneCell' = true := fun v hv => by
  simp only [cellsL, List.mem_flatMap, List.mem_map] at hv
  obtain ⟨x, _, k, _, rfl⟩ := hv
  rfl
theorem cellsG_cj (l : List Gv) : CJ (cellsL 3 csGv l).toArray l 0 := fun k x _ hx q hq => by
  rw [List.getElem?_toArray]
  exact cellsL_get l k x hx q hq

set_option maxRecDepth 20000 in
set_option maxHeartbeats 4000000 in
theorem idoses_any (x : Int) (ao : Option Addr) (n cap : Nat) (l : List Gv) (w : World) (h : Rw 3 csGv w (.slice ao n cap) l) (hl : l.length ≤ 500) :
    Calls Try.prog 48 #[.int .i64 x, .slice ao n cap] w fun e w' => ∃ (G c : Nat) (S : List Gv), e = .returned (.slice (some ⟨G, 0, none⟩) S.length c) ∧ S.Perm (mine x l) ∧ Srt S ∧ Rw 3 csGv w' (.slice (some ⟨G, 0, none⟩) S.length c) S ∧ Below w.heap.size w w' := by
  obtain rfl := h.len
  obtain ⟨i0, hi, hz0, hz1, hz2⟩ := info_parts infoGvM
  have hb0 : Below w.heap.size w (w.alloc (.cells #[.int .i64 x] 2)) := (Below.refl _ _).alloc (Nat.le_refl _) _
  have HD := hidden (PB.new w #[.int .i64 x] 2)
  have HH := hidden (h.below hb0)
  have HB := hidden hb0
  clear h hb0
  go_enter Try.func48, Try.ntmps48
  go_upto_region 1 with fail
  generalize w.alloc (.cells #[.int .i64 x] 2) = wA at *
  go_upto_region 2 with (refine wpList_make_full _ rfl (.tmp 7) (.tmp 7) 42 rfl wA.heap.size 49 i0 (.agg #[.int .i64 0, .int .i64 0, .int .i64 0]) 3 Try.underlying42 hi hz0 hz1 .i64 .i64 _ _ l.length rfl rfl rfl rfl (by rw [hz2]; omega) (by unfold maxLen; omega) (Nat.le_refl _) ?_; intro w1 ho1 hg1)
  have b1 : Below wA.heap.size wA w1 := (Below.refl _ wA).grown hg1 (Nat.le_refl _) (by simp)
  obtain ⟨cur, hP1, hc1⟩ : ∃ cur, PB w1 wA.heap.size cur 49 ∧ cur.size = l.length * 3 := by
    obtain ⟨_, ⟨q, _⟩ | ⟨g, cp, cur, q, _, hh, _, _, hs, _⟩⟩ := ho1
    · cases q
    · simp at q
      obtain ⟨rfl, rfl⟩ := q
      exact ⟨cur, hh, hs⟩
  have hGA : w.heap.size < wA.heap.size := HD.out.lt
  have hrow1 := HH.out.below b1
  have hD1 := HD.out.below b1
  have hrun : ∀ ty, (Builtin.copy_ #[42, 42] ty #[.slice (some ⟨wA.heap.size, 0, none⟩) l.length l.length, .slice ao l.length cap]).run Try.prog w1 = .ok (goInt l.length) (w1.setRow wA.heap.size (cellsL 3 csGv l).toArray) := fun ty =>
    run_copy_wide w1 42 42 ty 49 3 wA.heap.size l.length l.length ao cap cur 49 (cellsL 3 csGv l) Try.underlying42 (by rw [hi]; simp [hz1]) hP1 (cellsL_len l) hc1 (fun h0 => by
      obtain ⟨y, hy⟩ := some_of l 0 h0
      obtain ⟨b, off, rfl, _, _⟩ := hrow1.at hy
      exact ⟨_, rfl, fun j v hv => by rw [Addr.add_lit]; exact row_cells hrow1 j v hv⟩) (cellsG_one l)
  have HP2 := hidden (PB.row (cur' := (cellsL 3 csGv l).toArray) hP1)
  have B2 := hidden (below_setRow b1 (Nat.le_refl _) (cellsL 3 csGv l).toArray)
  have HC2 : Hid ((w1.setRow wA.heap.size (cellsL 3 csGv l).toArray).cell? ⟨w.heap.size, 0, none⟩ = some (.int .i64 x)) := (B2.out.cell (p := ⟨w.heap.size, 0, none⟩) hGA).trans ((HD.out.cell 0).trans rfl)
  clear ho1 hg1 hP1 hc1 hrow1 hD1 b1 HH
  generalize w1.setRow wA.heap.size (cellsL 3 csGv l).toArray = w2 at *
  go_wp2_with fail
  refine (idelete_any wA.heap.size l.length w.heap.size x l (cellsL 3 csGv l).toArray w2 HP2.out (by simp [cellsL_len]) rfl (by omega) (cellsG_cj l) hGA HC2.out).mono ?_
  rintro e w3 ⟨rfl, ⟨cur3, hP3, hs3, hci3⟩, hb3⟩
  have hfl : (l.filter (keep x)).length ≤ l.length := List.length_filter_le _ _
  have HS := hidden (isort_any wA.heap.size l.length (l.filter (keep x)) cur3 w3 hP3 hci3 (by omega) hfl)
  have B3 := hidden (B2.out.trans (hb3.mono (Nat.le_refl _)))
  clear hP3 hs3 hci3 hb3 HP2 B2 HC2 hrun
  generalize hK : l.filter (keep x) = K at *
  have HK := hidden hK
  clear hK
  go_wp2_with fail
  refine HS.out.mono ?_
  rintro e w4 ⟨rfl, ⟨S, hp, hs, hsl, hrw⟩, hb4⟩
  have HSL := hidden hsl
  clear hsl HS
  go_wp2_with fail
  go_ret
  refine ⟨wA.heap.size, l.length, S, by rw [HSL.out]; rfl, ?_, hs, by rw [HSL.out]; exact hrw, onto HB.out (B3.out.trans (hb4.mono (Nat.le_refl _)))⟩
  rw [show mine x l = K from HK.out]
  exact hp
end Go.Proofs.Ytcnhogghfedcdaa
