/-
  Fade, of the program.
-/
import Derived.Test.YtiopmlepdjiapajFade2
namespace Go.Proofs.Ytiopmlepdjiapaj
open Go.RowKit Fl

set_option maxHeartbeats 2000000 in
theorem ifade_long (s r : Nat) (v : Value) (n : Nat) (xs : List Nat) (w : World) (ha : Row w v n (xs.map fl)) (hn : n ≤ 1048576) (h : 4096 < n) :
    Calls Try.prog 23 #[.float .f64 s, .float .f64 r, v] w fun e w' => ∃ v', e = .returned v' ∧ w'.ownsRow w.heap.size 37 1 v' 0 [] ∧ Below w.heap.size w w' := by
  obtain ⟨hl, ao, cap, rfl, hrow⟩ := ha
  clear hrow
  go_enter Try.func23, Try.ntmps23
  go_wp2
  go_ret
  exact ⟨_, rfl, World.ownsRow_made (e := 37) (size := 1) w #[] 0 (Nat.le_refl _) (Nat.zero_le _) rfl, (Below.refl _ _).alloc (Nat.le_refl _) _⟩

set_option maxHeartbeats 4000000 in
theorem ifade_any (s r : Nat) (v : Value) (n : Nat) (xs : List Nat) (w : World) (ha : Row w v n (xs.map fl)) (hn : n ≤ 4096) :
    Calls Try.prog 23 #[.float .f64 s, .float .f64 r, v] w fun e w' => ∃ v' y, e = .returned v' ∧ FadeAt w w.heap.size s r xs n v' y w' := by
  obtain ⟨i0, hi, hz0, hz1, hz2⟩ := info_parts info37
  obtain ⟨hl, ao, cap, rfl, hrow⟩ := ha
  simp only [List.length_map] at hl
  have hmul := run_fmul
  have hsub := run_fsub
  have hadd := run_fadd
  go_enter Try.func23, Try.ntmps23
  go_wp2_with (refine wpList_make_own _ rfl (.const (.int .i64 0)) (.tmp 18) 38 rfl w.heap.size 37 i0 (.float .f64 0) 1 Try.underlying38 hi hz0 hz1 .i64 .i64 _ n rfl rfl rfl (by rw [hz2]; omega) (by unfold maxLen; omega) (Nat.le_refl _) ?_; intro w1 hown hgrow)
  have ha0 : FadeAt w w.heap.size s r xs 0 (.slice (some ⟨w.heap.size, 0, none⟩) 0 n) s w1 := ⟨[], hown, rfl, rfl, (Below.refl _ _).grown hgrow (Nat.le_refl _) (by simp)⟩
  clear hown hgrow
  go_wp2
  go_loopw [7, 8, 10, 11, 12, 23] (fun o x _ _ _ i wr => ∃ (k y : Nat), k ≤ n ∧ x = .float .f64 y ∧ i = .int .i64 k ∧ FadeAt w w.heap.size s r xs k o y wr) (fun _ _ _ _ _ i _ => n - (intOf i).toNat)
  case atStart => exact ⟨0, s, Nat.zero_le _, rfl, rfl, ha0⟩
  case round =>
    obtain ⟨k, y, hk, rfl, rfl, hf⟩ := hrel
    by_cases hlt : k < n
    · rcases hrow with rfl | ⟨b, off, rfl, hbw, hcell⟩
      · omega
      obtain ⟨x, hx⟩ : ∃ x, xs[k]? = some x := ⟨_, List.getElem?_eq_getElem (by omega)⟩
      obtain ⟨ys, f1, f2, f3, f4⟩ := hf
      have hsz : w.heap.size ≤ wr.heap.size := f4.size
      have d1 : wr.cell? ⟨b, off + k, none⟩ = some (.float .f64 x) := by rw [f4.cell (p := ⟨b, off + k, none⟩) hbw, hcell k hlt, List.getElem?_map, hx]; rfl
      have F2 : Hid (ys.map cls = fadeL (cls r) (cls s) ((xs.map cls).take k)) := f2
      have F3 : Hid (cls y = fadeX (cls r) (cls s) ((xs.map cls).take k)) := f3
      have HX : Hid (xs[k]? = some x) := hx
      clear hcell hx f2 f3 ha0
      go_wp2_with (at_builtin; refine wpList_append_own _ rfl (.tmp 36) (.tmp 38) 38 rfl w.heap.size 37 i0 (.float .f64 0) 1 8 Try.underlying38 hi hz0 hz1 hz2 rfl (by decide) _ k (ys.map fl) rfl ?c0 ⟨wr.heap.size, 0, none⟩ 1 1 [.float .f64 (fRes .add (fRes .sub y (fRes .mul y r wr) (wr.drewN (fN .mul y r))) x (wr.drewN (fN .mul y r + fN .sub y (fRes .mul y r wr))))] rfl rfl ?c1 ?c2 ?c3 ?c4 ?c5 ?_)
      case c0 => exact World.ownsRow.alloc (w := wr.drewN _) f1 _
      case c1 => exact cell_one_new _ _ _
      case c2 => intro q hq; simp at hq; subst hq; rfl
      case c3 => unfold maxLen; omega
      case c4 => omega
      case c5 => simp; omega
      intro v' w2 hown' hgrow hnil
      have R := fade_round (w := w) (s := s) (xs := xs) hsz f1 F2.out F3.out f4 HX.out (by unfold fadeStep; rw [cls_fRes, cls_fRes, cls_fRes]) hown' (Below.alloc (below_drewN (Below.refl _ _) _) (Nat.le_refl _) _) hgrow
      clear hown' hgrow hnil f1 d1 F2 F3
      go_wp2
      go_roundw
      case rel => exact ⟨k + 1, _, by omega, rfl, by go_num, R⟩
      case measure => simp [intOf]; omega
    · have hkn : k = n := by omega
      subst hkn
      go_wp2
      go_ret
      exact ⟨_, y, rfl, hf⟩
end Go.Proofs.Ytiopmlepdjiapaj
