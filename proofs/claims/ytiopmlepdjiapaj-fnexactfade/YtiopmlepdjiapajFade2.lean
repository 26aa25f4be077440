/-
  Fade, of the specification and of the program: the list of what is there behind each dose, by worth.
-/
import Derived.Test.YtiopmlepdjiapajFloE
import Derived.Maps.AppendAt
namespace Go.Proofs.Ytiopmlepdjiapaj
open Go.RowKit Fl

attribute [local go_sem] run_store_fl

/-- What is there behind each dose: the last, and the list. -/
def fadeStep (r x d : Option Nat) : Option Nat := fop .add (fop .sub x (fop .mul x r)) d
def fadeX (r : Option Nat) (x : Option Nat) (ds : List (Option Nat)) : Option Nat := ds.foldl (fadeStep r) x
def fadeL (r : Option Nat) : Option Nat → List (Option Nat) → List (Option Nat)
  | _, [] => []
  | x, d :: ds => fadeStep r x d :: fadeL r (fadeStep r x d) ds
theorem fadeX_snoc (r x : Option Nat) (ds : List (Option Nat)) (d : Option Nat) : fadeX r x (ds ++ [d]) = fadeStep r (fadeX r x ds) d := by
  simp [fadeX, List.foldl_append]
theorem fadeL_snoc (r x : Option Nat) (ds : List (Option Nat)) (d : Option Nat) : fadeL r x (ds ++ [d]) = fadeL r x ds ++ [fadeStep r (fadeX r x ds) d] := by
  induction ds generalizing x with
  | nil => rfl
  | cons a ds ih => simp only [List.cons_append, fadeL, ih]; rfl

set_option maxHeartbeats 2000000 in
theorem sfade_long (s r : Nat) (v : Value) (n : Nat) (xs : List Nat) (w : World) (ha : Row w v n (xs.map fl)) (hn : n ≤ 1048576) (h : 4096 < n) :
    Calls Try.prog 21 #[.float .f64 s, .float .f64 r, v] w fun e w' => ∃ v', e = .returned v' ∧ w'.ownsRow w.heap.size 37 1 v' 0 [] ∧ Below w.heap.size w w' := by
  obtain ⟨hl, ao, cap, rfl, hrow⟩ := ha
  clear hrow
  go_enter Try.func21, Try.ntmps21
  go_wp2
  go_ret
  exact ⟨_, rfl, World.ownsRow_made (e := 37) (size := 1) w #[] 0 (Nat.le_refl _) (Nat.zero_le _) rfl, (Below.refl _ _).alloc (Nat.le_refl _) _⟩

theorem take_snoc {α : Type} (l : List α) (k : Nat) (x : α) (h : l[k]? = some x) : l.take (k + 1) = l.take k ++ [x] := by
  obtain ⟨hk, rfl⟩ := List.getElem?_eq_some_iff.1 h
  rw [List.take_succ_eq_append_getElem hk]

/-- What the loop has behind k rounds. -/
def FadeAt (w : World) (B : Nat) (s r : Nat) (xs : List Nat) (k : Nat) (v : Value) (y : Nat) (wr : World) : Prop :=
  ∃ ys : List Nat, wr.ownsRow B 37 1 v k (ys.map fl) ∧ ys.map cls = fadeL (cls r) (cls s) ((xs.map cls).take k) ∧ cls y = fadeX (cls r) (cls s) ((xs.map cls).take k) ∧ Below B w wr

/-- One round more. -/
theorem fade_round {w wr w1 w2 : World} {B s r x y z k : Nat} {xs ys : List Nat} {v v' : Value} (hB : B ≤ wr.heap.size)
    (a1 : wr.ownsRow B 37 1 v k (ys.map fl)) (a2 : ys.map cls = fadeL (cls r) (cls s) ((xs.map cls).take k)) (a3 : cls y = fadeX (cls r) (cls s) ((xs.map cls).take k)) (a4 : Below B w wr) (hx : xs[k]? = some x)
    (hz : cls z = fadeStep (cls r) (cls y) (cls x)) (ho : w2.ownsRow B 37 1 v' (k + 1) (ys.map fl ++ [fl z])) (h1 : Below wr.heap.size wr w1) (hg : w1.grownBy w2 v.ownBlock) :
    FadeAt w B s r xs (k + 1) v' z w2 := by
  have t : (xs.map cls).take (k + 1) = (xs.map cls).take k ++ [cls x] := take_snoc _ _ _ (by rw [List.getElem?_map, hx]; rfl)
  refine ⟨ys ++ [z], by simpa using ho, ?_, ?_, ?_⟩
  · rw [t, fadeL_snoc, List.map_append, a2, ← a3, ← hz]; rfl
  · rw [t, fadeX_snoc, ← a3, hz]
  · refine Below.grown (a4.trans (h1.mono hB)) hg (Nat.le_trans hB h1.size) ?_
    intro j hj
    exact (a1.lt j hj).1

set_option maxHeartbeats 4000000 in
theorem sfade_any (s r : Nat) (v : Value) (n : Nat) (xs : List Nat) (w : World) (ha : Row w v n (xs.map fl)) (hn : n ≤ 4096) :
    Calls Try.prog 21 #[.float .f64 s, .float .f64 r, v] w fun e w' => ∃ v' y, e = .returned v' ∧ FadeAt w w.heap.size s r xs n v' y w' := by
  obtain ⟨i0, hi, hz0, hz1, hz2⟩ := info_parts info37
  obtain ⟨hl, ao, cap, rfl, hrow⟩ := ha
  simp only [List.length_map] at hl
  have hmul := run_fmul
  have hsub := run_fsub
  have hadd := run_fadd
  have ha0 : FadeAt w w.heap.size s r xs 0 (.slice (some ⟨w.heap.size, 0, none⟩) 0 0) s (w.alloc (.cells #[] 37)) :=
    ⟨[], World.ownsRow_made (e := 37) (size := 1) w #[] 0 (Nat.le_refl _) (Nat.zero_le _) rfl, rfl, rfl, (Below.refl _ _).alloc (Nat.le_refl _) _⟩
  go_enter Try.func21, Try.ntmps21
  go_wp2
  go_loopw [7, 8, 9, 10] (fun o x i _ wr => ∃ (k y : Nat), k ≤ n ∧ x = .float .f64 y ∧ i = .int .i64 k ∧ FadeAt w w.heap.size s r xs k o y wr) (fun _ _ i _ _ => n - (intOf i).toNat)
  case atStart => exact ⟨0, s, Nat.zero_le _, rfl, rfl, ha0⟩
  case round =>
    obtain ⟨k, y, hk, rfl, rfl, hf⟩ := hrel
    by_cases hlt : k < n
    · rcases hrow with rfl | ⟨b, off, rfl, hbw, hcell⟩
      · omega
      obtain ⟨x, hx⟩ : ∃ x, xs[k]? = some x := ⟨_, List.getElem?_eq_getElem (by omega)⟩
      obtain ⟨ys, f1, f2, f3, f4⟩ := hf
      have hsz : w.heap.size ≤ wr.heap.size := f4.size
      have d1 : wr.cell? ⟨b, off + k, none⟩ = some (.float .f64 x) := by rw [f4.cell (p := ⟨b, off + k, none⟩) hbw, hcell k hlt, List.getElem?_map, hx]; rfl
      have F2 : Hid (ys.map cls = fadeL (cls r) (cls s) ((xs.map cls).take k)) := f2
      have F3 : Hid (cls y = fadeX (cls r) (cls s) ((xs.map cls).take k)) := f3
      have HX : Hid (xs[k]? = some x) := hx
      clear hcell hx f2 f3
      go_wp2_with (at_builtin; refine wpList_append_own _ rfl (.tmp 35) (.tmp 37) 38 rfl w.heap.size 37 i0 (.float .f64 0) 1 8 Try.underlying38 hi hz0 hz1 hz2 rfl (by decide) _ k (ys.map fl) rfl ?c0 ⟨wr.heap.size, 0, none⟩ 1 1 [.float .f64 (fRes .add (fRes .sub y (fRes .mul y r wr) (wr.drewN (fN .mul y r))) x (wr.drewN (fN .mul y r + fN .sub y (fRes .mul y r wr))))] rfl rfl ?c1 ?c2 ?c3 ?c4 ?c5 ?_)
      case c0 => exact World.ownsRow.alloc (w := wr.drewN _) f1 _
      case c1 => exact cell_one_new _ _ _
      case c2 => intro q hq; simp at hq; subst hq; rfl
      case c3 => unfold maxLen; omega
      case c4 => omega
      case c5 => simp; omega
      intro v' w2 hown' hgrow hnil
      have R := fade_round (w := w) (s := s) (xs := xs) hsz f1 F2.out F3.out f4 HX.out (by unfold fadeStep; rw [cls_fRes, cls_fRes, cls_fRes]) hown' (Below.alloc (below_drewN (Below.refl _ _) _) (Nat.le_refl _) _) hgrow
      clear hown' hgrow hnil f1 d1 F2 F3
      go_wp2
      go_roundw
      case rel => exact ⟨k + 1, _, by omega, rfl, by go_num, R⟩
      case measure => simp [intOf]; omega
    · have hkn : k = n := by omega
      subst hkn
      go_wp2
      go_ret
      exact ⟨_, y, rfl, hf⟩
end Go.Proofs.Ytiopmlepdjiapaj
