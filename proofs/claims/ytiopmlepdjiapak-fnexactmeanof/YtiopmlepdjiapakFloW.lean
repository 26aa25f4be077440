/-
  Walks over slices of floats: a copy, a comparison, marks.
-/
import Derived.Test.YtiopmlepdjiapakRows
import Derived.Test.YtiopmlepdjiapakFlo
import Derived.Test.YtiopmlepdjiapakRowy
import Derived.BigQuiet
import Derived.Deep.QuietTactic
namespace Go.Proofs.Ytiopmlepdjiapak
open Go.RowKit Fl

theorem run_fadd (w : World) (x y : Nat) : (binOp .add 23 (.float .f64 x) (.float .f64 y)).run Try.prog w = .ok (.float .f64 (fRes .add x y w)) (w.drewN (fN .add x y)) := run_float .add (by simp) 23 x y w
theorem run_fsub (w : World) (x y : Nat) : (binOp .sub 23 (.float .f64 x) (.float .f64 y)).run Try.prog w = .ok (.float .f64 (fRes .sub x y w)) (w.drewN (fN .sub x y)) := run_float .sub (by simp) 23 x y w
theorem run_fmul (w : World) (x y : Nat) : (binOp .mul 23 (.float .f64 x) (.float .f64 y)).run Try.prog w = .ok (.float .f64 (fRes .mul x y w)) (w.drewN (fN .mul x y)) := run_float .mul (by simp) 23 x y w
theorem run_fquo (w : World) (x y : Nat) : (binOp .quo 23 (.float .f64 x) (.float .f64 y)).run Try.prog w = .ok (.float .f64 (fRes .quo x y w)) (w.drewN (fN .quo x y)) := run_float .quo (by simp) 23 x y w

theorem ord_cls {x y : Nat} (z : Nat) (h : cls x = cls y) : FloatKind.f64.format.order x z = FloatKind.f64.format.order y z := by
  rcases cls_eq h with ⟨h1, h2⟩ | ⟨rfl, _⟩
  · rw [ord_nan (Or.inl h1), ord_nan (Or.inl h2)]
  · rfl
theorem ret_bool {a b : Bool} (h : a = b) : Ending.returned (.bool a) = .returned (.bool b) := by rw [h]
theorem ret_int {k : IntKind} {a b : Int} (h : a = b) : Ending.returned (.int k a) = .returned (.int k b) := by rw [h]

set_option maxHeartbeats 1000000 in
theorem same_any (x y : Nat) (w : World) (h : cls x = cls y) :
    Calls Try.prog 8 #[.float .f64 x, .float .f64 y] w fun e w' => e = .returned (.bool true) ∧ ∃ n, w' = w.drewN n := by
  have hq := run_fquo
  rcases cls_eq h with ⟨h1, h2⟩ | ⟨rfl, h1⟩
  · have o1 : FloatKind.f64.format.order x x = none := ord_nan (Or.inl h1)
    have o2 : FloatKind.f64.format.order y y = none := ord_nan (Or.inl h2)
    clear h
    go_enter Try.func8, Try.ntmps8
    go_wp2
    go_ret
    exact ⟨rfl, 0, rfl⟩
  · have o1 : FloatKind.f64.format.order x x = some .eq := ord_self h1
    clear h
    by_cases hz : FloatKind.f64.format.order x 0 = some .eq
    · go_enter Try.func8, Try.ntmps8
      go_wp2
      go_ret
      exact ⟨ret_bool (by rw [ord_cls 0 (x := fRes .quo 4607182418800017408 x w) (y := fRes .quo 4607182418800017408 x (w.drewN (fN .quo 4607182418800017408 x))) (by rw [cls_fRes, cls_fRes])]; simp), _, rfl⟩
    · have hb : (FloatKind.f64.format.order x 0 == some .eq) = false := by simpa using hz
      go_enter Try.func8, Try.ntmps8
      go_wp2
      go_ret
      exact ⟨rfl, 0, rfl⟩

abbrev fl (x : Nat) : Value := .float .f64 x
theorem info37 : (Try.prog.info? 23).map (fun i => (i.zero, i.size, i.bytes)) = some (some (.float .f64 0), 1, 8) := by kernel_rfl

theorem run_store_fl {P : Program} {w : World} {a : Addr} {m : Mode} (x : Nat) : (store a (.float .f64 x) m).run P w = stored P w a (.float .f64 x) m := run_store P w a _ m rfl
attribute [local go_sem] run_store_fl

set_option maxHeartbeats 1000000 in
theorem tofs_any (v : Value) (n : Nat) (ys : List Nat) (w : World) (hv : Row w v n (ys.map fl)) (hn : n ≤ 1048576) :
    Calls Try.prog 6 #[v] w fun e w' => ∃ g, e = .returned (.slice (some ⟨g, 0, none⟩) n n) ∧ w.heap.size ≤ g ∧ w'.ownsRow w.heap.size 23 1 (.slice (some ⟨g, 0, none⟩) n n) n (ys.map fl) ∧ Below w.heap.size w w' := by
  obtain ⟨i0, hi, hz0, hz1, hz2⟩ := info_parts info37
  obtain ⟨hl, ao, cap, rfl, hrow⟩ := hv
  obtain ⟨xs, hxs⟩ : ∃ xs, xs = ys.map fl := ⟨_, rfl⟩
  rw [← hxs] at hl hrow
  have HX : Hid (xs = ys.map fl) := hxs
  clear hxs
  go_enter Try.func6, Try.ntmps6
  go_wp2_with (refine wpList_make_full _ rfl (.tmp 6) (.tmp 6) 22 rfl w.heap.size 23 i0 (.float .f64 0) 1 Try.underlying22 hi hz0 hz1 .i64 .i64 _ _ n rfl rfl rfl rfl (by rw [hz2]; omega) (by unfold maxLen; omega) (Nat.le_refl _) ?_; intro w1 hown hgrow)
  have hown0 : w1.ownsRow w.heap.size 23 1 (.slice (some ⟨w.heap.size, 0, none⟩) n n) n (cur (fl 0) xs 0) := by
    rw [cur_zero, hl]
    have e : (madeCells (Value.float FloatKind.f64 0).cells (n * 1)).toList = List.replicate n (fl 0) := by
      rw [Nat.mul_one]; exact toList_madeCells_one (fl 0) n
    rw [← e]; exact hown
  have hbel : Below w.heap.size w w1 := (Below.refl _ _).grown hgrow (Nat.le_refl _) (by simp)
  clear hown hgrow hi hz0 hz1 hz2
  go_wp2
  go_loopw [4] (fun i wr => ∃ k : Nat, k ≤ n ∧ i = .int .i64 k ∧ wr.ownsRow w.heap.size 23 1 (.slice (some ⟨w.heap.size, 0, none⟩) n n) n (cur (fl 0) xs k) ∧ Below w.heap.size w wr) (fun i _ => n - (intOf i).toNat)
  case atStart => exact ⟨0, Nat.zero_le _, rfl, hown0, hbel⟩
  case round =>
    obtain ⟨k, hk, rfl, ho, hb⟩ := hrel
    by_cases hlt : k < n
    · rcases hrow with rfl | ⟨b, off, rfl, hbw, hcell⟩
      · omega
      have hkx : k < xs.length := by omega
      have hc1 : wr.cell? ⟨b, off + k, none⟩ = some xs[k] := by rw [hb.cell (p := ⟨b, off + k, none⟩) hbw, hcell k hlt, List.getElem?_eq_getElem hkx]
      obtain ⟨old, hc2⟩ : ∃ old, wr.cell? ⟨w.heap.size, k, none⟩ = some old := by
        have hcl := cur_len (fl 0) xs k (by omega)
        exact ⟨_, by rw [ho.cellAt k (by omega), List.getElem?_eq_getElem (by omega)]⟩
      have hf2 : wr.frozen? ⟨w.heap.size, k, none⟩ = false := ho.frozenAt k
      have H := ho.stored k xs[k]
      rw [cur_step (fl 0) xs k hkx] at H
      have HH : Hid ((wr.setCell ⟨w.heap.size, k, none⟩ xs[k]).ownsRow w.heap.size 23 1 (.slice (some ⟨w.heap.size, 0, none⟩) n n) n (cur (fl 0) xs (k + 1))) := H.1
      clear H hcell
      obtain ⟨y, hy⟩ : ∃ y, xs[k] = fl y := by
        have := HX.out
        subst this
        exact ⟨_, by rw [List.getElem_map]⟩
      rw [hy] at hc1 HH
      clear hy
      go_wp2
      go_roundw
      case rel => exact ⟨k + 1, by omega, by go_num, HH.out, hb.setCell (Nat.le_refl _) _⟩
      case measure => simp [intOf]; omega
    · have hkn : k = n := by omega
      subst hkn
      go_wp2
      go_ret
      exact ⟨w.heap.size, rfl, Nat.le_refl _, by rw [← hl, cur_all] at ho; rw [← HX.out, ← hl]; exact ho, hb⟩
end Go.Proofs.Ytiopmlepdjiapak
