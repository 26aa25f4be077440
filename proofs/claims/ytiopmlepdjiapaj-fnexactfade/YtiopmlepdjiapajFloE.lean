/-
  Slices of floats: compared; marked; looked at again.
-/
import Derived.Test.YtiopmlepdjiapajFloW
namespace Go.Proofs.Ytiopmlepdjiapaj
open Go.RowKit Fl

attribute [local go_sem] run_store_fl

set_option maxHeartbeats 2000000 in
theorem eqfs_any (a b : Value) (n : Nat) (xs ys : List Nat) (w : World) (ha : Row w a n (xs.map fl)) (hb : Row w b n (ys.map fl)) (hn : n ≤ 1048576) (hc : xs.map cls = ys.map cls) :
    Calls Try.prog 24 #[a, b] w fun e w' => e = .returned (.bool true) ∧ ∃ m, w' = w.drewN m := by
  obtain ⟨hl, ao, cap, rfl, hrow⟩ := ha
  obtain ⟨hl', bo, cap', rfl, hrow'⟩ := hb
  simp only [List.length_map] at hl hl'
  have HC : Hid (xs.map cls = ys.map cls) := hc
  clear hc
  go_enter Try.func24, Try.ntmps24
  go_wp2
  go_loopw [5] (fun i wr => (∃ m, wr = w.drewN m) ∧ ∃ k : Nat, k ≤ n ∧ i = .int .i64 k) (fun i _ => n - (intOf i).toNat)
  case atStart => exact ⟨⟨0, rfl⟩, 0, Nat.zero_le _, rfl⟩
  case round =>
    obtain ⟨⟨m, hwr⟩, k, hk, rfl⟩ := hrel
    have HW : Hid (wr = w.drewN m) := hwr
    clear hwr
    by_cases hlt : k < n
    · rcases hrow with rfl | ⟨b1, o1, rfl, hb1, hc1⟩
      · omega
      rcases hrow' with rfl | ⟨b2, o2, rfl, hb2, hc2⟩
      · omega
      obtain ⟨x, hx⟩ : ∃ x, xs[k]? = some x := ⟨_, List.getElem?_eq_getElem (by omega)⟩
      obtain ⟨y, hy⟩ : ∃ y, ys[k]? = some y := ⟨_, List.getElem?_eq_getElem (by omega)⟩
      have d1 : wr.cell? ⟨b1, o1 + k, none⟩ = some (.float .f64 x) := by rw [HW.out]; refine Eq.trans ?_ ((hc1 k hlt).trans (by rw [List.getElem?_map, hx]; rfl)); simp
      have d2 : wr.cell? ⟨b2, o2 + k, none⟩ = some (.float .f64 y) := by rw [HW.out]; refine Eq.trans ?_ ((hc2 k hlt).trans (by rw [List.getElem?_map, hy]; rfl)); simp
      have hxy : Hid (cls x = cls y) := by
        have := congrArg (fun l => l[k]?) HC.out
        simp only [List.getElem?_map, hx, hy] at this
        unfold Hid; simpa using this
      have hlt1 : (k : Int) < (n : Int) := by omega
      have hge1 : (0 : Int) ≤ (k : Int) := by omega
      clear hc1 hc2 hx hy
      go_wp2_with fail
      go_quiet ((go_at_call 41; exact Calls.quiet_of (same_any _ _ _ hxy.out)))
      go_wp2
      go_roundw
      case rel => exact ⟨⟨_, by rw [HW.out, World.drewN_drewN]⟩, k + 1, by omega, by go_num⟩
      case measure => simp [intOf]; omega
    · go_wp2
      go_ret
      exact ⟨rfl, m, HW.out⟩

/-- xs as far as k, zs behind it. -/
def upd (xs zs : List Value) (k : Nat) : List Value := xs.take k ++ zs.drop k
theorem upd_zero (xs zs : List Value) : upd xs zs 0 = zs := by simp [upd]
theorem upd_all (xs zs : List Value) (h : xs.length = zs.length) : upd xs zs xs.length = xs := by
  unfold upd; rw [List.take_length, h, List.drop_length, List.append_nil]
theorem upd_len (xs zs : List Value) (k : Nat) (h : xs.length = zs.length) (hk : k ≤ zs.length) : (upd xs zs k).length = zs.length := by simp [upd]; omega
theorem upd_step (xs zs : List Value) (k : Nat) (h : xs.length = zs.length) (hk : k < xs.length) : (upd xs zs k).set k xs[k] = upd xs zs (k + 1) := by
  unfold upd
  have l : (xs.take k).length = k := by simp; omega
  rw [List.set_append_right (h := by omega), l, Nat.sub_self, List.drop_eq_getElem_cons (by omega), List.set_cons_zero, List.take_succ_eq_append_getElem hk, List.append_assoc]
  rfl

/-- All but the row of v is as it was. -/
structure Only (v : Value) (w w' : World) : Prop where
  os : w'.os = w.os
  tape : w'.tape = w.tape
  output : w'.output = w.output
  size : w'.heap.size = w.heap.size
  block : ∀ j, some j ≠ v.ownBlock → w'.heap[j]? = w.heap[j]?
theorem Only.refl (v : Value) (w : World) : Only v w w := ⟨rfl, rfl, rfl, rfl, fun _ _ => rfl⟩
theorem Only.set {w w' : World} {g n cap j : Nat} {u : Value} (h : Only (.slice (some ⟨g, 0, none⟩) n cap) w w') : Only (.slice (some ⟨g, 0, none⟩) n cap) w (w'.setCell ⟨g, j, none⟩ u) :=
  ⟨h.os, h.tape, h.output, by rw [← h.size]; simp [World.setCell], fun i hi => (heap_setCell_other w' ⟨g, j, none⟩ i u (fun e => hi (by simp [Value.ownBlock, e]))).trans (h.block i hi)⟩
theorem Only.below {v : Value} {w w' : World} {B : Nat} (h : Only v w w') (hB : ∀ j, v.ownBlock = some j → B ≤ j) : Below B w w' :=
  ⟨h.os, h.tape, h.output, by rw [h.size]; exact Nat.le_refl _, fun k hk => h.block k (fun e => by have := hB k e.symm; omega)⟩
theorem Only.owns {v v' : Value} {w w' : World} {B n : Nat} {e : TypeId} {xs : List Value} (h : Only v w w') (ho : w.ownsRow B e 1 v' n xs) (hne : v'.ownBlock = none ∨ v'.ownBlock ≠ v.ownBlock) : w'.ownsRow B e 1 v' n xs := by
  refine ⟨ho.1, ?_⟩
  rcases ho.2 with ⟨h1, h2⟩ | ⟨g, cap, cur, h1, h2, h3, h4⟩
  · exact Or.inl ⟨h1, h2⟩
  · subst h1
    refine Or.inr ⟨g, cap, cur, rfl, h2, (h.block g ?_).trans h3, h4⟩
    rcases hne with hne | hne
    · simp [Value.ownBlock] at hne
    · simpa [Value.ownBlock] using hne

/-- The marks: the numbers from k on, as floats. -/
def marks (k : Nat) (n : Nat) : List Nat := (List.range n).map (fun i => floatOfInt .f64 ((k + i : Nat) : Int))
theorem marks_at (k n i : Nat) (h : i < n) : ((marks k n).map fl)[i]? = some (fl (floatOfInt .f64 ((k + i : Nat) : Int))) := by
  simp [marks, h]
theorem marks_len (k n : Nat) : ((marks k n).map fl).length = n := by simp [marks]

set_option maxHeartbeats 2000000 in
theorem mark_any (B : Nat) (v : Value) (n : Nat) (zs : List Value) (w : World) (ho : w.ownsRow B 37 1 v n zs) (hn : n ≤ 1048576) :
    Calls Try.prog 25 #[v, .int .i64 1] w fun e w' => e = .returned (.int .i64 (1 + (n : Int))) ∧ w'.ownsRow B 37 1 v n ((marks 1 n).map fl) ∧ Only v w w' := by
  have hz : zs.length = n := by have := ho.1; omega
  rcases ho.2 with ⟨rfl, rfl⟩ | ⟨g, cap, cu, rfl, hB, hh, hnc, hcm, hcs, htk⟩
  · go_enter Try.func25, Try.ntmps25
    go_wp2
    go_loopw [1, 5] (fun s i wr => wr = w ∧ s = .int .i64 1 ∧ i = .int .i64 0) (fun _ _ _ => 0)
    case atStart => exact ⟨rfl, rfl, rfl⟩
    case round =>
      obtain ⟨rfl, rfl, rfl⟩ := hrel
      go_wp2
      go_ret
      exact ⟨rfl, ⟨by simp [marks], Or.inl ⟨rfl, rfl⟩⟩, Only.refl _ _⟩
  · clear hB hh hnc hcm hcs htk
    obtain ⟨ms, hms⟩ : ∃ ms, ms = (marks 1 n).map fl := ⟨_, rfl⟩
    have hml : ms.length = n := by rw [hms]; exact marks_len 1 n
    have HM : Hid (ms = (marks 1 n).map fl) := hms
    clear hms
    go_enter Try.func25, Try.ntmps25
    go_wp2
    go_loopw [1, 5] (fun s i wr => ∃ k : Nat, k ≤ n ∧ s = .int .i64 (1 + (k : Int)) ∧ i = .int .i64 k ∧ wr.ownsRow B 37 1 (.slice (some ⟨g, 0, none⟩) n cap) n (upd ms zs k) ∧ Only (.slice (some ⟨g, 0, none⟩) n cap) w wr) (fun _ i _ => n - (intOf i).toNat)
    case atStart => exact ⟨0, Nat.zero_le _, by simp, rfl, by rw [upd_zero]; exact ho, Only.refl _ _⟩
    case round =>
      obtain ⟨k, hk, rfl, rfl, hr, hon⟩ := hrel
      by_cases hlt : k < n
      · have hkx : k < ms.length := by omega
        obtain ⟨old, hc2⟩ : ∃ old, wr.cell? ⟨g, k, none⟩ = some old := by
          have hcl := upd_len ms zs k (by omega) (by omega)
          exact ⟨_, by rw [hr.cellAt k (by omega), List.getElem?_eq_getElem (by omega)]⟩
        have hf2 : wr.frozen? ⟨g, k, none⟩ = false := hr.frozenAt k
        have H := hr.stored k ms[k]
        rw [upd_step ms zs k (by omega) hkx] at H
        have hy : ms[k] = .float .f64 (floatOfInt .f64 (1 + (k : Int))) := by
          have e1 : ms[k]? = some (fl (floatOfInt .f64 ((1 + k : Nat) : Int))) := by rw [HM.out]; exact marks_at 1 n k hlt
          rw [List.getElem?_eq_getElem hkx] at e1
          simp only [Option.some.injEq] at e1
          rw [e1]
          have : ((1 + k : Nat) : Int) = 1 + (k : Int) := by omega
          rw [this]
        rw [hy] at H
        have HH : Hid ((wr.setCell ⟨g, k, none⟩ (.float .f64 (floatOfInt .f64 (1 + (k : Int))))).ownsRow B 37 1 (.slice (some ⟨g, 0, none⟩) n cap) n (upd ms zs (k + 1))) := H.1
        clear H hy
        go_wp2
        go_roundw
        case rel => exact ⟨k + 1, by omega, by go_num, by go_num, HH.out, hon.set⟩
        case measure => simp [intOf]; omega
      · have hkn : k = n := by omega
        subst hkn
        go_wp2
        go_ret
        refine ⟨rfl, ?_, hon⟩
        have e : upd ms zs ms.length = ms := upd_all ms zs (by omega)
        rw [hml] at e
        rw [e, HM.out] at hr
        exact hr

set_option maxHeartbeats 2000000 in
theorem held_any (v : Value) (n : Nat) (w : World) (ha : Row w v n ((marks 1 n).map fl)) (hn : n ≤ 1048576) :
    Calls Try.prog 26 #[v, .int .i64 1] w fun e w' => e = .returned (.int .i64 (1 + (n : Int))) ∧ w' = w := by
  obtain ⟨hl, ao, cap, rfl, hrow⟩ := ha
  go_enter Try.func26, Try.ntmps26
  go_wp2
  go_loop [1, 5] (fun s i => ∃ k : Nat, k ≤ n ∧ s = .int .i64 (1 + (k : Int)) ∧ i = .int .i64 k) (fun _ i => n - (intOf i).toNat)
  case atStart => exact ⟨0, Nat.zero_le _, by simp, rfl⟩
  case round =>
    obtain ⟨k, hk, rfl, rfl⟩ := hrel
    by_cases hlt : k < n
    · rcases hrow with rfl | ⟨b1, o1, rfl, hb1, hc1⟩
      · omega
      have d1 : w.cell? ⟨b1, o1 + k, none⟩ = some (.float .f64 (floatOfInt .f64 (1 + (k : Int)))) := by
        rw [hc1 k hlt, marks_at 1 n k hlt]
        have : ((1 + k : Nat) : Int) = 1 + (k : Int) := by omega
        rw [this]
      have o1 : FloatKind.f64.format.order (floatOfInt .f64 (1 + (k : Int))) (floatOfInt .f64 (1 + (k : Int))) = some .eq := ord_self (ofInt_low _)
      clear hc1
      go_wp2
      go_round
      case rel => exact ⟨k + 1, by omega, by go_num, by go_num⟩
      case measure => simp [intOf]; omega
    · have hkn : k = n := by omega
      subst hkn
      go_wp2
      go_ret
      exact ⟨rfl, rfl⟩
end Go.Proofs.Ytiopmlepdjiapaj
