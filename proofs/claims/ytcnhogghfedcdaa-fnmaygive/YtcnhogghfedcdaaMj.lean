/-
  Doses put in order of time: the library's sort at doses.
-/
import Derived.Test.YtcnhogghfedcdaaMi
import Derived.Test.YtcnhogghfedcdaaShelf
namespace Go.Proofs.Ytcnhogghfedcdaa
open Go.RowKit Go.Lib Go.Sort Go.Shelf Va Ga
set_option linter.unusedVariables false

instance : Inhabited Gv := ⟨⟨0, 0, 0⟩⟩
def encGv (x : Gv) : List Value := [.int .i64 x.d, .int .i64 x.t, .int .i64 x.n]
theorem encGv_at (x : Gv) (q : Nat) (hq : q < 3) : (encGv x)[q]! = .int .i64 (csGv x q) := by
  match q, hq with
  | 0, _ => rfl
  | 1, _ => rfl
  | 2, _ => rfl
def cfGv (x y : Gv) : Int := Lib.compareInt x.t y.t
theorem ltGv (x y : Gv) : ltOf cfGv x y = decide (x.t < y.t) := by
  unfold ltOf cfGv Lib.compareInt
  by_cases h1 : x.t < y.t
  · simp [h1]
  · by_cases h2 : y.t < x.t <;> simp [h1, h2]
theorem swoGv : SWO (ltOf cfGv) where
  irrefl x := by rw [ltGv]; simp
  trans x y z h1 h2 := by rw [ltGv] at *; simp at *; omega
  ntrans x y z h1 h2 := by rw [ltGv] at *; simp at *; omega

set_option maxHeartbeats 1000000 in
theorem inan_any (a : Int) (w : World) : Calls Try.prog 75 #[.int .i64 a] w fun e w' => e = .returned (.bool false) ∧ w' = w := by
  go_enter Try.func75, Try.ntmps75
  go_wp2_with fail
  go_ret
  exact ⟨by simp, rfl⟩

set_option maxHeartbeats 1000000 in
theorem icompare_any (a b : Int) (w : World) : Calls Try.prog 69 #[.int .i64 a, .int .i64 b] w fun e w' => e = .returned (.int .i64 (Lib.compareInt a b)) ∧ w' = w := by
  have k1 := inan_any a
  have k2 := inan_any b
  have HC : Hid (Lib.compareInt a b = if a < b then -1 else if a > b then 1 else 0) := rfl
  generalize Lib.compareInt a b = r at *
  by_cases h1 : a < b
  · have HR : Hid (r = -1) := by rw [Hid, HC.out, if_pos h1]
    go_enter Try.func69, Try.ntmps69
    go_wp2_with (with_reducible (first | refine (k1 _).mono ?_ | refine (k2 _).mono ?_); rintro e w1 ⟨rfl, rfl⟩)
    go_ret
    exact ⟨by rw [HR.out]; rfl, rfl⟩
  by_cases h2 : b < a
  · have HR : Hid (r = 1) := by rw [Hid, HC.out, if_neg h1, if_pos h2]
    go_enter Try.func69, Try.ntmps69
    go_wp2_with (with_reducible (first | refine (k1 _).mono ?_ | refine (k2 _).mono ?_); rintro e w1 ⟨rfl, rfl⟩)
    go_ret
    exact ⟨by rw [HR.out]; rfl, rfl⟩
  · have HR : Hid (r = 0) := by rw [Hid, HC.out, if_neg h1, if_neg h2]
    go_enter Try.func69, Try.ntmps69
    go_wp2_with (with_reducible (first | refine (k1 _).mono ?_ | refine (k2 _).mono ?_); rintro e w1 ⟨rfl, rfl⟩)
    go_ret
    exact ⟨by rw [HR.out]; rfl, rfl⟩

set_option maxHeartbeats 1000000 in
theorem icmp_any (x y : Gv) (W : World) : Calls Try.prog 68 #[.agg #[.int .i64 x.d, .int .i64 x.t, .int .i64 x.n], .agg #[.int .i64 y.d, .int .i64 y.t, .int .i64 y.n]] W fun e w' => e = .returned (.int .i64 (cfGv x y)) ∧ ∃ q os', w' = grow (W.drewN q) os' := by
  have hcon := fun W' => icompare_any x.t y.t W'
  unfold cfGv
  generalize Lib.compareInt x.t y.t = r at *
  go_enter Try.func68, Try.ntmps68
  go_wp2_with (go_at_call 69; refine (hcon _).mono ?_; rintro e w' ⟨rfl, rfl⟩)
  go_ret
  exact ⟨rfl, 0, _, by rw [alloc_eq_grow, alloc_eq_grow, grow_grow]; rfl⟩
theorem cmpLays (blk off size : Nat) (w : World) : CmpLays Try.prog 68 #[] encGv 3 cfGv blk off size w := fun _ _ _ _ x y => icmp_any x y _

theorem srt_of : ∀ (l : List Gv), (∀ i j (hi : i < l.length) (hj : j < l.length), i < j → l[i].t ≤ l[j].t) → Srt l
  | [], _ => trivial
  | g :: l, h => ⟨fun y hy => by
      obtain ⟨j, hj, rfl⟩ := List.getElem_of_mem hy
      exact h 0 (j + 1) (by simp) (by simp; omega) (by omega), srt_of l (fun i j hi hj hij => h (i + 1) (j + 1) (by simp; omega) (by simp; omega) (by omega))⟩

set_option maxRecDepth 20000 in
set_option maxHeartbeats 2000000 in
theorem isort_any (G cap : Nat) (K : List Gv) (cur : Array Value) (w : World) (hP : PB w G cur 49) (hci : CI cur K K.length) (hl : K.length ≤ 1048576) (hcap : K.length ≤ cap) :
    Calls Try.prog 67 #[.slice (some ⟨G, 0, none⟩) K.length cap, .func (.func 68) #[] #[]] w fun e w' => e = .returned (.tuple #[]) ∧ (∃ S : List Gv, S.Perm K ∧ Srt S ∧ S.length = K.length ∧ Rw 3 csGv w' (.slice (some ⟨G, 0, none⟩) K.length cap) S) ∧ Below G w w' := by
  have eg : ∀ args w, (callFunc 68 args).run Try.prog w = .ok (.enter 68 args) w := enters_of Try.func68 (by kernel_rfl) rfl
  have hGl := hP.lt
  have hH : HoldsK encGv 3 w G 0 K.toArray := fun j hj => by
    have hj' : j < K.length * 3 := by simpa using hj
    obtain ⟨x, hx⟩ := some_of K (j / 3) (by omega)
    refine ⟨?_, hP.frozen _⟩
    rw [hP.cell, Nat.zero_add]
    have e1 := hci (j / 3) x (by omega) hx (j % 3) (by omega)
    rw [show j / 3 * 3 + j % 3 = j by omega] at e1
    rw [e1, get_flatK _ _ _ j (by simpa using hj')]
    have e2 : K.toArray[j / 3]! = x := by
      rw [getElem!_pos K.toArray (j / 3) (by simp; omega)]
      have := (List.getElem?_eq_some_iff.1 hx).2
      simpa using this
    rw [e2, encGv_at _ _ (by omega)]
    rfl
  have hcon := AnyQ.slices_SortFunc Try.srtF 3 Try.isAgg49 Try.sizeOf49 encGv (fun _ => rfl) (fun x v hv => by simp [encGv] at hv; rcases hv with rfl | rfl | rfl <;> rfl) cfGv swoGv 68 #[] G 0 cap K.toArray w eg (cmpLays G 0 K.toArray.size w) hH hGl (by simp; omega)
  change Calls Try.prog 67 _ _ _ at hcon
  rw [show K.toArray.size = K.length by simp] at hcon
  refine hcon.mono ?_
  rintro e w' ⟨rfl, d', m, os, ⟨hp1, -, hp3⟩, hs, rfl⟩
  have hd : d'.size = K.length := by simpa using hp1
  have hperm : d'.toList.Perm K := by
    have e1 : (d'.extract 0 K.length).toList = d'.toList := by rw [← hd]; simp
    have e2 : (K.toArray.extract 0 K.length).toList = K := by simp
    rw [e1, e2] at hp3
    exact hp3
  refine ⟨rfl, ⟨d'.toList, hperm, srt_of _ (fun i j hi hj hij => ?_), by simpa using hd, ?_⟩, ?_⟩
  · have hi' : i < d'.size := by simpa using hi
    have hj' : j < d'.size := by simpa using hj
    have := hs i j (Nat.zero_le _) hij (by omega)
    rw [ltGv, getElem!_pos d' j hj', getElem!_pos d' i hi'] at this
    simp at this
    simpa using this
  · have hH2 := holdsK_sortWorldK encGv 3 w G 0 m K.toArray d' os hGl hH (by simpa using hd)
    refine ⟨_, cap, by simp [hd], by simpa [hd] using hcap, Or.inr ⟨G, 0, rfl, lt_sortWorldK encGv 3 w G 0 m d' os hGl, fun i x hx k hk => ?_⟩⟩
    have hi : i < d'.size := by have := (List.getElem?_eq_some_iff.1 hx).1; simpa using this
    have h2 := (hH2 (i * 3 + k) (by simp; omega)).1
    rw [get_flatK _ _ _ _ (by omega), show (i * 3 + k) / 3 = i by omega, show (i * 3 + k) % 3 = k by omega] at h2
    have e2 : d'[i]! = x := by
      rw [getElem!_pos d' i hi]
      have := (List.getElem?_eq_some_iff.1 hx).2
      simpa using this
    rw [e2, encGv_at _ _ hk] at h2
    rw [show 0 + i * 3 + k = 0 + (i * 3 + k) by omega]
    exact h2
  · have hg : w.grownBy (sortWorldK encGv 3 w G 0 m d' os) (some G) := by
      refine ⟨rfl, rfl, rfl, size_sortWorldK_c _ _ _ _ _ _ _ _, fun k hk hne => ?_⟩
      have : G ≠ k := fun e => hne (by rw [e])
      unfold sortWorldK
      rw [heap_grow_old _ _ (by rw [size_putRowK]; simpa using hk)]
      simp [putRowK, putRow, mapBlock, Sort.ahead, Array.getElem?_modify, this]
    exact (Below.refl _ _).grown hg (by omega) (fun k hk => by cases hk; exact Nat.le_refl _)
end Go.Proofs.Ytcnhogghfedcdaa
