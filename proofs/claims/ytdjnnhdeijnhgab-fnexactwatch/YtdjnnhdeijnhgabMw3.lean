/-
  The law's own helpers on rows of numbers: sameness, markings.
-/
import Derived.Test.YtdjnnhdeijnhgabMw1
import Derived.Test.YtdjnnhdeijnhgabMw2
import Derived.Deep.RegionWith
import Derived.Deep.Slices
namespace Go.Proofs.Ytdjnnhdeijnhgab
open Go.RowKit Va Lb
set_option linter.all false

def csI (x : Int) (k : Nat) : Int := x
theorem int_cell {cs : Int → Nat → Int} {w : World} {ao : Option Addr} {n cap : Nat} {l : List Int} {i : Nat} {x : Int} (h : Rw 1 cs w (.slice ao n cap) l) (hk : l[i]? = some x) :
    ∃ g off, ao = some ⟨g, off, none⟩ ∧ g < w.heap.size ∧ w.cell? ⟨g, off + i, none⟩ = some (.int .i64 (cs x 0)) := by
  obtain ⟨g, off, h1, h2, h3⟩ := h.at hk
  have := h3 0 (by omega)
  rw [Nat.mul_one, Nat.add_zero] at this
  exact ⟨g, off, h1, h2, this⟩

set_option maxRecDepth 20000 in
set_option maxHeartbeats 2000000 in
theorem eqints_any (v u : Value) (l : List Int) (w : World) (h : Rw 1 csI w v l) (h' : Rw 1 csI w u l) (hn : l.length ≤ 1048576) :
    Calls Try.prog 11 #[v, u] w fun e w' => e = .returned (.bool true) ∧ Below w.heap.size w w' := by
  have HH := hidden h
  have HH' := hidden h'
  obtain ⟨ao, cap, rfl⟩ := h.form
  obtain ⟨ao', cap', rfl⟩ := h'.form
  clear h h'
  go_enter Try.func11, Try.ntmps11
  go_wp2_with fail
  go_loopw [5] (fun iv wr => ∃ i : Nat, i ≤ l.length ∧ iv = .int .i64 i ∧ Below w.heap.size w wr) (fun iv _ => l.length - (intOf iv).toNat)
  case atStart => exact ⟨0, Nat.zero_le _, rfl, Below.refl _ _⟩
  case round =>
    obtain ⟨i, hil, rfl, hb⟩ := hrel
    by_cases hlt : i < l.length
    · have hlti : (i : Int) < (l.length : Int) := by omega
      have hi0 : (0 : Int) ≤ (i : Int) := by omega
      obtain ⟨x, hx⟩ := some_of l i hlt
      obtain ⟨g, off, rfl, hg, c0⟩ := int_cell (HH.out.below hb) hx
      obtain ⟨g', off', rfl, hg', d0⟩ := int_cell (HH'.out.below hb) hx
      unfold csI at c0 d0
      clear hx
      go_wp2_with fail
      go_quiet (fail)
      go_wp2_with fail
      go_roundw
      case rel => exact ⟨i + 1, by omega, rfl, by repeat (first | exact Below.refl _ _ | assumption | refine st_drew ?_ | refine st_drewN ?_ _ | refine Below.setCell ?_ (by first | omega | (simp; done) | (simp; omega)) _ | refine Below.alloc ?_ (by first | omega | (simp; done) | (simp; omega)) _)⟩
      case measure => simp [intOf]; omega
    · have hlti : ¬ (i : Int) < (l.length : Int) := by omega
      go_wp2_with fail
      go_ret
      exact ⟨rfl, hb⟩

set_option maxRecDepth 20000 in
set_option maxHeartbeats 4000000 in
theorem markint_some (G n cap : Nat) (l0 : List Int) (k0 : Int) (w : World) (h : Out 1 csI w G n l0 n) (hn : n ≤ 1048576) (hk0 : 0 ≤ k0) (hk1 : k0 ≤ 1000000000) :
    Calls Try.prog 14 #[.slice (some ⟨G, 0, none⟩) n cap, .int .i64 k0] w fun e w' => e = .returned (.int .i64 (k0 + (n : Int))) ∧ Out 1 csM w' G n (marks 1 k0 n) n ∧ Aside w w' (.slice (some ⟨G, 0, none⟩) n cap) := by
  have h0 : Out 1 csM w G n (marks 1 k0 n) 0 := ⟨h.1, h.2.1, fun j x hj => absurd hj (by omega)⟩
  clear h
  go_enter Try.func14, Try.ntmps14
  go_wp2_with fail
  go_loopw [1, 5] (fun kv iv wr => ∃ i : Nat, i ≤ n ∧ kv = .int .i64 (k0 + (i : Int)) ∧ iv = .int .i64 i ∧ Out 1 csM wr G n (marks 1 k0 n) i ∧ Aside w wr (.slice (some ⟨G, 0, none⟩) n cap)) (fun _ iv _ => n - (intOf iv).toNat)
  case atStart => exact ⟨0, Nat.zero_le _, by simp, rfl, h0, Aside.refl _ _⟩
  case round =>
    clear h0
    obtain ⟨i, hi, rfl, rfl, ho, ha⟩ := hrel
    by_cases hlt : i < n
    · have hlti : (i : Int) < (n : Int) := by omega
      have hset := ho.set hlt (marks_get 1 k0 n i hlt) [.int .i64 (k0 + (i : Int))] rfl (fun k hk => by
        match k, hk with
        | 0, _ => exact congrArg (fun z => some (Value.int .i64 z)) (by unfold csM; omega))
      obtain ⟨⟨u0, hu0⟩, hf0⟩ := ho.old hlt (show 0 < 1 by omega)
      rw [Nat.mul_one] at hset hu0 hf0
      simp only [Nat.add_zero] at hu0 hf0
      have ha2 := Aside.put [.int .i64 (k0 + (i : Int))] i ha
      clear ho ha
      go_wp2_with fail
      go_roundw
      case rel => exact ⟨i + 1, by omega, by congr 1; omega, rfl, hset, ha2⟩
      case measure => simp [intOf]; omega
    · have hlti : ¬ (i : Int) < (n : Int) := by omega
      have hin : i = n := by omega
      subst hin
      go_wp2_with fail
      go_ret
      exact ⟨rfl, ho, ha⟩

set_option maxRecDepth 20000 in
set_option maxHeartbeats 2000000 in
theorem markint_none (ao : Option Addr) (cap : Nat) (k0 : Int) (w : World) :
    Calls Try.prog 14 #[.slice ao 0 cap, .int .i64 k0] w fun e w' => e = .returned (.int .i64 k0) ∧ w' = w := by
  go_enter Try.func14, Try.ntmps14
  go_wp2_with fail
  go_loopw [1, 5] (fun kv iv wr => wr = w ∧ kv = .int .i64 k0 ∧ iv = .int .i64 0) (fun _ _ _ => 0)
  case atStart => exact ⟨rfl, rfl, rfl⟩
  case round =>
    obtain ⟨rfl, rfl, rfl⟩ := hrel
    go_wp2_with fail
    go_ret
    exact ⟨rfl, rfl⟩

/-- What a marking does. -/
theorem markint_any (v : Value) (l : List Int) (base : Nat) (k0 : Int) (w : World) (h : Own 1 csI w base v l) (hn : l.length ≤ 1048576) (hk0 : 0 ≤ k0) (hk1 : k0 ≤ 1000000000) :
    Calls Try.prog 14 #[v, .int .i64 k0] w fun e w' => e = .returned (.int .i64 (k0 + (l.length : Int))) ∧ Own 1 csM w' base v (marks 1 k0 l.length) ∧ Aside w w' v ∧ (l.length = 0 → w' = w) := by
  obtain ⟨ao, cap, rfl, hc, hh⟩ := h
  rcases Nat.eq_zero_or_pos l.length with h0 | hpos
  · rw [h0]
    refine (markint_none ao cap k0 w).mono ?_
    rintro e w' ⟨rfl, rfl⟩
    exact ⟨by simp, ⟨ao, cap, rfl, Nat.zero_le _, Or.inl rfl⟩, Aside.refl _ _, fun _ => rfl⟩
  · obtain ⟨G, rfl, hG, ho⟩ := hh.resolve_left (by omega)
    refine (markint_some G l.length cap l k0 w ho hn hk0 hk1).mono ?_
    rintro e w' ⟨rfl, ho', ha⟩
    exact ⟨rfl, ⟨_, cap, by rw [marks_len], by rw [marks_len]; exact hc, Or.inr ⟨G, rfl, hG, by rw [marks_len]; exact ho'⟩⟩, ha, fun h0 => absurd h0 (by omega)⟩

set_option maxRecDepth 20000 in
set_option maxHeartbeats 4000000 in
theorem heldint_any (v : Value) (k0 : Int) (n : Nat) (w : World) (h : Rw 1 csM w v (marks 1 k0 n)) (hn : n ≤ 1048576) (hk0 : 0 ≤ k0) (hk1 : k0 ≤ 1000000000) :
    Calls Try.prog 15 #[v, .int .i64 k0] w fun e w' => e = .returned (.int .i64 (k0 + (n : Int))) ∧ w' = w := by
  have HH := hidden h
  obtain ⟨ao, cap, rfl⟩ := h.form
  clear h
  rw [marks_len]
  rw [marks_len] at HH
  go_enter Try.func15, Try.ntmps15
  go_wp2_with fail
  go_loopw [1, 5] (fun kv iv wr => wr = w ∧ ∃ i : Nat, i ≤ n ∧ kv = .int .i64 (k0 + (i : Int)) ∧ iv = .int .i64 i) (fun _ iv _ => n - (intOf iv).toNat)
  case atStart => exact ⟨rfl, 0, Nat.zero_le _, by simp, rfl⟩
  case round =>
    obtain ⟨rfl, i, hi, rfl, rfl⟩ := hrel
    by_cases hlt : i < n
    · have hlti : (i : Int) < (n : Int) := by omega
      obtain ⟨g, off, rfl, hg, c0⟩ := int_cell HH.out (marks_get 1 k0 n i hlt)
      have c1 : wr.cell? ⟨g, off + i, none⟩ = some (.int .i64 (k0 + (i : Int))) := c0.trans (congrArg (fun z => some (Value.int .i64 z)) (by unfold csM; omega))
      clear c0
      go_wp2_with fail
      go_roundw
      case rel => exact ⟨by first | rfl | trivial, i + 1, by omega, by congr 1; omega, rfl⟩
      case measure => simp [intOf]; omega
    · have hlti : ¬ (i : Int) < (n : Int) := by omega
      have hin : i = n := by omega
      subst hin
      go_wp2_with fail
      go_ret
      exact ⟨rfl, rfl⟩



theorem cellsI (L : List Int) : cellsL 1 csI L = L.map fun z => Value.int .i64 z := by
  induction L with
  | nil => rfl
  | cons a L ih =>
    have e : cellsL 1 csI (a :: L) = .int .i64 a :: cellsL 1 csI L := rfl
    rw [e, ih]
    rfl
theorem ownI {w : World} {base : Nat} {v : Value} {L : List Int} (h : w.ownsRow base 2 1 v L.length (L.map fun z => Value.int .i64 z)) : Own 1 csI w base v L := own_of rfl (by rw [cellsI]; exact h)

theorem rwI_of_trod {H : Type} {enc : TypeId × Value → H} {P : Program} {W : World} {sp : Nat → Bool} {hd : Bool} {t e : TypeId} {fuel : Nat} {cs : List Value} {x : DataW H × List MemPlace}
    (ht : P.underlying t = some (.slice e)) (he : P.underlying e = some (.int .i64)) (hc : P.cellsOf e = 1) (h : DataW.trod enc P W 0 sp hd fuel t cs = some x) :
    ∃ (tv : Value) (l : List Int), cs = [tv] ∧ l.length ≤ maxLen ∧ Rw 1 csI W tv l := by
  rcases Deep.open_slice1 ht hc h with ⟨h1, _⟩ | ⟨a, ln, c, m, n, V, D, Pl, h1, _, hl, hcm, hm, _, hx⟩
  · exact ⟨_, [], h1, by simp, none, 0, rfl, Nat.le_refl _, Or.inl rfl⟩
  · have hle : ln ≤ m := by rw [hm]; split <;> omega
    have hV : ∀ i, i < ln → ∃ z : Int, W.cell? (a.add i) = some (.int .i64 z) := fun i hi => by
      obtain ⟨k1, k2⟩ := hx i (by omega)
      obtain ⟨z, hz, _⟩ := DataW.trod_int he k2
      refine ⟨z, ?_⟩
      rw [k1]
      simpa using hz
    obtain ⟨q, hq⟩ := Deep.choose_lt hV
    refine ⟨_, (List.range ln).map q, h1, by simp; omega, some a, c, by simp, by simpa using hl, ?_⟩
    by_cases h0 : ln = 0
    · exact Or.inl (by simp [h0])
    · obtain ⟨b, off, spot⟩ := a
      have hs := hq 0 (by omega)
      have hspot : spot = none := by simpa [Addr.add] using World.cell?_spot hs
      subst hspot
      refine Or.inr ⟨b, off, rfl, World.block_lt_of_cell? W _ (by simpa [Addr.add_lit] using hs), fun i y hy k hk => ?_⟩
      obtain rfl : k = 0 := by omega
      have hi' : i < ln := by simpa using get_lt' hy
      have hy2 : y = q i := by
        rw [List.getElem?_map, List.getElem?_range hi'] at hy
        simpa using hy.symm
      subst hy2
      have := hq i hi'
      rw [Addr.add_lit] at this
      rw [Nat.mul_one, Nat.add_zero]
      exact this

theorem ints_of_read {H : Type} {enc : TypeId × Value → H} {W : World} {sp : Nat → Bool} {hd : Bool} {ao : Option Addr} {n cap : Nat} {d : DataW H} {p : List MemPlace}
    (h : DataW.Trod enc Try.prog W 0 sp hd 26 (.slice ao n cap) d p) : ∃ l : List Int, l.length = n ∧ n ≤ maxLen ∧ Rw 1 csI W (.slice ao n cap) l := by
  obtain ⟨fuel, hf⟩ := h
  obtain ⟨tv, l, h1, h2, h3⟩ := rwI_of_trod Try.underlying26 Try.underlying2 (by kernel_rfl) hf
  obtain rfl : Value.slice ao n cap = tv := by simpa [Value.cells] using h1
  obtain rfl := h3.len
  exact ⟨l, rfl, h2, h3⟩

def cvI (x : Int) (k : Nat) : Value := .int .i64 x

theorem veqints_any (v u : Value) (l : List Int) (w : World) (h : VRw 1 cvI w v l) (h' : VRw 1 cvI w u l) (hn : l.length ≤ 1048576) :
    Calls Try.prog 11 #[v, u] w fun e w' => e = .returned (.bool true) ∧ Below w.heap.size w w' := eqints_any v u l w h h' hn

theorem vmarkint_any (v : Value) (l : List Int) (base : Nat) (k0 : Int) (w : World) (h : VOwn 1 cvI w base v l) (hn : l.length ≤ 1048576) (hk0 : 0 ≤ k0) (hk1 : k0 ≤ 1000000000) :
    Calls Try.prog 14 #[v, .int .i64 k0] w fun e w' => e = .returned (.int .i64 (k0 + (l.length : Int))) ∧ Own 1 csM w' base v (marks 1 k0 l.length) ∧ Aside w w' v ∧ (l.length = 0 → w' = w) := by
  exact markint_any v l base k0 w h hn hk0 hk1

theorem vints_of_read {H : Type} {enc : TypeId × Value → H} {W : World} {sp : Nat → Bool} {hd : Bool} {ao : Option Addr} {n cap : Nat} {d : DataW H} {p : List MemPlace}
    (h : DataW.Trod enc Try.prog W 0 sp hd 26 (.slice ao n cap) d p) : ∃ l : List Int, l.length = n ∧ n ≤ maxLen ∧ VRw 1 cvI W (.slice ao n cap) l := ints_of_read h

theorem vownI {w : World} {base : Nat} {v : Value} {L : List Int} (h : w.ownsRow base 2 1 v L.length (L.map fun z => Value.int .i64 z)) : VOwn 1 cvI w base v L := ownI h
theorem vint_cell {w : World} {ao : Option Addr} {n cap : Nat} {l : List Int} {i : Nat} {x : Int} (h : VRw 1 cvI w (.slice ao n cap) l) (hk : l[i]? = some x) :
    ∃ g off, ao = some ⟨g, off, none⟩ ∧ g < w.heap.size ∧ w.cell? ⟨g, off + i, none⟩ = some (.int .i64 x) := int_cell (cs := csI) h hk
end Go.Proofs.Ytdjnnhdeijnhgab

/-
  Ticks as values.
-/
namespace Go.Proofs.Ytdjnnhdeijnhgab
open Go.RowKit Va
set_option linter.all false

structure Tk where
  v : Int
  k : Bool
  h : Bool
  deriving DecidableEq, Inhabited
def cvTk (x : Tk) (k : Nat) : Value := match k with | 0 => .int .i64 x.v | 1 => .bool x.k | _ => .bool x.h
def aTk (x : Tk) : Value := .agg #[.int .i64 x.v, .bool x.k, .bool x.h]
end Go.Proofs.Ytdjnnhdeijnhgab

/-
  Ticks that are right: plain; the specification and the program.
-/
namespace Go.Proofs.Ytdjnnhdeijnhgab
open Go.RowKit Va
set_option linter.all false

theorem ret_boolQ {a b : Bool} (h : a = b) : Ending.returned (.bool a) = Ending.returned (.bool b) := by rw [h]
def vB (x : Int) : Bool := decide (-100000 ≤ x) && decide (x ≤ 100000)
def tkB (t : Tk) : Bool := vB t.v && (t.k || decide (t.v = 0))
/-- The first i of them are right. -/
def TkTo (l : List Tk) (i : Nat) : Prop := ∀ j t, j < i → l[j]? = some t → tkB t = true
def TkOk (l : List Tk) : Prop := l.length ≤ 2000 ∧ TkTo l l.length
def tksB (l : List Tk) : Bool := decide (l.length ≤ 2000) && l.all tkB
theorem tksB_iff (l : List Tk) : tksB l = true ↔ TkOk l := by
  unfold tksB TkOk TkTo
  simp only [Bool.and_eq_true, decide_eq_true_eq, List.all_eq_true]
  refine and_congr_right fun _ => ⟨fun h j t _ ht => h t (List.mem_of_getElem? ht), fun h t ht => ?_⟩
  obtain ⟨j, hj, rfl⟩ := List.mem_iff_getElem.1 ht
  exact h j _ hj (List.getElem?_eq_getElem hj)
theorem tksB_big {l : List Tk} (h : ¬ l.length ≤ 2000) : tksB l = false := by
  unfold tksB
  simp [h]
theorem tksB_bad {l : List Tk} {i : Nat} {t : Tk} (ht : l[i]? = some t) (h : tkB t = false) : tksB l = false := by
  rw [Bool.eq_false_iff]
  intro q
  have := (tksB_iff l).1 q
  have h2 := this.2 i t (List.getElem?_eq_some_iff.1 ht).1 ht
  rw [h] at h2
  cases h2
theorem tksB_good {l : List Tk} (h1 : l.length ≤ 2000) (h : TkTo l l.length) : tksB l = true := (tksB_iff l).2 ⟨h1, h⟩
theorem TkTo.next {l : List Tk} {i : Nat} {t : Tk} (h : TkTo l i) (ht : l[i]? = some t) (hb : tkB t = true) : TkTo l (i + 1) := by
  intro j u hj hu
  by_cases e : j = i
  · subst e
    obtain rfl : t = u := Option.some.inj (ht.symm.trans hu)
    exact hb
  · exact h j u (by omega) hu
def keepB (t : Tk) : Bool := t.k || t.h
def quiet (l : List Tk) : List Tk := if tksB l then l.filter keepB else []

set_option maxHeartbeats 400000 in
theorem qin_any (x : Int) (w : World) : Calls Try.prog 33 #[.int .i64 x, .int .i64 (-100000), .int .i64 100000] w fun e w' => e = .returned (.bool (vB x)) ∧ w' = w := by
  unfold vB
  go_enter Try.func33, Try.ntmps33
  go_wp2
  all_goals (go_ret; exact ⟨ret_boolQ (by first | (simp; done) | (simp; omega) | (simp_all; done) | (simp_all; omega) | (rw [Bool.eq_iff_iff]; simp; omega) | (rw [Bool.eq_iff_iff]; simp_all; omega)), rfl⟩)

set_option maxHeartbeats 400000 in
theorem qvalue_any (x : Int) (w : World) : Calls Try.prog 34 #[.int .i64 x] w fun e w' => e = .returned (.bool (vB x)) ∧ w' = w := by
  unfold vB
  go_enter Try.func34, Try.ntmps34
  go_wp2
  all_goals (go_ret; exact ⟨ret_boolQ (by first | (simp; done) | (simp; omega) | (simp_all; done) | (simp_all; omega) | (rw [Bool.eq_iff_iff]; simp; omega) | (rw [Bool.eq_iff_iff]; simp_all; omega)), rfl⟩)

set_option maxRecDepth 20000 in
set_option maxHeartbeats 2000000 in
theorem qright_any (x : Tk) (w : World) : Calls Try.prog 35 #[aTk x] w fun e w' => e = .returned (.bool (tkB x)) ∧ Below w.heap.size w w' := by
  obtain ⟨v, k, hh⟩ := x
  unfold aTk
  have k1 := qvalue_any v
  have HV : Hid (tkB ⟨v, k, hh⟩ = (vB v && (k || decide (v = 0)))) := rfl
  have HZ : Hid (v = 0 → vB v = true) := fun e => by rw [e]; rfl
  generalize tkB ⟨v, k, hh⟩ = R at *
  generalize vB v = a at *
  have bx : Below w.heap.size w (w.alloc (.cells #[.int .i64 v, .bool k, .bool hh] 42)) := (Below.refl _ _).alloc (Nat.le_refl _) _
  by_cases hv : v = 0
  · subst hv
    have ha := HZ.out rfl
    subst ha
    cases k <;>
    · go_enter Try.func35, Try.ntmps35
      go_wp2_with (with_reducible refine (k1 _).mono ?_; rintro e w1 ⟨rfl, hw1⟩; obtain rfl := hw1)
      go_ret
      exact ⟨by rw [HV.out]; rfl, bx⟩
  · have hv2 : (v == 0) = false := by simpa using hv
    cases k <;> cases a <;>
    · go_enter Try.func35, Try.ntmps35
      go_wp2_with (with_reducible refine (k1 _).mono ?_; rintro e w1 ⟨rfl, hw1⟩; obtain rfl := hw1)
      go_ret
      exact ⟨by rw [HV.out]; simp [hv], bx⟩
end Go.Proofs.Ytdjnnhdeijnhgab

/-
  A row of ticks that are right: the specification's look at them.
-/
namespace Go.Proofs.Ytdjnnhdeijnhgab
open Go.RowKit Va
set_option linter.all false

set_option maxRecDepth 20000 in
set_option maxHeartbeats 8000000 in
theorem sticks_any (v : Value) (l : List Tk) (w : World) (h : VRw 3 cvTk w v l) (hn : l.length ≤ 1048576) :
    Calls Try.prog 22 #[v] w fun e w' => e = .returned (.bool (tksB l)) ∧ Below w.heap.size w w' := by
  have HR := hidden h
  obtain ⟨ao, cap, rfl⟩ := h.form
  clear h
  by_cases g1 : (2000 : Int) < (l.length : Int)
  · have HY : Hid (tksB l = false) := tksB_big (by omega)
    go_enter Try.func22, Try.ntmps22
    go_wp2_with fail
    go_ret
    exact ⟨ret_boolQ HY.out.symm, Below.refl _ _⟩
  go_enter Try.func22, Try.ntmps22
  go_wp2_with fail
  go_loopw [3, 4] (fun iv _ wr => ∃ i : Nat, i ≤ l.length ∧ iv = .int .i64 i ∧ Hid (TkTo l i) ∧ Below w.heap.size w wr) (fun iv _ _ => l.length - (intOf iv).toNat)
  case atStart => exact ⟨0, Nat.zero_le _, rfl, (fun j r hj => absurd hj (by omega)), Below.refl _ _⟩
  case round =>
    obtain ⟨i, hi, rfl, hok, hb⟩ := hrel
    by_cases hlt : i < l.length
    · have hlti : (i : Int) < (l.length : Int) := by omega
      have hi0 : (0 : Int) ≤ (i : Int) := by omega
      obtain ⟨x, hx⟩ := some_of l i hlt
      obtain ⟨g, off, rfl, hg, hcs⟩ := (HR.out.below hb).at hx
      have c0 : wr.cell? ⟨g, off + i * 3, none⟩ = some (.int .i64 x.v) := hcs 0 (by omega)
      have c1 : wr.cell? ⟨g, off + i * 3 + 1, none⟩ = some (.bool x.k) := hcs 1 (by omega)
      have c2 : wr.cell? ⟨g, off + i * 3 + 2, none⟩ = some (.bool x.h) := hcs 2 (by omega)
      have HX := hidden hx
      have bx : Below w.heap.size w (wr.alloc (.cells #[.int .i64 x.v, .bool x.k, .bool x.h] 42)) := hb.trans ((Below.refl wr.heap.size wr).alloc (Nat.le_refl _) _ |>.mono hb.size)
      clear hx hcs
      obtain ⟨xv, xk, xh⟩ := x
      dsimp only at c0 c1 c2 bx
      have kR := qin_any xv
      have HB : Hid (tkB ⟨xv, xk, xh⟩ = (vB xv && (xk || decide (xv = 0)))) := rfl
      have HZ : Hid (xv = 0 → vB xv = true) := fun e => by rw [e]; rfl
      generalize vB xv = a at *
      by_cases hv : xv = 0
      · subst hv
        obtain rfl := HZ.out rfl
        cases xk <;>
        · go_wp2_with (go_at_call 33; refine (kR _).mono ?_; rintro e w2 ⟨rfl, hw2⟩; obtain rfl := hw2)
          go_roundw
          case rel => exact ⟨i + 1, by omega, rfl, hok.out.next HX.out (by rw [HB.out]; rfl), bx⟩
          case measure => simp [intOf]; omega
      · have hv2 : (xv != 0) = true := by simpa using hv
        cases a with
        | false =>
          go_wp2_with (go_at_call 33; refine (kR _).mono ?_; rintro e w2 ⟨rfl, hw2⟩; obtain rfl := hw2)
          go_ret
          exact ⟨ret_boolQ (tksB_bad HX.out (by rw [HB.out]; rfl)).symm, bx⟩
        | true =>
          cases xk with
          | false =>
            go_wp2_with (go_at_call 33; refine (kR _).mono ?_; rintro e w2 ⟨rfl, hw2⟩; obtain rfl := hw2)
            go_ret
            exact ⟨ret_boolQ (tksB_bad HX.out (by rw [HB.out]; simp [hv])).symm, bx⟩
          | true =>
            go_wp2_with (go_at_call 33; refine (kR _).mono ?_; rintro e w2 ⟨rfl, hw2⟩; obtain rfl := hw2)
            go_roundw
            case rel => exact ⟨i + 1, by omega, rfl, hok.out.next HX.out (by rw [HB.out]; rfl), bx⟩
            case measure => simp [intOf]; omega
    · have hlti : ¬ (i : Int) < (l.length : Int) := by omega
      have hil : i = l.length := by omega
      subst hil
      go_wp2_with fail
      go_ret
      exact ⟨ret_boolQ (tksB_good (by omega) hok.out).symm, hb⟩
end Go.Proofs.Ytdjnnhdeijnhgab

/-
  Quiet: the specification's.
-/
namespace Go.Proofs.Ytdjnnhdeijnhgab
open Go.RowKit Va
set_option linter.all false

theorem cell_threeQ (w : World) (a b c : Value) (t : TypeId) : ∀ (j : Nat) (u : Value), [a, b, c][j]? = some u → (w.alloc (.cells #[a, b, c] t)).cell? ((⟨w.heap.size, 0, none⟩ : Addr).add j) = some u := fun j u hu => by
  have e0 : (w.alloc (Obj.cells #[a, b, c] t)).heap[w.heap.size]? = some (Obj.cells #[a, b, c] t) := heap_alloc_new w _
  rw [Addr.add_lit, Nat.zero_add]
  simp only [World.cell?, e0]
  simpa using hu
theorem infoTickQ : (Try.prog.info? 42).map (fun i => (i.zero, i.size, i.bytes)) = some (some (.agg #[.int .i64 0, .bool false, .bool false]), 3, 16) := by kernel_rfl
theorem filter_next {l : List Tk} {i : Nat} {x : Tk} (hx : l[i]? = some x) : (l.take (i + 1)).filter keepB = (l.take i).filter keepB ++ if keepB x then [x] else [] := by
  rw [List.take_add_one, hx, List.filter_append]
  simp [List.filter_cons]
theorem filter_len (l : List Tk) (i : Nat) : ((l.take i).filter keepB).length ≤ i := Nat.le_trans (List.length_filter_le _ _) (by simp [Nat.min_le_left])

set_option maxRecDepth 20000 in
set_option maxHeartbeats 8000000 in
theorem squiet_any (v : Value) (l : List Tk) (w : World) (h : VRw 3 cvTk w v l) (hn : l.length ≤ 1048576) :
    Calls Try.prog 18 #[v] w fun e w' => ∃ v', e = .returned v' ∧ VOwn 3 cvTk w' w.heap.size v' (quiet l) ∧ Below w.heap.size w w' := by
  have HR := hidden h
  obtain ⟨ao, cap, rfl⟩ := h.form
  obtain ⟨i0, hi0, hy0, hy1, hy2⟩ := info_parts infoTickQ
  have HOA := hidden (ownW_new w 42 3)
  have HBA : Hid (Below w.heap.size w (w.alloc (.cells #[] 42))) := (Below.refl _ _).alloc (Nat.le_refl _) _
  have hK := sticks_any _ l _ (HR.out.below HBA.out) hn
  have HV : Hid (quiet l = if tksB l then l.filter keepB else []) := rfl
  clear h
  cases hB : tksB l with
  | false =>
    rw [hB] at hK
    have HV2 : Hid (quiet l = []) := by rw [Hid, HV.out, hB]; rfl
    clear HV
    go_enter Try.func18, Try.ntmps18
    go_wp2_with (go_at_call 22; refine hK.mono ?_; rintro e w1 ⟨rfl, hb1⟩)
    go_ret
    exact ⟨_, rfl, by rw [HV2.out]; exact VOwn.nil _ _ _ _, onto HBA.out hb1⟩
  | true =>
    rw [hB] at hK
    have HV2 : Hid (quiet l = (l.take l.length).filter keepB) := by rw [Hid, HV.out, hB, List.take_length]; rfl
    have hl2 : l.length ≤ 2000 := ((tksB_iff l).1 hB).1
    clear HV
    go_enter Try.func18, Try.ntmps18
    go_wp2_with (go_at_call 22; refine hK.mono ?_; rintro e w1 ⟨rfl, hb1⟩)
    have HO1 := hidden (ownW_below HOA.out hb1)
    have HB1 := hidden (onto HBA.out hb1)
    clear hK hb1 HOA HBA
    go_loopw [3, 4] (fun ov iv wr => ∃ (i : Nat) (L : List Tk), i ≤ l.length ∧ iv = .int .i64 i ∧ Hid ((l.take i).filter keepB = L) ∧ (∃ ad c, ov = .slice ad L.length c ∧ wr.ownsRow w.heap.size 42 3 (.slice ad L.length c) L.length (vcellsL 3 cvTk L)) ∧ Below w.heap.size w wr) (fun _ iv _ => l.length - (intOf iv).toNat)
    case atStart => exact ⟨0, [], Nat.zero_le _, rfl, rfl, ⟨_, _, rfl, HO1.out⟩, HB1.out⟩
    case round =>
      clear HO1 HB1
      obtain ⟨i, L, hi, rfl, HL, ⟨ad, c, rfl, ho⟩, hb⟩ := hrel
      have hsz := hb.size
      have hLn : L.length ≤ 2000 := by rw [← HL.out]; exact Nat.le_trans (filter_len l i) (by omega)
      have HO := hidden ho
      by_cases hlt : i < l.length
      · have hlti : (i : Int) < (l.length : Int) := by omega
        have hi0' : (0 : Int) ≤ (i : Int) := by omega
        obtain ⟨x, hx⟩ := some_of l i hlt
        obtain ⟨g, off, rfl, hg, hcs⟩ := (HR.out.below hb).at hx
        have c0 : wr.cell? ⟨g, off + i * 3, none⟩ = some (.int .i64 x.v) := hcs 0 (by omega)
        have c1 : wr.cell? ⟨g, off + i * 3 + 1, none⟩ = some (.bool x.k) := hcs 1 (by omega)
        have c2 : wr.cell? ⟨g, off + i * 3 + 2, none⟩ = some (.bool x.h) := hcs 2 (by omega)
        have HF := hidden (filter_next hx)
        have HKP : Hid (keepB x = (x.k || x.h)) := rfl
        obtain ⟨xv, xk, xh⟩ := x
        dsimp only at c0 c1 c2
        clear ho hx hcs
        cases xk <;> cases xh
        · go_wp2_with fail
          go_roundw
          case rel => exact ⟨i + 1, L, by omega, rfl, by rw [Hid, HF.out, HL.out, HKP.out]; simp, ⟨_, _, rfl, HO.out⟩, hb⟩
          case measure => simp [intOf]; omega
        · go_wp2_with (at_builtin; refine wpList_append_own _ rfl (.tmp 28) (.tmp 33) 30 rfl w.heap.size 42 i0 (.agg #[.int .i64 0, .bool false, .bool false]) 3 16 Try.underlying30 hi0 hy0 hy1 hy2 rfl (by decide) _ L.length (vcellsL 3 cvTk L) rfl (HO.out.alloc _) ⟨wr.heap.size, 0, none⟩ 1 1 [.int .i64 xv, .bool false, .bool true] rfl rfl (cell_threeQ _ _ _ _ _) (by simp [Value.oneCell']) (by unfold maxLen; omega) (by omega) (by simp; omega) ?_; intro v5 w5 ho5 hg5 hn5; obtain ⟨ad5, c5, rfl⟩ := ownW_slice ho5)
          have hb5 : Below w.heap.size w w5 := (hb.alloc hsz _).grown hg5 (by simp; omega) (fun k hk => (HO.out.lt k hk).1)
          have ho6 : w5.ownsRow w.heap.size 42 3 (.slice ad5 (L ++ [(⟨xv, false, true⟩ : Tk)]).length c5) (L ++ [(⟨xv, false, true⟩ : Tk)]).length (vcellsL 3 cvTk (L ++ [(⟨xv, false, true⟩ : Tk)])) := by
            rw [List.length_append, vcellsL_app]
            exact ho5
          have HN : Hid ((l.take (i + 1)).filter keepB = L ++ [⟨xv, false, true⟩]) := by rw [Hid, HF.out, HL.out, HKP.out]; rfl
          go_roundw
          case rel => exact ⟨i + 1, _, by omega, rfl, HN, ⟨_, _, by rw [List.length_append]; rfl, ho6⟩, hb5⟩
          case measure => simp [intOf]; omega
        · go_wp2_with (at_builtin; refine wpList_append_own _ rfl (.tmp 28) (.tmp 33) 30 rfl w.heap.size 42 i0 (.agg #[.int .i64 0, .bool false, .bool false]) 3 16 Try.underlying30 hi0 hy0 hy1 hy2 rfl (by decide) _ L.length (vcellsL 3 cvTk L) rfl (HO.out.alloc _) ⟨wr.heap.size, 0, none⟩ 1 1 [.int .i64 xv, .bool true, .bool false] rfl rfl (cell_threeQ _ _ _ _ _) (by simp [Value.oneCell']) (by unfold maxLen; omega) (by omega) (by simp; omega) ?_; intro v5 w5 ho5 hg5 hn5; obtain ⟨ad5, c5, rfl⟩ := ownW_slice ho5)
          have hb5 : Below w.heap.size w w5 := (hb.alloc hsz _).grown hg5 (by simp; omega) (fun k hk => (HO.out.lt k hk).1)
          have ho6 : w5.ownsRow w.heap.size 42 3 (.slice ad5 (L ++ [(⟨xv, true, false⟩ : Tk)]).length c5) (L ++ [(⟨xv, true, false⟩ : Tk)]).length (vcellsL 3 cvTk (L ++ [(⟨xv, true, false⟩ : Tk)])) := by
            rw [List.length_append, vcellsL_app]
            exact ho5
          have HN : Hid ((l.take (i + 1)).filter keepB = L ++ [⟨xv, true, false⟩]) := by rw [Hid, HF.out, HL.out, HKP.out]; rfl
          go_roundw
          case rel => exact ⟨i + 1, _, by omega, rfl, HN, ⟨_, _, by rw [List.length_append]; rfl, ho6⟩, hb5⟩
          case measure => simp [intOf]; omega
        · go_wp2_with (at_builtin; refine wpList_append_own _ rfl (.tmp 28) (.tmp 33) 30 rfl w.heap.size 42 i0 (.agg #[.int .i64 0, .bool false, .bool false]) 3 16 Try.underlying30 hi0 hy0 hy1 hy2 rfl (by decide) _ L.length (vcellsL 3 cvTk L) rfl (HO.out.alloc _) ⟨wr.heap.size, 0, none⟩ 1 1 [.int .i64 xv, .bool true, .bool true] rfl rfl (cell_threeQ _ _ _ _ _) (by simp [Value.oneCell']) (by unfold maxLen; omega) (by omega) (by simp; omega) ?_; intro v5 w5 ho5 hg5 hn5; obtain ⟨ad5, c5, rfl⟩ := ownW_slice ho5)
          have hb5 : Below w.heap.size w w5 := (hb.alloc hsz _).grown hg5 (by simp; omega) (fun k hk => (HO.out.lt k hk).1)
          have ho6 : w5.ownsRow w.heap.size 42 3 (.slice ad5 (L ++ [(⟨xv, true, true⟩ : Tk)]).length c5) (L ++ [(⟨xv, true, true⟩ : Tk)]).length (vcellsL 3 cvTk (L ++ [(⟨xv, true, true⟩ : Tk)])) := by
            rw [List.length_append, vcellsL_app]
            exact ho5
          have HN : Hid ((l.take (i + 1)).filter keepB = L ++ [⟨xv, true, true⟩]) := by rw [Hid, HF.out, HL.out, HKP.out]; rfl
          go_roundw
          case rel => exact ⟨i + 1, _, by omega, rfl, HN, ⟨_, _, by rw [List.length_append]; rfl, ho6⟩, hb5⟩
          case measure => simp [intOf]; omega
      · have hlti : ¬ (i : Int) < (l.length : Int) := by omega
        have hil : i = l.length := by omega
        subst hil
        go_wp2_with fail
        go_ret
        exact ⟨_, rfl, by rw [HV2.out, HL.out]; exact vown_of rfl HO.out, hb⟩
end Go.Proofs.Ytdjnnhdeijnhgab
