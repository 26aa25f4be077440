/-
  Plain facts on alarms and on those who are called; no Go in sight.
-/
import Derived.Test.YtdjnnhdeijnhgabMw1
import Derived.Test.YtdjnnhdeijnhgabMw3
import Derived.Deep.RegionWith
namespace Go.Proofs.Ytdjnnhdeijnhgab.Va

structure Al where
  hi : Int
  lo : Int
  sl : Int
  dl : Int

/-- As the specification asks. -/
def alOk (a : Al) : Bool := rng a.hi (-100000) 100000 && (rng a.lo (-100000) 100000 && (decide (a.lo < a.hi) && (rng a.sl 0 ((a.hi - a.lo) / 2) && rng a.dl 0 100)))
theorem alOk_iff {a : Al} : alOk a = true ↔ (-100000 ≤ a.hi ∧ a.hi ≤ 100000) ∧ (-100000 ≤ a.lo ∧ a.lo ≤ 100000) ∧ a.lo < a.hi ∧ (0 ≤ a.sl ∧ a.sl ≤ (a.hi - a.lo) / 2) ∧ (0 ≤ a.dl ∧ a.dl ≤ 100) := by simp [alOk, rng]

/-- How many are called: one, and one more for each whose minute has come. -/
def lad : List Int → Int → Int → Int → Int
  | [], _, _, n => n
  | x :: l, t, h, n => lad l (t + x) h (if t + x ≤ h then n + 1 else n)
theorem lad_snoc (l : List Int) : ∀ (x t h n : Int), lad (l ++ [x]) t h n = if t + l.sum + x ≤ h then lad l t h n + 1 else lad l t h n := by
  induction l with
  | nil => intro x t h n; simp [lad]
  | cons y l ih =>
    intro x t h n
    rw [List.cons_append, lad, ih, lad, List.sum_cons, ← Int.add_assoc t y]
def wtB (x : Int) : Bool := rng x 1 1000
theorem wtB_iff {x : Int} : wtB x = true ↔ 1 ≤ x ∧ x ≤ 1000 := rng_iff
def wtsOk (l : List Int) : Bool := decide (l.length ≤ 20) && l.all wtB
theorem wtsOk_iff {l : List Int} : wtsOk l = true ↔ l.length ≤ 20 ∧ ∀ x ∈ l, wtB x = true := by simp [wtsOk]
def ladder (l : List Int) (h : Int) : Int := if wtsOk l && decide (0 ≤ h) then lad l 0 h 1 else 0
/-- The minutes stay small. -/
theorem sum_bd (l : List Int) (h : ∀ x ∈ l, 1 ≤ x ∧ x ≤ 1000) : 0 ≤ l.sum ∧ l.sum ≤ 1000 * (l.length : Int) := by
  induction l with
  | nil => simp
  | cons a l ih =>
    have i := ih fun x hx => h x (List.mem_cons_of_mem _ hx)
    have q := h a List.mem_cons_self
    rw [List.sum_cons, List.length_cons]
    omega
theorem lad_bd (l : List Int) : ∀ (t h n : Int), n ≤ lad l t h n ∧ lad l t h n ≤ n + (l.length : Int) := by
  induction l with
  | nil => intro t h n; simp [lad]
  | cons a l ih =>
    intro t h n
    rw [lad, List.length_cons]
    by_cases c : t + a ≤ h
    · rw [if_pos c]; have i := ih (t + a) h (n + 1); omega
    · rw [if_neg c]; have i := ih (t + a) h n; omega
/-- All are called in the end. -/
theorem lad_all (l : List Int) : ∀ (t h n : Int), (∀ x ∈ l, 1 ≤ x) → t + l.sum ≤ h → lad l t h n = n + (l.length : Int) := by
  induction l with
  | nil => intro t h n _ _; simp [lad]
  | cons a l ih =>
    intro t h n hx hs
    have q := hx a List.mem_cons_self
    have hl : ∀ x ∈ l, 1 ≤ x := fun x h => hx x (List.mem_cons_of_mem _ h)
    have hp : 0 ≤ l.sum := by
      clear ih hs hx
      induction l with
      | nil => simp
      | cons b l ih2 =>
        have a1 := hl b List.mem_cons_self
        have a2 := ih2 fun x h => hl x (List.mem_cons_of_mem _ h)
        rw [List.sum_cons]; omega
    rw [List.sum_cons] at hs
    rw [lad, ih (t + a) h _ hl (by omega), if_pos (by omega), List.length_cons]
    omega
/-- A minute more calls one more at most, and no fewer. -/
theorem lad_none (l : List Int) : ∀ (t h n : Int), (∀ x ∈ l, 1 ≤ x) → h ≤ t → lad l t h n = n := by
  induction l with
  | nil => intro t h n _ _; rfl
  | cons a l ih =>
    intro t h n hx ht
    have q := hx a List.mem_cons_self
    rw [lad, if_neg (by omega), ih _ _ _ (fun x h => hx x (List.mem_cons_of_mem _ h)) (by omega)]
theorem lad_next (l : List Int) : ∀ (t h n : Int), (∀ x ∈ l, 1 ≤ x) → lad l t h n ≤ lad l t (h + 1) n ∧ lad l t (h + 1) n ≤ lad l t h n + 1 := by
  induction l with
  | nil => intro t h n _; simp [lad]; omega
  | cons a l ih =>
    intro t h n hx
    have hl : ∀ x ∈ l, 1 ≤ x := fun x h => hx x (List.mem_cons_of_mem _ h)
    rw [lad, lad]
    by_cases c : t + a ≤ h
    · rw [if_pos c, if_pos (by omega)]; exact ih _ _ _ hl
    · rw [if_neg c]
      by_cases d : t + a ≤ h + 1
      · rw [if_pos d, lad_none l _ _ _ hl (by omega), lad_none l _ _ _ hl (by omega)]; omega
      · rw [if_neg d]; exact ih _ _ _ hl
end Go.Proofs.Ytdjnnhdeijnhgab.Va

/-
  Watch: plain.
-/
namespace Go.Proofs.Ytdjnnhdeijnhgab
open Go.RowKit Va
set_option linter.all false

/-- How things are behind a tick. -/
structure Nw where
  s : Int
  c : Int
  b : Bool
  g : Bool
  deriving DecidableEq
def sideF (a : Al) (s v : Int) : Int := if s = 1 ∧ a.hi - a.sl < v then 1 else if s = -1 ∧ v < a.lo + a.sl then -1 else if a.hi < v then 1 else if v < a.lo then -1 else 0
def behind (a : Al) (n : Nw) (t : Tk) : Nw :=
  if t.k then
    if sideF a n.s t.v = 0 then ⟨0, if sideF a n.s t.v = n.s then n.c else 0, n.b && !t.h, false⟩
    else if (if sideF a n.s t.v = n.s then n.c else 0) + 1 = a.dl + 1 then ⟨sideF a n.s t.v, (if sideF a n.s t.v = n.s then n.c else 0) + 1, true, !(n.b && !t.h)⟩
    else ⟨sideF a n.s t.v, (if sideF a n.s t.v = n.s then n.c else 0) + 1, n.b && !t.h, false⟩
  else ⟨n.s, n.c, n.b && !t.h, false⟩
def toldN (n : Nw) : Int := if n.b then n.s + 10 else n.s
def stK (a : Al) (l : List Tk) : Nat → Nw
  | 0 => ⟨0, 0, false, false⟩
  | k + 1 => behind a (stK a l k) (l.getD k default)
def toldK (a : Al) (l : List Tk) (k : Nat) : List Int := (List.range k).map fun i => toldN (stK a l (i + 1))
def watch (a : Al) (l : List Tk) : List Int := if alOk a && tksB l then toldK a l l.length else []
theorem sideF_bd (a : Al) (s v : Int) : sideF a s v = 1 ∨ sideF a s v = -1 ∨ sideF a s v = 0 := by
  unfold sideF
  repeat' split
  all_goals simp
theorem behind_bd {a : Al} {n : Nw} {t : Tk} {k : Int} (h : (n.s = 1 ∨ n.s = -1 ∨ n.s = 0) ∧ 0 ≤ n.c ∧ n.c ≤ k) : ((behind a n t).s = 1 ∨ (behind a n t).s = -1 ∨ (behind a n t).s = 0) ∧ 0 ≤ (behind a n t).c ∧ (behind a n t).c ≤ k + 1 := by
  have hs := sideF_bd a n.s t.v
  unfold behind
  generalize sideF a n.s t.v = s at *
  repeat' split
  all_goals (refine ⟨?_, ?_, ?_⟩ <;> dsimp only)
  all_goals first
    | omega
    | exact h.1
    | exact hs
    | exact .inr (.inr rfl)
theorem stK_bd (a : Al) (l : List Tk) : ∀ k : Nat, ((stK a l k).s = 1 ∨ (stK a l k).s = -1 ∨ (stK a l k).s = 0) ∧ 0 ≤ (stK a l k).c ∧ (stK a l k).c ≤ k := by
  intro k
  induction k with
  | zero => exact ⟨.inr (.inr rfl), Int.le_refl _, Int.le_refl _⟩
  | succ k ih =>
    have := behind_bd (a := a) (t := l.getD k default) ih
    exact ⟨this.1, this.2.1, by have := this.2.2; push_cast; exact this⟩
theorem toldK_succ (a : Al) (l : List Tk) (k : Nat) : toldK a l (k + 1) = toldK a l k ++ [toldN (stK a l (k + 1))] := by
  unfold toldK
  rw [List.range_succ, List.map_append]
  rfl
theorem toldK_len (a : Al) (l : List Tk) (k : Nat) : (toldK a l k).length = k := by unfold toldK; simp
theorem stK_next {a : Al} {l : List Tk} {k : Nat} {x : Tk} (hx : l[k]? = some x) : stK a l (k + 1) = behind a (stK a l k) x := by
  show behind a (stK a l k) (l.getD k default) = _
  rw [List.getD_eq_getElem?_getD, hx]
  rfl
end Go.Proofs.Ytdjnnhdeijnhgab

/-
  AlarmOk: the specification's and the program's.
-/
namespace Go.Proofs.Ytdjnnhdeijnhgab
open Go.RowKit Va
set_option linter.unusedVariables false

def aA (a : Al) : Value := .agg #[.int .i64 a.hi, .int .i64 a.lo, .int .i64 a.sl, .int .i64 a.dl]

set_option maxHeartbeats 400000 in
theorem ival_any (n : Int) (w : World) : Calls Try.prog 34 #[.int .i64 n] w fun e w' => e = .returned (.bool (rng n (-100000) 100000)) ∧ w = w' := by
  unfold rng
  go_enter Try.func34, Try.ntmps34
  go_wp2
  all_goals (go_ret; exact ⟨ret_bool (by first | (simp; done) | (simp; omega) | (simp_all; done) | (simp_all; omega) | (rw [Bool.eq_iff_iff]; simp; omega) | (rw [Bool.eq_iff_iff]; simp_all; omega)), rfl⟩)

set_option maxHeartbeats 4000000 in
theorem saok_any (a : Al) (w : World) : Calls Try.prog 21 #[aA a] w fun e w' => e = .returned (.bool (alOk a)) ∧ Below w.heap.size w w' := by
  have h1 := lin_any a.hi (-100000) 100000
  have h2 := lin_any a.lo (-100000) 100000
  have h4 := lin_any a.sl 0 ((a.hi - a.lo) / 2)
  have h5 := lin_any a.dl 0 100
  obtain ⟨hi, lo, sl, dl⟩ := a
  unfold alOk aA
  simp only at *
  have hb0 : Below w.heap.size w (w.alloc (.cells #[.int .i64 hi, .int .i64 lo, .int .i64 sl, .int .i64 dl] 28)) := (Below.refl _ _).alloc (Nat.le_refl _) _
  by_cases c1 : rng hi (-100000) 100000 = true
  · by_cases c2 : rng lo (-100000) 100000 = true
    · by_cases c3 : lo < hi
      · have k1 := rng_iff.1 c1
        have k2 := rng_iff.1 c2
        have q0 : Int.tdiv (hi - lo) 2 = (hi - lo) / 2 := Int.tdiv_eq_ediv_of_nonneg (by omega)
        rw [c1] at h1
        rw [c2] at h2
        generalize rng sl 0 ((hi - lo) / 2) = t4 at *
        generalize rng dl 0 100 = t5 at *
        rw [c1, c2]
        rcases t4 with _ | _
        · go_enter Try.func21, Try.ntmps21
          go_wp2_with (go_at_call 33; (with_reducible (first | refine (h1 _).mono ?_ | refine (h2 _).mono ?_ | refine (h4 _).mono ?_ | refine (h5 _).mono ?_)); rintro e w1 ⟨rfl, rfl⟩)
          all_goals go_ret
          all_goals exact ⟨ret_bool (by first | (simp; done) | (simp; omega) | (simp_all; done) | (simp_all; omega) | (rw [Bool.eq_iff_iff]; simp; omega) | (rw [Bool.eq_iff_iff]; simp_all; omega)), by repeat (first | exact Below.refl _ _ | assumption | refine st_drew ?_ | refine st_drewN ?_ _ | refine Below.setCell ?_ (by first | omega | (simp; done) | (simp; omega)) _ | refine Below.alloc ?_ (by first | omega | (simp; done) | (simp; omega)) _)⟩
        · go_enter Try.func21, Try.ntmps21
          go_wp2_with (go_at_call 33; (with_reducible (first | refine (h1 _).mono ?_ | refine (h2 _).mono ?_ | refine (h4 _).mono ?_ | refine (h5 _).mono ?_)); rintro e w1 ⟨rfl, rfl⟩)
          all_goals go_ret
          all_goals exact ⟨ret_bool (by first | (simp; done) | (simp; omega) | (simp_all; done) | (simp_all; omega) | (rw [Bool.eq_iff_iff]; simp; omega) | (rw [Bool.eq_iff_iff]; simp_all; omega)), by repeat (first | exact Below.refl _ _ | assumption | refine st_drew ?_ | refine st_drewN ?_ _ | refine Below.setCell ?_ (by first | omega | (simp; done) | (simp; omega)) _ | refine Below.alloc ?_ (by first | omega | (simp; done) | (simp; omega)) _)⟩
      · rw [c1] at h1
        rw [c2] at h2
        rw [c1, c2]
        go_enter Try.func21, Try.ntmps21
        go_wp2_with (go_at_call 33; (with_reducible (first | refine (h1 _).mono ?_ | refine (h2 _).mono ?_)); rintro e w1 ⟨rfl, rfl⟩)
        all_goals go_ret
        all_goals exact ⟨ret_bool (by first | (simp; done) | (simp; omega) | (simp_all; done) | (simp_all; omega) | (rw [Bool.eq_iff_iff]; simp; omega) | (rw [Bool.eq_iff_iff]; simp_all; omega)), by repeat (first | exact Below.refl _ _ | assumption | refine st_drew ?_ | refine st_drewN ?_ _ | refine Below.setCell ?_ (by first | omega | (simp; done) | (simp; omega)) _ | refine Below.alloc ?_ (by first | omega | (simp; done) | (simp; omega)) _)⟩
    · have c2' : rng lo (-100000) 100000 = false := by simpa using c2
      rw [c1] at h1
      rw [c2'] at h2
      rw [c1, c2']
      go_enter Try.func21, Try.ntmps21
      go_wp2_with (go_at_call 33; (with_reducible (first | refine (h1 _).mono ?_ | refine (h2 _).mono ?_)); rintro e w1 ⟨rfl, rfl⟩)
      all_goals go_ret
      all_goals exact ⟨ret_bool (by first | (simp; done) | (simp; omega) | (simp_all; done) | (simp_all; omega) | (rw [Bool.eq_iff_iff]; simp; omega) | (rw [Bool.eq_iff_iff]; simp_all; omega)), by repeat (first | exact Below.refl _ _ | assumption | refine st_drew ?_ | refine st_drewN ?_ _ | refine Below.setCell ?_ (by first | omega | (simp; done) | (simp; omega)) _ | refine Below.alloc ?_ (by first | omega | (simp; done) | (simp; omega)) _)⟩
  · have c1' : rng hi (-100000) 100000 = false := by simpa using c1
    rw [c1'] at h1
    rw [c1']
    go_enter Try.func21, Try.ntmps21
    go_wp2_with (go_at_call 33; (with_reducible (first | refine (h1 _).mono ?_ | refine (h2 _).mono ?_)); rintro e w1 ⟨rfl, rfl⟩)
    all_goals go_ret
    all_goals exact ⟨ret_bool (by first | (simp; done) | (simp; omega) | (simp_all; done) | (simp_all; omega) | (rw [Bool.eq_iff_iff]; simp; omega) | (rw [Bool.eq_iff_iff]; simp_all; omega)), by repeat (first | exact Below.refl _ _ | assumption | refine st_drew ?_ | refine st_drewN ?_ _ | refine Below.setCell ?_ (by first | omega | (simp; done) | (simp; omega)) _ | refine Below.alloc ?_ (by first | omega | (simp; done) | (simp; omega)) _)⟩

set_option maxHeartbeats 4000000 in
theorem iaok_any (a : Al) (w : World) : Calls Try.prog 24 #[aA a] w fun e w' => e = .returned (.bool (alOk a)) ∧ Below w.heap.size w w' := by
  have h1 := ival_any a.hi
  have h2 := ival_any a.lo
  obtain ⟨hi, lo, sl, dl⟩ := a
  unfold alOk aA
  simp only at *
  have hb0 : Below w.heap.size w (w.alloc (.cells #[.int .i64 hi, .int .i64 lo, .int .i64 sl, .int .i64 dl] 28)) := (Below.refl _ _).alloc (Nat.le_refl _) _
  by_cases c1 : rng hi (-100000) 100000 = true
  · by_cases c2 : rng lo (-100000) 100000 = true
    · by_cases c3 : lo < hi
      · have k1 := rng_iff.1 c1
        have k2 := rng_iff.1 c2
        have q0 : Int.tdiv (hi - lo) 2 = (hi - lo) / 2 := Int.tdiv_eq_ediv_of_nonneg (by omega)
        rw [c1] at h1
        rw [c2] at h2
        rw [c1, c2]
        unfold rng
        go_enter Try.func24, Try.ntmps24
        go_wp2_with (go_at_call 34; (with_reducible (first | refine (h1 _).mono ?_ | refine (h2 _).mono ?_)); rintro e w1 ⟨rfl, rfl⟩)
        all_goals go_ret
        all_goals exact ⟨ret_bool (by first | (simp; done) | (simp; omega) | (simp_all; done) | (simp_all; omega) | (rw [Bool.eq_iff_iff]; simp; omega) | (rw [Bool.eq_iff_iff]; simp_all; omega)), by repeat (first | exact Below.refl _ _ | assumption | refine st_drew ?_ | refine st_drewN ?_ _ | refine Below.setCell ?_ (by first | omega | (simp; done) | (simp; omega)) _ | refine Below.alloc ?_ (by first | omega | (simp; done) | (simp; omega)) _)⟩
      · rw [c1] at h1
        rw [c2] at h2
        rw [c1, c2]
        have c4 : hi ≤ lo := by omega
        go_enter Try.func24, Try.ntmps24
        go_wp2_with (go_at_call 34; (with_reducible (first | refine (h1 _).mono ?_ | refine (h2 _).mono ?_)); rintro e w1 ⟨rfl, rfl⟩)
        all_goals go_ret
        all_goals exact ⟨ret_bool (by first | (simp; done) | (simp; omega) | (simp_all; done) | (simp_all; omega) | (rw [Bool.eq_iff_iff]; simp; omega) | (rw [Bool.eq_iff_iff]; simp_all; omega)), by repeat (first | exact Below.refl _ _ | assumption | refine st_drew ?_ | refine st_drewN ?_ _ | refine Below.setCell ?_ (by first | omega | (simp; done) | (simp; omega)) _ | refine Below.alloc ?_ (by first | omega | (simp; done) | (simp; omega)) _)⟩
    · have c2' : rng lo (-100000) 100000 = false := by simpa using c2
      rw [c1] at h1
      rw [c2'] at h2
      rw [c1, c2']
      go_enter Try.func24, Try.ntmps24
      go_wp2_with (go_at_call 34; (with_reducible (first | refine (h1 _).mono ?_ | refine (h2 _).mono ?_)); rintro e w1 ⟨rfl, rfl⟩)
      all_goals go_ret
      all_goals exact ⟨ret_bool (by first | (simp; done) | (simp; omega) | (simp_all; done) | (simp_all; omega) | (rw [Bool.eq_iff_iff]; simp; omega) | (rw [Bool.eq_iff_iff]; simp_all; omega)), by repeat (first | exact Below.refl _ _ | assumption | refine st_drew ?_ | refine st_drewN ?_ _ | refine Below.setCell ?_ (by first | omega | (simp; done) | (simp; omega)) _ | refine Below.alloc ?_ (by first | omega | (simp; done) | (simp; omega)) _)⟩
  · have c1' : rng hi (-100000) 100000 = false := by simpa using c1
    rw [c1'] at h1
    rw [c1']
    go_enter Try.func24, Try.ntmps24
    go_wp2_with (go_at_call 34; (with_reducible (first | refine (h1 _).mono ?_ | refine (h2 _).mono ?_)); rintro e w1 ⟨rfl, rfl⟩)
    all_goals go_ret
    all_goals exact ⟨ret_bool (by first | (simp; done) | (simp; omega) | (simp_all; done) | (simp_all; omega) | (rw [Bool.eq_iff_iff]; simp; omega) | (rw [Bool.eq_iff_iff]; simp_all; omega)), by repeat (first | exact Below.refl _ _ | assumption | refine st_drew ?_ | refine st_drewN ?_ _ | refine Below.setCell ?_ (by first | omega | (simp; done) | (simp; omega)) _ | refine Below.alloc ?_ (by first | omega | (simp; done) | (simp; omega)) _)⟩

end Go.Proofs.Ytdjnnhdeijnhgab

/-
  Watch: the side that a value is on; what is told.
-/
namespace Go.Proofs.Ytdjnnhdeijnhgab
open Go.RowKit Va
set_option linter.all false

def aNw (n : Nw) : Value := .agg #[.int .i64 n.s, .int .i64 n.c, .bool n.b, .bool n.g]
theorem ret_intQ {a b : Int} (h : a = b) : Ending.returned (.int .i64 a) = Ending.returned (.int .i64 b) := by rw [h]

set_option maxRecDepth 20000 in
set_option maxHeartbeats 4000000 in
theorem side_any (a : Al) (s v : Int) (hs : s = 1 ∨ s = -1 ∨ s = 0) (ha : alOk a = true) (hv : -100000 ≤ v ∧ v ≤ 100000) (w : World) :
    Calls Try.prog 37 #[aA a, .int .i64 s, .int .i64 v] w fun e w' => e = .returned (.int .i64 (sideF a s v)) ∧ Below w.heap.size w w' := by
  obtain ⟨⟨h1, h2⟩, ⟨h3, h4⟩, h5, ⟨h6, h7⟩, h8, h9⟩ := alOk_iff.1 ha
  obtain ⟨v1, v2⟩ := hv
  obtain ⟨hi, lo, sl, dl⟩ := a
  dsimp only at *
  have HV : Hid (sideF ⟨hi, lo, sl, dl⟩ s v = if s = 1 ∧ hi - sl < v then 1 else if s = -1 ∧ v < lo + sl then -1 else if hi < v then 1 else if v < lo then -1 else 0) := rfl
  unfold aA
  generalize sideF ⟨hi, lo, sl, dl⟩ s v = R at *
  have b1 : Below w.heap.size w (w.alloc (.cells #[.int .i64 hi, .int .i64 lo, .int .i64 sl, .int .i64 dl] 28)) := (Below.refl _ _).alloc (Nat.le_refl _) _
  rcases hs with rfl | rfl | rfl <;>
  · go_enter Try.func37, Try.ntmps37
    go_wp2
    all_goals go_ret
    all_goals exact ⟨ret_intQ (by rw [HV.out]; (repeat' split) <;> first | omega | (simp_all; done) | (simp_all; omega)), b1⟩
theorem toldN_any (n : Nw) (hs : n.s = 1 ∨ n.s = -1 ∨ n.s = 0) (w : World) :
    Calls Try.prog 29 #[aNw n] w fun e w' => e = .returned (.int .i64 (toldN n)) ∧ Below w.heap.size w w' := by
  obtain ⟨s, c, b, g⟩ := n
  dsimp only at hs
  unfold aNw toldN
  dsimp only
  have b1 : Below w.heap.size w (w.alloc (.cells #[.int .i64 s, .int .i64 c, .bool b, .bool g] 46)) := (Below.refl _ _).alloc (Nat.le_refl _) _
  have hs2 : -1 ≤ s ∧ s ≤ 1 := by omega
  obtain ⟨s1, s2⟩ := hs2
  cases b <;>
  · go_enter Try.func29, Try.ntmps29
    go_wp2_with fail
    go_ret
    exact ⟨rfl, b1⟩
end Go.Proofs.Ytdjnnhdeijnhgab

/-
  Watch: how things are behind a tick: the boxes that it is worked out in.
-/
namespace Go.Proofs.Ytdjnnhdeijnhgab
open Go.RowKit Va
set_option linter.all false

theorem at_four {w2 : World} {g : Nat} {c0 c1 c2 c3 : Value} {t : TypeId} (h : w2.heap[g]? = some (.cells #[c0, c1, c2, c3] t (0, 0))) :
    (w2.cell? ⟨g, 0, none⟩ = some c0 ∧ w2.cell? ⟨g, 1, none⟩ = some c1 ∧ w2.cell? ⟨g, 2, none⟩ = some c2 ∧ w2.cell? ⟨g, 3, none⟩ = some c3) ∧ (w2.frozen? ⟨g, 0, none⟩ = false ∧ w2.frozen? ⟨g, 1, none⟩ = false ∧ w2.frozen? ⟨g, 2, none⟩ = false ∧ w2.frozen? ⟨g, 3, none⟩ = false) := by
  unfold World.cell? World.frozen?
  simp [h]
theorem four_boxes {w w2 : World} {A B C D : Obj} (h : Below ((((w.alloc A).alloc B).alloc C).alloc D).heap.size ((((w.alloc A).alloc B).alloc C).alloc D) w2) :
    w2.heap[w.heap.size]? = some A ∧ w2.heap[w.heap.size + 1]? = some B ∧ w2.heap[w.heap.size + 1 + 1 + 1]? = some D ∧ w.heap.size + 4 ≤ w2.heap.size := by
  have hs := h.size
  simp at hs
  refine ⟨?_, ?_, ?_, by omega⟩
  · rw [h.block _ (by first | omega | (simp; done) | (simp; omega)), heap_alloc_old _ _ (by first | omega | (simp; done) | (simp; omega)), heap_alloc_old _ _ (by first | omega | (simp; done) | (simp; omega)), heap_alloc_old _ _ (by first | omega | (simp; done) | (simp; omega))]
    exact heap_alloc_new w A
  · rw [h.block _ (by first | omega | (simp; done) | (simp; omega)), heap_alloc_old _ _ (by first | omega | (simp; done) | (simp; omega)), heap_alloc_old _ _ (by first | omega | (simp; done) | (simp; omega))]
    simpa using heap_alloc_new (w.alloc A) B
  · rw [h.block _ (by first | omega | (simp; done) | (simp; omega))]
    simpa using heap_alloc_new (((w.alloc A).alloc B).alloc C) D
theorem setCell_ne (w : World) {a : Addr} {v : Value} {b : Nat} (h : b ≠ a.block) : (w.setCell a v).heap[b]? = w.heap[b]? := by
  unfold World.setCell
  simp [Array.getElem?_modify, Ne.symm h]
theorem four_set {W : World} {g : Nat} {x0 x1 x2 x3 a b c d : Value} {t : TypeId} (h : W.heap[g]? = some (.cells #[x0, x1, x2, x3] t (0, 0))) :
    ((((W.setCell ⟨g, 0, none⟩ a).setCell ⟨g, 1, none⟩ b).setCell ⟨g, 2, none⟩ c).setCell ⟨g, 3, none⟩ d).heap[g]? = some (.cells #[a, b, c, d] t (0, 0)) := by
  have h1 : (W.setCell ⟨g, 0, none⟩ a).heap[g]? = some (.cells #[a, x1, x2, x3] t (0, 0)) := by
    rw [setCell_eq_setRow W g 0 _ t (0, 0) a h]; exact setRow_heap W g _ _ _ _ h
  have h2 : ((W.setCell ⟨g, 0, none⟩ a).setCell ⟨g, 1, none⟩ b).heap[g]? = some (.cells #[a, b, x2, x3] t (0, 0)) := by
    rw [setCell_eq_setRow _ g 1 _ t (0, 0) b h1]; exact setRow_heap _ g _ _ _ _ h1
  have h3 : (((W.setCell ⟨g, 0, none⟩ a).setCell ⟨g, 1, none⟩ b).setCell ⟨g, 2, none⟩ c).heap[g]? = some (.cells #[a, b, c, x3] t (0, 0)) := by
    rw [setCell_eq_setRow _ g 2 _ t (0, 0) c h2]; exact setRow_heap _ g _ _ _ _ h2
  rw [setCell_eq_setRow _ g 3 _ t (0, 0) d h3]; exact setRow_heap _ g _ _ _ _ h3
theorem two_set {W : World} {g : Nat} {x0 x1 x2 x3 a b : Value} {t : TypeId} (h : W.heap[g]? = some (.cells #[x0, x1, x2, x3] t (0, 0))) :
    ((W.setCell ⟨g, 0, none⟩ a).setCell ⟨g, 1, none⟩ b).heap[g]? = some (.cells #[a, b, x2, x3] t (0, 0)) := by
  have h1 : (W.setCell ⟨g, 0, none⟩ a).heap[g]? = some (.cells #[a, x1, x2, x3] t (0, 0)) := by
    rw [setCell_eq_setRow W g 0 _ t (0, 0) a h]; exact setRow_heap W g _ _ _ _ h
  rw [setCell_eq_setRow _ g 1 _ t (0, 0) b h1]; exact setRow_heap _ g _ _ _ _ h1
/-- What is answered lies in the last box. -/
theorem res_four {W : World} {g : Nat} {x0 x1 x2 x3 a b c d : Value} {tm : Array Value} (h6 : (tm[6]?).getD undef = .pointer (some ⟨g, 0, none⟩)) (h : W.heap[g]? = some (.cells #[x0, x1, x2, x3] 46 (0, 0))) :
    (results Try.f28 tm).run Try.prog ((((W.setCell ⟨g, 0, none⟩ a).setCell ⟨g, 1, none⟩ b).setCell ⟨g, 2, none⟩ c).setCell ⟨g, 3, none⟩ d) = .ok (.agg #[a, b, c, d]) ((((W.setCell ⟨g, 0, none⟩ a).setCell ⟨g, 1, none⟩ b).setCell ⟨g, 2, none⟩ c).setCell ⟨g, 3, none⟩ d) := by
  obtain ⟨⟨r0, r1, r2, r3⟩, -⟩ := at_four (four_set (a := a) (b := b) (c := c) (d := d) h)
  simp [results, Try.results28, go_sem, h6, r0, r1, r2, r3]
theorem below_four {B : Nat} {w W : World} {g : Nat} {a b c d : Value} (h : Below B w W) (hg : B ≤ g) : Below B w ((((W.setCell ⟨g, 0, none⟩ a).setCell ⟨g, 1, none⟩ b).setCell ⟨g, 2, none⟩ c).setCell ⟨g, 3, none⟩ d) :=
  (((h.setCell hg _).setCell hg _).setCell hg _).setCell hg _
set_option maxRecDepth 20000 in
set_option maxHeartbeats 4000000 in
theorem bh_no_false (hi lo sl dl s s2 c xv : Int) (b g : Bool) (c1 : 0 ≤ c) (c2 : c ≤ 2000) (h8 : 0 ≤ dl) (h9 : dl ≤ 100) (w : World) :
    Calls Try.prog 28 #[.agg #[.int .i64 s, .int .i64 c, .bool b, .bool g], .agg #[.int .i64 hi, .int .i64 lo, .int .i64 sl, .int .i64 dl], .agg #[.int .i64 xv, .bool false, .bool false]] w fun e w' => e = .returned (.agg #[.int .i64 s, .int .i64 c, .bool b, .bool false]) ∧ Below w.heap.size w w' := by
  go_enter Try.func28, Try.ntmps28
  go_wp2_with fail
  exact bodyPost_ret (v := .agg #[.int .i64 s, .int .i64 c, .bool b, .bool false]) (by simp [results, Try.results28, go_sem]) rfl ⟨rfl, by repeat (first | exact Below.refl _ _ | assumption | refine st_drew ?_ | refine st_drewN ?_ _ | refine Below.setCell ?_ (by first | omega | (simp; done) | (simp; omega)) _ | refine Below.alloc ?_ (by first | omega | (simp; done) | (simp; omega)) _)⟩
set_option maxRecDepth 20000 in
set_option maxHeartbeats 4000000 in
theorem bh_no_true (hi lo sl dl s s2 c xv : Int) (b g : Bool) (c1 : 0 ≤ c) (c2 : c ≤ 2000) (h8 : 0 ≤ dl) (h9 : dl ≤ 100) (w : World) :
    Calls Try.prog 28 #[.agg #[.int .i64 s, .int .i64 c, .bool b, .bool g], .agg #[.int .i64 hi, .int .i64 lo, .int .i64 sl, .int .i64 dl], .agg #[.int .i64 xv, .bool false, .bool true]] w fun e w' => e = .returned (.agg #[.int .i64 s, .int .i64 c, .bool false, .bool false]) ∧ Below w.heap.size w w' := by
  go_enter Try.func28, Try.ntmps28
  go_wp2_with fail
  exact bodyPost_ret (v := .agg #[.int .i64 s, .int .i64 c, .bool false, .bool false]) (by simp [results, Try.results28, go_sem]) rfl ⟨rfl, by repeat (first | exact Below.refl _ _ | assumption | refine st_drew ?_ | refine st_drewN ?_ _ | refine Below.setCell ?_ (by first | omega | (simp; done) | (simp; omega)) _ | refine Below.alloc ?_ (by first | omega | (simp; done) | (simp; omega)) _)⟩
end Go.Proofs.Ytdjnnhdeijnhgab

/-
  Watch: how things are behind a tick: bh sz false.
-/
namespace Go.Proofs.Ytdjnnhdeijnhgab
open Go.RowKit Va
set_option linter.all false

set_option maxRecDepth 20000 in
set_option maxHeartbeats 4000000 in
theorem bh_sz_false (hi lo sl dl s s2 c xv : Int) (b g : Bool) (c1 : 0 ≤ c) (c2 : c ≤ 2000) (h8 : 0 ≤ dl) (h9 : dl ≤ 100) (hS : ∀ W : World, Calls Try.prog 37 #[.agg #[.int .i64 hi, .int .i64 lo, .int .i64 sl, .int .i64 dl], .int .i64 0, .int .i64 xv] W fun e w' => e = .returned (.int .i64 0) ∧ Below W.heap.size W w') (w : World) :
    Calls Try.prog 28 #[.agg #[.int .i64 0, .int .i64 c, .bool b, .bool g], .agg #[.int .i64 hi, .int .i64 lo, .int .i64 sl, .int .i64 dl], .agg #[.int .i64 xv, .bool true, .bool false]] w fun e w' => e = .returned (.agg #[.int .i64 0, .int .i64 c, .bool b, .bool false]) ∧ Below w.heap.size w w' := by
  go_enter Try.func28, Try.ntmps28
  go_wp2_with (go_at_call 37; refine (hS _).mono ?_; rintro e w2 ⟨rfl, hb2⟩; have bw := onto (show Below w.heap.size w _ from by repeat (first | exact Below.refl _ _ | assumption | refine st_drew ?_ | refine st_drewN ?_ _ | refine Below.setCell ?_ (by first | omega | (simp; done) | (simp; omega)) _ | refine Below.alloc ?_ (by first | omega | (simp; done) | (simp; omega)) _)) hb2; obtain ⟨q0, q1, q3, q4⟩ := four_boxes hb2; clear hb2; obtain ⟨⟨m0, m1, m2, m3⟩, n0, n1, n2, n3⟩ := at_four q0; obtain ⟨⟨k0, k1, k2, k3⟩, -⟩ := at_four q1; obtain ⟨⟨r0, r1, r2, r3⟩, p0, p1, p2, p3⟩ := at_four q3; have HQ := hidden q3; have HW := hidden bw; clear q0 q1 q3 bw)
  refine bodyPost_ret (res_four (x0 := .int .i64 0) (x1 := .int .i64 0) (x2 := .bool false) (x3 := .bool false) rfl ?_) rfl ⟨?_, below_four ?_ (by omega)⟩
  · repeat (refine (setCell_ne _ (by first | omega | (simp; done) | (simp; omega))).trans ?_)
    exact HQ.out
  · first
      | rfl
      | (simp; done)
      | (simp; omega)
  · repeat (refine Below.setCell ?_ (by first | omega | (simp; done) | (simp; omega)) _)
    exact HW.out
end Go.Proofs.Ytdjnnhdeijnhgab

/-
  Watch: how things are behind a tick: bh sz true.
-/
namespace Go.Proofs.Ytdjnnhdeijnhgab
open Go.RowKit Va
set_option linter.all false

set_option maxRecDepth 20000 in
set_option maxHeartbeats 4000000 in
theorem bh_sz_true (hi lo sl dl s s2 c xv : Int) (b g : Bool) (c1 : 0 ≤ c) (c2 : c ≤ 2000) (h8 : 0 ≤ dl) (h9 : dl ≤ 100) (hS : ∀ W : World, Calls Try.prog 37 #[.agg #[.int .i64 hi, .int .i64 lo, .int .i64 sl, .int .i64 dl], .int .i64 0, .int .i64 xv] W fun e w' => e = .returned (.int .i64 0) ∧ Below W.heap.size W w') (w : World) :
    Calls Try.prog 28 #[.agg #[.int .i64 0, .int .i64 c, .bool b, .bool g], .agg #[.int .i64 hi, .int .i64 lo, .int .i64 sl, .int .i64 dl], .agg #[.int .i64 xv, .bool true, .bool true]] w fun e w' => e = .returned (.agg #[.int .i64 0, .int .i64 c, .bool false, .bool false]) ∧ Below w.heap.size w w' := by
  go_enter Try.func28, Try.ntmps28
  go_wp2_with (go_at_call 37; refine (hS _).mono ?_; rintro e w2 ⟨rfl, hb2⟩; have bw := onto (show Below w.heap.size w _ from by repeat (first | exact Below.refl _ _ | assumption | refine st_drew ?_ | refine st_drewN ?_ _ | refine Below.setCell ?_ (by first | omega | (simp; done) | (simp; omega)) _ | refine Below.alloc ?_ (by first | omega | (simp; done) | (simp; omega)) _)) hb2; obtain ⟨q0, q1, q3, q4⟩ := four_boxes hb2; clear hb2; obtain ⟨⟨m0, m1, m2, m3⟩, n0, n1, n2, n3⟩ := at_four q0; obtain ⟨⟨k0, k1, k2, k3⟩, -⟩ := at_four q1; obtain ⟨⟨r0, r1, r2, r3⟩, p0, p1, p2, p3⟩ := at_four q3; have HQ := hidden q3; have HW := hidden bw; clear q0 q1 q3 bw)
  refine bodyPost_ret (res_four (x0 := .int .i64 0) (x1 := .int .i64 0) (x2 := .bool false) (x3 := .bool false) rfl ?_) rfl ⟨?_, below_four ?_ (by omega)⟩
  · repeat (refine (setCell_ne _ (by first | omega | (simp; done) | (simp; omega))).trans ?_)
    exact HQ.out
  · first
      | rfl
      | (simp; done)
      | (simp; omega)
  · repeat (refine Below.setCell ?_ (by first | omega | (simp; done) | (simp; omega)) _)
    exact HW.out
end Go.Proofs.Ytdjnnhdeijnhgab

/-
  Watch: how things are behind a tick: bh sy false.
-/
namespace Go.Proofs.Ytdjnnhdeijnhgab
open Go.RowKit Va
set_option linter.all false

set_option maxRecDepth 20000 in
set_option maxHeartbeats 4000000 in
theorem bh_sy_false (hi lo sl dl s s2 c xv : Int) (b g : Bool) (c1 : 0 ≤ c) (c2 : c ≤ 2000) (h8 : 0 ≤ dl) (h9 : dl ≤ 100) (hS : ∀ W : World, Calls Try.prog 37 #[.agg #[.int .i64 hi, .int .i64 lo, .int .i64 sl, .int .i64 c], .int .i64 s2, .int .i64 xv] W fun e w' => e = .returned (.int .i64 s2) ∧ Below W.heap.size W w') (e2 : ¬ s2 = 0) (w : World) :
    Calls Try.prog 28 #[.agg #[.int .i64 s2, .int .i64 c, .bool b, .bool g], .agg #[.int .i64 hi, .int .i64 lo, .int .i64 sl, .int .i64 c], .agg #[.int .i64 xv, .bool true, .bool false]] w fun e w' => e = .returned (.agg #[.int .i64 s2, .int .i64 (c + 1), .bool true, .bool (!b)]) ∧ Below w.heap.size w w' := by
  go_enter Try.func28, Try.ntmps28
  go_wp2_with (go_at_call 37; refine (hS _).mono ?_; rintro e w2 ⟨rfl, hb2⟩; have bw := onto (show Below w.heap.size w _ from by repeat (first | exact Below.refl _ _ | assumption | refine st_drew ?_ | refine st_drewN ?_ _ | refine Below.setCell ?_ (by first | omega | (simp; done) | (simp; omega)) _ | refine Below.alloc ?_ (by first | omega | (simp; done) | (simp; omega)) _)) hb2; obtain ⟨q0, q1, q3, q4⟩ := four_boxes hb2; clear hb2; obtain ⟨⟨m0, m1, m2, m3⟩, n0, n1, n2, n3⟩ := at_four q0; obtain ⟨⟨k0, k1, k2, k3⟩, -⟩ := at_four q1; obtain ⟨⟨r0, r1, r2, r3⟩, p0, p1, p2, p3⟩ := at_four q3; have HQ := hidden q3; have HW := hidden bw; clear q0 q1 q3 bw)
  refine bodyPost_ret (res_four (x0 := .int .i64 0) (x1 := .int .i64 0) (x2 := .bool false) (x3 := .bool false) rfl ?_) rfl ⟨?_, below_four ?_ (by omega)⟩
  · repeat (refine (setCell_ne _ (by first | omega | (simp; done) | (simp; omega))).trans ?_)
    exact HQ.out
  · first
      | rfl
      | (simp; done)
      | (simp; omega)
  · repeat (refine Below.setCell ?_ (by first | omega | (simp; done) | (simp; omega)) _)
    exact HW.out
end Go.Proofs.Ytdjnnhdeijnhgab

/-
  Watch: how things are behind a tick: bh sy true.
-/
namespace Go.Proofs.Ytdjnnhdeijnhgab
open Go.RowKit Va
set_option linter.all false

set_option maxRecDepth 20000 in
set_option maxHeartbeats 4000000 in
theorem bh_sy_true (hi lo sl dl s s2 c xv : Int) (b g : Bool) (c1 : 0 ≤ c) (c2 : c ≤ 2000) (h8 : 0 ≤ dl) (h9 : dl ≤ 100) (hS : ∀ W : World, Calls Try.prog 37 #[.agg #[.int .i64 hi, .int .i64 lo, .int .i64 sl, .int .i64 c], .int .i64 s2, .int .i64 xv] W fun e w' => e = .returned (.int .i64 s2) ∧ Below W.heap.size W w') (e2 : ¬ s2 = 0) (w : World) :
    Calls Try.prog 28 #[.agg #[.int .i64 s2, .int .i64 c, .bool b, .bool g], .agg #[.int .i64 hi, .int .i64 lo, .int .i64 sl, .int .i64 c], .agg #[.int .i64 xv, .bool true, .bool true]] w fun e w' => e = .returned (.agg #[.int .i64 s2, .int .i64 (c + 1), .bool true, .bool true]) ∧ Below w.heap.size w w' := by
  go_enter Try.func28, Try.ntmps28
  go_wp2_with (go_at_call 37; refine (hS _).mono ?_; rintro e w2 ⟨rfl, hb2⟩; have bw := onto (show Below w.heap.size w _ from by repeat (first | exact Below.refl _ _ | assumption | refine st_drew ?_ | refine st_drewN ?_ _ | refine Below.setCell ?_ (by first | omega | (simp; done) | (simp; omega)) _ | refine Below.alloc ?_ (by first | omega | (simp; done) | (simp; omega)) _)) hb2; obtain ⟨q0, q1, q3, q4⟩ := four_boxes hb2; clear hb2; obtain ⟨⟨m0, m1, m2, m3⟩, n0, n1, n2, n3⟩ := at_four q0; obtain ⟨⟨k0, k1, k2, k3⟩, -⟩ := at_four q1; obtain ⟨⟨r0, r1, r2, r3⟩, p0, p1, p2, p3⟩ := at_four q3; have HQ := hidden q3; have HW := hidden bw; clear q0 q1 q3 bw)
  refine bodyPost_ret (res_four (x0 := .int .i64 0) (x1 := .int .i64 0) (x2 := .bool false) (x3 := .bool false) rfl ?_) rfl ⟨?_, below_four ?_ (by omega)⟩
  · repeat (refine (setCell_ne _ (by first | omega | (simp; done) | (simp; omega))).trans ?_)
    exact HQ.out
  · first
      | rfl
      | (simp; done)
      | (simp; omega)
  · repeat (refine Below.setCell ?_ (by first | omega | (simp; done) | (simp; omega)) _)
    exact HW.out
end Go.Proofs.Ytdjnnhdeijnhgab

/-
  Watch: how things are behind a tick: bh sn false.
-/
namespace Go.Proofs.Ytdjnnhdeijnhgab
open Go.RowKit Va
set_option linter.all false

set_option maxRecDepth 20000 in
set_option maxHeartbeats 4000000 in
theorem bh_sn_false (hi lo sl dl s s2 c xv : Int) (b g : Bool) (c1 : 0 ≤ c) (c2 : c ≤ 2000) (h8 : 0 ≤ dl) (h9 : dl ≤ 100) (hS : ∀ W : World, Calls Try.prog 37 #[.agg #[.int .i64 hi, .int .i64 lo, .int .i64 sl, .int .i64 dl], .int .i64 s2, .int .i64 xv] W fun e w' => e = .returned (.int .i64 s2) ∧ Below W.heap.size W w') (e2 : ¬ s2 = 0) (e3 : ¬ c = dl) (w : World) :
    Calls Try.prog 28 #[.agg #[.int .i64 s2, .int .i64 c, .bool b, .bool g], .agg #[.int .i64 hi, .int .i64 lo, .int .i64 sl, .int .i64 dl], .agg #[.int .i64 xv, .bool true, .bool false]] w fun e w' => e = .returned (.agg #[.int .i64 s2, .int .i64 (c + 1), .bool b, .bool false]) ∧ Below w.heap.size w w' := by
  go_enter Try.func28, Try.ntmps28
  go_wp2_with (go_at_call 37; refine (hS _).mono ?_; rintro e w2 ⟨rfl, hb2⟩; have bw := onto (show Below w.heap.size w _ from by repeat (first | exact Below.refl _ _ | assumption | refine st_drew ?_ | refine st_drewN ?_ _ | refine Below.setCell ?_ (by first | omega | (simp; done) | (simp; omega)) _ | refine Below.alloc ?_ (by first | omega | (simp; done) | (simp; omega)) _)) hb2; obtain ⟨q0, q1, q3, q4⟩ := four_boxes hb2; clear hb2; obtain ⟨⟨m0, m1, m2, m3⟩, n0, n1, n2, n3⟩ := at_four q0; obtain ⟨⟨k0, k1, k2, k3⟩, -⟩ := at_four q1; obtain ⟨⟨r0, r1, r2, r3⟩, p0, p1, p2, p3⟩ := at_four q3; have HQ := hidden q3; have HW := hidden bw; clear q0 q1 q3 bw)
  refine bodyPost_ret (res_four (x0 := .int .i64 0) (x1 := .int .i64 0) (x2 := .bool false) (x3 := .bool false) rfl ?_) rfl ⟨?_, below_four ?_ (by omega)⟩
  · repeat (refine (setCell_ne _ (by first | omega | (simp; done) | (simp; omega))).trans ?_)
    exact HQ.out
  · first
      | rfl
      | (simp; done)
      | (simp; omega)
  · repeat (refine Below.setCell ?_ (by first | omega | (simp; done) | (simp; omega)) _)
    exact HW.out
end Go.Proofs.Ytdjnnhdeijnhgab
