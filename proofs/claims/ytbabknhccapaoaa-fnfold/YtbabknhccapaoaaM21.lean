/-
  Letters compared, both sides; their numbers.
-/
import Derived.Test.YtbabknhccapaoaaM20
import Derived.Test.YtbabknhccapaoaaM2w
import Derived.Test.YtbabknhccapaoaaGx
import Derived.Test.YtbabknhccapaoaaRo
namespace Go.Proofs.Ytbabknhccapaoaa
open Go.RowKit Va Mg
set_option linter.all false

theorem ontoC {w w1 w2 : World} (h1 : Below w.heap.size w w1) (h2 : Below w1.heap.size w1 w2) : Below w.heap.size w w2 := h1.trans (h2.mono h1.size)
def cmpI (a b : Int) : Int := if a < b then -1 else if b < a then 1 else 0
def orL : List Int → Int
  | [] => 0
  | a :: l => if a = 0 then orL l else a
theorem orL_take (l : List Int) (i : Nat) (h : ∀ j d, j < i → l[j]? = some d → d = 0) : orL l = orL (l.drop i) := by
  induction i generalizing l with
  | zero => rfl
  | succ i ih =>
    cases l with
    | nil => rfl
    | cons a l =>
      have : a = 0 := h 0 a (by omega) rfl
      rw [List.drop_succ_cons, ← ih l (fun j d hj hd => h (j + 1) d (by omega) (by simpa using hd))]
      simp [orL, this]

set_option maxHeartbeats 400000 in
theorem inanM_any (a : Int) (w : World) : Calls Try.prog 63 #[.int .i64 a] w fun e w' => e = .returned (.bool false) ∧ w = w' := by
  go_enter Try.func63, Try.ntmps63
  go_wp2
  go_ret
  exact ⟨rfl, rfl⟩

set_option maxHeartbeats 1000000 in
theorem icmpM_any (a b : Int) (w : World) : Calls Try.prog 56 #[.int .i64 a, .int .i64 b] w fun e w' => e = .returned (.int .i64 (cmpI a b)) ∧ w' = w := by
  have n1 := inanM_any a
  have n2 := inanM_any b
  unfold cmpI
  by_cases h1 : a < b
  · rw [if_pos h1]
    go_enter Try.func56, Try.ntmps56
    go_wp2_with (with_reducible (first | refine (n1 _).mono ?_ | refine (n2 _).mono ?_); rintro e w1 ⟨rfl, rfl⟩)
    go_ret
    exact ⟨rfl, rfl⟩
  · rw [if_neg h1]
    by_cases h2 : b < a
    · rw [if_pos h2]
      go_enter Try.func56, Try.ntmps56
      go_wp2_with (with_reducible (first | refine (n1 _).mono ?_ | refine (n2 _).mono ?_); rintro e w1 ⟨rfl, rfl⟩)
      go_ret
      exact ⟨rfl, rfl⟩
    · rw [if_neg h2]
      go_enter Try.func56, Try.ntmps56
      go_wp2_with (with_reducible (first | refine (n1 _).mono ?_ | refine (n2 _).mono ?_); rintro e w1 ⟨rfl, rfl⟩)
      go_ret
      exact ⟨rfl, rfl⟩

set_option maxRecDepth 20000 in
set_option maxHeartbeats 2000000 in
theorem iorL_any (ds : List Int) (B : Nat) (w : World) (hl : ds.length ≤ 100) (hc : ∀ i d, ds[i]? = some d → w.cell? ⟨B, i, none⟩ = some (.int .i64 d)) : Calls Try.prog 55 #[.slice (some ⟨B, 0, none⟩) ds.length ds.length] w fun e w' => e = .returned (.int .i64 (orL ds)) ∧ w' = w := by
  have HC := hidden hc
  obtain ⟨R, hR⟩ : ∃ R, R = orL ds := ⟨_, rfl⟩
  have HR := hidden hR
  rw [← hR]
  clear hc hR
  go_enter Try.func55, Try.ntmps55
  go_wp2_with fail
  go_loopw [5, 8] (fun _ iv wr => wr = w ∧ ∃ i : Nat, i ≤ ds.length ∧ iv = .int .i64 i ∧ Hid (∀ j d, j < i → ds[j]? = some d → d = 0)) (fun _ iv _ => ds.length - (intOf iv).toNat)
  case atStart => exact ⟨rfl, 0, Nat.zero_le _, rfl, fun j d hj => absurd hj (Nat.not_lt_zero _)⟩
  case round =>
    obtain ⟨hw, i, hi, rfl, hok⟩ := hrel
    have hw' := hw.symm
    clear hw
    subst hw'
    by_cases hlt : i < ds.length
    · have hlti : (i : Int) < (ds.length : Int) := by omega
      obtain ⟨d, hd⟩ := some_of ds i hlt
      have c0 := HC.out i d hd
      have HD := hidden hd
      clear hd
      by_cases h0 : d = 0
      · have HQ : Hid (∀ j d, j < i + 1 → ds[j]? = some d → d = 0) := fun j d' hj hd' => by
          rcases Nat.lt_succ_iff_lt_or_eq.1 hj with q | rfl
          · exact hok.out j d' q hd'
          · rw [HD.out] at hd'; cases hd'; exact h0
        subst h0
        clear hok
        go_wp2_with fail
        go_roundw
        case rel => exact ⟨by first | rfl | trivial, i + 1, by omega, rfl, HQ⟩
        case measure => simp [intOf]; omega
      · have HV : Hid (R = d) := by
          rw [Hid, HR.out, orL_take ds i hok.out, List.drop_eq_getElem_cons hlt]
          have e : ds[i] = d := by have := HD.out; rw [List.getElem?_eq_getElem hlt] at this; exact Option.some.inj this
          rw [e]
          simp [orL, h0]
        have q0 : (d != 0) = true := by simpa using h0
        go_wp2_with fail
        go_ret
        exact ⟨by rw [HV.out]; first | done | rfl, rfl⟩
    · have hlti : ¬ (i : Int) < (ds.length : Int) := by omega
      have HV : Hid (R = 0) := by
        rw [Hid, HR.out, orL_take ds i hok.out, List.drop_eq_nil_of_le (by omega)]; rfl
      go_wp2_with fail
      go_ret
      exact ⟨by rw [HV.out]; first | done | rfl, rfl⟩

set_option maxRecDepth 20000 in
set_option maxHeartbeats 4000000 in
theorem smore_any (x y : Lt) (w : World) : Calls Try.prog 24 #[aLt x, aLt y] w fun e w' => e = .returned (.bool (moreB x y)) ∧ Below w.heap.size w w' := by
  obtain ⟨f, s, c, k, v⟩ := x
  obtain ⟨f', s', c', k', v'⟩ := y
  unfold aLt moreB
  dsimp only
  by_cases h1 : c = c'
  · rw [if_neg (fun q => q h1)]
    by_cases h2 : k = k'
    · rw [if_neg (fun q => q h2)]
      subst h1 h2
      go_enter Try.func24, Try.ntmps24
      go_wp2
      all_goals (go_ret; exact ⟨by first | rfl | exact ret_boolT (by first | (simp; done) | (simp; omega) | (simp_all; done) | (simp_all; omega) | (rw [Bool.eq_iff_iff]; simp; omega) | (rw [Bool.eq_iff_iff]; simp_all; omega)), by repeat (first | exact Below.refl _ _ | assumption | refine st_drew ?_ | refine st_drewN ?_ _ | refine Below.setCell ?_ (by first | omega | (simp; done) | (simp; omega)) _ | refine Below.alloc ?_ (by first | omega | (simp; done) | (simp; omega)) _)⟩)
    · rw [if_pos h2]
      subst h1
      have q2 : (k != k') = true := by simpa using h2
      go_enter Try.func24, Try.ntmps24
      go_wp2
      all_goals (go_ret; exact ⟨by first | rfl | exact ret_boolT (by first | (simp; done) | (simp; omega) | (simp_all; done) | (simp_all; omega) | (rw [Bool.eq_iff_iff]; simp; omega) | (rw [Bool.eq_iff_iff]; simp_all; omega)), by repeat (first | exact Below.refl _ _ | assumption | refine st_drew ?_ | refine st_drewN ?_ _ | refine Below.setCell ?_ (by first | omega | (simp; done) | (simp; omega)) _ | refine Below.alloc ?_ (by first | omega | (simp; done) | (simp; omega)) _)⟩)
  · rw [if_pos h1]
    have q1 : (c != c') = true := by simpa using h1
    go_enter Try.func24, Try.ntmps24
    go_wp2
    all_goals (go_ret; exact ⟨by first | rfl | exact ret_boolT (by first | (simp; done) | (simp; omega) | (simp_all; done) | (simp_all; omega) | (rw [Bool.eq_iff_iff]; simp; omega) | (rw [Bool.eq_iff_iff]; simp_all; omega)), by repeat (first | exact Below.refl _ _ | assumption | refine st_drew ?_ | refine st_drewN ?_ _ | refine Below.setCell ?_ (by first | omega | (simp; done) | (simp; omega)) _ | refine Below.alloc ?_ (by first | omega | (simp; done) | (simp; omega)) _)⟩)

set_option maxRecDepth 20000 in
set_option maxHeartbeats 2000000 in
theorem inumber_any (x : Lt) (w : World) : Calls Try.prog 40 #[aLt x] w fun e w' => e = .returned (.agg #[.int .i64 x.f, .int .i64 x.s]) ∧ Below w.heap.size w w' := by
  unfold aLt
  go_enter Try.func40, Try.ntmps40
  go_wp2
  exact bodyPost_ret (v := .agg #[.int .i64 x.f, .int .i64 x.s]) (by simp [results, Try.results40, go_sem]) rfl ⟨rfl, by repeat (first | exact Below.refl _ _ | assumption | refine st_drew ?_ | refine st_drewN ?_ _ | refine Below.setCell ?_ (by first | omega | (simp; done) | (simp; omega)) _ | refine Below.alloc ?_ (by first | omega | (simp; done) | (simp; omega)) _)⟩

set_option maxRecDepth 20000 in
set_option maxHeartbeats 2000000 in
theorem icorr_any (x : Lt) (w : World) : Calls Try.prog 54 #[aLt x] w fun e w' => e = .returned (.agg #[.int .i64 x.f, .int .i64 x.c]) ∧ Below w.heap.size w w' := by
  unfold aLt
  go_enter Try.func54, Try.ntmps54
  go_wp2
  exact bodyPost_ret (v := .agg #[.int .i64 x.f, .int .i64 x.c]) (by simp [results, Try.results54, go_sem]) rfl ⟨rfl, by repeat (first | exact Below.refl _ _ | assumption | refine st_drew ?_ | refine st_drewN ?_ _ | refine Below.setCell ?_ (by first | omega | (simp; done) | (simp; omega)) _ | refine Below.alloc ?_ (by first | omega | (simp; done) | (simp; omega)) _)⟩
end Go.Proofs.Ytbabknhccapaoaa
