/-
  Plain facts: somebody comes, is moved, goes, and comes again.
-/
import Derived.Test.YtmigcbbjejbcgabKa
import Derived.Test.YtmigcbbjejbcgabHp
namespace Go.Proofs.Ytmigcbbjejbcgab.Hm

def hB : List Bd := [⟨1, 1⟩, ⟨2, 2⟩]
def mvs (t a b : Int) : List Mv := [⟨1, 3, 1, 1, 0, t⟩, ⟨2, 3, 0, 0, 1, t + a⟩, ⟨3, 3, 0, 0, 0, t + a + b⟩, ⟨1, 3, 1, 2, 1, t + a + b + 50⟩]
def stA (t a b : Int) (i : Nat) : List St := match i with
  | 0 => []
  | 1 => [⟨3, 1, 1, 0, t, -1⟩]
  | 2 => [⟨3, 1, 1, 0, t, t + a⟩, ⟨3, 1, 1, 1, t + a, -1⟩]
  | 3 => [⟨3, 1, 1, 0, t, t + a⟩, ⟨3, 1, 1, 1, t + a, t + a + b⟩]
  | _ => [⟨3, 1, 1, 0, t, t + a⟩, ⟨3, 1, 1, 1, t + a, t + a + b⟩, ⟨3, 1, 2, 1, t + a + b + 50, -1⟩]
structure Tab (t a b : Int) : Prop where
  t0 : 100 ≤ t
  t1 : t ≤ 1099
  a0 : 1 ≤ a
  a1 : a ≤ 200
  b0 : 1 ≤ b
  b1 : b ≤ 200
theorem ok_start : Ok hB [] := by
  refine ⟨by simp [hB], by simp, ?_, fun i x h => absurd h (by simp), fun i x h => absurd h (by simp)⟩
  intro i x hi hx
  simp [hB] at hi
  rcases (show i = 0 ∨ i = 1 by omega) with rfl | rfl
  · simp [hB] at hx
    subst hx
    exact ⟨by decide, fun k y hk => absurd hk (by omega)⟩
  · simp [hB] at hx
    subst hx
    refine ⟨by decide, fun k y hk hy => ?_⟩
    obtain rfl : k = 0 := by omega
    simp [hB] at hy
    subst hy
    decide
theorem move_at {t a b : Int} (h : Tab t a b) (i : Nat) (hi : i < 4) (m : Mv) (hm : (mvs t a b)[i]? = some m) : moveR hB (stA t a b i) m = (stA t a b (i + 1), 0) := by
  obtain ⟨t0, t1, a0, a1, b0, b1⟩ := h
  rcases (show i = 0 ∨ i = 1 ∨ i = 2 ∨ i = 3 by omega) with rfl | rfl | rfl | rfl
  · simp [mvs] at hm
    subst hm
    have e1 : mvOk hB.length ⟨1, 3, 1, 1, 0, t⟩ = true := by simp [mvOk, pers, tm, sx, kd, inB, hB]; omega
    have e2 : isFr hB [] 1 1 0 = true := by decide
    simp [moveR, e1, stA, late, thereAt, placed, newStay, e2]
  · simp [mvs] at hm
    subst hm
    have e1 : mvOk hB.length ⟨2, 3, 0, 0, 1, t + a⟩ = true := by simp [mvOk, pers, tm, inB, hB]; omega
    have e2 : isFr hB [⟨3, 1, 1, 0, t, t + a⟩] 1 1 1 = true := by first | (simp [isFr, hB, does, kindAt, taken, here]; done) | (simp [isFr, hB, does, kindAt, taken, here]; omega)
    have e3 : ¬ t + a < t := by omega
    simp [moveR, e1, stA, late, thereAt, thereB, here, placed, nextStay, ended, e2, e3, List.findIdx_cons]
  · simp [mvs] at hm
    subst hm
    have e1 : mvOk hB.length ⟨3, 3, 0, 0, 0, t + a + b⟩ = true := by simp [mvOk, pers, tm]; omega
    have e3 : ¬ t + a + b < t + a := by omega
    have e4 : ¬ t + a = -1 := by omega
    simp [moveR, e1, stA, late, thereAt, thereB, here, ended, e3, e4, List.findIdx_cons]
  · simp [mvs] at hm
    subst hm
    have e1 : mvOk hB.length ⟨1, 3, 1, 2, 1, t + a + b + 50⟩ = true := by simp [mvOk, pers, tm, sx, kd, inB, hB]; omega
    have e2 : isFr hB [⟨3, 1, 1, 0, t, t + a⟩, ⟨3, 1, 1, 1, t + a, t + a + b⟩] 1 2 1 = true := by simp [isFr, hB, does, kindAt, taken, here]; omega
    have e3 : ¬ t + a + b + 50 < t + a := by omega
    have e4 : ¬ t + a = -1 := by omega
    have e5 : ¬ t + a + b = -1 := by omega
    simp [moveR, e1, stA, late, thereAt, thereB, here, placed, newStay, e2, e3, e4, e5, List.findIdx_cons]
theorem ok_at {t a b : Int} (h : Tab t a b) : ∀ i, i ≤ 4 → Ok hB (stA t a b i)
  | 0, _ => ok_start
  | i + 1, hi => by
    obtain ⟨m, hm⟩ : ∃ m, (mvs t a b)[i]? = some m := ⟨_, List.getElem?_eq_getElem (by simp [mvs]; omega)⟩
    have := move_ok (ok_at h i (by omega)) m
    rw [move_at h i (by omega) m hm] at this
    exact this
theorem do_at {t a b : Int} (h : Tab t a b) (i : Nat) (hi : i < 4) (m : Mv) (hm : (mvs t a b)[i]? = some m) : doC hB (stA t a b i) m = 0 ∧ doB hB (stA t a b i) = hB ∧ doS hB (stA t a b i) m = stA t a b (i + 1) := by
  have ho := okB_true (ok_at h i (by omega))
  have hm2 := move_at h i hi m hm
  unfold doC doB doS
  rw [ho]
  simp [hm2]
theorem told_at {t a b : Int} (h : Tab t a b) : minutes hB (stA t a b 4) 3 t = 0 ∧ minutes hB (stA t a b 4) 3 (t + a) = a ∧ minutes hB (stA t a b 4) 3 (t + a + b + 50) = a + b ∧ minutes hB (stA t a b 4) 3 (t + a + b + 57) = a + b + 7 ∧
    whereAt hB (stA t a b 4) 3 (t + a - 1) = 0 ∧ whereAt hB (stA t a b 4) 3 (t + a) = 1 ∧ whereAt hB (stA t a b 4) 3 (t + a + b) = -1 ∧ whereAt hB (stA t a b 4) 4 t = -1 := by
  have ho := okB_true (ok_at h 4 (by omega))
  obtain ⟨t0, t1, a0, a1, b0, b1⟩ := h
  have T : ∀ x : Int, 0 ≤ x → x ≤ 10000000 → tm x = true := fun x q1 q2 => tm_iff.2 ⟨q1, q2⟩
  unfold minutes whereAt
  rw [ho, T t (by omega) (by omega), T (t + a) (by omega) (by omega), T (t + a + b + 50) (by omega) (by omega), T (t + a + b + 57) (by omega) (by omega)]
  simp only [Bool.and_self, if_true, minsL, lastBed, stA, List.map_cons, List.map_nil, List.sum_cons, List.sum_nil, List.foldl_cons, List.foldl_nil, minuteOf, endBy, atBed]
  refine ⟨?_, ?_, ?_, ?_, ?_, ?_, ?_, ?_⟩
  · simp; omega
  · simp; omega
  · simp; omega
  · simp; omega
  · simp; omega
  · simp; omega
  · simp; omega
  · simp
end Go.Proofs.Ytmigcbbjejbcgab.Hm
