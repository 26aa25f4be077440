/-
  Plain facts on pumps; no Go in sight.
-/
import Derived.Test.YtamghmnibfbgaaaVa
namespace Go.Proofs.Ytamghmnibfbgaaa.Ba
open Va
set_option linter.unusedVariables false

structure Lm where
  sl : Int
  sh : Int
  hl : Int
  hh : Int
structure Pm where
  lim : Lm
  rate : Int
  asked : Int
  st : Int
  door : Bool
  left : Int
  given : Int
structure Ac where
  kind : Int
  n : Int
def zeroP : Pm := ⟨⟨0, 0, 0, 0⟩, 0, 0, 0, false, 0, 0⟩

def limOk (l : Lm) : Bool := decide (0 ≤ l.hl) && (decide (l.hl ≤ l.sl) && (decide (l.sl ≤ l.sh) && (decide (l.sh ≤ l.hh) && decide (l.hh ≤ 100000))))
theorem limOk_iff {l : Lm} : limOk l = true ↔ 0 ≤ l.hl ∧ l.hl ≤ l.sl ∧ l.sl ≤ l.sh ∧ l.sh ≤ l.hh ∧ l.hh ≤ 100000 := by simp [limOk]
def hard (l : Lm) (n : Int) : Bool := rng n l.hl l.hh
def soft (l : Lm) (n : Int) : Bool := rng n l.sl l.sh
/-- What is asked of a pump, its state aside. -/
def base (p : Pm) : Bool := limOk p.lim && (rng p.st 1 5 && (rng p.left 0 100000000 && rng p.given 0 100000000))
def ratesOk (p : Pm) : Bool := (decide (p.asked = 0) || (!soft p.lim p.asked && hard p.lim p.asked)) && (decide (p.rate = 0) || hard p.lim p.rate)
def stOk (p : Pm) : Bool := if p.st = 1 then decide (p.rate = 0) && decide (p.asked = 0) else if p.st = 3 then decide (0 < p.rate) && !p.door else if p.st = 4 then decide (0 < p.rate) else true
def pmOk (p : Pm) : Bool := base p && (ratesOk p && stOk p)
theorem pmOk_parts {p : Pm} : pmOk p = true ↔ base p = true ∧ ratesOk p = true ∧ stOk p = true := by simp [pmOk]
structure Right (p : Pm) : Prop where
  lim : 0 ≤ p.lim.hl ∧ p.lim.hl ≤ p.lim.sl ∧ p.lim.sl ≤ p.lim.sh ∧ p.lim.sh ≤ p.lim.hh ∧ p.lim.hh ≤ 100000
  st : 1 ≤ p.st ∧ p.st ≤ 5
  left : 0 ≤ p.left ∧ p.left ≤ 100000000
  given : 0 ≤ p.given ∧ p.given ≤ 100000000
  asked : p.asked = 0 ∨ (¬ (p.lim.sl ≤ p.asked ∧ p.asked ≤ p.lim.sh) ∧ p.lim.hl ≤ p.asked ∧ p.asked ≤ p.lim.hh)
  rate : p.rate = 0 ∨ (p.lim.hl ≤ p.rate ∧ p.rate ≤ p.lim.hh)
  off : p.st = 1 → p.rate = 0 ∧ p.asked = 0
  run : p.st = 3 → 0 < p.rate ∧ p.door = false
  hold : p.st = 4 → 0 < p.rate
theorem right_iff {p : Pm} : pmOk p = true ↔ Right p := by
  rw [pmOk_parts]
  constructor
  · rintro ⟨h1, h2, h3⟩
    simp only [base, Bool.and_eq_true] at h1
    obtain ⟨a, b, c, d⟩ := h1
    simp only [ratesOk, Bool.and_eq_true, Bool.or_eq_true, decide_eq_true_eq, Bool.not_eq_true', soft, hard] at h2
    obtain ⟨e, f⟩ := h2
    refine ⟨limOk_iff.1 a, rng_iff.1 b, rng_iff.1 c, rng_iff.1 d, ?_, f.imp id rng_iff.1, ?_, ?_, ?_⟩
    · rcases e with e | ⟨e1, e2⟩
      · exact .inl e
      · refine .inr ⟨fun q => ?_, rng_iff.1 e2⟩
        rw [rng_iff.2 q] at e1; cases e1
    · intro q; simp [stOk, q] at h3; exact h3
    · intro q; simp [stOk, q] at h3; exact h3
    · intro q; simp [stOk, q] at h3; exact h3
  · intro h
    refine ⟨?_, ?_, ?_⟩
    · simp only [base, Bool.and_eq_true]
      exact ⟨limOk_iff.2 h.lim, rng_iff.2 h.st, rng_iff.2 h.left, rng_iff.2 h.given⟩
    · simp only [ratesOk, Bool.and_eq_true, Bool.or_eq_true, decide_eq_true_eq, Bool.not_eq_true', soft, hard]
      refine ⟨h.asked.imp id fun ⟨a, b⟩ => ⟨?_, rng_iff.2 b⟩, h.rate.imp id rng_iff.2⟩
      cases q : rng p.asked p.lim.sl p.lim.sh with
      | false => rfl
      | true => exact absurd (rng_iff.1 q) a
    · unfold stOk
      split
      · rename_i q; simp [h.off q]
      · split
        · rename_i q; simp [h.run q]
        · split
          · rename_i q; simp [h.hold q]
          · rfl
/-- Is the act for the state? -/
def forK (p : Pm) (k : Int) : Bool :=
  if k = 1 then decide (p.st = 1) || (decide (p.st = 2) || decide (p.st = 4))
  else if k = 2 then decide (p.asked ≠ 0)
  else if k = 3 then (decide (p.st = 2) && decide (0 < p.rate)) || decide (p.st = 4)
  else if k = 4 ∨ k = 7 then decide (p.st = 3)
  else if k = 8 then decide (p.st = 5)
  else if k = 9 ∨ k = 10 then decide (p.st ≠ 3)
  else true
def counts (k : Int) : Bool := decide (k = 1) || (decide (k = 7) || decide (k = 10))
def actOk (a : Ac) : Bool := rng a.kind 1 10 && (!counts a.kind || rng a.n 0 100000)
/-- What an act does. -/
def doK (p : Pm) (a : Ac) : Pm × Int :=
  if a.kind = 1 then (if a.n = 0 ∨ hard p.lim a.n = false then (p, 4) else if soft p.lim a.n = false then ({ p with st := if p.st = 1 then 2 else p.st, asked := a.n }, 5) else ({ p with st := if p.st = 1 then 2 else p.st, rate := a.n, asked := 0 }, 0))
  else if a.kind = 2 then ({ p with rate := p.asked, asked := 0, st := if p.st = 1 then 2 else p.st }, 0)
  else if a.kind = 3 then (if p.door = true then (p, 6) else if p.left = 0 then (p, 7) else ({ p with st := 3, asked := 0 }, 0))
  else if a.kind = 4 then ({ p with st := 4 }, 0)
  else if a.kind = 5 then ({ p with door := true, st := if p.st = 3 then 5 else p.st }, 0)
  else if a.kind = 6 then ({ p with door := false }, 0)
  else if a.kind = 7 then (if 100000000 < p.given + min (p.rate * a.n) p.left then (p, 8) else ({ p with left := p.left - min (p.rate * a.n) p.left, given := p.given + min (p.rate * a.n) p.left, st := if p.left - min (p.rate * a.n) p.left = 0 then 5 else p.st }, 0))
  else if a.kind = 8 then ({ p with st := if 0 < p.rate then 4 else 2 }, 0)
  else if a.kind = 9 then ({ p with st := 1, rate := 0, asked := 0 }, 0)
  else (if 100000000 < p.left + a.n then (p, 8) else ({ p with left := p.left + a.n }, 0))
def step (p : Pm) (a : Ac) : Pm × Int := if actOk a = true then (if forK p a.kind = true then doK p a else (p, 3)) else (p, 2)
def pdo (p : Pm) (a : Ac) : Pm × Int := if pmOk p = true then step p a else (zeroP, 1)
def newP (l : Lm) (left : Int) : Pm := ⟨l, 0, 0, 1, false, left, 0⟩
def new (l : Lm) (left : Int) : Pm × Bool := if pmOk (newP l left) = true then (newP l left, true) else (zeroP, false)
/-- Acts in a row. -/
def play (p : Pm) : List Ac → Pm
  | [] => p
  | a :: as => play (step p a).1 as
def codes (p : Pm) : List Ac → List Int
  | [] => []
  | a :: as => (step p a).2 :: codes (step p a).1 as
theorem play_snoc (l : List Ac) : ∀ (p : Pm) (a : Ac), play p (l ++ [a]) = (step (play p l) a).1 := by
  induction l with
  | nil => intro p a; rfl
  | cons b l ih => intro p a; exact ih _ _
theorem codes_snoc (l : List Ac) : ∀ (p : Pm) (a : Ac), codes p (l ++ [a]) = codes p l ++ [(step (play p l) a).2] := by
  induction l with
  | nil => intro p a; rfl
  | cons b l ih => intro p a; rw [List.cons_append, codes, ih]; rfl
theorem codes_len (l : List Ac) : ∀ p, (codes p l).length = l.length := by
  induction l with
  | nil => intro p; rfl
  | cons b l ih => intro p; rw [codes, List.length_cons, ih, List.length_cons]
def pplay (l : Lm) (left : Int) (as : List Ac) : Pm × List Int := if (new l left).2 = true ∧ as.length ≤ 1000 then (play (newP l left) as, codes (newP l left) as) else (zeroP, [])

set_option maxHeartbeats 4000000 in
/-- A right pump stays right. -/
theorem right_step {p : Pm} (h : Right p) (a : Ac) : Right (step p a).1 := by
  unfold step
  split
  case isFalse => exact h
  rename_i ha
  split
  case isFalse => exact h
  rename_i hf
  simp only [actOk, Bool.and_eq_true] at ha
  obtain ⟨a1, a2⟩ := ha
  obtain ⟨k1, k2⟩ := rng_iff.1 a1
  obtain ⟨h1, h2, h3, h4, h5, h6, h7, h8, h9⟩ := h
  have hN : counts a.kind = true → 0 ≤ a.n ∧ a.n ≤ 100000 := fun q => by
    rw [q] at a2; simp at a2; exact rng_iff.1 a2
  unfold doK
  split
  · rename_i e
    have n1 := hN (by simp [counts, e])
    simp [forK, e] at hf
    split
    · exact ⟨h1, h2, h3, h4, h5, h6, h7, h8, h9⟩
    · rename_i q
      have hh : p.lim.hl ≤ a.n ∧ a.n ≤ p.lim.hh := rng_iff.1 (by cases z : hard p.lim a.n with | true => exact z | false => exact absurd (.inr z) q)
      have hz : a.n ≠ 0 := fun z => q (.inl z)
      split
      · rename_i q2
        have hs : ¬ (p.lim.sl ≤ a.n ∧ a.n ≤ p.lim.sh) := fun z => by rw [soft, rng_iff.2 z] at q2; cases q2
        refine ⟨h1, ?_, h3, h4, .inr ⟨hs, hh⟩, h6, ?_, ?_, ?_⟩
        · dsimp only; split <;> omega
        · intro z; dsimp only at z; split at z <;> omega
        · intro z; dsimp only at z; split at z
          · omega
          · omega
        · intro z; dsimp only at z; split at z
          · omega
          · exact h9 z
      · refine ⟨h1, ?_, h3, h4, .inl rfl, .inr hh, ?_, ?_, ?_⟩
        · dsimp only; split <;> omega
        · intro z; dsimp only at z; split at z <;> omega
        · intro z; dsimp only at z; split at z
          · omega
          · omega
        · intro z; show 0 < a.n; omega
  split
  · rename_i e
    simp [forK, e] at hf
    have hk := h5.resolve_left hf
    have hpos : 0 < p.asked := by omega
    refine ⟨h1, ?_, h3, h4, .inl rfl, .inr hk.2, ?_, ?_, ?_⟩
    · dsimp only; split <;> omega
    · intro z; dsimp only at z; split at z <;> omega
    · intro z; dsimp only at z; split at z
      · omega
      · exact ⟨hpos, (h8 z).2⟩
    · intro z; exact hpos
  split
  · rename_i e
    simp [forK, e] at hf
    split
    · exact ⟨h1, h2, h3, h4, h5, h6, h7, h8, h9⟩
    · rename_i hd
      split
      · exact ⟨h1, h2, h3, h4, h5, h6, h7, h8, h9⟩
      · have hp : 0 < p.rate := by
          rcases hf with q | q
          · exact q.2
          · exact h9 q
        exact ⟨h1, by simp, h3, h4, .inl rfl, h6, by simp, fun _ => ⟨hp, by simpa using hd⟩, by simp⟩
  split
  · rename_i e
    simp [forK, e] at hf
    exact ⟨h1, by simp, h3, h4, h5, h6, by simp, by simp, fun _ => (h8 hf).1⟩
  split
  · refine ⟨h1, ?_, h3, h4, h5, h6, ?_, ?_, ?_⟩
    · dsimp only; split <;> omega
    · intro z; dsimp only at z; split at z
      · omega
      · exact h7 z
    · intro z; dsimp only at z; split at z
      · omega
      · rename_i q; exact absurd z q
    · intro z; dsimp only at z; split at z
      · omega
      · exact h9 z
  split
  · exact ⟨h1, h2, h3, h4, h5, h6, h7, fun z => ⟨(h8 z).1, rfl⟩, h9⟩
  split
  · rename_i e
    have n1 := hN (by simp [counts, e])
    simp [forK, e] at hf
    have h8' := h8 hf
    split
    · exact ⟨h1, h2, h3, h4, h5, h6, h7, h8, h9⟩
    · rename_i q
      have hm0 : 0 ≤ min (p.rate * a.n) p.left := by
        have : 0 ≤ p.rate * a.n := Int.mul_nonneg (by omega) n1.1
        omega
      have hm1 : min (p.rate * a.n) p.left ≤ p.left := by omega
      generalize min (p.rate * a.n) p.left = m at *
      refine ⟨h1, ?_, by dsimp only; omega, by dsimp only; omega, h5, h6, ?_, ?_, ?_⟩
      · dsimp only; split <;> omega
      · intro z; dsimp only at z; split at z <;> omega
      · intro z; exact h8'
      · intro z; exact h8'.1
  split
  · refine ⟨h1, ?_, h3, h4, h5, h6, ?_, ?_, ?_⟩
    · dsimp only; split <;> omega
    · intro z; dsimp only at z; split at z <;> omega
    · intro z; dsimp only at z; split at z <;> omega
    · intro z; dsimp only at z; split at z
      · assumption
      · omega
  split
  · exact ⟨h1, by simp, h3, h4, .inl rfl, .inl rfl, fun _ => ⟨rfl, rfl⟩, by simp, by simp⟩
  · rename_i e1 e2 e3 e4 e5 e6 e7 e8 e9
    have e : a.kind = 10 := by omega
    have n1 := hN (by simp [counts, e])
    simp [forK, e] at hf
    split
    · exact ⟨h1, h2, h3, h4, h5, h6, h7, h8, h9⟩
    · exact ⟨h1, h2, by dsimp only; omega, h4, h5, h6, h7, h8, h9⟩
theorem right_new {l : Lm} {left : Int} (h : pmOk (newP l left) = true) : Right (newP l left) := right_iff.1 h
theorem right_play {p : Pm} (h : Right p) : ∀ l, Right (play p l) := by
  intro l
  induction l generalizing p with
  | nil => exact h
  | cons a l ih => exact ih (right_step h a)
end Go.Proofs.Ytamghmnibfbgaaa.Ba
