/-
  Trials: no Go in sight.
-/
import Derived.Test.YthenphbmkmagaaaVa
namespace Go.Proofs.Ythenphbmkmagaaa.Tr
open Va
set_option linter.all false

structure Tl where
  arms : Int
  block : Int
  coins : List Int
  told : Int

theorem get_ltR {α : Type} {l : List α} {i : Nat} {x : α} (h : l[i]? = some x) : i < l.length := (List.getElem?_eq_some_iff.1 h).1

/-- Is a trial right? -/
def trialB (x : Tl) : Bool := rng x.arms 2 5 && (rng x.block 1 20 && (decide (x.block % x.arms = 0) && (decide (x.coins.length ≤ 4096) && (rng x.told 0 1000 && x.coins.all fun c => decide (0 ≤ c)))))
theorem trialB_iff {x : Tl} : trialB x = true ↔ (2 ≤ x.arms ∧ x.arms ≤ 5) ∧ (1 ≤ x.block ∧ x.block ≤ 20) ∧ x.block % x.arms = 0 ∧ x.coins.length ≤ 4096 ∧ (0 ≤ x.told ∧ x.told ≤ 1000) ∧ ∀ c ∈ x.coins, 0 ≤ c := by
  simp [trialB, rng]

/-- Are all of the coins right? -/
def coinsTo (l : List Int) (i : Nat) : Prop := ∀ c ∈ l.take i, 0 ≤ c
theorem coinsTo_zero (l : List Int) : coinsTo l 0 := by intro c hc; simp at hc
theorem coinsTo_succ {l : List Int} {i : Nat} {x : Int} (hx : l[i]? = some x) (h : coinsTo l i) (h0 : 0 ≤ x) : coinsTo l (i + 1) := by
  intro c hc
  rw [List.take_add_one, hx] at hc
  rcases List.mem_append.1 hc with hc | hc
  · exact h c hc
  · simp at hc; omega
theorem coinsTo_all {l : List Int} {i : Nat} (h : coinsTo l i) (hi : l.length ≤ i) : ∀ c ∈ l, 0 ≤ c := by
  intro c hc
  refine h c ?_
  rwa [List.take_of_length_le hi]

/-- Two places exchanged. -/
def swp (L : List Int) (k j : Nat) : List Int := (L.set k (L[j]?.getD 0)).set j (L[k]?.getD 0)
theorem swp_len (L : List Int) (k j : Nat) : (swp L k j).length = L.length := by simp [swp]
theorem swp_perm {L : List Int} {k j : Nat} (hk : k < L.length) (hj : j < L.length) : (swp L k j).Perm L := by
  unfold swp
  rw [List.getElem?_eq_getElem hk, List.getElem?_eq_getElem hj]
  exact List.set_set_perm hk hj

/-- The coin of that number. -/
def coin (cs : List Int) (n : Nat) : Int := if cs.length = 0 then 0 else cs[n % cs.length]?.getD 0
theorem coin_none {cs : List Int} {n : Nat} (h : cs.length = 0) : coin cs n = 0 := by simp [coin, h]
theorem coin_some {cs : List Int} {n : Nat} {x : Int} (h : cs[n % cs.length]? = some x) : coin cs n = x := by
  have := get_ltR h
  unfold coin
  rw [if_neg (by omega), h]; rfl
theorem coin_nn {cs : List Int} (h : ∀ c ∈ cs, 0 ≤ c) (n : Nat) : 0 ≤ coin cs n := by
  unfold coin
  split
  · omega
  · cases hx : cs[n % cs.length]? with
    | none => simp
    | some x => simpa using h x (List.mem_of_getElem? hx)

/-- What the exchanges from place k down to 1 leave of L. -/
def shuf (cs : List Int) (base B : Nat) : Nat → List Int → List Int
  | 0, L => L
  | k + 1, L => shuf cs base B k (swp L (k + 1) ((coin cs (base + (B - 1 - (k + 1)))).toNat % (k + 2)))
theorem shuf_step {cs : List Int} {base B k : Nat} {L : List Int} (h : 1 ≤ k) : shuf cs base B k L = shuf cs base B (k - 1) (swp L k ((coin cs (base + (B - 1 - k))).toNat % (k + 1))) := by
  cases k with
  | zero => omega
  | succ k => rfl
theorem shuf_perm (cs : List Int) (base B : Nat) : ∀ (k : Nat) (L : List Int), k < L.length → (shuf cs base B k L).Perm L
  | 0, L, _ => List.Perm.refl _
  | k + 1, L, h => by
    have hj : (coin cs (base + (B - 1 - (k + 1)))).toNat % (k + 2) < L.length := Nat.lt_of_lt_of_le (Nat.mod_lt _ (by omega)) (by omega)
    exact (shuf_perm cs base B k _ (by rw [swp_len]; omega)).trans (swp_perm h hj)

def start (A B : Nat) : List Int := (List.range B).map fun i => ((i % A : Nat) : Int)
theorem start_len (A B : Nat) : (start A B).length = B := by simp [start]
theorem start_snoc (A B : Nat) : start A (B + 1) = start A B ++ [((B % A : Nat) : Int)] := by simp [start, List.range_succ]
theorem start_get {A B i : Nat} (h : i < B) : (start A B)[i]? = some ((i % A : Nat) : Int) := by simp [start, h]

def Tl.a (x : Tl) : Nat := x.arms.toNat
def Tl.b (x : Tl) : Nat := x.block.toNat
/-- The order of a block. -/
def blk (x : Tl) (b : Nat) : List Int := shuf x.coins (b * x.b) x.b (x.b - 1) (start x.a x.b)
theorem blk_perm {x : Tl} (h : trialB x = true) (b : Nat) : (blk x b).Perm (start x.a x.b) := by
  have := trialB_iff.1 h
  exact shuf_perm _ _ _ _ _ (by rw [start_len]; unfold Tl.b; omega)
theorem blk_len {x : Tl} (h : trialB x = true) (b : Nat) : (blk x b).length = x.b := by rw [(blk_perm h b).length_eq, start_len]
theorem blk_rng {x : Tl} (h : trialB x = true) {b : Nat} {y : Int} (hy : y ∈ blk x b) : 0 ≤ y ∧ y < x.arms := by
  have h2 := (trialB_iff.1 h).1
  have := (blk_perm h b).mem_iff.1 hy
  obtain ⟨i, -, rfl⟩ := List.mem_map.1 this
  have := Nat.mod_lt i (show x.a > 0 by unfold Tl.a; omega)
  unfold Tl.a at this
  unfold Tl.a
  omega
theorem start_count : ∀ A, A < 6 → ∀ B, B < 21 → B % A = 0 → ∀ a, a < A → (start A B).count (a : Int) = B / A := by decide +kernel
theorem blk_count {x : Tl} (h : trialB x = true) (b : Nat) {a : Nat} (ha : a < x.a) : (blk x b).count (a : Int) = x.b / x.a := by
  obtain ⟨⟨h1, h2⟩, ⟨h3, h4⟩, h5, -⟩ := trialB_iff.1 h
  rw [(blk_perm h b).count_eq]
  refine start_count x.a (by unfold Tl.a; omega) x.b (by unfold Tl.b; omega) ?_ a ha
  unfold Tl.a Tl.b
  have e1 : ((x.block.toNat : Nat) : Int) = x.block := by omega
  have e2 : ((x.arms.toNat : Nat) : Int) = x.arms := by omega
  have : ((x.block.toNat % x.arms.toNat : Nat) : Int) = 0 := by rw [Int.natCast_emod, e1, e2]; exact h5
  omega

/-- The arm of number i. -/
def alloc (x : Tl) (i : Nat) : Int := (blk x (i / x.b))[i % x.b]?.getD 0
theorem b_pos {x : Tl} (h : trialB x = true) : 0 < x.b := by have := trialB_iff.1 h; unfold Tl.b; omega
theorem alloc_get {x : Tl} (h : trialB x = true) (i : Nat) : (blk x (i / x.b))[i % x.b]? = some (alloc x i) := by
  have : i % x.b < (blk x (i / x.b)).length := by rw [blk_len h]; exact Nat.mod_lt _ (b_pos h)
  unfold alloc
  rw [List.getElem?_eq_getElem this]; rfl
theorem alloc_rng {x : Tl} (h : trialB x = true) (i : Nat) : 0 ≤ alloc x i ∧ alloc x i < x.arms := blk_rng h (List.mem_of_getElem? (alloc_get h i))
theorem alloc_in {x : Tl} (h : trialB x = true) {b p : Nat} (hp : p < x.b) : (blk x b)[p]? = some (alloc x (b * x.b + p)) := by
  have := alloc_get h (b * x.b + p)
  have hb := b_pos h
  rw [show (b * x.b + p) / x.b = b by rw [Nat.mul_comm, Nat.mul_add_div hb]; simp [Nat.div_eq_of_lt hp], show (b * x.b + p) % x.b = p by rw [Nat.mul_comm, Nat.mul_add_mod]; exact Nat.mod_eq_of_lt hp] at this
  exact this
def allocation (x : Tl) (i : Int) : Int := if trialB x = true ∧ 0 ≤ i ∧ i ≤ 999 then alloc x i.toNat else -1

/-- How many of the first n are in each arm. -/
def bal (x : Tl) (n : Nat) : List Int := (List.range x.a).map fun (a : Nat) => (((List.range n).countP fun i => decide (alloc x i = (a : Int)) : Nat) : Int)
theorem bal_len (x : Tl) (n : Nat) : (bal x n).length = x.a := by simp [bal]
theorem bal_zero (x : Tl) : bal x 0 = List.replicate x.a 0 := by
  apply List.ext_getElem?
  intro i
  simp only [bal, List.getElem?_map, List.getElem?_replicate]
  by_cases h : i < x.a
  · simp [h]
  · simp [h]
theorem bal_get {x : Tl} {n a : Nat} (h : a < x.a) : (bal x n)[a]? = some (((List.range n).countP fun i => decide (alloc x i = (a : Int)) : Nat) : Int) := by simp [bal, h]
theorem bal_succ (x : Tl) (n : Nat) {a : Nat} (e : alloc x n = (a : Int)) (ha : a < x.a) {c : Int} (hc : (bal x n)[a]? = some c) : bal x (n + 1) = (bal x n).set a (c + 1) := by
  rw [bal_get ha] at hc
  apply List.ext_getElem?
  intro i
  by_cases h : i < x.a
  · rw [bal_get h, List.range_succ, List.countP_append]
    by_cases q : i = a
    · subst q
      rw [List.getElem?_set_self (by rw [bal_len]; exact h)]
      simp only [Option.some.injEq] at hc ⊢
      simp [e]
      omega
    · rw [List.getElem?_set_ne (fun e => q e.symm), bal_get h]
      have : ¬ (a : Int) = (i : Int) := by omega
      simp [e, this]
  · rw [List.getElem?_eq_none (by rw [bal_len]; omega), List.getElem?_eq_none (by rw [List.length_set, bal_len]; omega)]
def balance (x : Tl) : List Int := if trialB x = true then bal x x.told.toNat else []
theorem balance_len (x : Tl) : (balance x).length ≤ 5 := by
  unfold balance
  split
  · rename_i h
    rw [bal_len]; unfold Tl.a; have := trialB_iff.1 h; omega
  · simp
theorem bal_rng {x : Tl} {n a : Nat} {c : Int} (hc : (bal x n)[a]? = some c) : 0 ≤ c ∧ c ≤ n := by
  have ha : a < x.a := by have := get_ltR hc; rwa [bal_len] at this
  rw [bal_get ha] at hc
  have := List.countP_le_length (l := List.range n) (p := fun i => decide (alloc x i = (a : Int)))
  simp at hc this
  omega
theorem sum_set (l : List Int) (a : Nat) (c d : Int) (h : l[a]? = some c) : (l.set a d).sum = l.sum + d - c := by
  induction l generalizing a with
  | nil => simp at h
  | cons y l ih =>
    cases a with
    | zero => simp at h; subst h; simp; omega
    | succ a => simp at h; simp [ih a h]; omega
theorem bal_sum {x : Tl} (h : trialB x = true) : ∀ n, (bal x n).sum = (n : Int)
  | 0 => by rw [bal_zero]; simp
  | n + 1 => by
    have hr := alloc_rng h n
    have e : alloc x n = ((alloc x n).toNat : Int) := by omega
    have ha : (alloc x n).toNat < x.a := by unfold Tl.a; omega
    rw [bal_succ x n e ha (bal_get ha), sum_set _ _ _ _ (bal_get ha), bal_sum h n]
    omega
/-- One more told. -/
def Tl.next (x : Tl) : Tl := { x with told := x.told + 1 }
theorem next_ok {x : Tl} (h : trialB x = true) (h2 : x.told ≤ 999) : trialB x.next = true := by
  obtain ⟨h1, h3, h4, h5, h6, h7⟩ := trialB_iff.1 h
  exact trialB_iff.2 ⟨h1, h3, h4, h5, ⟨by show 0 ≤ x.told + 1; omega, by show x.told + 1 ≤ 1000; omega⟩, h7⟩
theorem next_alloc (x : Tl) (i : Nat) : alloc x.next i = alloc x i := rfl
theorem next_bal (x : Tl) (n : Nat) : bal x.next n = bal x n := rfl
end Go.Proofs.Ythenphbmkmagaaa.Tr
