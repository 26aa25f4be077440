/-
  Plain facts on traces from both ends; no Go in sight.
-/
import Derived.Test.YtklgadaefngnnaaWq
namespace Go.Proofs.Ytklgadaefngnnaa.Wa
open Va
set_option linter.unusedVariables false

/-- The numbers below n that are marked. -/
def mkd (f : Nat → Bool) (n : Nat) : List Int := ((List.range n).filter f).map (fun (k : Nat) => (k : Int))
theorem mkd_yes {f : Nat → Bool} {n : Nat} (h : f n = true) : mkd f (n + 1) = mkd f n ++ [(n : Int)] := by simp [mkd, List.range_succ, List.filter_append, h]
theorem mkd_no {f : Nat → Bool} {n : Nat} (h : f n = false) : mkd f (n + 1) = mkd f n := by simp [mkd, List.range_succ, List.filter_append, h]
theorem mkd_len (f : Nat → Bool) (n : Nat) : (mkd f n).length ≤ n := by
  unfold mkd
  rw [List.length_map]
  have := List.length_filter_le f (List.range n)
  simpa using this
theorem mkd_eq {f g : Nat → Bool} {n : Nat} (h : ∀ k, k < n → f k = g k) : mkd f n = mkd g n := by
  unfold mkd
  congr 1
  apply List.filter_congr
  intro k hk
  exact h k (List.mem_range.1 hk)
def atB (l : List Stp) (j : Nat) (c p : Int) : Bool := decide ((bysF rm0 l)[j]? = some c) && decide ((l[j]?).map Stp.per = some p)
/-- Somebody p was touched by the cycle c, among the first i steps. -/
def tch (l : List Stp) (c : Int) (i : Nat) (p : Nat) : Bool := (List.range i).any (fun j => atB l j c p)
/-- The cycle c was on the person q. -/
def cyo (l : List Stp) (q : Int) (i : Nat) (c : Nat) : Bool := (List.range i).any (fun j => atB l j c q)
theorem tch_succ (l : List Stp) (c : Int) (i p : Nat) : tch l c (i + 1) p = (tch l c i p || atB l i c p) := by simp [tch, List.range_succ]
theorem cyo_succ (l : List Stp) (q : Int) (i c : Nat) : cyo l q (i + 1) c = (cyo l q i c || atB l i c q) := by simp [cyo, List.range_succ]
theorem tch_hit {l : List Stp} {c : Int} {i : Nat} {x : Stp} {p : Nat} (hx : l[i]? = some x) (hb : (bysF rm0 l)[i]? = some c) (hp : x.per = (p : Int)) (t : Nat) : tch l c (i + 1) t = upd (tch l c i) p true t := by
  rw [tch_succ]
  unfold upd
  by_cases q : t = p
  · subst q; simp [atB, hb, hx, hp]
  · rw [if_neg q]
    have : atB l i c t = false := by
      unfold atB
      simp only [hb, hx, Option.map_some, hp, Option.some.injEq, Bool.and_eq_false_iff, decide_eq_false_iff_not]
      right; omega
    simp [this]
theorem tch_miss {l : List Stp} {c b : Int} {i : Nat} (hb : (bysF rm0 l)[i]? = some b) (hn : b ≠ c) (t : Nat) : tch l c (i + 1) t = tch l c i t := by
  rw [tch_succ]
  have : atB l i c t = false := by simp [atB, hb, hn]
  simp [this]
theorem cyo_hit {l : List Stp} {q : Int} {i : Nat} {x : Stp} {c : Nat} (hx : l[i]? = some x) (hb : (bysF rm0 l)[i]? = some (c : Int)) (hp : x.per = q) (t : Nat) : cyo l q (i + 1) t = upd (cyo l q i) c true t := by
  rw [cyo_succ]
  unfold upd
  by_cases z : t = c
  · subst z; simp [atB, hb, hx, hp]
  · rw [if_neg z]
    have : atB l i t q = false := by
      unfold atB
      simp only [hb, Option.some.injEq, Bool.and_eq_false_iff, decide_eq_false_iff_not]
      left; omega
    simp [this]
theorem cyo_miss {l : List Stp} {q b : Int} {i : Nat} {x : Stp} (hx : l[i]? = some x) (hb : (bysF rm0 l)[i]? = some b) (hn : b < 0 ∨ x.per ≠ q) (t : Nat) : cyo l q (i + 1) t = cyo l q i t := by
  rw [cyo_succ]
  have : atB l i t q = false := by
    unfold atB
    simp only [hb, hx, Option.map_some, Option.some.injEq, Bool.and_eq_false_iff, decide_eq_false_iff_not]
    rcases hn with h | h
    · left; omega
    · right; exact h
  simp [this]
noncomputable def touched (l : List Stp) (c : Int) : List Int := if ssB l = true ∧ 0 ≤ c ∧ c ≤ 999 then mkd (tch l c l.length) 1000 else []
noncomputable def cyclesOn (l : List Stp) (q : Int) : List Int := if ssB l = true ∧ 0 ≤ q ∧ q ≤ 999 then mkd (cyo l q l.length) 1000 else []
theorem touched_len (l : List Stp) (c : Int) : (touched l c).length ≤ 1000 := by
  unfold touched; split
  · exact mkd_len _ _
  · simp
theorem cyclesOn_len (l : List Stp) (c : Int) : (cyclesOn l c).length ≤ 1000 := by
  unfold cyclesOn; split
  · exact mkd_len _ _
  · simp
/-- The cycles of trays are numbers of cycles. -/
def cyOk (R : Rm) : Prop := ∀ t, 0 ≤ R.cy t ∧ R.cy t ≤ 999
theorem cyOk_nxt {R : Rm} {s : Stp} (h : cyOk R) (hs : StOk s) : cyOk (nxt R s) := by
  have hc := hs.2.1
  unfold n3 at hc
  intro t
  unfold nxt
  split
  · split <;> exact h t
  · split
    · split
      · exact h t
      · split
        · exact h t
        · simp only [upd]; split
          · exact hc
          · exact h t
    · split
      · split <;> exact h t
      · split <;> exact h t
theorem cyOk_run : ∀ (l : List Stp) (R : Rm), cyOk R → (∀ x ∈ l, StOk x) → cyOk (rmF R l)
  | [], _, h, _ => h
  | s :: l, R, h, hs => by
    show cyOk (rmF (nxt R s) l)
    exact cyOk_run l _ (cyOk_nxt h (hs s (by simp))) (fun x hx => hs x (by simp [hx]))
theorem bys_bd {l : List Stp} (h : StepsOk l) {i : Nat} {x : Stp} (hx : l[i]? = some x) : ∃ b, (bysF rm0 l)[i]? = some b ∧ -1 ≤ b ∧ b ≤ 999 := by
  refine ⟨_, bys_get (l := l) l rm0 i x hx, ?_⟩
  have hc := cyOk_run (l.take i) rm0 (fun t => by simp [rm0]) (fun y hy => h.2 y (List.mem_of_mem_take hy)) x.tray.toNat
  unfold byS
  split
  · omega
  · omega
end Go.Proofs.Ytklgadaefngnnaa.Wa
