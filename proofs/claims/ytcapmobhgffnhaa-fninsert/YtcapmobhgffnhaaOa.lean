/-
  Plain facts on operations, their clashes and the earliest time; no Go in sight.
-/
import Derived.Test.YtcapmobhgffnhaaQa
namespace Go.Proofs.Ytcapmobhgffnhaa.Oa
open Va
set_option linter.unusedVariables false

structure Opn where
  room : Int
  fr : Int
  to : Int
  team : List Int

/-- The first n of a team are people, rising. -/
def tTo (l : List Int) (n : Nat) : Prop := ∀ i x, i < n → l[i]? = some x → prs x = true ∧ ∀ y, 0 < i → l[i - 1]? = some y → y < x
def TeamOk (l : List Int) : Prop := 1 ≤ l.length ∧ l.length ≤ 8 ∧ tTo l l.length
noncomputable def tmB (l : List Int) : Bool := by classical exact decide (TeamOk l)
theorem tmB_true {l : List Int} (h : TeamOk l) : tmB l = true := by simp [tmB, h]
theorem tmB_false {l : List Int} (h : ¬ TeamOk l) : tmB l = false := by simp [tmB, h]
theorem of_tmB {l : List Int} (h : tmB l = true) : TeamOk l := by
  rcases Classical.em (TeamOk l) with k | k
  · exact k
  · rw [tmB_false k] at h; cases h
theorem tTo_zero (l : List Int) : tTo l 0 := fun _ _ h => absurd h (Nat.not_lt_zero _)
theorem tTo_succ {l : List Int} {i : Nat} {x : Int} (h : tTo l i) (hx : l[i]? = some x) (h1 : prs x = true) (h2 : ∀ y, 0 < i → l[i - 1]? = some y → y < x) : tTo l (i + 1) := by
  intro j z hj hz
  rcases Nat.lt_succ_iff_lt_or_eq.1 hj with q | rfl
  · exact h j z q hz
  · rw [hx] at hz; cases hz; exact ⟨h1, h2⟩
theorem t_not {l : List Int} {i : Nat} {x : Int} (hx : l[i]? = some x) (h : prs x = false) : ¬ TeamOk l := fun q => by
  rw [(q.2.2 i x (lt_of_get hx) hx).1] at h; cases h
theorem t_not2 {l : List Int} {i : Nat} {x y : Int} (hx : l[i]? = some x) (h0 : 0 < i) (hy : l[i - 1]? = some y) (h : x ≤ y) : ¬ TeamOk l := fun q => by
  have := (q.2.2 i x (lt_of_get hx) hx).2 y h0 hy; omega

/-- A right operation. -/
noncomputable def opB (o : Opn) : Bool := rng o.room 0 99 && (tmv o.fr && (tmv o.to && (decide (o.fr < o.to) && tmB o.team)))
theorem of_opB {o : Opn} (h : opB o = true) : (0 ≤ o.room ∧ o.room ≤ 99) ∧ (0 ≤ o.fr ∧ o.fr ≤ 10000000) ∧ (0 ≤ o.to ∧ o.to ≤ 10000000) ∧ o.fr < o.to ∧ TeamOk o.team := by
  unfold opB at h
  simp only [Bool.and_eq_true, decide_eq_true_eq] at h
  exact ⟨rng_iff.1 h.1, tmv_iff.1 h.2.1, tmv_iff.1 h.2.2.1, h.2.2.2.1, of_tmB h.2.2.2.2⟩
def oTo (l : List Opn) (n : Nat) : Prop := ∀ i x, i < n → l[i]? = some x → opB x = true
def OpsOk (l : List Opn) : Prop := l.length ≤ 200 ∧ oTo l l.length
noncomputable def osB (l : List Opn) : Bool := by classical exact decide (OpsOk l)
theorem osB_true {l : List Opn} (h : OpsOk l) : osB l = true := by simp [osB, h]
theorem osB_false {l : List Opn} (h : ¬ OpsOk l) : osB l = false := by simp [osB, h]
theorem of_osB {l : List Opn} (h : osB l = true) : OpsOk l := by
  rcases Classical.em (OpsOk l) with k | k
  · exact k
  · rw [osB_false k] at h; cases h
theorem oTo_zero (l : List Opn) : oTo l 0 := fun _ _ h => absurd h (Nat.not_lt_zero _)
theorem oTo_succ {l : List Opn} {i : Nat} {x : Opn} (h : oTo l i) (hx : l[i]? = some x) (h1 : opB x = true) : oTo l (i + 1) := by
  intro j z hj hz
  rcases Nat.lt_succ_iff_lt_or_eq.1 hj with q | rfl
  · exact h j z q hz
  · rw [hx] at hz; cases hz; exact h1
theorem o_not {l : List Opn} {i : Nat} {x : Opn} (hx : l[i]? = some x) (h : opB x = false) : ¬ OpsOk l := fun q => by
  rw [q.2 i x (lt_of_get hx) hx] at h; cases h
theorem OpsOk.at {l : List Opn} (h : OpsOk l) {i : Nat} {x : Opn} (hx : l[i]? = some x) : opB x = true := h.2 i x (lt_of_get hx) hx
theorem OpsOk.mem {l : List Opn} (h : OpsOk l) {x : Opn} (hx : x ∈ l) : opB x = true := by
  obtain ⟨i, hi⟩ := List.getElem?_of_mem hx
  exact h.at hi

/-- Somebody is in the team. -/
def has (l : List Int) (x : Int) : Bool := l.any (fun y => decide (x = y))
/-- Somebody is in both teams. -/
def shr (a b : List Int) : Bool := a.any (fun x => has b x)
theorem has_iff {l : List Int} {x : Int} : has l x = true ↔ x ∈ l := by simp [has]
theorem shr_iff {a b : List Int} : shr a b = true ↔ ∃ x, x ∈ a ∧ x ∈ b := by
  simp [shr, List.any_eq_true, has_iff]
theorem shr_comm (a b : List Int) : shr a b = shr b a := by
  rw [Bool.eq_iff_iff, shr_iff, shr_iff]
  constructor
  · rintro ⟨x, h1, h2⟩; exact ⟨x, h2, h1⟩
  · rintro ⟨x, h1, h2⟩; exact ⟨x, h2, h1⟩
theorem has_take {l : List Int} {i : Nat} {x y : Int} (h : has (l.take i) x = false) (hy : l[i]? = some y) (hn : x ≠ y) : has (l.take (i + 1)) x = false := by
  rw [List.take_add_one, hy, has, List.any_append]
  rw [has] at h
  rw [h]
  simp [hn]
theorem shr_take {a b : List Int} {i : Nat} {x : Int} (h : shr (a.take i) b = false) (hx : a[i]? = some x) (hn : has b x = false) : shr (a.take (i + 1)) b = false := by
  rw [List.take_add_one, hx, shr, List.any_append]
  rw [shr] at h
  rw [h]
  simp [hn]
theorem shr_true {a b : List Int} {i : Nat} {x : Int} (hx : a[i]? = some x) (hn : has b x = true) : shr a b = true :=
  List.any_eq_true.2 ⟨x, List.mem_of_getElem? hx, hn⟩
theorem has_true {l : List Int} {i : Nat} {x : Int} (hx : l[i]? = some x) : has l x = true := has_iff.2 (List.mem_of_getElem? hx)

/-- Why two cannot both be. -/
def why (a b : Opn) (r : Int) : Int := if a.room = b.room ∧ a.fr < b.to ∧ b.fr < a.to then 1 else if shr a.team b.team = true ∧ a.fr < b.to + r ∧ b.fr < a.to + r then 2 else 0
theorem why_comm (a b : Opn) (r : Int) : why a b r = why b a r := by
  unfold why
  rw [shr_comm b.team a.team]
  have e1 : (b.room = a.room ∧ b.fr < a.to ∧ a.fr < b.to) = (a.room = b.room ∧ a.fr < b.to ∧ b.fr < a.to) := propext ⟨fun ⟨x, y, z⟩ => ⟨x.symm, z, y⟩, fun ⟨x, y, z⟩ => ⟨x.symm, z, y⟩⟩
  have e2 : (shr a.team b.team = true ∧ b.fr < a.to + r ∧ a.fr < b.to + r) = (shr a.team b.team = true ∧ a.fr < b.to + r ∧ b.fr < a.to + r) := propext ⟨fun ⟨x, y, z⟩ => ⟨x, z, y⟩, fun ⟨x, y, z⟩ => ⟨x, z, y⟩⟩
  simp only [e1, e2]
theorem why_zero {a b : Opn} {r : Int} : why a b r = 0 ↔ ¬ (a.room = b.room ∧ a.fr < b.to ∧ b.fr < a.to) ∧ ¬ (shr a.team b.team = true ∧ a.fr < b.to + r ∧ b.fr < a.to + r) := by
  unfold why
  constructor
  · intro h
    split at h
    · omega
    · split at h
      · omega
      · exact ⟨‹_›, ‹_›⟩
  · rintro ⟨h1, h2⟩
    rw [if_neg h1, if_neg h2]
theorem why_bd (a b : Opn) (r : Int) : 0 ≤ why a b r ∧ why a b r ≤ 2 := by
  unfold why; split
  · omega
  · split <;> omega

structure Cl where
  a : Int
  b : Int
  w : Int

/-- The clashes of x, which stands at i, with those of the first n that stand behind it. -/
def inner (l : List Opn) (r : Int) (i : Nat) (x : Opn) : Nat → List Cl
  | 0 => []
  | k + 1 => inner l r i x k ++ (if i < k then (match l[k]? with | some y => if why x y r = 0 then [] else [⟨i, k, why x y r⟩] | none => []) else [])
/-- The clashes whose first stands among the first n. -/
def upto (l : List Opn) (r : Int) : Nat → List Cl
  | 0 => []
  | i + 1 => upto l r i ++ (match l[i]? with | some x => inner l r i x l.length | none => [])
def isR (r : Int) : Prop := 0 ≤ r ∧ r ≤ 1440
noncomputable def clash (l : List Opn) (r : Int) : List Cl := by classical exact if OpsOk l ∧ isR r then upto l r l.length else []
theorem inner_nil (l : List Opn) (r : Int) (i : Nat) (x : Opn) : ∀ k, k ≤ i + 1 → inner l r i x k = [] := by
  intro k
  induction k with
  | zero => intro _; rfl
  | succ k ih => intro h; rw [inner, ih (by omega), if_neg (by omega)]; rfl
theorem inner_no {l : List Opn} {r : Int} {i k : Nat} {x y : Opn} (hi : i < k) (hy : l[k]? = some y) (h : why x y r = 0) : inner l r i x (k + 1) = inner l r i x k := by
  rw [inner, if_pos hi, hy]; simp [h]
theorem inner_yes {l : List Opn} {r : Int} {i k : Nat} {x y : Opn} (hi : i < k) (hy : l[k]? = some y) (h : why x y r ≠ 0) : inner l r i x (k + 1) = inner l r i x k ++ [⟨i, k, why x y r⟩] := by
  rw [inner, if_pos hi, hy]; simp [h]
theorem upto_succ {l : List Opn} {r : Int} {i : Nat} {x : Opn} (hx : l[i]? = some x) : upto l r (i + 1) = upto l r i ++ inner l r i x l.length := by
  rw [upto, hx]
theorem clash_yes {l : List Opn} {r : Int} (h : OpsOk l) (h2 : isR r) : clash l r = upto l r l.length := by simp [clash, h, h2]
theorem clash_no {l : List Opn} {r : Int} (h : ¬ (OpsOk l ∧ isR r)) : clash l r = [] := by unfold clash; rw [if_neg h]
theorem inner_len (l : List Opn) (r : Int) (i : Nat) (x : Opn) : ∀ k, (inner l r i x k).length ≤ k := by
  intro k
  induction k with
  | zero => exact Nat.le_refl _
  | succ k ih =>
    rw [inner, List.length_append]
    split
    · split
      · split
        · simp; omega
        · simp; omega
      · simp; omega
    · simp; omega
theorem upto_len (l : List Opn) (r : Int) : ∀ i, (upto l r i).length ≤ i * l.length := by
  intro i
  induction i with
  | zero => simp [upto]
  | succ i ih =>
    rw [upto, List.length_append, Nat.succ_mul]
    split
    · rename_i x _
      have := inner_len l r i x l.length; omega
    · simp; omega

/-- The operation, beginning at t. -/
def mv (o : Opn) (t : Int) : Opn := ⟨o.room, t, t + (o.to - o.fr), o.team⟩
theorem mv_self (o : Opn) : mv o o.fr = o := by cases o; simp [mv]; omega
/-- It clashes with none. -/
def Fit (l : List Opn) (o : Opn) (r t : Int) : Prop := ∀ x, x ∈ l → why x (mv o t) r = 0
def OkT (l : List Opn) (o : Opn) (r t : Int) : Prop := o.fr ≤ t ∧ t + (o.to - o.fr) ≤ 10000000 ∧ Fit l o r t
/-- t is the earliest time; -1: there is none. -/
def Early (l : List Opn) (o : Opn) (r t : Int) : Prop := (OkT l o r t ∧ ∀ s, s < t → ¬ OkT l o r s) ∨ (t = -1 ∧ ∀ s, ¬ OkT l o r s)
noncomputable def earl (l : List Opn) (o : Opn) (r : Int) : Int := by classical exact if h : ∃ t, Early l o r t then h.choose else -1
theorem Early.one {l : List Opn} {o : Opn} {r t s : Int} (h : Early l o r t) (h2 : Early l o r s) : t = s := by
  rcases h with ⟨h, h'⟩ | ⟨rfl, h'⟩
  · rcases h2 with ⟨k, k'⟩ | ⟨rfl, k'⟩
    · rcases Int.lt_trichotomy t s with q | q | q
      · exact absurd h (k' _ q)
      · exact q
      · exact absurd k (h' _ q)
    · exact absurd h (k' _)
  · rcases h2 with ⟨k, k'⟩ | ⟨rfl, k'⟩
    · exact absurd k (h' _)
    · rfl
theorem Early.eq {l : List Opn} {o : Opn} {r t : Int} (h : Early l o r t) : t = earl l o r := by
  have hx : ∃ t, Early l o r t := ⟨t, h⟩
  unfold earl
  rw [dif_pos hx]
  exact h.one hx.choose_spec
theorem Early.bd {l : List Opn} {o : Opn} {r t : Int} (h : Early l o r t) (ho : opB o = true) : -1 ≤ t ∧ t ≤ 10000000 ∧ (t < 0 → t = -1) ∧ (0 ≤ t → o.fr ≤ t ∧ t + (o.to - o.fr) ≤ 10000000) := by
  obtain ⟨-, h1, h2, h3, -⟩ := of_opB ho
  rcases h with ⟨⟨a, b, -⟩, -⟩ | ⟨rfl, -⟩
  · refine ⟨by omega, by omega, by omega, fun _ => ⟨a, b⟩⟩
  · refine ⟨by omega, by omega, by omega, fun q => by omega⟩

/-! The program goes from clash to clash. -/
/-- Nothing ahead of T does. -/
def Past (l : List Opn) (o : Opn) (r T : Int) : Prop := o.fr ≤ T ∧ ∀ s, o.fr ≤ s → s < T → ¬ Fit l o r s
theorem past_zero (l : List Opn) (o : Opn) (r : Int) : Past l o r o.fr := ⟨Int.le_refl _, fun s h1 h2 => by omega⟩
theorem past_room {l : List Opn} {o x : Opn} {r T : Int} (h : Past l o r T) (hx : x ∈ l) (ho : o.fr < o.to) (hw : why (mv o T) x r = 1) : T < x.to ∧ Past l o r x.to := by
  unfold why at hw
  split at hw
  · rename_i hc
    obtain ⟨h1, h2, h3⟩ := hc
    simp only [mv] at h1 h2 h3
    refine ⟨h2, by have := h.1; omega, fun s hs hs2 hf => ?_⟩
    by_cases q : s < T
    · exact h.2 s hs q hf
    · have hz := hf x hx
      unfold why at hz
      rw [if_pos (by simp only [mv]; exact ⟨h1.symm, by omega, by omega⟩)] at hz
      cases hz
  · split at hw <;> omega
theorem past_people {l : List Opn} {o x : Opn} {r T : Int} (h : Past l o r T) (hx : x ∈ l) (ho : o.fr < o.to) (hw : why (mv o T) x r = 2) : T < x.to + r ∧ Past l o r (x.to + r) := by
  unfold why at hw
  split at hw
  · omega
  · split at hw
    · rename_i hc
      obtain ⟨h1, h2, h3⟩ := hc
      simp only [mv] at h1 h2 h3
      refine ⟨h2, by have := h.1; omega, fun s hs hs2 hf => ?_⟩
      by_cases q : s < T
      · exact h.2 s hs q hf
      · have hz := hf x hx
        unfold why at hz
        split at hz
        · omega
        · rw [if_pos (by simp only [mv]; exact ⟨by rw [shr_comm]; exact h1, by omega, by omega⟩)] at hz
          omega
    · omega
theorem past_end {l : List Opn} {o : Opn} {r T : Int} (h : Past l o r T) (hT : 10000000 < T + (o.to - o.fr)) : Early l o r (-1) := by
  refine Or.inr ⟨rfl, fun s hs => ?_⟩
  exact h.2 s hs.1 (by have := hs.2.1; omega) hs.2.2
theorem past_ok {l : List Opn} {o : Opn} {r T : Int} (h : Past l o r T) (hT : T + (o.to - o.fr) ≤ 10000000) (hf : ∀ i x, i < l.length → l[i]? = some x → why (mv o T) x r = 0) : Early l o r T := by
  refine Or.inl ⟨⟨h.1, hT, fun x hx => ?_⟩, fun s hs hk => h.2 s hk.1 hs hk.2.2⟩
  obtain ⟨i, hi⟩ := List.getElem?_of_mem hx
  rw [why_comm]
  exact hf i x (lt_of_get hi) hi

/-! The specification tries the ends of all others. -/
def candAt (l : List Opn) (o : Opn) (r : Int) (m : Nat) : Option Int := if m < 2 then some o.fr else (l[m / 2 - 1]?).map (fun x => x.to + ((m % 2 : Nat) : Int) * r)
def Best (l : List Opn) (o : Opn) (r : Int) (M : Nat) (b : Int) : Prop := (b = -1 ∨ (0 ≤ b ∧ OkT l o r b)) ∧ ∀ m c, m < M → candAt l o r m = some c → OkT l o r c → 0 ≤ b ∧ b ≤ c
theorem best_zero (l : List Opn) (o : Opn) (r : Int) : Best l o r 0 (-1) := ⟨Or.inl rfl, fun _ _ h => absurd h (Nat.not_lt_zero _)⟩
theorem best_skip {l : List Opn} {o : Opn} {r : Int} {M : Nat} {b c : Int} (h : Best l o r M b) (hc : candAt l o r M = some c) (hs : c < o.fr ∨ (0 ≤ b ∧ b ≤ c) ∨ 10000000 < c + (o.to - o.fr) ∨ ¬ Fit l o r c) : Best l o r (M + 1) b := by
  refine ⟨h.1, fun m d hm hd hk => ?_⟩
  rcases Nat.lt_succ_iff_lt_or_eq.1 hm with q | rfl
  · exact h.2 m d q hd hk
  · rw [hc] at hd
    cases hd
    rcases hs with s | s | s | s
    · have := hk.1; omega
    · exact s
    · have := hk.2.1; omega
    · exact absurd hk.2.2 s
theorem best_take {l : List Opn} {o : Opn} {r : Int} {M : Nat} {b c : Int} (h : Best l o r M b) (h0 : 0 ≤ o.fr) (hc : candAt l o r M = some c) (hk : OkT l o r c) (hb : ¬ (0 ≤ b ∧ b ≤ c)) : Best l o r (M + 1) c := by
  have hc0 : 0 ≤ c := by have := hk.1; omega
  refine ⟨Or.inr ⟨hc0, hk⟩, fun m d hm hd hk2 => ⟨hc0, ?_⟩⟩
  rcases Nat.lt_succ_iff_lt_or_eq.1 hm with q | rfl
  · have := h.2 m d q hd hk2
    omega
  · rw [hc] at hd
    cases hd
    exact Int.le_refl _
theorem cand_of {l : List Opn} {o : Opn} {r : Int} (ho : o.fr < o.to) : ∀ n : Nat, Fit l o r (o.fr + n) → o.fr + n + (o.to - o.fr) ≤ 10000000 → ∃ m c, m < 2 * (l.length + 1) ∧ candAt l o r m = some c ∧ c ≤ o.fr + n ∧ OkT l o r c := by
  intro n
  induction n with
  | zero => intro h h2; exact ⟨0, o.fr, by omega, by simp [candAt], by omega, Int.le_refl _, by simpa using h2, by simpa using h⟩
  | succ n ih =>
    intro h h2
    rcases Classical.em (Fit l o r (o.fr + n)) with q | q
    · obtain ⟨m, c, h3, h4, h5, h6⟩ := ih q (by omega)
      exact ⟨m, c, h3, h4, by omega, h6⟩
    · have : ∃ x, x ∈ l ∧ why x (mv o (o.fr + n)) r ≠ 0 := by
        apply Classical.byContradiction
        intro hn
        refine q fun x hx => ?_
        apply Classical.byContradiction
        exact fun hw => hn ⟨x, hx, hw⟩
      obtain ⟨x, hx, hw⟩ := this
      have hz := h x hx
      have hend : o.fr + (n + 1 : Nat) = x.to ∨ o.fr + (n + 1 : Nat) = x.to + r := by
        obtain ⟨z1, z2⟩ := why_zero.1 hz
        simp only [mv] at z1 z2
        by_cases c1 : x.room = o.room ∧ x.fr < o.fr + n + (o.to - o.fr) ∧ o.fr + n < x.to
        · left
          apply Classical.byContradiction
          intro hne
          exact z1 ⟨c1.1, by omega, by omega⟩
        · by_cases c2 : shr x.team o.team = true ∧ x.fr < o.fr + n + (o.to - o.fr) + r ∧ o.fr + n < x.to + r
          · right
            apply Classical.byContradiction
            intro hne
            exact z2 ⟨c2.1, by omega, by omega⟩
          · exact absurd (why_zero.2 (by simp only [mv]; exact ⟨c1, c2⟩)) hw
      obtain ⟨j, hj⟩ := List.getElem?_of_mem hx
      have hjl := lt_of_get hj
      have hk : OkT l o r (o.fr + (n + 1 : Nat)) := ⟨by omega, h2, h⟩
      rcases hend with e | e
      · refine ⟨2 * (j + 1), _, by omega, ?_, Int.le_refl _, hk⟩
        rw [candAt, if_neg (by omega), show 2 * (j + 1) / 2 - 1 = j by omega, hj, show 2 * (j + 1) % 2 = 0 by omega]
        simp; omega
      · refine ⟨2 * (j + 1) + 1, _, by omega, ?_, Int.le_refl _, hk⟩
        rw [candAt, if_neg (by omega), show (2 * (j + 1) + 1) / 2 - 1 = j by omega, hj, show (2 * (j + 1) + 1) % 2 = 1 by omega]
        simp; omega
theorem best_end {l : List Opn} {o : Opn} {r b : Int} (ho : o.fr < o.to) (h : Best l o r (2 * (l.length + 1)) b) : Early l o r b := by
  have key : ∀ s, OkT l o r s → 0 ≤ b ∧ b ≤ s := by
    intro s hs
    obtain ⟨m, c, h3, h4, h5, h6⟩ := cand_of (l := l) (r := r) ho (s - o.fr).toNat (by
      have := hs.1
      rw [show o.fr + ((s - o.fr).toNat : Int) = s by omega]; exact hs.2.2) (by have := hs.2.1; have := hs.1; omega)
    have := h.2 m c h3 h4 h6
    have := hs.1
    exact ⟨this |> fun _ => by omega, by omega⟩
  rcases h.1 with rfl | ⟨h0, hk⟩
  · exact Or.inr ⟨rfl, fun s hs => by have := key s hs; omega⟩
  · exact Or.inl ⟨hk, fun s hs hk2 => by have := key s hk2; omega⟩

/-! An emergency. -/
def stay (l : List Opn) (u : Opn) (r : Int) : Nat → List Opn
  | 0 => [u]
  | i + 1 => stay l u r i ++ (match l[i]? with | some x => if why x u r = 0 then [x] else [] | none => [])
/-- The first n put back: the list so far, who is settled, the minutes. -/
noncomputable def ins (l : List Opn) (u : Opn) (r : Int) : Nat → Option (List Opn × List Opn × Int)
  | 0 => some ([], stay l u r l.length, 0)
  | i + 1 => match ins l u r i, l[i]? with
    | some (P, S, h), some x => if why x u r = 0 then some (P ++ [x], S, h) else if earl S x r < 0 then none else some (P ++ [mv x (earl S x r)], S ++ [mv x (earl S x r)], h + (earl S x r - x.fr))
    | _, _ => none
noncomputable def insert (l : List Opn) (u : Opn) (r : Int) : List Opn × Int × Bool := by
  classical exact if OpsOk l ∧ opB u = true ∧ isR r ∧ l.length ≠ 200 ∧ (clash l r).length = 0 then (match ins l u r l.length with | some (P, _, h) => (P ++ [u], h, true) | none => ([], 0, false)) else ([], 0, false)

/-- The minutes of somebody, of the first n. -/
def busyTo (l : List Opn) (x : Int) : Nat → Int
  | 0 => 0
  | i + 1 => busyTo l x i + (match l[i]? with | some o => if has o.team x = true then o.to - o.fr else 0 | none => 0)
noncomputable def busy (l : List Opn) (x : Int) : Int := by classical exact if OpsOk l then busyTo l x l.length else -1
theorem busyTo_succ {l : List Opn} {x : Int} {i : Nat} {o : Opn} (h : l[i]? = some o) : busyTo l x (i + 1) = busyTo l x i + (if has o.team x = true then o.to - o.fr else 0) := by rw [busyTo, h]
theorem busyTo_bd {l : List Opn} {x : Int} (h : OpsOk l) : ∀ i, i ≤ l.length → 0 ≤ busyTo l x i ∧ busyTo l x i ≤ i * 10000000 := by
  intro i
  induction i with
  | zero => intro _; simp [busyTo]
  | succ i ih =>
    intro hi
    have := ih (by omega)
    obtain ⟨o, ho⟩ : ∃ o, l[i]? = some o := ⟨_, List.getElem?_eq_getElem (by omega)⟩
    rw [busyTo_succ ho]
    obtain ⟨-, h1, h2, h3, -⟩ := of_opB (h.at ho)
    split <;> omega
theorem busy_yes {l : List Opn} {x : Int} (h : OpsOk l) : busy l x = busyTo l x l.length := by simp [busy, h]
theorem busy_no {l : List Opn} {x : Int} (h : ¬ OpsOk l) : busy l x = -1 := by simp [busy, h]
end Go.Proofs.Ytcapmobhgffnhaa.Oa
