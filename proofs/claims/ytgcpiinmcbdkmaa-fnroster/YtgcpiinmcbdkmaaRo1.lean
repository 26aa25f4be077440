/-
  The roster: lists, no Go in sight.
-/
import Derived.Test.YtgcpiinmcbdkmaaSy4
namespace Go.Proofs.Ytgcpiinmcbdkmaa.Ro
open Sy
set_option linter.all false

instance (k : Int → Int) (x y : Int) : Decidable (lt k x y) := by unfold lt; infer_instance
/-- A worker: days worked, days in a row. -/
abbrev Wk := Int × Int
def key (ws : List Wk) (x : Int) : Int := (ws.getD x.toNat (0, 0)).1
/-- Who is not resting, of the first n. -/
def rdyTo (ws : List Wk) (run : Int) (n : Nat) : List Int := ((List.range n).filter (fun p => decide ((ws.getD p (0, 0)).2 < run))).map Int.ofNat
def rdy (ws : List Wk) (run : Int) : List Int := rdyTo ws run ws.length
theorem rdyTo_succ (ws : List Wk) (run : Int) (n : Nat) : rdyTo ws run (n + 1) = rdyTo ws run n ++ (if (ws.getD n (0, 0)).2 < run then [(n : Int)] else []) := by
  unfold rdyTo
  rw [List.range_succ, List.filter_append, List.map_append]
  congr 1
  by_cases h : (ws.getD n (0, 0)).2 < run
  · rw [if_pos h, List.filter_cons_of_pos (by simpa using h)]; rfl
  · rw [if_neg h, List.filter_cons_of_neg (by simpa using h)]; rfl
theorem mem_rdyTo {ws : List Wk} {run : Int} {n : Nat} {x : Int} : x ∈ rdyTo ws run n ↔ ∃ p, p < n ∧ (ws.getD p (0, 0)).2 < run ∧ x = (p : Int) := by
  simp only [rdyTo, List.mem_map, List.mem_filter, List.mem_range, decide_eq_true_eq]
  constructor
  · rintro ⟨p, ⟨h1, h2⟩, rfl⟩; exact ⟨p, h1, h2, rfl⟩
  · rintro ⟨p, h1, h2, rfl⟩; exact ⟨p, ⟨h1, h2⟩, rfl⟩
theorem rdyTo_len (ws : List Wk) (run : Int) (n : Nat) : (rdyTo ws run n).length ≤ n := by
  unfold rdyTo; rw [List.length_map]; exact Nat.le_trans (List.length_filter_le _ _) (by simp)
theorem rdyTo_rising (ws : List Wk) (run : Int) (n : Nat) : (rdyTo ws run n).Pairwise (· < ·) := by
  unfold rdyTo
  rw [List.pairwise_map]
  refine List.Pairwise.filter _ (List.Pairwise.imp ?_ (List.pairwise_lt_range (n := n)))
  intro a b h; exact Int.ofNat_lt.2 h
/-- One put into its place. -/
def ins (k : Int → Int) (x : Int) : List Int → List Int
  | [] => [x]
  | y :: l => if lt k x y then x :: y :: l else y :: ins k x l
theorem ins_perm (k : Int → Int) (x : Int) : ∀ l, (ins k x l).Perm (x :: l)
  | [] => List.Perm.refl _
  | y :: l => by
    rw [ins]
    split
    · exact List.Perm.refl _
    · exact ((ins_perm k x l).cons y).trans (List.Perm.swap x y l)
theorem ins_srt {k : Int → Int} {x : Int} : ∀ {l}, Srt k l → x ∉ l → Srt k (ins k x l)
  | [], _, _ => List.pairwise_singleton _ _
  | y :: l, h, hx => by
    obtain ⟨h1, h2⟩ := List.pairwise_cons.1 h
    rw [ins]
    split
    · rename_i hl
      refine List.pairwise_cons.2 ⟨fun z hz => ?_, h⟩
      rcases List.mem_cons.1 hz with rfl | q
      · exact hl
      · exact lt_trans hl (h1 z q)
    · rename_i hl
      refine List.pairwise_cons.2 ⟨fun z hz => ?_, ins_srt h2 (fun q => hx (List.mem_cons_of_mem _ q))⟩
      rcases List.mem_cons.1 ((ins_perm k x l).mem_iff.1 hz) with rfl | q
      · rcases lt_total k (x := z) (y := y) (fun e => hx (by rw [e]; exact List.mem_cons_self)) with q | q
        · exact absurd q hl
        · exact q
      · exact h1 z q
def isort (k : Int → Int) : List Int → List Int
  | [] => []
  | x :: l => ins k x (isort k l)
theorem isort_perm (k : Int → Int) : ∀ l, (isort k l).Perm l
  | [] => List.Perm.refl _
  | x :: l => (ins_perm k x _).trans ((isort_perm k l).cons x)
theorem isort_srt (k : Int → Int) : ∀ {l : List Int}, l.Nodup → Srt k (isort k l)
  | [], _ => List.Pairwise.nil
  | x :: l, h => ins_srt (isort_srt k (List.nodup_cons.1 h).2) (fun q => (List.nodup_cons.1 h).1 ((isort_perm k l).mem_iff.1 q))
theorem rising_nodup {l : List Int} (h : l.Pairwise (· < ·)) : l.Nodup := List.Pairwise.imp (fun {a b} (h : a < b) => Int.ne_of_lt h) h
/-- Who is not resting, who comes first ahead. -/
def srtd (ws : List Wk) (run : Int) : List Int := isort (key ws) (rdy ws run)
theorem srtd_perm (ws : List Wk) (run : Int) : (srtd ws run).Perm (rdy ws run) := isort_perm _ _
theorem srtd_srt (ws : List Wk) (run : Int) : Srt (key ws) (srtd ws run) := isort_srt _ (rising_nodup (rdyTo_rising _ _ _))
theorem srtd_of {ws : List Wk} {run : Int} {l : List Int} (hp : l.Perm (rdy ws run)) (hs : Srt (key ws) l) : l = srtd ws run :=
  srt_unique (hp.trans (srtd_perm ws run).symm) hs (srtd_srt ws run)
theorem srtd_nodup (ws : List Wk) (run : Int) : (srtd ws run).Nodup := (srtd_perm ws run).nodup_iff.2 (rising_nodup (rdyTo_rising _ _ _))
theorem mem_srtd {ws : List Wk} {run x : Int} : x ∈ srtd ws run ↔ ∃ p, p < ws.length ∧ (ws.getD p (0, 0)).2 < run ∧ x = (p : Int) :=
  (srtd_perm ws run).mem_iff.trans mem_rdyTo
theorem srtd_len (ws : List Wk) (run : Int) : (srtd ws run).length ≤ ws.length := by rw [(srtd_perm ws run).length_eq]; exact rdyTo_len _ _ _
/-- Who works. -/
def chosen (ws : List Wk) (need : Nat) (run : Int) : List Int := (srtd ws run).take need
/-- The numbers of the first n that are in c. -/
def among (c : List Int) (n : Nat) : List Int := ((List.range n).filter (fun p : Nat => decide ((p : Int) ∈ c))).map Int.ofNat
theorem among_succ (c : List Int) (n : Nat) : among c (n + 1) = among c n ++ (if (n : Int) ∈ c then [(n : Int)] else []) := by
  unfold among
  rw [List.range_succ, List.filter_append, List.map_append]
  congr 1
  by_cases h : (n : Int) ∈ c
  · rw [if_pos h, List.filter_cons_of_pos (by simpa using h)]; rfl
  · rw [if_neg h, List.filter_cons_of_neg (by simpa using h)]; rfl
theorem mem_among {c : List Int} {n : Nat} {x : Int} : x ∈ among c n ↔ ∃ p, p < n ∧ (p : Int) ∈ c ∧ x = (p : Int) := by
  simp only [among, List.mem_map, List.mem_filter, List.mem_range, decide_eq_true_eq]
  constructor
  · rintro ⟨p, ⟨h1, h2⟩, rfl⟩; exact ⟨p, h1, h2, rfl⟩
  · rintro ⟨p, h1, h2, rfl⟩; exact ⟨p, ⟨h1, h2⟩, rfl⟩
theorem among_rising (c : List Int) (n : Nat) : (among c n).Pairwise (· < ·) := by
  unfold among
  rw [List.pairwise_map]
  refine List.Pairwise.filter _ (List.Pairwise.imp ?_ (List.pairwise_lt_range (n := n)))
  intro a b h; exact Int.ofNat_lt.2 h
theorem rising_unique {l l' : List Int} (hp : l.Perm l') (h : l.Pairwise (· ≤ ·)) (h' : l'.Pairwise (· ≤ ·)) : l = l' :=
  List.Perm.eq_of_pairwise (le := fun a b : Int => a ≤ b) (fun a b _ _ h1 h2 => Int.le_antisymm h1 h2) h h' hp
theorem among_perm {c : List Int} {n : Nat} (hn : c.Nodup) (h : ∀ x ∈ c, ∃ p, p < n ∧ x = (p : Int)) : (among c n).Perm c := by
  refine (List.perm_ext_iff_of_nodup (rising_nodup (among_rising c n)) hn).2 fun x => ?_
  rw [mem_among]
  constructor
  · rintro ⟨p, _, h2, rfl⟩; exact h2
  · intro hx; obtain ⟨p, hp, rfl⟩ := h x hx; exact ⟨p, hp, hx, rfl⟩
/-- What is sorted of those that work is they, in the order of their numbers. -/
theorem among_of {c l : List Int} {n : Nat} (hn : c.Nodup) (h : ∀ x ∈ c, ∃ p, p < n ∧ x = (p : Int)) (hp : l.Perm c) (hs : l.Pairwise (· ≤ ·)) : l = among c n :=
  rising_unique (hp.trans (among_perm hn h).symm) hs (List.Pairwise.imp (fun {a b} (h : a < b) => Int.le_of_lt h) (among_rising c n))
theorem chosen_nodup (ws : List Wk) (need : Nat) (run : Int) : (chosen ws need run).Nodup := List.Pairwise.sublist (List.take_sublist _ _) (srtd_nodup ws run)
theorem chosen_mem {ws : List Wk} {need : Nat} {run x : Int} (h : x ∈ chosen ws need run) : ∃ p, p < ws.length ∧ (ws.getD p (0, 0)).2 < run ∧ x = (p : Int) := mem_srtd.1 (List.mem_of_mem_take h)
def dayOf (ws : List Wk) (need : Nat) (run : Int) : List Int := among (chosen ws need run) ws.length ++ List.replicate (need - (srtd ws run).length) (-1)
def behind (w : Wk) (b : Bool) : Wk := if b then (w.1 + 1, w.2 + 1) else (w.1, 0)
def nextTo (ws : List Wk) (c : List Int) (n : Nat) : List Wk := (List.range ws.length).map (fun p => if p < n then behind (ws.getD p (0, 0)) (decide ((p : Int) ∈ c)) else ws.getD p (0, 0))
def next (ws : List Wk) (c : List Int) : List Wk := (List.range ws.length).map (fun p => behind (ws.getD p (0, 0)) (decide ((p : Int) ∈ c)))
theorem next_len (ws : List Wk) (c : List Int) : (next ws c).length = ws.length := by simp [next]
theorem nextTo_len (ws : List Wk) (c : List Int) (n : Nat) : (nextTo ws c n).length = ws.length := by simp [nextTo]
theorem next_get {ws : List Wk} {c : List Int} {p : Nat} (h : p < ws.length) : (next ws c)[p]? = some (behind (ws.getD p (0, 0)) (decide ((p : Int) ∈ c))) := by
  unfold next
  rw [List.getElem?_map, List.getElem?_range h]; rfl
theorem nextTo_get {ws : List Wk} {c : List Int} {p n : Nat} (h : p < ws.length) : (nextTo ws c n)[p]? = some (if p < n then behind (ws.getD p (0, 0)) (decide ((p : Int) ∈ c)) else ws.getD p (0, 0)) := by
  unfold nextTo
  rw [List.getElem?_map, List.getElem?_range h]; rfl
theorem nextTo_zero (ws : List Wk) (c : List Int) : nextTo ws c 0 = ws := by
  apply List.ext_getElem?
  intro i
  rcases Nat.lt_or_ge i ws.length with h | h
  · rw [nextTo_get h, if_neg (by omega), List.getD_eq_getElem?_getD, List.getElem?_eq_getElem h]; rfl
  · rw [List.getElem?_eq_none (by rw [nextTo_len]; exact h), List.getElem?_eq_none h]
theorem nextTo_all (ws : List Wk) (c : List Int) : nextTo ws c ws.length = next ws c := by
  apply List.ext_getElem?
  intro i
  rcases Nat.lt_or_ge i ws.length with h | h
  · rw [nextTo_get h, next_get h, if_pos h]
  · rw [List.getElem?_eq_none (by rw [nextTo_len]; exact h), List.getElem?_eq_none (by rw [next_len]; exact h)]
theorem nextTo_succ {ws : List Wk} {c : List Int} {n : Nat} (h : n < ws.length) : nextTo ws c (n + 1) = (nextTo ws c n).set n (behind (ws.getD n (0, 0)) (decide ((n : Int) ∈ c))) := by
  apply List.ext_getElem?
  intro i
  rcases Nat.lt_or_ge i ws.length with hi | hi
  · rw [nextTo_get hi, List.getElem?_set, nextTo_get hi, nextTo_len]
    by_cases e : n = i
    · subst e; rw [if_pos (by omega), if_pos rfl, if_pos h]
    · rw [if_neg e]
      by_cases q : i < n
      · rw [if_pos (by omega), if_pos q]
      · rw [if_neg (by omega), if_neg q]
  · rw [List.getElem?_eq_none (by rw [nextTo_len]; exact hi), List.getElem?_eq_none (by simp [nextTo_len]; exact hi)]
/-- The roster of so many days, and the workers behind it. -/
def ros (people need : Nat) (run : Int) : Nat → List Wk × List Int
  | 0 => (List.replicate people (0, 0), [])
  | d + 1 => (next (ros people need run d).1 (chosen (ros people need run d).1 need run), (ros people need run d).2 ++ dayOf (ros people need run d).1 need run)
def okB (people days need run : Int) : Bool := decide (1 ≤ people ∧ people ≤ 30) && decide (0 ≤ days ∧ days ≤ 60) && decide (0 ≤ need ∧ need ≤ people) && decide (1 ≤ run ∧ run ≤ 10)
def roster (people days need run : Int) : List Int := if okB people days need run then (ros people.toNat need.toNat run days.toNat).2 else []
theorem ros_len (people need : Nat) (run : Int) : ∀ d, (ros people need run d).1.length = people
  | 0 => by simp [ros]
  | d + 1 => by rw [ros]; simp only [next_len]; exact ros_len people need run d
/-- Nobody has worked more days than there were. -/
theorem ros_bnd (people need : Nat) (run : Int) : ∀ d, ∀ w ∈ (ros people need run d).1, 0 ≤ w.1 ∧ w.1 ≤ (d : Int) ∧ 0 ≤ w.2 ∧ w.2 ≤ (d : Int)
  | 0 => by
    intro w hw
    simp [ros] at hw
    obtain ⟨_, rfl⟩ := hw
    simp
  | d + 1 => by
    intro w hw
    obtain ⟨p, hp, rfl⟩ := List.mem_iff_getElem.1 hw
    have h := List.getElem?_eq_getElem hp
    rw [ros] at hp
    have hp' : p < (ros people need run d).1.length := by simpa [next_len] using hp
    have h2 := next_get (ws := (ros people need run d).1) (c := chosen (ros people need run d).1 need run) hp'
    have h3 : (ros people need run (d + 1)).1[p]? = some (behind ((ros people need run d).1.getD p (0, 0)) (decide ((p : Int) ∈ chosen (ros people need run d).1 need run))) := by rw [ros]; exact h2
    rw [h] at h3
    have e := Option.some.inj h3
    have hm : (ros people need run d).1.getD p (0, 0) ∈ (ros people need run d).1 := by
      rw [List.getD_eq_getElem?_getD, List.getElem?_eq_getElem hp']; exact List.getElem_mem hp'
    have hb := ros_bnd people need run d _ hm
    rw [e]
    generalize (ros people need run d).1.getD p (0, 0) = v at hb
    unfold behind
    split <;> simp <;> omega
end Go.Proofs.Ytgcpiinmcbdkmaa.Ro
