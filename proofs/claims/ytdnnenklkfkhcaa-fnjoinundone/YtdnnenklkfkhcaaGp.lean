/-
  Plain facts on the records that are together.
-/
import Derived.Test.YtdnnenklkfkhcaaTp
namespace Go.Proofs.Ytdnnenklkfkhcaa.Jn

def upTo (n : Nat) : List Int := (List.range n).map (fun i : Nat => (i : Int))
def togN (l : List J) (p : Int) (n : Nat) : List Int := (upTo n).filter (fun y => decide (stands l y = p))
/-- What Together answers. -/
noncomputable def tog (l : List J) (x : Int) : List Int := if okB l && pers x then togN l (stands l x) 1000 else []
theorem togN_succ (l : List J) (p : Int) (n : Nat) : togN l p (n + 1) = if stands l n = p then togN l p n ++ [(n : Int)] else togN l p n := by
  unfold togN upTo
  rw [List.range_succ, List.map_append, List.filter_append]
  by_cases e : stands l n = p
  · rw [if_pos e]; simp [e]
  · rw [if_neg e]; simp [e]
theorem togN_len (l : List J) (p : Int) (n : Nat) : (togN l p n).length ≤ n := by
  unfold togN
  exact Nat.le_trans (List.length_filter_le _ _) (by simp [upTo])
theorem togN_mem (l : List J) (p y : Int) : y ∈ togN l p 1000 ↔ pers y = true ∧ stands l y = p := by
  unfold togN upTo pers
  simp only [List.mem_filter, List.mem_map, List.mem_range, decide_eq_true_eq, Bool.and_eq_true]
  constructor
  · rintro ⟨⟨a, ha, rfl⟩, h⟩; exact ⟨⟨by omega, by omega⟩, h⟩
  · rintro ⟨⟨h1, h2⟩, h⟩; exact ⟨⟨y.toNat, by omega, by omega⟩, h⟩
theorem togN_lt (l : List J) (p : Int) (n : Nat) : (togN l p n).Pairwise (fun a b => a < b) := by
  refine List.Pairwise.filter _ ?_
  unfold upTo
  rw [List.pairwise_map]
  exact List.pairwise_lt_range.imp fun {a b} h => by omega
theorem tog_sort (l : List J) (hok : okTo l l.length) (x : Int) (hx : pers x = true) (ss : List Int) (hss : ss.Perm (l.map (·.2))) :
    (stands l x :: ss.filter (fun y => decide (stands l y = stands l x))).mergeSort (fun a b => decide (a ≤ b)) = togN l (stands l x) 1000 := by
  have hnd : ss.Nodup := hss.symm.nodup (says_tells l hok).nodup
  have hmem : ∀ y, y ∈ ss ↔ isG l y = true := fun y => by rw [hss.mem_iff, mem_isG]
  have hp := stands_not l hok x
  have hpp := stands_pers l hok x hx
  have h1 : (stands l x :: ss.filter (fun y => decide (stands l y = stands l x))).Nodup := by
    rw [List.nodup_cons]
    refine ⟨fun q => ?_, hnd.filter _⟩
    have := (hmem _).1 (List.mem_filter.1 q).1
    rw [hp] at this; cases this
  have h2 : (togN l (stands l x) 1000).Nodup := (togN_lt l _ _).imp fun {a b} h e => by omega
  have hperm : (stands l x :: ss.filter (fun y => decide (stands l y = stands l x))).Perm (togN l (stands l x) 1000) := by
    rw [List.perm_ext_iff_of_nodup h1 h2]
    intro y
    rw [togN_mem, List.mem_cons, List.mem_filter, hmem, decide_eq_true_eq]
    constructor
    · rintro (rfl | ⟨q1, q2⟩)
      · exact ⟨hpp, stands_none l _ hp⟩
      · exact ⟨pers_gone l hok y q1, q2⟩
    · rintro ⟨q1, q2⟩
      cases hy : isG l y with
      | true => exact Or.inr ⟨rfl, q2⟩
      | false => exact Or.inl (by rw [← q2, stands_none l y hy])
  refine List.Perm.eq_of_pairwise (le := fun a b => a ≤ b) (fun a b _ _ q1 q2 => by omega) ?_ ((togN_lt l _ _).imp fun {a b} h => by omega) ((List.mergeSort_perm _ _).trans hperm)
  exact (List.pairwise_mergeSort (le := fun a b : Int => decide (a ≤ b)) (fun a b c q1 q2 => by simp at *; omega) (fun a b => by simp; omega) _).imp fun {a b} q => by simpa using q
end Go.Proofs.Ytdnnenklkfkhcaa.Jn
