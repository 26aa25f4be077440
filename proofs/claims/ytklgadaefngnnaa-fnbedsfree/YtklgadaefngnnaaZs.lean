/-
  Plain facts: just the beds that are told as free can be come into. No Go in sight.
-/
import Derived.Test.YtklgadaefngnnaaKa
import Derived.Test.YtklgadaefngnnaaHp
namespace Go.Proofs.Ytklgadaefngnnaa.Hm
set_option linter.all false

/-- Nobody in the house bears the number 700. -/
def F700 (S : List St) : Prop := ∀ x ∈ S, x.person ≠ 700
theorem ended_mem {S : List St} {k : Nat} {t : Int} {x : St} (h : x ∈ ended S k t) : x ∈ S ∨ x = { S.getD k default with til := t } := by
  unfold ended at h
  exact List.mem_or_eq_of_mem_set h
theorem f700_ended {S : List St} (h : F700 S) {k : Nat} {y : St} (hy : S[k]? = some y) (t : Int) : F700 (ended S k t) := by
  intro x hx
  rcases ended_mem hx with q | q
  · exact h x q
  · rw [q, List.getD_eq_getElem?_getD, hy]
    exact h y (List.mem_of_getElem? hy)
theorem f700_placed {B : List Bd} {S0 S : List St} {x : St} (h0 : F700 S0) (h : F700 S) (hx : x.person ≠ 700) : F700 (placed B S0 S x).1 := by
  unfold placed
  split
  · split
    · exact h0
    · intro y hy
      rcases List.mem_append.1 hy with q | q
      · exact h y q
      · rw [List.mem_singleton.1 q]; exact hx
  · exact h0
theorem f700_move {B : List Bd} {S : List St} {m : Mv} (h : F700 S) (hm : m.person ≠ 700) : F700 (moveR B S m).1 := by
  unfold moveR
  split
  · exact h
  · split
    · exact h
    · split
      · split
        · exact f700_placed h h hm
        · exact h
      · rename_i hn
        obtain ⟨k, y, hk, hy⟩ : ∃ (k : Nat) (y : St), thereAt m.person S = (k : Int) ∧ S[k]? = some y := by
          rcases thereAt_cases m.person S with ⟨q, _⟩ | ⟨k, y, q1, q2, _⟩
          · rw [q] at hn; omega
          · exact ⟨k, y, q1, q2⟩
        rw [hk, Int.toNat_natCast]
        split
        · exact h
        · split
          · exact f700_ended h hy _
          · exact f700_placed h (f700_ended h hy _) hm
theorem come_in {B : List Bd} {S : List St} (h : Ok B S) (hf : F700 S) (hS : S.length ≠ 1000) {sex need : Int} (hs : sx sex = true) (hn : kd need = true) {b : Nat} (hb : b < B.length) :
    moveR B S ⟨1, 700, sex, need, b, 10000000⟩ = if isFr B S sex need b then (S ++ [⟨700, sex, need, b, 10000000, -1⟩], 0) else (S, 6) := by
  have h1 : mvOk B.length ⟨1, 700, sex, need, b, 10000000⟩ = true := by
    simp [mvOk, hs, hn, pers, tm, inB]
    omega
  have h2 : late 10000000 S = false := by
    unfold late
    by_cases q : 0 < S.length
    · have hx : S[S.length - 1]? = some (S.getD (S.length - 1) default) := by
        rw [List.getD_eq_getElem?_getD, List.getElem?_eq_getElem (by omega)]; rfl
      have h3 := (h.2.2.2.1 _ _ (by omega) hx).1
      have h4 : tm (S.getD (S.length - 1) default).frm = true := by
        unfold stOk at h3
        simp only [Bool.and_eq_true] at h3
        exact h3.1.2
      rw [tm_iff] at h4
      simp only [Bool.and_eq_false_iff, decide_eq_false_iff_not]
      right; omega
    · simp [q]
  have h3 : thereAt 700 S = -1 := by
    rcases thereAt_cases 700 S with ⟨q, _⟩ | ⟨k, y, q1, q2, q3, _⟩
    · exact q
    · exfalso
      unfold thereB at q3
      simp only [Bool.and_eq_true, decide_eq_true_eq] at q3
      exact hf y (List.mem_of_getElem? q2) q3.1
  unfold moveR
  simp only [h1, h2, h3, Bool.not_true, Bool.false_eq_true, if_false, show ((-1 : Int) < 0) = True from by simp, if_true]
  unfold placed newStay
  simp only
  by_cases q : isFr B S sex need b = true
  · rw [if_pos q, if_pos q, if_neg hS]
  · rw [if_neg q, if_neg q]
theorem free_iff {B : List Bd} {S : List St} {sex need : Int} {b : Nat} (hb : b < B.length) : (b : Int) ∈ freeL B S sex need ↔ isFr B S sex need b = true := by
  unfold freeL freeTo
  simp only [List.mem_filter, List.mem_map, List.mem_range]
  constructor
  · rintro ⟨_, h⟩; exact h
  · intro h; exact ⟨⟨b, hb, rfl⟩, h⟩
theorem beds_free {B : List Bd} {S : List St} {sex need : Int} (h : okB B S = true) (hs : sx sex = true) (hn : kd need = true) : bedsFree B S sex need = freeL B S sex need := by simp [bedsFree, h, hs, hn]
theorem fold_none {p t : Int} : ∀ (S : List St) (b : Int), (∀ x ∈ S, x.person ≠ p) → S.foldl (fun b s => if atBed p t s then s.bed else b) b = b
  | [], _, _ => rfl
  | x :: l, b, h => by
    rw [List.foldl_cons, if_neg ?_]
    · exact fold_none l b fun y hy => h y (List.mem_cons_of_mem _ hy)
    intro q
    unfold atBed at q
    simp only [Bool.and_eq_true, decide_eq_true_eq] at q
    exact h x List.mem_cons_self q.1
theorem last_none {p t : Int} {S : List St} (hf : ∀ x ∈ S, x.person ≠ p) : lastBed p t S = -1 := fold_none S (-1) hf
theorem where_in {B : List Bd} {S : List St} (hf : F700 S) {sex need b : Int} (h : okB B (S ++ [⟨700, sex, need, b, 10000000, -1⟩]) = true) : whereAt B (S ++ [⟨700, sex, need, b, 10000000, -1⟩]) 700 10000000 = b ∧ whereAt B (S ++ [⟨700, sex, need, b, 10000000, -1⟩]) 700 9999999 = -1 := by
  unfold whereAt
  rw [if_pos h, if_pos h, lastBed_snoc, lastBed_snoc]
  refine ⟨if_pos ?_, (if_neg ?_).trans (last_none hf)⟩ <;> simp [atBed]
end Go.Proofs.Ytklgadaefngnnaa.Hm
