/-
  Plain facts on moves in a house.
-/
import Derived.Test.YtklgadaefngnnaaHn
namespace Go.Proofs.Ytklgadaefngnnaa.Hm

structure Mv where
  kind : Int
  person : Int
  sex : Int
  need : Int
  bed : Int
  time : Int

/-- A move that is as told. -/
def mvOk (nb : Nat) (m : Mv) : Bool := decide (1 ≤ m.kind) && (decide (m.kind ≤ 3) && (pers m.person && (tm m.time && ((!decide (m.kind = 1) || (sx m.sex && kd m.need)) && (decide (m.kind = 3) || inB nb m.bed)))))
def thereB (p : Int) (s : St) : Bool := decide (s.person = p) && here s
/-- The place of the stay of somebody who is there; -1 else. -/
def thereAt (p : Int) (S : List St) : Int := if S.findIdx (thereB p) < S.length then (S.findIdx (thereB p) : Int) else -1
def late (t : Int) (S : List St) : Bool := decide (0 < S.length) && decide (t < (S.getD (S.length - 1) default).frm)
def ended (S : List St) (k : Nat) (t : Int) : List St := S.set k { S.getD k default with til := t }
def newStay (m : Mv) : St := ⟨m.person, m.sex, m.need, m.bed, m.time, -1⟩
def nextStay (m : Mv) (s : St) : St := ⟨m.person, s.sex, s.need, m.bed, m.time, -1⟩
/-- The stays with one more, or a code. -/
def placed (B : List Bd) (S0 S : List St) (x : St) : List St × Int := if isFr B S x.sex x.need x.bed then (if S.length = 1000 then (S0, 7) else (S ++ [x], 0)) else (S0, 6)
/-- What a move does to a right house. -/
def moveR (B : List Bd) (S : List St) (m : Mv) : List St × Int :=
  if !mvOk B.length m then (S, 2)
  else if late m.time S then (S, 3)
  else if thereAt m.person S < 0 then
    (if m.kind = 1 then placed B S S (newStay m) else (S, 5))
  else if m.kind = 1 then (S, 4)
  else if m.kind = 3 then (ended S (thereAt m.person S).toNat m.time, 0)
  else placed B S (ended S (thereAt m.person S).toNat m.time) (nextStay m (S.getD (thereAt m.person S).toNat default))
noncomputable def doB (B : List Bd) (S : List St) : List Bd := if okB B S then B else []
noncomputable def doS (B : List Bd) (S : List St) (m : Mv) : List St := if okB B S then (moveR B S m).1 else []
noncomputable def doC (B : List Bd) (S : List St) (m : Mv) : Int := if okB B S then (moveR B S m).2 else 1

theorem thereAt_cases (p : Int) (S : List St) : (thereAt p S = -1 ∧ ∀ (i : Nat) (x : St), S[i]? = some x → thereB p x = false) ∨ ∃ (k : Nat) (x : St), thereAt p S = (k : Int) ∧ S[k]? = some x ∧ thereB p x = true ∧ ∀ (i : Nat) (y : St), i < k → S[i]? = some y → thereB p y = false := by
  unfold thereAt
  by_cases h : S.findIdx (thereB p) < S.length
  · right
    obtain ⟨x, hx⟩ := some_at S _ h
    refine ⟨S.findIdx (thereB p), x, if_pos h, hx, ?_, fun i y hi hy => ?_⟩
    · have := List.findIdx_getElem (p := thereB p) (xs := S) (w := h)
      rw [List.getElem?_eq_getElem h] at hx
      cases hx
      exact this
    · have := List.not_of_lt_findIdx (p := thereB p) hi
      rw [List.getElem?_eq_getElem (by omega)] at hy
      cases hy
      simpa using this
  · left
    refine ⟨if_neg h, fun i x hx => ?_⟩
    have hl := get_lt hx
    have := List.not_of_lt_findIdx (p := thereB p) (xs := S) (i := i) (by have := List.findIdx_le_length (p := thereB p) (xs := S); omega)
    rw [List.getElem?_eq_getElem hl] at hx
    cases hx
    simpa using this
theorem thereAt_of {p : Int} {S : List St} {k : Nat} {x : St} (hx : S[k]? = some x) (h1 : thereB p x = true) (h2 : ∀ (i : Nat) (y : St), i < k → S[i]? = some y → thereB p y = false) : thereAt p S = (k : Int) := by
  rcases thereAt_cases p S with ⟨_, h⟩ | ⟨k', x', h3, h4, h5, h6⟩
  · rw [h k x hx] at h1; cases h1
  · rcases Nat.lt_trichotomy k k' with q | q | q
    · rw [h6 k x q hx] at h1; cases h1
    · rw [h3, q]
    · rw [h2 k' x' q h4] at h5; cases h5
theorem thereAt_none {p : Int} {S : List St} (h : ∀ (i : Nat) (x : St), S[i]? = some x → thereB p x = false) : thereAt p S = -1 := by
  rcases thereAt_cases p S with ⟨h1, _⟩ | ⟨k, x, _, h4, h5, _⟩
  · exact h1
  · rw [h k x h4] at h5; cases h5
theorem ended_len (S : List St) (k : Nat) (t : Int) : (ended S k t).length = S.length := by simp [ended]
theorem ended_get {S : List St} {k : Nat} {x : St} (hx : S[k]? = some x) (t : Int) (i : Nat) : (ended S k t)[i]? = if i = k then some { x with til := t } else S[i]? := by
  unfold ended
  have e : S.getD k default = x := by rw [List.getD_eq_getElem?_getD, hx]; rfl
  rw [e, List.getElem?_set]
  by_cases h : k = i
  · subst h
    rw [if_pos rfl, if_pos (get_lt hx), if_pos rfl]
  · rw [if_neg h, if_neg (fun q => h q.symm)]
theorem ended_fits {nb : Nat} {S : List St} {k : Nat} {x : St} (hx : S[k]? = some x) {t : Int} (ht : 0 ≤ t) (h : fits nb S) : fits nb (ended S k t) := by
  intro s hs hh
  obtain ⟨i, hi⟩ := List.getElem?_of_mem hs
  rw [ended_get hx] at hi
  split at hi
  · cases hi
    unfold here at hh
    simp at hh
    omega
  · exact h s (List.mem_of_getElem? hi) hh
end Go.Proofs.Ytklgadaefngnnaa.Hm
