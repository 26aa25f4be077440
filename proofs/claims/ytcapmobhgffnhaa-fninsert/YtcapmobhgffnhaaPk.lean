/-
  An emergency: what an insert leaves. Plain facts.
-/
import Derived.Test.YtcapmobhgffnhaaPp
import Derived.Test.YtcapmobhgffnhaaOy
namespace Go.Proofs.Ytcapmobhgffnhaa
open Go.RowKit Va Oa
set_option linter.unusedVariables false

/-- The minutes by which the first n of P begin later. -/
def psum (l P : List Opn) : Nat → Int
  | 0 => 0
  | i + 1 => psum l P i + (match l[i]?, P[i]? with | some x, some y => y.fr - x.fr | _, _ => 0)
theorem psum_succ {l P : List Opn} {i : Nat} {x y : Opn} (hx : l[i]? = some x) (hy : P[i]? = some y) : psum l P (i + 1) = psum l P i + (y.fr - x.fr) := by rw [psum, hx, hy]
theorem psum_app (l P R : List Opn) : ∀ i, i ≤ P.length → psum l (P ++ R) i = psum l P i := by
  intro i
  induction i with
  | zero => intro _; rfl
  | succ i ih => intro h; rw [psum, psum, ih (by omega), List.getElem?_append_left (by omega)]
theorem cnt_pairs {r : Int} : ∀ {l : List Opn}, cnt r l = 0 → ∀ (j k : Nat) (x y : Opn), j < k → l[j]? = some x → l[k]? = some y → why x y r = 0 := by
  intro l
  induction l with
  | nil => intro _ j k x y _ h; cases h
  | cons a l ih =>
    intro h j k x y hjk hx hy
    rw [cnt] at h
    have h1 : (l.filter (bad a r)).length = 0 := by omega
    have h2 : cnt r l = 0 := by omega
    cases k with
    | zero => omega
    | succ k =>
      rw [List.getElem?_cons_succ] at hy
      cases j with
      | zero =>
        simp at hx
        subst hx
        rw [List.length_eq_zero_iff, List.filter_eq_nil_iff] at h1
        have := h1 y (List.mem_of_getElem? hy)
        simpa [bad] using this
      | succ j =>
        rw [List.getElem?_cons_succ] at hx
        exact ih h2 j k x y (by omega) hx hy
theorem stay_in {l : List Opn} {u : Opn} {r : Int} : ∀ (i j : Nat) (x : Opn), j < i → l[j]? = some x → why x u r = 0 → x ∈ stay l u r i := by
  intro i
  induction i with
  | zero => intro j x h; omega
  | succ i ih =>
    intro j x hj hx hw
    rw [stay]
    rcases Nat.lt_succ_iff_lt_or_eq.1 hj with q | rfl
    · exact List.mem_append_left _ (ih j x q hx hw)
    · rw [hx]; simp [hw]
theorem stay_u {l : List Opn} {u : Opn} {r : Int} : ∀ i, u ∈ stay l u r i := by
  intro i
  induction i with
  | zero => simp [stay]
  | succ i ih => rw [stay]; exact List.mem_append_left _ ih

/-- How one that was put back stands to what it was. -/
def Near (x y : Opn) : Prop := y.room = x.room ∧ y.team = x.team ∧ y.to - y.fr = x.to - x.fr ∧ x.fr ≤ y.fr ∧ opB y = true
structure Put (l : List Opn) (u : Opn) (r : Int) (i : Nat) (P S : List Opn) (h : Int) : Prop where
  len : P.length = i
  inS : ∀ x ∈ P, x ∈ S
  stS : ∀ x ∈ stay l u r l.length, x ∈ S
  free : ∀ p ∈ P, (∃ j, j < i ∧ l[j]? = some p ∧ why p u r = 0) ∨ (∀ y ∈ stay l u r l.length, why y p r = 0)
  none : cnt r P = 0
  noU : ∀ p ∈ P, why p u r = 0
  near : ∀ (j : Nat) (x y : Opn), l[j]? = some x → P[j]? = some y → Near x y
  sum : h = psum l P i
theorem put_of {l : List Opn} {u : Opn} {r : Int} (hok : OpsOk l) (hu : opB u = true) (hcl : cnt r l = 0) : ∀ i P S h, i ≤ l.length → ins l u r i = some (P, S, h) → Put l u r i P S h := by
  intro i
  induction i with
  | zero =>
    intro P S h _ hi
    simp only [ins, Option.some.injEq, Prod.mk.injEq] at hi
    obtain ⟨rfl, rfl, rfl⟩ := hi
    exact ⟨rfl, (fun x hx => by cases hx), (fun x hx => hx), (fun p hp => by cases hp), rfl, (fun p hp => by cases hp), (fun j x y _ hy => by simp at hy), rfl⟩
  | succ i ih =>
    intro P S h hl hi
    rw [ins] at hi
    split at hi
    case h_2 => cases hi
    rename_i P' S' h' x h1 h2
    have ip := ih P' S' h' (by omega) h1
    have hox := hok.at h2
    have hnear : ∀ (z : Opn), Near x z → ∀ (j : Nat) (a b : Opn), l[j]? = some a → (P' ++ [z])[j]? = some b → Near a b := by
      intro z hz j a b ha hb
      by_cases hj : j < P'.length
      · rw [List.getElem?_append_left hj] at hb; exact ip.near j a b ha hb
      · rw [List.getElem?_append_right (by omega)] at hb
        have hj0 : j - P'.length = 0 := by
          have := get_lt' hb; simp at this; omega
        have hji : j = i := by have := ip.len; omega
        rw [hj0] at hb
        simp at hb
        rw [hji, h2] at ha
        cases ha; subst hb; exact hz
    have hsum : ∀ (z : Opn) (d : Int), d = z.fr - x.fr → h' + d = psum l (P' ++ [z]) (i + 1) := by
      intro z d hd
      have hz : (P' ++ [z])[i]? = some z := by rw [← ip.len]; simp
      rw [psum_succ h2 hz, psum_app l P' [z] i (by rw [ip.len]; exact Nat.le_refl _), ← ip.sum, hd]
    split at hi
    · rename_i hw
      simp only [Option.some.injEq, Prod.mk.injEq] at hi
      obtain ⟨rfl, rfl, rfl⟩ := hi
      have hxs : x ∈ stay l u r l.length := stay_in l.length i x (by omega) h2 hw
      have hno : ∀ p ∈ P', why p x r = 0 := by
        intro p hp
        rcases ip.free p hp with ⟨j, hj, hpj, -⟩ | q
        · exact cnt_pairs hcl j i p x hj hpj h2
        · rw [why_comm]; exact q x hxs
      refine ⟨by rw [List.length_append, ip.len]; rfl, ?_, ip.stS, ?_, ?_, ?_, hnear x ⟨rfl, rfl, rfl, Int.le_refl _, hox⟩, ?_⟩
      · intro y hy
        rcases List.mem_append.1 hy with q | q
        · exact ip.inS y q
        · simp at q; subst q; exact ip.stS y hxs
      · intro p hp
        rcases List.mem_append.1 hp with q | q
        · exact (ip.free p q).imp (fun ⟨j, a, b⟩ => ⟨j, by omega, b⟩) id
        · simp at q; subst q; exact .inl ⟨i, by omega, h2, hw⟩
      · rw [cnt_snoc, ip.none, filter_none hno]
      · intro p hp
        rcases List.mem_append.1 hp with q | q
        · exact ip.noU p q
        · simp at q; subst q; exact hw
      · have := hsum x 0 (by omega); omega
    · rename_i hw
      split at hi
      · cases hi
      · rename_i he
        simp only [Option.some.injEq, Prod.mk.injEq] at hi
        obtain ⟨rfl, rfl, rfl⟩ := hi
        obtain ⟨-, hx2, hx3, hx4, -⟩ := of_opB hox
        have hfit : OkT S' x r (earl S' x r) := by
          rcases earl_early S' x r with ⟨k, -⟩ | ⟨k, -⟩
          · exact k
          · omega
        generalize earl S' x r = t at *
        obtain ⟨k1, k2, k3⟩ := hfit
        refine ⟨by rw [List.length_append, ip.len]; rfl, ?_, ?_, ?_, ?_, ?_, hnear (mv x t) ⟨rfl, rfl, by simp only [mv]; omega, k1, opB_mv hox (by omega) k2⟩, hsum (mv x t) _ rfl⟩
        · intro y hy
          rcases List.mem_append.1 hy with q | q
          · exact List.mem_append_left _ (ip.inS y q)
          · exact List.mem_append_right _ q
        · intro y hy; exact List.mem_append_left _ (ip.stS y hy)
        · intro p hp
          rcases List.mem_append.1 hp with q | q
          · exact (ip.free p q).imp (fun ⟨j, a, b⟩ => ⟨j, by omega, b⟩) id
          · simp at q; subst q; exact .inr fun y hy => k3 y (ip.stS y hy)
        · rw [cnt_snoc, ip.none, filter_none fun p hp => k3 p (ip.inS p hp)]
        · intro p hp
          rcases List.mem_append.1 hp with q | q
          · exact ip.noU p q
          · simp at q; subst q; rw [why_comm]; exact k3 u (ip.stS u (stay_u _))
theorem insert_facts {l Q : List Opn} {u : Opn} {r h : Int} (hi : Oa.insert l u r = (Q, h, true)) : ∃ P, Q = P ++ [u] ∧ P.length = l.length ∧ (clash Q r).length = 0 ∧ (∀ (j : Nat) (x y : Opn), l[j]? = some x → P[j]? = some y → Near x y) ∧ h = psum l P l.length ∧ opB u = true := by
  by_cases hc : OpsOk l ∧ opB u = true ∧ isR r ∧ l.length ≠ 200 ∧ (clash l r).length = 0
  · obtain ⟨h1, h2, h3, h4, h5⟩ := hc
    have hcn : cnt r l = 0 := by rw [← clash_cnt h1 h3]; exact h5
    cases hq : ins l u r l.length with
    | none => rw [insert_dead ⟨h1, h2, h3, h4, h5⟩ hq (Nat.le_refl _)] at hi; cases hi
    | some v =>
      obtain ⟨P, S, h'⟩ := v
      rw [insert_yes ⟨h1, h2, h3, h4, h5⟩ hq] at hi
      simp only [Prod.mk.injEq, and_true] at hi
      obtain ⟨rfl, rfl⟩ := hi
      have p := put_of h1 h2 hcn l.length P S h' (Nat.le_refl _) hq
      refine ⟨P, rfl, p.len, ?_, p.near, p.sum, h2⟩
      have hok : OpsOk (P ++ [u]) := by
        rw [opsOk_mem]
        refine ⟨by have := h1.1; have := p.len; simp; omega, fun x hx => ?_⟩
        rcases List.mem_append.1 hx with q | q
        · obtain ⟨j, hj⟩ := List.getElem?_of_mem q
          obtain ⟨y, hy⟩ : ∃ y, l[j]? = some y := ⟨_, List.getElem?_eq_getElem (by have := get_lt' hj; have := p.len; omega)⟩
          exact (p.near j y x hy hj).2.2.2.2
        · simp at q; subst q; exact h2
      rw [clash_cnt hok h3, cnt_snoc, p.none, filter_none p.noU]
  · rw [insert_no hc] at hi; cases hi
theorem insert_false {l Q : List Opn} {u : Opn} {r h : Int} (hi : Oa.insert l u r = (Q, h, false)) : Q = [] := by
  by_cases hc : OpsOk l ∧ opB u = true ∧ isR r ∧ l.length ≠ 200 ∧ (clash l r).length = 0
  · cases hq : ins l u r l.length with
    | none => rw [insert_dead hc hq (Nat.le_refl _)] at hi; simp at hi; exact hi.1
    | some v =>
      obtain ⟨P, S, h'⟩ := v
      rw [insert_yes hc hq] at hi
      simp at hi
  · rw [insert_no hc] at hi; simp at hi; exact hi.1
theorem psum_bd {l P : List Opn} (hl : P.length = l.length) (hn : ∀ (j : Nat) (x y : Opn), l[j]? = some x → P[j]? = some y → Near x y) (hs : ∀ x ∈ l, 0 ≤ x.fr) : ∀ i, i ≤ l.length → 0 ≤ psum l P i ∧ psum l P i ≤ i * 10000000 := by
  intro i
  induction i with
  | zero => intro _; simp [psum]
  | succ i ih =>
    intro hi
    obtain ⟨x, hx⟩ : ∃ x, l[i]? = some x := ⟨_, List.getElem?_eq_getElem (by omega)⟩
    obtain ⟨y, hy⟩ : ∃ y, P[i]? = some y := ⟨_, List.getElem?_eq_getElem (by omega)⟩
    obtain ⟨-, -, -, h4, h5⟩ := hn i x y hx hy
    obtain ⟨-, h6, -, -, -⟩ := of_opB h5
    have h7 := hs x (List.mem_of_getElem? hx)
    have := ih (by omega)
    rw [psum_succ hx hy]
    omega
end Go.Proofs.Ytcapmobhgffnhaa
