/-
  Reflexes: tests that ask for tests; no Go in sight.
-/
import Derived.Test.YtldggndhdilncaaT1
namespace Go.Proofs.Ytldggndhdilncaa.Lb
open Va
set_option linter.all false

structure Rx where
  te : Int
  lo : Int
  hi : Int
  th : Int
structure Vl where
  te : Int
  v : Int
def Tst (x : Int) : Prop := 0 ≤ x ∧ x ≤ 99
instance (x : Int) : Decidable (Tst x) := inferInstanceAs (Decidable (_ ∧ _))
def Rx.ok (r : Rx) : Prop := Tst r.te ∧ Tst r.th ∧ (-100000 ≤ r.lo ∧ r.lo ≤ 100000) ∧ (-100000 ≤ r.hi ∧ r.hi ≤ 100000)
def vlAt (vs : List Vl) (t : Int) : Option Int := (vs.find? (fun x => x.te == t)).map Vl.v
def VlOk (vs : List Vl) : Prop := vs.length ≤ 100 ∧ (∀ x ∈ vs, Tst x.te) ∧ (vs.map Vl.te).Nodup
def RxOk (rs : List Rx) : Prop := rs.length ≤ 200 ∧ ∀ r ∈ rs, r.ok
def AkOk (as : List Int) : Prop := as.length ≤ 100 ∧ ∀ x ∈ as, Tst x
def addTo (out : List Int) (x : Int) : List Int := if x ∈ out then out else out ++ [x]
def onceL (as : List Int) : List Int := as.foldl addTo []
def calls1 (vs : List Vl) (r : Rx) : Bool := match vlAt vs r.te with | none => false | some v => decide (r.lo ≤ v) && decide (v ≤ r.hi)
def fires (vs : List Vl) (out : List Int) (r : Rx) : Bool := calls1 vs r && decide (r.te ∈ out) && !decide (r.th ∈ out)
def stepR (rs : List Rx) (vs : List Vl) (out : List Int) : Option Int := (rs.find? (fires vs out)).map Rx.th
def growR (rs : List Rx) (vs : List Vl) : Nat → List Int → List Int
  | 0, out => out
  | n + 1, out => match stepR rs vs out with
    | none => out
    | some t => growR rs vs n (out ++ [t])
noncomputable instance (rs : List Rx) : Decidable (RxOk rs) := Classical.propDecidable _
noncomputable instance (vs : List Vl) : Decidable (VlOk vs) := Classical.propDecidable _
noncomputable instance (as : List Int) : Decidable (AkOk as) := Classical.propDecidable _
def RfOk (rs : List Rx) (vs : List Vl) (as : List Int) : Prop := RxOk rs ∧ VlOk vs ∧ AkOk as
noncomputable instance (rs : List Rx) (vs : List Vl) (as : List Int) : Decidable (RfOk rs vs as) := Classical.propDecidable _
noncomputable def reflexes (rs : List Rx) (vs : List Vl) (as : List Int) : List Int := if RfOk rs vs as then growR rs vs 100 (onceL as) else []

theorem nodup_le : ∀ (n : Nat) (l : List Nat), l.Nodup → (∀ x ∈ l, x < n) → l.length ≤ n
  | 0, l, _, h => by
    cases l with
    | nil => simp
    | cons a l => exact absurd (h a List.mem_cons_self) (by omega)
  | n + 1, l, hn, h => by
    have k := nodup_le n (l.erase n) (hn.erase n) (fun x hx => by
      have := (List.Nodup.mem_erase_iff hn).1 hx
      have := h x this.2
      omega)
    by_cases hm : n ∈ l
    · rw [List.length_erase_of_mem hm] at k
      omega
    · rw [List.erase_of_not_mem hm] at k
      omega
/-- A list of tests, each once. -/
def Apt (out : List Int) : Prop := out.Nodup ∧ ∀ x ∈ out, Tst x
theorem apt_len {out : List Int} (h : Apt out) : out.length ≤ 100 := by
  have h1 : (out.map Int.toNat).Nodup := by
    refine List.Pairwise.map _ ?_ (List.pairwise_iff_forall_sublist.2 fun {a b} hs => ?_) (R := fun a b => a ≠ b ∧ Tst a ∧ Tst b)
    · rintro a b ⟨h1, h2, h3⟩ h4
      unfold Tst at h2 h3
      omega
    · exact ⟨List.pairwise_iff_forall_sublist.1 h.1 hs, h.2 a (hs.subset (by simp)), h.2 b (hs.subset (by simp))⟩
  have h3 := nodup_le 100 _ h1 (fun x hx => by
    obtain ⟨y, hy, rfl⟩ := List.mem_map.1 hx
    have := h.2 y hy
    unfold Tst at this
    omega)
  rw [List.length_map] at h3
  exact h3
theorem apt_add {out : List Int} {x : Int} (h : Apt out) (hx : Tst x) (hn : x ∉ out) : Apt (out ++ [x]) := by
  refine ⟨List.nodup_append.2 ⟨h.1, by simp, ?_⟩, fun y hy => ?_⟩
  · intro a ha b hb
    rw [List.mem_singleton.1 hb]
    exact fun e => hn (e ▸ ha)
  · rcases List.mem_append.1 hy with h1 | h1
    · exact h.2 y h1
    · rw [List.mem_singleton.1 h1]; exact hx
theorem apt_addTo {out : List Int} {x : Int} (h : Apt out) (hx : Tst x) : Apt (addTo out x) := by
  unfold addTo
  split
  · exact h
  · rename_i hn; exact apt_add h hx hn
theorem apt_fold {as : List Int} : ∀ {out : List Int}, Apt out → (∀ x ∈ as, Tst x) → Apt (as.foldl addTo out) := by
  induction as with
  | nil => intro out h _; exact h
  | cons a as ih => intro out h ha; exact ih (apt_addTo h (ha a List.mem_cons_self)) (fun x hx => ha x (List.mem_cons_of_mem _ hx))
theorem apt_once {as : List Int} (h : ∀ x ∈ as, Tst x) : Apt (onceL as) := apt_fold (⟨List.nodup_nil, fun x hx => by cases hx⟩ : Apt []) h
theorem fold_mem {as : List Int} : ∀ {out : List Int} {x : Int}, (x ∈ out ∨ x ∈ as) → x ∈ as.foldl addTo out := by
  induction as with
  | nil => intro out x h; exact h.resolve_right (by simp)
  | cons a as ih =>
    intro out x h
    refine ih ?_
    unfold addTo
    rcases h with h | h
    · left; split
      · exact h
      · exact List.mem_append_left _ h
    · rcases List.mem_cons.1 h with rfl | h
      · left; split
        · assumption
        · simp
      · exact .inr h
theorem step_tst {rs : List Rx} {vs : List Vl} {out : List Int} {t : Int} (hr : RxOk rs) (h : stepR rs vs out = some t) : Tst t ∧ t ∉ out := by
  unfold stepR at h
  obtain ⟨r, h1, rfl⟩ := Option.map_eq_some_iff.1 h
  have h2 := List.find?_some h1
  refine ⟨(hr.2 r (List.mem_of_find?_eq_some h1)).2.1, ?_⟩
  unfold fires at h2
  simp at h2
  exact h2.2
theorem grow_apt {rs : List Rx} {vs : List Vl} (hr : RxOk rs) : ∀ (n : Nat) {out : List Int}, Apt out → Apt (growR rs vs n out)
  | 0, out, h => h
  | n + 1, out, h => by
    rw [growR]
    split
    · exact h
    · rename_i t ht
      exact grow_apt hr n (apt_add h (step_tst hr ht).1 (step_tst hr ht).2)
theorem grow_sub {rs : List Rx} {vs : List Vl} : ∀ (n : Nat) {out : List Int} {x : Int}, x ∈ out → x ∈ growR rs vs n out
  | 0, out, x, h => h
  | n + 1, out, x, h => by
    rw [growR]
    split
    · exact h
    · exact grow_sub n (List.mem_append_left _ h)
theorem grow_end {rs : List Rx} {vs : List Vl} (hr : RxOk rs) : ∀ (n : Nat) {out : List Int}, Apt out → 100 ≤ out.length + n → stepR rs vs (growR rs vs n out) = none
  | 0, out, h, hl => by
    rw [growR]
    cases e : stepR rs vs out with
    | none => rfl
    | some t =>
      have := apt_len (apt_add h (step_tst hr e).1 (step_tst hr e).2)
      rw [List.length_append, List.length_singleton] at this
      omega
  | n + 1, out, h, hl => by
    rw [growR]
    split
    · assumption
    · rename_i t ht
      exact grow_end hr n (apt_add h (step_tst hr ht).1 (step_tst hr ht).2) (by rw [List.length_append, List.length_singleton]; omega)
theorem grow_stop {rs : List Rx} {vs : List Vl} {n : Nat} {out : List Int} (h : stepR rs vs out = none) : growR rs vs n out = out := by
  cases n with
  | zero => rfl
  | succ n => rw [growR, h]
theorem fold_self : ∀ (as out : List Int), (out ++ as).Nodup → as.foldl addTo out = out ++ as
  | [], out, _ => by simp
  | a :: as, out, h => by
    rw [List.foldl_cons]
    have h1 : a ∉ out := fun ha => (List.nodup_append.1 h).2.2 a ha a List.mem_cons_self rfl
    rw [show addTo out a = out ++ [a] by unfold addTo; rw [if_neg h1], fold_self as (out ++ [a]) (by rw [List.append_assoc]; exact h), List.append_assoc]
    rfl
theorem reflexes_facts {rs : List Rx} {vs : List Vl} {as : List Int} (hq : RfOk rs vs as) : Apt (reflexes rs vs as) ∧ (∀ x ∈ as, x ∈ reflexes rs vs as) ∧ reflexes rs vs (reflexes rs vs as) = reflexes rs vs as := by
  have hA := apt_once hq.2.2.2
  have e : reflexes rs vs as = growR rs vs 100 (onceL as) := by unfold reflexes; rw [if_pos hq]
  have hG : Apt (growR rs vs 100 (onceL as)) := grow_apt hq.1 100 hA
  have hE : stepR rs vs (growR rs vs 100 (onceL as)) = none := grow_end hq.1 100 hA (by omega)
  refine ⟨by rw [e]; exact hG, fun x hx => by rw [e]; exact grow_sub 100 (fold_mem (.inr hx)), ?_⟩
  rw [e]
  generalize growR rs vs 100 (onceL as) = g at *
  have hq2 : RfOk rs vs g := ⟨hq.1, hq.2.1, apt_len hG, hG.2⟩
  unfold reflexes
  rw [if_pos hq2, show onceL g = g from by unfold onceL; rw [fold_self g [] (by simpa using hG.1)]; rfl]
  exact grow_stop hE
theorem reflexes_apt (rs : List Rx) (vs : List Vl) (as : List Int) : Apt (reflexes rs vs as) := by
  by_cases hq : RfOk rs vs as
  · exact (reflexes_facts hq).1
  · unfold reflexes; rw [if_neg hq]; exact ⟨List.nodup_nil, fun x hx => by cases hx⟩
theorem reflexes_len (rs : List Rx) (vs : List Vl) (as : List Int) : (reflexes rs vs as).length ≤ 100 := apt_len (reflexes_apt rs vs as)
end Go.Proofs.Ytldggndhdilncaa.Lb
