/-
  Merged: Rg.
-/
import Derived.WalkKit
import Derived.Orders
namespace Go.Proofs.Ytgcpiinmcbdkmaa.Rg
open Go
set_option linter.all false
section
variable {P : Program} {ops : Array Oper} {Q : Exit → Act → World → Prop} {md : Region.Mode}
theorem count_set : ∀ (l : List Bool) (i : Nat), l[i]? = some false → (l.set i true).count false + 1 = l.count false
  | [], _, h => by cases h
  | b :: l, 0, h => by
    obtain rfl : b = false := by simpa using h
    simp
  | b :: l, i + 1, h => by
    have := count_set l i (by simpa using h)
    simp only [List.set_cons_succ, List.count_cons]
    omega
theorem getD_of {l : Array Bool} {i : Nat} {b : Bool} (h : l.getD i (!b) = b) : l[i]? = some b := by
  rw [Array.getD_eq_getD_getElem?] at h
  cases q : l[i]? with
  | none => rw [q] at h; cases b <;> simp at h
  | some c => rw [q] at h; simp at h; rw [h]
theorem wpAny_inv (R : Array Bool → Act → World → Prop)
    (hstep : ∀ l a w i, R l a w → i ∈ Region.ready md ops l → wpOp P ops Q i (R (l.setIfInBounds i true)) a w)
    (hend : ∀ l a w, R l a w → Region.ready md ops l = [] → Q .normal a w) :
    ∀ fuel l a w, R l a w → l.toList.count false ≤ fuel → wpAny P md ops Q fuel l a w := by
  intro fuel
  induction fuel with
  | zero =>
    intro l a w hR hc
    have hr : Region.ready md ops l = [] := by
      apply List.eq_nil_iff_forall_not_mem.2
      intro i hi
      have h1 := getD_of (b := false) (mem_ready.1 hi).1
      have : l.toList[i]? = some false := by rw [Array.getElem?_toList]; exact h1
      have h2 := count_set _ _ this
      omega
    exact ⟨hr, hend _ _ _ hR hr⟩
  | succ fuel ih =>
    intro l a w hR hc
    refine ⟨hend _ _ _ hR, fun i hi => ?_⟩
    have h1 := getD_of (b := false) (mem_ready.1 hi).1
    have h2 := count_set l.toList i (by rw [Array.getElem?_toList]; exact h1)
    refine wpOp_mono (fun a' w' h' => ih _ _ _ h' ?_) (hstep l a w i hR hi)
    rw [Array.toList_setIfInBounds]
    omega
def dstAt (ops : Array Oper) (k : Nat) : Option Nat := (ops[k]?).bind (·.dst)
def out (ops : Array Oper) (b : Act) (k : Nat) : Value := match dstAt ops k with | some d => b.tmps.getD d undef | none => undef
def aftOf (md : Region.Mode) (ops : Array Oper) (i k : Nat) : Bool := ((ops[i]?).map fun o => o.after.toList.any fun e => e.on == k && Region.binds md e).getD false
structure Fr (ops : Array Oper) (a b : Act) : Prop where
  size : b.tmps.size = a.tmps.size
  defers : b.defers = a.defers
  old : ∀ s, (∀ k, dstAt ops k ≠ some s) → b.tmps[s]? = a.tmps[s]?
def Hop (P : Program) (md : Region.Mode) (ops : Array Oper) (Q : Exit → Act → World → Prop) (a : Act) (I : World → Prop) (F : Nat → Value → World → Prop) (i : Nat) : Prop :=
  ∀ b w, Fr ops a b → I w → (∀ k, aftOf md ops i k = true → F k (out ops b k) w) →
    wpOp P ops Q i (fun b' w' => ∃ x, b' = b.put (dstAt ops i) x ∧ (dstAt ops i = none → F i undef w') ∧ F i x w' ∧ I w' ∧ ∀ k y, F k y w → F k y w') b w
def fit (md : Region.Mode) (ops : Array Oper) (n m : Nat) : Bool :=
  (List.range ops.size).all (fun i => ((ops[i]?).map fun o => o.after.all fun e => !Region.binds md e || decide (e.on < i)).getD false) &&
  (List.range ops.size).all (fun i => match dstAt ops i with | some d => decide (d < n) && (List.range ops.size).all (fun j => decide (j = i) || decide (dstAt ops j ≠ some d)) | none => true) &&
  (decide (m = ops.size) || (decide (m < ops.size) && (List.range ops.size).all (fun k => decide (k = m) || aftOf md ops m k)))
theorem fit_back {n m : Nat} (h : fit md ops n m = true) {i : Nat} {o : Oper} (hi : ops[i]? = some o) : ∀ e ∈ o.after, Region.binds md e = true → e.on < i := by
  simp only [fit, Bool.and_eq_true, List.all_eq_true, List.mem_range] at h
  have hlt := (Array.getElem?_eq_some_iff.1 hi).1
  have h1 := h.1.1 i hlt
  rw [hi] at h1
  simp only [Option.map_some, Option.getD_some, Array.all_eq_true_iff_forall_mem, decide_eq_true_eq, Bool.or_eq_true, Bool.not_eq_true'] at h1
  intro e he hb
  rcases h1 e he with q | q
  · rw [q] at hb; cases hb
  · exact q
theorem fit_dst {n m : Nat} (h : fit md ops n m = true) {i d : Nat} (hi : dstAt ops i = some d) : d < n ∧ ∀ j, dstAt ops j = some d → j = i := by
  simp only [fit, Bool.and_eq_true, List.all_eq_true, List.mem_range] at h
  have hlt : ∀ {k : Nat} {e : Nat}, dstAt ops k = some e → k < ops.size := fun {k e} hk => by
    unfold dstAt at hk
    cases q : ops[k]? with
    | none => rw [q] at hk; cases hk
    | some o => exact (Array.getElem?_eq_some_iff.1 q).1
  have h1 := h.1.2 i (hlt hi)
  rw [hi] at h1
  simp only [Bool.and_eq_true, decide_eq_true_eq, List.all_eq_true, List.mem_range, Bool.or_eq_true] at h1
  exact ⟨h1.1, fun j hj => ((h1.2 j (hlt hj)).resolve_right (fun q => q hj))⟩
theorem fit_last {n m : Nat} (h : fit md ops n m = true) : m = ops.size ∨ (m < ops.size ∧ ∀ k, k < ops.size → k ≠ m → aftOf md ops m k = true) := by
  simp only [fit, Bool.and_eq_true, Bool.or_eq_true, decide_eq_true_eq, List.all_eq_true, List.mem_range] at h
  rcases h.2 with q | ⟨q, q2⟩
  · exact .inl q
  · exact .inr ⟨q, fun k hk hne => (q2 k hk).resolve_left hne⟩
theorem all_listed {n m : Nat} (h : fit md ops n m = true) {l : Array Bool} (hs : l.size = ops.size) (hr : Region.ready md ops l = []) : ∀ k, k < ops.size → l.getD k false = true := by
  intro k
  induction k using Nat.strongRecOn with
  | _ k ih =>
    intro hk
    cases q : l.getD k false with
    | true => rfl
    | false =>
      exfalso
      have hm : k ∈ Region.ready md ops l := by
        rw [mem_ready]
        refine ⟨?_, ops[k], Array.getElem?_eq_getElem hk, fun e he hb => ih e.on (fit_back h (Array.getElem?_eq_getElem hk) e he hb) (Nat.lt_trans (fit_back h (Array.getElem?_eq_getElem hk) e he hb) hk)⟩
        simp only [Array.getD_eq_getD_getElem?] at q ⊢
        rw [Array.getElem?_eq_getElem (by omega)] at q ⊢
        simpa using q
      rw [hr] at hm; cases hm
theorem out_put {n m : Nat} (h : fit md ops n m = true) {a b : Act} (hf : Fr ops a b) (hn : a.tmps.size = n) {i : Nat} (x : Value) (hx : dstAt ops i = none → x = undef ∨ True) (k : Nat) : out ops (b.put (dstAt ops i) x) k = if k = i ∧ (dstAt ops i).isSome = true then x else out ops b k := by
  unfold out
  cases hi : dstAt ops i with
  | none =>
    rw [if_neg (by simp)]
    rfl
  | some d =>
    have hd := fit_dst h hi
    by_cases hk : k = i
    · subst hk
      rw [if_pos ⟨rfl, rfl⟩, hi]
      simp only [Act.put]
      rw [Array.getD_eq_getD_getElem?, Array.getElem?_setIfInBounds_self_of_lt (by rw [hf.size, hn]; exact hd.1)]
      rfl
    · rw [if_neg (fun q => hk q.1)]
      cases hk2 : dstAt ops k with
      | none => rfl
      | some d2 =>
        have hne : d ≠ d2 := fun e => hk (hd.2 k (by rw [hk2, e]))
        simp only [Act.put]
        rw [Array.getD_eq_getD_getElem?, Array.getElem?_setIfInBounds_ne hne, ← Array.getD_eq_getD_getElem?]
theorem Fr.put {a b : Act} (hf : Fr ops a b) (i : Nat) (x : Value) : Fr ops a (b.put (dstAt ops i) x) := by
  cases hi : dstAt ops i with
  | none => exact hf
  | some d =>
    refine ⟨by simp only [Act.put, Array.size_setIfInBounds]; exact hf.size, hf.defers, fun s hs => ?_⟩
    simp only [Act.put]
    rw [Array.getElem?_setIfInBounds_ne (fun e => hs i (by rw [hi, e]))]
    exact hf.old s hs
theorem region_by (m : Nat) {id : Nat} {a : Act} {w : World} (hm : P.follows .mixedOrders = true) (I : World → Prop) (F : Nat → Value → World → Prop) (hfit : fit .any ops a.tmps.size m = true)
    (h0 : I { w with drawn := w.drawn + 1 }) (hop : ∀ i, i < ops.size → i ≠ m → Hop P .any ops Q a I F i)
    (hlast : m < ops.size → ∀ b w', Fr ops a b → I w' → (∀ k, k < ops.size → k ≠ m → F k (out ops b k) w') → wpOp P ops Q m (fun b' w'' => Q .normal b' w'') b w')
    (hend : m = ops.size → ∀ b w', Fr ops a b → I w' → (∀ k, k < ops.size → F k (out ops b k) w') → Q .normal b w') : (Code.region id ops true).wp P Q a w := by
  refine wp_region_any hm ?_
  refine wpAny_inv (fun l b w' => l.size = ops.size ∧ ((l.getD m false = false ∧ Fr ops a b ∧ I w' ∧ ∀ k, k < ops.size → l.getD k false = true → F k (out ops b k) w') ∨ ((∀ k, k < ops.size → l.getD k false = true) ∧ Q .normal b w'))) ?_ ?_ _ _ _ _ ?_ ?_
  · rintro l b w' i ⟨hs, hR⟩ hi
    obtain ⟨hi0, o, hio, haft⟩ := mem_ready.1 hi
    have hlt : i < ops.size := (Array.getElem?_eq_some_iff.1 hio).1
    have hli := getD_of (b := false) hi0
    have hl2 : (l.setIfInBounds i true).size = ops.size := by rw [Array.size_setIfInBounds]; exact hs
    rcases hR with ⟨hm0, hf, hI, hF⟩ | ⟨hall, -⟩
    · have hA : ∀ k, aftOf .any ops i k = true → F k (out ops b k) w' := by
        intro k hk
        unfold aftOf at hk
        rw [hio] at hk
        simp only [Option.map_some, Option.getD_some, List.any_eq_true, Bool.and_eq_true, beq_iff_eq] at hk
        obtain ⟨e, he, hek, hb⟩ := hk
        have he := Array.mem_toList_iff.1 he
        have hlk := haft e he hb
        rw [hek] at hlk
        have hk2 := fit_back hfit hio e he hb
        exact hF k (by omega) hlk
      by_cases him : i = m
      · subst him
        have hL := fit_last hfit
        have hk : ∀ k, k < ops.size → k ≠ i → aftOf .any ops i k = true := by
          rcases hL with q | q
          · omega
          · exact q.2
        refine wpOp_mono (fun b' w'' hq => ⟨hl2, .inr ⟨fun k hk' => ?_, hq⟩⟩) (hlast hlt b w' hf hI (fun k hk1 hk2 => hA k (hk k hk1 hk2)))
        by_cases hki : k = i
        · subst hki
          rw [Array.getD_eq_getD_getElem?, Array.getElem?_setIfInBounds_self_of_lt (by omega)]; rfl
        · have := hk k hk' hki
          unfold aftOf at this
          rw [hio] at this
          simp only [Option.map_some, Option.getD_some, List.any_eq_true, Bool.and_eq_true, beq_iff_eq] at this
          obtain ⟨e, he, hek, hb⟩ := this
          have he := Array.mem_toList_iff.1 he
          have hlk := haft e he hb
          rw [hek] at hlk
          exact getD_set_true hlk
      · refine wpOp_mono ?_ (hop i hlt him b w' hf hI hA)
        rintro b' w'' ⟨x, rfl, hx0, hx, hI2, hst⟩
        refine ⟨hl2, .inl ⟨?_, hf.put i x, hI2, fun k hk hlk => ?_⟩⟩
        · rw [getD_set_ne false him]; exact hm0
        · rw [out_put hfit hf rfl x (fun _ => .inr trivial)]
          by_cases hki : k = i
          · subst hki
            cases hd : dstAt ops k with
            | none =>
              rw [if_neg (by simp)]
              have : out ops b k = undef := by unfold out; rw [hd]
              rw [this]; exact hx0 hd
            | some d => rw [if_pos ⟨rfl, rfl⟩]; exact hx
          · rw [if_neg (fun q => hki q.1)]
            rw [getD_set_ne false (Ne.symm hki)] at hlk
            exact hst k _ (hF k hk hlk)
    · have := hall i hlt
      simp only [Array.getD_eq_getD_getElem?] at this
      rw [hli] at this
      cases this
  · rintro l b w' ⟨hs, hR⟩ hr
    have hall := all_listed hfit hs hr
    rcases hR with ⟨hm0, hf, hI, hF⟩ | ⟨-, hq⟩
    · rcases fit_last hfit with q | q
      · exact hend q b w' hf hI (fun k hk => hF k hk (hall k hk))
      · rw [hall m q.1] at hm0; cases hm0
    · exact hq
  · refine ⟨by simp, .inl ⟨?_, ⟨rfl, rfl, fun s _ => rfl⟩, h0, fun k hk hlk => ?_⟩⟩
    · simp only [Array.getD_eq_getD_getElem?, Array.getElem?_replicate]
      split <;> rfl
    · simp only [Array.getD_eq_getD_getElem?, Array.getElem?_replicate, if_pos hk] at hlk
      cases hlk
  · simp
theorem Fr.tmp {a b : Act} (hf : Fr ops a b) {k d : Nat} {v : Value} (hd : dstAt ops k = some d) (hs : d < a.tmps.size) (hv : out ops b k = v) : b.tmps[d]? = some v := by
  unfold out at hv
  rw [hd] at hv
  simp only [Array.getD_eq_getD_getElem?] at hv
  rw [Array.getElem?_eq_getElem (by rw [hf.size]; exact hs)] at hv ⊢
  simpa using hv
theorem Fr.kept {a b : Act} (hf : Fr ops a b) {s : Nat} {v : Value} (hs : (List.range ops.size).all (fun k => decide (dstAt ops k ≠ some s)) = true) (hv : a.tmps[s]? = some v) : b.tmps[s]? = some v := by
  rw [hf.old s ?_]
  · exact hv
  · intro k hk
    simp only [List.all_eq_true, List.mem_range, decide_eq_true_eq] at hs
    refine hs k ?_ hk
    unfold dstAt at hk
    cases q : ops[k]? with
    | none => rw [q] at hk; cases hk
    | some o => exact (Array.getElem?_eq_some_iff.1 q).1
theorem chain_at (b : Act) (s : Nat) (hs : s < b.tmps.size) : ∀ (ks : List Nat) (c : Act), c.tmps.size = b.tmps.size → (ks.foldl (fun c k => c.put (dstAt ops k) (out ops b k)) c).tmps[s]? = if ks.any (fun k => decide (dstAt ops k = some s)) = true then b.tmps[s]? else c.tmps[s]?
  | [], c, hc => by simp
  | k :: ks, c, hc => by
    rw [List.foldl_cons, chain_at b s hs ks _ (by cases dstAt ops k <;> simp [Act.put, hc]), List.any_cons]
    by_cases q : ks.any (fun k => decide (dstAt ops k = some s)) = true
    · simp [q]
    · simp only [Bool.not_eq_true] at q
      rw [q]
      cases hd : dstAt ops k with
      | none => simp [Act.put]
      | some d =>
        by_cases e : d = s
        · subst e
          simp only [Bool.false_eq_true, if_false, decide_true, Bool.or_false, if_true, Act.put]
          rw [Array.getElem?_setIfInBounds_self_of_lt (by rw [hc]; exact hs)]
          unfold out
          rw [hd]
          simp only [Array.getD_eq_getD_getElem?]
          rw [Array.getElem?_eq_getElem hs]
          rfl
        · simp only [Bool.false_eq_true, if_false, Option.some.injEq, e, decide_false, Bool.or_false, Act.put]
          rw [Array.getElem?_setIfInBounds_ne e]
theorem chain_size (b : Act) : ∀ (ks : List Nat) (c : Act), (ks.foldl (fun c k => c.put (dstAt ops k) (out ops b k)) c).tmps.size = c.tmps.size ∧ (ks.foldl (fun c k => c.put (dstAt ops k) (out ops b k)) c).defers = c.defers
  | [], c => ⟨rfl, rfl⟩
  | k :: ks, c => by
    rw [List.foldl_cons]
    have h := chain_size b ks (c.put (dstAt ops k) (out ops b k))
    cases hd : dstAt ops k with
    | none => rw [hd] at h; exact h
    | some d => rw [hd] at h; simpa [Act.put] using h
theorem act_ext {a b : Act} (h1 : a.tmps = b.tmps) (h2 : a.defers = b.defers) : a = b := by
  cases a; cases b; simp only at h1 h2; rw [h1, h2]
theorem Fr.chain {a b : Act} (hf : Fr ops a b) : b = (List.range ops.size).foldl (fun c k => c.put (dstAt ops k) (out ops b k)) a := by
  have hc := chain_size (ops := ops) b (List.range ops.size) a
  have ht : b.tmps = ((List.range ops.size).foldl (fun c k => c.put (dstAt ops k) (out ops b k)) a).tmps := by
    apply Array.ext_getElem?
    intro s
    by_cases hs : s < b.tmps.size
    · rw [chain_at b s hs _ a hf.size.symm]
      by_cases q : (List.range ops.size).any (fun k => decide (dstAt ops k = some s)) = true
      · rw [if_pos q]
      · rw [if_neg q]
        refine hf.old s fun k hk => q ?_
        simp only [List.any_eq_true, List.mem_range, decide_eq_true_eq]
        refine ⟨k, ?_, hk⟩
        unfold dstAt at hk
        cases q : ops[k]? with
        | none => rw [q] at hk; cases hk
        | some o => exact (Array.getElem?_eq_some_iff.1 q).1
    · rw [Array.getElem?_eq_none (by omega), Array.getElem?_eq_none (by rw [hc.1, ← hf.size]; omega)]
  have hd : b.defers = ((List.range ops.size).foldl (fun c k => c.put (dstAt ops k) (out ops b k)) a).defers := by rw [hc.2]; exact hf.defers
  exact act_ext ht hd
def regionOf : Code → Nat → Option (Array Oper)
  | .region id ops _, n => if id = n then some ops else none
  | .seq a b, n => (regionOf a n).orElse fun _ => regionOf b n
  | .cond _ a b, n => (regionOf a n).orElse fun _ => regionOf b n
  | .block _ a, n => regionOf a n
  | .loop a, n => regionOf a n
  | .scope a, n => regionOf a n
  | .rangeFunc _ _ a b, n => (regionOf a n).orElse fun _ => regionOf b n
  | _, _ => none
def opsOf (f : Func) (n : Nat) : Array Oper := ((f.body.bind fun c => regionOf c n)).getD #[]
theorem op_value {i : Nat} {o : Oper} {b : Act} {w w' : World} {x : Value} {K : Act → World → Prop} (hi : ops[i]? = some o) (hw : Region.wanted o (yielded ops b.tmps) = true) (hr : (execOp b.eval o).run P w = .ok (.value x) w') (hK : K (b.put o.dst x) w') : wpOp P ops Q i K b w := by
  unfold wpOp
  simp only [hi, hw, if_true, Oper.wp, hr, Oper.upon]
  exact .inl hK
theorem op_skip {i : Nat} {o : Oper} {b : Act} {w w' : World} {K : Act → World → Prop} (hi : ops[i]? = some o) (hw : Region.wanted o (yielded ops b.tmps) = true) (hr : (execOp b.eval o).run P w = .ok .skip w') (hK : K (b.put o.dst undef) w') : wpOp P ops Q i K b w := by
  unfold wpOp
  simp only [hi, hw, if_true, Oper.wp, hr, Oper.upon]
  exact .inl hK
theorem op_call {i f : Nat} {o : Oper} {b : Act} {w : World} {args : Array Value} {K : Act → World → Prop} {R : Ending → World → Prop} (hi : ops[i]? = some o) (hw : Region.wanted o (yielded ops b.tmps) = true) (hr : (execOp b.eval o).run P w = .ok (.enter f args) w) (hc : Calls P f args w R) (hK : ∀ e w', R e w' → ∃ x, e = .returned x ∧ K (b.put o.dst x) w') : wpOp P ops Q i K b w := by
  unfold wpOp
  simp only [hi, hw, if_true, Oper.wp, hr, Oper.upon]
  refine .inl (hc.mono fun e w' he => ?_)
  obtain ⟨x, rfl, h⟩ := hK e w' he
  exact h
end
end Go.Proofs.Ytgcpiinmcbdkmaa.Rg
