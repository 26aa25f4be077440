/-
  A region that draws its order, by what its operations leave; what one has left may be wanted up to a certain other alone. No program in sight.
-/
import Derived.Test.YtgcpiinmcbdkmaaRg
import Derived.Maps.AppendAt
namespace Go.Proofs.Ytgcpiinmcbdkmaa.Rg
open Go
set_option linter.all false

section
variable {P : Program} {ops : Array Oper} {Q : Exit → Act → World → Prop} {md : Region.Mode}

/-- What k has left is still wanted behind operation i. -/
def due (md : Region.Mode) (ops : Array Oper) (dead : Nat → Option Nat) (i k : Nat) : Bool :=
  decide (k ≠ i) && !aftOf md ops k i && (match dead k with | some j => decide (j ≠ i) && !aftOf md ops i j | none => true)
def Hop2 (P : Program) (md : Region.Mode) (ops : Array Oper) (Q : Exit → Act → World → Prop) (a : Act) (I : World → Prop) (F : Nat → Value → World → Prop) (dead : Nat → Option Nat) (i : Nat) : Prop :=
  ∀ b w, Fr ops a b → I w → (∀ k, aftOf md ops i k = true → (dead k = none ∨ dead k = some i) → F k (out ops b k) w) →
    wpOp P ops Q i (fun b' w' => ∃ x, b' = b.put (dstAt ops i) x ∧ (dstAt ops i = none → F i undef w') ∧ F i x w' ∧ I w' ∧ ∀ k y, due md ops dead i k = true → F k y w → F k y w') b w

theorem aft_done {i k : Nat} {o : Oper} {l : Array Bool} (hio : ops[i]? = some o) (haft : ∀ e ∈ o.after, Region.binds md e = true → l.getD e.on false = true) (hk : aftOf md ops i k = true) : l.getD k false = true := by
  unfold aftOf at hk
  rw [hio] at hk
  simp only [Option.map_some, Option.getD_some, List.any_eq_true, Bool.and_eq_true, beq_iff_eq] at hk
  obtain ⟨e, he, hek, hb⟩ := hk
  have he := Array.mem_toList_iff.1 he
  have hlk := haft e he hb
  rw [hek] at hlk
  exact hlk
/-- What is listed has all listed that it comes behind. -/
def Shut (md : Region.Mode) (ops : Array Oper) (l : Array Bool) : Prop := ∀ k j, l.getD k false = true → aftOf md ops k j = true → l.getD j false = true

theorem region_dead {id : Nat} {a : Act} {w : World} (hm : P.follows .mixedOrders = true) (I : World → Prop) (F : Nat → Value → World → Prop) (dead : Nat → Option Nat) (hfit : fit .any ops a.tmps.size ops.size = true)
    (h0 : I { w with drawn := w.drawn + 1 }) (hop : ∀ i, i < ops.size → Hop2 P .any ops Q a I F dead i)
    (hend : ∀ b w', Fr ops a b → I w' → (∀ k, k < ops.size → dead k = none → F k (out ops b k) w') → Q .normal b w') : (Code.region id ops true).wp P Q a w := by
  refine wp_region_any hm ?_
  refine wpAny_inv (fun l b w' => l.size = ops.size ∧ Shut .any ops l ∧ Fr ops a b ∧ I w' ∧ ∀ k, k < ops.size → l.getD k false = true → (∃ j, dead k = some j ∧ l.getD j false = true) ∨ F k (out ops b k) w') ?_ ?_ _ _ _ _ ?_ ?_
  · rintro l b w' i ⟨hs, hsh, hf, hI, hF⟩ hi
    obtain ⟨hi0, o, hio, haft⟩ := mem_ready.1 hi
    have hlt : i < ops.size := (Array.getElem?_eq_some_iff.1 hio).1
    have hli := getD_of (b := false) hi0
    have hnot : ∀ {d : Bool}, l.getD i d = true → False := fun {d} h => by
      simp only [Array.getD_eq_getD_getElem?] at h
      rw [hli] at h; cases h
    have hl2 : (l.setIfInBounds i true).size = ops.size := by rw [Array.size_setIfInBounds]; exact hs
    have hii : (l.setIfInBounds i true).getD i false = true := by
      rw [Array.getD_eq_getD_getElem?, Array.getElem?_setIfInBounds_self_of_lt (by omega)]; rfl
    have hA : ∀ k, aftOf .any ops i k = true → (dead k = none ∨ dead k = some i) → F k (out ops b k) w' := by
      intro k hk hd
      have hlk := aft_done hio haft hk
      have hkl : k < ops.size := by
        have : k < l.size := by
          rcases Nat.lt_or_ge k l.size with q | q
          · exact q
          · rw [Array.getD_eq_getD_getElem?, Array.getElem?_eq_none q] at hlk; cases hlk
        omega
      rcases hF k hkl hlk with ⟨j, hj, hjl⟩ | h
      · rcases hd with hd | hd
        · rw [hd] at hj; cases hj
        · rw [hd] at hj; cases hj; exact (hnot hjl).elim
      · exact h
    refine wpOp_mono ?_ (hop i hlt b w' hf hI hA)
    rintro b' w'' ⟨x, rfl, hx0, hx, hI2, hst⟩
    refine ⟨hl2, ?_, hf.put i x, hI2, fun k hk hlk => ?_⟩
    · intro k j hk hkj
      by_cases hki : k = i
      · subst hki
        exact getD_set_true (aft_done hio haft hkj)
      · rw [getD_set_ne false (Ne.symm hki)] at hk
        exact getD_set_true (hsh k j hk hkj)
    · rw [out_put hfit hf rfl x (fun _ => .inr trivial)]
      by_cases hki : k = i
      · subst hki
        refine .inr ?_
        cases hd : dstAt ops k with
        | none =>
          rw [if_neg (by simp)]
          have : out ops b k = undef := by unfold out; rw [hd]
          rw [this]; exact hx0 hd
        | some d => rw [if_pos ⟨rfl, rfl⟩]; exact hx
      · rw [if_neg (fun q => hki q.1)]
        rw [getD_set_ne false (Ne.symm hki)] at hlk
        rcases hF k hk hlk with ⟨j, hj, hjl⟩ | h
        · exact .inl ⟨j, hj, getD_set_true hjl⟩
        · cases hdk : dead k with
          | none =>
            refine .inr (hst k _ ?_ h)
            simp only [due, hdk, Bool.and_true, Bool.and_eq_true, decide_eq_true_eq, Bool.not_eq_true']
            refine ⟨hki, ?_⟩
            cases q : aftOf .any ops k i with
            | false => rfl
            | true => exact (hnot (hsh k i hlk q)).elim
          | some j =>
            by_cases hji : j = i
            · subst hji; exact .inl ⟨j, rfl, hii⟩
            · by_cases hjd : aftOf .any ops i j = true
              · exact .inl ⟨j, rfl, getD_set_true (aft_done hio haft hjd)⟩
              · refine .inr (hst k _ ?_ h)
                simp only [due, hdk, Bool.and_eq_true, decide_eq_true_eq, Bool.not_eq_true']
                refine ⟨⟨hki, ?_⟩, hji, by simpa using hjd⟩
                cases q : aftOf .any ops k i with
                | false => rfl
                | true => exact (hnot (hsh k i hlk q)).elim
  · rintro l b w' ⟨hs, hsh, hf, hI, hF⟩ hr
    have hall := all_listed hfit hs hr
    exact hend b w' hf hI (fun k hk hd => by
      rcases hF k hk (hall k hk) with ⟨j, hj, _⟩ | h
      · rw [hd] at hj; cases hj
      · exact h)
  · refine ⟨by simp, fun k j hk _ => ?_, ⟨rfl, rfl, fun s _ => rfl⟩, h0, fun k hk hlk => ?_⟩
    · simp only [Array.getD_eq_getD_getElem?, Array.getElem?_replicate] at hk
      split at hk <;> cases hk
    · simp only [Array.getD_eq_getD_getElem?, Array.getElem?_replicate, if_pos hk] at hlk
      cases hlk
  · simp
theorem op_none {i : Nat} {o : Oper} {b : Act} {w : World} {K : Act → World → Prop} (hi : ops[i]? = some o) (hw : Region.wanted o (yielded ops b.tmps) = false) (hK : K (b.put o.dst undef) w) : wpOp P ops Q i K b w := by
  unfold wpOp
  simp only [hi, hw]
  exact hK
theorem unwanted_of {o : Oper} {g d : Nat} {want : Bool} {b : Act} (hg : o.guard = some (g, want)) (hd : dstAt ops g = some d) (hq : b.tmps[d]? = some (.bool (!want))) : Region.wanted o (yielded ops b.tmps) = false := by
  unfold Region.wanted yielded
  unfold dstAt at hd
  rw [hg]
  simp only [hd, Option.bind_some, hq]
  cases want <;> rfl
theorem op_append {i : Nat} {o : Oper} {b : Act} {w : World} {K : Act → World → Prop} (hio : ops[i]? = some o) (hw : Region.wanted o (yielded ops b.tmps) = true) (s x : Operand) (t : TypeId)
    (ho : o.op = .call { callee := .builtin .append, args := #[s, x], argTypes := #[t, t] })
    (base : Nat) (e : TypeId) (ti : TypeInfo) (z : Value) (size bytes : Nat) (ht : P.underlying t = some (.slice e)) (hi : P.info? e = some ti) (hz : ti.zero = some z)
    (hsize : ti.size = size) (hby : ti.bytes = bytes) (hzs : z.cells.size = size) (hsz : 0 < size)
    (v : Value) (n : Nat) (xs : List Value) (hs : b.eval s = v) (hown : w.ownsRow base e size v n xs)
    (ad : Addr) (m c : Nat) (news : List Value) (hx : b.eval x = .slice (some ad) m c) (hl : news.length = m * size) (hnews : ∀ j u, news[j]? = some u → w.cell? (ad.add j) = some u) (h1 : ∀ u ∈ news, u.oneCell' = true)
    (h63 : n + m ≤ maxLen) (hbytes : (n + m) * bytes ≤ 140737488355328) (hbase : base ≤ w.heap.size)
    (h : ∀ v' w', w'.ownsRow base e size v' (n + m) (xs ++ news) → w.grownBy w' v.ownBlock → (v'.ownBlock = v.ownBlock ∨ v'.ownBlock = some w.heap.size) → K (b.put o.dst v') w') : wpOp P ops Q i K b w := by
  obtain ⟨v', w', hr, h2, h3, h4, h5⟩ := run_append_own_at (P := P) w base t o.type e ti z size bytes ht hi hz hsize hby hzs hsz v n xs hown ad m c news hl hnews h1 h63 hbytes hbase
  refine op_value (x := v') (w' := w') hio hw ?_ (h v' w' h2 h3 h5)
  unfold execOp
  simp only [ho, resolve, invoke, builtin, Sem.run_bind, Sem.run_pure, Result.andThen_ok, List.map_toArray, List.map_cons, List.map_nil, hs, hx, hr]
end
end Go.Proofs.Ytgcpiinmcbdkmaa.Rg
