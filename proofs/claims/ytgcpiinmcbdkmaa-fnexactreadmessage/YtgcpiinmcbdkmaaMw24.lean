/-
  Merged: Rm13.
-/
import Derived.Test.YtgcpiinmcbdkmaaMw23
import Derived.ScopeJumps
import Derived.WalkMore
namespace Go.Proofs.Ytgcpiinmcbdkmaa
open Go.RowKit Va Ms
set_option linter.all false
def jumpsE (J : Nat → Act → World → Prop) (Q : Exit → Act → World → Prop) : Exit → Act → World → Prop
  | .goto l, a, w => J l a w
  | e, a, w => Q e a w
def jumpsF (J : Nat → Act → World → Prop) (Q : Act → World → Prop) : Exit → Act → World → Prop
  | .goto l, a, w => J l a w
  | .ret, a, w => Q a w
  | _, _, _ => False
section
variable {P : Program} {a : Act} {w : World} {Q : Exit → Act → World → Prop}
theorem wp_scope_many {c : Code} (J : Nat → Nat → Act → World → Prop)
    (first : c.wp P (jumpsE (fun l a' w' => ∃ n, J l n a' w') Q) a w)
    (pass : ∀ l n a w, J l n a w → ∃ r, findLabel c l = some r ∧ r.wp P (jumpsE (fun l' a' w' => ∃ n', n' < n ∧ J l' n' a' w') Q) a w) : (Code.scope c).wp P Q a w := by
  intro b k cs
  have hg : ∀ l r, findLabel c l = some r → gotoIn l (.inScope c :: k) = some (.code r :: .inScope c :: k) := fun l r hf => by simp [gotoIn, hf]
  have key : ∀ n l a w, J l n a w → ∃ r, findLabel c l = some r ∧ ∃ e a' w', Q e a' w' ∧ Arrives P (lone (b.at a (.code r :: .inScope c :: k)) cs w) b k cs e a' w' := by
    intro n
    induction n using Nat.strongRecOn with
    | _ n ih =>
      intro l a w hJ
      obtain ⟨r, hr, hp⟩ := pass l n a w hJ
      refine ⟨r, hr, ?_⟩
      obtain ⟨e, a₁, w₁, hq, harr⟩ := hp b (.inScope c :: k) cs
      cases e with
      | normal => exact ⟨.normal, a₁, w₁, hq, Steps.trans harr (.one step_inScope)⟩
      | exit id => exact ⟨.exit id, a₁, w₁, hq, fun k' hk => harr k' (by simp [exitTo, hk])⟩
      | goto l' =>
        obtain ⟨n', hlt, hJ'⟩ := hq
        obtain ⟨r', hr', e₂, a₂, w₂, hq₂, harr₂⟩ := ih n' hlt l' a₁ w₁ hJ'
        exact ⟨e₂, a₂, w₂, hq₂, .of_steps (harr _ (hg l' r' hr')) harr₂⟩
      | ret => exact ⟨_, a₁, w₁, hq, harr⟩
      | panic ch => exact ⟨_, a₁, w₁, hq, harr⟩
      | outgrown => exact ⟨_, a₁, w₁, hq, harr⟩
  obtain ⟨e, a₁, w₁, hq, harr⟩ := first b (.inScope c :: k) cs
  cases e with
  | normal => exact ⟨.normal, a₁, w₁, hq, .head step_scope (Steps.trans harr (.one step_inScope))⟩
  | exit id => exact ⟨.exit id, a₁, w₁, hq, fun k' hk => .head step_scope (harr k' (by simp [exitTo, hk]))⟩
  | goto l' =>
    obtain ⟨n', hJ'⟩ := hq
    obtain ⟨r', hr', e₂, a₂, w₂, hq₂, harr₂⟩ := key n' l' a₁ w₁ hJ'
    exact ⟨e₂, a₂, w₂, hq₂, .of_steps (.head step_scope (harr _ (hg l' r' hr'))) harr₂⟩
  | ret => exact ⟨_, a₁, w₁, hq, .of_steps (.one step_scope) harr⟩
  | panic ch => exact ⟨_, a₁, w₁, hq, .of_steps (.one step_scope) harr⟩
  | outgrown => exact ⟨_, a₁, w₁, hq, .of_steps (.one step_scope) harr⟩
theorem hide_tail {A B X : Code} (h : ∀ Z, Z = X → (A.seq (B.seq Z)).wp P Q a w) : (A.seq (B.seq X)).wp P Q a w := h X rfl
theorem hide_tail3 {A B C X : Code} (h : ∀ Z, Z = X → (A.seq (B.seq (C.seq Z))).wp P Q a w) : (A.seq (B.seq (C.seq X))).wp P Q a w := h X rfl
theorem jumpsF_jumpsE {c : Code} {J : Nat → Act → World → Prop} {K : Act → World → Prop} (h : c.wp P (jumpsF J K) a w) (hq : ∀ a w, K a w → Q .ret a w) : c.wp P (jumpsE J Q) a w :=
  wp_mono h fun e a w q => by cases e <;> first | exact q | exact hq _ _ q | exact q.elim
theorem jumpsF_mono {c : Code} {J J' : Nat → Act → World → Prop} {K : Act → World → Prop} (h : c.wp P (jumpsF J K) a w) (hj : ∀ l a w, J l a w → J' l a w) : c.wp P (jumpsF J' K) a w :=
  wp_mono h fun e a w q => by cases e <;> first | exact hj _ _ _ q | exact q
theorem wp_skipped {X : Code} (h : X.wp P Q a w) : (Code.seq .skip X).wp P Q a w := wp_seq (wp_skip h)
theorem wp_labelled {X : Code} {l : Nat} (h : X.wp P Q a w) : (Code.seq (.label l) X).wp P Q a w := wp_seq (wp_label h)
end
noncomputable def cdRp : Code := match Try.f70.body with | some (.scope c) => c | _ => .skip
def FrR (R : Nat) (a : Act) : Prop := ∃ u1 u2 u3 u4 u5 u6 u7 u8 u9 u10 u11 u12 u13 u14 u15 u16 u17 u18 u19 u20 u21 u22 u23 u24 u25 u26 u27 u28 u29 u30 u31 u32 u33 u34 u35 u36 u37 u38 u39 u40 u41 u42 u43 u44 u45 u46 u47 u48 u49 u50 u51 u52 u53 u54 u55 u56 u57 u58 u59 u60 : Value, a = { tmps := #[.pointer (some ⟨R, 0, none⟩), u1, u2, u3, u4, u5, u6, u7, u8, u9, u10, u11, u12, u13, u14, u15, u16, u17, u18, u19, u20, u21, u22, u23, u24, u25, u26, u27, u28, u29, u30, u31, u32, u33, u34, u35, u36, u37, u38, u39, u40, u41, u42, u43, u44, u45, u46, u47, u48, u49, u50, u51, u52, u53, u54, u55, u56, u57, u58, u59, u60], defers := [] }
structure BkR (s : ByteArray) (R : Nat) (w0 w : World) (i b : Nat) (nm : ByteArray) (fv dv pv : Value) (c a : Nat) (L : List (Pt × Value)) (F : Nat) : Prop where
  box : PB w R (rdC s i b nm fv dv pv c a) 110
  keep : Keep R w0 w
  bF : w0.heap.size ≤ F
  Fs : F ≤ w.heap.size
  parts : w.ownsRow w0.heap.size 106 2 pv L.length (cellsP L)
  each : ∀ p ∈ L, w.ownsRow w0.heap.size 9 1 p.2 p.1.fs.length (strV p.1.fs) ∧ ∀ k, p.2.ownBlock = some k → k < F
  len : L.length ≤ i
  dist : L.Pairwise fun p q => ∀ k, p.2.ownBlock = some k → q.2.ownBlock ≠ some k
theorem Keep.two {R : Nat} {r : Option Nat} {a b c : World} (h : Keep R a b) (k : Two R r b c) (hr : ∀ j, r = some j → a.heap.size ≤ j) : Keep R a c :=
  ⟨k.os.trans h.os, k.tape.trans h.tape, k.output.trans h.output, Nat.le_trans h.size k.size, fun j hj hg => (k.block j (Nat.lt_of_lt_of_le hj h.size) hg (fun e => by have := hr j e; omega)).trans (h.block j hj hg)⟩
theorem BkR.step {s : ByteArray} {R : Nat} {w0 w w' : World} {i b : Nat} {nm : ByteArray} {fv dv pv : Value} {c a : Nat} {L : List (Pt × Value)} {F : Nat} (h : BkR s R w0 w i b nm fv dv pv c a L F)
    {r : Option Nat} (k : Two R r w w') (hr : ∀ j, r = some j → w0.heap.size ≤ j) (hrp : ∀ j, pv.ownBlock = some j → r ≠ some j) (hrl : ∀ p ∈ L, ∀ j, p.2.ownBlock = some j → r ≠ some j)
    {i' b' : Nat} {nm' : ByteArray} {fv' dv' : Value} {c' a' F' : Nat} (hb : PB w' R (rdC s i' b' nm' fv' dv' pv c' a') 110) (hi : i ≤ i') (hF : F ≤ F') (hF' : F' ≤ w'.heap.size) : BkR s R w0 w' i' b' nm' fv' dv' pv c' a' L F' :=
  ⟨hb, h.keep.two k hr, Nat.le_trans h.bF hF, hF', k.own h.parts (ownU_ty h.parts h.box (by decide)) hrp,
    fun p hp => ⟨k.own (h.each p hp).1 (ownU_ty (h.each p hp).1 h.box (by decide)) (hrl p hp), fun j hj => Nat.lt_of_lt_of_le ((h.each p hp).2 j hj) hF⟩, Nat.le_trans h.len hi, h.dist⟩
theorem BkR.kept {s : ByteArray} {R : Nat} {w0 w w' : World} {i b : Nat} {nm : ByteArray} {fv dv pv : Value} {c a : Nat} {L : List (Pt × Value)} {F : Nat} (h : BkR s R w0 w i b nm fv dv pv c a L F) (k : Keep R w w')
    {i' b' : Nat} {nm' : ByteArray} {fv' dv' : Value} {c' a' F' : Nat} (hb : PB w' R (rdC s i' b' nm' fv' dv' pv c' a') 110) (hi : i ≤ i') (hF : F ≤ F') (hF' : F' ≤ w'.heap.size) : BkR s R w0 w' i' b' nm' fv' dv' pv c' a' L F' :=
  h.step (r := none) (Two.of_keep k) (fun j e => by cases e) (fun j _ e => by cases e) (fun p _ j _ e => by cases e) hb hi hF hF'
theorem BkR.push {s : ByteArray} {R : Nat} {w0 w w' : World} {i b : Nat} {nm : ByteArray} {fv dv pv : Value} {c a : Nat} {L : List (Pt × Value)} {F : Nat} (h : BkR s R w0 w i b nm fv dv pv c a L F) (k : Two R pv.ownBlock w w')
    {fs : List ByteArray} (hf : w.ownsRow F 9 1 fv fs.length (strV fs)) {b' : Nat} {nm' : ByteArray} {fv' dv' pv' : Value} {c' a' : Nat} (hb : PB w' R (rdC s i b' nm' fv' dv' pv' c' a') 110)
    (hp : w'.ownsRow w0.heap.size 106 2 pv' (L.length + 1) (cellsP (L ++ [(⟨nm, fs⟩, fv)]))) (hl : L.length + 1 ≤ i) : BkR s R w0 w' i b' nm' fv' dv' pv' c' a' (L ++ [(⟨nm, fs⟩, fv)]) w'.heap.size := by
  have hle := ownB_lt h.parts
  have own : ∀ {b v n xs}, w.ownsRow b 9 1 v n xs → w'.ownsRow b 9 1 v n xs := fun q => k.own q (ownU_ty q h.box (by decide)) (fun j hj e => own_apartB q h.parts (by decide) j hj e)
  refine ⟨hb, h.keep.two k hle, Nat.le_trans h.bF (Nat.le_trans h.Fs k.size), Nat.le_refl _, by rw [List.length_append]; exact hp, fun p hpm => ?_, by rw [List.length_append]; exact hl, List.pairwise_append.2 ⟨h.dist, List.pairwise_singleton _ _, fun p hpm q hq k hk e => by obtain rfl := List.mem_singleton.1 hq; have h1 := (h.each p hpm).2 k hk; have h2 := ownB_lt hf k e; omega⟩⟩
  rcases List.mem_append.1 hpm with q | q
  · exact ⟨own (h.each p q).1, fun j hj => Nat.lt_of_lt_of_le ((h.each p q).2 j hj) (Nat.le_trans h.Fs k.size)⟩
  · obtain rfl := List.mem_singleton.1 q
    refine ⟨own (ownW_base hf h.bF), fun j hj => Nat.lt_of_lt_of_le (ownW_lt hf j hj).2 k.size⟩
def J0 (s : ByteArray) (R : Nat) (w0 : World) (i : Nat) (w : World) : Prop := i ≤ s.size ∧ ∃ b nm fv dv pv c a L F, BkR s R w0 w i b nm fv dv pv c a L F ∧ InvN s i (L.map Prod.fst) c a
def J2 (s : ByteArray) (R : Nat) (w0 : World) (i : Nat) (w : World) : Prop := i < s.size ∧ ∃ b nm fv dv pv a L F, BkR s R w0 w i b nm fv dv pv 4 a L F ∧ badName s 0 = some a
def J1 (s : ByteArray) (R : Nat) (w0 : World) (i : Nat) (w : World) : Prop := i < s.size ∧ (nb s i = 124 ∨ nb s i = 13) ∧ ∃ b nm fv dv pv c a L F fs, BkR s R w0 w i b nm fv dv pv c a L F ∧ w.ownsRow F 9 1 fv fs.length (strV fs) ∧ fs.length ≤ i + 1 ∧ InvM s i b nm (L.map Prod.fst) fs c a
def J4 (s : ByteArray) (R : Nat) (w0 : World) (i : Nat) (w : World) : Prop := i < s.size ∧ ∃ b nm fv dv pv c a L F fs fd, BkR s R w0 w i b nm fv dv pv c a L F ∧ w.ownsRow F 9 1 fv fs.length (strV fs) ∧ fs.length ≤ i ∧ w.ownsRow w0.heap.size 5 1 dv fd.length (bytV fd) ∧ (∀ x ∈ fd, x < 256) ∧ fd.length ≤ i ∧ InvF s i b nm (L.map Prod.fst) fs fd c a
def JJ (s : ByteArray) (R : Nat) (w0 : World) (l n : Nat) (a : Act) (w : World) : Prop := FrR R a ∧ ∃ i,
  (l = 0 ∧ n = 3 * (s.size - i) ∧ J0 s R w0 i w) ∨ (l = 2 ∧ n = 3 * (s.size - i) ∧ J2 s R w0 i w) ∨ (l = 1 ∧ n = 3 * (s.size - i) ∧ J1 s R w0 i w) ∨
  (l = 4 ∧ n = 3 * (s.size - i) + 2 ∧ J4 s R w0 i w) ∨ (l = 3 ∧ n = 3 * (s.size - i) + 1 ∧ nb s i = 92 ∧ J4 s R w0 i w)
end Go.Proofs.Ytgcpiinmcbdkmaa
