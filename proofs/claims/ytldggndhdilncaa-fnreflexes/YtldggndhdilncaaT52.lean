/-
  Reflexes: the program's.
-/
import Derived.Test.YtldggndhdilncaaT51
import Derived.Test.YtldggndhdilncaaT46
namespace Go.Proofs.Ytldggndhdilncaa
open Go.RowKit Go.Shelf Va Lb
set_option linter.all false
attribute [local go_sem] Oper.semAt_some

set_option maxRecDepth 20000 in
set_option maxHeartbeats 1000000 in
theorem asked_in (F : Fence) (n : Nat) (hF : ∀ f, F.fn f) (hro : F.round = none) (ar : Option Addr) (nr cr : Nat) (ao : Option Addr) (len cap : Nat) (w : World) :
    CallsIn F n Try.prog 17 #[.slice ar nr cr, .slice ao len cap] w fun e w' => e = .returned (.func (.func 25) #[] #[.pointer (some ⟨w.heap.size + 1, 0, none⟩), .pointer (some ⟨w.heap.size, 0, none⟩)]) ∧ w' = (w.alloc (.cells #[.slice ar nr cr] 49)).alloc (.cells #[.slice ao len cap] 26) := by
  refine callsIn_of_wp Try.func17 rfl (hF _) ?_ hro
  simp only [Try.ntmps17, List.size_toArray, List.length_cons, List.length_nil, Nat.reduceAdd, Nat.reduceSub, Array.replicate_succ, Array.replicate_zero, List.push_toArray, List.append_toArray, List.nil_append, List.cons_append]
  gi_wp2
  go_ret
  exact ⟨rfl, rfl⟩

theorem own_keptT {W W' : World} {base e size k : Nat} {v : Value} {xs : List Value} (h : W.ownsRow base e size v k xs) (hk : ∀ j, v.ownBlock = some j → W'.heap[j]? = W.heap[j]?) : W'.ownsRow base e size v k xs := by
  obtain ⟨q, ⟨q1, q2⟩ | ⟨g, c, cur, rfl, hb, hh, r⟩⟩ := h
  · exact ⟨q, Or.inl ⟨q1, q2⟩⟩
  · exact ⟨q, Or.inr ⟨g, c, cur, rfl, hb, (hk g rfl).trans hh, r⟩⟩
/-- The tests so far: in a row of the call's own whose slice lies in a box. -/
structure TI (w : World) (B7 : Nat) (L : List Int) (W : World) : Prop where
  row : ∃ ad c, PB W B7 #[.slice ad L.length c] 26 ∧ W.ownsRow w.heap.size 2 1 (.slice ad L.length c) L.length (L.map fun z => Value.int .i64 z)
  bel : Below w.heap.size w W
theorem TI.kept {w W W' : World} {B7 : Nat} {L : List Int} {row : Option Nat} (h : TI w B7 L W) (hg : W.grownBy W' row) (hr : ∀ r, row = some r → w.heap.size ≤ r ∧ ∃ o : Obj, W.heap[r]? = some o ∧ ∀ vs t, o = .cells vs t (0, 0) → t ≠ 2 ∧ t ≠ 26) : TI w B7 L W' := by
  obtain ⟨ad, c, q1, q2⟩ := h.row
  have hs : ∀ (k : Nat) vs t, W.heap[k]? = some (.cells vs t (0, 0)) → (t = 2 ∨ t = 26) → W'.heap[k]? = W.heap[k]? := fun k vs t hk ht => hg.block k (Array.getElem?_eq_some_iff.1 hk).1 (fun e => by
    obtain ⟨-, o, ho, hn⟩ := hr k e.symm
    rw [hk] at ho
    have := hn vs t (Option.some.inj ho).symm
    rcases ht with ht | ht
    · exact this.1 ht
    · exact this.2 ht)
  refine ⟨⟨ad, c, (hs B7 _ _ q1 (Or.inr rfl)).trans q1, own_keptT q2 (fun j hj => ?_)⟩, h.bel.grown hg h.bel.size (fun k hk => (hr k hk).1)⟩
  obtain ⟨-, ⟨q3, -⟩ | ⟨g, c', cur, q3, hb, hh, -⟩⟩ := q2
  · rw [q3] at hj; cases hj
  · rw [q3] at hj
    obtain rfl : g = j := Option.some.inj hj
    exact hs g cur _ hh (Or.inl rfl)
theorem TI.push {w W W5 : World} {B7 B1 c c5 : Nat} {L : List Int} {x : Int} {ad ad5 : Option Addr} {o : Obj} {B : Nat} (hbel : Below w.heap.size w W) (q1 : PB W B7 #[.slice ad L.length c] 26) (q2 : W.ownsRow w.heap.size 2 1 (.slice ad L.length c) L.length (L.map fun z => Value.int .i64 z)) (h7 : w.heap.size ≤ B7) (h17 : B1 ≠ B7)
    (ho5 : W5.ownsRow w.heap.size 2 1 (.slice ad5 (L.length + 1) c5) (L.length + 1) ((L.map fun z => Value.int .i64 z) ++ [.int .i64 x])) (hg5 : (W.alloc o).grownBy W5 (Value.slice ad L.length c).ownBlock) :
    KeepsFrom B W (W5.setCell ⟨B7, 0, none⟩ (.slice ad5 (L.length + 1) c5)) ∧ KpR w.heap.size B1 W (W5.setCell ⟨B7, 0, none⟩ (.slice ad5 (L.length + 1) c5)) ∧ TI w B7 (L ++ [x]) (W5.setCell ⟨B7, 0, none⟩ (.slice ad5 (L.length + 1) c5)) := by
  have hz := hbel.size
  have hz5 : W.heap.size ≤ W5.heap.size := by have := hg5.size; simp at this; omega
  have hown := fun k (hk : (Value.slice ad L.length c).ownBlock = some k) => ownW_lt q2 k hk
  have hk5 : ∀ k, k < W.heap.size → (Value.slice ad L.length c).ownBlock ≠ some k → W5.heap[k]? = W.heap[k]? := fun k hk hne => (hg5.block k (by simp; omega) (fun e => hne e.symm)).trans (Below.heap_alloc W o k hk)
  have hk6 : ∀ k, k < W.heap.size → k ≠ B7 → (Value.slice ad L.length c).ownBlock ≠ some k → (W5.setCell ⟨B7, 0, none⟩ (.slice ad5 (L.length + 1) c5)).heap[k]? = W.heap[k]? := fun k hk h7 hne => (heap_setCell_other W5 ⟨B7, 0, none⟩ k _ h7).trans (hk5 k hk hne)
  have p5 : PB W5 B7 #[.slice ad L.length c] 26 := (hk5 B7 q1.lt (fun e => PBT_ne q1 q2 (by decide) B7 e rfl)).trans q1
  have hb6 : Below w.heap.size w (W5.setCell ⟨B7, 0, none⟩ (.slice ad5 (L.length + 1) c5)) := by
    refine Below.setCell (p := ⟨B7, 0, none⟩) ?_ h7 _
    exact (hbel.alloc hz o).grown hg5 (by simp; omega) (fun k hk => (hown k hk).1)
  have hrowne : ∀ k vs t, PB W k vs t → t ≠ 2 → (Value.slice ad L.length c).ownBlock ≠ some k := fun k vs t hk ht e => PBT_ne hk q2 ht k e rfl
  refine ⟨⟨by simp [World.setCell]; omega, fun k ob _ hk hc => ?_⟩, ⟨?_, fun vs hk => ?_, fun C vs t ht1 ht2 hk => ?_⟩, ⟨⟨ad5, c5, ?_, ?_⟩, hb6⟩⟩
  · refine (hk6 k (Array.getElem?_eq_some_iff.1 hk).1 ?_ ?_).trans hk
    · rintro rfl
      have e := hk.symm.trans q1
      rw [Option.some.inj e] at hc
      cases hc
    · intro e
      obtain ⟨-, ⟨q3, -⟩ | ⟨g, c', cur, q3, hb, hh, -⟩⟩ := q2
      · rw [q3] at e; cases e
      · rw [q3] at e
        obtain rfl : g = k := Option.some.inj e
        have e2 := hk.symm.trans hh
        rw [Option.some.inj e2] at hc
        cases hc
  · exact ((Below.refl w.heap.size W).alloc hz o |>.grown hg5 (by simp; omega) (fun k hk => (hown k hk).1)).setCell (p := ⟨B7, 0, none⟩) h7 _
  · exact (hk6 B1 hk.lt h17 (hrowne B1 vs _ hk (by decide))).trans hk
  · exact (hk6 C hk.lt (fun e => by subst e; have := hk.symm.trans q1; simp at this; exact ht2 this.2) (hrowne C vs t hk ht1)).trans hk
  · rw [List.length_append]; exact p5.put 0 _ (by simp)
  · rw [List.length_append, List.map_append]
    refine own_keptT ho5 (fun j hj => heap_setCell_other W5 ⟨B7, 0, none⟩ j _ ?_)
    exact PBT_ne p5 ho5 (by decide) j hj
end Go.Proofs.Ytldggndhdilncaa
