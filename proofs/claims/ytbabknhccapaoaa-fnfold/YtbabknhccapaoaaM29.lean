/-
  Fold: the program's.
-/
import Derived.Test.YtbabknhccapaoaaM28
import Derived.Test.YtbabknhccapaoaaShelfK
import Derived.Test.YtbabknhccapaoaaM6
namespace Go.Proofs.Ytbabknhccapaoaa
open Go.RowKit Va Mg Go.Maps Go.Sort Go.Shelf
set_option linter.all false

/-- The keys below n of which something is told. -/
noncomputable def keysTo (I : List Lt) : Nat → List Int
  | 0 => []
  | n + 1 => match best I n with
    | none => keysTo I n
    | some _ => keysTo I n ++ [(n : Int)]
theorem keys_mem (I : List Lt) (x : Int) : ∀ n, x ∈ keysTo I n ↔ 0 ≤ x ∧ x < n ∧ (best I x).isSome = true
  | 0 => by simp only [keysTo, List.not_mem_nil, false_iff]; omega
  | n + 1 => by
    have ih := keys_mem I x n
    unfold keysTo
    cases hb : best I n with
    | none =>
      simp only
      rw [ih]
      constructor
      · rintro ⟨a, b, c⟩; exact ⟨a, by push_cast; omega, c⟩
      · rintro ⟨a, b, c⟩
        refine ⟨a, ?_, c⟩
        by_cases q : x = n
        · subst q; rw [hb] at c; cases c
        · push_cast at b; omega
    | some y =>
      simp only
      rw [List.mem_append, ih, List.mem_singleton]
      constructor
      · rintro (⟨a, b, c⟩ | rfl)
        · exact ⟨a, by push_cast; omega, c⟩
        · exact ⟨by omega, by push_cast; omega, by rw [hb]; rfl⟩
      · rintro ⟨a, b, c⟩
        by_cases q : x = n
        · exact Or.inr q
        · exact Or.inl ⟨a, by push_cast at b; omega, c⟩
theorem keys_incr (I : List Lt) : ∀ n, (keysTo I n).Pairwise (· < ·)
  | 0 => List.Pairwise.nil
  | n + 1 => by
    have ih := keys_incr I n
    unfold keysTo
    split
    · exact ih
    · refine List.pairwise_append.2 ⟨ih, List.pairwise_singleton _ _, fun a ha b hb => ?_⟩
      rw [List.mem_singleton.1 hb]
      exact ((keys_mem I a n).1 ha).2.1
noncomputable def fct (I : List Lt) (k : Int) : Fc := ⟨k, ((best I k).getD zLt).v⟩
theorem facts_keys (I : List Lt) : ∀ n, factsTo I n = (keysTo I n).map (fct I)
  | 0 => rfl
  | n + 1 => by
    have ih := facts_keys I n
    unfold factsTo keysTo
    cases hb : best I n with
    | none => simp only; exact ih
    | some y =>
      simp only
      rw [List.map_append, ← ih]
      simp [fct, hb]
theorem best_key {I : List Lt} (hI : InOk I) {k : Int} {x : Lt} (h : best I k = some x) : 0 ≤ k ∧ k < 100 ∧ x.k = k := by
  have q := best_is I k
  rw [h] at q
  have := (ltB_iff.1 (hI.ok x q.1.1)).2.2.2.1
  rw [q.1.2.2.1] at this
  exact ⟨this.1, by omega, q.1.2.2.1⟩
theorem keys_perm15 {w : World} {B n : Nat} {I : List Lt} {D : DataW Unit} (hI : InOk I) (hown : w.ownsMap Try.prog 2 letE B n D) (hT : Tv D (best I)) : (keysTo I 100).Perm (intKeys D) := by
  refine CollectedI.perm (D0 := D) (left := fun _ => false) ⟨(keys_incr I 100).imp (fun h => by omega), fun x => ?_⟩ hown keyedK Try.underlying2 (fun _ => rfl)
  rw [keys_mem]
  by_cases hx : Wi x
  · rw [(hT x hx).1]
    constructor
    · rintro ⟨_, _, c⟩; exact ⟨c, by simp⟩
    · rintro ⟨c, _⟩
      obtain ⟨z, hz⟩ := Option.isSome_iff_exists.1 c
      have := best_key hI hz
      exact ⟨this.1, by push_cast; omega, c⟩
  · constructor
    · rintro ⟨a, b, _⟩; exact absurd (Wi.of (by omega) (by push_cast at b; omega)) hx
    · rintro ⟨q, _⟩
      obtain ⟨es, rfl, hko⟩ := hown.keysOf
      rw [has_eq, List.any_eq_true] at q
      obtain ⟨p, hp, hs⟩ := q
      obtain ⟨v, hv⟩ := hko p hp
      obtain ⟨y, _, hy, hl⟩ := Maps.keyOf_i64 Try.underlying2 hv
      rw [hy] at hs
      have : y = x := by simpa [Lit.sameKey] using hs
      subst this
      exact absurd hl hx
theorem sort_keys {R ss : List Int} (hp : ss.Perm R) (hR : R.Pairwise (· < ·)) : ss.mergeSort (fun x y => decide (x ≤ y)) = R := by
  have h1 : (ss.mergeSort (fun x y => decide (x ≤ y))).Perm R := (List.mergeSort_perm _ _).trans hp
  have h2 : (ss.mergeSort (fun x y => decide (x ≤ y))).Pairwise (fun x y => decide (x ≤ y) = true) := List.pairwise_mergeSort (fun a b c h1 h2 => by simp at *; omega) (fun a b => by simp; omega) ss
  have h3 : (ss.mergeSort (fun x y => decide (x ≤ y))).Nodup := h1.nodup_iff.2 (hR.imp (fun h => by omega))
  refine incr_ext _ _ ?_ hR (fun x => h1.mem_iff)
  rw [List.Nodup] at h3
  exact (h2.and h3).imp (fun ⟨a, b⟩ => by simp at a; omega)
theorem TelM.keep {w w' : World} {B n : Nat} {I : List Lt} (h : TelM w B n I) (e : w'.heap[B]? = w.heap[B]?) : TelM w' B n I := by
  obtain ⟨D, ho, hc⟩ := h
  exact ⟨D, Rt.own_heap ho e, hc⟩
theorem TelM.lt {w : World} {B n : Nat} {I : List Lt} (h : TelM w B n I) : B < w.heap.size := by
  obtain ⟨D, ho, hc⟩ := h
  exact ho.lt
theorem TelM.look {w : World} {B n : Nat} {I : List Lt} (h : TelM w B n I) {k : Int} (hk : Wi k) {x : Lt} (hx : best I k = some x) :
    (Instr.lookup 49 (.map (some B)) (.int .i64 k) false).run Try.prog w = .ok (aLt x) w := by
  obtain ⟨D, ho, hc⟩ := h
  exact look_key1 ho hc hk hx

theorem sortsK (m : Nat) : AnyZI.SortsIn Try.prog Try.sortedL_ren Fence.wide m :=
  ⟨fun blk off cap ss W hH hblk hsz => callsIn_wide.2 (AnyM.slices_Sort_int Try.srtL blk off cap ss W hH hblk hsz),
   fun p cap W => callsIn_wide.2 (AnyM.slices_Sort_int_none Try.srtL p cap W)⟩
theorem keysK_any (mb : Option Nat) (W : World) : Calls Try.prog 22 #[.map mb] W fun e w' => e = .returned (.func (.func 44) #[] #[.pointer (some ⟨W.heap.size, 0, none⟩)]) ∧ w' = W.alloc (.cells #[.map mb] 49) :=
  (callsIn_wide (n := 5)).1 (AnyZI.keys_in Try.keysL Fence.wide 5 trivial rfl mb W)
theorem sortedK_any (B n Q : Nat) (I : List Lt) (w : World) (h : TelM w B n I) (hI : InOk I) (hn : n ≤ 1000) (hbox : w.cell? ⟨Q, 0, none⟩ = some (.map (some B))) (hQ : Q < w.heap.size) :
    Calls Try.prog 21 #[.func (.func 44) #[] #[.pointer (some ⟨Q, 0, none⟩)]] w fun e w' => ∃ ad c, e = .returned (.slice ad (keysTo I 100).length c) ∧ w'.ownsRow w.heap.size 2 1 (.slice ad (keysTo I 100).length c) (keysTo I 100).length ((keysTo I 100).map fun z => Value.int .i64 z) ∧ Below w.heap.size w w' := by
  obtain ⟨D, hown, hT⟩ := h
  have hsz := hown.size_le
  have hperm := keys_perm15 hI hown hT
  have hseq : SeqGives Fence.wide 2 Try.prog 44 #[.pointer (some ⟨Q, 0, none⟩)] encZ (fun ss => ss.Perm (intKeys D)) (Maps.size D) w :=
    AnyZI.keys_gives (ρ := Try.keysL_ren) { Try.keysL with } Fence.wide _ trivial rfl (by omega) Q B n D w hQ hbox hown
  have cS := AnyZI.sorted_in Try.sortedL Fence.wide 5 trivial trivial trivial trivial rfl (by omega) (sortsK _) (enters_of Try.func43 (by kernel_rfl) rfl) 44 #[.pointer (some ⟨Q, 0, none⟩)] trivial (enters_of Try.func44 (by kernel_rfl) rfl) _ (Maps.size D) (by unfold maxLen; omega) (by omega) w hseq
  refine ((callsIn_wide (n := 5)).1 cS).mono ?_
  rintro e w' ⟨v, ss, rfl, hp, hrow, hnil, hb⟩
  have hp2 := hp.trans hperm.symm
  have hm := sort_keys hp2 (keys_incr I 100)
  have hl : ss.length = (keysTo I 100).length := hp2.length_eq
  rw [hm, hl] at hrow
  have hrow2 : w'.ownsRow w.heap.size 2 1 v (keysTo I 100).length ((keysTo I 100).map fun z => Value.int .i64 z) := hrow
  obtain ⟨ad, c, rfl⟩ := ownW_slice hrow2
  exact ⟨ad, c, rfl, hrow2, hb⟩
end Go.Proofs.Ytbabknhccapaoaa
