/-
  Where a unit stands in a bank; a unit put into its place.
-/
import Derived.Test.YtaidhcbchpcemaaQ28
namespace Go.Proofs.Ytaidhcbchpcemaa
open Go.RowKit Va Bl
set_option linter.all false

theorem place_hit {l : List Ut} {i : Nat} {x : Ut} {a : Int} (hx : l[i]? = some x) (h : x.id = a) (hno : ∀ j y, j < i → l[j]? = some y → ¬ y.id = a) : placeOf l a = some i := by
  unfold placeOf
  rw [List.findIdx?_eq_some_iff_getElem]
  have hi := get_lt' hx
  have e : l[i] = x := by have := List.getElem?_eq_getElem hi; rw [hx] at this; exact (Option.some.inj this).symm
  refine ⟨hi, by rw [e]; simpa using h, fun j hj => ?_⟩
  have hjl : j < l.length := by omega
  have := hno j l[j] hj (List.getElem?_eq_getElem hjl)
  simpa using this
theorem place_none {l : List Ut} {a : Int} (hno : ∀ j y, j < l.length → l[j]? = some y → ¬ y.id = a) : placeOf l a = none := by
  unfold placeOf
  rw [List.findIdx?_eq_none_iff]
  intro x hx
  obtain ⟨j, hj⟩ := List.getElem?_of_mem hx
  have := hno j x (get_lt' hj) hj
  simpa using this
theorem place_get {l : List Ut} {a : Int} {k : Nat} (h : placeOf l a = some k) : ∃ x, l[k]? = some x ∧ x.id = a := by
  unfold placeOf at h
  rw [List.findIdx?_eq_some_iff_getElem] at h
  obtain ⟨hk, h1, _⟩ := h
  exact ⟨l[k], List.getElem?_eq_getElem hk, by simpa using h1⟩
def plI (o : Option Nat) : Int := match o with
  | none => -1
  | some j => j
def codeOn (l : List Ut) (n : Nd) (a : Da) : Int :=
  if doingB a = true ∧ needB n = true then (match placeOf l a.id with
    | none => 3
    | some k => codeU (l.getD k default) n a) else 2
def doneL (l : List Ut) (n : Nd) (a : Da) : List Ut :=
  if codeOn l n a = 0 then (match placeOf l a.id with
    | none => l
    | some k => l.set k (turnU (l.getD k default) n a.k)) else l
theorem codeB_on {l : List Ut} {n : Nd} {a : Da} (h : bankB l = true) : codeB l n a = codeOn l n a ∧ bankDo l n a = doneL l n a := by
  have e : codeB l n a = codeOn l n a := by unfold codeB codeOn; rw [if_pos h]; cases placeOf l a.id <;> rfl
  refine ⟨e, ?_⟩
  unfold bankDo doneL
  rw [if_pos h, e]
  cases placeOf l a.id <;> rfl
theorem getD_at {l : List Ut} {k : Nat} {x : Ut} (h : l[k]? = some x) : l.getD k default = x := by rw [List.getD_eq_getElem?_getD, h]; rfl
theorem codeU_fine {x : Ut} {n : Nd} {a : Da} (h : codeU x n a = 0) : onU x n a.k = turnU x n a.k := by
  unfold onU
  cases hf : fineB x n a.k with
  | true => rw [if_pos rfl]
  | false => unfold codeU at h; rw [hf] at h; simp at h
theorem doing_k {a : Da} (h : doingB a = true) : 1 ≤ a.k ∧ a.k ≤ 4 := by
  unfold doingB at h
  simp only [Bool.and_eq_true, rng_iff] at h
  exact h.1
theorem ownQ_put {w : World} {base e s n G c : Nat} {xs : List Value} (h : w.ownsRow base e s (.slice (some ⟨G, 0, none⟩) n c) n xs) (j : Nat) (hj : j < n * s) (u : Value) : (w.setCell ⟨G, j, none⟩ u).ownsRow base e s (.slice (some ⟨G, 0, none⟩) n c) n (xs.set j u) := by
  obtain ⟨q, ⟨q1, q2⟩ | ⟨g, c', cur, q1, hg, hh, h5, h6, h7, h8⟩⟩ := h
  · cases q1
  · simp only [Value.slice.injEq, Option.some.injEq, Addr.mk.injEq, and_true, true_and] at q1
    obtain ⟨rfl, rfl⟩ := q1
    refine ⟨by rw [List.length_set]; exact q, Or.inr ⟨G, c, cur.setIfInBounds j u, rfl, hg, (PB.set (W := w) (B := G) hh j u), h5, h6, by simpa using h7, ?_⟩⟩
    rw [Array.toList_setIfInBounds, List.take_set, h8]
theorem ownQ_fro {w : World} {base e s n G c : Nat} {xs : List Value} (h : w.ownsRow base e s (.slice (some ⟨G, 0, none⟩) n c) n xs) (j : Nat) : w.frozen? ⟨G, j, none⟩ = false := by
  obtain ⟨_, ⟨h1, _⟩ | ⟨g, cap, cur, h1, hb, hg, hc, hm, hs, hx⟩⟩ := h
  · cases h1
  · simp only [Value.slice.injEq, Option.some.injEq, Addr.mk.injEq, and_true, true_and] at h1
    obtain ⟨rfl, rfl⟩ := h1
    simp only [World.frozen?, hg]
    rfl
theorem Antis.turn {w : World} {base : Nat} {L : List (Ut × Value)} {i : Nat} {x y : Ut} {tv : Value} (h : Antis w base L) (hp : L[i]? = some (x, tv)) (he : y.ant = x.ant) : Antis w base (L.set i (y, tv)) := by
  have hi := get_lt' hp
  refine ⟨fun p hp2 => ?_, ?_⟩
  · rcases List.mem_or_eq_of_mem_set hp2 with k | rfl
    · exact h.1 p k
    · have := h.1 (x, tv) (List.mem_of_getElem? hp)
      unfold AOwn at *
      simp only at *
      rw [he]; exact this
  · have e : (L.set i (y, tv)).map Prod.snd = L.map Prod.snd := by
      rw [List.map_set]
      refine List.ext_getElem? fun k => ?_
      rw [List.getElem?_set]
      split
      · rename_i hk
        subst hk
        rw [List.length_map, if_pos hi, List.getElem?_map, hp]; rfl
      · rfl
    have h2 : (L.map Prod.snd).Pairwise (fun a b => ∀ k, a.ownBlock = some k → b.ownBlock ≠ some k) := by rw [List.pairwise_map]; exact h.2
    rw [← e, List.pairwise_map] at h2
    exact h2
theorem Antis.base {w : World} {base b : Nat} {L : List (Ut × Value)} (h : Antis w base L) (hb : b ≤ base) : Antis w b L := ⟨fun p hp => ownW_base (h.1 p hp) hb, h.2⟩
theorem turn_ant (x : Ut) (n : Nd) (k : Int) : (turnU x n k).ant = x.ant := by
  unfold turnU
  split
  · rfl
  · split
    · rfl
    · split <;> rfl
theorem on_ant (x : Ut) (n : Nd) (k : Int) : (onU x n k).ant = x.ant := by
  unfold onU
  split
  · exact turn_ant x n k
  · rfl

end Go.Proofs.Ytaidhcbchpcemaa
