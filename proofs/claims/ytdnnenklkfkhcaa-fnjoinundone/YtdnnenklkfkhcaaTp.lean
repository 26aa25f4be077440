/-
  Plain facts on a book told in the order of its places.
-/
import Derived.Test.YtdnnenklkfkhcaaJm
namespace Go.Proofs.Ytdnnenklkfkhcaa.Jn

def plc (f : Int → Option (Int × Int)) (x : Int) : Int := ((f x).getD (0, 0)).2
def kep (f : Int → Option (Int × Int)) (x : Int) : Int := ((f x).getD (0, 0)).1
theorem some_of {f : Int → Option (Int × Int)} {x : Int} (h : (f x).isSome = true) : f x = some (kep f x, plc f x) := by
  unfold kep plc
  cases hx : f x with
  | none => rw [hx] at h; cases h
  | some p => rfl
/-- l is what f says, in the order of the places. -/
structure Tells (f : Int → Option (Int × Int)) (l : List J) : Prop where
  held : ∀ x, (f x).isSome = isG l x
  known : ∀ x, isG l x = true → pers x = true
  keep : ∀ j, j ∈ l → kep f j.2 = j.1
  sorted : (l.map (·.2)).Pairwise (fun x y => plc f x < plc f y)

theorem getD_get (l : List J) (i : Nat) (h : i < l.length) : l.getD i (0, 0) = l[i] := by
  rw [List.getD_eq_getElem?_getD, List.getElem?_eq_getElem h]; rfl
theorem mem_isG (l : List J) (x : Int) : x ∈ l.map (·.2) ↔ isG l x = true := by
  simp [isG]
theorem says_tells (l : List J) (h : okTo l l.length) : Tells (says l) l := by
  have hpl : ∀ i (hi : i < l.length), says l (l[i]).2 = some ((l[i]).1, (i : Int)) := fun i hi => by
    have h1 := place_uniq l h i hi
    rw [getD_get l i hi] at h1
    have h2 : isG l (l[i]).2 = true := (isG_place l _).2 (by omega)
    unfold says
    rw [if_pos h2]
    unfold keepAt
    rw [h1, getD_get l i hi]
  refine ⟨says_isSome l, pers_gone l h, fun j hj => ?_, ?_⟩
  · obtain ⟨i, hi, rfl⟩ := List.getElem_of_mem hj
    unfold kep
    rw [hpl i hi]; rfl
  · rw [List.pairwise_map, List.pairwise_iff_getElem]
    intro i j hi hj hij
    unfold plc
    rw [hpl i hi, hpl j hj]
    show (i : Int) < (j : Int)
    omega
theorem Tells.congr {f g : Int → Option (Int × Int)} {l : List J} (h : Tells f l) (e : ∀ x, f x = g x) : Tells g l := by
  have : f = g := funext e
  rwa [← this]
theorem isG_filter (l : List J) (g x : Int) : isG (l.filter (fun j => !decide (j.2 = g))) x = (isG l x && !decide (x = g)) := by
  rw [Bool.eq_iff_iff]
  simp only [isG, List.any_eq_true, List.mem_filter, Bool.and_eq_true, Bool.not_eq_true', decide_eq_false_iff_not, decide_eq_true_eq]
  constructor
  · rintro ⟨j, ⟨h1, h2⟩, rfl⟩; exact ⟨⟨j, h1, rfl⟩, h2⟩
  · rintro ⟨⟨j, h1, rfl⟩, h2⟩; exact ⟨j, ⟨h1, h2⟩, rfl⟩
/-- A record taken out. -/
theorem Tells.out {f : Int → Option (Int × Int)} {l : List J} (h : Tells f l) (g : Int) : Tells (fun x => if x = g then none else f x) (l.filter (fun j => !decide (j.2 = g))) := by
  have hne : ∀ x, isG (l.filter (fun j => !decide (j.2 = g))) x = true → x ≠ g := fun x hx => by
    rw [isG_filter, Bool.and_eq_true] at hx
    simpa using hx.2
  refine ⟨fun x => ?_, fun x hx => ?_, fun j hj => ?_, ?_⟩
  · rw [isG_filter]
    by_cases e : x = g
    · simp [e]
    · simp [e, h.held]
  · rw [isG_filter, Bool.and_eq_true] at hx
    exact h.known x hx.1
  · have hj2 := (List.mem_filter.1 hj)
    have : ¬ j.2 = g := by simpa using hj2.2
    unfold kep
    simp only [if_neg this]
    exact h.keep j hj2.1
  · have hs : ((l.filter (fun j => !decide (j.2 = g))).map (·.2)).Sublist (l.map (·.2)) := List.filter_sublist.map _
    refine (h.sorted.sublist hs).imp_of_mem fun {x y} hx hy q => ?_
    have h1 := hne x ((mem_isG _ x).1 hx)
    have h2 := hne y ((mem_isG _ y).1 hy)
    unfold plc
    simp only [if_neg h1, if_neg h2]
    exact q
theorem Tells.nodup {f : Int → Option (Int × Int)} {l : List J} (h : Tells f l) : (l.map (·.2)).Nodup :=
  h.sorted.imp fun {x y} q e => by subst e; omega
theorem Tells.parts {f : Int → Option (Int × Int)} {l : List J} (h : Tells f l) (x y : Int) (hx : isG l x = true) (hy : isG l y = true) (e : plc f x = plc f y) : x = y := by
  have h1 := (mem_isG l x).2 hx
  have h2 := (mem_isG l y).2 hy
  obtain ⟨i, hi, rfl⟩ := List.getElem_of_mem h1
  obtain ⟨j, hj, rfl⟩ := List.getElem_of_mem h2
  have hp := List.pairwise_iff_getElem.1 h.sorted
  rcases Nat.lt_trichotomy i j with q | q | q
  · have := hp i j hi hj q; omega
  · subst q; rfl
  · have := hp j i hj hi q; omega
/-- One list alone is in order. -/
theorem Tells.order {f : Int → Option (Int × Int)} {l : List J} (h : Tells f l) (zs : List Int) (hp : zs.Perm (l.map (·.2))) (hs : zs.Pairwise (fun x y => plc f x ≤ plc f y)) : zs = l.map (·.2) :=
  List.Perm.eq_of_pairwise (le := fun x y => plc f x ≤ plc f y)
    (fun a b ha hb q1 q2 => h.parts a b ((mem_isG l a).1 (hp.subset ha)) ((mem_isG l b).1 hb) (by omega))
    hs (h.sorted.imp fun {x y} q => by omega) hp
end Go.Proofs.Ytdnnenklkfkhcaa.Jn
