/-
  Merged: Uv U2 U18 U19 Gw Ub1.
-/
import Derived.Test.YtmcekefoedgboaaDoorMg1
import Derived.Test.YtmcekefoedgboaaDoorMg2
import Derived.Laws.AppendOwn
import Derived.Laws.OwnMore
namespace Go.Proofs.YtmcekefoedgboaaDoor.Uo
open Va
set_option linter.all false
instance : Inhabited Du := ⟨⟨0, 0, 0⟩⟩
def vw (ds : List Ds) (id t : Int) : Bool := ds.any fun d => decide (d.o = id) && decide (d.t = t)
def qm (l : List Du) (d : Du) : Nat → Nat
  | 0 => 0
  | n + 1 => if d.s < (l.getD n default).s then qm l d n else n + 1
def yw (l : List Du) (d : Du) : List Du := l.take (qm l d l.length) ++ d :: l.drop (qm l d l.length)
theorem zff (l : List Du) (d : Du) : ∀ n, qm l d n ≤ n
  | 0 => Nat.le_refl _
  | n + 1 => by
    have := zff l d n
    unfold qm
    split <;> omega
theorem zb6 (l : List Du) (d : Du) : (yw l d).length = l.length + 1 := by
  have := zff l d l.length
  simp only [yw, List.length_append, List.length_take, List.length_cons, List.length_drop]
  omega
theorem zd0 {l : List Du} {i : Nat} {x : Du} (h : l[i]? = some x) : l.getD i default = x := by rw [List.getD_eq_getElem?_getD, h]; rfl
def jf (o : Od) (t : Nat) : Du := ⟨o.id, t, o.f + (t : Int) * o.e⟩
def zai (ds : List Ds) (time : Int) (o : Od) (t : Nat) : Bool := rng (jf o t).s (time - 60) (time + 30) && !vw ds o.id t
def ve (ds : List Ds) (time : Int) (o : Od) (l : List Du) : Nat → List Du
  | 0 => l
  | t + 1 => if zai ds time o t = true then yw (ve ds time o l t) (jf o t) else ve ds time o l t
def zbd (o : Od) (id : Int) : Bool := decide (o.s = 2) && (decide (id = 0) || decide (o.id = id))
def zao (os : List Od) (ds : List Ds) (time id : Int) : Nat → List Du
  | 0 => []
  | i + 1 => if zbd (os.getD i default) id = true then ve ds time (os.getD i default) (zao os ds time id i) (os.getD i default).c.toNat else zao os ds time id i
def zbo (os : List Od) (ds : List Ds) (time id : Int) : List Du := zao os ds time id os.length
theorem zd5 (ds : List Ds) (time : Int) (o : Od) (l : List Du) : ∀ t, (ve ds time o l t).length ≤ l.length + t
  | 0 => Nat.le_refl _
  | t + 1 => by
    have := zd5 ds time o l t
    unfold ve
    split
    · rw [zb6]; omega
    · omega
theorem zgy {os : List Od} (ds : List Ds) (time id : Int) (h : ∀ i, i < os.length → (os.getD i default).c ≤ 200) : ∀ n, n ≤ os.length → (zao os ds time id n).length ≤ n * 200
  | 0, _ => Nat.le_refl _
  | n + 1, hn => by
    have i := zgy ds time id h n (by omega)
    have := zd5 ds time (os.getD n default) (zao os ds time id n) (os.getD n default).c.toNat
    have := h n (by omega)
    unfold zao
    split <;> omega
theorem zfv {os : List Od} {ds : List Ds} {time id : Int} {i : Nat} {o : Od} (ho : os[i]? = some o) (h : zbd o id = true) : zao os ds time id (i + 1) = ve ds time o (zao os ds time id i) o.c.toNat := by
  rw [zao, qh ho, if_pos h]
theorem due_no {os : List Od} {ds : List Ds} {time id : Int} {i : Nat} {o : Od} (ho : os[i]? = some o) (h : zbd o id = false) : zao os ds time id (i + 1) = zao os ds time id i := by
  rw [zao, qh ho, if_neg (by rw [h]; simp)]
theorem zfk {ds : List Ds} {time : Int} {o : Od} {l : List Du} {t : Nat} (h : zai ds time o t = true) : ve ds time o l (t + 1) = yw (ve ds time o l t) (jf o t) := by rw [ve, if_pos h]
theorem zes {ds : List Ds} {time : Int} {o : Od} {l : List Du} {t : Nat} (h : zai ds time o t = false) : ve ds time o l (t + 1) = ve ds time o l t := by rw [ve, if_neg (by rw [h]; simp)]
def gap (l : List Du) (at' : Nat) (x : Du) : List Du := l.take at' ++ x :: l.drop at'
theorem zdk {l : List Du} {n : Nat} (x : Du) (h : n ≤ l.length) : (gap l n x).length = l.length + 1 := by
  simp only [gap, List.length_append, List.length_take, List.length_cons, List.length_drop]; omega
theorem zhe (l : List Du) (d : Du) : gap l l.length d = l ++ [d] := by simp [gap]
theorem zgi {l : List Du} {n : Nat} {x y : Du} (h : l[n]? = some y) : (gap l (n + 1) x)[n]? = some y := by
  have hl := (List.getElem?_eq_some_iff.1 h).1
  unfold gap
  rw [List.getElem?_append_left (by rw [List.length_take]; omega), List.getElem?_take, if_pos (by omega), h]
theorem zhf {l : List Du} {n : Nat} {x y : Du} (h : l[n]? = some y) : (gap l (n + 1) x).set (n + 1) y = gap l n y := by
  obtain ⟨hl, rfl⟩ := List.getElem?_eq_some_iff.1 h
  unfold gap
  rw [List.set_append_right _ _ (by rw [List.length_take]; omega), List.length_take, show n + 1 - min (n + 1) l.length = 0 by omega, List.set_cons_zero, show l.take (n + 1) = l.take n ++ [l[n]] by rw [List.take_add_one, List.getElem?_eq_getElem hl]; rfl, List.append_assoc, List.drop_eq_getElem_cons hl]
  rfl
theorem zen (l : List Du) {n : Nat} (x d : Du) (h : n ≤ l.length) : (gap l n x).set n d = gap l n d := by
  unfold gap
  rw [List.set_append_right _ _ (by rw [List.length_take]; omega), List.length_take, show n - min n l.length = 0 by omega, List.set_cons_zero]
theorem zef {l : List Du} {d : Du} {n : Nat} (h : qm l d n = qm l d l.length) (h2 : qm l d n = n) : gap l n d = yw l d := by unfold gap yw; rw [← h, h2]
theorem zez {l : List Du} {d y : Du} {n : Nat} (hy : l[n]? = some y) (h : d.s < y.s) : qm l d (n + 1) = qm l d n := by rw [qm, zd0 hy, if_pos h]
theorem zfa {l : List Du} {d y : Du} {n : Nat} (hy : l[n]? = some y) (h : ¬ d.s < y.s) : qm l d (n + 1) = n + 1 := by rw [qm, zd0 hy, if_neg h]
end Go.Proofs.YtmcekefoedgboaaDoor.Uo

namespace Go.Proofs.YtmcekefoedgboaaDoor.Uo
open Va
set_option linter.all false
def jo (ds : List Ds) (time : Int) (o : Od) : Nat → List Du
  | 0 => []
  | t + 1 => if zai ds time o t = true then jo ds time o t ++ [jf o t] else jo ds time o t
def allTo (os : List Od) (ds : List Ds) (time : Int) : Nat → List Du
  | 0 => []
  | i + 1 => if (os.getD i default).s = 2 then allTo os ds time i ++ jo ds time (os.getD i default) (os.getD i default).c.toNat else allTo os ds time i
theorem zfh (ds : List Ds) (time : Int) (o : Od) : ∀ t, (jo ds time o t).length ≤ t
  | 0 => Nat.le_refl _
  | t + 1 => by
    have := zfh ds time o t
    unfold jo
    split
    · rw [List.length_append]; simp; omega
    · omega
theorem all_len {os : List Od} (ds : List Ds) (time : Int) (h : ∀ i, i < os.length → (os.getD i default).c ≤ 200) : ∀ n, n ≤ os.length → (allTo os ds time n).length ≤ n * 200
  | 0, _ => Nat.le_refl _
  | n + 1, hn => by
    have i := all_len ds time h n (by omega)
    have := zfh ds time (os.getD n default) (os.getD n default).c.toNat
    have := h n (by omega)
    unfold allTo
    split
    · rw [List.length_append]; omega
    · omega
theorem zea {ds : List Ds} {time : Int} {o : Od} {d : Du} : ∀ {n : Nat}, d ∈ jo ds time o n → ∃ t, t < n ∧ d = jf o t ∧ zai ds time o t = true
  | 0, h => by cases h
  | n + 1, h => by
    unfold jo at h
    split at h
    · rename_i hb
      rcases List.mem_append.1 h with h | h
      · obtain ⟨t, h1, h2, h3⟩ := zea h; exact ⟨t, by omega, h2, h3⟩
      · rw [List.mem_singleton] at h; exact ⟨n, by omega, h, hb⟩
    · obtain ⟨t, h1, h2, h3⟩ := zea h; exact ⟨t, by omega, h2, h3⟩
def ltD (a b : Du) : Prop := a.s < b.s ∨ a.s = b.s ∧ a.o < b.o
def SrtD (l : List Du) : Prop := l.Pairwise ltD
theorem zja {a b : Du} (h : ltD a b) : ¬ ltD b a := by unfold ltD at *; omega
theorem zg7 (l : List Du) (d : Du) : ∀ n, n ≤ l.length → (∀ j x, qm l d n ≤ j → j < n → l[j]? = some x → d.s < x.s) ∧ (0 < qm l d n → ∃ x, l[qm l d n - 1]? = some x ∧ x.s ≤ d.s)
  | 0, _ => ⟨fun j x h1 h2 => by omega, fun h => by simp [qm] at h⟩
  | n + 1, hn => by
    obtain ⟨x, hx⟩ : ∃ x, l[n]? = some x := ⟨_, List.getElem?_eq_getElem (by omega)⟩
    by_cases h : d.s < x.s
    · rw [zez hx h]
      obtain ⟨h1, h2⟩ := zg7 l d n (by omega)
      refine ⟨fun j y hj1 hj2 hy => ?_, h2⟩
      by_cases e : j = n
      · subst e; rw [hx] at hy; cases hy; exact h
      · exact h1 j y hj1 (by omega) hy
    · rw [zfa hx h]
      exact ⟨fun j y hj1 hj2 => by omega, fun _ => ⟨x, by simpa using hx, by omega⟩⟩
theorem zis (l : List Du) (d : Du) : (yw l d).Perm (l ++ [d]) := by
  unfold yw
  have h1 : (l.take (qm l d l.length) ++ d :: l.drop (qm l d l.length)).Perm (d :: (l.take (qm l d l.length) ++ l.drop (qm l d l.length))) := List.perm_middle
  rw [List.take_append_drop] at h1
  exact h1.trans (List.perm_append_singleton d l).symm
theorem insD_srt {l : List Du} {d : Du} (h : SrtD l) (hs : ∀ x ∈ l, x.s = d.s → x.o < d.o) : SrtD (yw l d) := by
  obtain ⟨h1, h2⟩ := zg7 l d l.length (Nat.le_refl _)
  have hle := zff l d l.length
  generalize hc : qm l d l.length = c at *
  unfold yw
  rw [hc]
  have hl : SrtD (l.take c ++ l.drop c) := by rw [List.take_append_drop]; exact h
  unfold SrtD at *
  obtain ⟨p1, p2, p3⟩ := List.pairwise_append.1 hl
  refine List.pairwise_append.2 ⟨p1, List.pairwise_cons.2 ⟨?_, p2⟩, ?_⟩
  · intro x hx
    obtain ⟨j, hj, rfl⟩ := List.getElem_of_mem hx
    rw [List.length_drop] at hj
    have := h1 (c + j) (l[c + j]'(by omega)) (by omega) (by omega) (List.getElem?_eq_getElem _)
    rw [List.getElem_drop]
    exact Or.inl this
  · intro a ha b hb
    rcases List.mem_cons.1 hb with rfl | hb
    · have hal : a ∈ l := List.mem_of_mem_take ha
      have hc0 : 0 < c := by
        rcases Nat.eq_zero_or_pos c with e | e
        · subst e; cases ha
        · exact e
      obtain ⟨x, hx, hxs⟩ := h2 hc0
      obtain ⟨j, hj, rfl⟩ := List.getElem_of_mem ha
      rw [List.length_take] at hj
      have hle2 : ((l.take c)[j]'(by rw [List.length_take]; omega)).s ≤ x.s := by
        rw [List.getElem_take]
        by_cases e : j = c - 1
        · subst e
          have := (List.getElem?_eq_some_iff.1 hx).2
          rw [this]; exact Int.le_refl _
        · have hp := List.pairwise_iff_getElem.1 h j (c - 1) (by omega) (by omega) (by omega)
          have e2 := (List.getElem?_eq_some_iff.1 hx).2
          rw [e2] at hp
          unfold ltD at hp; omega
      by_cases e : ((l.take c)[j]'(by rw [List.length_take]; omega)).s = b.s
      · exact Or.inr ⟨e, hs _ hal e⟩
      · exact Or.inl (by omega)
    · exact p3 a ha b hb
theorem zhs : ∀ {l l' : List Du}, l.Perm l' → SrtD l → SrtD l' → l = l' := by
  intro l l' hp h h'
  exact List.Perm.eq_of_pairwise (le := ltD) (fun a b _ _ h1 h2 => absurd h2 (zja h1)) h h' hp
theorem zgq {ds : List Ds} {time : Int} {o : Od} {l : List Du} (he : 1 ≤ o.e) (h : SrtD l) (hl : ∀ x ∈ l, x.o < o.id) : ∀ n, SrtD (ve ds time o l n) ∧ (ve ds time o l n).Perm (l ++ jo ds time o n)
  | 0 => ⟨h, by simp [ve, jo]⟩
  | n + 1 => by
    obtain ⟨h1, h2⟩ := zgq he h hl n
    by_cases hb : zai ds time o n = true
    · rw [zfk hb, jo, if_pos hb]
      refine ⟨insD_srt h1 (fun x hx hs => ?_), ?_⟩
      · rcases List.mem_append.1 (h2.mem_iff.1 hx) with hx | hx
        · exact hl x hx
        · obtain ⟨t, ht, rfl, _⟩ := zea hx
          exfalso
          simp only [jf] at hs
          have h3 : (t : Int) * o.e < (n : Int) * o.e := Int.mul_lt_mul_of_pos_right (by omega) (by omega)
          omega
      · rw [← List.append_assoc]
        exact (zis _ _).trans (h2.append_right _)
    · have hb' : zai ds time o n = false := by simpa using hb
      rw [zes hb', jo, if_neg hb]
      exact ⟨h1, h2⟩
theorem zh4 {ds : List Ds} {time : Int} {o : Od} (he : 1 ≤ o.e) (n : Nat) : ve ds time o [] n = jo ds time o n := by
  obtain ⟨h1, h2⟩ := zgq (ds := ds) (time := time) (l := []) he List.Pairwise.nil (fun x hx => by cases hx) n
  refine zhs (by simpa using h2) h1 ?_
  clear h1 h2
  induction n with
  | zero => exact List.Pairwise.nil
  | succ n ih =>
    unfold jo
    split
    · refine List.pairwise_append.2 ⟨ih, List.pairwise_singleton _ _, fun a ha b hb => ?_⟩
      rw [List.mem_singleton] at hb
      subst hb
      obtain ⟨t, ht, rfl, _⟩ := zea ha
      refine Or.inl ?_
      show o.f + (t : Int) * o.e < o.f + (n : Int) * o.e
      have h3 : (t : Int) * o.e < (n : Int) * o.e := Int.mul_lt_mul_of_pos_right (by omega) (by omega)
      omega
    · exact ih
theorem zhl {os : List Od} {ds : List Ds} {time id : Int} {k : Nat} {o : Od} (hr : Ris os) (h0 : id ≠ 0) (ho : os[k]? = some o) (hid : o.id = id) (hs : o.s = 2) (he : 1 ≤ o.e) : ∀ n, n ≤ os.length → zao os ds time id n = if k < n then jo ds time o o.c.toNat else []
  | 0, _ => rfl
  | n + 1, hn => by
    have ih := zhl hr h0 ho hid hs he n (by omega) (ds := ds) (time := time)
    obtain ⟨x, hx⟩ : ∃ x, os[n]? = some x := ⟨_, List.getElem?_eq_getElem (by omega)⟩
    by_cases q : n = k
    · subst q
      rw [hx] at ho; cases ho
      rw [zfv hx (by simp [zbd, hs, hid]), ih, if_neg (by omega), if_pos (by omega), zh4 he]
    · have hne : x.id ≠ id := by
        rcases Nat.lt_or_gt_of_ne q with q' | q'
        · have := hr n k x o q' hx ho; omega
        · have := hr k n o x q' ho hx; omega
      rw [due_no hx (by simp [zbd, h0, hne]), ih]
      by_cases r : k < n
      · rw [if_pos r, if_pos (by omega)]
      · rw [if_neg r, if_neg (by omega)]
theorem due_one {os : List Od} {ds : List Ds} {time id : Int} {k : Nat} {o : Od} (hr : Ris os) (h0 : id ≠ 0) (ho : os[k]? = some o) (hid : o.id = id) (hs : o.s = 2) (he : 1 ≤ o.e) : zbo os ds time id = jo ds time o o.c.toNat := by
  unfold zbo
  rw [zhl hr h0 ho hid hs he os.length (Nat.le_refl _), if_pos (List.getElem?_eq_some_iff.1 ho).1]
end Go.Proofs.YtmcekefoedgboaaDoor.Uo

namespace Go.Proofs.YtmcekefoedgboaaDoor.Uo
open Va
set_option linter.all false
structure Dd where
  k : Int
  o : Od
  id : Int
  p : Int
  d : Int
  n : Int
  m : Int
  b : Int
  a : Int
def ddB (x : Dd) : Bool :=
  if x.k = 1 then odB x.o && decide (x.o.s = 1)
  else if x.k = 2 ∨ x.k = 3 ∨ x.k = 4 then rng x.id 1 100000
  else if x.k = 5 then rng x.id 1 100000 && (zk x.p && (rng x.d 1 1000 && (rng x.n 1 1000000000 && (zn x.m && (zk x.b && (decide (x.a = -1) || zk x.a))))))
  else false
def vk (s k : Int) : Bool := if k = 2 then decide (s = 1) || decide (s = 3) else if k = 4 then !decide (s = 4) else decide (s = 2)
def zam (l : List Od) (o : Od) : Nat → Bool
  | 0 => false
  | n + 1 => zam l o n || decide (o.id < (l.getD n default).id)
def yz (l : List Od) (o : Od) : Nat → List Od
  | 0 => []
  | n + 1 => (if zam l o n = false ∧ o.id < (l.getD n default).id then yz l o n ++ [o] else yz l o n) ++ [l.getD n default]
def zal (l : List Od) (o : Od) : List Od := if zam l o l.length = true then yz l o l.length else yz l o l.length ++ [o]
def za2 (ds : List Ds) (m : Int) : Bool := decide (0 < ds.length) && decide (m < (ds.getD (ds.length - 1) default).m)
def zaj (os : List Od) (ds : List Ds) (x : Dd) (o : Od) : Int :=
  if x.p ≠ o.p then 6 else if x.d ≠ o.d then 7 else if x.n ≠ o.n then 8 else if (zbo os ds x.m x.id).length = 0 then 9
  else if byB o.two x.b x.a = false then 10 else if za2 ds x.m = true then 11 else if ds.length = 500 then 12 else 0
def doC (os : List Od) (ds : List Ds) (x : Dd) : Int :=
  if ddB x = false then 2
  else if x.k = 1 then (if 0 ≤ atO os x.o.id then 3 else if os.length = 100 then 12 else 0)
  else if atO os x.id < 0 then 4
  else if vk (os.getD (atO os x.id).toNat default).s x.k = false then 5
  else if x.k = 5 then zaj os ds x (os.getD (atO os x.id).toNat default)
  else 0
def zad (os : List Od) (x : Dd) : List Od :=
  if x.k = 1 then zal os x.o
  else if x.k = 5 then os
  else os.set (atO os x.id).toNat { os.getD (atO os x.id).toNat default with s := x.k }
def vg (os : List Od) (ds : List Ds) (x : Dd) : List Ds :=
  if x.k = 5 then ds ++ [⟨x.id, ((zbo os ds x.m x.id).getD 0 default).t, x.m, x.b, x.a⟩] else ds
theorem ze6 {l : List Od} {o : Od} {k : Nat} (hc : Cut l o.id k) : ∀ n, n ≤ k → zam l o n = false ∧ yz l o n = l.take n
  | 0, _ => ⟨rfl, by simp [yz]⟩
  | n + 1, hn => by
    have ih := ze6 hc n (by omega)
    have hl := hc.1
    obtain ⟨x, hx⟩ : ∃ x, l[n]? = some x := ⟨_, List.getElem?_eq_getElem (by omega)⟩
    have hlt := hc.2.1 n x (by omega) hx
    refine ⟨?_, ?_⟩
    · rw [zam, ih.1, qh hx, decide_eq_false (by omega)]; rfl
    · rw [yz, qh hx, if_neg (by omega), ih.2, List.take_add_one, hx]; rfl
theorem zgo {l : List Od} {o : Od} {k : Nat} (hc : Cut l o.id k) (hn : qi l o.id k = false) (hr : Ris l) : ∀ d, k + d < l.length → zam l o (k + d + 1) = true ∧ yz l o (k + d + 1) = l.take k ++ o :: (l.drop k).take (d + 1)
  | 0, hd => by
    have h0 := ze6 hc k (Nat.le_refl _)
    obtain ⟨x, hx⟩ : ∃ x, l[k]? = some x := ⟨_, List.getElem?_eq_getElem (by omega)⟩
    have hle := hc.2.2 k x (Nat.le_refl _) hx
    have hne : x.id ≠ o.id := by
      intro he
      rw [qi, qh hx, decide_eq_true (by omega : k < l.length), decide_eq_true he] at hn
      cases hn
    refine ⟨?_, ?_⟩
    · rw [Nat.add_zero, zam, qh hx, decide_eq_true (by omega), Bool.or_true]
    · rw [Nat.add_zero, yz, qh hx, if_pos ⟨h0.1, by omega⟩, h0.2, List.append_assoc]
      congr 1
      rw [List.take_add_one, List.getElem?_drop, Nat.add_zero, hx]
      rfl
  | d + 1, hd => by
    have ih := zgo hc hn hr d (by omega)
    obtain ⟨x, hx⟩ : ∃ x, l[k + d + 1]? = some x := ⟨_, List.getElem?_eq_getElem (by omega)⟩
    rw [show k + (d + 1) + 1 = (k + d + 1) + 1 by omega]
    refine ⟨?_, ?_⟩
    · rw [zam, ih.1]; rfl
    · rw [yz, qh hx, if_neg (by rw [ih.1]; simp), ih.2, List.append_assoc]
      congr 1
      rw [List.take_add_one (i := d + 1), List.getElem?_drop, show k + (d + 1) = k + d + 1 by omega, hx]
      rfl
theorem ins_cut {l : List Od} {o : Od} {k : Nat} (hr : Ris l) (hc : Cut l o.id k) (hn : qi l o.id k = false) : zal l o = l.take k ++ o :: l.drop k := by
  have hl := hc.1
  unfold zal
  by_cases h : k = l.length
  · have h0 := ze6 hc k (Nat.le_refl _)
    rw [h] at h0
    rw [h0.1, h0.2, if_neg (by simp), h, List.drop_length]
  · have h1 := zgo hc hn hr (l.length - k - 1) (by omega)
    rw [show k + (l.length - k - 1) + 1 = l.length by omega] at h1
    rw [h1.1, if_pos rfl, h1.2, show l.length - k - 1 + 1 = l.length - k by omega, List.take_of_length_le (l := l.drop k) (by rw [List.length_drop]; omega)]
theorem zfp (l : List Od) (o : Od) : ∀ n, (yz l o n).length ≤ n + 1 ∧ (zam l o n = false → (yz l o n).length = n)
  | 0 => by simp [yz]
  | n + 1 => by
    have ih := zfp l o n
    rw [yz, zam]
    refine ⟨?_, fun h => ?_⟩
    · split
      · rename_i h; simp only [List.length_append, List.length_singleton, ih.2 h.1]; omega
      · simp only [List.length_append, List.length_singleton]; omega
    · rw [Bool.or_eq_false_iff] at h
      rw [if_neg (by rw [decide_eq_false_iff_not] at h; exact fun q => h.2 q.2)]
      simp only [List.length_append, List.length_singleton, ih.2 h.1]
end Go.Proofs.YtmcekefoedgboaaDoor.Uo

namespace Go.Proofs.YtmcekefoedgboaaDoor
open Go.RowKit Va Uo
set_option linter.all false
def aDd (x : Dd) : Value := .agg #[.int .i64 x.k, .int .i64 x.o.id, .int .i64 x.o.p, .int .i64 x.o.d, .int .i64 x.o.n, .int .i64 x.o.f, .int .i64 x.o.e, .int .i64 x.o.c, .int .i64 x.o.s, .bool x.o.two, .int .i64 x.id, .int .i64 x.p, .int .i64 x.d, .int .i64 x.n, .int .i64 x.m, .int .i64 x.b, .int .i64 x.a]
def ku (k c : Int) : Value := .iface 121 (.agg #[.int .i64 k, .iface 84 (.int .i64 c)])
set_option maxHeartbeats 1000000 in
theorem zdu (s k : Int) (w : World) : Calls Tryd.prog 60 #[.int .i64 s, .int .i64 k] w fun e w' => e = .returned (.bool (vk s k)) ∧ w = w' := by
  have HV : Hid (vk s k = if k = 2 then decide (s = 1) || decide (s = 3) else if k = 4 then !decide (s = 4) else decide (s = 2)) := rfl
  generalize vk s k = R at *
  by_cases h2 : k = 2
  · subst h2
    by_cases h1 : s = 1
    · subst h1
      obtain rfl : R = true := by rw [HV.out]; simp
      go_enter Tryd.func60, Tryd.ntmps60
      go_wp2
      all_goals (go_ret; exact ⟨rfl, rfl⟩)
    · obtain rfl : R = decide (s = 3) := by rw [HV.out]; simp [h1]
      go_enter Tryd.func60, Tryd.ntmps60
      go_wp2
      all_goals (go_ret; exact ⟨by first | rfl | exact qj (by first | (simp; done) | (simp; omega) | (simp_all; done) | (simp_all; omega) | (rw [Bool.eq_iff_iff]; simp; omega) | (rw [Bool.eq_iff_iff]; simp_all; omega)), rfl⟩)
  · by_cases h4 : k = 4
    · subst h4
      obtain rfl : R = !decide (s = 4) := by rw [HV.out]; simp
      go_enter Tryd.func60, Tryd.ntmps60
      go_wp2
      all_goals (go_ret; exact ⟨by first | rfl | exact qj (by first | (simp; done) | (simp; omega) | (simp_all; done) | (simp_all; omega) | (rw [Bool.eq_iff_iff]; simp; omega) | (rw [Bool.eq_iff_iff]; simp_all; omega)), rfl⟩)
    · obtain rfl : R = decide (s = 2) := by rw [HV.out]; simp [h2, h4]
      go_enter Tryd.func60, Tryd.ntmps60
      go_wp2
      all_goals (go_ret; exact ⟨by first | rfl | exact qj (by first | (simp; done) | (simp; omega) | (simp_all; done) | (simp_all; omega) | (rw [Bool.eq_iff_iff]; simp; omega) | (rw [Bool.eq_iff_iff]; simp_all; omega)), rfl⟩)
set_option maxHeartbeats 1000000 in
theorem istop_no (x : Dd) (c : Int) (w : World) : Calls Tryd.prog 53 #[aDd x, .bool false, .int .i64 c] w fun e w' => e = .returned (.tuple #[]) ∧ Below w.heap.size w w' := by
  unfold aDd
  go_enter Tryd.func53, Tryd.ntmps53
  go_wp2
  go_end0
  exact ⟨rfl, (Below.refl _ _).alloc (Nat.le_refl _) _⟩
set_option maxHeartbeats 1000000 in
theorem zh6 (x : Dd) (c : Int) (w : World) : Calls Tryd.prog 53 #[aDd x, .bool true, .int .i64 c] w fun e w' => e = .panicked [{ v := ku x.k c, recovered := false }] ∧ Below w.heap.size w w' := by
  unfold aDd ku
  go_enter Tryd.func53, Tryd.ntmps53
  go_wp2
  exact ⟨rfl, rfl, (Below.refl _ _).alloc (Nat.le_refl _) _⟩
theorem PB.deed {W : World} {B : Nat} {t : TypeId} {v0 v1 v2 v3 v4 v5 v6 v7 v8 v9 v10 v11 v12 v13 v14 v15 v16 : Value} (h : PB W B #[v0, v1, v2, v3, v4, v5, v6, v7, v8, v9, v10, v11, v12, v13, v14, v15, v16] t) :
    W.cell? ⟨B, 0, none⟩ = some v0 ∧ (W.cell? ⟨B, 1, none⟩ = some v1 ∧ W.cell? ⟨B, 2, none⟩ = some v2 ∧ W.cell? ⟨B, 3, none⟩ = some v3 ∧ W.cell? ⟨B, 4, none⟩ = some v4 ∧ W.cell? ⟨B, 5, none⟩ = some v5 ∧ W.cell? ⟨B, 6, none⟩ = some v6 ∧ W.cell? ⟨B, 7, none⟩ = some v7 ∧ W.cell? ⟨B, 8, none⟩ = some v8 ∧ W.cell? ⟨B, 9, none⟩ = some v9) ∧ W.cell? ⟨B, 10, none⟩ = some v10 ∧ W.cell? ⟨B, 11, none⟩ = some v11 ∧ W.cell? ⟨B, 12, none⟩ = some v12 ∧ W.cell? ⟨B, 13, none⟩ = some v13 ∧ W.cell? ⟨B, 14, none⟩ = some v14 ∧ W.cell? ⟨B, 15, none⟩ = some v15 ∧ W.cell? ⟨B, 16, none⟩ = some v16 :=
  ⟨h.cell 0, ⟨h.cell 1, h.cell 2, h.cell 3, h.cell 4, h.cell 5, h.cell 6, h.cell 7, h.cell 8, h.cell 9⟩, h.cell 10, h.cell 11, h.cell 12, h.cell 13, h.cell 14, h.cell 15, h.cell 16⟩
set_option maxRecDepth 20000 in
set_option maxHeartbeats 2000000 in
theorem zhw (x : Dd) (s : Int) (w : World) (hk : x.k = 2 ∨ x.k = 3 ∨ x.k = 4) : Calls Tryd.prog 83 #[aDd x, .int .i64 s] w fun e w' => e = .returned (.int .i64 (if vk s x.k = true then x.k else 0)) ∧ Below w.heap.size w w' := by
  obtain ⟨k, o, id, p, d, n, m, b, a⟩ := x
  have e2 : vk s 2 = (decide (s = 1) || decide (s = 3)) := rfl
  have e3 : vk s 3 = decide (s = 2) := rfl
  have e4 : vk s 4 = !decide (s = 4) := rfl
  dsimp only at hk
  unfold aDd
  dsimp only
  rcases hk with rfl | rfl | rfl
  · rw [e2]
    clear e2 e3 e4
    by_cases h1 : s = 1
    · subst h1
      go_enter Tryd.func83, Tryd.ntmps83
      go_wp2
      all_goals (go_ret; exact ⟨by simp, (Below.refl _ _).alloc (Nat.le_refl _) _⟩)
    · by_cases h3 : s = 3
      · subst h3
        go_enter Tryd.func83, Tryd.ntmps83
        go_wp2
        all_goals (go_ret; exact ⟨by simp, (Below.refl _ _).alloc (Nat.le_refl _) _⟩)
      · go_enter Tryd.func83, Tryd.ntmps83
        go_wp2
        all_goals (go_ret; exact ⟨by first | (simp [h1, h3]; done) | (simp_all; done), (Below.refl _ _).alloc (Nat.le_refl _) _⟩)
  · rw [e3]
    clear e2 e3 e4
    by_cases h2 : s = 2
    · subst h2
      go_enter Tryd.func83, Tryd.ntmps83
      go_wp2
      all_goals (go_ret; exact ⟨by simp, (Below.refl _ _).alloc (Nat.le_refl _) _⟩)
    · go_enter Tryd.func83, Tryd.ntmps83
      go_wp2
      all_goals (go_ret; exact ⟨by first | (simp [h2]; done) | (simp_all; done), (Below.refl _ _).alloc (Nat.le_refl _) _⟩)
  · rw [e4]
    clear e2 e3 e4
    by_cases h4 : s = 4
    · subst h4
      go_enter Tryd.func83, Tryd.ntmps83
      go_wp2
      all_goals (go_ret; exact ⟨by simp, (Below.refl _ _).alloc (Nat.le_refl _) _⟩)
    · go_enter Tryd.func83, Tryd.ntmps83
      go_wp2
      all_goals (go_ret; exact ⟨by first | (simp [h4]; done) | (simp_all; done), (Below.refl _ _).alloc (Nat.le_refl _) _⟩)
end Go.Proofs.YtmcekefoedgboaaDoor

namespace Go.Proofs.YtmcekefoedgboaaDoor
open Go.RowKit Va Go.Maps
set_option linter.unusedVariables false
theorem zfc (w : World) (t : TypeId) (s : Nat) : (w.alloc (.cells #[] t)).ownsRow w.heap.size t s (.slice (some ⟨w.heap.size, 0, none⟩) 0 0) 0 [] :=
  ⟨by simp, .inr ⟨w.heap.size, 0, #[], rfl, Nat.le_refl _, (MapKept.heap_alloc w _).1, Nat.le_refl _, Nat.zero_le _, by simp, by simp⟩⟩
theorem zct {w : World} {b e s n : Nat} {v : Value} {xs : List Value} (h : w.ownsRow b e s v n xs) : ∀ k, v.ownBlock = some k → b ≤ k ∧ k < w.heap.size := by
  obtain ⟨_, ⟨rfl, _⟩ | ⟨g, cap, cur, rfl, hb, hh, _⟩⟩ := h
  · intro k hk; cases hk
  · intro k hk
    obtain rfl : g = k := by simpa [Value.ownBlock] using hk
    exact ⟨hb, (Array.getElem?_eq_some_iff.1 hh).1⟩
theorem zdo {w : World} {b e s n : Nat} {v : Value} {xs : List Value} (h : w.ownsRow b e s v n xs) : ∃ ad c, v = .slice ad n c := by
  obtain ⟨_, ⟨rfl, rfl⟩ | ⟨g, cap, cur, rfl, _⟩⟩ := h
  · exact ⟨_, _, rfl⟩
  · exact ⟨_, _, rfl⟩
theorem zar {w w' : World} {b e s n : Nat} {v : Value} {xs : List Value} (h : w.ownsRow b e s v n xs) (hb : Below w.heap.size w w') : w'.ownsRow b e s v n xs := by
  obtain ⟨q, ⟨q1, q2⟩ | ⟨g, c, cur, rfl, hg, hh, r⟩⟩ := h
  · exact ⟨q, Or.inl ⟨q1, q2⟩⟩
  · exact ⟨q, Or.inr ⟨g, c, cur, rfl, hg, (hb.block g (Array.getElem?_eq_some_iff.1 hh).1).trans hh, r⟩⟩
theorem ze1 {P : Program} {t : TypeId} {z : Value} {n b : Nat} (h : (P.info? t).map (fun i => (i.zero, i.size, i.bytes)) = some (some z, n, b)) : ∃ i, P.info? t = some i ∧ i.zero = some z ∧ i.size = n ∧ i.bytes = b := by
  obtain ⟨i, h1, h2⟩ := Option.map_eq_some_iff.1 h
  simp only [Prod.mk.injEq] at h2
  exact ⟨i, h1, h2.1, h2.2.1, h2.2.2⟩
theorem zeu {w : World} {b b' e s n : Nat} {v : Value} {xs : List Value} (h : w.ownsRow b e s v n xs) (hb : b' ≤ b) : w.ownsRow b' e s v n xs := by
  obtain ⟨q, ⟨q1, q2⟩ | ⟨g, c, cur, rfl, hg, r⟩⟩ := h
  · exact ⟨q, Or.inl ⟨q1, q2⟩⟩
  · exact ⟨q, Or.inr ⟨g, c, cur, rfl, Nat.le_trans hb hg, r⟩⟩
end Go.Proofs.YtmcekefoedgboaaDoor

namespace Go.Proofs.YtmcekefoedgboaaDoor
open Go.RowKit Va Ua
set_option linter.all false
set_option maxHeartbeats 1000000 in
theorem zdg (p : Int) (w : World) : Calls Tryd.prog 32 #[.int .i64 p] w fun e w' => e = .returned (.bool (rng p 0 999)) ∧ w = w' := by
  have h1 := za5 p 0 999
  go_enter Tryd.func32, Tryd.ntmps32
  go_wp2_with (with_reducible (refine (h1 _).mono ?_); rintro e w1 ⟨rfl, rfl⟩)
  go_ret
  exact ⟨rfl, rfl⟩
end Go.Proofs.YtmcekefoedgboaaDoor
