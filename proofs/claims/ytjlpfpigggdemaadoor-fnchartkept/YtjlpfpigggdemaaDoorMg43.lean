/-
 Merged: U80 U77 By.
-/
import Derived.Test.YtjlpfpigggdemaaDoorMg37
import Derived.Test.YtjlpfpigggdemaaDoorMg42
import Derived.Test.YtjlpfpigggdemaaDoorMg34
import Derived.Test.YtjlpfpigggdemaaDoorMg20
import Derived.Test.YtjlpfpigggdemaaDoorMg1
import Derived.ProofKit
import Derived.OpenShut
import Derived.ShutString
import Derived.ChangeOld
import Derived.Below
import Derived.Deep.Slices
namespace Go.Proofs.YtjlpfpigggdemaaDoor.Uo
set_option maxRecDepth 8000
set_option maxHeartbeats 4000000
open Va
set_option linter.all false
theorem at_of {os : List Od} (hr : Ris os) {k : Nat} {o : Od} (ho : os[k]? = some o) : atO os o.id = (k : Int) := by
 have hk := (List.getElem?_eq_some_iff.1 ho).1
 exact zfv ho (ze1 k (by omega) (fun j y hj hy => by have := hr j k y o hj hy ho; omega)) rfl
theorem zek {os : List Od} {ds : List Ds} {i : Nat} {d : Ds} (hr : Ris os) (hd : ds[i]? = some d) : yf os ds i = true ↔ (∃ o ∈ os, o.id = d.o /\ jc o d = true) /\ (i = 0 ∨ (ds.getD (i - 1) default).m <= d.m) := by
 constructor
 ·intro h
  have h0 : 0 <= atO os d.o := by
   unfold yf at h
   simp only [Bool.and_eq_true, decide_eq_true_eq, zbf hd] at h
   exact h.1
  obtain ⟨k, hk⟩ := Int.eq_ofNat_of_zero_le h0
  obtain ⟨o, ho, hid⟩ := zdc hk
  rw [zfl hd hk ho, Bool.and_eq_true, Bool.or_eq_true, decide_eq_true_eq, decide_eq_true_eq] at h
  exact ⟨⟨o, List.mem_of_getElem? ho, hid, h.1⟩, h.2⟩
 ·rintro ⟨⟨o, ho, hid, hh⟩, h2⟩
  obtain ⟨k, hk, rfl⟩ := List.getElem_of_mem ho
  have hg := List.getElem?_eq_getElem hk
  have ha := at_of hr hg
  rw [hid] at ha
  rw [zfl hd ha hg, hh, Bool.true_and, Bool.or_eq_true, decide_eq_true_eq, decide_eq_true_eq]
  exact h2
theorem zhe {os os' : List Od} {ds : List Ds} (hr : Ris os) (hr' : Ris os') (h : ∀ o ∈ os, o.s ≠ 1 -> ∃ o' ∈ os', o'.id = o.id /\ o'.c = o.c /\ o'.two = o.two /\ o'.s ≠ 1) {i : Nat} (hi : i < ds.length) (hk : okD os ds i = true) : okD os' ds i = true := by
 have hd := List.getElem?_eq_getElem hi
 unfold okD at *
 rw [Bool.and_eq_true] at *
 refine ⟨?_, hk.2⟩
 obtain ⟨⟨o, ho, hid, hh⟩, h2⟩ := (zek hr hd).1 hk.1
 have hs : o.s ≠ 1 := by
  intro e
  unfold jc at hh
  rw [e] at hh
  simp at hh
 obtain ⟨o', ho', e1, e2, e3, e4⟩ := h o ho hs
 refine (zek hr' hd).2 ⟨⟨o', ho', e1.trans hid, ?_⟩, h2⟩
 unfold jc at *
 rw [e2, e3]
 simp only [Bool.and_eq_true, Bool.not_eq_true', decide_eq_false_iff_not] at *
 exact ⟨hh.1, e4, hh.2.2⟩
theorem ris_pw {os : List Od} : Ris os ↔ os.Pairwise fun a b => a.id < b.id := by
 rw [List.pairwise_iff_getElem]
 constructor
 ·intro h i j hi hj hij
  exact h i j _ _ hij (List.getElem?_eq_getElem hi) (List.getElem?_eq_getElem hj)
 ·intro h i j x y hij hx hy
  obtain ⟨hi, rfl⟩ := List.getElem?_eq_some_iff.1 hx
  obtain ⟨hj, rfl⟩ := List.getElem?_eq_some_iff.1 hy
  exact h i j hi hj hij
theorem zii {os : List Od} (ha : AllO os) (hr : Ris os) : ∀ i, i < os.length -> qi os i = true := by
 intro i hi
 have hg := List.getElem?_eq_getElem hi
 unfold qi
 rw [ku hg, Bool.and_eq_true, Bool.or_eq_true, decide_eq_true_eq, decide_eq_true_eq]
 refine ⟨ha i _ hg, ?_⟩
 by_cases h0 : i = 0
 ·exact Or.inl h0
 ·have hg' := List.getElem?_eq_getElem (show i - 1 < os.length by omega)
  rw [ku hg']
  exact Or.inr (hr (i - 1) i _ _ (by omega) hg' hg)
theorem zf9 {os : List Od} (h : ∀ i, i < os.length -> qi os i = true) : AllO os := by
 intro i y hy
 have hi := (List.getElem?_eq_some_iff.1 hy).1
 have := h i hi
 unfold qi at this
 rw [ku hy, Bool.and_eq_true] at this
 exact this.1
theorem cut_ex {os : List Od} (hr : Ris os) (id : Int) : ∃ k, Cut os id k := by
 refine ⟨os.findIdx (fun y => decide (id <= y.id)), List.findIdx_le_length, fun j x hj hx => ?_, fun j x hj hx => ?_⟩
 ·obtain ⟨hl, rfl⟩ := List.getElem?_eq_some_iff.1 hx
  have := List.not_of_lt_findIdx hj
  simp at this
  omega
 ·obtain ⟨hl, rfl⟩ := List.getElem?_eq_some_iff.1 hx
  have hk : os.findIdx (fun y => decide (id <= y.id)) < os.length := by omega
  have h1 := List.findIdx_getElem (w := hk)
  simp only [decide_eq_true_eq] at h1
  by_cases e : os.findIdx (fun y => decide (id <= y.id)) = j
  ·subst e; exact h1
  ·have := hr _ j _ _ (by omega) (List.getElem?_eq_getElem hk) hx
   omega
theorem at_neg {os : List Od} {id : Int} (hr : Ris os) (h : atO os id < 0) : ∀ y ∈ os, y.id ≠ id := by
 intro y hy e
 obtain ⟨k, hk, rfl⟩ := List.getElem_of_mem hy
 have := at_of hr (List.getElem?_eq_getElem hk)
 rw [e] at this
 omega
set_option maxRecDepth 20000 in
set_option maxHeartbeats 16000000 in
theorem ins_ris {os : List Od} {o : Od} (hr : Ris os) (h : atO os o.id < 0) : Ris (yl os o) /\ (∀ y ∈ os, y ∈ yl os o) /\ (yl os o).length = os.length + 1 := by
 obtain ⟨k, hc⟩ := cut_ex hr o.id
 have hn : qj os o.id k = false := by
  cases hq : qj os o.id k with
  | false => rfl
  | true => have := (zbn hr hc hq).1; omega
 have hne := at_neg hr h
 have hkl := hc.1
 rw [zht hr hc hn]
 have hp := ris_pw.1 hr
 have hp2 : (os.take k ++ os.drop k).Pairwise fun a b => a.id < b.id := by rw [List.take_append_drop]; exact hp
 obtain ⟨p1, p2, p3⟩ := List.pairwise_append.1 hp2
 have ht : ∀ y ∈ os.take k, y.id < o.id := by
  intro y hy
  obtain ⟨j, hj, rfl⟩ := List.getElem_of_mem hy
  rw [List.length_take] at hj
  rw [List.getElem_take]
  exact hc.2.1 j _ (by omega) (List.getElem?_eq_getElem _)
 have hd : ∀ y ∈ os.drop k, o.id < y.id := by
  intro y hy
  have h1 := hne y (List.mem_of_mem_drop hy)
  obtain ⟨j, hj, rfl⟩ := List.getElem_of_mem hy
  rw [List.length_drop] at hj
  rw [List.getElem_drop] at h1 ⊢
  have := hc.2.2 (k + j) _ (by omega) (List.getElem?_eq_getElem (by omega))
  omega
 refine ⟨ris_pw.2 (List.pairwise_append.2 ⟨p1, List.pairwise_cons.2 ⟨hd, p2⟩, fun a ha b hb => ?_⟩), fun y hy => ?_, ?_⟩
 ·rcases List.mem_cons.1 hb with rfl | hb
  ·exact ht a ha
  ·exact p3 a ha b hb
 ·rw [<- List.take_append_drop k os] at hy
  rcases List.mem_append.1 hy with hy | hy
  ·exact List.mem_append_left _ hy
  ·exact List.mem_append_right _ (List.mem_cons_of_mem _ hy)
 ·simp only [List.length_append, List.length_take, List.length_cons, List.length_drop]; omega
theorem set_ris {os : List Od} {k : Nat} {o o' : Od} (hr : Ris os) (ho : os[k]? = some o) (he : o'.id = o.id) : Ris (os.set k o') := by
 intro i j x y hij hx hy
 have hk := (List.getElem?_eq_some_iff.1 ho).1
 have get : ∀ {i : Nat} {x : Od}, (os.set k o')[i]? = some x -> ∃ z, os[i]? = some z /\ z.id = x.id := by
  intro i x hx
  by_cases e : k = i
  ·subst e
   rw [List.getElem?_set_self hk] at hx
   obtain rfl := Option.some.inj hx
   exact ⟨o, ho, he.symm⟩
  ·rw [List.getElem?_set_ne e] at hx
   exact ⟨x, hx, rfl⟩
 obtain ⟨z, hz, ez⟩ := get hx
 obtain ⟨u, hu, eu⟩ := get hy
 rw [<- ez, <- eu]
 exact hr i j z u hij hz hu
structure Given (os : List Od) (ds : List Ds) (x : Dd) (k : Nat) (o : Od) (t : Nat) : Prop where
 at_ : atO os x.id = (k : Int)
 get : os[k]? = some o
 id : o.id = x.id
 s : o.s = 2
 p : x.p = o.p
 d : x.d = o.d
 n : x.n = o.n
 by_ : byB o.two x.b x.a = true
 late : zar ds x.m = false
 len : ds.length ≠ 500
 lt : (t : Int) < o.c
 due : zaa ds x.m o t = true
 fst : (za5 os ds x.m x.id).getD 0 default = jf o t
 tim : zl x.m = true
 per : zh x.b = true
 also : x.a = -1 ∨ zh x.a = true
theorem ddB5 {x : Dd} (h : ddB x = true) (hk : x.k = 5) : rng x.id 1 100000 = true /\ zl x.m = true /\ zh x.b = true /\ (x.a = -1 ∨ zh x.a = true) := by
 unfold ddB at h
 rw [if_neg (by omega), if_neg (by omega), if_pos hk] at h
 simp only [Bool.and_eq_true, Bool.or_eq_true, decide_eq_true_eq] at h
 exact ⟨h.1, h.2.2.2.2.1, h.2.2.2.2.2.1, h.2.2.2.2.2.2⟩
set_option maxRecDepth 20000 in
set_option maxHeartbeats 16000000 in
theorem zho {os : List Od} {ds : List Ds} {x : Dd} (hc : jm os ds = true) (hd : doC os ds x = 0) (hk : x.k = 5) : ∃ k o t, Given os ds x k o t := by
 obtain ⟨-, h1, h2⟩ := zaw.1 hc
 have hr := zco h1
 have ha := zf9 h1
 have hb := zes hd
 obtain ⟨b1, b2, b3, b4⟩ := ddB5 hb hk
 unfold doC at hd
 rw [if_neg (by rw [hb]; simp), if_neg (by omega)] at hd
 by_cases hat : atO os x.id < 0
 ·rw [if_pos hat] at hd; cases hd
 rw [if_neg hat] at hd
 obtain ⟨k, hk'⟩ := Int.eq_ofNat_of_zero_le (show 0 <= atO os x.id by omega)
 obtain ⟨o, ho, hid⟩ := zdc hk'
 rw [hk', show ((k : Int).toNat) = k from rfl, ku ho] at hd
 by_cases hf : vk o.s x.k = false
 ·rw [if_pos hf] at hd; cases hd
 rw [if_neg hf, if_pos hk] at hd
 have hs : o.s = 2 := by
  rw [hk] at hf
  unfold vk at hf
  simpa using hf
 unfold zal at hd
 by_cases e1 : x.p ≠ o.p
 ·rw [if_pos e1] at hd; cases hd
 rw [if_neg e1] at hd
 by_cases e2 : x.d ≠ o.d
 ·rw [if_pos e2] at hd; cases hd
 rw [if_neg e2] at hd
 by_cases e3 : x.n ≠ o.n
 ·rw [if_pos e3] at hd; cases hd
 rw [if_neg e3] at hd
 by_cases e4 : (za5 os ds x.m x.id).length = 0
 ·rw [if_pos e4] at hd; cases hd
 rw [if_neg e4] at hd
 by_cases e5 : byB o.two x.b x.a = false
 ·rw [if_pos e5] at hd; cases hd
 rw [if_neg e5] at hd
 by_cases e6 : zar ds x.m = true
 ·rw [if_pos e6] at hd; cases hd
 rw [if_neg e6] at hd
 by_cases e7 : ds.length = 500
 ·rw [if_pos e7] at hd; cases hd
 have hod := ha k o ho
 have hoe : 1 <= o.e := by
  unfold odB at hod
  simp only [Bool.and_eq_true] at hod
  exact (zak.1 hod.2.2.2.2.2.1).1
 have hid1 := zak.1 b1
 have hdl := zid (ds := ds) (time := x.m) hr (show x.id ≠ 0 by omega) ho hid hs hoe
 have hpos : 0 < (za5 os ds x.m x.id).length := by omega
 have hm : (za5 os ds x.m x.id)[0] ∈ jl ds x.m o o.c.toNat := by rw [<- hdl]; exact List.getElem_mem _
 obtain ⟨t, ht, he, hdue⟩ := zed hm
 refine ⟨k, o, t, hk', ho, hid, hs, by simpa using e1, by simpa using e2, by simpa using e3, by simpa using e5, by simpa using e6, e7, by omega, hdue, ?_, b2, b3, b4⟩
 rw [zd6 (List.getElem?_eq_getElem hpos)]
 exact he
theorem Given.ds {os : List Od} {ds : List Ds} {x : Dd} {k : Nat} {o : Od} {t : Nat} (h : Given os ds x k o t) (hk : x.k = 5) : vg os x = os /\ qm os ds x = ds ++ [⟨x.id, (t : Int), x.m, x.b, x.a⟩] := by
 refine ⟨by unfold vg; rw [if_neg (by omega), if_pos hk], ?_⟩
 unfold qm
 rw [if_pos hk, h.fst]
 rfl
theorem zea {ds : List Ds} {y : Ds} {i : Nat} (hi : i < ds.length) : (ds ++ [y]).getD i default = ds.getD i default := by
 rw [List.getD_eq_getElem?_getD, List.getD_eq_getElem?_getD, List.getElem?_append_left hi]
theorem getD_end {ds : List Ds} {y : Ds} : (ds ++ [y]).getD ds.length default = y := by
 rw [List.getD_eq_getElem?_getD, List.getElem?_append_right (Nat.le_refl _)]
 simp
theorem zio {ds : List Ds} {y : Ds} {i j : Nat} (hi : i < ds.length) (hj : j < ds.length) : za3 (ds ++ [y]) i j = za3 ds i j := by
 unfold za3
 rw [zea hi, zea hj]
theorem Given.new {os : List Od} {ds : List Ds} {x : Dd} {k : Nat} {o : Od} {t : Nat} (h : Given os ds x k o t) : ∀ d ∈ ds, ¬ (d.o = x.id /\ d.t = (t : Int)) := by
 intro d hd ⟨e1, e2⟩
 have := h.due
 unfold zaa at this
 rw [Bool.and_eq_true, Bool.not_eq_true'] at this
 have h2 : vw ds o.id t = true := by
  unfold vw
  rw [List.any_eq_true]
  exact ⟨d, hd, by rw [e1, e2, h.id]; simp⟩
 rw [this.2] at h2
 cases h2
theorem okD_app {os : List Od} {ds : List Ds} {y : Ds} {i : Nat} (hr : Ris os) (hi : i < ds.length) (h : okD os ds i = true) : okD os (ds ++ [y]) i = true := by
 have hd := List.getElem?_eq_getElem hi
 have hd' : (ds ++ [y])[i]? = some ds[i] := by rw [List.getElem?_append_left hi]; exact hd
 unfold okD at *
 rw [Bool.and_eq_true, List.all_eq_true] at *
 refine ⟨?_, fun j hj => ?_⟩
 ·obtain ⟨q1, q2⟩ := (zek hr hd).1 h.1
  refine (zek hr hd').2 ⟨q1, ?_⟩
  rcases q2 with q2 | q2
  ·exact Or.inl q2
  ·rw [zea (by omega)]; exact Or.inr q2
 ·have hj' := List.mem_range.1 hj
  rw [zio hi (by omega)]
  exact h.2 j hj
set_option maxRecDepth 20000 in
set_option maxHeartbeats 16000000 in
theorem zj1 {os : List Od} {ds : List Ds} {x : Dd} {k : Nat} {o : Od} {t : Nat} (hc : jm os ds = true) (h : Given os ds x k o t) : jm os (ds ++ [⟨x.id, (t : Int), x.m, x.b, x.a⟩]) = true := by
 obtain ⟨h0, h1, h2⟩ := zaw.1 hc
 have hr := zco h1
 have hl := h.len
 refine zaw.2 ⟨⟨h0.1, by rw [List.length_append]; simp; omega⟩, h1, fun i hi => ?_⟩
 rw [List.length_append, List.length_singleton] at hi
 by_cases e : i < ds.length
 ·exact okD_app hr e (h2 i e)
 obtain rfl : i = ds.length := by omega
 have hd' : (ds ++ [(⟨x.id, (t : Int), x.m, x.b, x.a⟩ : Ds)])[ds.length]? = some ⟨x.id, (t : Int), x.m, x.b, x.a⟩ := by rw [List.getElem?_append_right (Nat.le_refl _)]; simp
 unfold okD
 rw [Bool.and_eq_true, List.all_eq_true]
 refine ⟨(zek hr hd').2 ⟨⟨o, List.mem_of_getElem? h.get, h.id, ?_⟩, ?_⟩, fun j hj => ?_⟩
 ·have hby := h.by_
  have hal := h.also
  unfold jc za0
  unfold byB at hby
  simp only [Bool.and_eq_true, Bool.not_eq_true', decide_eq_false_iff_not, decide_eq_true_eq]
  refine ⟨⟨by omega, h.lt⟩, by rw [h.s]; omega, h.tim, ?_⟩
  cases hq : o.two with
  | false =>
   rw [hq] at hby
   simp at hby
   simp [h.per, hby]
  | true =>
   rw [hq] at hby
   simp at hby
   have : zh x.a = true := by rcases hal with e | e; exact absurd e hby.1; exact e
   simp [h.per, this]
   exact fun e => hby.2 e.symm
 ·by_cases e0 : ds.length = 0
  ·exact Or.inl e0
  ·right
   rw [zea (by omega)]
   have := h.late
   unfold zar at this
   rw [decide_eq_true (by omega), Bool.true_and, decide_eq_false_iff_not] at this
   show _ <= x.m
   omega
 ·have hj' := List.mem_range.1 hj
  unfold za3
  rw [getD_end, zea hj', Bool.not_eq_true', Bool.and_eq_false_iff, decide_eq_false_iff_not, decide_eq_false_iff_not]
  have hm := List.getElem?_eq_getElem hj'
  rw [zbf hm]
  have := h.new ds[j] (List.getElem_mem _)
  by_cases q : ds[j].o = x.id
  ·exact Or.inr (fun e => this ⟨q, e⟩)
  ·exact Or.inl q
set_option maxRecDepth 20000 in
set_option maxHeartbeats 16000000 in
theorem zjn {os : List Od} {ds : List Ds} {x : Dd} (hc : jm os ds = true) (hd : doC os ds x = 0) : jm (vg os x) (qm os ds x) = true := by
 obtain ⟨h0, h1, h2⟩ := zaw.1 hc
 have hr := zco h1
 have ha := zf9 h1
 have hb := zes hd
 by_cases k5 : x.k = 5
 ·obtain ⟨k, o, t, hg⟩ := zho hc hd k5
  rw [(hg.ds k5).1, (hg.ds k5).2]
  exact zj1 hc hg
 have hal : AllO (vg os x) := by
  have := dO_od (ds := ds) (x := x) ha
  unfold dO at this
  rwa [if_pos hd] at this
 have hds : qm os ds x = ds := by unfold qm; rw [if_neg k5]
 rw [hds]
 unfold doC at hd
 rw [if_neg (by rw [hb]; simp)] at hd
 by_cases k1 : x.k = 1
 ·rw [if_pos k1] at hd
  by_cases e1 : 0 <= atO os x.o.id
  ·rw [if_pos e1] at hd; cases hd
  rw [if_neg e1] at hd
  by_cases e2 : os.length = 100
  ·rw [if_pos e2] at hd; cases hd
  have ho : vg os x = yl os x.o := by unfold vg; rw [if_pos k1]
  rw [ho] at hal ⊢
  obtain ⟨q1, q2, q3⟩ := ins_ris (o := x.o) hr (by omega)
  exact zaw.2 ⟨⟨by rw [q3]; omega, h0.2⟩, zii hal q1, fun i hi => zhe hr q1 (fun o ho hs => ⟨o, q2 o ho, rfl, rfl, rfl, hs⟩) hi (h2 i hi)⟩
 ·rw [if_neg k1] at hd
  by_cases hat : atO os x.id < 0
  ·rw [if_pos hat] at hd; cases hd
  obtain ⟨k, hk'⟩ := Int.eq_ofNat_of_zero_le (show 0 <= atO os x.id by omega)
  obtain ⟨o, ho, hid⟩ := zdc hk'
  have hkl := (List.getElem?_eq_some_iff.1 ho).1
  have hos : vg os x = os.set k { o with s := x.k } := by
   unfold vg
   rw [if_neg k1, if_neg k5, hk', show ((k : Int).toNat) = k from rfl, ku ho]
  rw [hos] at hal ⊢
  have hr' := set_ris (o' := { o with s := x.k }) hr ho rfl
  refine zaw.2 ⟨⟨by rw [List.length_set]; exact h0.1, h0.2⟩, zii hal hr', fun i hi => zhe hr hr' (fun y hy hs => ?_) hi (h2 i hi)⟩
  obtain ⟨j, hj, rfl⟩ := List.getElem_of_mem hy
  by_cases e : k = j
  ·subst e
   have hoe : os[k] = o := (List.getElem?_eq_some_iff.1 ho).2
   rw [hoe]
   exact ⟨{ o with s := x.k }, List.mem_of_getElem? (List.getElem?_set_self hkl), rfl, rfl, rfl, k1⟩
  ·exact ⟨os[j], List.mem_of_getElem? (by rw [List.getElem?_set_ne e]; exact List.getElem?_eq_getElem hj), rfl, rfl, rfl, hs⟩
end Go.Proofs.YtjlpfpigggdemaaDoor.Uo
namespace Go.Proofs.YtjlpfpigggdemaaDoor
open Go.RowKit Va Uo
set_option linter.all false
set_option maxRecDepth 20000 in
set_option maxHeartbeats 16000000 in
theorem fck_walk (ao : Option Addr) (cap : Nat) (bs : List Int) (w : World) (hb : Bytes w w.heap.size ao bs) (hL : zdi w) :
  Calls Tryd.prog 3 #[.slice ao bs.length cap] w fun e w' => e = .returned (.bool true) /\ Below w.heap.size w w' := by
 have kb := big_any ao cap bs.length w
 by_cases hbig : (4096 : Int) < (bs.length : Int)
 ·rw [decide_eq_true hbig] at kb
  clear hb
  go_enter Tryd.func3, Tryd.ntmps3
  go_wp2_with fail
  refine kb.mono ?_
  rintro e w1 ⟨rfl, hw1⟩
  subst hw1
  go_wp2_with fail
  go_ret
  exact ⟨rfl, Below.refl _ _⟩
 rw [decide_eq_false hbig] at kb
 have hl : bs.length <= 4096 := by omega
 have HD := hidden (dod_any ao cap bs w hb (by omega))
 have HL := hidden hL
 clear hb hbig hL
 go_enter Tryd.func3, Tryd.ntmps3
 go_wp2_with fail
 refine kb.mono ?_
 rintro e w1 ⟨rfl, hw1⟩
 subst hw1
 clear kb
 go_wp2_with fail
 refine HD.out.mono ?_
 rintro e wD ⟨v1, v2, os, ds, x, rfl, hR, hol, hdl, hbD⟩
 obtain ⟨a1, c1, rfl⟩ := hR.1.form
 obtain ⟨a2, c2, rfl⟩ := hR.2.form
 unfold qw
 have bA : Below wD.heap.size wD ((wD.alloc (.cells #[.slice a1 os.length c1, .slice a2 ds.length c2] 27)).alloc (.cells #[.int .i64 x.k, .int .i64 x.o.id, .int .i64 x.o.p, .int .i64 x.o.d, .int .i64 x.o.n, .int .i64 x.o.f, .int .i64 x.o.e, .int .i64 x.o.c, .int .i64 x.o.s, .bool x.o.two, .int .i64 x.id, .int .i64 x.p, .int .i64 x.d, .int .i64 x.n, .int .i64 x.m, .int .i64 x.b, .int .i64 x.a] 31)) := ((Below.refl _ wD).alloc (Nat.le_refl _) _).alloc (by simp) _
 have hX := (PB.new wD #[.slice a1 os.length c1, .slice a2 ds.length c2] 27).alloc (.cells #[.int .i64 x.k, .int .i64 x.o.id, .int .i64 x.o.p, .int .i64 x.o.d, .int .i64 x.o.n, .int .i64 x.o.f, .int .i64 x.o.e, .int .i64 x.o.c, .int .i64 x.o.s, .bool x.o.two, .int .i64 x.id, .int .i64 x.p, .int .i64 x.d, .int .i64 x.n, .int .i64 x.m, .int .i64 x.b, .int .i64 x.a] 31)
 have hM := PB.new (wD.alloc (.cells #[.slice a1 os.length c1, .slice a2 ds.length c2] 27)) #[.int .i64 x.k, .int .i64 x.o.id, .int .i64 x.o.p, .int .i64 x.o.d, .int .i64 x.o.n, .int .i64 x.o.f, .int .i64 x.o.e, .int .i64 x.o.c, .int .i64 x.o.s, .bool x.o.two, .int .i64 x.id, .int .i64 x.p, .int .i64 x.d, .int .i64 x.n, .int .i64 x.m, .int .i64 x.b, .int .i64 x.a] 31
 simp only [World.size_alloc] at hM
 have HR3 := hidden (show Cp.CRw _ _ _ os ds from ⟨hR.1.below bA, hR.2.below bA⟩)
 have HB3 := hidden (hbD.trans (bA.mono hbD.size))
 have HL3 := hidden (HL.out.below HB3.out)
 clear hR hbD bA HD HL
 go_upto_region 4 with fail
 generalize (wD.alloc (.cells #[.slice a1 os.length c1, .slice a2 ds.length c2] 27)).alloc (.cells #[.int .i64 x.k, .int .i64 x.o.id, .int .i64 x.o.p, .int .i64 x.o.d, .int .i64 x.o.n, .int .i64 x.o.f, .int .i64 x.o.e, .int .i64 x.o.c, .int .i64 x.o.s, .bool x.o.two, .int .i64 x.id, .int .i64 x.p, .int .i64 x.d, .int .i64 x.n, .int .i64 x.m, .int .i64 x.b, .int .i64 x.a] 31) = w3 at *
 generalize wD.heap.size = X at *
 have HXX := hidden hX
 have HMM : Hid (PB w3 (X + 1) (qw x) 31) := hM
 generalize hME : X + 1 = M at *
 have hMX : M ≠ X := by omega
 clear hX hM hME
 obtain ⟨x0, x1⟩ := HXX.out.two
 go_wp2_with (first | (refine wpList_load_row rfl 31 (.tmp 4) rfl M rfl 31 (qw x) (0, 0) _ HMM.out Tryd.underlying31 rfl (by kernel_rfl) ?_) | fail)
 refine (ziz a1 os.length c1 a2 ds.length c2 os ds x w3 HR3.out (by omega) (by omega) HL3.out).mono ?_
 rintro e w4 ⟨v1, v2, rfl, hN4, hb4⟩
 obtain ⟨p1, q1, p2, q2, rfl, rfl⟩ := hN4.form
 have ba : Below w4.heap.size w4 (w4.alloc (.cells #[.slice p1 (yx os ds x).length q1, .slice p2 (yz os ds x).length q2] 27)) := (Below.refl _ _).alloc (Nat.le_refl _) _
 have hG := PB.new w4 #[.slice p1 (yx os ds x).length q1, .slice p2 (yz os ds x).length q2] 27
 have HN5 := hidden (hN4.below ba)
 have HB35 := hidden (hb4.trans (ba.mono hb4.size))
 clear hN4 hb4 ba x0 x1
 go_upto_region 5 with fail
 generalize w4.alloc (.cells #[.slice p1 (yx os ds x).length q1, .slice p2 (yz os ds x).length q2] 27) = w5 at *
 generalize w4.heap.size = Y at *
 have HGG := hidden hG
 have HR5 := hidden (show Cp.CRw w5 _ _ os ds from ⟨HR3.out.1.below HB35.out, HR3.out.2.below HB35.out⟩)
 have HX5 := hidden (HXX.out.below HB35.out)
 have HM5 := hidden (HMM.out.below HB35.out)
 clear hG HXX HMM HR3 HL3
 obtain ⟨x0, x1⟩ := HX5.out.two
 go_wp2_with (first | (refine wpList_load_row rfl 31 (.tmp 4) rfl M rfl 31 (qw x) (0, 0) _ HM5.out Tryd.underlying31 rfl (by kernel_rfl) ?_) | fail)
 refine (zi2 a1 c1 a2 c2 os ds x w5 HR5.out (by omega) (by omega)).mono ?_
 rintro e w6 ⟨v1, v2, rfl, hN6, hb6⟩
 obtain ⟨r1, s1, r2, s2, rfl, rfl⟩ := hN6.form
 have HB57 := hidden (hb6.alloc hb6.size (.cells #[.slice r1 (yx os ds x).length s1, .slice r2 (yz os ds x).length s2] 27))
 clear hN6 hb6 x0 x1
 go_upto_region 6 with fail
 generalize w6.alloc (.cells #[.slice r1 (yx os ds x).length s1, .slice r2 (yz os ds x).length s2] 27) = w7 at *
 have HX7 := hidden (HX5.out.below HB57.out)
 have HM7 := hidden (HM5.out.below HB57.out)
 have HG7 := hidden (HGG.out.below HB57.out)
 have HR7 := hidden (show Cp.CRw w7 _ _ os ds from ⟨HR5.out.1.below HB57.out, HR5.out.2.below HB57.out⟩)
 have HN7 := hidden (HN5.out.below HB57.out)
 have HB7 := hidden (HB3.out.trans ((HB35.out.trans (HB57.out.mono HB35.out.size)).mono HB3.out.size))
 clear HX5 HM5 HGG HR5 HN5 HB3 HB35 HB57
 have e1 : (odC os ds x != odC os ds x) = false := by simp
 cases hcB : jm os ds with
 | false =>
  have g1 : odC os ds x = 1 := by simp [odC, hcB]
  have g2 : yx os ds x = [] := by simp [yx, hcB]
  have g3 : yz os ds x = [] := by simp [yz, hcB]
  rw [g1] at e1 ⊢
  rw [g2, g3] at HG7
  clear HN7
  obtain ⟨y0, y1⟩ := HG7.out.two
  rw [g2, g3]
  go_wp2_with fail
  go_ret
  exact ⟨rfl, HB7.out⟩
 | true =>
  have g1 : odC os ds x = doC os ds x := by simp [odC, hcB]
  rw [g1] at e1 ⊢
  have hne1 : ¬ doC os ds x = 1 := doC_ne
  have hne1' : (doC os ds x == 1) = false := by simp [hne1]
  by_cases hc0 : doC os ds x = 0
  case neg =>
   have g2 : yx os ds x = os := by simp [yx, hcB, hc0]
   have g3 : yz os ds x = ds := by simp [yz, hcB, hc0]
   rw [g2, g3] at HG7 HN7 ⊢
   obtain ⟨x0, x1⟩ := HX7.out.two
   obtain ⟨y0, y1⟩ := HG7.out.two
   have hc0' : (doC os ds x != 0) = true := by simp [hc0]
   generalize doC os ds x = c at *
   go_wp2_with fail
   refine (zi7 p1 p2 a1 a2 os.length ds.length os.length ds.length q1 q2 c1 c2 os ds w7 (zb4 HN7.out) HR7.out (by omega) (by omega)).mono ?_
   rintro e w8 ⟨rfl, hb8⟩
   have HF := hidden (HB7.out.trans (hb8.mono HB7.out.size))
   clear hb8
   go_wp2_with fail
   go_ret
   exact ⟨rfl, HF.out⟩
  have g2 : yx os ds x = vg os x := by simp [yx, hcB, hc0]
  have g3 : yz os ds x = qm os ds x := by simp [yz, hcB, hc0]
  have hkept := zjn hcB hc0
  have HGv := hidden (fun h5 => zho hcB hc0 h5)
  have HDs5 : Hid (¬ x.k = 5 -> qm os ds x = ds) := fun h5 => by unfold qm; rw [if_neg h5]
  rw [g2, g3] at HG7 HN7 ⊢
  rw [hc0] at e1 hne1 hne1' ⊢
  have HCB := hidden hcB
  clear g1 g2 g3 hne1 hc0 hcB
  have hlen := (zaw.1 hkept).1
  have HK := hidden hkept
  clear hkept
  generalize hOO : vg os x = O2 at *
  generalize hDD : qm os ds x = D2 at *
  have HOO := hidden hOO
  have HDD := hidden hDD
  clear hOO hDD
  obtain ⟨x0, x1⟩ := HX7.out.two
  obtain ⟨y0, y1⟩ := HG7.out.two
  have HI1 := hidden (zfx p1 O2.length q1 p2 D2.length q2 O2 D2 w7 (zb4 HN7.out).1 (zb4 HN7.out).2 (by omega) (by omega))
  rw [HK.out] at HI1
  go_wp2_with fail
  refine HI1.out.mono ?_
  rintro e w8 ⟨rfl, hb8⟩
  have HN8 := hidden (HN7.out.below hb8)
  have HX8 := hidden (HX7.out.below hb8)
  have HM8 := hidden (HM7.out.below hb8)
  have HG8 := hidden (HG7.out.below hb8)
  have HR8 := hidden (show Cp.CRw w8 _ _ os ds from ⟨HR7.out.1.below hb8, HR7.out.2.below hb8⟩)
  have HB8 := hidden (HB7.out.trans (hb8.mono HB7.out.size))
  clear HN7 HX7 HM7 HG7 HR7 HB7 hb8 x0 x1 y0 y1 HI1
  obtain ⟨y0, y1⟩ := HG8.out.two
  have HI2 := hidden (zhg p1 O2.length q1 p2 D2.length q2 O2 D2 w8 (zb4 HN8.out).1 (zb4 HN8.out).2 (by omega) (by omega))
  rw [HK.out] at HI2
  go_wp2_with fail
  refine HI2.out.mono ?_
  rintro e w9 ⟨rfl, hb9⟩
  have HN9 := hidden (HN8.out.below hb9)
  have HX9 := hidden (HX8.out.below hb9)
  have HM9 := hidden (HM8.out.below hb9)
  have HG9 := hidden (HG8.out.below hb9)
  have HR9 := hidden (show Cp.CRw w9 _ _ os ds from ⟨HR8.out.1.below hb9, HR8.out.2.below hb9⟩)
  have HB9 := hidden (HB8.out.trans (hb9.mono HB8.out.size))
  clear HN8 HX8 HM8 HG8 HR8 HB8 hb9 y0 y1 HI2
  obtain ⟨x0, x1⟩ := HX9.out.two
  obtain ⟨y0, y1⟩ := HG9.out.two
  have d0 : w9.cell? ⟨M, 0, none⟩ = some (.int .i64 x.k) := HM9.out.cell 0
  by_cases h5 : x.k = 5
  case neg =>
   have hD := HDs5.out h5
   have h5' : (x.k != 5) = true := by simp [h5]
   subst hD
   clear HDs5 HGv
   go_wp2_with fail
   go_ret
   exact ⟨rfl, HB9.out⟩
  obtain ⟨k, oo, t, hgv⟩ := HGv.out h5
  have hD : D2 = ds ++ [⟨x.id, (t : Int), x.m, x.b, x.a⟩] := by rw [<- HDD.out]; exact (hgv.ds h5).2
  have hlD : D2.length = ds.length + 1 := by rw [hD]; simp
  have hdn : D2[ds.length]? = some ⟨x.id, (t : Int), x.m, x.b, x.a⟩ := by rw [hD, List.getElem?_append_right (Nat.le_refl _)]; simp
  obtain ⟨G, og, rfl, hGl, hgc⟩ := (zb4 HN9.out).2.at hdn
  have n0 : w9.cell? ⟨G, og + ds.length * 5, none⟩ = some (.int .i64 x.id) := hgc 0 (by omega)
  have n1 : w9.cell? ⟨G, og + ds.length * 5 + 1, none⟩ = some (.int .i64 (t : Int)) := hgc 1 (by omega)
  have n2 : w9.cell? ⟨G, og + ds.length * 5 + 2, none⟩ = some (.int .i64 x.m) := hgc 2 (by omega)
  have n3 : w9.cell? ⟨G, og + ds.length * 5 + 3, none⟩ = some (.int .i64 x.b) := hgc 3 (by omega)
  have n4 : w9.cell? ⟨G, og + ds.length * 5 + 4, none⟩ = some (.int .i64 x.a) := hgc 4 (by omega)
  rw [hlD] at y1
  have h5' : (x.k != 5) = false := by simp [h5]
  have HH5 := hidden h5
  have HGV := hidden hgv
  have hkl := (List.getElem?_eq_some_iff.1 hgv.get).1
  clear hgc hdn hD hlD hgv h5 HGv HDs5 HDD HOO HN9
  have bD : Below w9.heap.size w9 (w9.alloc (.cells #[.int .i64 x.id, .int .i64 (t : Int), .int .i64 x.m, .int .i64 x.b, .int .i64 x.a] 39)) := (Below.refl _ _).alloc (Nat.le_refl _) _
  have HE := hidden (PB.new w9 #[.int .i64 x.id, .int .i64 (t : Int), .int .i64 x.m, .int .i64 x.b, .int .i64 x.a] 39)
  have HXa := hidden (HX9.out.below bD)
  have HMa := hidden (HM9.out.below bD)
  have HRa := hidden (HR9.out.1.below bD)
  have HBa := hidden (HB9.out.trans (bD.mono HB9.out.size))
  clear bD
  go_upto_region 19 with fail
  generalize w9.alloc (.cells #[.int .i64 x.id, .int .i64 (t : Int), .int .i64 x.m, .int .i64 x.b, .int .i64 x.a] 39) = wE at *
  generalize w9.heap.size = E at *
  clear x0 x1 y0 y1 n0 n1 n2 n3 n4 d0 HX9 HM9 HG9 HR9 HB9
  go_wp2_with fail
  go_loopw [10] (fun iv wr => ∃ i : Nat, i <= k /\ iv = .int .i64 i /\ Below wE.heap.size wE wr) (fun iv _ => k - (intOf iv).toNat)
  case atStart => exact ⟨0, Nat.zero_le _, rfl, Below.refl _ _⟩
  case round =>
   obtain ⟨i, hik, rfl, hbr⟩ := hrel
   have hio : i < os.length := by omega
   have hlti : (i : Int) < (os.length : Int) := by omega
   obtain ⟨y, hy⟩ := zad os i hio
   obtain ⟨Go, oo2, rfl, hGo, hoc⟩ := (HRa.out.below hbr).at hy
   have s0 : wr.cell? ⟨Go, oo2 + i * 9, none⟩ = some (.int .i64 y.id) := hoc 0 (by omega)
   have s1 : wr.cell? ⟨Go, oo2 + i * 9 + 1, none⟩ = some (.int .i64 y.p) := hoc 1 (by omega)
   have s2 : wr.cell? ⟨Go, oo2 + i * 9 + 2, none⟩ = some (.int .i64 y.d) := hoc 2 (by omega)
   have s3 : wr.cell? ⟨Go, oo2 + i * 9 + 3, none⟩ = some (.int .i64 y.n) := hoc 3 (by omega)
   have s4 : wr.cell? ⟨Go, oo2 + i * 9 + 4, none⟩ = some (.int .i64 y.f) := hoc 4 (by omega)
   have s5 : wr.cell? ⟨Go, oo2 + i * 9 + 5, none⟩ = some (.int .i64 y.e) := hoc 5 (by omega)
   have s6 : wr.cell? ⟨Go, oo2 + i * 9 + 6, none⟩ = some (.int .i64 y.c) := hoc 6 (by omega)
   have s7 : wr.cell? ⟨Go, oo2 + i * 9 + 7, none⟩ = some (.int .i64 y.s) := hoc 7 (by omega)
   have s8 : wr.cell? ⟨Go, oo2 + i * 9 + 8, none⟩ = some (.bool y.two) := hoc 8 (by omega)
   clear hoc
   obtain ⟨x0, x1⟩ := (HXa.out.below hbr).two
   have ba : Below wr.heap.size wr (wr.alloc (.cells #[.int .i64 y.id, .int .i64 y.p, .int .i64 y.d, .int .i64 y.n, .int .i64 y.f, .int .i64 y.e, .int .i64 y.c, .int .i64 y.s, .bool y.two] 29)) := (Below.refl _ _).alloc (Nat.le_refl _) _
   have hQ := PB.new wr #[.int .i64 y.id, .int .i64 y.p, .int .i64 y.d, .int .i64 y.n, .int .i64 y.f, .int .i64 y.e, .int .i64 y.c, .int .i64 y.s, .bool y.two] 29
   have HBb := hidden (hbr.trans (ba.mono hbr.size))
   have HEb := hidden (HE.out.below HBb.out)
   have HMb := hidden (HMa.out.below HBb.out)
   clear ba hbr
   go_upto_region 23 with fail
   generalize wr.alloc (.cells #[.int .i64 y.id, .int .i64 y.p, .int .i64 y.d, .int .i64 y.n, .int .i64 y.f, .int .i64 y.e, .int .i64 y.c, .int .i64 y.s, .bool y.two] 29) = wQ at *
   generalize wr.heap.size = Qb at *
   clear s0 s1 s2 s3 s4 s5 s6 s7 s8 x0 x1
   have e0 : wQ.cell? ⟨E, 0, none⟩ = some (.int .i64 x.id) := HEb.out.cell 0
   have e1 : wQ.cell? ⟨E, 1, none⟩ = some (.int .i64 (t : Int)) := HEb.out.cell 1
   have e2 : wQ.cell? ⟨E, 2, none⟩ = some (.int .i64 x.m) := HEb.out.cell 2
   have e4 : wQ.cell? ⟨E, 4, none⟩ = some (.int .i64 x.a) := HEb.out.cell 4
   have m10 : wQ.cell? ⟨M, 10, none⟩ = some (.int .i64 x.id) := HMb.out.cell 10
   have m11 : wQ.cell? ⟨M, 11, none⟩ = some (.int .i64 x.p) := HMb.out.cell 11
   have m12 : wQ.cell? ⟨M, 12, none⟩ = some (.int .i64 x.d) := HMb.out.cell 12
   have m13 : wQ.cell? ⟨M, 13, none⟩ = some (.int .i64 x.n) := HMb.out.cell 13
   have m14 : wQ.cell? ⟨M, 14, none⟩ = some (.int .i64 x.m) := HMb.out.cell 14
   have r0 : wQ.cell? ⟨Qb, 0, none⟩ = some (.int .i64 y.id) := hQ.cell 0
   have r1' : wQ.cell? ⟨Qb, 1, none⟩ = some (.int .i64 y.p) := hQ.cell 1
   have r2' : wQ.cell? ⟨Qb, 2, none⟩ = some (.int .i64 y.d) := hQ.cell 2
   have r3 : wQ.cell? ⟨Qb, 3, none⟩ = some (.int .i64 y.n) := hQ.cell 3
   have r4 : wQ.cell? ⟨Qb, 4, none⟩ = some (.int .i64 y.f) := hQ.cell 4
   have r5 : wQ.cell? ⟨Qb, 5, none⟩ = some (.int .i64 y.e) := hQ.cell 5
   have r7 : wQ.cell? ⟨Qb, 7, none⟩ = some (.int .i64 y.s) := hQ.cell 7
   have r8 : wQ.cell? ⟨Qb, 8, none⟩ = some (.bool y.two) := hQ.cell 8
   clear hQ
   by_cases hlt : i < k
   ·have hne : ¬ y.id = x.id := by
     have h1 := zco (zaw.1 HCB.out).2.1 i k y oo hlt hy HGV.out.get
     have h2 := HGV.out.id
     omega
    have hne' : (y.id == x.id) = false := by simp [hne]
    clear hy
    go_wp2_with fail
    go_roundw
    case rel => exact ⟨i + 1, by omega, rfl, HBb.out⟩
    case measure => simp [intOf]; omega
   ·obtain rfl : i = k := by omega
    obtain rfl : y = oo := Option.some.inj (hy.symm.trans HGV.out.get)
    have hod := zf9 (zaw.1 HCB.out).2.1 i y hy
    unfold odB at hod
    simp only [Bool.and_eq_true] at hod
    have hf := zak.1 hod.2.2.2.2.1
    have he := zak.1 hod.2.2.2.2.2.1
    have hcc := zak.1 hod.2.2.2.2.2.2.1
    have htm := zak.1 HGV.out.tim
    have hte0 : 0 <= (t : Int) * y.e := Int.mul_nonneg (by omega) (by omega)
    have hlt2 := HGV.out.lt
    have hte1 : (t : Int) * y.e <= 200 * 1440 := Int.mul_le_mul (by omega) (by omega) (by omega) (by omega)
    have hdue := HGV.out.due
    unfold zaa jf at hdue
    simp only [Bool.and_eq_true] at hdue
    have hr2 := zak.1 hdue.1
    have hw1 : IntKind.wrap .i64 ((t : Int) * y.e) = (t : Int) * y.e := by rw [IntKind.wrap_i64]; omega
    have hw2 : IntKind.wrap .i64 (y.f + (t : Int) * y.e) = y.f + (t : Int) * y.e := by rw [IntKind.wrap_i64]; omega
    have hby := HGV.out.by_
    rw [HGV.out.id] at r0
    rw [<- HGV.out.p] at r1'
    rw [<- HGV.out.d] at r2'
    rw [<- HGV.out.n] at r3
    rw [HGV.out.s] at r7
    obtain ⟨hf0, hf1⟩ := hf
    obtain ⟨ht0, ht1⟩ := htm
    obtain ⟨hr0, hr1⟩ := hr2
    have HF := hidden (HBa.out.trans (HBb.out.mono HBa.out.size))
    clear hy hod hdue hlt
    unfold byB at hby
    cases h2 : y.two with
    | false =>
     rw [h2] at hby r8
     simp at hby
     rw [hby] at e4
     go_wp2_with fail
     go_ret
     exact ⟨rfl, HF.out⟩
    | true =>
     rw [h2] at hby r8
     simp at hby
     have ha : ¬ x.a = -1 := hby.1
     have ha' : (x.a != -1) = true := by simp [ha]
     clear hby
     go_wp2_with fail
     go_ret
     exact ⟨rfl, HF.out⟩
end Go.Proofs.YtjlpfpigggdemaaDoor
namespace Go.Proofs.YtjlpfpigggdemaaDoor
open Go.RowKit
set_option maxRecDepth 20000 in
set_option maxHeartbeats 16000000 in
theorem zkm {H : Type} {enc : TypeId × Value -> H} {P : Program} {W : World} {sp : Nat -> Bool} {hd : Bool} {t e : TypeId} {ao : Option Addr} {len cap : Nat} {d : DataW H} {p : List MemPlace}
  (ht : P.underlying t = some (.slice e)) (he : P.underlying e = some (.int .u8)) (hc : P.cellsOf e = 1) (h : DataW.Trod enc P W 0 sp hd t (.slice ao len cap) d p) :
  ∃ bs : List Int, bs.length = len /\ Bytes W W.heap.size ao bs := by
 obtain ⟨fuel, hf⟩ := h
 rcases Deep.open_slice1 ht hc hf with ⟨h1, _⟩ | ⟨a, l, c, m, n, V, D, Pl, h1, _, hl, _, hm, _, hx⟩
 ·simp [Value.cells] at h1
  obtain ⟨rfl, rfl, rfl⟩ := h1
  exact ⟨[], rfl, by simp, Or.inl rfl⟩
 ·simp [Value.cells] at h1
  obtain ⟨rfl, rfl, rfl⟩ := h1
  have hle : len <= m := by rw [hm]; split <;> omega
  have hV : ∀ i, i < len -> ∃ x : Int, V i = .int .u8 x /\ 0 <= x /\ x <= 255 := by
   intro i hi
   obtain ⟨_, h2⟩ := hx i (by omega)
   cases n with
   | zero => simp [DataW.trod] at h2
   | succ n =>
    simp only [DataW.trod, he] at h2
    cases hv : V i with
    | int k b =>
     rw [hv] at h2
     by_cases q : k = .u8 /\ (Lit.int .u8 b).wf = true
     ·obtain ⟨rfl, q2⟩ := q
      refine ⟨b, rfl, ?_⟩
      have q3 : (decide (IntKind.u8.min <= b) && decide (b <= IntKind.u8.max)) = true := q2
      have e1 : IntKind.u8.min = 0 := by decide
      have e2 : IntKind.u8.max = 255 := by decide
      rw [e1, e2] at q3
      simpa using q3
     ·simp [q] at h2
    | _ => rw [hv] at h2; simp at h2
  refine ⟨(List.range len).map (fun i => match V i with | .int _ b => b | _ => 0), by simp, ?_, ?_⟩
  ·intro x hxm
   obtain ⟨i, hi, rfl⟩ := List.mem_map.1 hxm
   obtain ⟨y, hy, h0, h1⟩ := hV i (List.mem_range.1 hi)
   simp only [hy]
   exact ⟨h0, h1⟩
  ·by_cases h0 : len = 0
   ·exact Or.inl (by simp [h0])
   ·obtain ⟨b, off, spot⟩ := a
    have hs := (hx 0 (by omega)).1
    have hspot : spot = none := by simpa [Addr.add] using World.cell?_spot hs
    subst hspot
    refine Or.inr ⟨b, off, rfl, World.block_lt_of_cell? W _ (by simpa [Addr.add] using hs), ?_⟩
    intro i hi
    have hi' : i < len := by simpa using hi
    have h2 := (hx i (by omega)).1
    obtain ⟨x, hxv, _⟩ := hV i hi'
    rw [hxv] at h2
    have h3 : W.cell? ⟨b, off + i, none⟩ = some (.int .u8 x) := by
     by_cases q : i = 0
     ·subst q; simpa [Addr.add] using h2
     ·simpa [Addr.add, q] using h2
    rw [h3]
    simp [hi', hxv]
end Go.Proofs.YtjlpfpigggdemaaDoor
