/-
 Merged: U47 U48 U49.
-/
import Derived.Test.YtjlpfpigggdemaaGreatDoorMi16
import Derived.Test.YtjlpfpigggdemaaGreatDoorMi17
import Derived.Test.YtjlpfpigggdemaaGreatDoorMi23
import Derived.Test.YtjlpfpigggdemaaGreatDoorMi24
import Derived.Test.YtjlpfpigggdemaaGreatDoorMi2
import Derived.Laws.CopyRow
import Derived.Laws.CopyOwn
import Derived.Laws.Append
import Derived.Laws.AppendOwn
import Derived.Laws.OwnMore
import Derived.Test.YtjlpfpigggdemaaGreatDoorMi7
import Derived.Lib.AppendZerosOnto
import Derived.Lib.Overlaps
import Derived.Laws.Externs
import Derived.Shelf.RegionOpenPlain
namespace Go.Proofs.YtjlpfpigggdemaaGreatDoor
set_option maxRecDepth 8000
set_option maxHeartbeats 4000000
open Go.RowKit Va Uo
set_option linter.all false
def BehP (os : List Od) (ds : List Ds) (x : Dd) (w : World) (e : Ending) (w' : World) : Prop :=
 (¬ doC os ds x = 0 /\ e = .panicked [{ v := kz x.k (doC os ds x), recovered := false }] /\ Below w.heap.size w w') ∨ (doC os ds x = 0 /\ ∃ v1 v2, e = .returned (.agg #[v1, v2]) /\ Cp.zo w' w.heap.size v1 v2 (ve os x) (qo os ds x) /\ Below w.heap.size w w')
theorem zdh {os : List Od} {ds : List Ds} {x : Dd} {w w' : World} {e : Ending} (c : Int) (hc : doC os ds x = c) (h0 : ¬ c = 0) (h : e = .panicked [{ v := kz x.k c, recovered := false }] /\ Below w.heap.size w w') : BehP os ds x w e w' := Or.inl ⟨hc ▸ h0, hc ▸ h.1, h.2⟩
theorem zfx {os : List Od} {ds : List Ds} {x : Dd} {w w' : World} {e : Ending} {os2 : List Od} {ds2 : List Ds} (hc : doC os ds x = 0) (ho : ve os x = os2) (hd : qo os ds x = ds2) (h : ∃ v1 v2, e = .returned (.agg #[v1, v2]) /\ Cp.zo w' w.heap.size v1 v2 os2 ds2 /\ Below w.heap.size w w') : BehP os ds x w e w' := Or.inr ⟨hc, by rw [ho, hd]; exact h⟩
set_option maxRecDepth 20000 in
set_option maxHeartbeats 16000000 in
theorem zj3 (ao : Option Addr) (n cap : Nat) (ad : Option Addr) (m dcap : Nat) (os : List Od) (ds : List Ds) (x : Dd) (w : World) (hR : Cp.CRw w (.slice ao n cap) (.slice ad m dcap) os ds) (hc : ji os ds = true) (hx : ddB x = true) (hk : x.k = 2 ∨ x.k = 3 ∨ x.k = 4) :
  Calls Tryz.prog 28 #[.agg #[.slice ao n cap, .slice ad m dcap], aDd x] w (BehP os ds x w) := by
 obtain ⟨⟨hn, hm⟩, ho, hd⟩ := za5.1 hc
 have hr := zcd ho
 have k1 : ¬ x.k = 1 := by omega
 have k5 : ¬ x.k = 5 := by omega
 by_cases hat : atO os x.id < 0
 ·exact (zhf ao n cap ad m dcap os ds x w hR (by omega) (by omega) hc hx k1 k5 4 (fun base W a1 c1 a2 c2 h1 h2 => zjz _ _ os ds base x W h1 h2 hn hr hat)).mono fun e w' h => zdh 4 (by simp [doC, hx, k1, hat]) (by decide) h
 ·obtain ⟨k, hka⟩ : ∃ k : Nat, atO os x.id = (k : Int) := ⟨(atO os x.id).toNat, by omega⟩
  obtain ⟨oo, hko, hid⟩ := zdy hka
  have hg : os.getD (atO os x.id).toNat default = oo := by rw [hka, Int.toNat_natCast]; exact jm hko
  by_cases hf : yc oo.s x.k = true
  ·refine (zjr ao n cap ad m dcap os ds x w hR (by omega) (by omega) hc hx k1 k5 (os.set k { oo with s := x.k }) ds (fun base W a1 c1 a2 c2 h1 h2 => (zkc _ _ os ds base x W h1 h2 hn hr hk k oo hka hko hf).mono fun e w' h => ⟨_, _, h⟩)).mono fun e w' h => zfx (by simp only [doC, hx, k1, hat, hg, hf, k5]; simp) (by simp only [ve, k1, k5, if_false, hg]; rw [hka, Int.toNat_natCast]) (by simp [qo, k5]) h
  ·have hf' : yc oo.s x.k = false := by simpa using hf
   exact (zhf ao n cap ad m dcap os ds x w hR (by omega) (by omega) hc hx k1 k5 5 (fun base W a1 c1 a2 c2 h1 h2 => zkv _ _ os ds base x W h1 h2 hn hr hk k oo hka hko hf')).mono fun e w' h => zdh 5 (by simp only [doC, hx, k1, hat, hg, hf']; simp) (by decide) h
theorem by_of {x : Dd} {two : Bool} (hb : zh x.b = true) (ha : x.a = -1 ∨ zh x.a = true) : za3 two x.b x.a = byB two x.b x.a := by
 unfold za3 byB
 cases two with
 | false => simp [hb]
 | true =>
  simp only [Bool.true_eq_false, if_false, hb, Bool.true_and]
  rcases ha with ha | ha
  ·have : zh (-1) = false := by decide
   simp [this, ha]
  ·have h1 : ¬ x.a = -1 := by intro e; rw [e] at ha; revert ha; decide
   simp only [ha, Bool.true_and, h1, not_false_eq_true, decide_true]
   by_cases e : x.b = x.a
   ·simp [e]
   ·have e' : ¬ x.a = x.b := fun h => e h.symm
    simp [e, e']
theorem zky {os : List Od} {ds : List Ds} {x : Dd} {k : Nat} {oo : Od} (hr : Ris os) (hx : ddB x = true) (hk : x.k = 5) (hka : atO os x.id = (k : Int)) (hko : os[k]? = some oo) (hid : oo.id = x.id) (hod : odB oo = true) : doC os ds x = wdC ds x oo /\ (oo.s = 2 -> vg os ds x.m x.id = jh ds x.m oo oo.c.toNat) := by
 have hg : os.getD (atO os x.id).toNat default = oo := by rw [hka, Int.toNat_natCast]; exact jm hko
 have h1 : ¬ x.k = 1 := by omega
 have hat : ¬ atO os x.id < 0 := by omega
 have hx' := hx
 simp only [ddB, hk] at hx'
 simp at hx'
 have hi : rng x.id 1 100000 = true := hx'.1
 rw [zax] at hi
 have he : 1 <= oo.e := by have := hod; simp only [odB, Bool.and_eq_true, zax] at this; exact this.2.2.2.2.2.1.1
 have hdue : oo.s = 2 -> vg os ds x.m x.id = jh ds x.m oo oo.c.toNat := fun hs => zhq hr (by omega) hko hid hs he
 refine ⟨?_, hdue⟩
 have hby : za3 oo.two x.b x.a = byB oo.two x.b x.a := by_of hx'.2.2.2.2.2.1 hx'.2.2.2.2.2.2
 simp only [doC, hx, h1, hat, hg, if_false, Bool.true_eq_false]
 have hf : yc oo.s x.k = decide (oo.s = 2) := by rw [hk]; simp [yc]
 rw [hf]
 by_cases hs : oo.s = 2
 ·simp only [hs, decide_true, Bool.true_eq_false, if_false, hk, if_true, zar, wdC, hby, hdue hs, ne_eq, not_true_eq_false]
  repeat' split
  all_goals simp_all
 ·simp [hs, wdC]
set_option maxRecDepth 20000 in
set_option maxHeartbeats 16000000 in
theorem zkj (ao : Option Addr) (n cap : Nat) (ad : Option Addr) (m dcap : Nat) (os : List Od) (ds : List Ds) (x : Dd) (w : World) (hR : Cp.CRw w (.slice ao n cap) (.slice ad m dcap) os ds) (hc : ji os ds = true) (hx : ddB x = true) (hk : x.k = 5) :
  Calls Tryz.prog 28 #[.agg #[.slice ao n cap, .slice ad m dcap], aDd x] w (BehP os ds x w) := by
 obtain ⟨⟨hn, hm⟩, ho, hd⟩ := za5.1 hc
 have hr := zcd ho
 have k1 : ¬ x.k = 1 := by omega
 have hbd : ∀ (i : Nat) (d : Ds), ds[i]? = some d -> Bd d.o /\ Bd d.t := fun i d hd1 => bd_of ho (by have := hd i (List.getElem?_eq_some_iff.1 hd1).1; unfold okD at this; simp only [Bool.and_eq_true] at this; exact this.1) hd1
 have ht : zl x.m = true := by
  have h := hx
  simp only [ddB, hk] at h
  simp at h
  exact h.2.2.2.2.1
 by_cases hat : atO os x.id < 0
 ·exact (zg5 ao n cap ad m dcap os ds x w hR (by omega) (by omega) hc hx hk 4 (fun base W a1 c1 a2 c2 h1 h2 => zjh _ _ os ds base x W h1 h2 hn hr hat)).mono fun e w' h => zdh 4 (by simp [doC, hx, k1, hat]) (by decide) h
 ·obtain ⟨k, hka⟩ : ∃ k : Nat, atO os x.id = (k : Int) := ⟨(atO os x.id).toNat, by omega⟩
  obtain ⟨oo, hko, hid⟩ := zdy hka
  have hkl := (List.getElem?_eq_some_iff.1 hko).1
  have hod : odB oo = true := by
   have h := ho k hkl
   unfold qj at h
   rw [jm hko] at h
   simp only [Bool.and_eq_true] at h
   exact h.1
  obtain ⟨hcode, hdue⟩ := zky (ds := ds) hr hx hk hka hko hid hod
  have hW : ∀ base W a1 c1 a2 c2, Cp.zo W base (.slice a1 os.length c1) (.slice a2 ds.length c2) os ds -> base <= W.heap.size -> Calls Tryz.prog 47 #[.agg #[.slice a1 os.length c1, .slice a2 ds.length c2], aDd x] W (WD base (.slice a1 os.length c1) os ds x oo W) := fun base W a1 c1 a2 c2 h1 h2 => by
   by_cases hq : oo.s = 2 /\ x.p = oo.p /\ x.d = oo.d /\ x.n = oo.n
   ·exact zke _ _ os ds base x W h1 h2 hn hr hm hbd ht k oo hka hko hod hq.1 hq.2.1 hq.2.2.1 hq.2.2.2
   ·exact zj0 _ _ os ds base x W h1 h2 hn hr hm hbd ht k oo hka hko hod hq
  by_cases h0 : wdC ds x oo = 0
  ·have hs : oo.s = 2 := by
    by_cases hs : oo.s = 2
    ·exact hs
    ·exfalso; revert h0; simp [wdC, hs]
   refine (zlh ao n cap ad m dcap os ds x w hR (by omega) (by omega) hc hx hk os (ds ++ [⟨x.id, ((jh ds x.m oo oo.c.toNat).getD 0 default).t, x.m, x.b, x.a⟩]) (fun base W a1 c1 a2 c2 h1 h2 => (hW base W a1 c1 a2 c2 h1 h2).mono fun e w' h => ?_)).mono fun e w' h => zfx (hcode.trans h0) (by simp only [ve, hk]; simp) (by simp only [qo, hk, if_true, hdue hs]) h
   rcases h with ⟨q, _⟩ | ⟨_, v2, q1, q2, q3⟩
   ·exact absurd h0 q
   ·exact ⟨_, v2, q1, q2, q3⟩
  ·refine (zg5 ao n cap ad m dcap os ds x w hR (by omega) (by omega) hc hx hk (wdC ds x oo) (fun base W a1 c1 a2 c2 h1 h2 => (hW base W a1 c1 a2 c2 h1 h2).mono fun e w' h => ?_)).mono fun e w' h => zdh _ hcode h0 h
   rcases h with ⟨_, q1, q2⟩ | ⟨q, _⟩
   ·exact ⟨q1, q2⟩
   ·exact absurd q h0
set_option maxRecDepth 20000 in
set_option maxHeartbeats 16000000 in
theorem zlm (ao : Option Addr) (n cap : Nat) (ad : Option Addr) (m dcap : Nat) (os : List Od) (ds : List Ds) (x : Dd) (w : World) (hR : Cp.CRw w (.slice ao n cap) (.slice ad m dcap) os ds) (hc : ji os ds = true) (hx : ddB x = true) (hk : x.k = 1)
  (hins : ∀ base W a1 c1 a2 c2, Cp.zo W base (.slice a1 os.length c1) (.slice a2 ds.length c2) os ds -> base <= W.heap.size -> Ris os -> atO os x.o.id < 0 -> os.length < 100 -> Calls Tryz.prog 46 #[.agg #[.slice a1 os.length c1, .slice a2 ds.length c2], aDd x] W fun e w' => ∃ v1 v2, e = .returned (.agg #[v1, v2]) /\ Cp.zo w' base v1 v2 (yl os x.o) ds /\ Below base W w') :
  Calls Tryz.prog 28 #[.agg #[.slice ao n cap, .slice ad m dcap], aDd x] w (BehP os ds x w) := by
 obtain ⟨⟨hn, hm⟩, ho, hd⟩ := za5.1 hc
 have hr := zcd ho
 by_cases hat : 0 <= atO os x.o.id
 ·exact (zix ao n cap ad m dcap os ds x w hR (by omega) (by omega) hc hx hk 3 (fun base W a1 c1 a2 c2 h1 h2 => zk6 _ _ os ds base x W h1 h2 hn hr hat)).mono fun e w' h => zdh 3 (by simp [doC, hx, hk, hat]) (by decide) h
 ·by_cases hl : os.length = 100
  ·exact (zix ao n cap ad m dcap os ds x w hR (by omega) (by omega) hc hx hk 12 (fun base W a1 c1 a2 c2 h1 h2 => zk0 _ _ os ds base x W h1 h2 hn hr (by omega) hl)).mono fun e w' h => zdh 12 (by simp [doC, hx, hk, hat, hl]) (by decide) h
  ·exact (zkz ao n cap ad m dcap os ds x w hR (by omega) (by omega) hc hx hk (yl os x.o) ds (fun base W a1 c1 a2 c2 h1 h2 => hins base W a1 c1 a2 c2 h1 h2 hr (by omega) (by omega))).mono fun e w' h => zfx (by simp [doC, hx, hk, hat, hl]) (by simp [ve, hk]) (by simp [qo, hk]) h
theorem zlf (ao : Option Addr) (n cap : Nat) (ad : Option Addr) (m dcap : Nat) (os : List Od) (ds : List Ds) (x : Dd) (w : World) (hR : Cp.CRw w (.slice ao n cap) (.slice ad m dcap) os ds) (hc : ji os ds = true) (hx : ddB x = false) :
  Calls Tryz.prog 28 #[.agg #[.slice ao n cap, .slice ad m dcap], aDd x] w (BehP os ds x w) := by
 obtain ⟨⟨hn, hm⟩, ho, hd⟩ := za5.1 hc
 exact (zkd ao n cap ad m dcap os ds x w hR (by omega) (by omega) hc hx).mono fun e w' h => zdh 2 (by simp [doC, hx]) (by decide) h
end Go.Proofs.YtjlpfpigggdemaaGreatDoor
namespace Go.Proofs.YtjlpfpigggdemaaGreatDoor
open Go.RowKit
set_option linter.all false
theorem ze0 {P : Program} (w : World) (dT sT ty elem : TypeId) (size g o dn dc b so sn sc m : Nat) (cur : Array Value) (t : TypeId) (cs : List Value)
  (hu : P.underlying dT = some (.slice elem)) (hs : (P.info? elem).map (·.size) = some size) (hg : w.heap[g]? = some (.cells cur t (0, 0)))
  (hm : Nat.min sn dn = m) (hn : cs.length = m * size) (hfit : o + cs.length <= cur.size) (hsrc : ∀ j v, cs[j]? = some v -> w.cell? ⟨b, so + j, none⟩ = some v) (h1 : ∀ v ∈ cs, v.oneCell' = true) :
  (Builtin.copy_ #[dT, sT] ty #[.slice (some ⟨g, o, none⟩) dn dc, .slice (some ⟨b, so, none⟩) sn sc]).run P w = .ok (goInt m) (w.setRow g (cur.toList.take o ++ cs ++ cur.toList.drop (o + cs.length)).toArray) := by
 cases hq : P.info? elem with
 | none => simp [hq] at hs
 | some i =>
  have hi : i.size = size := by simpa [hq] using hs
  have hst := run_storeCells_at P g o t cs 0 cur w hg (by omega) h1
  simp only [Nat.add_zero] at hst
  have hf : (Builtin.firstCells size m (.slice (some ⟨b, so, none⟩) sn sc)).run P w = .ok cs.toArray w :=
   run_firstCells_some w size m ⟨b, so, none⟩ sn sc cs hn (fun j v hv => by rw [Addr.add_lit]; exact hsrc j v hv)
  simp [Builtin.copy_, run_underlying hu, Builtin.lenOf, sizeOf, typeInfo, hq, hi, hm, hf, hst]
set_option maxRecDepth 20000 in
set_option maxHeartbeats 16000000 in
theorem ins_room {cur : List Value} {xs vs : List Value} {a n s c : Nat} (hs : vs.length = s) (hx : xs.length = n * s) (ha : a * s <= n * s) (hc : (n + 1) * s <= cur.length) (ht : cur.take (n * s) = xs) :
  let c1 := cur.take (a * s + s) ++ xs.drop (a * s) ++ cur.drop (a * s + s + (xs.drop (a * s)).length)
  let c2 := c1.take (a * s) ++ vs ++ c1.drop (a * s + vs.length)
  c1.length = cur.length /\ c2.length = cur.length /\ c2.take ((n + 1) * s) = xs.take (a * s) ++ vs ++ xs.drop (a * s) := by
 intro c1 c2
 have e1 : (n + 1) * s = n * s + s := by rw [Nat.add_mul, Nat.one_mul]
 have hd : (xs.drop (a * s)).length = n * s - a * s := by rw [List.length_drop, hx]
 have h1 : c1.length = cur.length := by
  simp only [c1, List.length_append, List.length_take, List.length_drop]
  omega
 have h2 : c2.length = cur.length := by
  simp only [c2, List.length_append, List.length_take, List.length_drop, h1]
  omega
 refine ⟨h1, h2, ?_⟩
 have k1 : c1.take (a * s) = xs.take (a * s) := by
  rw [<- ht, List.take_take, Nat.min_eq_left ha]
  simp only [c1]
  rw [List.append_assoc, List.take_append_of_le_length (by rw [List.length_take]; omega), List.take_take, Nat.min_eq_left (by omega)]
 have k2 : c1.drop (a * s + vs.length) = xs.drop (a * s) ++ cur.drop (a * s + s + (xs.drop (a * s)).length) := by
  simp only [c1]
  rw [List.append_assoc, List.drop_append_of_le_length (by rw [List.length_take]; omega)]
  rw [List.drop_eq_nil_of_le (by rw [List.length_take]; omega)]
  rfl
 simp only [c2]
 rw [k1, k2, List.append_assoc, <- List.append_assoc vs, <- List.append_assoc]
 rw [<- List.append_assoc]
 rw [List.take_append_of_le_length (by simp only [List.length_append, List.length_take, hd, hx, hs]; omega)]
 rw [List.take_of_length_le (by simp only [List.length_append, List.length_take, hd, hx, hs]; omega)]
set_option maxRecDepth 20000 in
set_option maxHeartbeats 16000000 in
theorem ins_grow {z1 z2 : List Value} {xs vs : List Value} {a n s : Nat} (hs : vs.length = s) (hx : xs.length = n * s) (ha : a * s <= n * s) (hz : z1.length = (n + 1) * s - a * s) :
  let c0 := xs.take (a * s) ++ z1 ++ z2
  let c1 := c0.take (a * s) ++ vs ++ c0.drop (a * s + vs.length)
  let c2 := c1.take (a * s + s) ++ xs.drop (a * s) ++ c1.drop (a * s + s + (xs.drop (a * s)).length)
  c0.length = (n + 1) * s + z2.length /\ c1.length = c0.length /\ c2.length = c0.length /\ c2.take ((n + 1) * s) = xs.take (a * s) ++ vs ++ xs.drop (a * s) := by
 intro c0 c1 c2
 have e1 : (n + 1) * s = n * s + s := by rw [Nat.add_mul, Nat.one_mul]
 have hd : (xs.drop (a * s)).length = n * s - a * s := by rw [List.length_drop, hx]
 have h0 : c0.length = (n + 1) * s + z2.length := by
  simp only [c0, List.length_append, List.length_take]
  omega
 have h1 : c1.length = c0.length := by
  simp only [c1, List.length_append, List.length_take, List.length_drop, h0]
  omega
 have h2 : c2.length = c0.length := by
  simp only [c2, List.length_append, List.length_take, List.length_drop, h1, h0]
  omega
 refine ⟨h0, h1, h2, ?_⟩
 have k0 : c0.take (a * s) = xs.take (a * s) := by
  simp only [c0]
  rw [List.append_assoc, List.take_append_of_le_length (by rw [List.length_take]; omega), List.take_take, Nat.min_self]
 have k1 : c1.take (a * s + s) = xs.take (a * s) ++ vs := by
  simp only [c1]
  rw [k0, List.take_append_of_le_length (by simp only [List.length_append, List.length_take]; omega)]
  rw [List.take_of_length_le (by simp only [List.length_append, List.length_take]; omega)]
 simp only [c2]
 rw [k1]
 rw [List.take_append_of_le_length (by simp only [List.length_append, List.length_take, hd, hx, hs]; omega)]
 rw [List.take_of_length_le (by simp only [List.length_append, List.length_take, hd, hx, hs]; omega)]
theorem zf7 {α : Type} {s : Nat} {cs : α -> Nat -> Value} (l : List α) (k : Nat) (hk : k <= l.length) (o : α) : zt s cs (l.take k ++ o :: l.drop k) = (zt s cs l).take (k * s) ++ (List.range s).map (fun j => cs o j) ++ (zt s cs l).drop (k * s) := by
 have e1 : zt s cs l = zt s cs (l.take k) ++ zt s cs (l.drop k) := by
  have h : zt s cs (l.take k ++ l.drop k) = zt s cs (l.take k) ++ zt s cs (l.drop k) := by
   unfold zt
   rw [List.flatMap_append]
  rw [List.take_append_drop] at h
  exact h
 have e2 : (zt s cs (l.take k)).length = k * s := by rw [za2, List.length_take, Nat.min_eq_left hk]
 have e3 : (zt s cs l).take (k * s) = zt s cs (l.take k) := by
  rw [e1, List.take_append_of_le_length (by omega), List.take_of_length_le (by omega)]
 have e4 : (zt s cs l).drop (k * s) = zt s cs (l.drop k) := by
  rw [e1, List.drop_append_of_le_length (by omega), List.drop_eq_nil_of_le (by omega)]
  rfl
 rw [e3, e4]
 simp [zt, List.flatMap_append]
end Go.Proofs.YtjlpfpigggdemaaGreatDoor
namespace Go.Proofs.YtjlpfpigggdemaaGreatDoor
open Go.RowKit Va Uo Go.Maps Go.Shelf Go.Lib
set_option linter.all false
def od9 (o : Od) : List Value := [.int .i64 o.id, .int .i64 o.p, .int .i64 o.d, .int .i64 o.n, .int .i64 o.f, .int .i64 o.e, .int .i64 o.c, .int .i64 o.s, .bool o.two]
theorem zfv (o : Od) : (List.range 9).map (fun j => jd o j) = od9 o := rfl
theorem ze8 (o : Od) : ∀ v ∈ od9 o, v.oneCell' = true := by
 intro v hv
 simp [od9] at hv
 rcases hv with rfl | rfl | rfl | rfl | rfl | rfl | rfl | rfl | rfl <;> rfl
theorem zf2 {w : World} {base t s n c : Nat} {ad : Option Addr} {xs : List Value} (h : w.ownsRow base t s (.slice ad n c) n xs) : n <= c /\ c <= 9223372036854775807 /\ (ad = none -> n = 0 /\ c = 0) /\ (∀ a, ad = some a -> ∃ g, a = ⟨g, 0, none⟩) := by
 obtain ⟨_, ⟨h1, h2⟩ | ⟨g, cap, cur, h1, _, _, h2, h3, _⟩⟩ := h
 ·cases h1
  exact ⟨by omega, by omega, fun _ => ⟨h2, rfl⟩, fun a ha => (by cases ha)⟩
 ·cases h1
  refine ⟨h2, ?_, (fun h => by cases h), fun a ha => ⟨g, (by cases ha; rfl)⟩⟩
  unfold maxLen at h3
  omega
set_option maxRecDepth 20000 in
set_option maxHeartbeats 16000000 in
theorem iins_end (ad : Option Addr) (c : Nat) (os : List Od) (base vb : Nat) (o : Od) (w : World) (h : w.ownsRow base 38 9 (.slice ad os.length c) os.length (zt 9 jd os)) (hbase : base <= w.heap.size) (hn : os.length <= 100) (hv : PB w vb (od9 o).toArray 38) :
  Calls Tryz.prog 73 #[.slice ad os.length c, .int .i64 os.length, .slice (some ⟨vb, 0, none⟩) 1 1] w fun e w' => ∃ ad' c', e = .returned (.slice ad' (os.length + 1) c') /\ w'.ownsRow base 38 9 (.slice ad' (os.length + 1) c') (os.length + 1) (zt 9 jd os ++ od9 o) /\ w.grownBy w' (Value.slice ad os.length c).ownBlock := by
 obtain ⟨i0, hi0, hy0, hy1, hy2⟩ := info_parts zbi
 have HO := hidden h
 obtain ⟨hcl, hcm, hnil, hsome⟩ := zf2 h
 clear h
 cases ad with
 | none =>
  obtain ⟨h0, rfl⟩ := hnil rfl
  have hos : os = [] := List.eq_nil_of_length_eq_zero h0
  subst hos
  go_enter Tryz.func73, Tryz.ntmps73
  go_wp2_with (at_builtin; refine wpList_append_own _ rfl (.tmp 23) (.tmp 24) 24 rfl base 38 i0 (.agg #[.int .i64 0, .int .i64 0, .int .i64 0, .int .i64 0, .int .i64 0, .int .i64 0, .int .i64 0, .int .i64 0, .bool false]) 9 72 Tryz.underlying24 hi0 hy0 hy1 hy2 rfl (by decide) _ 0 [] rfl HO.out ⟨vb, 0, none⟩ 1 1 (od9 o) rfl rfl (fun j u hu => by rw [Addr.add_lit, Nat.zero_add, hv.cell]; simpa using hu) (ze8 o) (by unfold maxLen; omega) (by omega) hbase ?_; intro v5 w5 ho5 hg5 hn5; obtain ⟨ad5, c5, rfl⟩ := Cp.zac ho5)
  go_ret
  exact ⟨_, _, rfl, ho5, hg5⟩
 | some a =>
  obtain ⟨g, rfl⟩ := hsome a rfl
  by_cases hc : c = os.length
  all_goals
   go_enter Tryz.func73, Tryz.ntmps73
   go_wp2_with (at_builtin; refine wpList_append_own _ rfl (.tmp 23) (.tmp 24) 24 rfl base 38 i0 (.agg #[.int .i64 0, .int .i64 0, .int .i64 0, .int .i64 0, .int .i64 0, .int .i64 0, .int .i64 0, .int .i64 0, .bool false]) 9 72 Tryz.underlying24 hi0 hy0 hy1 hy2 rfl (by decide) _ os.length (zt 9 jd os) rfl (by first | exact HO.out | (rw [<- hc]; exact HO.out)) ⟨vb, 0, none⟩ 1 1 (od9 o) rfl rfl (fun j u hu => by rw [Addr.add_lit, Nat.zero_add, hv.cell]; simpa using hu) (ze8 o) (by unfold maxLen; omega) (by omega) hbase ?_; intro v5 w5 ho5 hg5 hn5; obtain ⟨ad5, c5, rfl⟩ := Cp.zac ho5)
   go_ret
   exact ⟨_, _, rfl, ho5, hg5⟩
set_option maxRecDepth 20000 in
set_option maxHeartbeats 16000000 in
theorem zkl (g c k : Nat) (os : List Od) (base vb : Nat) (o : Od) (w : World) (h : w.ownsRow base 38 9 (.slice (some ⟨g, 0, none⟩) os.length c) os.length (zt 9 jd os)) (hn : os.length <= 100) (hk : k < os.length) (hc : os.length + 1 <= c) (hv : PB w vb (od9 o).toArray 38) (hvb : vb ≠ g) :
  Calls Tryz.prog 73 #[.slice (some ⟨g, 0, none⟩) os.length c, .int .i64 k, .slice (some ⟨vb, 0, none⟩) 1 1] w fun e w' => ∃ ad' c', e = .returned (.slice ad' (os.length + 1) c') /\ w'.ownsRow base 38 9 (.slice ad' (os.length + 1) c') (os.length + 1) (zt 9 jd (os.take k ++ o :: os.drop k)) /\ w.grownBy w' (Value.slice (some ⟨g, 0, none⟩) os.length c).ownBlock := by
 obtain ⟨i0, hi0, hy0, hy1, hy2⟩ := info_parts zbi
 obtain ⟨hxl, hrow⟩ := h
 obtain ⟨cur, hb0, hg0, hcc, hcm, hcs, hct⟩ : ∃ cur, base <= g /\ w.heap[g]? = some (.cells cur 38 (0, 0)) /\ os.length <= c /\ c <= maxLen /\ cur.size = c * 9 /\ cur.toList.take (os.length * 9) = zt 9 jd os := by
  rcases hrow with ⟨h1, _⟩ | ⟨g', cap, cur, h1, h2, h3, h4, h5, h6, h7⟩
  ·cases h1
  ·cases h1; exact ⟨cur, h2, h3, h4, h5, h6, h7⟩
 clear hrow
 have hcm' : c <= 9223372036854775807 := by unfold maxLen at hcm; omega
 have hcut := zf7 (s := 9) (cs := jd) os k (by omega) o
 rw [zfv] at hcut
 have hone := Cp.cells_one (s := 9) Cp.zcs os
 generalize zt 9 jd os = xs at *
 rw [hcut]
 have hsz : (Tryz.prog.info? 38).map (·.size) = some 9 := by rw [hi0]; simp [hy1]
 have hlen : cur.toList.length = c * 9 := by rw [Array.length_toList, hcs]
 have hv9 : (od9 o).length = 9 := rfl
 have HI := hidden (ins_room (cur := cur.toList) (xs := xs) (vs := od9 o) (a := k) (n := os.length) (s := 9) (c := c) hv9 hxl (by omega) (by rw [hlen]; omega) hct)
 have hcell : ∀ j v, xs[j]? = some v -> w.cell? ⟨g, j, none⟩ = some v := fun j v hj => by
  have hjl := (List.getElem?_eq_some_iff.1 hj).1
  simp only [World.cell?, hg0]
  rw [<- hct, List.getElem?_take_of_lt (by omega)] at hj
  simpa using hj
 have hdl : (xs.drop (k * 9)).length = (os.length - k) * 9 := by rw [List.length_drop, hxl]; omega
 have hcpA : ∀ (W : World), (∀ x, W.cell? x = w.cell? x) -> W.heap[g]? = some (.cells cur 38 (0, 0)) -> ∀ ty dc sc, (Builtin.copy_ #[24, 24] ty #[.slice (some ⟨g, (k + 1) * 9, none⟩) (os.length - k) dc, .slice (some ⟨g, k * 9, none⟩) (os.length + 1 - k) sc]).run Tryz.prog W = .ok (goInt ((os.length - k : Nat) : Int)) (W.setRow g (cur.toList.take ((k + 1) * 9) ++ xs.drop (k * 9) ++ cur.toList.drop ((k + 1) * 9 + (xs.drop (k * 9)).length)).toArray) := fun W hWc hWg ty dc sc =>
  ze0 W _ _ ty 38 9 g ((k + 1) * 9) (os.length - k) dc g (k * 9) (os.length + 1 - k) sc (os.length - k) cur 38 (xs.drop (k * 9)) Tryz.underlying24 hsz hWg (by simp only [Nat.min_def]; split <;> omega) hdl (by rw [hdl, hcs]; omega)
   (fun j v hj => by rw [hWc]; exact hcell _ v (by rwa [List.getElem?_drop] at hj)) (fun v hvm => hone v (List.mem_of_mem_drop hvm))
 generalize hC1 : cur.toList.take ((k + 1) * 9) ++ xs.drop (k * 9) ++ cur.toList.drop ((k + 1) * 9 + (xs.drop (k * 9)).length) = C1 at *
 have hov : ∀ lb cb, (callFunc 90 #[.slice (some ⟨vb, 0, none⟩) 1 1, .slice (some ⟨g, (k + 1) * 9, none⟩) lb cb]).run Tryz.prog w = .ok (.value (.bool false)) w := fun lb cb => by
  rw [run_callFunc_extern Tryz.func90 (by kernel_rfl) (by kernel_rfl) (by kernel_rfl) (e := Extern.SlicesOverlaps.overlaps #[24, 24] #[4]) (by kernel_rfl),
   Lib.run_overlaps_apart w 24 4 38 Tryz.underlying24 9 (fun w => by kernel_rfl) ⟨vb, 0, none⟩ ⟨g, (k + 1) * 9, none⟩ 1 1 lb cb hvb 38 38 9 cur.size (by have hq : w.heap[vb]? = some (.cells (od9 o).toArray 38) := hv; simp [World.shape?, hq, od9]) (by simp [World.shape?, hg0]) (by omega) (hv.frozen 0) (hv.frozen 9)]
  rfl
 have hC1l : C1.length = cur.toList.length := by
  have := HI.out.1
  rw [show k * 9 + 9 = (k + 1) * 9 by omega, hC1] at this
  exact this
 have hcpB : ∀ (W : World), W.heap[g]? = some (.cells C1.toArray 38 (0, 0)) -> W.heap[vb]? = w.heap[vb]? -> ∀ ty dc, (Builtin.copy_ #[24, 24] ty #[.slice (some ⟨g, k * 9, none⟩) (os.length + 1 - k) dc, .slice (some ⟨vb, 0, none⟩) 1 1]).run Tryz.prog W = .ok (goInt ((1 : Nat) : Int)) (W.setRow g (C1.toArray.toList.take (k * 9) ++ od9 o ++ C1.toArray.toList.drop (k * 9 + (od9 o).length)).toArray) := fun W hWg hWv ty dc =>
  ze0 W _ _ ty 38 9 g (k * 9) (os.length + 1 - k) dc vb 0 1 1 1 C1.toArray 38 (od9 o) Tryz.underlying24 hsz hWg (by simp only [Nat.min_def]; split <;> omega) rfl (by rw [List.size_toArray, hC1l, hlen, hv9]; omega)
   (fun j v hj => by
    have hq : PB W vb (od9 o).toArray 38 := hWv.trans hv
    rw [Nat.zero_add, hq.cell]
    simpa using hj) (ze8 o)
 have mixed : Tryz.prog.follows .mixedOrders = true := by kernel_rfl
 have hw1 : IntKind.i64.wrap ((k : Int) + 1) = (k : Int) + 1 := by rw [IntKind.wrap_i64]; omega
 have hb1 : (0 : Int) <= (k : Int) + 1 := by omega
 have htn : ((k : Int) + 1).toNat = k + 1 := by omega
 have hin : k <= os.length := by omega
 have hb2 : ¬ (c = k + 1) := by omega
 have hb3 : (k : Int) <= (os.length : Int) + 1 := by omega
 have hb4 : ¬ (c = k) := by omega
 have hz2 : ((k : Int) == (os.length : Int)) = false := by simp; omega
 have hz3 : ¬ (c : Int) < (os.length : Int) + 1 := by omega
 go_enter Tryz.func73, Tryz.ntmps73
 go_wp2_with (simp only [hov])
 have r1 := hcpA w.drew (fun _ => rfl) hg0 3 (c - (k + 1)) (c - k)
 have r2 := hcpB (w.drew.setRow g C1.toArray) (setRow_heap _ _ _ _ _ _ hg0) (setRow_other _ _ _ _ hvb) 3 (c - k)
 have r3 := hcpB (w.setRow g C1.toArray).drew (setRow_heap _ _ _ _ _ _ hg0) (setRow_other _ _ _ _ hvb) 3 (c - k)
 go_region
 go_wp2_with fail
 go_ret
 refine ⟨_, _, rfl, ⟨?_, .inr ⟨g, c, _, rfl, hb0, setRow_heap _ _ _ _ _ _ (setRow_heap _ _ _ _ _ _ hg0), hc, hcm, ?_, ?_⟩⟩, ?_⟩
 ·simp only [List.length_append, List.length_take, List.length_drop, hxl, hv9]
  omega
 ·have := HI.out.2.1
  rw [show k * 9 + 9 = (k + 1) * 9 by omega, hC1] at this
  rw [List.size_toArray]
  rw [List.append_assoc] at this
  exact this.trans hlen
 ·have := HI.out.2.2
  rw [show k * 9 + 9 = (k + 1) * 9 by omega, hC1, List.append_assoc (C1.take (k * 9))] at this
  exact this
 ·exact ⟨rfl, rfl, rfl, by rw [setRow_size, setRow_size]; exact Nat.le_refl _, fun j hj hne => by
   have hne2 : j ≠ g := fun e => hne (by rw [e]; rfl)
   rw [setRow_other _ _ _ _ hne2, setRow_other _ _ _ _ hne2]
   rfl⟩
set_option maxRecDepth 20000 in
set_option maxHeartbeats 16000000 in
theorem zkk (g c k : Nat) (os : List Od) (base vb : Nat) (o : Od) (w : World) (h : w.ownsRow base 38 9 (.slice (some ⟨g, 0, none⟩) os.length c) os.length (zt 9 jd os)) (hbase : base <= w.heap.size) (hn : os.length <= 100) (hk : k < os.length) (hc : c < os.length + 1) (hv : PB w vb (od9 o).toArray 38) (hvb : vb ≠ g) :
  Calls Tryz.prog 73 #[.slice (some ⟨g, 0, none⟩) os.length c, .int .i64 k, .slice (some ⟨vb, 0, none⟩) 1 1] w fun e w' => ∃ ad' c', e = .returned (.slice ad' (os.length + 1) c') /\ w'.ownsRow base 38 9 (.slice ad' (os.length + 1) c') (os.length + 1) (zt 9 jd (os.take k ++ o :: os.drop k)) /\ w.grownBy w' (Value.slice (some ⟨g, 0, none⟩) os.length c).ownBlock := by
 obtain ⟨i0, hi0, hy0, hy1, hy2⟩ := info_parts zbi
 obtain ⟨hxl, hrow⟩ := h
 obtain ⟨cur, hb0, hg0, hcc, hcm, hcs, hct⟩ : ∃ cur, base <= g /\ w.heap[g]? = some (.cells cur 38 (0, 0)) /\ os.length <= c /\ c <= maxLen /\ cur.size = c * 9 /\ cur.toList.take (os.length * 9) = zt 9 jd os := by
  rcases hrow with ⟨h1, _⟩ | ⟨g', cap, cur, h1, h2, h3, h4, h5, h6, h7⟩
  ·cases h1
  ·cases h1; exact ⟨cur, h2, h3, h4, h5, h6, h7⟩
 clear hrow
 have hgl : g < w.heap.size := (Array.getElem?_eq_some_iff.1 hg0).1
 have hvl : vb < w.heap.size := hv.lt
 have hcut := zf7 (s := 9) (cs := jd) os k (by omega) o
 rw [zfv] at hcut
 have hone := Cp.cells_one (s := 9) Cp.zcs os
 generalize zt 9 jd os = xs at *
 rw [hcut]
 have hsz : (Tryz.prog.info? 38).map (·.size) = some 9 := by rw [hi0]; simp [hy1]
 have hv9 : (od9 o).length = 9 := rfl
 have hcell : ∀ j v, xs[j]? = some v -> w.cell? ⟨g, j, none⟩ = some v := fun j v hj => by
  have hjl := (List.getElem?_eq_some_iff.1 hj).1
  simp only [World.cell?, hg0]
  rw [<- hct, List.getElem?_take_of_lt (by omega)] at hj
  simpa using hj
 have hdl : (xs.drop (k * 9)).length = (os.length - k) * 9 := by rw [List.length_drop, hxl]; omega
 have hold : (Builtin.firstCells i0.size k (.slice (some ⟨g, 0, none⟩) k c)).run Tryz.prog w.drew = .ok (xs.take (k * 9)).toArray w.drew := by
  rw [hy1]
  exact run_firstCells_some w.drew 9 k ⟨g, 0, none⟩ k c (xs.take (k * 9)) (by rw [List.length_take, hxl]; omega) (fun j v hj => by
   rw [Addr.add_lit, Nat.zero_add]
   rw [List.getElem?_take] at hj
   split at hj
   ·exact hcell j v hj
   ·cases hj)
 have hik : k + (os.length + 1 - k) = os.length + 1 := by omega
 have hkk : (os.length : Int) + 1 - (k : Int) = ((os.length + 1 - k : Nat) : Int) := by omega
 have hrz : ∀ ty, (Builtin.append_ #[24, 3] ty #[.slice (some ⟨g, 0, none⟩) k c, .int .i64 ((os.length : Int) + 1 - (k : Int))]).run Tryz.prog w =
   .ok (.slice (some ⟨w.heap.size, 0, none⟩) (os.length + 1) (grownCap w (os.length + 1) c 38)) (w.drew.alloc (.cells ((xs.take (k * 9)).toArray ++ Builtin.zeroCells (Value.cells (.agg #[.int .i64 0, .int .i64 0, .int .i64 0, .int .i64 0, .int .i64 0, .int .i64 0, .int .i64 0, .int .i64 0, .bool false])) (os.length + 1 - k) ++ Builtin.zeroCells (Value.cells (.agg #[.int .i64 0, .int .i64 0, .int .i64 0, .int .i64 0, .int .i64 0, .int .i64 0, .int .i64 0, .int .i64 0, .bool false])) (grownCap w (os.length + 1) c 38 - (os.length + 1))) 38)) := fun ty => by
  have h := Lib.run_append_grow_zeros w 24 3 ty 38 i0 _ .i64 .i64 Tryz.underlying24 Tryz.underlying3 hi0 hy0 (some ⟨g, 0, none⟩) k c (xs.take (k * 9)) hold (os.length + 1 - k) (by omega) (by omega) (by omega) (by omega) (by rw [hy2]; omega) (by rw [hy2, hik]; exact growslice_fits hc (by omega))
  rw [hik] at h
  rw [hkk]
  exact h
 have hGn : os.length + 1 <= grownCap w (os.length + 1) c 38 := grownCap_ge w _ _ _
 have hG63 : grownCap w (os.length + 1) c 38 <= maxLen := grownCap_le_maxLen w (os.length + 1) c 38 (by unfold maxLen; omega)
 generalize grownCap w (os.length + 1) c 38 = G at *
 have hz1 : ((Builtin.zeroCells (Value.cells (.agg #[.int .i64 0, .int .i64 0, .int .i64 0, .int .i64 0, .int .i64 0, .int .i64 0, .int .i64 0, .int .i64 0, .bool false])) (os.length + 1 - k)).toList).length = (os.length + 1) * 9 - k * 9 := by
  simp [Builtin.zeroCells, Value.cells]
  omega
 have hz2l : ((Builtin.zeroCells (Value.cells (.agg #[.int .i64 0, .int .i64 0, .int .i64 0, .int .i64 0, .int .i64 0, .int .i64 0, .int .i64 0, .int .i64 0, .bool false])) (G - (os.length + 1))).toList).length = (G - (os.length + 1)) * 9 := by
  simp [Builtin.zeroCells, Value.cells]
 generalize hZ1 : Builtin.zeroCells (Value.cells (.agg #[.int .i64 0, .int .i64 0, .int .i64 0, .int .i64 0, .int .i64 0, .int .i64 0, .int .i64 0, .int .i64 0, .bool false])) (os.length + 1 - k) = Z1 at *
 generalize hZ2 : Builtin.zeroCells (Value.cells (.agg #[.int .i64 0, .int .i64 0, .int .i64 0, .int .i64 0, .int .i64 0, .int .i64 0, .int .i64 0, .int .i64 0, .bool false])) (G - (os.length + 1)) = Z2 at *
 have HI := hidden (ins_grow (z1 := Z1.toList) (z2 := Z2.toList) (xs := xs) (vs := od9 o) (a := k) (n := os.length) (s := 9) hv9 hxl (by omega) hz1)
 have hC0 : ((xs.take (k * 9)).toArray ++ Z1 ++ Z2) = (xs.take (k * 9) ++ Z1.toList ++ Z2.toList).toArray := by simp
 rw [hC0] at hrz
 generalize xs.take (k * 9) ++ Z1.toList ++ Z2.toList = C0 at *
 obtain ⟨l0, l1, l2, hfin⟩ := HI.out
 clear hold hC0
 have hG62 : G <= 9223372036854775807 := by unfold maxLen at hG63; omega
 have hgN : g ≠ w.heap.size := by omega
 have hvN : vb ≠ w.heap.size := by omega
 generalize hC1 : C0.take (k * 9) ++ od9 o ++ C0.drop (k * 9 + (od9 o).length) = C1 at *
 generalize hC2 : C1.take (k * 9 + 9) ++ xs.drop (k * 9) ++ C1.drop (k * 9 + 9 + (xs.drop (k * 9)).length) = C2 at *
 have hN0 : (w.drew.alloc (.cells C0.toArray 38)).heap[w.heap.size]? = some (.cells C0.toArray 38 (0, 0)) := heap_alloc_new w.drew _
 have hcpA : ∀ (W : World), W.heap[w.heap.size]? = some (.cells C0.toArray 38 (0, 0)) -> W.heap[vb]? = w.heap[vb]? -> ∀ ty dc, (Builtin.copy_ #[24, 24] ty #[.slice (some ⟨w.heap.size, k * 9, none⟩) (os.length + 1 - k) dc, .slice (some ⟨vb, 0, none⟩) 1 1]).run Tryz.prog W = .ok (goInt ((1 : Nat) : Int)) (W.setRow w.heap.size C1.toArray) := fun W hWg hWv ty dc => by
  have := ze0 W 24 24 ty 38 9 w.heap.size (k * 9) (os.length + 1 - k) dc vb 0 1 1 1 C0.toArray 38 (od9 o) Tryz.underlying24 hsz hWg (by simp only [Nat.min_def]; split <;> omega) rfl (by rw [List.size_toArray, l0, hv9]; omega)
   (fun j v hj => by
    have hq : PB W vb (od9 o).toArray 38 := hWv.trans hv
    rw [Nat.zero_add, hq.cell]
    simpa using hj) (ze8 o)
  rw [this]
  rw [<- hC1]
 have hcpB : ∀ (W : World), W.heap[w.heap.size]? = some (.cells C1.toArray 38 (0, 0)) -> W.heap[g]? = w.heap[g]? -> ∀ ty dc sc, (Builtin.copy_ #[24, 24] ty #[.slice (some ⟨w.heap.size, (k + 1) * 9, none⟩) (os.length - k) dc, .slice (some ⟨g, k * 9, none⟩) (os.length - k) sc]).run Tryz.prog W = .ok (goInt ((os.length - k : Nat) : Int)) (W.setRow w.heap.size C2.toArray) := fun W hWg hWv ty dc sc => by
  have := ze0 W 24 24 ty 38 9 w.heap.size (k * 9 + 9) (os.length - k) dc g (k * 9) (os.length - k) sc (os.length - k) C1.toArray 38 (xs.drop (k * 9)) Tryz.underlying24 hsz hWg (by simp only [Nat.min_def]; split <;> omega) hdl (by rw [List.size_toArray, l1, l0, hdl]; omega)
   (fun j v hj => by
    rw [World.cell?_of_block (w := w) hWv]
    exact hcell _ v (by rwa [List.getElem?_drop] at hj)) (fun v hvm => hone v (List.mem_of_mem_drop hvm))
  rw [show (k + 1) * 9 = k * 9 + 9 by omega, this, <- hC2]
 have mixed : Tryz.prog.follows .mixedOrders = true := by kernel_rfl
 have hw1 : IntKind.i64.wrap ((k : Int) + 1) = (k : Int) + 1 := by rw [IntKind.wrap_i64]; omega
 have hb1 : (0 : Int) <= (k : Int) + 1 := by omega
 have htn : ((k : Int) + 1).toNat = k + 1 := by omega
 have hin : k <= os.length := by omega
 have hci : ¬ (c = k) := by omega
 have hGi : ¬ (G = k) := by omega
 have hGim : ¬ (G = k + 1) := by omega
 have hb3 : (k : Int) <= (os.length : Int) := by omega
 have hzz2 : ((k : Int) == (os.length : Int)) = false := by simp; omega
 have hzz3 : (c : Int) < (os.length : Int) + 1 := by omega
 clear hkk hik
 have r1 := hcpA (w.alloc (.cells C0.toArray 38)).drew hN0 (Below.heap_alloc w _ vb hvl) 3 (G - k)
 go_enter Tryz.func73, Tryz.ntmps73
 go_wp2_with (first
  | (at_builtin; refine Lib.wpList_append_run _ rfl _ _ _ _ rfl _ _ rfl rfl _ _ (hrz _) ?_)
  | fail)
 have r2 := hcpB ((w.alloc (.cells C0.toArray 38)).drew.setRow w.heap.size C1.toArray).drew (setRow_heap _ _ _ _ _ _ hN0) ((setRow_other _ _ _ _ hgN).trans (Below.heap_alloc w _ g hgl)) 3 (G - (k + 1)) (c - k)
 go_region
 go_wp2_with fail
 go_ret
 refine ⟨_, _, rfl, ⟨?_, .inr ⟨w.heap.size, G, _, rfl, hbase, setRow_heap _ _ _ _ _ _ (setRow_heap _ _ _ _ _ _ hN0), hGn, hG63, ?_, ?_⟩⟩, ?_⟩
 ·simp only [List.length_append, List.length_take, List.length_drop, hxl, hv9]
  omega
 ·rw [List.size_toArray, l2, l0, hz2l]
  omega
 ·exact hfin
 ·refine ⟨rfl, rfl, rfl, ?_, fun j hj hne => ?_⟩
  ·show w.heap.size <= (((w.alloc (.cells C0.toArray 38)).drew.setRow w.heap.size C1.toArray).setRow w.heap.size C2.toArray).heap.size
   rw [setRow_size, setRow_size]
   simp
  ·have hne2 : j ≠ w.heap.size := by omega
   show (((w.alloc (.cells C0.toArray 38)).drew.setRow w.heap.size C1.toArray).setRow w.heap.size C2.toArray).heap[j]? = _
   rw [setRow_other _ _ _ _ hne2, setRow_other _ _ _ _ hne2]
   exact Below.heap_alloc w _ j hj
end Go.Proofs.YtjlpfpigggdemaaGreatDoor
