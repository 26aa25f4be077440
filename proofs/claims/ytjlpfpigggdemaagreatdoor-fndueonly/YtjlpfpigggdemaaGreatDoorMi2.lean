/-
 Merged: Rv Ua Ui Up U1 Gx Gy U5.
-/
import Derived.Test.YtjlpfpigggdemaaGreatDoorMi1
import Derived.Deep.RegionWith
import Derived.WideShapes
import Derived.ProofKit
import Derived.OpenShut
import Derived.ShutString
import Derived.ChangeOld
import Derived.Below
namespace Go.Proofs.YtjlpfpigggdemaaGreatDoor
set_option maxRecDepth 8000
set_option maxHeartbeats 4000000
open Go.RowKit
set_option linter.all false
section
variable {α : Type} (s : Nat) (cs : α -> Nat -> Value)
def VRw (w : World) (v : Value) (l : List α) : Prop :=
 ∃ ao cap, v = .slice ao l.length cap /\ l.length <= cap /\ (l.length = 0 ∨ ∃ b off, ao = some ⟨b, off, none⟩ /\ b < w.heap.size /\ ∀ i x, l[i]? = some x -> ∀ k, k < s -> w.cell? ⟨b, off + i * s + k, none⟩ = some (cs x k))
def zak (w : World) (G n : Nat) (l : List α) (i : Nat) : Prop :=
 G < w.heap.size /\ (∀ j, j < n * s -> (∃ u, w.cell? ⟨G, j, none⟩ = some u) /\ w.frozen? ⟨G, j, none⟩ = false) /\
  ∀ j x, j < i -> l[j]? = some x -> ∀ k, k < s -> w.cell? ⟨G, j * s + k, none⟩ = some (cs x k)
def vz (w : World) (base : Nat) (v : Value) (l : List α) : Prop :=
 ∃ ao cap, v = .slice ao l.length cap /\ l.length <= cap /\ (l.length = 0 ∨ ∃ G, ao = some ⟨G, 0, none⟩ /\ base <= G /\ zak s cs w G l.length l l.length)
def zt (l : List α) : List Value := l.flatMap (fun x => (List.range s).map (fun k => cs x k))
end
section
variable {α : Type} {s : Nat} {cs : α -> Nat -> Value}
theorem VRw.below {w w' : World} {v : Value} {l : List α} (h : VRw s cs w v l) (hb : Below w.heap.size w w') : VRw s cs w' v l := by
 obtain ⟨ao, cap, rfl, hlc, h2⟩ := h
 refine ⟨ao, cap, rfl, hlc, ?_⟩
 rcases h2 with h2 | ⟨b, off, h3, h4, h5⟩
 ·exact Or.inl h2
 ·exact Or.inr ⟨b, off, h3, Nat.lt_of_lt_of_le h4 hb.size, fun i x hx k hk => (hb.cell (p := ⟨b, off + i * s + k, none⟩) h4).trans (h5 i x hx k hk)⟩
theorem VRw.at {w : World} {ao : Option Addr} {cap : Nat} {n : Nat} {l : List α} (h : VRw s cs w (.slice ao n cap) l) {i : Nat} {x : α} (hx : l[i]? = some x) :
  ∃ b off, ao = some ⟨b, off, none⟩ /\ b < w.heap.size /\ ∀ k, k < s -> w.cell? ⟨b, off + i * s + k, none⟩ = some (cs x k) := by
 obtain ⟨ao', cap', he, _, h2⟩ := h
 obtain ⟨rfl, rfl, rfl⟩ : ao = ao' /\ n = l.length /\ cap = cap' := by simpa using he
 have := zed hx
 rcases h2 with h2 | ⟨b, off, h3, h4, h5⟩
 ·omega
 ·exact ⟨b, off, h3, h4, fun k hk => h5 i x hx k hk⟩
theorem VRw.form {w : World} {v : Value} {l : List α} (h : VRw s cs w v l) : ∃ ao cap, v = .slice ao l.length cap := by
 obtain ⟨ao, cap, rfl, _, _⟩ := h; exact ⟨ao, cap, rfl⟩
theorem VRw.len {w : World} {ao : Option Addr} {n cap : Nat} {l : List α} (h : VRw s cs w (.slice ao n cap) l) : n = l.length := by
 obtain ⟨ao', cap', he, _, _⟩ := h; simp at he; omega
theorem VRw.cap {w : World} {ao : Option Addr} {n cap : Nat} {l : List α} (h : VRw s cs w (.slice ao n cap) l) : l.length <= cap := by
 obtain ⟨ao', cap', he, hc, _⟩ := h; simp at he; omega
theorem VRw.nil (w : World) (ao : Option Addr) (cap : Nat) : VRw s cs w (.slice ao 0 cap) [] := ⟨ao, cap, rfl, Nat.zero_le _, Or.inl rfl⟩
theorem VRw.take {w : World} {ao : Option Addr} {n cap : Nat} {l : List α} (h : VRw s cs w (.slice ao n cap) l) (i c : Nat) (hi : i <= l.length) (hc : i <= c) : VRw s cs w (.slice ao i c) (l.take i) := by
 obtain ⟨ao', cap', he, _, h2⟩ := h
 obtain ⟨rfl, rfl, rfl⟩ : ao = ao' /\ n = l.length /\ cap = cap' := by simpa using he
 have hlen : (l.take i).length = i := by rw [List.length_take]; omega
 refine ⟨ao, c, by rw [hlen], by rw [hlen]; exact hc, ?_⟩
 rcases h2 with h2 | ⟨b, off, h3, h4, h5⟩
 ·exact Or.inl (by omega)
 ·refine Or.inr ⟨b, off, h3, h4, fun j x hx k hk => h5 j x ?_ k hk⟩
  rw [List.getElem?_take] at hx
  split at hx
  ·exact hx
  ·cases hx
theorem zak.below {w w' : World} {G n i : Nat} {l : List α} (h : zak s cs w G n l i) (hb : Below w.heap.size w w') : zak s cs w' G n l i :=
 ⟨Nat.lt_of_lt_of_le h.1 hb.size, fun j hj => ⟨by
   obtain ⟨u, hu⟩ := (h.2.1 j hj).1
   exact ⟨u, (hb.cell (p := ⟨G, j, none⟩) h.1).trans hu⟩, (hb.frozen (p := ⟨G, j, none⟩) h.1).trans (h.2.1 j hj).2⟩,
  fun j x hj hx k hk => (hb.cell (p := ⟨G, j * s + k, none⟩) h.1).trans (h.2.2 j x hj hx k hk)⟩
theorem zak.set {w : World} {G n i : Nat} {l : List α} {x : α} (h : zak s cs w G n l i) (hi : i < n) (hx : l[i]? = some x) (vs : List Value) (hv : vs.length = s) (hvs : ∀ k, k < s -> vs[k]? = some (cs x k)) :
  zak s cs (put w G (i * s) vs) G n l (i + 1) := by
 obtain ⟨h1, h2, h3⟩ := h
 have hle : i * s + s <= n * s := by rw [<- Nat.succ_mul]; exact Nat.mul_le_mul_right s hi
 have hnew : ∀ k, k < s -> (put w G (i * s) vs).cell? ⟨G, i * s + k, none⟩ = some (cs x k) := fun k hk =>
  zhz vs w G (i * s) (fun j hj => (h2 (i * s + j) (by omega)).1) k _ (hvs k hk)
 refine ⟨by rw [zie]; exact h1, fun j hj => ⟨?_, by rw [zg2]; exact (h2 j hj).2⟩, fun j y hj hy k hk => ?_⟩
 ·by_cases a : i * s <= j /\ j < i * s + s
  ·have := hnew (j - i * s) (by omega)
   rw [show i * s + (j - i * s) = j by omega] at this
   exact ⟨_, this⟩
  ·rw [zex _ _ _ _ _ (by omega)]; exact (h2 j hj).1
 ·by_cases a : j = i
  ·subst a; rw [hx] at hy; cases hy; exact hnew k hk
  ·have hlt : j * s + s <= i * s := by rw [<- Nat.succ_mul]; exact Nat.mul_le_mul_right s (by omega)
   rw [zex _ _ _ _ _ (by omega)]
   exact h3 j y (by omega) hy k hk
theorem zak.old {w : World} {G n i : Nat} {l : List α} (h : zak s cs w G n l i) {j : Nat} (hj : j < n) {k : Nat} (hk : k < s) : (∃ u, w.cell? ⟨G, j * s + k, none⟩ = some u) /\ w.frozen? ⟨G, j * s + k, none⟩ = false := by
 have hle : j * s + s <= n * s := by rw [<- Nat.succ_mul]; exact Nat.mul_le_mul_right s hj
 exact h.2.1 (j * s + k) (by omega)
theorem zak.row {w : World} {G : Nat} {l : List α} (h : zak s cs w G l.length l l.length) (c : Nat) (hc : l.length <= c) : VRw s cs w (.slice (some ⟨G, 0, none⟩) l.length c) l :=
 ⟨_, c, rfl, hc, Or.inr ⟨G, 0, rfl, h.1, fun i x hx k hk => by rw [Nat.zero_add]; exact h.2.2 i x (zed hx) hx k hk⟩⟩
theorem zak.own {w : World} {G base : Nat} {l : List α} (h : zak s cs w G l.length l l.length) (hG : base <= G) (c : Nat) (hc : l.length <= c) : vz s cs w base (.slice (some ⟨G, 0, none⟩) l.length c) l :=
 ⟨_, c, rfl, hc, Or.inr ⟨G, rfl, hG, h⟩⟩
theorem vz.row {w : World} {base : Nat} {v : Value} {l : List α} (h : vz s cs w base v l) : VRw s cs w v l := by
 obtain ⟨ao, cap, rfl, hc, h0 | ⟨G, rfl, _, ho⟩⟩ := h
 ·exact ⟨ao, cap, rfl, hc, Or.inl h0⟩
 ·exact ho.row cap hc
theorem vz.below {w w' : World} {base : Nat} {v : Value} {l : List α} (h : vz s cs w base v l) (hb : Below w.heap.size w w') : vz s cs w' base v l := by
 obtain ⟨ao, cap, rfl, hc, h0 | ⟨G, rfl, hG, ho⟩⟩ := h
 ·exact ⟨ao, cap, rfl, hc, Or.inl h0⟩
 ·exact ⟨_, cap, rfl, hc, Or.inr ⟨G, rfl, hG, ho.below hb⟩⟩
theorem vz.zbr {w : World} {base b2 : Nat} {v : Value} {l : List α} (h : vz s cs w base v l) (hb : b2 <= base) : vz s cs w b2 v l := by
 obtain ⟨ao, cap, rfl, hc, h0 | ⟨G, rfl, hG, ho⟩⟩ := h
 ·exact ⟨ao, cap, rfl, hc, Or.inl h0⟩
 ·exact ⟨_, cap, rfl, hc, Or.inr ⟨G, rfl, Nat.le_trans hb hG, ho⟩⟩
theorem vz.nil (w : World) (b : Nat) (ao : Option Addr) (cap : Nat) : vz s cs w b (.slice ao 0 cap) [] := ⟨ao, cap, rfl, Nat.zero_le _, Or.inl rfl⟩
theorem zb9 (l : List α) (x : α) : zt s cs (l ++ [x]) = zt s cs l ++ (List.range s).map (fun k => cs x k) := by simp [zt]
theorem za2 (l : List α) : (zt s cs l).length = l.length * s := by
 unfold zt
 induction l with
 | nil => simp
 | cons x l ih => rw [List.flatMap_cons, List.length_append, ih]; simp [Nat.succ_mul]; omega
theorem jg (l : List α) : ∀ i x, l[i]? = some x -> ∀ k, k < s -> (zt s cs l)[i * s + k]? = some (cs x k) := by
 induction l with
 | nil => intro i x h; cases h
 | cons y l ih =>
  intro i x h k hk
  show ((List.range s).map (fun k => cs y k) ++ zt s cs l)[i * s + k]? = _
  cases i with
  | zero =>
   simp at h
   subst h
   rw [List.getElem?_append_left (by simp; omega)]
   simp [hk]
  | succ i =>
   have e : (i + 1) * s + k = s + (i * s + k) := by rw [Nat.succ_mul]; omega
   rw [e, List.getElem?_append_right (by simp), List.length_map, List.length_range, Nat.add_sub_cancel_left]
   exact ih i x (by simpa using h) k hk
theorem zb4 {w : World} {base g cap n : Nat} {t : TypeId} {l : List α} (hn : n = l.length) (h : w.ownsRow base t s (.slice (some ⟨g, 0, none⟩) n cap) n (zt s cs l)) : base <= g /\ zak s cs w g l.length l l.length := by
 subst hn
 obtain ⟨h1, ⟨h2, _⟩ | ⟨g', cap', cur, h2, hb, hg, hc, _, hs, ht⟩⟩ := h
 ·cases h2
 ·simp only [Value.slice.injEq, Option.some.injEq, Addr.mk.injEq, and_true, true_and] at h2
  obtain ⟨rfl, rfl⟩ := h2
  have hsz : l.length * s <= cur.size := by rw [hs]; exact Nat.mul_le_mul_right s hc
  have hcell : ∀ j, j < l.length * s -> w.cell? ⟨g, j, none⟩ = (zt s cs l)[j]? := fun j hj => by
   rw [<- ht, List.getElem?_take, if_pos hj, Array.getElem?_toList]
   simp only [World.cell?, hg]
   rfl
  refine ⟨hb, (Array.getElem?_eq_some_iff.1 hg).1, fun j hj => ⟨?_, ?_⟩, fun j x _ hx k hk => ?_⟩
  ·rw [hcell j hj, List.getElem?_eq_getElem (by rw [za2]; exact hj)]
   exact ⟨_, rfl⟩
  ·simp only [World.frozen?, hg]
   simp
  ·have hj := zed hx
   have hle : j * s + s <= l.length * s := by rw [<- Nat.succ_mul]; exact Nat.mul_le_mul_right s hj
   rw [hcell _ (by omega)]; exact jg l j x hx k hk
theorem za1 {w : World} {base : Nat} {t : TypeId} {v : Value} {l : List α} {n : Nat} (hn : n = l.length) (h : w.ownsRow base t s v n (zt s cs l)) : vz s cs w base v l := by
 have h0 := h
 obtain ⟨h1, ⟨rfl, h2⟩ | ⟨g, cap, cur, rfl, hb, hg, hc, _, hs, ht⟩⟩ := h
 ·exact ⟨none, 0, by rw [<- hn, h2], by omega, Or.inl (by omega)⟩
 ·obtain ⟨h3, h4⟩ := zb4 hn h0
  exact ⟨_, cap, by rw [hn], by omega, Or.inr ⟨g, rfl, h3, h4⟩⟩
inductive Kd where
 | int
 | bool
 | str
end
end Go.Proofs.YtjlpfpigggdemaaGreatDoor
namespace Go.Proofs.YtjlpfpigggdemaaGreatDoor.Ua
open Va
set_option linter.all false
structure Ln where
 k : Int
 n : Int
 b : Int
 a : Int
end Go.Proofs.YtjlpfpigggdemaaGreatDoor.Ua
namespace Go.Proofs.YtjlpfpigggdemaaGreatDoor
open Go.RowKit Va Ua
set_option linter.all false
theorem info_parts {P : Program} {t : TypeId} {z : Value} {n b : Nat} (h : (P.info? t).map (fun i => (i.zero, i.size, i.bytes)) = some (some z, n, b)) : ∃ i, P.info? t = some i /\ i.zero = some z /\ i.size = n /\ i.bytes = b := by
 obtain ⟨i, h1, h2⟩ := Option.map_eq_some_iff.1 h
 simp only [Prod.mk.injEq] at h2
 exact ⟨i, h1, h2.1, h2.2.1, h2.2.2⟩
theorem zaa {α : Type} (l : List α) (i : Nat) (h : i < l.length) : ∃ x, l[i]? = some x := ⟨_, List.getElem?_eq_getElem h⟩
end Go.Proofs.YtjlpfpigggdemaaGreatDoor
namespace Go.Proofs.YtjlpfpigggdemaaGreatDoor
open Go.RowKit Va Uo
set_option linter.all false
def jd (x : Od) (k : Nat) : Value := match k with | 0 => .int .i64 x.id | 1 => .int .i64 x.p | 2 => .int .i64 x.d | 3 => .int .i64 x.n | 4 => .int .i64 x.f | 5 => .int .i64 x.e | 6 => .int .i64 x.c | 7 => .int .i64 x.s | _ => .bool x.two
def aOd (x : Od) : Value := .agg #[.int .i64 x.id, .int .i64 x.p, .int .i64 x.d, .int .i64 x.n, .int .i64 x.f, .int .i64 x.e, .int .i64 x.c, .int .i64 x.s, .bool x.two]
def jy (x : Ds) (k : Nat) : Value := match k with | 0 => .int .i64 x.o | 1 => .int .i64 x.t | 2 => .int .i64 x.m | 3 => .int .i64 x.b | _ => .int .i64 x.a
def aDs (x : Ds) : Value := .agg #[.int .i64 x.o, .int .i64 x.t, .int .i64 x.m, .int .i64 x.b, .int .i64 x.a]
def jc (x : Du) (k : Nat) : Value := match k with | 0 => .int .i64 x.o | 1 => .int .i64 x.t | _ => .int .i64 x.s
end Go.Proofs.YtjlpfpigggdemaaGreatDoor
namespace Go.Proofs.YtjlpfpigggdemaaGreatDoor.Uo
open Va
set_option linter.all false
def za3 (two : Bool) (b a : Int) : Bool := if two = false then zh b && decide (a = -1) else zh b && (zh a && !decide (b = a))
def je (o : Od) (d : Ds) : Bool := (decide (0 <= d.t) && decide (d.t < o.c)) && (!decide (o.s = 1) && (zl d.m && za3 o.two d.b d.a))
def Ris (os : List Od) : Prop := ∀ (i j : Nat) (x y : Od), i < j -> os[i]? = some x -> os[j]? = some y -> x.id < y.id
def Cut (os : List Od) (id : Int) (k : Nat) : Prop := k <= os.length /\ (∀ (j : Nat) (x : Od), j < k -> os[j]? = some x -> x.id < id) /\ ∀ (j : Nat) (x : Od), k <= j -> os[j]? = some x -> id <= x.id
def qm (os : List Od) (id : Int) (k : Nat) : Bool := decide (k < os.length) && decide ((os.getD k default).id = id)
theorem zcd {os : List Od} (h : ∀ i, i < os.length -> qj os i = true) : Ris os := by
 have step : ∀ i x y, os[i]? = some x -> os[i + 1]? = some y -> x.id < y.id := by
  intro i x y hx hy
  have hl := (List.getElem?_eq_some_iff.1 hy).1
  have := h (i + 1) hl
  simp only [qj, Bool.and_eq_true, Bool.or_eq_true, decide_eq_true_eq, Nat.add_sub_cancel, jm hx, jm hy] at this
  omega
 have : ∀ d i x y, os[i]? = some x -> os[i + 1 + d]? = some y -> x.id < y.id := by
  intro d
  induction d with
  | zero => intro i x y hx hy; exact step i x y hx hy
  | succ d ih =>
   intro i x y hx hy
   have hl := (List.getElem?_eq_some_iff.1 hy).1
   obtain ⟨z, hz⟩ : ∃ z, os[i + 1 + d]? = some z := ⟨_, List.getElem?_eq_getElem (by omega)⟩
   have h1 := ih i x z hx hz
   have h2 := step (i + 1 + d) z y hz hy
   omega
 intro i j x y hij hx hy
 exact this (j - (i + 1)) i x y hx (by rw [show i + 1 + (j - (i + 1)) = j by omega]; exact hy)
theorem zfi {l : List Od} {id : Int} : ∀ n, n <= l.length -> (∀ j x, j < n -> l[j]? = some x -> x.id ≠ id) -> zab l id n = -1
 | 0, _, _ => rfl
 | n + 1, hn, h => by
  have ih := zfi n (by omega) (fun j x hj hx => h j x (by omega) hx)
  obtain ⟨x, hx⟩ : ∃ x, l[n]? = some x := ⟨_, List.getElem?_eq_getElem (by omega)⟩
  exact zh9 hx ih (h n x (by omega) hx)
theorem zbx {os : List Od} {id : Int} {k : Nat} (hr : Ris os) (hc : Cut os id k) (h : qm os id k = true) : atO os id = (k : Int) /\ ∃ o, os[k]? = some o /\ o.id = id := by
 simp only [qm, Bool.and_eq_true, decide_eq_true_eq] at h
 obtain ⟨x, hx⟩ : ∃ x, os[k]? = some x := ⟨_, List.getElem?_eq_getElem h.1⟩
 have hid : x.id = id := by rw [<- h.2, jm hx]
 refine ⟨zgf hx (zfi k (by omega) (fun j y hj hy => ?_)) hid, x, hx, hid⟩
 have := hc.2.1 j y hj hy
 omega
theorem zdz {os : List Od} {id : Int} {k : Nat} (hr : Ris os) (hc : Cut os id k) (h : qm os id k = false) : atO os id = -1 := by
 refine zfi os.length (Nat.le_refl _) (fun j y hj hy he => ?_)
 by_cases q : j < k
 ·have := hc.2.1 j y q hy; omega
 ·have hle := hc.2.2 j y (by omega) hy
  by_cases e : j = k
  ·subst e
   rw [qm, jm hy, decide_eq_true hj, decide_eq_true he] at h
   cases h
  ·obtain ⟨z, hz⟩ : ∃ z, os[k]? = some z := ⟨_, List.getElem?_eq_getElem (by omega)⟩
   have h1 := hr k j z y (by omega) hz hy
   have h2 := hc.2.2 k z (Nat.le_refl _) hz
   omega
set_option maxRecDepth 20000 in
set_option maxHeartbeats 16000000 in
theorem zgb {os : List Od} {ds : List Ds} {i k : Nat} {d : Ds} {o : Od} (hd : ds[i]? = some d) (hk : atO os d.o = (k : Int)) (ho : os[k]? = some o) : yj os ds i = (je o d && (decide (i = 0) || decide ((ds.getD (i - 1) default).m <= d.m))) := by
 unfold yj
 simp only
 rw [zbj hd, hk, show ((k : Int).toNat) = k from rfl, jm ho]
 have e0 : decide ((0 : Int) <= (k : Int)) = true := by simp
 rw [e0]
 generalize (decide (i = 0) || decide ((ds.getD (i - 1) default).m <= d.m)) = z
 unfold je za3 byB
 have er : rng d.t 0 (o.c - 1) = (decide (0 <= d.t) && decide (d.t < o.c)) := by
  unfold rng
  congr 1
  by_cases h : d.t < o.c
  ·rw [decide_eq_true h, decide_eq_true (by omega)]
  ·rw [decide_eq_false h, decide_eq_false (by omega)]
 have es : decide (¬ o.s = 1) = !decide (o.s = 1) := by by_cases h : o.s = 1 <;> simp [h]
 rw [er, es]
 have hp : zh (-1) = false := by decide
 cases o.two with
 | false =>
  by_cases ha : d.a = -1
  ·rw [ha]
   simp only [decide_true, if_true, Bool.true_and, Bool.and_true, Bool.true_or]
   cases (decide (0 <= d.t) && decide (d.t < o.c)) <;> cases decide (o.s = 1) <;> cases zl d.m <;> cases zh d.b <;> cases z <;> rfl
  ·simp only [ha, decide_false, if_true, Bool.true_and, Bool.and_false, Bool.false_or, Bool.false_and]
 | true =>
  simp only [Bool.true_eq_false, if_false, Bool.true_and]
  by_cases ha : d.a = -1
  ·rw [ha, hp]
   simp only [not_true, decide_false, Bool.false_and, Bool.and_false]
  ·by_cases hb : d.a = d.b
   ·rw [hb]
    simp only [not_true, decide_false, decide_true, Bool.not_true, Bool.and_false, Bool.false_and]
   ·have hb' : ¬ d.b = d.a := fun e => hb e.symm
    simp only [ha, hb, hb', not_false_eq_true, decide_true, decide_false, Bool.false_or, Bool.not_false, Bool.and_true, Bool.true_and]
    cases (decide (0 <= d.t) && decide (d.t < o.c)) <;> cases decide (o.s = 1) <;> cases zl d.m <;> cases zh d.b <;> cases zh d.a <;> cases z <;> rfl
def apartB (ds : List Ds) : Bool := (List.range ds.length).all fun i => (List.range i).all fun j => !za6 ds i j
theorem chart_eq (os : List Od) (ds : List Ds) : ji os ds = (decide (os.length <= 100 /\ ds.length <= 500) && ((List.range os.length).all (qj os) && ((List.range ds.length).all (yj os ds) && apartB ds))) := by
 unfold ji apartB
 congr 2
 rw [Bool.eq_iff_iff]
 simp only [okD, Bool.and_eq_true, List.all_eq_true, List.mem_range]
 constructor
 ·intro h; exact ⟨fun i hi => (h i hi).1, fun i hi => (h i hi).2⟩
 ·intro h i hi; exact ⟨h.1 i hi, h.2 i hi⟩
end Go.Proofs.YtjlpfpigggdemaaGreatDoor.Uo
namespace Go.Proofs.YtjlpfpigggdemaaGreatDoor
open Go.RowKit Va
set_option linter.unusedVariables false
def PB (W : World) (B : Nat) (vs : Array Value) (t : TypeId) : Prop := W.heap[B]? = some (.cells vs t)
section
variable {W W' : World} {B b : Nat} {vs : Array Value} {t : TypeId}
theorem PB.below (h : PB W B vs t) (hb : Below W.heap.size W W') : PB W' B vs t := (hb.block B (Array.getElem?_eq_some_iff.1 h).1).trans h
theorem PB.lt (h : PB W B vs t) : B < W.heap.size := (Array.getElem?_eq_some_iff.1 h).1
theorem PB.cell (h : PB W B vs t) (j : Nat) : W.cell? ⟨B, j, none⟩ = vs[j]? := by
 unfold PB at h
 simp only [World.cell?, h]
 rfl
theorem PB.frozen (h : PB W B vs t) (j : Nat) : W.frozen? ⟨B, j, none⟩ = false := by
 unfold PB at h
 simp only [World.frozen?, h]
 simp
theorem PB.new (W : World) (vs : Array Value) (t : TypeId) : PB (W.alloc (.cells vs t)) W.heap.size vs t := heap_alloc_new _ _
theorem PB.alloc (h : PB W B vs t) (o : Obj) : PB (W.alloc o) B vs t := h.below ((Below.refl _ _).alloc (Nat.le_refl _) o)
theorem yh (w : World) (A D Z : Array Value) (s t u : TypeId) : Below w.heap.size w (((w.alloc (.cells A s)).alloc (.cells D t)).alloc (.cells Z u)) /\ PB (((w.alloc (.cells A s)).alloc (.cells D t)).alloc (.cells Z u)) w.heap.size A s /\ PB (((w.alloc (.cells A s)).alloc (.cells D t)).alloc (.cells Z u)) (w.heap.size + 1) D t /\ PB (((w.alloc (.cells A s)).alloc (.cells D t)).alloc (.cells Z u)) (w.heap.size + 1 + 1) Z u := by
 refine ⟨(((Below.refl _ _).alloc (Nat.le_refl _) _).alloc (by simp) _).alloc (by simp; omega) _, ((PB.new w _ _).alloc _).alloc _, ?_, ?_⟩
 ·have := (PB.new (w.alloc (.cells A s)) D t).alloc (.cells Z u)
  simpa using this
 ·have := PB.new ((w.alloc (.cells A s)).alloc (.cells D t)) Z u
  simpa using this
theorem PB.set (h : PB W B vs t) (j : Nat) (v : Value) : PB (W.setCell ⟨B, j, none⟩ v) B (vs.setIfInBounds j v) t := by
 unfold PB at *
 simp only [World.setCell, Array.getElem?_modify]
 rw [if_pos trivial, h]
 rfl
theorem PB.far (h : PB W B vs t) (hb : b ≠ B) (j : Nat) (v : Value) : PB (W.setCell ⟨b, j, none⟩ v) B vs t := by
 unfold PB at *
 rw [Below.heap_setCell _ _ _ _ (by show B ≠ b; omega)]
 exact h
theorem PB.drewN (h : PB W B vs t) (n : Nat) : PB (W.drewN n) B vs t := h
end
theorem PB.two {W : World} {B : Nat} {t : TypeId} {v0 v1 : Value} (h : PB W B #[v0, v1] t) : W.cell? ⟨B, 0, none⟩ = some v0 /\ W.cell? ⟨B, 1, none⟩ = some v1 := ⟨h.cell 0, h.cell 1⟩
theorem PB.put {W : World} {B : Nat} {vs : Array Value} {t : TypeId} (h : PB W B vs t) (j : Nat) (v : Value) {vs' : Array Value} (e : vs.setIfInBounds j v = vs') : PB (W.setCell ⟨B, j, none⟩ v) B vs' t := e ▸ h.set j v
theorem PB.three {W : World} {B : Nat} {t : TypeId} {v0 v1 v2 : Value} (h : PB W B #[v0, v1, v2] t) : W.cell? ⟨B, 0, none⟩ = some v0 /\ W.cell? ⟨B, 1, none⟩ = some v1 /\ W.cell? ⟨B, 2, none⟩ = some v2 := ⟨h.cell 0, h.cell 1, h.cell 2⟩
end Go.Proofs.YtjlpfpigggdemaaGreatDoor
namespace Go.Proofs.YtjlpfpigggdemaaGreatDoor
open Go.RowKit
set_option linter.all false
theorem qw {a b : Bool} (h : a = b) : Ending.returned (.bool a) = .returned (.bool b) := by rw [h]
theorem PB.nine {W : World} {B : Nat} {t : TypeId} {v0 v1 v2 v3 v4 v5 v6 v7 v8 : Value} (h : PB W B #[v0, v1, v2, v3, v4, v5, v6, v7, v8] t) :
  W.cell? ⟨B, 0, none⟩ = some v0 /\ W.cell? ⟨B, 1, none⟩ = some v1 /\ W.cell? ⟨B, 2, none⟩ = some v2 /\ W.cell? ⟨B, 3, none⟩ = some v3 /\ W.cell? ⟨B, 4, none⟩ = some v4 /\ W.cell? ⟨B, 5, none⟩ = some v5 /\ W.cell? ⟨B, 6, none⟩ = some v6 /\ W.cell? ⟨B, 7, none⟩ = some v7 /\ W.cell? ⟨B, 8, none⟩ = some v8 :=
 ⟨h.cell 0, h.cell 1, h.cell 2, h.cell 3, h.cell 4, h.cell 5, h.cell 6, h.cell 7, h.cell 8⟩
theorem PB.five {W : World} {B : Nat} {t : TypeId} {v0 v1 v2 v3 v4 : Value} (h : PB W B #[v0, v1, v2, v3, v4] t) :
  W.cell? ⟨B, 0, none⟩ = some v0 /\ W.cell? ⟨B, 1, none⟩ = some v1 /\ W.cell? ⟨B, 2, none⟩ = some v2 /\ W.cell? ⟨B, 3, none⟩ = some v3 /\ W.cell? ⟨B, 4, none⟩ = some v4 :=
 ⟨h.cell 0, h.cell 1, h.cell 2, h.cell 3, h.cell 4⟩
end Go.Proofs.YtjlpfpigggdemaaGreatDoor
namespace Go.Proofs.YtjlpfpigggdemaaGreatDoor
open Go.RowKit Va Uo
set_option linter.all false
theorem zea (x : Int) (w : World) : Calls Tryz.prog 70 #[.int .i64 x] w fun e w' => e = .returned (.bool (rng x 0 999)) /\ w = w' := by
 unfold rng
 go_enter Tryz.func70, Tryz.ntmps70
 go_wp2
 all_goals (go_ret; exact ⟨qw (by first | (simp; done) | (simp; omega) | (simp_all; done) | (simp_all; omega) | (rw [Bool.eq_iff_iff]; simp; omega) | (rw [Bool.eq_iff_iff]; simp_all; omega)), rfl⟩)
theorem ziz (x : Int) (w : World) : Calls Tryz.prog 69 #[.int .i64 x] w fun e w' => e = .returned (.bool (rng x 1 100000)) /\ w = w' := by
 unfold rng
 go_enter Tryz.func69, Tryz.ntmps69
 go_wp2
 all_goals (go_ret; exact ⟨qw (by first | (simp; done) | (simp; omega) | (simp_all; done) | (simp_all; omega) | (rw [Bool.eq_iff_iff]; simp; omega) | (rw [Bool.eq_iff_iff]; simp_all; omega)), rfl⟩)
theorem zhy (x : Int) (w : World) : Calls Tryz.prog 71 #[.int .i64 x] w fun e w' => e = .returned (.bool (rng x 1 1000)) /\ w = w' := by
 unfold rng
 go_enter Tryz.func71, Tryz.ntmps71
 go_wp2
 all_goals (go_ret; exact ⟨qw (by first | (simp; done) | (simp; omega) | (simp_all; done) | (simp_all; omega) | (rw [Bool.eq_iff_iff]; simp; omega) | (rw [Bool.eq_iff_iff]; simp_all; omega)), rfl⟩)
theorem zi2 (x : Int) (w : World) : Calls Tryz.prog 72 #[.int .i64 x] w fun e w' => e = .returned (.bool (rng x 1 1000000000)) /\ w = w' := by
 unfold rng
 go_enter Tryz.func72, Tryz.ntmps72
 go_wp2
 all_goals (go_ret; exact ⟨qw (by first | (simp; done) | (simp; omega) | (simp_all; done) | (simp_all; omega) | (rw [Bool.eq_iff_iff]; simp; omega) | (rw [Bool.eq_iff_iff]; simp_all; omega)), rfl⟩)
theorem zfl (x : Int) (w : World) : Calls Tryz.prog 15 #[.int .i64 x] w fun e w' => e = .returned (.bool (rng x 0 10000000)) /\ w = w' := by
 unfold rng
 go_enter Tryz.func15, Tryz.ntmps15
 go_wp2
 all_goals (go_ret; exact ⟨qw (by first | (simp; done) | (simp; omega) | (simp_all; done) | (simp_all; omega) | (rw [Bool.eq_iff_iff]; simp; omega) | (rw [Bool.eq_iff_iff]; simp_all; omega)), rfl⟩)
set_option maxRecDepth 20000 in
set_option maxHeartbeats 16000000 in
theorem zg1 (x : Od) (w : World) : Calls Tryz.prog 52 #[aOd x] w fun e w' => e = .returned (.bool (odB x)) /\ Below w.heap.size w w' := by
 obtain ⟨id, p, d, n, f, e, c, s, two⟩ := x
 have k1 := ziz id
 have k2 := zea p
 have k3 := zhy d
 have k4 := zi2 n
 have k5 := zfl f
 have HV : Hid (odB ⟨id, p, d, n, f, e, c, s, two⟩ = ((rng id 1 100000 && (rng p 0 999 && (rng d 1 1000 && rng n 1 1000000000))) && ((rng f 0 10000000 && (rng e 1 1440 && rng c 1 200)) && rng s 1 4))) := by
  rw [Hid]
  unfold odB zh zl
  dsimp only
  generalize rng id 1 100000 = t1
  generalize rng p 0 999 = t2
  generalize rng d 1 1000 = t3
  generalize rng n 1 1000000000 = t4
  generalize rng f 0 10000000 = t5
  generalize rng e 1 1440 = t6
  generalize rng c 1 200 = t7
  generalize rng s 1 4 = t8
  revert t1 t2 t3 t4 t5 t6 t7 t8
  decide
 have HE : Hid (rng e 1 1440 = (decide (1 <= e) && decide (e <= 1440))) := rfl
 have HC : Hid (rng c 1 200 = (decide (1 <= c) && decide (c <= 200))) := rfl
 have HS : Hid (rng s 1 4 = (decide (1 <= s) && decide (s <= 4))) := rfl
 unfold aOd
 dsimp only
 generalize rng id 1 100000 = t1 at *
 generalize rng p 0 999 = t2 at *
 generalize rng d 1 1000 = t3 at *
 generalize rng n 1 1000000000 = t4 at *
 generalize rng f 0 10000000 = t5 at *
 generalize rng e 1 1440 = t6 at *
 generalize rng c 1 200 = t7 at *
 generalize rng s 1 4 = t8 at *
 generalize odB ⟨id, p, d, n, f, e, c, s, two⟩ = R at *
 have hP := PB.new w #[.int .i64 id, .int .i64 p, .int .i64 d, .int .i64 n, .int .i64 f, .int .i64 e, .int .i64 c, .int .i64 s, .bool two] 38
 have hb0 : Below w.heap.size w (w.alloc (.cells #[.int .i64 id, .int .i64 p, .int .i64 d, .int .i64 n, .int .i64 f, .int .i64 e, .int .i64 c, .int .i64 s, .bool two] 38)) := (Below.refl _ _).alloc (Nat.le_refl _) _
 go_enter Tryz.func52, Tryz.ntmps52
 go_upto_region 1 with fail
 generalize w.alloc (.cells #[.int .i64 id, .int .i64 p, .int .i64 d, .int .i64 n, .int .i64 f, .int .i64 e, .int .i64 c, .int .i64 s, .bool two] 38) = wA at *
 generalize hBB : w.heap.size = B at *
 generalize Value.agg #[.int .i64 id, .int .i64 p, .int .i64 d, .int .i64 n, .int .i64 f, .int .i64 e, .int .i64 c, .int .i64 s, .bool two] = av
 obtain ⟨c0, c1, c2, c3, c4, c5, c6, c7, c8⟩ := hP.nine
 clear hP
 go_cut [3] (fun tv wx => tv = .bool (t1 && (t2 && (t3 && t4))) /\ wx = wA)
 case first =>
  clear HV HE HC HS k5 hb0
  rcases t1 with _ | _
  ·go_wp2_with (with_reducible (first | refine (k1 _).mono ?_ | refine (k2 _).mono ?_ | refine (k3 _).mono ?_ | refine (k4 _).mono ?_); rintro e w1 ⟨rfl, rfl⟩)
   go_meet
   case rel => exact ⟨by first | rfl | (simp; done) | (simp; omega), rfl⟩
  rcases t2 with _ | _
  ·go_wp2_with (with_reducible (first | refine (k1 _).mono ?_ | refine (k2 _).mono ?_ | refine (k3 _).mono ?_ | refine (k4 _).mono ?_); rintro e w1 ⟨rfl, rfl⟩)
   go_meet
   case rel => exact ⟨by first | rfl | (simp; done) | (simp; omega), rfl⟩
  rcases t3 with _ | _
  ·go_wp2_with (with_reducible (first | refine (k1 _).mono ?_ | refine (k2 _).mono ?_ | refine (k3 _).mono ?_ | refine (k4 _).mono ?_); rintro e w1 ⟨rfl, rfl⟩)
   go_meet
   case rel => exact ⟨by first | rfl | (simp; done) | (simp; omega), rfl⟩
  go_wp2_with (with_reducible (first | refine (k1 _).mono ?_ | refine (k2 _).mono ?_ | refine (k3 _).mono ?_ | refine (k4 _).mono ?_); rintro e w1 ⟨rfl, rfl⟩)
  go_meet
  case rel => exact ⟨by simp, rfl⟩
 case rest =>
  obtain ⟨rfl, hwx⟩ := hcut
  have hwx' := hwx.symm
  clear hwx
  subst hwx'
  clear k1 k2 k3 k4
  generalize (t1 && (t2 && (t3 && t4))) = u1 at *
  go_upto_region 2 with fail
  go_cut [4] (fun tv wx => tv = .bool (t5 && (t6 && t7)) /\ wx = wA)
  case first =>
   clear HV HS hb0
   rcases t5 with _ | _
   ·clear HE HC
    go_wp2_with (with_reducible (refine (k5 _).mono ?_); rintro e w1 ⟨rfl, rfl⟩)
    go_meet
    case rel => exact ⟨by first | rfl | (simp; done) | (simp; omega), rfl⟩
   by_cases e1 : 1 <= e
   ·by_cases e2 : e <= 1440
    ·obtain rfl : t6 = true := by rw [HE.out]; simp [e1, e2]
     by_cases g1 : 1 <= c
     ·by_cases g2 : c <= 200
      ·obtain rfl : t7 = true := by rw [HC.out]; simp [g1, g2]
       clear HE HC
       go_wp2_with (with_reducible (refine (k5 _).mono ?_); rintro e w1 ⟨rfl, rfl⟩)
       go_meet
       case rel => exact ⟨by first | rfl | (simp; done) | (simp; omega), rfl⟩
      ·obtain rfl : t7 = false := by rw [HC.out]; simp [g1, g2]
       clear HE HC
       go_wp2_with (with_reducible (refine (k5 _).mono ?_); rintro e w1 ⟨rfl, rfl⟩)
       go_meet
       case rel => exact ⟨by first | rfl | (simp; done) | (simp; omega), rfl⟩
     ·obtain rfl : t7 = false := by rw [HC.out]; simp [g1]
      clear HE HC
      go_wp2_with (with_reducible (refine (k5 _).mono ?_); rintro e w1 ⟨rfl, rfl⟩)
      go_meet
      case rel => exact ⟨by first | rfl | (simp; done) | (simp; omega), rfl⟩
    ·obtain rfl : t6 = false := by rw [HE.out]; simp [e1, e2]
     clear HE HC
     go_wp2_with (with_reducible (refine (k5 _).mono ?_); rintro e w1 ⟨rfl, rfl⟩)
     go_meet
     case rel => exact ⟨by first | rfl | (simp; done) | (simp; omega), rfl⟩
   ·obtain rfl : t6 = false := by rw [HE.out]; simp [e1]
    clear HE HC
    go_wp2_with (with_reducible (refine (k5 _).mono ?_); rintro e w1 ⟨rfl, rfl⟩)
    go_meet
    case rel => exact ⟨by first | rfl | (simp; done) | (simp; omega), rfl⟩
  case rest =>
   obtain ⟨rfl, hwx⟩ := hcut
   have hwx' := hwx.symm
   clear hwx
   subst hwx'
   clear k5 HE HC
   generalize (t5 && (t6 && t7)) = u2 at *
   rcases u1 with _ | _
   ·clear HS
    go_wp2_with fail
    go_ret
    exact ⟨qw (by rw [HV.out]; rfl), by first | exact hb0 | (rw [hBB]; exact hb0)⟩
   rcases u2 with _ | _
   ·clear HS
    go_wp2_with fail
    go_ret
    exact ⟨qw (by rw [HV.out]; rfl), by first | exact hb0 | (rw [hBB]; exact hb0)⟩
   by_cases s1 : 1 <= s
   ·by_cases s2 : s <= 4
    ·obtain rfl : t8 = true := by rw [HS.out]; simp [s1, s2]
     clear HS
     go_wp2_with fail
     go_ret
     exact ⟨qw (by rw [HV.out]; rfl), by first | exact hb0 | (rw [hBB]; exact hb0)⟩
    ·obtain rfl : t8 = false := by rw [HS.out]; simp [s1, s2]
     clear HS
     go_wp2_with fail
     go_ret
     exact ⟨qw (by rw [HV.out]; rfl), by first | exact hb0 | (rw [hBB]; exact hb0)⟩
   ·obtain rfl : t8 = false := by rw [HS.out]; simp [s1]
    clear HS
    go_wp2_with fail
    go_ret
    exact ⟨qw (by rw [HV.out]; rfl), by first | exact hb0 | (rw [hBB]; exact hb0)⟩
set_option maxRecDepth 20000 in
set_option maxHeartbeats 16000000 in
theorem zhw (x : Od) (b a : Int) (w : World) : Calls Tryz.prog 74 #[aOd x, .int .i64 b, .int .i64 a] w fun e w' => e = .returned (.bool (za3 x.two b a)) /\ Below w.heap.size w w' := by
 obtain ⟨id, p, d, n, f, e, c, s, two⟩ := x
 have k1 := zea b
 have k2 := zea a
 have hp1 : zh b = rng b 0 999 := rfl
 have hp2 : zh a = rng a 0 999 := rfl
 unfold za3 aOd
 rw [hp1, hp2]
 clear hp1 hp2
 dsimp only
 generalize rng b 0 999 = t1 at *
 generalize rng a 0 999 = t2 at *
 have hb0 : Below w.heap.size w (w.alloc (.cells #[.int .i64 id, .int .i64 p, .int .i64 d, .int .i64 n, .int .i64 f, .int .i64 e, .int .i64 c, .int .i64 s, .bool two] 38)) := (Below.refl _ _).alloc (Nat.le_refl _) _
 rcases two with _ | _
 ·rcases t1 with _ | _
  ·go_enter Tryz.func74, Tryz.ntmps74
   go_wp2_with (with_reducible (first | refine (k1 _).mono ?_ | refine (k2 _).mono ?_); rintro e w1 ⟨rfl, rfl⟩)
   go_ret
   exact ⟨rfl, hb0⟩
  ·by_cases ha : a = -1
   ·subst ha
    go_enter Tryz.func74, Tryz.ntmps74
    go_wp2_with (with_reducible (first | refine (k1 _).mono ?_ | refine (k2 _).mono ?_); rintro e w1 ⟨rfl, rfl⟩)
    go_ret
    exact ⟨rfl, hb0⟩
   ·go_enter Tryz.func74, Tryz.ntmps74
    go_wp2_with (with_reducible (first | refine (k1 _).mono ?_ | refine (k2 _).mono ?_); rintro e w1 ⟨rfl, rfl⟩)
    go_ret
    exact ⟨qw (by simp [ha]), hb0⟩
 ·rcases t1 with _ | _
  ·go_enter Tryz.func74, Tryz.ntmps74
   go_wp2_with (with_reducible (first | refine (k1 _).mono ?_ | refine (k2 _).mono ?_); rintro e w1 ⟨rfl, rfl⟩)
   go_ret
   exact ⟨rfl, hb0⟩
  by_cases ha : b = a
  ·subst ha
   rcases t2 with _ | _
   ·go_enter Tryz.func74, Tryz.ntmps74
    go_wp2_with (with_reducible (first | refine (k1 _).mono ?_ | refine (k2 _).mono ?_); rintro e w1 ⟨rfl, rfl⟩)
    all_goals (go_ret; exact ⟨qw (by simp), hb0⟩)
   ·go_enter Tryz.func74, Tryz.ntmps74
    go_wp2_with (with_reducible (first | refine (k1 _).mono ?_ | refine (k2 _).mono ?_); rintro e w1 ⟨rfl, rfl⟩)
    all_goals (go_ret; exact ⟨qw (by simp), hb0⟩)
  ·rcases t2 with _ | _
   ·go_enter Tryz.func74, Tryz.ntmps74
    go_wp2_with (with_reducible (first | refine (k1 _).mono ?_ | refine (k2 _).mono ?_); rintro e w1 ⟨rfl, rfl⟩)
    all_goals (go_ret; exact ⟨qw (by simp [ha]), hb0⟩)
   ·go_enter Tryz.func74, Tryz.ntmps74
    go_wp2_with (with_reducible (first | refine (k1 _).mono ?_ | refine (k2 _).mono ?_); rintro e w1 ⟨rfl, rfl⟩)
    all_goals (go_ret; exact ⟨qw (by simp [ha]), hb0⟩)
theorem zg4 (a : Int) (w : World) : Calls Tryz.prog 35 #[.int .i64 a] w fun e w' => e = .returned (.bool false) /\ w = w' := by
 go_enter Tryz.func35, Tryz.ntmps35
 go_wp2
 go_ret
 exact ⟨qw (by simp), rfl⟩
theorem zi4 (a b : Int) (w : World) : Calls Tryz.prog 21 #[.int .i64 a, .int .i64 b] w fun e w' => e = .returned (.int .i64 (if a < b then -1 else if b < a then 1 else 0)) /\ w = w' := by
 have n1 := zg4 a
 have n2 := zg4 b
 by_cases h1 : a < b
 ·rw [if_pos h1]
  go_enter Tryz.func21, Tryz.ntmps21
  go_wp2_with (with_reducible (first | refine (n1 _).mono ?_ | refine (n2 _).mono ?_); rintro e w1 ⟨rfl, rfl⟩)
  go_ret
  exact ⟨rfl, rfl⟩
 ·rw [if_neg h1]
  by_cases h2 : b < a
  ·rw [if_pos h2]
   go_enter Tryz.func21, Tryz.ntmps21
   go_wp2_with (with_reducible (first | refine (n1 _).mono ?_ | refine (n2 _).mono ?_); rintro e w1 ⟨rfl, rfl⟩)
   go_ret
   exact ⟨rfl, rfl⟩
  ·rw [if_neg h2]
   go_enter Tryz.func21, Tryz.ntmps21
   go_wp2_with (with_reducible (first | refine (n1 _).mono ?_ | refine (n2 _).mono ?_); rintro e w1 ⟨rfl, rfl⟩)
   go_ret
   exact ⟨rfl, rfl⟩
end Go.Proofs.YtjlpfpigggdemaaGreatDoor
