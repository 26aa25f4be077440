/-
 Merged: U6 Uv U2 U18 U19 Gw Ub1.
-/
import Derived.Test.YtjlpfpigggdemaaGreatDoorMi2
import Derived.Deep.LoopGhost
import Derived.WalkMore
import Derived.Test.YtjlpfpigggdemaaGreatDoorMi1
import Derived.Laws.AppendOwn
import Derived.Laws.OwnMore
namespace Go.Proofs.YtjlpfpigggdemaaGreatDoor
set_option maxRecDepth 8000
set_option maxHeartbeats 4000000
open Go.RowKit Va Uo
set_option linter.all false
set_option maxRecDepth 20000 in
set_option maxHeartbeats 16000000 in
theorem zj5 (x : Od) (y : Ds) (w : World) : Calls Tryz.prog 54 #[aOd x, aDs y] w fun e w' => e = .returned (.bool (je x y)) /\ Below w.heap.size w w' := by
 have k1 := zfl y.m
 have k2 := zhw x y.b y.a
 have HV : Hid (je x y = ((decide (0 <= y.t) && decide (y.t < x.c)) && (!decide (x.s = 1) && (rng y.m 0 10000000 && za3 x.two y.b y.a)))) := rfl
 generalize je x y = R at *
 generalize rng y.m 0 10000000 = t1 at *
 generalize za3 x.two y.b y.a = t2 at *
 obtain ⟨id, p, d, n, f, e, c, s, two⟩ := x
 obtain ⟨yo, yt, ym, yb, ya⟩ := y
 unfold aOd aDs at *
 dsimp only at *
 have hb0 : Below w.heap.size w ((w.alloc (.cells #[.int .i64 id, .int .i64 p, .int .i64 d, .int .i64 n, .int .i64 f, .int .i64 e, .int .i64 c, .int .i64 s, .bool two] 38)).alloc (.cells #[.int .i64 yo, .int .i64 yt, .int .i64 ym, .int .i64 yb, .int .i64 ya] 35)) := ((Below.refl _ _).alloc (Nat.le_refl _) _).alloc (by simp) _
 by_cases h1 : 0 <= yt
 ·by_cases h2 : yt < c
  ·by_cases h3 : s = 1
   ·subst h3
    go_enter Tryz.func54, Tryz.ntmps54
    go_wp2_with (with_reducible (first | (refine (k1 _).mono ?_; rintro e w1 ⟨rfl, rfl⟩) | (refine (k2 _).mono ?_; rintro e w2 ⟨rfl, hb2⟩)))
    go_ret
    exact ⟨qw (by rw [HV.out]; simp), by first | exact onto hb0 hb2 | exact hb0⟩
   ·rcases t1 with _ | _
    ·go_enter Tryz.func54, Tryz.ntmps54
     go_wp2_with (with_reducible (first | (refine (k1 _).mono ?_; rintro e w1 ⟨rfl, rfl⟩) | (refine (k2 _).mono ?_; rintro e w2 ⟨rfl, hb2⟩)))
     go_ret
     exact ⟨qw (by rw [HV.out]; simp), by first | exact onto hb0 hb2 | exact hb0⟩
    ·go_enter Tryz.func54, Tryz.ntmps54
     go_wp2_with (with_reducible (first | (refine (k1 _).mono ?_; rintro e w1 ⟨rfl, rfl⟩) | (refine (k2 _).mono ?_; rintro e w2 ⟨rfl, hb2⟩)))
     go_ret
     exact ⟨qw (by rw [HV.out]; simp [h1, h2, h3]), by first | exact onto hb0 hb2 | exact hb0⟩
  ·have HD : Hid (decide (yt < c) = false) := decide_eq_false h2
   go_enter Tryz.func54, Tryz.ntmps54
   go_wp2_with (with_reducible (first | (refine (k1 _).mono ?_; rintro e w1 ⟨rfl, rfl⟩) | (refine (k2 _).mono ?_; rintro e w2 ⟨rfl, hb2⟩)))
   go_ret
   exact ⟨qw (by rw [HV.out, HD.out]; simp), by first | exact onto hb0 hb2 | exact hb0⟩
 ·have HD : Hid (decide (0 <= yt) = false) := decide_eq_false h1
  go_enter Tryz.func54, Tryz.ntmps54
  go_wp2_with (with_reducible (first | (refine (k1 _).mono ?_; rintro e w1 ⟨rfl, rfl⟩) | (refine (k2 _).mono ?_; rintro e w2 ⟨rfl, hb2⟩)))
  go_ret
  exact ⟨qw (by rw [HV.out, HD.out]; simp), by first | exact onto hb0 hb2 | exact hb0⟩
theorem iclo_any (x : Od) (id : Int) (w : World) : Calls Tryz.prog 81 #[aOd x, .int .i64 id] w fun e w' => e = .returned (.int .i64 (if x.id < id then -1 else if id < x.id then 1 else 0)) /\ Below w.heap.size w w' := by
 have k1 := zi4 x.id id
 unfold aOd
 have hb0 : Below w.heap.size w (w.alloc (.cells #[.int .i64 x.id, .int .i64 x.p, .int .i64 x.d, .int .i64 x.n, .int .i64 x.f, .int .i64 x.e, .int .i64 x.c, .int .i64 x.s, .bool x.two] 38)) := (Below.refl _ _).alloc (Nat.le_refl _) _
 generalize (if x.id < id then (-1 : Int) else if id < x.id then 1 else 0) = R at *
 go_enter Tryz.func81, Tryz.ntmps81
 go_wp2_with (with_reducible (refine (k1 _).mono ?_); rintro e w1 ⟨rfl, rfl⟩)
 go_ret
 exact ⟨rfl, hb0⟩
set_option maxRecDepth 20000 in
set_option maxHeartbeats 16000000 in
theorem zj1 (ao : Option Addr) (n cap : Nat) (os : List Od) (id : Int) (w : World) (h : VRw 9 jd w (.slice ao n cap) os) (hn : os.length <= 1048576) (hr : Ris os) :
  Calls Tryz.prog 80 #[.slice ao n cap, .int .i64 id, .func (.func 81) #[] #[]] w fun e w' => ∃ k : Nat, Cut os id k /\ e = .returned (.tuple #[.int .i64 k, .bool (qm os id k)]) /\ Below w.heap.size w w' := by
 obtain rfl := h.len
 have HH := hidden h
 have HR := hidden hr
 have HC := hidden (fun x W => iclo_any x id W)
 clear h hr
 go_enter Tryz.func80, Tryz.ntmps80
 go_wp2_with fail
 go_loopg [9, 10, 11] os.length (fun kx s9 s10 _ wr => ∃ lo hi : Nat, s9 = .int .i64 lo /\ s10 = .int .i64 hi /\ lo <= hi /\ hi <= os.length /\ hi - lo <= kx /\ Below w.heap.size w wr /\ Hid ((∀ (j : Nat) (x : Od), j < lo -> os[j]? = some x -> x.id < id) /\ ∀ (j : Nat) (x : Od), hi <= j -> os[j]? = some x -> id <= x.id))
 case atStart => exact ⟨0, os.length, rfl, rfl, Nat.zero_le _, Nat.le_refl _, by omega, Below.refl _ _, ⟨fun j x hj => absurd hj (Nat.not_lt_zero _), fun j x hj hx => by have := (List.getElem?_eq_some_iff.1 hx).1; omega⟩⟩
 case round =>
  obtain ⟨lo, hi, rfl, rfl, hlh, hin, hg, hb, I⟩ := hrel
  by_cases hlt : lo < hi
  ·obtain ⟨x, hx⟩ := zaa os ((lo + hi) / 2) (by omega)
   obtain ⟨g, off, rfl, hgl, hcs⟩ := (HH.out.below hb).at hx
   have c0 : wr.cell? ⟨g, off + (lo + hi) / 2 * 9, none⟩ = some (.int .i64 x.id) := hcs 0 (by omega)
   have c1 : wr.cell? ⟨g, off + (lo + hi) / 2 * 9 + 1, none⟩ = some (.int .i64 x.p) := hcs 1 (by omega)
   have c2 : wr.cell? ⟨g, off + (lo + hi) / 2 * 9 + 2, none⟩ = some (.int .i64 x.d) := hcs 2 (by omega)
   have c3 : wr.cell? ⟨g, off + (lo + hi) / 2 * 9 + 3, none⟩ = some (.int .i64 x.n) := hcs 3 (by omega)
   have c4 : wr.cell? ⟨g, off + (lo + hi) / 2 * 9 + 4, none⟩ = some (.int .i64 x.f) := hcs 4 (by omega)
   have c5 : wr.cell? ⟨g, off + (lo + hi) / 2 * 9 + 5, none⟩ = some (.int .i64 x.e) := hcs 5 (by omega)
   have c6 : wr.cell? ⟨g, off + (lo + hi) / 2 * 9 + 6, none⟩ = some (.int .i64 x.c) := hcs 6 (by omega)
   have c7 : wr.cell? ⟨g, off + (lo + hi) / 2 * 9 + 7, none⟩ = some (.int .i64 x.s) := hcs 7 (by omega)
   have c8 : wr.cell? ⟨g, off + (lo + hi) / 2 * 9 + 8, none⟩ = some (.bool x.two) := hcs 8 (by omega)
   have hK := HC.out x
   unfold aOd at hK
   have HX := hidden hx
   clear hcs hx
   by_cases q : x.id < id
   ·rw [if_pos q] at hK
    go_wp2_with (go_at_call 81; refine (hK _).mono ?_; rintro e w' ⟨rfl, hb1⟩)
    go_roundg (hi - ((lo + hi) / 2 + 1))
    case measure => omega
    case rel =>
     refine ⟨(lo + hi) / 2 + 1, hi, by rw [show ((lo : Int) + (hi : Int)) / 2 + 1 = (((lo + hi) / 2 + 1 : Nat) : Int) by omega], rfl, by omega, hin, Nat.le_refl _, onto hb hb1, ⟨fun j y hj hy => ?_, I.out.2⟩⟩
     by_cases e : j = (lo + hi) / 2
     ·subst e; rw [HX.out] at hy; cases hy; exact q
     ·have := HR.out j _ y x (by omega) hy HX.out; omega
   ·rw [if_neg q] at hK
    have hz : ¬ (if id < x.id then (1 : Int) else 0) < 0 := by split <;> omega
    generalize (if id < x.id then (1 : Int) else 0) = z at *
    go_wp2_with (go_at_call 81; refine (hK _).mono ?_; rintro e w' ⟨rfl, hb1⟩)
    go_roundg ((lo + hi) / 2 - lo)
    case measure => omega
    case rel =>
     refine ⟨lo, (lo + hi) / 2, rfl, by rw [show ((lo : Int) + (hi : Int)) / 2 = (((lo + hi) / 2 : Nat) : Int) by omega], by omega, by omega, Nat.le_refl _, onto hb hb1, ⟨I.out.1, fun j y hj hy => ?_⟩⟩
     by_cases e : j = (lo + hi) / 2
     ·subst e; rw [HX.out] at hy; cases hy; omega
     ·have := HR.out _ j x y (by omega) HX.out hy; omega
  ·obtain rfl : hi = lo := by omega
   have HCut : Hid (Cut os id hi) := ⟨hin, I.out.1, I.out.2⟩
   by_cases hle : hi < os.length
   ·obtain ⟨x, hx⟩ := zaa os hi hle
    obtain ⟨g, off, rfl, hgl, hcs⟩ := (HH.out.below hb).at hx
    have c0 : wr.cell? ⟨g, off + hi * 9, none⟩ = some (.int .i64 x.id) := hcs 0 (by omega)
    have c1 : wr.cell? ⟨g, off + hi * 9 + 1, none⟩ = some (.int .i64 x.p) := hcs 1 (by omega)
    have c2 : wr.cell? ⟨g, off + hi * 9 + 2, none⟩ = some (.int .i64 x.d) := hcs 2 (by omega)
    have c3 : wr.cell? ⟨g, off + hi * 9 + 3, none⟩ = some (.int .i64 x.n) := hcs 3 (by omega)
    have c4 : wr.cell? ⟨g, off + hi * 9 + 4, none⟩ = some (.int .i64 x.f) := hcs 4 (by omega)
    have c5 : wr.cell? ⟨g, off + hi * 9 + 5, none⟩ = some (.int .i64 x.e) := hcs 5 (by omega)
    have c6 : wr.cell? ⟨g, off + hi * 9 + 6, none⟩ = some (.int .i64 x.c) := hcs 6 (by omega)
    have c7 : wr.cell? ⟨g, off + hi * 9 + 7, none⟩ = some (.int .i64 x.s) := hcs 7 (by omega)
    have c8 : wr.cell? ⟨g, off + hi * 9 + 8, none⟩ = some (.bool x.two) := hcs 8 (by omega)
    have hK := HC.out x
    unfold aOd at hK
    have HA : Hid (qm os id hi = decide (x.id = id)) := by rw [Hid, qm, decide_eq_true hle, jm hx, Bool.true_and]
    clear hcs hx
    by_cases q : x.id = id
    ·have HA2 : Hid (qm os id hi = true) := by rw [Hid, HA.out, decide_eq_true q]
     clear HA
     subst q
     rw [if_neg (by omega), if_neg (by omega)] at hK
     go_wp2_with (go_at_call 81; refine (hK _).mono ?_; rintro e w' ⟨rfl, hb1⟩)
     go_ret2
     exact ⟨hi, HCut.out, by rw [HA2.out]; rfl, onto hb hb1⟩
    ·have hz : ¬ (if x.id < id then (-1 : Int) else if id < x.id then 1 else 0) = 0 := by split; omega; split <;> omega
     generalize (if x.id < id then (-1 : Int) else if id < x.id then 1 else 0) = z at *
     go_wp2_with (go_at_call 81; refine (hK _).mono ?_; rintro e w' ⟨rfl, hb1⟩)
     go_ret2
     exact ⟨hi, HCut.out, by rw [HA.out, decide_eq_false q]; simp [hz], onto hb hb1⟩
   ·have HA : Hid (qm os id hi = false) := by rw [Hid, qm, decide_eq_false hle]; rfl
    go_wp2_with fail
    go_ret2
    exact ⟨hi, HCut.out, by rw [HA.out]; rfl, hb⟩
theorem zcc (ao : Option Addr) (n cap : Nat) (sd : Value) (os : List Od) (id : Int) (w : World) (h : VRw 9 jd w (.slice ao n cap) os) (hn : os.length <= 1048576) (hr : Ris os) (hsd : ∃ a n c, sd = .slice a n c) :
  Calls Tryz.prog 53 #[.agg #[.slice ao n cap, sd], .int .i64 id] w fun e w' => ∃ k : Nat, Cut os id k /\ e = .returned (.tuple #[.int .i64 k, .bool (qm os id k)]) /\ Below w.heap.size w w' := by
 obtain ⟨sa, sn, sc, rfl⟩ := hsd
 have hb0 : Below w.heap.size w (w.alloc (.cells #[.slice ao n cap, .slice sa sn sc] 27)) := (Below.refl _ _).alloc (Nat.le_refl _) _
 have HK := hidden (fun W hW => zj1 ao n cap os id W hW hn hr)
 have HH := hidden (h.below hb0)
 clear h hr
 go_enter Tryz.func53, Tryz.ntmps53
 go_wp2_with (go_at_call 80; refine (HK.out _ HH.out).mono ?_; rintro e w1 ⟨k, hc, rfl, hb1⟩)
 go_ret2
 exact ⟨k, hc, rfl, onto hb0 hb1⟩
end Go.Proofs.YtjlpfpigggdemaaGreatDoor
namespace Go.Proofs.YtjlpfpigggdemaaGreatDoor.Uo
open Va
set_option linter.all false
instance : Inhabited Du := ⟨⟨0, 0, 0⟩⟩
def vw (ds : List Ds) (id t : Int) : Bool := ds.any fun d => decide (d.o = id) && decide (d.t = t)
def qy (l : List Du) (d : Du) : Nat -> Nat
 | 0 => 0
 | n + 1 => if d.s < (l.getD n default).s then qy l d n else n + 1
def zae (l : List Du) (d : Du) : List Du := l.take (qy l d l.length) ++ d :: l.drop (qy l d l.length)
theorem zf5 (l : List Du) (d : Du) : ∀ n, qy l d n <= n
 | 0 => Nat.le_refl _
 | n + 1 => by
  have := zf5 l d n
  unfold qy
  split <;> omega
theorem zcm (l : List Du) (d : Du) : (zae l d).length = l.length + 1 := by
 have := zf5 l d l.length
 simp only [zae, List.length_append, List.length_take, List.length_cons, List.length_drop]
 omega
theorem zee {l : List Du} {i : Nat} {x : Du} (h : l[i]? = some x) : l.getD i default = x := by rw [List.getD_eq_getElem?_getD, h]; rfl
def jf (o : Od) (t : Nat) : Du := ⟨o.id, t, o.f + (t : Int) * o.e⟩
def yw (ds : List Ds) (time : Int) (o : Od) (t : Nat) : Bool := rng (jf o t).s (time - 60) (time + 30) && !vw ds o.id t
def yg (ds : List Ds) (time : Int) (o : Od) (l : List Du) : Nat -> List Du
 | 0 => l
 | t + 1 => if yw ds time o t = true then zae (yg ds time o l t) (jf o t) else yg ds time o l t
def zba (o : Od) (id : Int) : Bool := decide (o.s = 2) && (decide (id = 0) || decide (o.id = id))
def zal (os : List Od) (ds : List Ds) (time id : Int) : Nat -> List Du
 | 0 => []
 | i + 1 => if zba (os.getD i default) id = true then yg ds time (os.getD i default) (zal os ds time id i) (os.getD i default).c.toNat else zal os ds time id i
def vg (os : List Od) (ds : List Ds) (time id : Int) : List Du := zal os ds time id os.length
theorem zfm (ds : List Ds) (time : Int) (o : Od) (l : List Du) : ∀ t, (yg ds time o l t).length <= l.length + t
 | 0 => Nat.le_refl _
 | t + 1 => by
  have := zfm ds time o l t
  unfold yg
  split
  ·rw [zcm]; omega
  ·omega
theorem zgr {os : List Od} (ds : List Ds) (time id : Int) (h : ∀ i, i < os.length -> (os.getD i default).c <= 200) : ∀ n, n <= os.length -> (zal os ds time id n).length <= n * 200
 | 0, _ => Nat.le_refl _
 | n + 1, hn => by
  have i := zgr ds time id h n (by omega)
  have := zfm ds time (os.getD n default) (zal os ds time id n) (os.getD n default).c.toNat
  have := h n (by omega)
  unfold zal
  split <;> omega
theorem zfg {os : List Od} {ds : List Ds} {time id : Int} {i : Nat} {o : Od} (ho : os[i]? = some o) (h : zba o id = true) : zal os ds time id (i + 1) = yg ds time o (zal os ds time id i) o.c.toNat := by
 rw [zal, jm ho, if_pos h]
theorem zf1 {os : List Od} {ds : List Ds} {time id : Int} {i : Nat} {o : Od} (ho : os[i]? = some o) (h : zba o id = false) : zal os ds time id (i + 1) = zal os ds time id i := by
 rw [zal, jm ho, if_neg (by rw [h]; simp)]
theorem zgq {ds : List Ds} {time : Int} {o : Od} {l : List Du} {t : Nat} (h : yw ds time o t = true) : yg ds time o l (t + 1) = zae (yg ds time o l t) (jf o t) := by rw [yg, if_pos h]
theorem zf3 {ds : List Ds} {time : Int} {o : Od} {l : List Du} {t : Nat} (h : yw ds time o t = false) : yg ds time o l (t + 1) = yg ds time o l t := by rw [yg, if_neg (by rw [h]; simp)]
def gap (l : List Du) (at' : Nat) (x : Du) : List Du := l.take at' ++ x :: l.drop at'
theorem zdn {l : List Du} {n : Nat} (x : Du) (h : n <= l.length) : (gap l n x).length = l.length + 1 := by
 simp only [gap, List.length_append, List.length_take, List.length_cons, List.length_drop]; omega
theorem ziq (l : List Du) (d : Du) : gap l l.length d = l ++ [d] := by simp [gap]
theorem zh7 {l : List Du} {n : Nat} {x y : Du} (h : l[n]? = some y) : (gap l (n + 1) x)[n]? = some y := by
 have hl := (List.getElem?_eq_some_iff.1 h).1
 unfold gap
 rw [List.getElem?_append_left (by rw [List.length_take]; omega), List.getElem?_take, if_pos (by omega), h]
theorem zhu {l : List Du} {n : Nat} {x y : Du} (h : l[n]? = some y) : (gap l (n + 1) x).set (n + 1) y = gap l n y := by
 obtain ⟨hl, rfl⟩ := List.getElem?_eq_some_iff.1 h
 unfold gap
 rw [List.set_append_right _ _ (by rw [List.length_take]; omega), List.length_take, show n + 1 - min (n + 1) l.length = 0 by omega, List.set_cons_zero, show l.take (n + 1) = l.take n ++ [l[n]] by rw [List.take_add_one, List.getElem?_eq_getElem hl]; rfl, List.append_assoc, List.drop_eq_getElem_cons hl]
 rfl
theorem ze6 (l : List Du) {n : Nat} (x d : Du) (h : n <= l.length) : (gap l n x).set n d = gap l n d := by
 unfold gap
 rw [List.set_append_right _ _ (by rw [List.length_take]; omega), List.length_take, show n - min n l.length = 0 by omega, List.set_cons_zero]
theorem zfa {l : List Du} {d : Du} {n : Nat} (h : qy l d n = qy l d l.length) (h2 : qy l d n = n) : gap l n d = zae l d := by unfold gap zae; rw [<- h, h2]
theorem zfw {l : List Du} {d y : Du} {n : Nat} (hy : l[n]? = some y) (h : d.s < y.s) : qy l d (n + 1) = qy l d n := by rw [qy, zee hy, if_pos h]
theorem zgn {l : List Du} {d y : Du} {n : Nat} (hy : l[n]? = some y) (h : ¬ d.s < y.s) : qy l d (n + 1) = n + 1 := by rw [qy, zee hy, if_neg h]
end Go.Proofs.YtjlpfpigggdemaaGreatDoor.Uo
namespace Go.Proofs.YtjlpfpigggdemaaGreatDoor.Uo
open Va
set_option linter.all false
def jh (ds : List Ds) (time : Int) (o : Od) : Nat -> List Du
 | 0 => []
 | t + 1 => if yw ds time o t = true then jh ds time o t ++ [jf o t] else jh ds time o t
def zad (os : List Od) (ds : List Ds) (time : Int) : Nat -> List Du
 | 0 => []
 | i + 1 => if (os.getD i default).s = 2 then zad os ds time i ++ jh ds time (os.getD i default) (os.getD i default).c.toNat else zad os ds time i
theorem zfc (ds : List Ds) (time : Int) (o : Od) : ∀ t, (jh ds time o t).length <= t
 | 0 => Nat.le_refl _
 | t + 1 => by
  have := zfc ds time o t
  unfold jh
  split
  ·rw [List.length_append]; simp; omega
  ·omega
theorem ziv {os : List Od} (ds : List Ds) (time : Int) (h : ∀ i, i < os.length -> (os.getD i default).c <= 200) : ∀ n, n <= os.length -> (zad os ds time n).length <= n * 200
 | 0, _ => Nat.le_refl _
 | n + 1, hn => by
  have i := ziv ds time h n (by omega)
  have := zfc ds time (os.getD n default) (os.getD n default).c.toNat
  have := h n (by omega)
  unfold zad
  split
  ·rw [List.length_append]; omega
  ·omega
theorem zc9 {ds : List Ds} {time : Int} {o : Od} {d : Du} : ∀ {n : Nat}, d ∈ jh ds time o n -> ∃ t, t < n /\ d = jf o t /\ yw ds time o t = true
 | 0, h => by cases h
 | n + 1, h => by
  unfold jh at h
  split at h
  ·rename_i hb
   rcases List.mem_append.1 h with h | h
   ·obtain ⟨t, h1, h2, h3⟩ := zc9 h; exact ⟨t, by omega, h2, h3⟩
   ·rw [List.mem_singleton] at h; exact ⟨n, by omega, h, hb⟩
  ·obtain ⟨t, h1, h2, h3⟩ := zc9 h; exact ⟨t, by omega, h2, h3⟩
theorem ziu {ds : List Ds} {time : Int} {o : Od} {t : Nat} (hb : yw ds time o t = true) : ∀ {n : Nat}, t < n -> jf o t ∈ jh ds time o n
 | 0, h => by omega
 | n + 1, h => by
  unfold jh
  by_cases q : t = n
  ·subst q; rw [if_pos hb]; simp
  ·have := ziu hb (n := n) (by omega)
   split
   ·exact List.mem_append_left _ this
   ·exact this
def ltD (a b : Du) : Prop := a.s < b.s ∨ a.s = b.s /\ a.o < b.o
def zbs (l : List Du) : Prop := l.Pairwise ltD
theorem zi5 {a b : Du} (h : ltD a b) : ¬ ltD b a := by unfold ltD at *; omega
theorem zio (l : List Du) (d : Du) : ∀ n, n <= l.length -> (∀ j x, qy l d n <= j -> j < n -> l[j]? = some x -> d.s < x.s) /\ (0 < qy l d n -> ∃ x, l[qy l d n - 1]? = some x /\ x.s <= d.s)
 | 0, _ => ⟨fun j x h1 h2 => by omega, fun h => by simp [qy] at h⟩
 | n + 1, hn => by
  obtain ⟨x, hx⟩ : ∃ x, l[n]? = some x := ⟨_, List.getElem?_eq_getElem (by omega)⟩
  by_cases h : d.s < x.s
  ·rw [zfw hx h]
   obtain ⟨h1, h2⟩ := zio l d n (by omega)
   refine ⟨fun j y hj1 hj2 hy => ?_, h2⟩
   by_cases e : j = n
   ·subst e; rw [hx] at hy; cases hy; exact h
   ·exact h1 j y hj1 (by omega) hy
  ·rw [zgn hx h]
   exact ⟨fun j y hj1 hj2 => by omega, fun _ => ⟨x, by simpa using hx, by omega⟩⟩
theorem zkw (l : List Du) (d : Du) : (zae l d).Perm (l ++ [d]) := by
 unfold zae
 have h1 : (l.take (qy l d l.length) ++ d :: l.drop (qy l d l.length)).Perm (d :: (l.take (qy l d l.length) ++ l.drop (qy l d l.length))) := List.perm_middle
 rw [List.take_append_drop] at h1
 exact h1.trans (List.perm_append_singleton d l).symm
set_option maxRecDepth 20000 in
set_option maxHeartbeats 16000000 in
theorem insD_srt {l : List Du} {d : Du} (h : zbs l) (hs : ∀ x ∈ l, x.s = d.s -> x.o < d.o) : zbs (zae l d) := by
 obtain ⟨h1, h2⟩ := zio l d l.length (Nat.le_refl _)
 have hle := zf5 l d l.length
 generalize hc : qy l d l.length = c at *
 unfold zae
 rw [hc]
 have hl : zbs (l.take c ++ l.drop c) := by rw [List.take_append_drop]; exact h
 unfold zbs at *
 obtain ⟨p1, p2, p3⟩ := List.pairwise_append.1 hl
 refine List.pairwise_append.2 ⟨p1, List.pairwise_cons.2 ⟨?_, p2⟩, ?_⟩
 ·intro x hx
  obtain ⟨j, hj, rfl⟩ := List.getElem_of_mem hx
  rw [List.length_drop] at hj
  have := h1 (c + j) (l[c + j]'(by omega)) (by omega) (by omega) (List.getElem?_eq_getElem _)
  rw [List.getElem_drop]
  exact Or.inl this
 ·intro a ha b hb
  rcases List.mem_cons.1 hb with rfl | hb
  ·have hal : a ∈ l := List.mem_of_mem_take ha
   have hc0 : 0 < c := by
    rcases Nat.eq_zero_or_pos c with e | e
    ·subst e; cases ha
    ·exact e
   obtain ⟨x, hx, hxs⟩ := h2 hc0
   obtain ⟨j, hj, rfl⟩ := List.getElem_of_mem ha
   rw [List.length_take] at hj
   have hle2 : ((l.take c)[j]'(by rw [List.length_take]; omega)).s <= x.s := by
    rw [List.getElem_take]
    by_cases e : j = c - 1
    ·subst e
     have := (List.getElem?_eq_some_iff.1 hx).2
     rw [this]; exact Int.le_refl _
    ·have hp := List.pairwise_iff_getElem.1 h j (c - 1) (by omega) (by omega) (by omega)
     have e2 := (List.getElem?_eq_some_iff.1 hx).2
     rw [e2] at hp
     unfold ltD at hp; omega
   by_cases e : ((l.take c)[j]'(by rw [List.length_take]; omega)).s = b.s
   ·exact Or.inr ⟨e, hs _ hal e⟩
   ·exact Or.inl (by omega)
  ·exact p3 a ha b hb
theorem zjs : ∀ {l l' : List Du}, l.Perm l' -> zbs l -> zbs l' -> l = l' := by
 intro l l' hp h h'
 exact List.Perm.eq_of_pairwise (le := ltD) (fun a b _ _ h1 h2 => absurd h2 (zi5 h1)) h h' hp
theorem zft {ds : List Ds} {time : Int} {o : Od} {l : List Du} (he : 1 <= o.e) (h : zbs l) (hl : ∀ x ∈ l, x.o < o.id) : ∀ n, zbs (yg ds time o l n) /\ (yg ds time o l n).Perm (l ++ jh ds time o n)
 | 0 => ⟨h, by simp [yg, jh]⟩
 | n + 1 => by
  obtain ⟨h1, h2⟩ := zft he h hl n
  by_cases hb : yw ds time o n = true
  ·rw [zgq hb, jh, if_pos hb]
   refine ⟨insD_srt h1 (fun x hx hs => ?_), ?_⟩
   ·rcases List.mem_append.1 (h2.mem_iff.1 hx) with hx | hx
    ·exact hl x hx
    ·obtain ⟨t, ht, rfl, _⟩ := zc9 hx
     exfalso
     simp only [jf] at hs
     have h3 : (t : Int) * o.e < (n : Int) * o.e := Int.mul_lt_mul_of_pos_right (by omega) (by omega)
     omega
   ·rw [<- List.append_assoc]
    exact (zkw _ _).trans (h2.append_right _)
  ·have hb' : yw ds time o n = false := by simpa using hb
   rw [zf3 hb', jh, if_neg hb]
   exact ⟨h1, h2⟩
theorem zfy {os : List Od} {ds : List Ds} {time : Int} (hr : Ris os) (he : ∀ i, i < os.length -> 1 <= (os.getD i default).e) : ∀ n, n <= os.length -> zbs (zal os ds time 0 n) /\ (zal os ds time 0 n).Perm (zad os ds time n) /\ ∀ x ∈ zal os ds time 0 n, ∃ j y, j < n /\ os[j]? = some y /\ x.o = y.id
 | 0, _ => ⟨List.Pairwise.nil, List.Perm.refl _, fun x hx => by cases hx⟩
 | n + 1, hn => by
  obtain ⟨h1, h2, h3⟩ := zfy hr he n (by omega)
  obtain ⟨o, ho⟩ : ∃ o, os[n]? = some o := ⟨_, List.getElem?_eq_getElem (by omega)⟩
  have heo := he n (by omega)
  rw [jm ho] at heo
  have hl : ∀ x ∈ zal os ds time 0 n, x.o < o.id := fun x hx => by
   obtain ⟨j, y, hj, hy, hxy⟩ := h3 x hx
   rw [hxy]; exact hr j n y o hj hy ho
  by_cases q : o.s = 2
  ·have hb : zba o 0 = true := by simp [zba, q]
   rw [zfg ho hb, zad, jm ho, if_pos q]
   obtain ⟨k1, k2⟩ := zft (ds := ds) (time := time) heo h1 hl o.c.toNat
   refine ⟨k1, k2.trans (h2.append_right _), fun x hx => ?_⟩
   rcases List.mem_append.1 (k2.mem_iff.1 hx) with hx | hx
   ·obtain ⟨j, y, hj, hy⟩ := h3 x hx; exact ⟨j, y, by omega, hy⟩
   ·obtain ⟨t, ht, rfl, _⟩ := zc9 hx
    exact ⟨n, o, by omega, ho, rfl⟩
  ·have hb : zba o 0 = false := by simp [zba, q]
   rw [zf1 ho hb, zad, jm ho, if_neg q]
   exact ⟨h1, h2, fun x hx => by obtain ⟨j, y, hj, hy⟩ := h3 x hx; exact ⟨j, y, by omega, hy⟩⟩
theorem zjj {ds : List Ds} {time : Int} {o : Od} (he : 1 <= o.e) (n : Nat) : yg ds time o [] n = jh ds time o n := by
 obtain ⟨h1, h2⟩ := zft (ds := ds) (time := time) (l := []) he List.Pairwise.nil (fun x hx => by cases hx) n
 refine zjs (by simpa using h2) h1 ?_
 clear h1 h2
 induction n with
 | zero => exact List.Pairwise.nil
 | succ n ih =>
  unfold jh
  split
  ·refine List.pairwise_append.2 ⟨ih, List.pairwise_singleton _ _, fun a ha b hb => ?_⟩
   rw [List.mem_singleton] at hb
   subst hb
   obtain ⟨t, ht, rfl, _⟩ := zc9 ha
   refine Or.inl ?_
   show o.f + (t : Int) * o.e < o.f + (n : Int) * o.e
   have h3 : (t : Int) * o.e < (n : Int) * o.e := Int.mul_lt_mul_of_pos_right (by omega) (by omega)
   omega
  ·exact ih
theorem zi3 {os : List Od} {ds : List Ds} {time id : Int} {k : Nat} {o : Od} (hr : Ris os) (h0 : id ≠ 0) (ho : os[k]? = some o) (hid : o.id = id) (hs : o.s = 2) (he : 1 <= o.e) : ∀ n, n <= os.length -> zal os ds time id n = if k < n then jh ds time o o.c.toNat else []
 | 0, _ => rfl
 | n + 1, hn => by
  have ih := zi3 hr h0 ho hid hs he n (by omega) (ds := ds) (time := time)
  obtain ⟨x, hx⟩ : ∃ x, os[n]? = some x := ⟨_, List.getElem?_eq_getElem (by omega)⟩
  by_cases q : n = k
  ·subst q
   rw [hx] at ho; cases ho
   rw [zfg hx (by simp [zba, hs, hid]), ih, if_neg (by omega), if_pos (by omega), zjj he]
  ·have hne : x.id ≠ id := by
    rcases Nat.lt_or_gt_of_ne q with q' | q'
    ·have := hr n k x o q' hx ho; omega
    ·have := hr k n o x q' ho hx; omega
   rw [zf1 hx (by simp [zba, h0, hne]), ih]
   by_cases r : k < n
   ·rw [if_pos r, if_pos (by omega)]
   ·rw [if_neg r, if_neg (by omega)]
theorem zhq {os : List Od} {ds : List Ds} {time id : Int} {k : Nat} {o : Od} (hr : Ris os) (h0 : id ≠ 0) (ho : os[k]? = some o) (hid : o.id = id) (hs : o.s = 2) (he : 1 <= o.e) : vg os ds time id = jh ds time o o.c.toNat := by
 unfold vg
 rw [zi3 hr h0 ho hid hs he os.length (Nat.le_refl _), if_pos (List.getElem?_eq_some_iff.1 ho).1]
end Go.Proofs.YtjlpfpigggdemaaGreatDoor.Uo
namespace Go.Proofs.YtjlpfpigggdemaaGreatDoor.Uo
open Va
set_option linter.all false
structure Dd where
 k : Int
 o : Od
 id : Int
 p : Int
 d : Int
 n : Int
 m : Int
 b : Int
 a : Int
def ddB (x : Dd) : Bool :=
 if x.k = 1 then odB x.o && decide (x.o.s = 1)
 else if x.k = 2 ∨ x.k = 3 ∨ x.k = 4 then rng x.id 1 100000
 else if x.k = 5 then rng x.id 1 100000 && (zh x.p && (rng x.d 1 1000 && (rng x.n 1 1000000000 && (zl x.m && (zh x.b && (decide (x.a = -1) || zh x.a))))))
 else false
def yc (s k : Int) : Bool := if k = 2 then decide (s = 1) || decide (s = 3) else if k = 4 then !decide (s = 4) else decide (s = 2)
def za0 (l : List Od) (o : Od) : Nat -> Bool
 | 0 => false
 | n + 1 => za0 l o n || decide (o.id < (l.getD n default).id)
def yu (l : List Od) (o : Od) : Nat -> List Od
 | 0 => []
 | n + 1 => (if za0 l o n = false /\ o.id < (l.getD n default).id then yu l o n ++ [o] else yu l o n) ++ [l.getD n default]
def yl (l : List Od) (o : Od) : List Od := if za0 l o l.length = true then yu l o l.length else yu l o l.length ++ [o]
def zay (ds : List Ds) (m : Int) : Bool := decide (0 < ds.length) && decide (m < (ds.getD (ds.length - 1) default).m)
def zar (os : List Od) (ds : List Ds) (x : Dd) (o : Od) : Int :=
 if x.p ≠ o.p then 6 else if x.d ≠ o.d then 7 else if x.n ≠ o.n then 8 else if (vg os ds x.m x.id).length = 0 then 9
 else if byB o.two x.b x.a = false then 10 else if zay ds x.m = true then 11 else if ds.length = 500 then 12 else 0
def doC (os : List Od) (ds : List Ds) (x : Dd) : Int :=
 if ddB x = false then 2
 else if x.k = 1 then (if 0 <= atO os x.o.id then 3 else if os.length = 100 then 12 else 0)
 else if atO os x.id < 0 then 4
 else if yc (os.getD (atO os x.id).toNat default).s x.k = false then 5
 else if x.k = 5 then zar os ds x (os.getD (atO os x.id).toNat default)
 else 0
def ve (os : List Od) (x : Dd) : List Od :=
 if x.k = 1 then yl os x.o
 else if x.k = 5 then os
 else os.set (atO os x.id).toNat { os.getD (atO os x.id).toNat default with s := x.k }
def qo (os : List Od) (ds : List Ds) (x : Dd) : List Ds :=
 if x.k = 5 then ds ++ [⟨x.id, ((vg os ds x.m x.id).getD 0 default).t, x.m, x.b, x.a⟩] else ds
theorem zga {l : List Od} {o : Od} {k : Nat} (hc : Cut l o.id k) : ∀ n, n <= k -> za0 l o n = false /\ yu l o n = l.take n
 | 0, _ => ⟨rfl, by simp [yu]⟩
 | n + 1, hn => by
  have ih := zga hc n (by omega)
  have hl := hc.1
  obtain ⟨x, hx⟩ : ∃ x, l[n]? = some x := ⟨_, List.getElem?_eq_getElem (by omega)⟩
  have hlt := hc.2.1 n x (by omega) hx
  refine ⟨?_, ?_⟩
  ·rw [za0, ih.1, jm hx, decide_eq_false (by omega)]; rfl
  ·rw [yu, jm hx, if_neg (by omega), ih.2, List.take_add_one, hx]; rfl
theorem zib {l : List Od} {o : Od} {k : Nat} (hc : Cut l o.id k) (hn : qm l o.id k = false) (hr : Ris l) : ∀ d, k + d < l.length -> za0 l o (k + d + 1) = true /\ yu l o (k + d + 1) = l.take k ++ o :: (l.drop k).take (d + 1)
 | 0, hd => by
  have h0 := zga hc k (Nat.le_refl _)
  obtain ⟨x, hx⟩ : ∃ x, l[k]? = some x := ⟨_, List.getElem?_eq_getElem (by omega)⟩
  have hle := hc.2.2 k x (Nat.le_refl _) hx
  have hne : x.id ≠ o.id := by
   intro he
   rw [qm, jm hx, decide_eq_true (by omega : k < l.length), decide_eq_true he] at hn
   cases hn
  refine ⟨?_, ?_⟩
  ·rw [Nat.add_zero, za0, jm hx, decide_eq_true (by omega), Bool.or_true]
  ·rw [Nat.add_zero, yu, jm hx, if_pos ⟨h0.1, by omega⟩, h0.2, List.append_assoc]
   congr 1
   rw [List.take_add_one, List.getElem?_drop, Nat.add_zero, hx]
   rfl
 | d + 1, hd => by
  have ih := zib hc hn hr d (by omega)
  obtain ⟨x, hx⟩ : ∃ x, l[k + d + 1]? = some x := ⟨_, List.getElem?_eq_getElem (by omega)⟩
  rw [show k + (d + 1) + 1 = (k + d + 1) + 1 by omega]
  refine ⟨?_, ?_⟩
  ·rw [za0, ih.1]; rfl
  ·rw [yu, jm hx, if_neg (by rw [ih.1]; simp), ih.2, List.append_assoc]
   congr 1
   rw [List.take_add_one (i := d + 1), List.getElem?_drop, show k + (d + 1) = k + d + 1 by omega, hx]
   rfl
theorem zhj {l : List Od} {o : Od} {k : Nat} (hr : Ris l) (hc : Cut l o.id k) (hn : qm l o.id k = false) : yl l o = l.take k ++ o :: l.drop k := by
 have hl := hc.1
 unfold yl
 by_cases h : k = l.length
 ·have h0 := zga hc k (Nat.le_refl _)
  rw [h] at h0
  rw [h0.1, h0.2, if_neg (by simp), h, List.drop_length]
 ·have h1 := zib hc hn hr (l.length - k - 1) (by omega)
  rw [show k + (l.length - k - 1) + 1 = l.length by omega] at h1
  rw [h1.1, if_pos rfl, h1.2, show l.length - k - 1 + 1 = l.length - k by omega, List.take_of_length_le (l := l.drop k) (by rw [List.length_drop]; omega)]
theorem zfz (l : List Od) (o : Od) : ∀ n, (yu l o n).length <= n + 1 /\ (za0 l o n = false -> (yu l o n).length = n)
 | 0 => by simp [yu]
 | n + 1 => by
  have ih := zfz l o n
  rw [yu, za0]
  refine ⟨?_, fun h => ?_⟩
  ·split
   ·rename_i h; simp only [List.length_append, List.length_singleton, ih.2 h.1]; omega
   ·simp only [List.length_append, List.length_singleton]; omega
  ·rw [Bool.or_eq_false_iff] at h
   rw [if_neg (by rw [decide_eq_false_iff_not] at h; exact fun q => h.2 q.2)]
   simp only [List.length_append, List.length_singleton, ih.2 h.1]
end Go.Proofs.YtjlpfpigggdemaaGreatDoor.Uo
namespace Go.Proofs.YtjlpfpigggdemaaGreatDoor
open Go.RowKit Va Uo
set_option linter.all false
def aDd (x : Dd) : Value := .agg #[.int .i64 x.k, .int .i64 x.o.id, .int .i64 x.o.p, .int .i64 x.o.d, .int .i64 x.o.n, .int .i64 x.o.f, .int .i64 x.o.e, .int .i64 x.o.c, .int .i64 x.o.s, .bool x.o.two, .int .i64 x.id, .int .i64 x.p, .int .i64 x.d, .int .i64 x.n, .int .i64 x.m, .int .i64 x.b, .int .i64 x.a]
def kz (k c : Int) : Value := .iface 115 (.agg #[.int .i64 k, .iface 79 (.int .i64 c)])
set_option maxRecDepth 20000 in
set_option maxHeartbeats 16000000 in
theorem zer (s k : Int) (w : World) : Calls Tryz.prog 79 #[.int .i64 s, .int .i64 k] w fun e w' => e = .returned (.bool (yc s k)) /\ w = w' := by
 have HV : Hid (yc s k = if k = 2 then decide (s = 1) || decide (s = 3) else if k = 4 then !decide (s = 4) else decide (s = 2)) := rfl
 generalize yc s k = R at *
 by_cases h2 : k = 2
 ·subst h2
  by_cases h1 : s = 1
  ·subst h1
   obtain rfl : R = true := by rw [HV.out]; simp
   go_enter Tryz.func79, Tryz.ntmps79
   go_wp2
   all_goals (go_ret; exact ⟨rfl, rfl⟩)
  ·obtain rfl : R = decide (s = 3) := by rw [HV.out]; simp [h1]
   go_enter Tryz.func79, Tryz.ntmps79
   go_wp2
   all_goals (go_ret; exact ⟨by first | rfl | exact qw (by first | (simp; done) | (simp; omega) | (simp_all; done) | (simp_all; omega) | (rw [Bool.eq_iff_iff]; simp; omega) | (rw [Bool.eq_iff_iff]; simp_all; omega)), rfl⟩)
 ·by_cases h4 : k = 4
  ·subst h4
   obtain rfl : R = !decide (s = 4) := by rw [HV.out]; simp
   go_enter Tryz.func79, Tryz.ntmps79
   go_wp2
   all_goals (go_ret; exact ⟨by first | rfl | exact qw (by first | (simp; done) | (simp; omega) | (simp_all; done) | (simp_all; omega) | (rw [Bool.eq_iff_iff]; simp; omega) | (rw [Bool.eq_iff_iff]; simp_all; omega)), rfl⟩)
  ·obtain rfl : R = decide (s = 2) := by rw [HV.out]; simp [h2, h4]
   go_enter Tryz.func79, Tryz.ntmps79
   go_wp2
   all_goals (go_ret; exact ⟨by first | rfl | exact qw (by first | (simp; done) | (simp; omega) | (simp_all; done) | (simp_all; omega) | (rw [Bool.eq_iff_iff]; simp; omega) | (rw [Bool.eq_iff_iff]; simp_all; omega)), rfl⟩)
theorem istop_no (x : Dd) (c : Int) (w : World) : Calls Tryz.prog 44 #[aDd x, .bool false, .int .i64 c] w fun e w' => e = .returned (.tuple #[]) /\ Below w.heap.size w w' := by
 unfold aDd
 go_enter Tryz.func44, Tryz.ntmps44
 go_wp2
 go_end0
 exact ⟨rfl, (Below.refl _ _).alloc (Nat.le_refl _) _⟩
theorem zko (x : Dd) (c : Int) (w : World) : Calls Tryz.prog 44 #[aDd x, .bool true, .int .i64 c] w fun e w' => e = .panicked [{ v := kz x.k c, recovered := false }] /\ Below w.heap.size w w' := by
 unfold aDd kz
 go_enter Tryz.func44, Tryz.ntmps44
 go_wp2
 exact ⟨rfl, rfl, (Below.refl _ _).alloc (Nat.le_refl _) _⟩
theorem PB.deed {W : World} {B : Nat} {t : TypeId} {v0 v1 v2 v3 v4 v5 v6 v7 v8 v9 v10 v11 v12 v13 v14 v15 v16 : Value} (h : PB W B #[v0, v1, v2, v3, v4, v5, v6, v7, v8, v9, v10, v11, v12, v13, v14, v15, v16] t) :
  W.cell? ⟨B, 0, none⟩ = some v0 /\ (W.cell? ⟨B, 1, none⟩ = some v1 /\ W.cell? ⟨B, 2, none⟩ = some v2 /\ W.cell? ⟨B, 3, none⟩ = some v3 /\ W.cell? ⟨B, 4, none⟩ = some v4 /\ W.cell? ⟨B, 5, none⟩ = some v5 /\ W.cell? ⟨B, 6, none⟩ = some v6 /\ W.cell? ⟨B, 7, none⟩ = some v7 /\ W.cell? ⟨B, 8, none⟩ = some v8 /\ W.cell? ⟨B, 9, none⟩ = some v9) /\ W.cell? ⟨B, 10, none⟩ = some v10 /\ W.cell? ⟨B, 11, none⟩ = some v11 /\ W.cell? ⟨B, 12, none⟩ = some v12 /\ W.cell? ⟨B, 13, none⟩ = some v13 /\ W.cell? ⟨B, 14, none⟩ = some v14 /\ W.cell? ⟨B, 15, none⟩ = some v15 /\ W.cell? ⟨B, 16, none⟩ = some v16 :=
 ⟨h.cell 0, ⟨h.cell 1, h.cell 2, h.cell 3, h.cell 4, h.cell 5, h.cell 6, h.cell 7, h.cell 8, h.cell 9⟩, h.cell 10, h.cell 11, h.cell 12, h.cell 13, h.cell 14, h.cell 15, h.cell 16⟩
set_option maxRecDepth 20000 in
set_option maxHeartbeats 16000000 in
theorem zlc (x : Dd) (s : Int) (w : World) (hk : x.k = 2 ∨ x.k = 3 ∨ x.k = 4) : Calls Tryz.prog 76 #[aDd x, .int .i64 s] w fun e w' => e = .returned (.int .i64 (if yc s x.k = true then x.k else 0)) /\ Below w.heap.size w w' := by
 obtain ⟨k, o, id, p, d, n, m, b, a⟩ := x
 have e2 : yc s 2 = (decide (s = 1) || decide (s = 3)) := rfl
 have e3 : yc s 3 = decide (s = 2) := rfl
 have e4 : yc s 4 = !decide (s = 4) := rfl
 dsimp only at hk
 unfold aDd
 dsimp only
 rcases hk with rfl | rfl | rfl
 ·rw [e2]
  clear e2 e3 e4
  by_cases h1 : s = 1
  ·subst h1
   go_enter Tryz.func76, Tryz.ntmps76
   go_wp2
   all_goals (go_ret; exact ⟨by simp, (Below.refl _ _).alloc (Nat.le_refl _) _⟩)
  ·by_cases h3 : s = 3
   ·subst h3
    go_enter Tryz.func76, Tryz.ntmps76
    go_wp2
    all_goals (go_ret; exact ⟨by simp, (Below.refl _ _).alloc (Nat.le_refl _) _⟩)
   ·go_enter Tryz.func76, Tryz.ntmps76
    go_wp2
    all_goals (go_ret; exact ⟨by first | (simp [h1, h3]; done) | (simp_all; done), (Below.refl _ _).alloc (Nat.le_refl _) _⟩)
 ·rw [e3]
  clear e2 e3 e4
  by_cases h2 : s = 2
  ·subst h2
   go_enter Tryz.func76, Tryz.ntmps76
   go_wp2
   all_goals (go_ret; exact ⟨by simp, (Below.refl _ _).alloc (Nat.le_refl _) _⟩)
  ·go_enter Tryz.func76, Tryz.ntmps76
   go_wp2
   all_goals (go_ret; exact ⟨by first | (simp [h2]; done) | (simp_all; done), (Below.refl _ _).alloc (Nat.le_refl _) _⟩)
 ·rw [e4]
  clear e2 e3 e4
  by_cases h4 : s = 4
  ·subst h4
   go_enter Tryz.func76, Tryz.ntmps76
   go_wp2
   all_goals (go_ret; exact ⟨by simp, (Below.refl _ _).alloc (Nat.le_refl _) _⟩)
  ·go_enter Tryz.func76, Tryz.ntmps76
   go_wp2
   all_goals (go_ret; exact ⟨by first | (simp [h4]; done) | (simp_all; done), (Below.refl _ _).alloc (Nat.le_refl _) _⟩)
end Go.Proofs.YtjlpfpigggdemaaGreatDoor
namespace Go.Proofs.YtjlpfpigggdemaaGreatDoor
open Go.RowKit Va Go.Maps
set_option linter.unusedVariables false
theorem zdx (w : World) (t : TypeId) (s : Nat) : (w.alloc (.cells #[] t)).ownsRow w.heap.size t s (.slice (some ⟨w.heap.size, 0, none⟩) 0 0) 0 [] :=
 ⟨by simp, .inr ⟨w.heap.size, 0, #[], rfl, Nat.le_refl _, (MapKept.heap_alloc w _).1, Nat.le_refl _, Nat.zero_le _, by simp, by simp⟩⟩
theorem zcw {w : World} {b e s n : Nat} {v : Value} {xs : List Value} (h : w.ownsRow b e s v n xs) : ∀ k, v.ownBlock = some k -> b <= k /\ k < w.heap.size := by
 obtain ⟨_, ⟨rfl, _⟩ | ⟨g, cap, cur, rfl, hb, hh, _⟩⟩ := h
 ·intro k hk; cases hk
 ·intro k hk
  obtain rfl : g = k := by simpa [Value.ownBlock] using hk
  exact ⟨hb, (Array.getElem?_eq_some_iff.1 hh).1⟩
theorem zc5 {w : World} {b e s n : Nat} {v : Value} {xs : List Value} (h : w.ownsRow b e s v n xs) : ∃ ad c, v = .slice ad n c := by
 obtain ⟨_, ⟨rfl, rfl⟩ | ⟨g, cap, cur, rfl, _⟩⟩ := h
 ·exact ⟨_, _, rfl⟩
 ·exact ⟨_, _, rfl⟩
theorem zam {w w' : World} {b e s n : Nat} {v : Value} {xs : List Value} (h : w.ownsRow b e s v n xs) (hb : Below w.heap.size w w') : w'.ownsRow b e s v n xs := by
 obtain ⟨q, ⟨q1, q2⟩ | ⟨g, c, cur, rfl, hg, hh, r⟩⟩ := h
 ·exact ⟨q, Or.inl ⟨q1, q2⟩⟩
 ·exact ⟨q, Or.inr ⟨g, c, cur, rfl, hg, (hb.block g (Array.getElem?_eq_some_iff.1 hh).1).trans hh, r⟩⟩
theorem zfe {P : Program} {t : TypeId} {z : Value} {n b : Nat} (h : (P.info? t).map (fun i => (i.zero, i.size, i.bytes)) = some (some z, n, b)) : ∃ i, P.info? t = some i /\ i.zero = some z /\ i.size = n /\ i.bytes = b := by
 obtain ⟨i, h1, h2⟩ := Option.map_eq_some_iff.1 h
 simp only [Prod.mk.injEq] at h2
 exact ⟨i, h1, h2.1, h2.2.1, h2.2.2⟩
theorem zc7 {w : World} {b b' e s n : Nat} {v : Value} {xs : List Value} (h : w.ownsRow b e s v n xs) (hb : b' <= b) : w.ownsRow b' e s v n xs := by
 obtain ⟨q, ⟨q1, q2⟩ | ⟨g, c, cur, rfl, hg, r⟩⟩ := h
 ·exact ⟨q, Or.inl ⟨q1, q2⟩⟩
 ·exact ⟨q, Or.inr ⟨g, c, cur, rfl, Nat.le_trans hb hg, r⟩⟩
end Go.Proofs.YtjlpfpigggdemaaGreatDoor
namespace Go.Proofs.YtjlpfpigggdemaaGreatDoor
open Go.RowKit Va Ua
set_option linter.all false
theorem zd9 (p : Int) (w : World) : Calls Tryz.prog 39 #[.int .i64 p] w fun e w' => e = .returned (.bool (rng p 0 999)) /\ w = w' := by
 have h1 := zbe p 0 999
 go_enter Tryz.func39, Tryz.ntmps39
 go_wp2_with (with_reducible (refine (h1 _).mono ?_); rintro e w1 ⟨rfl, rfl⟩)
 go_ret
 exact ⟨rfl, rfl⟩
end Go.Proofs.YtjlpfpigggdemaaGreatDoor
