/-
 Merged: Uc U20 U12.
-/
import Derived.Test.YtjlpfpigggdemaaGreatDoorMi2
import Derived.Test.YtjlpfpigggdemaaGreatDoorMi3
import Derived.Maps.AppendAt
namespace Go.Proofs.YtjlpfpigggdemaaGreatDoor
set_option maxRecDepth 8000
set_option maxHeartbeats 4000000
open Go.RowKit Va Uo
set_option linter.all false
theorem ze7 (p : Int) (w : World) : Calls Tryz.prog 23 #[.int .i64 p] w fun e w' => e = .returned (.bool (zl p)) /\ w = w' := by
 have h1 := zbe p 0 10000000
 unfold zl
 go_enter Tryz.func23, Tryz.ntmps23
 go_wp2_with (with_reducible (refine (h1 _).mono ?_); rintro e w1 ⟨rfl, rfl⟩)
 go_ret
 exact ⟨rfl, rfl⟩
set_option maxRecDepth 20000 in
set_option maxHeartbeats 16000000 in
theorem zhk (x : Od) (w : World) : Calls Tryz.prog 36 #[aOd x] w fun e w' => e = .returned (.bool (odB x)) /\ Below w.heap.size w w' := by
 have k1 := zbe x.id 1 100000
 have k2 := zd9 x.p
 have k3 := zbe x.d 1 1000
 have k4 := zbe x.n 1 1000000000
 have k5 := ze7 x.f
 have k6 := zbe x.e 1 1440
 have k7 := zbe x.c 1 200
 have k8 := zbe x.s 1 4
 unfold odB aOd zh
 generalize rng x.id 1 100000 = t1 at *
 generalize rng x.p 0 999 = t2 at *
 generalize rng x.d 1 1000 = t3 at *
 generalize rng x.n 1 1000000000 = t4 at *
 generalize zl x.f = t5 at *
 generalize rng x.e 1 1440 = t6 at *
 generalize rng x.c 1 200 = t7 at *
 generalize rng x.s 1 4 = t8 at *
 rcases t1 with _ | _
 ·go_enter Tryz.func36, Tryz.ntmps36
  go_wp2_with (with_reducible (first | refine (k1 _).mono ?_ | refine (k2 _).mono ?_ | refine (k3 _).mono ?_ | refine (k4 _).mono ?_ | refine (k5 _).mono ?_ | refine (k6 _).mono ?_ | refine (k7 _).mono ?_ | refine (k8 _).mono ?_); rintro e w1 ⟨rfl, rfl⟩)
  go_ret
  exact ⟨by simp, by repeat (first | exact Below.refl _ _ | assumption | refine jq ?_ | refine zao ?_ _ | refine Below.setCell ?_ (by first | omega | (simp; done) | (simp; omega)) _ | refine Below.alloc ?_ (by first | omega | (simp; done) | (simp; omega)) _)⟩
 rcases t2 with _ | _
 ·go_enter Tryz.func36, Tryz.ntmps36
  go_wp2_with (with_reducible (first | refine (k1 _).mono ?_ | refine (k2 _).mono ?_ | refine (k3 _).mono ?_ | refine (k4 _).mono ?_ | refine (k5 _).mono ?_ | refine (k6 _).mono ?_ | refine (k7 _).mono ?_ | refine (k8 _).mono ?_); rintro e w1 ⟨rfl, rfl⟩)
  go_ret
  exact ⟨by simp, by repeat (first | exact Below.refl _ _ | assumption | refine jq ?_ | refine zao ?_ _ | refine Below.setCell ?_ (by first | omega | (simp; done) | (simp; omega)) _ | refine Below.alloc ?_ (by first | omega | (simp; done) | (simp; omega)) _)⟩
 rcases t3 with _ | _
 ·go_enter Tryz.func36, Tryz.ntmps36
  go_wp2_with (with_reducible (first | refine (k1 _).mono ?_ | refine (k2 _).mono ?_ | refine (k3 _).mono ?_ | refine (k4 _).mono ?_ | refine (k5 _).mono ?_ | refine (k6 _).mono ?_ | refine (k7 _).mono ?_ | refine (k8 _).mono ?_); rintro e w1 ⟨rfl, rfl⟩)
  go_ret
  exact ⟨by simp, by repeat (first | exact Below.refl _ _ | assumption | refine jq ?_ | refine zao ?_ _ | refine Below.setCell ?_ (by first | omega | (simp; done) | (simp; omega)) _ | refine Below.alloc ?_ (by first | omega | (simp; done) | (simp; omega)) _)⟩
 rcases t4 with _ | _
 ·go_enter Tryz.func36, Tryz.ntmps36
  go_wp2_with (with_reducible (first | refine (k1 _).mono ?_ | refine (k2 _).mono ?_ | refine (k3 _).mono ?_ | refine (k4 _).mono ?_ | refine (k5 _).mono ?_ | refine (k6 _).mono ?_ | refine (k7 _).mono ?_ | refine (k8 _).mono ?_); rintro e w1 ⟨rfl, rfl⟩)
  go_ret
  exact ⟨by simp, by repeat (first | exact Below.refl _ _ | assumption | refine jq ?_ | refine zao ?_ _ | refine Below.setCell ?_ (by first | omega | (simp; done) | (simp; omega)) _ | refine Below.alloc ?_ (by first | omega | (simp; done) | (simp; omega)) _)⟩
 rcases t5 with _ | _
 ·go_enter Tryz.func36, Tryz.ntmps36
  go_wp2_with (with_reducible (first | refine (k1 _).mono ?_ | refine (k2 _).mono ?_ | refine (k3 _).mono ?_ | refine (k4 _).mono ?_ | refine (k5 _).mono ?_ | refine (k6 _).mono ?_ | refine (k7 _).mono ?_ | refine (k8 _).mono ?_); rintro e w1 ⟨rfl, rfl⟩)
  go_ret
  exact ⟨by simp, by repeat (first | exact Below.refl _ _ | assumption | refine jq ?_ | refine zao ?_ _ | refine Below.setCell ?_ (by first | omega | (simp; done) | (simp; omega)) _ | refine Below.alloc ?_ (by first | omega | (simp; done) | (simp; omega)) _)⟩
 rcases t6 with _ | _
 ·go_enter Tryz.func36, Tryz.ntmps36
  go_wp2_with (with_reducible (first | refine (k1 _).mono ?_ | refine (k2 _).mono ?_ | refine (k3 _).mono ?_ | refine (k4 _).mono ?_ | refine (k5 _).mono ?_ | refine (k6 _).mono ?_ | refine (k7 _).mono ?_ | refine (k8 _).mono ?_); rintro e w1 ⟨rfl, rfl⟩)
  go_ret
  exact ⟨by simp, by repeat (first | exact Below.refl _ _ | assumption | refine jq ?_ | refine zao ?_ _ | refine Below.setCell ?_ (by first | omega | (simp; done) | (simp; omega)) _ | refine Below.alloc ?_ (by first | omega | (simp; done) | (simp; omega)) _)⟩
 rcases t7 with _ | _
 ·go_enter Tryz.func36, Tryz.ntmps36
  go_wp2_with (with_reducible (first | refine (k1 _).mono ?_ | refine (k2 _).mono ?_ | refine (k3 _).mono ?_ | refine (k4 _).mono ?_ | refine (k5 _).mono ?_ | refine (k6 _).mono ?_ | refine (k7 _).mono ?_ | refine (k8 _).mono ?_); rintro e w1 ⟨rfl, rfl⟩)
  go_ret
  exact ⟨by simp, by repeat (first | exact Below.refl _ _ | assumption | refine jq ?_ | refine zao ?_ _ | refine Below.setCell ?_ (by first | omega | (simp; done) | (simp; omega)) _ | refine Below.alloc ?_ (by first | omega | (simp; done) | (simp; omega)) _)⟩
 rcases t8 with _ | _
 ·go_enter Tryz.func36, Tryz.ntmps36
  go_wp2_with (with_reducible (first | refine (k1 _).mono ?_ | refine (k2 _).mono ?_ | refine (k3 _).mono ?_ | refine (k4 _).mono ?_ | refine (k5 _).mono ?_ | refine (k6 _).mono ?_ | refine (k7 _).mono ?_ | refine (k8 _).mono ?_); rintro e w1 ⟨rfl, rfl⟩)
  go_ret
  exact ⟨by simp, by repeat (first | exact Below.refl _ _ | assumption | refine jq ?_ | refine zao ?_ _ | refine Below.setCell ?_ (by first | omega | (simp; done) | (simp; omega)) _ | refine Below.alloc ?_ (by first | omega | (simp; done) | (simp; omega)) _)⟩
 go_enter Tryz.func36, Tryz.ntmps36
 go_wp2_with (with_reducible (first | refine (k1 _).mono ?_ | refine (k2 _).mono ?_ | refine (k3 _).mono ?_ | refine (k4 _).mono ?_ | refine (k5 _).mono ?_ | refine (k6 _).mono ?_ | refine (k7 _).mono ?_ | refine (k8 _).mono ?_); rintro e w1 ⟨rfl, rfl⟩)
 go_ret
 exact ⟨rfl, by repeat (first | exact Below.refl _ _ | assumption | refine jq ?_ | refine zao ?_ _ | refine Below.setCell ?_ (by first | omega | (simp; done) | (simp; omega)) _ | refine Below.alloc ?_ (by first | omega | (simp; done) | (simp; omega)) _)⟩
set_option maxRecDepth 20000 in
set_option maxHeartbeats 16000000 in
theorem zb7 (ao : Option Addr) (n cap : Nat) (l : List Od) (id : Int) (w : World) (h : VRw 9 jd w (.slice ao n cap) l) (hn : l.length <= 1048576) :
  Calls Tryz.prog 37 #[.slice ao n cap, .int .i64 id] w fun e w' => e = .returned (.int .i64 (atO l id)) /\ w' = w := by
 obtain rfl := h.len
 have HH := hidden h
 clear h
 go_enter Tryz.func37, Tryz.ntmps37
 go_wp2_with fail
 go_loopw [5] (fun iv wr => wr = w /\ ∃ i : Nat, i <= l.length /\ iv = .int .i64 i /\ Hid (zab l id i = -1)) (fun iv _ => l.length - (intOf iv).toNat)
 case atStart => exact ⟨rfl, 0, Nat.zero_le _, rfl, rfl⟩
 case round =>
  obtain ⟨rfl, i, hi, rfl, hok⟩ := hrel
  by_cases hlt : i < l.length
  ·have hlti : (i : Int) < (l.length : Int) := by omega
   obtain ⟨x, hx⟩ := zaa l i hlt
   obtain ⟨g, off, rfl, hg, hcs⟩ := HH.out.at hx
   have c0 : wr.cell? ⟨g, off + i * 9, none⟩ = some (.int .i64 x.id) := hcs 0 (by omega)
   have HX := hidden hx
   clear hcs hx
   by_cases q : x.id = id
   ·have HA : Hid (atO l id = (i : Int)) := zgf HX.out hok.out q
    subst q
    go_wp2_with fail
    go_ret
    exact ⟨by rw [HA.out]; rfl, rfl⟩
   ·have HA : Hid (zab l id (i + 1) = -1) := zh9 HX.out hok.out q
    go_wp2_with fail
    go_roundw
    case rel => exact ⟨by first | rfl | trivial, i + 1, by omega, rfl, HA⟩
    case measure => simp [intOf]; omega
  ·have hlti : ¬ (i : Int) < (l.length : Int) := by omega
   have HA : Hid (atO l id = -1) := by have := hok.out; rw [show i = l.length by omega] at this; exact this
   go_wp2_with fail
   go_ret
   exact ⟨by rw [HA.out]; rfl, rfl⟩
set_option maxRecDepth 20000 in
set_option maxHeartbeats 16000000 in
theorem zht (x : Od) (b a : Int) (w : World) : Calls Tryz.prog 40 #[aOd x, .int .i64 b, .int .i64 a] w fun e w' => e = .returned (.bool (byB x.two b a)) /\ Below w.heap.size w w' := by
 obtain ⟨i1, i2, i3, i4, i5, i6, i7, i8, two⟩ := x
 unfold aOd byB
 dsimp only
 by_cases h1 : a = -1
 ·subst h1
  rcases two with _ | _
  ·go_enter Tryz.func40, Tryz.ntmps40
   go_wp2_with fail
   go_ret
   exact ⟨rfl, by repeat (first | exact Below.refl _ _ | assumption | refine jq ?_ | refine zao ?_ _ | refine Below.setCell ?_ (by first | omega | (simp; done) | (simp; omega)) _ | refine Below.alloc ?_ (by first | omega | (simp; done) | (simp; omega)) _)⟩
  ·go_enter Tryz.func40, Tryz.ntmps40
   go_wp2_with fail
   go_ret
   exact ⟨by simp, by repeat (first | exact Below.refl _ _ | assumption | refine jq ?_ | refine zao ?_ _ | refine Below.setCell ?_ (by first | omega | (simp; done) | (simp; omega)) _ | refine Below.alloc ?_ (by first | omega | (simp; done) | (simp; omega)) _)⟩
 ·have h2 : (a == -1) = false := by simpa using h1
  rcases two with _ | _
  ·go_enter Tryz.func40, Tryz.ntmps40
   go_wp2_with fail
   go_ret
   exact ⟨by simp [h1], by repeat (first | exact Below.refl _ _ | assumption | refine jq ?_ | refine zao ?_ _ | refine Below.setCell ?_ (by first | omega | (simp; done) | (simp; omega)) _ | refine Below.alloc ?_ (by first | omega | (simp; done) | (simp; omega)) _)⟩
  ·by_cases h3 : a = b
   ·subst h3
    go_enter Tryz.func40, Tryz.ntmps40
    go_wp2_with fail
    go_ret
    exact ⟨by simp, by repeat (first | exact Below.refl _ _ | assumption | refine jq ?_ | refine zao ?_ _ | refine Below.setCell ?_ (by first | omega | (simp; done) | (simp; omega)) _ | refine Below.alloc ?_ (by first | omega | (simp; done) | (simp; omega)) _)⟩
   ·go_enter Tryz.func40, Tryz.ntmps40
    go_wp2_with fail
    go_ret
    exact ⟨by simp [h1, h3], by repeat (first | exact Below.refl _ _ | assumption | refine jq ?_ | refine zao ?_ _ | refine Below.setCell ?_ (by first | omega | (simp; done) | (simp; omega)) _ | refine Below.alloc ?_ (by first | omega | (simp; done) | (simp; omega)) _)⟩
end Go.Proofs.YtjlpfpigggdemaaGreatDoor
namespace Go.Proofs.YtjlpfpigggdemaaGreatDoor
open Go.RowKit Va Uo
set_option linter.all false
theorem zld (x : Int) (w : World) : Calls Tryz.prog 23 #[.int .i64 x] w fun e w' => e = .returned (.bool (rng x 0 10000000)) /\ w = w' := ze7 x w
set_option maxRecDepth 20000 in
set_option maxHeartbeats 16000000 in
theorem zb1 (x : Dd) (w : World) : Calls Tryz.prog 78 #[aDd x] w fun e w' => e = .returned (.bool (ddB x)) /\ Below w.heap.size w w' := by
 obtain ⟨k, o, id, p, d, n, m, b, a⟩ := x
 have HV : Hid (ddB ⟨k, o, id, p, d, n, m, b, a⟩ = if k = 1 then odB o && decide (o.s = 1) else if k = 2 ∨ k = 3 ∨ k = 4 then rng id 1 100000 else if k = 5 then rng id 1 100000 && (rng p 0 999 && (rng d 1 1000 && (rng n 1 1000000000 && (rng m 0 10000000 && (rng b 0 999 && (decide (a = -1) || rng a 0 999)))))) else false) := rfl
 have k1 := zhk o
 have k2 := zbe id 1 100000
 have k3 := zd9 p
 have k4 := zbe d 1 1000
 have k5 := zbe n 1 1000000000
 have k6 := zld m
 have k7 := zd9 b
 have k8 := zd9 a
 unfold aDd
 dsimp only
 generalize rng id 1 100000 = t1 at *
 generalize rng p 0 999 = t2 at *
 generalize rng d 1 1000 = t3 at *
 generalize rng n 1 1000000000 = t4 at *
 generalize rng m 0 10000000 = t5 at *
 generalize rng b 0 999 = t6 at *
 generalize ht7 : rng a 0 999 = t7 at *
 generalize ddB ⟨k, o, id, p, d, n, m, b, a⟩ = R at *
 have hP := PB.new w #[.int .i64 k, .int .i64 o.id, .int .i64 o.p, .int .i64 o.d, .int .i64 o.n, .int .i64 o.f, .int .i64 o.e, .int .i64 o.c, .int .i64 o.s, .bool o.two, .int .i64 id, .int .i64 p, .int .i64 d, .int .i64 n, .int .i64 m, .int .i64 b, .int .i64 a] 40
 have hb0 : Below w.heap.size w (w.alloc (.cells #[.int .i64 k, .int .i64 o.id, .int .i64 o.p, .int .i64 o.d, .int .i64 o.n, .int .i64 o.f, .int .i64 o.e, .int .i64 o.c, .int .i64 o.s, .bool o.two, .int .i64 id, .int .i64 p, .int .i64 d, .int .i64 n, .int .i64 m, .int .i64 b, .int .i64 a] 40)) := (Below.refl _ _).alloc (Nat.le_refl _) _
 by_cases h1 : k = 1
 ·subst h1
  clear k2 k3 k4 k5 k6 k7 k8
  obtain rfl : R = (odB o && decide (o.s = 1)) := by rw [HV.out, if_pos rfl]
  clear HV
  unfold aOd at k1
  generalize odB o = ob at *
  go_enter Tryz.func78, Tryz.ntmps78
  go_upto_region 1 with fail
  generalize w.alloc (.cells #[.int .i64 1, .int .i64 o.id, .int .i64 o.p, .int .i64 o.d, .int .i64 o.n, .int .i64 o.f, .int .i64 o.e, .int .i64 o.c, .int .i64 o.s, .bool o.two, .int .i64 id, .int .i64 p, .int .i64 d, .int .i64 n, .int .i64 m, .int .i64 b, .int .i64 a] 40) = wA at *
  have hs0 := hb0.size
  generalize hBB : w.heap.size = B at *
  have hP2 := hP
  obtain ⟨c0, ⟨c1, c2, c3, c4, c5, c6, c7, c8, c9⟩, c10, c11, c12, c13, c14, c15, c16⟩ := hP2.deed
  clear hP2
  rcases ob with _ | _
  ·go_wp2_with (with_reducible (refine (k1 _).mono ?_); rintro e w1 ⟨rfl, hb1⟩)
   all_goals (go_ret; exact ⟨by first | rfl | (simp; done), by first | exact hb0.trans (hb1.mono hs0) | (rw [hBB]; exact hb0.trans (hb1.mono hs0))⟩)
  ·go_wp2_with (with_reducible (refine (k1 _).mono ?_); rintro e w1 ⟨rfl, hb1⟩; have q8 : w1.cell? ⟨B, 8, none⟩ = some (.int .i64 o.s) := (hP.below hb1).deed.2.1.2.2.2.2.2.2.2.1)
   all_goals (go_ret; exact ⟨by first | rfl | exact qw (by first | (simp; done) | (simp; omega) | (simp_all; done) | (simp_all; omega) | (rw [Bool.eq_iff_iff]; simp; omega) | (rw [Bool.eq_iff_iff]; simp_all; omega)), by first | exact hb0.trans (hb1.mono hs0) | (rw [hBB]; exact hb0.trans (hb1.mono hs0))⟩)
 by_cases h2 : k = 2 ∨ k = 3 ∨ k = 4
 ·obtain rfl : R = t1 := by rw [HV.out, if_neg h1, if_pos h2]
  clear HV k1 k3 k4 k5 k6 k7 k8 hP h1
  rcases h2 with rfl | rfl | rfl
  ·go_enter Tryz.func78, Tryz.ntmps78
   go_wp2_with (with_reducible (refine (k2 _).mono ?_); rintro e w1 ⟨rfl, rfl⟩)
   all_goals (go_ret; exact ⟨rfl, hb0⟩)
  ·go_enter Tryz.func78, Tryz.ntmps78
   go_wp2_with (with_reducible (refine (k2 _).mono ?_); rintro e w1 ⟨rfl, rfl⟩)
   all_goals (go_ret; exact ⟨rfl, hb0⟩)
  ·go_enter Tryz.func78, Tryz.ntmps78
   go_wp2_with (with_reducible (refine (k2 _).mono ?_); rintro e w1 ⟨rfl, rfl⟩)
   all_goals (go_ret; exact ⟨rfl, hb0⟩)
 by_cases h5 : k = 5
 ·subst h5
  obtain rfl : R = (t1 && (t2 && (t3 && (t4 && (t5 && (t6 && (decide (a = -1) || t7))))))) := by rw [HV.out, if_neg h1, if_neg h2, if_pos rfl]
  clear HV k1 hP h1 h2
  rcases t1 with _ | _
  ·go_enter Tryz.func78, Tryz.ntmps78
   go_wp2_with (with_reducible (first | refine (k2 _).mono ?_ | refine (k3 _).mono ?_ | refine (k4 _).mono ?_ | refine (k5 _).mono ?_ | refine (k6 _).mono ?_ | refine (k7 _).mono ?_ | refine (k8 _).mono ?_); rintro e w1 ⟨rfl, rfl⟩)
   all_goals (go_ret; exact ⟨by first | rfl | (simp; done), hb0⟩)
  rcases t2 with _ | _
  ·go_enter Tryz.func78, Tryz.ntmps78
   go_wp2_with (with_reducible (first | refine (k2 _).mono ?_ | refine (k3 _).mono ?_ | refine (k4 _).mono ?_ | refine (k5 _).mono ?_ | refine (k6 _).mono ?_ | refine (k7 _).mono ?_ | refine (k8 _).mono ?_); rintro e w1 ⟨rfl, rfl⟩)
   all_goals (go_ret; exact ⟨by first | rfl | (simp; done), hb0⟩)
  rcases t3 with _ | _
  ·go_enter Tryz.func78, Tryz.ntmps78
   go_wp2_with (with_reducible (first | refine (k2 _).mono ?_ | refine (k3 _).mono ?_ | refine (k4 _).mono ?_ | refine (k5 _).mono ?_ | refine (k6 _).mono ?_ | refine (k7 _).mono ?_ | refine (k8 _).mono ?_); rintro e w1 ⟨rfl, rfl⟩)
   all_goals (go_ret; exact ⟨by first | rfl | (simp; done), hb0⟩)
  rcases t4 with _ | _
  ·go_enter Tryz.func78, Tryz.ntmps78
   go_wp2_with (with_reducible (first | refine (k2 _).mono ?_ | refine (k3 _).mono ?_ | refine (k4 _).mono ?_ | refine (k5 _).mono ?_ | refine (k6 _).mono ?_ | refine (k7 _).mono ?_ | refine (k8 _).mono ?_); rintro e w1 ⟨rfl, rfl⟩)
   all_goals (go_ret; exact ⟨by first | rfl | (simp; done), hb0⟩)
  rcases t5 with _ | _
  ·go_enter Tryz.func78, Tryz.ntmps78
   go_wp2_with (with_reducible (first | refine (k2 _).mono ?_ | refine (k3 _).mono ?_ | refine (k4 _).mono ?_ | refine (k5 _).mono ?_ | refine (k6 _).mono ?_ | refine (k7 _).mono ?_ | refine (k8 _).mono ?_); rintro e w1 ⟨rfl, rfl⟩)
   all_goals (go_ret; exact ⟨by first | rfl | (simp; done), hb0⟩)
  rcases t6 with _ | _
  ·go_enter Tryz.func78, Tryz.ntmps78
   go_wp2_with (with_reducible (first | refine (k2 _).mono ?_ | refine (k3 _).mono ?_ | refine (k4 _).mono ?_ | refine (k5 _).mono ?_ | refine (k6 _).mono ?_ | refine (k7 _).mono ?_ | refine (k8 _).mono ?_); rintro e w1 ⟨rfl, rfl⟩)
   all_goals (go_ret; exact ⟨by first | rfl | (simp; done), hb0⟩)
  by_cases ha : a = -1
  ·subst ha
   go_enter Tryz.func78, Tryz.ntmps78
   go_wp2_with (with_reducible (first | refine (k2 _).mono ?_ | refine (k3 _).mono ?_ | refine (k4 _).mono ?_ | refine (k5 _).mono ?_ | refine (k6 _).mono ?_ | refine (k7 _).mono ?_ | refine (k8 _).mono ?_); rintro e w1 ⟨rfl, rfl⟩)
   all_goals (go_ret; exact ⟨by first | rfl | (simp; done), hb0⟩)
  ·go_enter Tryz.func78, Tryz.ntmps78
   go_wp2_with (with_reducible (first | refine (k2 _).mono ?_ | refine (k3 _).mono ?_ | refine (k4 _).mono ?_ | refine (k5 _).mono ?_ | refine (k6 _).mono ?_ | refine (k7 _).mono ?_ | refine (k8 _).mono ?_); rintro e w1 ⟨rfl, rfl⟩)
   all_goals (go_ret; exact ⟨by first | rfl | (simp [ha]; done) | (simp_all; done), hb0⟩)
 ·obtain rfl : R = false := by rw [HV.out, if_neg h1, if_neg h2, if_neg h5]
  clear HV k1 k2 k3 k4 k5 k6 k7 k8 hP
  rw [not_or, not_or] at h2
  obtain ⟨g2, g3, g4⟩ := h2
  go_enter Tryz.func78, Tryz.ntmps78
  go_wp2
  all_goals (go_ret; exact ⟨by first | rfl | (simp_all; done), hb0⟩)
set_option maxRecDepth 20000 in
set_option maxHeartbeats 16000000 in
theorem zjw (x : Dd) (w : World) : Calls Tryz.prog 45 #[aDd x] w fun e w' => e = .returned (.bool (ddB x)) /\ Below w.heap.size w w' := by
 obtain ⟨k, o, id, p, d, n, m, b, a⟩ := x
 have HV : Hid (ddB ⟨k, o, id, p, d, n, m, b, a⟩ = if k = 1 then odB o && decide (o.s = 1) else if k = 2 ∨ k = 3 ∨ k = 4 then rng id 1 100000 else if k = 5 then rng id 1 100000 && (rng p 0 999 && (rng d 1 1000 && (rng n 1 1000000000 && (rng m 0 10000000 && (rng b 0 999 && (decide (a = -1) || rng a 0 999)))))) else false) := rfl
 have k1 := zg1 o
 have k2 := ziz id
 have k3 := zea p
 have k4 := zhy d
 have k5 := zi2 n
 have k6 := zfl m
 have k7 := zea b
 have k8 := zea a
 unfold aDd
 dsimp only
 generalize rng id 1 100000 = t1 at *
 generalize rng p 0 999 = t2 at *
 generalize rng d 1 1000 = t3 at *
 generalize rng n 1 1000000000 = t4 at *
 generalize rng m 0 10000000 = t5 at *
 generalize rng b 0 999 = t6 at *
 generalize ht7 : rng a 0 999 = t7 at *
 generalize ddB ⟨k, o, id, p, d, n, m, b, a⟩ = R at *
 have hP := PB.new w #[.int .i64 k, .int .i64 o.id, .int .i64 o.p, .int .i64 o.d, .int .i64 o.n, .int .i64 o.f, .int .i64 o.e, .int .i64 o.c, .int .i64 o.s, .bool o.two, .int .i64 id, .int .i64 p, .int .i64 d, .int .i64 n, .int .i64 m, .int .i64 b, .int .i64 a] 40
 have hb0 : Below w.heap.size w (w.alloc (.cells #[.int .i64 k, .int .i64 o.id, .int .i64 o.p, .int .i64 o.d, .int .i64 o.n, .int .i64 o.f, .int .i64 o.e, .int .i64 o.c, .int .i64 o.s, .bool o.two, .int .i64 id, .int .i64 p, .int .i64 d, .int .i64 n, .int .i64 m, .int .i64 b, .int .i64 a] 40)) := (Below.refl _ _).alloc (Nat.le_refl _) _
 by_cases h1 : k = 1
 ·subst h1
  clear k2 k3 k4 k5 k6 k7 k8
  obtain rfl : R = (odB o && decide (o.s = 1)) := by rw [HV.out, if_pos rfl]
  clear HV
  unfold aOd at k1
  generalize odB o = ob at *
  go_enter Tryz.func45, Tryz.ntmps45
  go_upto_region 1 with fail
  generalize w.alloc (.cells #[.int .i64 1, .int .i64 o.id, .int .i64 o.p, .int .i64 o.d, .int .i64 o.n, .int .i64 o.f, .int .i64 o.e, .int .i64 o.c, .int .i64 o.s, .bool o.two, .int .i64 id, .int .i64 p, .int .i64 d, .int .i64 n, .int .i64 m, .int .i64 b, .int .i64 a] 40) = wA at *
  have hs0 := hb0.size
  generalize hBB : w.heap.size = B at *
  have hP2 := hP
  obtain ⟨c0, ⟨c1, c2, c3, c4, c5, c6, c7, c8, c9⟩, c10, c11, c12, c13, c14, c15, c16⟩ := hP2.deed
  clear hP2
  rcases ob with _ | _
  ·go_wp2_with (with_reducible (refine (k1 _).mono ?_); rintro e w1 ⟨rfl, hb1⟩)
   all_goals (go_ret; exact ⟨by first | rfl | (simp; done), by first | exact hb0.trans (hb1.mono hs0) | (rw [hBB]; exact hb0.trans (hb1.mono hs0))⟩)
  ·go_wp2_with (with_reducible (refine (k1 _).mono ?_); rintro e w1 ⟨rfl, hb1⟩; have q8 : w1.cell? ⟨B, 8, none⟩ = some (.int .i64 o.s) := (hP.below hb1).deed.2.1.2.2.2.2.2.2.2.1)
   all_goals (go_ret; exact ⟨by first | rfl | exact qw (by first | (simp; done) | (simp; omega) | (simp_all; done) | (simp_all; omega) | (rw [Bool.eq_iff_iff]; simp; omega) | (rw [Bool.eq_iff_iff]; simp_all; omega)), by first | exact hb0.trans (hb1.mono hs0) | (rw [hBB]; exact hb0.trans (hb1.mono hs0))⟩)
 by_cases h2 : k = 2 ∨ k = 3 ∨ k = 4
 ·obtain rfl : R = t1 := by rw [HV.out, if_neg h1, if_pos h2]
  clear HV k1 k3 k4 k5 k6 k7 k8 hP h1
  rcases h2 with rfl | rfl | rfl
  ·go_enter Tryz.func45, Tryz.ntmps45
   go_wp2_with (with_reducible (refine (k2 _).mono ?_); rintro e w1 ⟨rfl, rfl⟩)
   all_goals (go_ret; exact ⟨rfl, hb0⟩)
  ·go_enter Tryz.func45, Tryz.ntmps45
   go_wp2_with (with_reducible (refine (k2 _).mono ?_); rintro e w1 ⟨rfl, rfl⟩)
   all_goals (go_ret; exact ⟨rfl, hb0⟩)
  ·go_enter Tryz.func45, Tryz.ntmps45
   go_wp2_with (with_reducible (refine (k2 _).mono ?_); rintro e w1 ⟨rfl, rfl⟩)
   all_goals (go_ret; exact ⟨rfl, hb0⟩)
 by_cases h5 : k = 5
 ·subst h5
  obtain rfl : R = (t1 && (t2 && (t3 && (t4 && (t5 && (t6 && (decide (a = -1) || t7))))))) := by rw [HV.out, if_neg h1, if_neg h2, if_pos rfl]
  clear HV k1 hP h1 h2
  rcases t1 with _ | _
  ·go_enter Tryz.func45, Tryz.ntmps45
   go_wp2_with (with_reducible (first | refine (k2 _).mono ?_ | refine (k3 _).mono ?_ | refine (k4 _).mono ?_ | refine (k5 _).mono ?_ | refine (k6 _).mono ?_ | refine (k7 _).mono ?_ | refine (k8 _).mono ?_); rintro e w1 ⟨rfl, rfl⟩)
   all_goals (go_ret; exact ⟨by first | rfl | (simp; done), hb0⟩)
  rcases t2 with _ | _
  ·go_enter Tryz.func45, Tryz.ntmps45
   go_wp2_with (with_reducible (first | refine (k2 _).mono ?_ | refine (k3 _).mono ?_ | refine (k4 _).mono ?_ | refine (k5 _).mono ?_ | refine (k6 _).mono ?_ | refine (k7 _).mono ?_ | refine (k8 _).mono ?_); rintro e w1 ⟨rfl, rfl⟩)
   all_goals (go_ret; exact ⟨by first | rfl | (simp; done), hb0⟩)
  rcases t3 with _ | _
  ·go_enter Tryz.func45, Tryz.ntmps45
   go_wp2_with (with_reducible (first | refine (k2 _).mono ?_ | refine (k3 _).mono ?_ | refine (k4 _).mono ?_ | refine (k5 _).mono ?_ | refine (k6 _).mono ?_ | refine (k7 _).mono ?_ | refine (k8 _).mono ?_); rintro e w1 ⟨rfl, rfl⟩)
   all_goals (go_ret; exact ⟨by first | rfl | (simp; done), hb0⟩)
  rcases t4 with _ | _
  ·go_enter Tryz.func45, Tryz.ntmps45
   go_wp2_with (with_reducible (first | refine (k2 _).mono ?_ | refine (k3 _).mono ?_ | refine (k4 _).mono ?_ | refine (k5 _).mono ?_ | refine (k6 _).mono ?_ | refine (k7 _).mono ?_ | refine (k8 _).mono ?_); rintro e w1 ⟨rfl, rfl⟩)
   all_goals (go_ret; exact ⟨by first | rfl | (simp; done), hb0⟩)
  rcases t5 with _ | _
  ·go_enter Tryz.func45, Tryz.ntmps45
   go_wp2_with (with_reducible (first | refine (k2 _).mono ?_ | refine (k3 _).mono ?_ | refine (k4 _).mono ?_ | refine (k5 _).mono ?_ | refine (k6 _).mono ?_ | refine (k7 _).mono ?_ | refine (k8 _).mono ?_); rintro e w1 ⟨rfl, rfl⟩)
   all_goals (go_ret; exact ⟨by first | rfl | (simp; done), hb0⟩)
  rcases t6 with _ | _
  ·go_enter Tryz.func45, Tryz.ntmps45
   go_wp2_with (with_reducible (first | refine (k2 _).mono ?_ | refine (k3 _).mono ?_ | refine (k4 _).mono ?_ | refine (k5 _).mono ?_ | refine (k6 _).mono ?_ | refine (k7 _).mono ?_ | refine (k8 _).mono ?_); rintro e w1 ⟨rfl, rfl⟩)
   all_goals (go_ret; exact ⟨by first | rfl | (simp; done), hb0⟩)
  by_cases ha : a = -1
  ·subst ha
   go_enter Tryz.func45, Tryz.ntmps45
   go_wp2_with (with_reducible (first | refine (k2 _).mono ?_ | refine (k3 _).mono ?_ | refine (k4 _).mono ?_ | refine (k5 _).mono ?_ | refine (k6 _).mono ?_ | refine (k7 _).mono ?_ | refine (k8 _).mono ?_); rintro e w1 ⟨rfl, rfl⟩)
   all_goals (go_ret; exact ⟨by first | rfl | (simp; done), hb0⟩)
  ·go_enter Tryz.func45, Tryz.ntmps45
   go_wp2_with (with_reducible (first | refine (k2 _).mono ?_ | refine (k3 _).mono ?_ | refine (k4 _).mono ?_ | refine (k5 _).mono ?_ | refine (k6 _).mono ?_ | refine (k7 _).mono ?_ | refine (k8 _).mono ?_); rintro e w1 ⟨rfl, rfl⟩)
   all_goals (go_ret; exact ⟨by first | rfl | (simp [ha]; done) | (simp_all; done), hb0⟩)
 ·obtain rfl : R = false := by rw [HV.out, if_neg h1, if_neg h2, if_neg h5]
  clear HV k1 k2 k3 k4 k5 k6 k7 k8 hP
  rw [not_or, not_or] at h2
  obtain ⟨g2, g3, g4⟩ := h2
  go_enter Tryz.func45, Tryz.ntmps45
  go_wp2
  all_goals (go_ret; exact ⟨by first | rfl | (simp_all; done), hb0⟩)
end Go.Proofs.YtjlpfpigggdemaaGreatDoor
namespace Go.Proofs.YtjlpfpigggdemaaGreatDoor
open Go.RowKit Go.Maps
set_option linter.all false
theorem zc6 {w : World} {base t s n G c : Nat} {xs : List Value} (h : w.ownsRow base t s (.slice (some ⟨G, 0, none⟩) n c) n xs) (k : Nat) (hk : k < n * s) (v : Value) : (w.setCell ⟨G, k, none⟩ v).ownsRow base t s (.slice (some ⟨G, 0, none⟩) n c) n (xs.set k v) := by
 obtain ⟨h1, ⟨h2, _⟩ | ⟨g, cap, cur, h2, hb, hg, hc, hm, hs, ht⟩⟩ := h
 ·cases h2
 ·simp only [Value.slice.injEq, Option.some.injEq, Addr.mk.injEq, and_true, true_and] at h2
  obtain ⟨rfl, rfl⟩ := h2
  refine ⟨by rw [List.length_set]; exact h1, Or.inr ⟨G, c, cur.setIfInBounds k v, rfl, hb, ?_, hc, hm, by simpa using hs, ?_⟩⟩
  ·simp only [World.setCell, Array.getElem?_modify]
   rw [if_pos trivial, hg]
   rfl
  ·rw [Array.toList_setIfInBounds, List.take_set, ht]
theorem jw {w : World} {base t s n G c : Nat} {xs : List Value} (h : w.ownsRow base t s (.slice (some ⟨G, 0, none⟩) n c) n xs) {k : Nat} {v : Value} (hk : xs[k]? = some v) : w.cell? ⟨G, k, none⟩ = some v /\ w.frozen? ⟨G, k, none⟩ = false := by
 obtain ⟨h1, ⟨h2, _⟩ | ⟨g, cap, cur, h2, hb, hg, hc, hm, hs, ht⟩⟩ := h
 ·cases h2
 ·simp only [Value.slice.injEq, Option.some.injEq, Addr.mk.injEq, and_true, true_and] at h2
  obtain ⟨rfl, rfl⟩ := h2
  constructor
  ·rw [<- ht, List.getElem?_take] at hk
   split at hk
   ·rw [Array.getElem?_toList] at hk
    simp only [World.cell?, hg]
    exact hk
   ·cases hk
  ·simp only [World.frozen?, hg]
   simp
theorem zbu {w : World} {base t s n G c : Nat} {xs : List Value} (h : w.ownsRow base t s (.slice (some ⟨G, 0, none⟩) n c) n xs) : base <= G /\ G < w.heap.size := by
 obtain ⟨h1, ⟨h2, _⟩ | ⟨g, cap, cur, h2, hb, hg, hc, hm, hs, ht⟩⟩ := h
 ·cases h2
 ·simp only [Value.slice.injEq, Option.some.injEq, Addr.mk.injEq, and_true, true_and] at h2
  obtain ⟨rfl, rfl⟩ := h2
  exact ⟨hb, (Array.getElem?_eq_some_iff.1 hg).1⟩
theorem jb {w : World} {base t s n B tb : Nat} {v : Value} {xs : List Value} {vs : Array Value} (h : w.ownsRow base t s v n xs) (hp : PB w B vs tb) (hne : tb ≠ t) : v.ownBlock ≠ some B := by
 obtain ⟨h1, ⟨rfl, _⟩ | ⟨g, cap, cur, rfl, hb, hg, hc, hm, hs, ht⟩⟩ := h
 ·intro e; cases e
 ·intro e
  obtain rfl : g = B := by simpa [Value.ownBlock] using e
  unfold PB at hp
  rw [hp] at hg
  simp at hg
  exact hne hg.2
theorem PB.kept {w w' : World} {B tb : Nat} {vs : Array Value} {r : Option Nat} (h : PB w B vs tb) (hg : w.grownBy w' r) (hr : r ≠ some B) : PB w' B vs tb := (hg.block B h.lt (fun e => hr e.symm)).trans h
theorem zgu {w w' : World} {b e s n : Nat} {v : Value} {xs : List Value} (h : w.ownsRow b e s v n xs) (hb : Below w.heap.size w w') : w'.ownsRow b e s v n xs := zam h hb
section
variable {α : Type} {cs : α -> Nat -> Value}
theorem zk9 (l : List α) (i : Nat) (x : α) (hi : i < l.length) : (((zt 3 cs l).set (i * 3) (cs x 0)).set (i * 3 + 1) (cs x 1)).set (i * 3 + 2) (cs x 2) = zt 3 cs (l.set i x) := by
 refine List.ext_getElem? fun k => ?_
 have hlen : (zt 3 cs l).length = l.length * 3 := za2 l
 by_cases hk : k < l.length * 3
 ·obtain ⟨q, r, hr, rfl⟩ : ∃ q r, r < 3 /\ k = q * 3 + r := ⟨k / 3, k % 3, Nat.mod_lt _ (by decide), by omega⟩
  obtain ⟨y, hy⟩ : ∃ y, l[q]? = some y := ⟨_, List.getElem?_eq_getElem (by omega)⟩
  by_cases e : q = i
  ·subst e
   rw [jg (l.set q x) q x (by rw [List.getElem?_set_self hi]) r hr]
   have hl3 : q * 3 + r < (zt 3 cs l).length := by rw [hlen]; omega
   rcases (show r = 0 ∨ r = 1 ∨ r = 2 by omega) with rfl | rfl | rfl
   ·rw [List.getElem?_set_ne (by omega), List.getElem?_set_ne (by omega), Nat.add_zero, List.getElem?_set_self (by omega)]
   ·rw [List.getElem?_set_ne (by omega), List.getElem?_set_self (by rw [List.length_set]; omega)]
   ·rw [List.getElem?_set_self (by rw [List.length_set, List.length_set]; omega)]
  ·rw [jg (l.set i x) q y (by rw [List.getElem?_set_ne (Ne.symm e)]; exact hy) r hr, List.getElem?_set_ne (by omega), List.getElem?_set_ne (by omega), List.getElem?_set_ne (by omega)]
   exact jg l q y hy r hr
 ·rw [List.getElem?_eq_none (by rw [List.length_set, List.length_set, List.length_set, hlen]; omega), List.getElem?_eq_none (by rw [za2, List.length_set]; omega)]
theorem zdv {w : World} {base t n G c : Nat} {l : List α} (h : w.ownsRow base t 3 (.slice (some ⟨G, 0, none⟩) n c) n (zt 3 cs l)) (hn : l.length = n) {i : Nat} (hi : i < n) (x : α) :
  (((w.setCell ⟨G, i * 3, none⟩ (cs x 0)).setCell ⟨G, i * 3 + 1, none⟩ (cs x 1)).setCell ⟨G, i * 3 + 2, none⟩ (cs x 2)).ownsRow base t 3 (.slice (some ⟨G, 0, none⟩) n c) n (zt 3 cs (l.set i x)) := by
 rw [<- zk9 l i x (by omega)]
 exact zc6 (zc6 (zc6 h (i * 3) (by omega) _) (i * 3 + 1) (by omega) _) (i * 3 + 2) (by omega) _
end
theorem zd0 {w0 w : World} {base G : Nat} (hb : Below base w0 w) (hG : base <= G) (k : Nat) (a b c : Value) : Below base w0 (((w.setCell ⟨G, k, none⟩ a).setCell ⟨G, k + 1, none⟩ b).setCell ⟨G, k + 2, none⟩ c) :=
 ((hb.setCell hG _).setCell hG _).setCell hG _
theorem PB.zbc {W : World} {B b tb : Nat} {vs : Array Value} (h : PB W B vs tb) (hb : b ≠ B) (k : Nat) (x y z : Value) : PB (((W.setCell ⟨b, k, none⟩ x).setCell ⟨b, k + 1, none⟩ y).setCell ⟨b, k + 2, none⟩ z) B vs tb :=
 ((h.far hb _ _).far hb _ _).far hb _ _
end Go.Proofs.YtjlpfpigggdemaaGreatDoor
