/-
 Merged: U73 U74 U83 Ri.
-/
import Derived.Test.YtjlpfpigggdemaaGreatDoorMi40
import Derived.Test.YtjlpfpigggdemaaGreatDoorMi39
import Derived.Test.YtjlpfpigggdemaaGreatDoorMi38
import Derived.Deep.CutBlock
import Derived.Test.YtjlpfpigggdemaaGreatDoorMi27
import Derived.Test.YtjlpfpigggdemaaGreatDoorMi5
namespace Go.Proofs.YtjlpfpigggdemaaGreatDoor
set_option maxRecDepth 8000
set_option maxHeartbeats 4000000
open Go.RowKit Va Uo
set_option linter.all false
set_option maxRecDepth 20000 in
set_option maxHeartbeats 16000000 in
theorem zhg {α : Type} {s : Nat} {cs : α -> Nat -> Value} {l : List α} {i k : Nat} {x y : α} {u : Value} (h : l[i]? = some x) (hk : k < s) (hu : cs y k = u) (ho : ∀ j, j < s -> j ≠ k -> cs y j = cs x j) : (zt s cs l).set (i * s + k) u = zt s cs (l.set i y) := by
 have hi : i < l.length := (List.getElem?_eq_some_iff.1 h).1
 have hs : 0 < s := by omega
 refine List.ext_getElem? fun j => ?_
 by_cases hj : j < l.length * s
 ·have hq : j / s < l.length := Nat.div_lt_of_lt_mul (by rwa [Nat.mul_comm])
  have hm := Nat.mod_lt j hs
  have e : j / s * s + j % s = j := by rw [Nat.mul_comm]; exact Nat.div_add_mod j s
  obtain ⟨z, hz⟩ : ∃ z, l[j / s]? = some z := ⟨_, List.getElem?_eq_getElem hq⟩
  have g1 := jg (s := s) (cs := cs) l (j / s) z hz (j % s) hm
  rw [e] at g1
  by_cases hji : j / s = i
  ·subst hji
   obtain rfl := Option.some.inj (h.symm.trans hz)
   have g2 := jg (s := s) (cs := cs) (l.set (j / s) y) (j / s) y (by rw [List.getElem?_set_self hi]) (j % s) hm
   rw [e] at g2
   rw [g2]
   by_cases hjk : j % s = k
   ·rw [<- hjk, e, List.getElem?_set_self (by rw [za2]; exact hj), hjk, hu]
   ·rw [List.getElem?_set_ne (by omega), g1, ho _ hm hjk]
  ·have g2 := jg (s := s) (cs := cs) (l.set i y) (j / s) z (by rw [List.getElem?_set_ne (fun e => hji e.symm)]; exact hz) (j % s) hm
   rw [e] at g2
   have hne : i * s + k ≠ j := by
    intro q
    apply hji
    rw [<- q, Nat.add_comm, Nat.add_mul_div_right _ _ hs, Nat.div_eq_of_lt hk, Nat.zero_add]
   rw [g2, List.getElem?_set_ne hne, g1]
 ·rw [List.getElem?_eq_none (by rw [List.length_set, za2]; omega), List.getElem?_eq_none (by rw [za2, List.length_set]; omega)]
def setDs (d : Ds) (k : Nat) (z : Int) : Ds := match k with
 | 0 => { d with o := z } | 1 => { d with t := z } | 2 => { d with m := z } | 3 => { d with b := z } | _ => { d with a := z }
theorem setDs_at (d : Ds) (z : Int) {k : Nat} (hk : k < 5) : jy (setDs d k z) k = .int .i64 z /\ ∀ j, j < 5 -> j ≠ k -> jy (setDs d k z) j = jy d j := by
 rcases (show k = 0 ∨ k = 1 ∨ k = 2 ∨ k = 3 ∨ k = 4 by omega) with rfl | rfl | rfl | rfl | rfl <;> refine ⟨rfl, fun j hj hn => ?_⟩ <;>
  rcases (show j = 0 ∨ j = 1 ∨ j = 2 ∨ j = 3 ∨ j = 4 by omega) with rfl | rfl | rfl | rfl | rfl <;> first | rfl | exact absurd rfl hn
theorem setO_at (d : Od) (z : Int) {k : Nat} (hk : k = 0 ∨ k = 7) : jd (setO d k z) k = .int .i64 z /\ ∀ j, j < 9 -> j ≠ k -> jd (setO d k z) j = jd d j := by
 rcases hk with rfl | rfl <;> refine ⟨rfl, fun j hj hn => ?_⟩ <;>
  rcases (show j = 0 ∨ j = 1 ∨ j = 2 ∨ j = 3 ∨ j = 4 ∨ j = 5 ∨ j = 6 ∨ j = 7 ∨ j = 8 by omega) with rfl | rfl | rfl | rfl | rfl | rfl | rfl | rfl | rfl <;> first | rfl | exact absurd rfl hn
section
variable {w0 W W' : World} {g R C : Nat} {ao : Option Addr} {cap : Nat} {bs : List Int} {cb : Array Value} {vo vd : Value} {os : List Od} {ds : List Ds}
theorem SC.setD {G c n k : Nat} (h : SC w0 W g R C ao cap bs cb vo (.slice (some ⟨G, 0, none⟩) ds.length c) os ds) (hn : n < ds.length) (hk : k < 5) (z : Int) : ∃ ds' : List Ds, ds'.length = ds.length /\ SC w0 (W.setCell ⟨G, n * 5 + k, none⟩ (.int .i64 z)) g R C ao cap bs cb vo (.slice (some ⟨G, 0, none⟩) ds.length c) os ds' := by
 obtain ⟨d, hd⟩ : ∃ d, ds[n]? = some d := ⟨_, List.getElem?_eq_getElem hn⟩
 obtain ⟨h1, h2⟩ := setDs_at d z hk
 obtain ⟨q1, q2, q3⟩ := h.rowD G rfl
 have hg := h.gg
 refine ⟨ds.set n (setDs d k z), by simp, h.cur.far (by omega) _, Keep.far (n := 0) h.keep q1 _, h.r.far q2 _ _, h.c.far q3 _ _, ⟨Cp.jo h.new.1 (fun e => Cp.zds h.new.2 h.new.1 (by decide) G rfl e) _ _, ?_⟩, h.rc, h.old, h.gg⟩
 rw [<- zhg hd hk h1 h2, List.length_set]
 exact zc6 h.new.2 (n * 5 + k) (by omega) _
theorem SC.setO {G c n k : Nat} (h : SC w0 W g R C ao cap bs cb (.slice (some ⟨G, 0, none⟩) os.length c) vd os ds) (hn : n < os.length) (hk : k = 0 ∨ k = 7) (z : Int) : ∃ os' : List Od, os'.length = os.length /\ SC w0 (W.setCell ⟨G, n * 9 + k, none⟩ (.int .i64 z)) g R C ao cap bs cb (.slice (some ⟨G, 0, none⟩) os.length c) vd os' ds := by
 obtain ⟨d, hd⟩ : ∃ d, os[n]? = some d := ⟨_, List.getElem?_eq_getElem hn⟩
 obtain ⟨h1, h2⟩ := setO_at d z hk
 obtain ⟨q1, q2, q3⟩ := h.rowO G rfl
 have hg := h.gg
 refine ⟨os.set n (Go.Proofs.YtjlpfpigggdemaaGreatDoor.setO d k z), by simp, h.cur.far (by omega) _, Keep.far (n := 0) h.keep q1 _, h.r.far q2 _ _, h.c.far q3 _ _, ⟨?_, Cp.jo h.new.2 (fun e => Cp.zds h.new.1 h.new.2 (by decide) G rfl e) _ _⟩, h.rc, h.old, h.gg⟩
 rw [<- zhg hd (by omega) h1 h2, List.length_set]
 exact zc6 h.new.1 (n * 9 + k) (by omega) _
theorem SC.atD {G c n : Nat} (h : SC w0 W g R C ao cap bs cb vo (.slice (some ⟨G, 0, none⟩) ds.length c) os ds) (hn : n < ds.length) : ∃ y : Ds, ∀ k, k < 5 -> W.cell? ⟨G, n * 5 + k, none⟩ = some (jy y k) := by
 obtain ⟨d, hd⟩ : ∃ d, ds[n]? = some d := ⟨_, List.getElem?_eq_getElem hn⟩
 exact ⟨d, fun k hk => (zb4 rfl h.new.2).2.2.2 n d hn hd k hk⟩
theorem SC.atO {G c n : Nat} (h : SC w0 W g R C ao cap bs cb (.slice (some ⟨G, 0, none⟩) os.length c) vd os ds) (hn : n < os.length) : ∃ y : Od, ∀ k, k < 9 -> W.cell? ⟨G, n * 9 + k, none⟩ = some (jd y k) := by
 obtain ⟨d, hd⟩ : ∃ d, os[n]? = some d := ⟨_, List.getElem?_eq_getElem hn⟩
 exact ⟨d, fun k hk => (zb4 rfl h.new.1).2.2.2 n d hn hd k hk⟩
theorem SC.wipe (h : SC w0 W g R C ao cap bs #[vo, vd] vo vd os ds) : SC w0 ((W.setCell ⟨C, 0, none⟩ (.slice none 0 0)).setCell ⟨C, 1, none⟩ (.slice none 0 0)) g R C ao cap bs #[.slice none 0 0, .slice none 0 0] (.slice none 0 0) (.slice none 0 0) [] [] := by
 have k := (h.put 0 (.slice none 0 0) (cb' := #[.slice none 0 0, vd]) (by simp)).put 1 (.slice none 0 0) (cb' := #[.slice none 0 0, .slice none 0 0]) (by simp)
 exact ⟨k.cur, k.keep, k.r, k.c, zgk _ _, k.rc, k.old, k.gg⟩
theorem SC.drewN (h : SC w0 W g R C ao cap bs cb vo vd os ds) (n : Nat) : SC w0 (W.drewN n) g R C ao cap bs cb vo vd os ds := ⟨h.cur.drewN n, h.keep.drewN n, h.r, h.c, h.new, h.rc, h.old, h.gg⟩
theorem SC.form (h : SC w0 W g R C ao cap bs cb vo vd os ds) : ∃ a1 c1 a2 c2, vo = .slice a1 os.length c1 /\ vd = .slice a2 ds.length c2 := h.new.form
theorem SC.told {a1 a2 : Option Addr} {c1 c2 : Nat} (h : SC w0 W g R C ao cap bs #[.slice a1 os.length c1, .slice a2 ds.length c2] (.slice a1 os.length c1) (.slice a2 ds.length c2) os ds) : PB ((W.setCell ⟨R, 0, none⟩ (.slice a1 os.length c1)).setCell ⟨R, 1, none⟩ (.slice a2 ds.length c2)) R #[.slice a1 os.length c1, .slice a2 ds.length c2] 27 /\ Cp.zo ((W.setCell ⟨R, 0, none⟩ (.slice a1 os.length c1)).setCell ⟨R, 1, none⟩ (.slice a2 ds.length c2)) w0.heap.size (.slice a1 os.length c1) (.slice a2 ds.length c2) os ds /\ Cur ((W.setCell ⟨R, 0, none⟩ (.slice a1 os.length c1)).setCell ⟨R, 1, none⟩ (.slice a2 ds.length c2)) g ao cap bs /\ Keep g w0 ((W.setCell ⟨R, 0, none⟩ (.slice a1 os.length c1)).setCell ⟨R, 1, none⟩ (.slice a2 ds.length c2)) := by
 have := h.old
 have := h.gg
 have h1 : PB (W.setCell ⟨R, 0, none⟩ (.slice a1 os.length c1)) R #[.slice a1 os.length c1, .slice none 0 0] 27 := h.r.put 0 _ (by simp)
 exact ⟨h1.put 1 _ (by simp), zaf (zaf h.new h.r (by decide) (by decide) 0 _) h1 (by decide) (by decide) 1 _, (h.cur.far (by omega) _).far (by omega) _, Keep.far (n := 0) (Keep.far (n := 0) h.keep h.old.1 _) h.old.1 _⟩
end
theorem zgl (zs : List Int) (W W' : World) (g : Nat) (t : TypeId) (hk : Keep g (W.alloc (.cells (zs.map (fun z => Value.int .i64 z)).toArray t)) W') (hg : g < W.heap.size) (k : Nat) (hz : k < zs.length) : ∃ z : Int, W'.cell? ⟨W.heap.size, k, none⟩ = some (.int .i64 z) := by
 refine ⟨zs[k], ?_⟩
 rw [hk.cell (by simp) (by omega)]
 have e := heap_alloc_new W (.cells (zs.map (fun z => Value.int .i64 z)).toArray t)
 simp only [World.cell?, e]
 simp [hz]
end Go.Proofs.YtjlpfpigggdemaaGreatDoor
namespace Go.Proofs.YtjlpfpigggdemaaGreatDoor
open Go.RowKit Va Uo
set_option linter.all false
theorem zku (w : World) (a b c d e : Value) (t : TypeId) : ∀ (j : Nat) (u : Value), [a, b, c, d, e][j]? = some u -> (w.alloc (.cells #[a, b, c, d, e] t)).cell? ((⟨w.heap.size, 0, none⟩ : Addr).add j) = some u := fun j u hu => by
 have e0 := heap_alloc_new w (Obj.cells #[a, b, c, d, e] t)
 have e1 : (w.alloc (.cells #[a, b, c, d, e] t)).cell? ((⟨w.heap.size, 0, none⟩ : Addr).add j) = [a, b, c, d, e][j]? := by
  rw [Addr.add_lit, Nat.zero_add]
  simp only [World.cell?, e0]
  simp
 rw [e1, hu]
theorem zg0 {w : World} {base t s n c : Nat} {ad : Option Addr} {xs : List Value} (h : w.ownsRow base t s (.slice ad n c) n xs) (hn : 0 < n) : ∃ G, ad = some ⟨G, 0, none⟩ := zeh h (by omega)
set_option maxRecDepth 20000 in
set_option maxHeartbeats 16000000 in
theorem zjt (g : Nat) (ao : Option Addr) (cap : Nat) (bs : List Int) (w : World) (hc : Cur w g ao cap bs) :
  Calls Tryz.prog 10 #[.pointer (some ⟨g, 0, none⟩)] w fun e w' => ∃ (v1 v2 : Value) (os : List Od) (ds : List Ds) (t : Int), e = .returned (.tuple #[.agg #[v1, v2], .int .i64 t]) /\ (0 <= t /\ t <= 520) /\ os.length <= 101 /\ ds.length <= 501 /\ Cp.zo w' w.heap.size v1 v2 os ds /\ Cur w' g ao cap bs /\ Keep g w w' := by
 have hgl := hc.1
 have hcA := hc.alloc (.cells #[.slice none 0 0, .slice none 0 0] 27)
 have hkA : Keep g w (w.alloc (.cells #[.slice none 0 0, .slice none 0 0] 27)) := (Keep.refl g w).alloc _
 have hrA := PB.new w #[.slice none 0 0, .slice none 0 0] 27
 have hzA : (w.alloc (.cells #[.slice none 0 0, .slice none 0 0] 27)).heap.size = w.heap.size + 1 := by simp
 go_enter Tryz.func10, Tryz.ntmps10
 generalize hwA : w.alloc (.cells #[.slice none 0 0, .slice none 0 0] 27) = wA at *
 go_wp2_with fail
 refine (zjx g ao cap bs _ hcA).mono ?_
 rintro e w1 ⟨v1, v2, os, ds, t, rfl, ht, ho1, hd1, -, hN, hc1, hk1⟩
 have hz1 := hk1.size
 have hsc : SC w (w1.alloc (.cells #[v1, v2] 27)) g w.heap.size w1.heap.size ao cap bs #[v1, v2] v1 v2 os ds := by
  have ka : Keep g w1 (w1.alloc (.cells #[v1, v2] 27)) := (Keep.refl g w1).alloc _
  exact ⟨hc1.alloc _, (hkA.trans hk1).trans ka, (hrA.keep hk1 (by omega)).alloc _, PB.new w1 _ _, zav (zco hN ka (by omega)) (by omega), by omega, ⟨Nat.le_refl _, by omega⟩, hgl⟩
 clear hcA hkA hrA hwA hN hk1 hc1
 obtain ⟨a1, c1, a2, c2, rfl, rfl⟩ := hsc.form
 have HT := hidden ht
 clear ht
 generalize hVV : w1.alloc (.cells #[.slice a1 os.length c1, .slice a2 ds.length c2] 27) = w2 at *
 generalize hXX : w1.heap.size = X at *
 generalize hRR : w.heap.size = R at hsc ⊢
 go_upto_if 16 with (go_at_call 12; refine (zcf g ao cap bs 14 _ hsc.cur (by omega)).mono ?_; rintro e w3 ⟨t3, rfl, hc3, hk3⟩)
 have hs3 := hsc.call hc3 hk3
 clear hc3 hk3 hsc hVV hXX hz1 hzA
 go_cut [] (fun wx => ∃ (vo vd : Value) (os2 : List Od) (ds2 : List Ds), SC w wx g R X ao cap bs #[vo, vd] vo vd os2 ds2 /\ os2.length <= 101 /\ ds2.length <= 501)
 case first =>
  rcases t3 with _ | _
  ·go_wp2_with fail
   go_meet
   case rel => exact ⟨_, _, _, _, hs3, by omega, by omega⟩
  ·obtain ⟨x0, x1⟩ := hs3.c.two
   go_upto_region 3 with fail
   go_cut [24] (fun tv wx => ∃ b : Bool, tv = .bool b /\ (b = true -> 0 < ds.length) /\ SC w wx g R X ao cap bs #[.slice a1 os.length c1, .slice a2 ds.length c2] (.slice a1 os.length c1) (.slice a2 ds.length c2) os ds)
   case first =>
    by_cases hl0 : (0 : Int) < (ds.length : Int)
    ·go_wp2_with fail
     refine (zcf g ao cap bs 2 _ hs3.cur (by omega)).mono ?_
     rintro e w4 ⟨t4, rfl, hc4, hk4⟩
     have hs4 := hs3.call hc4 hk4
     clear hc4 hk4 hs3
     rcases t4 with _ | _
     ·go_wp2_with fail
      go_meet
      case rel => exact ⟨_, rfl, (fun q => by cases q), hs4⟩
     ·go_wp2_with fail
      go_meet
      case rel => exact ⟨_, rfl, (fun _ => by omega), hs4⟩
    ·go_wp2_with fail
     go_meet
     case rel => exact ⟨_, rfl, (fun q => by first | (cases q; done) | (simp at q; omega)), hs3⟩
   case rest =>
    obtain ⟨b, rfl, hbS, hs5⟩ := hcut
    clear hs3 x0 x1
    obtain ⟨x0, x1⟩ := hs5.c.two
    rcases b with _ | _
    ·-- an order
     by_cases hl0 : (0 : Int) < (os.length : Int)
     case neg =>
      go_wp2_with fail
      go_meet
      case rel => exact ⟨_, _, _, _, hs5, by omega, by omega⟩
     obtain ⟨G, rfl⟩ := zg0 hs5.new.1 (by omega)
     go_wp2_with fail
     refine (qh g ao cap bs (os.length : Int) _ hs5.cur (by omega)).mono ?_
     rintro e w6 ⟨y6, rfl, hy0, hy1, hc6, hk6⟩
     obtain ⟨k, rfl⟩ := Int.eq_ofNat_of_zero_le hy0
     have hk : k < os.length := by omega
     have hs6 := hs5.call hc6 hk6
     clear hc6 hk6 hs5 x0 x1
     go_wp2_with fail
     refine (qh g ao cap bs 3 _ hs6.cur (by omega)).mono ?_
     rintro e w7 ⟨y, rfl, hy0', hy1', hc7, hk7⟩
     have hs7 := hs6.call hc7 hk7
     clear hc7 hk7 hs6
     rcases (show y = 0 ∨ y = 1 ∨ y = 2 by omega) with rfl | rfl | rfl
     ·go_upto_region 22 with fail
      refine regY22 (C := X) (G := G) (c1 := c1) (k := k) (os := os) rfl rfl rfl rfl hs7.cur hs7.c (by have := hs7.old; have := hs7.gg; omega) (by have := (hs7.rowO G rfl).1; have := hs7.gg; omega) (zb4 rfl hs7.new.1).2 hk (by omega) ?_
      intro b' wx z hf hcx hkx
      have hsx := hs7.call hcx hkx
      obtain ⟨os2, ho2, hs8⟩ := hsx.setO hk (Or.inr rfl) z
      (rw [layY22 hf]; simp only [Rg.fl0, Rg.fl1, Rg.fl2, Nat.reduceAdd])
      clear hf hcx hkx hsx hs7
      generalize Rg.out (Rg.opsOf Tryz.f10 22) b' = yF
      go_frame
      have HS8 := hidden hs8
      have HO2 := hidden ho2
      clear hs8 ho2
      go_wp2_with fail
      go_meet
      case rel => exact ⟨_, _, os2, _, HS8.out, by have := HO2.out; omega, by omega⟩
     ·go_upto_region 24 with fail
      refine regY24 (C := X) (G := G) (c1 := c1) (k := k) (os := os) rfl rfl rfl rfl hs7.cur hs7.c (by have := hs7.old; have := hs7.gg; omega) (by have := (hs7.rowO G rfl).1; have := hs7.gg; omega) (zb4 rfl hs7.new.1).2 hk (by omega) ?_
      intro b' wx z hf hcx hkx
      have hsx := hs7.call hcx hkx
      obtain ⟨os2, ho2, hs8⟩ := hsx.setO hk (Or.inl rfl) z
      (rw [layY24 hf]; simp only [Rg.fl0, Rg.fl1, Rg.fl2, Nat.reduceAdd])
      clear hf hcx hkx hsx hs7
      generalize Rg.out (Rg.opsOf Tryz.f10 24) b' = yF
      go_frame
      have HS8 := hidden hs8
      have HO2 := hidden ho2
      clear hs8 ho2
      go_wp2_with fail
      go_meet
      case rel => exact ⟨_, _, os2, _, HS8.out, by have := HO2.out; omega, by omega⟩
     ·go_upto_region 26 with fail
      refine regY26 (G := G) (n := k) rfl rfl rfl rfl hk hs7 (by omega) (fun w' h => h.atO hk) ?_
      intro b' w' v' y hf hs8
      (rw [layY26 hf]; simp only [Rg.fl0, Rg.fl1, Rg.fl2, Nat.reduceAdd])
      clear hf hs7
      generalize Rg.out (Rg.opsOf Tryz.f10 26) b' = yF
      go_frame
      have HS8 := hidden hs8
      clear hs8
      go_wp2_with fail
      go_meet
      case rel => exact ⟨_, _, _, _, HS8.out, by simp; omega, by omega⟩
    ·-- a dose
     have hl0 := hbS rfl
     obtain ⟨G, rfl⟩ := zg0 hs5.new.2 hl0
     go_upto_region 4 with fail
     refine regY4 (C := X) (G := G) (c1 := c2) (ds := ds) rfl rfl rfl hs5.cur hs5.c (by have := hs5.old; have := hs5.gg; omega) hl0 (by omega) ?_
     intro b' w6 k hf hc6 hk6 hv hk
     have hs6 := hs5.call hc6 hk6
     (rw [layY4 hf]; simp only [Rg.fl0, Rg.fl1, Rg.fl2, Nat.reduceAdd]; rw [hv])
     clear hf hv hc6 hk6 hs5 x0 x1
     generalize Rg.out (Rg.opsOf Tryz.f10 4) b' = yF
     go_frame
     go_wp2_with fail
     refine (qh g ao cap bs 6 _ hs6.cur (by omega)).mono ?_
     rintro e w7 ⟨y, rfl, hy0, hy1, hc7, hk7⟩
     have hs7 := hs6.call hc7 hk7
     clear hc7 hk7 hs6
     have hGl : G < w7.heap.size := (hs7.new.2.lt G rfl).2
     rcases (show y = 0 ∨ y = 1 ∨ y = 2 ∨ y = 3 ∨ y = 4 ∨ y = 5 by omega) with rfl | rfl | rfl | rfl | rfl | rfl
     ·go_wp2_with fail
      refine (qh g ao cap bs 7 _ hs7.cur (by omega)).mono ?_
      rintro e wC ⟨z, rfl, hz0, hz1, hcC, hkC⟩
      have hsC := hs7.call hcC hkC
      have hGC : G < wC.heap.size := (hsC.new.2.lt G rfl).2
      have hv := (zb4 rfl hsC.new.2).2
      obtain ⟨⟨u0, s0⟩, f0⟩ := hv.old hk (show 0 < 5 by omega)
      obtain ⟨ds2, ho2, hs8⟩ := hsC.setD hk (show 0 < 5 by omega) (1 + z)
      have HS8 := hidden hs8
      have HO2 := hidden ho2
      simp only [Nat.add_zero] at s0 f0 HS8
      clear hs8 ho2 hv hcC hkC hs7
      go_wp2_with fail
      go_meet
      case rel => exact ⟨_, _, _, ds2, HS8.out, by omega, by have := HO2.out; omega⟩
     ·go_wp2_with fail
      refine (zcy g ao cap bs (-1) 6 _ hs7.cur (by omega) (by omega) (by omega)).mono ?_
      rintro e wC ⟨z, rfl, -, -, hcC, hkC⟩
      have hsC := hs7.call hcC hkC
      have hGC : G < wC.heap.size := (hsC.new.2.lt G rfl).2
      have hv := (zb4 rfl hsC.new.2).2
      obtain ⟨⟨u0, s0⟩, f0⟩ := hv.old hk (show 1 < 5 by omega)
      obtain ⟨ds2, ho2, hs8⟩ := hsC.setD hk (show 1 < 5 by omega) z
      have HS8 := hidden hs8
      have HO2 := hidden ho2
      clear hs8 ho2 hv hcC hkC hs7
      go_wp2_with fail
      go_meet
      case rel => exact ⟨_, _, _, ds2, HS8.out, by omega, by have := HO2.out; omega⟩
     ·have hsT := hs7.alloc (.cells #[.int .i64 (-1), .int .i64 0, .int .i64 10000001] 2)
      have hgA := hs7.cur.1
      go_wp2_with fail
      refine (qh g ao cap bs 3 _ hsT.cur (by omega)).mono ?_
      rintro e wC ⟨yC, rfl, hyA, hyB, hcC, hkC⟩
      obtain ⟨kk, rfl⟩ := Int.eq_ofNat_of_zero_le hyA
      have hkk : kk < 3 := by omega
      obtain ⟨z, hz⟩ := zgl [-1, 0, 10000001] w7 wC g _ hkC hgA kk hkk
      have hsC := hsT.call hcC hkC
      have hGC : G < wC.heap.size := (hsC.new.2.lt G rfl).2
      clear hsT
      have hv := (zb4 rfl hsC.new.2).2
      obtain ⟨⟨u0, s0⟩, f0⟩ := hv.old hk (show 2 < 5 by omega)
      obtain ⟨ds2, ho2, hs8⟩ := hsC.setD hk (show 2 < 5 by omega) z
      have HS8 := hidden hs8
      have HO2 := hidden ho2
      clear hs8 ho2 hv hcC hkC hs7
      go_wp2_with fail
      go_meet
      case rel => exact ⟨_, _, _, ds2, HS8.out, by omega, by have := HO2.out; omega⟩
     ·have hsT := hs7.alloc (.cells #[.int .i64 (-1), .int .i64 1000, .int .i64 5] 2)
      have hgA := hs7.cur.1
      go_wp2_with fail
      refine (qh g ao cap bs 3 _ hsT.cur (by omega)).mono ?_
      rintro e wC ⟨yC, rfl, hyA, hyB, hcC, hkC⟩
      obtain ⟨kk, rfl⟩ := Int.eq_ofNat_of_zero_le hyA
      have hkk : kk < 3 := by omega
      obtain ⟨z, hz⟩ := zgl [-1, 1000, 5] w7 wC g _ hkC hgA kk hkk
      have hsC := hsT.call hcC hkC
      have hGC : G < wC.heap.size := (hsC.new.2.lt G rfl).2
      clear hsT
      have hv := (zb4 rfl hsC.new.2).2
      obtain ⟨⟨u0, s0⟩, f0⟩ := hv.old hk (show 3 < 5 by omega)
      obtain ⟨ds2, ho2, hs8⟩ := hsC.setD hk (show 3 < 5 by omega) z
      have HS8 := hidden hs8
      have HO2 := hidden ho2
      clear hs8 ho2 hv hcC hkC hs7
      go_wp2_with fail
      go_meet
      case rel => exact ⟨_, _, _, ds2, HS8.out, by omega, by have := HO2.out; omega⟩
     ·go_upto_region 15 with fail
      refine regY15 (G := G) (n := k) (ds := ds) rfl rfl rfl hs7.cur (by have := (hs7.rowD G rfl).1; have := hs7.gg; omega) hGl (zb4 rfl hs7.new.2).2 hk ?_
      intro b' wx z hf hcx hkx
      have hsx := hs7.call hcx hkx
      obtain ⟨ds2, ho2, hs8⟩ := hsx.setD hk (show 4 < 5 by omega) z
      (rw [layY15 hf]; simp only [Rg.fl0, Rg.fl1, Rg.fl2, Nat.reduceAdd])
      clear hf hcx hkx hsx hs7
      generalize Rg.out (Rg.opsOf Tryz.f10 15) b' = yF
      go_frame
      have HS8 := hidden hs8
      have HO2 := hidden ho2
      clear hs8 ho2
      go_wp2_with fail
      go_meet
      case rel => exact ⟨_, _, _, ds2, HS8.out, by omega, by have := HO2.out; omega⟩
     ·go_upto_region 17 with fail
      refine regY17 (G := G) (n := k) rfl rfl rfl hs7 (by omega) (fun w' h => h.atD hk) ?_
      intro b' w' v' y hf hs8
      (rw [layY17 hf]; simp only [Rg.fl0, Rg.fl1, Rg.fl2, Nat.reduceAdd])
      clear hf hs7
      generalize Rg.out (Rg.opsOf Tryz.f10 17) b' = yF
      go_frame
      have HS8 := hidden hs8
      clear hs8
      go_wp2_with fail
      go_meet
      case rel => exact ⟨_, _, _, _, HS8.out, by omega, by simp; omega⟩
 case rest =>
  obtain ⟨vo, vd, os2, ds2, hsr, hol, hdl⟩ := hcut
  clear hs3
  obtain ⟨i0, hi0, hv0, hv1, hv2⟩ := info_parts zbi
  obtain ⟨j0, hj0, hu0, hu1, hu2⟩ := info_parts zb6
  go_wp2_with fail
  refine (zcf g ao cap bs 60 _ hsr.cur (by omega)).mono ?_
  rintro e w8 ⟨t8, rfl, hc8, hk8⟩
  have hs8 := hsr.call hc8 hk8
  clear hc8 hk8 hsr
  rcases t8 with _ | _
  ·obtain ⟨b1, e1, b2, e2, rfl, rfl⟩ := hs8.form
   obtain ⟨x0, x1⟩ := hs8.c.two
   obtain ⟨r0, r1⟩ := hs8.r.two
   have fr0 := hs8.r.frozen 0
   have fr1 := hs8.r.frozen 1
   have hRl := hs8.r.lt
   have hXl := hs8.c.lt
   have hXR := hs8.rc
   obtain ⟨k0, k1, k2, k3⟩ := hs8.told
   obtain ⟨y0, y1⟩ := k0.two
   have H1 := hidden k1
   have H2 := hidden k2
   have H3 := hidden k3
   clear k0 k1 k2 k3 hs8
   go_wp2_with fail
   exact bodyPost_ret (v := .tuple #[.agg #[.slice b1 os2.length e1, .slice b2 ds2.length e2], .int .i64 t]) (by simp [results, Tryz.results10, go_sem, y0, y1]) rfl ⟨_, _, os2, ds2, t, rfl, HT.out, by omega, by omega, by subst hRR; exact H1.out, H2.out, H3.out⟩
  ·have f0 := hs8.c.frozen 0
   have f1 := hs8.c.frozen 1
   obtain ⟨x0, x1⟩ := hs8.c.two
   have hXl := hs8.c.lt
   have hw := hs8.wipe
   clear hs8 hol hdl
   go_wp2_with fail
   go_loopw [8] (fun iv wr => ∃ i : Nat, iv = .int .i64 (i : Int) /\ (1 <= i /\ i <= 102) /\ ∃ (vo : Value) (L : List Od), L.length + 1 = i /\ SC w wr g R X ao cap bs #[vo, .slice none 0 0] vo (.slice none 0 0) L []) (fun iv _ => 102 - (intOf iv).toNat)
   case atStart => exact ⟨1, rfl, by omega, _, [], rfl, hw⟩
   case round =>
    clear hw x0 x1 f0 f1 hXl
    obtain ⟨i, rfl, hi, vo, L, hL, hs⟩ := hrel
    go_wp2_with fail
    refine (qh g ao cap bs 2 _ hs.cur (by omega)).mono ?_
    rintro e w9 ⟨y, rfl, hy0, hy1, hc9, hk9⟩
    have hs9 := hs.call hc9 hk9
    clear hc9 hk9 hs
    by_cases hgo : (i : Int) <= 100 + y
    ·obtain ⟨b1, e1, b2, e2, rfl, -⟩ := hs9.form
     obtain ⟨x0, x1⟩ := hs9.c.two
     have HL := hidden hL
     have hLl : L.length <= 101 := by omega
     have hsz := hs9.keep.size
     have HS9 := hidden hs9
     clear hL hs9
     go_wp2_with (at_builtin; refine wpList_append_own _ rfl (.tmp 146) (.tmp 150) 24 rfl w.heap.size 38 i0 (.agg #[.int .i64 0, .int .i64 0, .int .i64 0, .int .i64 0, .int .i64 0, .int .i64 0, .int .i64 0, .int .i64 0, .bool false]) 9 72 Tryz.underlying24 hi0 hv0 hv1 hv2 rfl (by decide) _ L.length (zt 9 jd L) rfl (HS9.out.alloc _).new.1 ⟨w9.heap.size, 0, none⟩ 1 1 [.int .i64 ((i : Int) + 1), .int .i64 1, .int .i64 1, .int .i64 1, .int .i64 0, .int .i64 1, .int .i64 6, .int .i64 2, .bool false] rfl rfl (zgd _ _ _ _ _ _ _ _ _ _ _) (by simp [Value.oneCell']) (by unfold maxLen; omega) (by omega) (by simp; omega) ?_; intro v5 w5 ho5 hg5 hn5; obtain ⟨ad5, k5, rfl⟩ := zc5 ho5; have hs5 := (HS9.out.alloc _).appO (y := ⟨(i : Int) + 1, 1, 1, 1, 0, 1, 6, 2, false⟩) ho5 hg5; have f0 := hs5.c.frozen 0; obtain ⟨z0, z1⟩ := hs5.c.two; have hXl := hs5.c.lt; have HS5 := hidden (hs5.put 0 (.slice ad5 (L.length + 1) k5) (cb' := #[.slice ad5 (L.length + 1) k5, .slice none 0 0]) (by simp)); clear ho5 hg5 hn5 hs5)
     go_roundw
     case rel => exact ⟨i + 1, rfl, by omega, _, _, by have := HL.out; rw [List.length_append, List.length_singleton]; omega, HS5.out⟩
     case measure => simp [intOf]; omega
    ·have hL2 : L.length <= 101 := by omega
     clear hL
     go_wp2_with fail
     go_loopw [9] (fun jv wr => ∃ j : Nat, jv = .int .i64 (j : Int) /\ j <= 500 /\ ∃ (vd : Value) (D : List Ds), D.length = j /\ SC w wr g R X ao cap bs #[vo, vd] vo vd L D) (fun jv _ => 500 - (intOf jv).toNat)
     case atStart => exact ⟨0, rfl, by omega, _, [], rfl, hs9⟩
     case round =>
      clear hs9
      obtain ⟨j, rfl, hj, vd, D, hD, hs⟩ := hrel
      by_cases hgj : (j : Int) < 500
      ·obtain ⟨b1, e1, b2, e2, rfl, rfl⟩ := hs.form
       obtain ⟨x0, x1⟩ := hs.c.two
       have HL := hidden hD
       have hLl : D.length <= 500 := by omega
       have hsz := hs.keep.size
       have HS9 := hidden hs
       have hq0 : 0 <= (j : Int).tdiv 6 := Int.tdiv_nonneg (by omega) (by omega)
       clear hD hs
       go_wp2_with (at_builtin; refine wpList_append_own _ rfl (.tmp 158) (.tmp 165) 25 rfl w.heap.size 35 j0 (.agg #[.int .i64 0, .int .i64 0, .int .i64 0, .int .i64 0, .int .i64 0]) 5 40 Tryz.underlying25 hj0 hu0 hu1 hu2 rfl (by decide) _ D.length (zt 5 jy D) rfl (HS9.out.alloc _).new.2 ⟨wr.heap.size, 0, none⟩ 1 1 _ rfl rfl (zku _ _ _ _ _ _ _) (by simp [Value.oneCell']) (by unfold maxLen; omega) (by omega) (by simp; omega) ?_; intro v5 w5 ho5 hg5 hn5; obtain ⟨ad5, k5, rfl⟩ := zc5 ho5; have hs5 := (HS9.out.alloc _).appD (y := ⟨2 + (j : Int) / 6, (j : Int) % 6, 0, 1, -1⟩) ho5 hg5; have f0 := hs5.c.frozen 1; obtain ⟨z0, z1⟩ := hs5.c.two; have hXl := hs5.c.lt; have HS5 := hidden (hs5.put 1 (.slice ad5 (D.length + 1) k5) (cb' := #[.slice b1 L.length e1, .slice ad5 (D.length + 1) k5]) (by simp)); clear ho5 hg5 hn5 hs5)
       go_roundw
       case rel => exact ⟨j + 1, rfl, by omega, _, _, by have := HL.out; rw [List.length_append, List.length_singleton]; omega, HS5.out⟩
       case measure => simp [intOf]; omega
      ·have hD2 : D.length <= 501 := by omega
       clear hD
       obtain ⟨b1, e1, b2, e2, rfl, rfl⟩ := hs.form
       obtain ⟨x0, x1⟩ := hs.c.two
       obtain ⟨r0, r1⟩ := hs.r.two
       have fr0 := hs.r.frozen 0
       have fr1 := hs.r.frozen 1
       have hRl := hs.r.lt
       have hXl := hs.c.lt
       have hXR := hs.rc
       obtain ⟨k0, k1, k2, k3⟩ := hs.told
       obtain ⟨y0, y1⟩ := k0.two
       have H1 := hidden k1
       have H2 := hidden k2
       have H3 := hidden k3
       clear k0 k1 k2 k3 hs
       go_wp2_with fail
       exact bodyPost_ret (v := .tuple #[.agg #[.slice b1 L.length e1, .slice b2 D.length e2], .int .i64 t]) (by simp [results, Tryz.results10, go_sem, y0, y1]) rfl ⟨_, _, L, D, t, rfl, HT.out, by omega, by omega, by subst hRR; exact H1.out, H2.out, H3.out⟩
end Go.Proofs.YtjlpfpigggdemaaGreatDoor
namespace Go.Proofs.YtjlpfpigggdemaaGreatDoor
open Go.RowKit Va Uo
set_option linter.all false
theorem zkn {w w' : World} {ao : Option Addr} {bs : List Int} (h : Bytes w w.heap.size ao bs) (hb : Below w.heap.size w w') : Bytes w' w'.heap.size ao bs := by
 have h2 := h.below hb
 have hs := hb.size
 refine ⟨h2.1, ?_⟩
 rcases h2.2 with q | ⟨b, o, e, hl, hc⟩
 ·exact Or.inl q
 ·exact Or.inr ⟨b, o, e, by omega, hc⟩
set_option maxRecDepth 20000 in
set_option maxHeartbeats 16000000 in
theorem ddue_any (ao : Option Addr) (cap : Nat) (bs : List Int) (w : World) (hb : Bytes w w.heap.size ao bs) (hl : bs.length <= 1048576) :
  Calls Tryz.prog 5 #[.slice ao bs.length cap] w fun e w' => ∃ (v1 v2 : Value) (os : List Od) (ds : List Ds) (t : Int), e = .returned (.tuple #[.agg #[v1, v2], .int .i64 t]) /\ Cp.CRw w' v1 v2 os ds /\ os.length <= 101 /\ ds.length <= 501 /\ Below w.heap.size w w' := by
 have bA : Below w.heap.size w (w.alloc (.cells #[.slice none 0 0, .slice none 0 0] 27)) := (Below.refl _ w).alloc (Nat.le_refl _) _
 have hRA := PB.new w #[.slice none 0 0, .slice none 0 0] 27
 have hzA : (w.alloc (.cells #[.slice none 0 0, .slice none 0 0] 27)).heap.size = w.heap.size + 1 := by simp
 go_enter Tryz.func5, Tryz.ntmps5
 go_wp2_with fail
 generalize w.alloc (.cells #[.slice none 0 0, .slice none 0 0] 27) = wA at *
 refine (new_any ao cap bs _ (zkn hb bA) hl).mono ?_
 rintro e w1 ⟨rfl, hc1, hb1⟩
 have hR1 := hRA.below hb1
 have b1 : Below w.heap.size w w1 := bA.trans (hb1.mono (by omega))
 have hg2 : w.heap.size + 1 <= wA.heap.size := by omega
 clear hzA hRA bA hb1 hb
 generalize wA.heap.size = g at *
 go_wp2_with fail
 refine (zjt g ao cap bs _ hc1).mono ?_
 rintro e w2 ⟨v1, v2, os, ds, t, rfl, ht, ho, hd, hn2, hc2, hk2⟩
 have hg1 := hc1.1
 have hR2 := hR1.keep hk2 (by omega)
 have b2 : Below w.heap.size w w2 := b1.trans ((hk2.below (B := w.heap.size) (by omega) (by omega)))
 obtain ⟨a1, c1, a2, c2, rfl, rfl⟩ := hn2.form
 have HO := hidden ho
 have HD := hidden hd
 have hs2 := hk2.size
 have ba := (Below.refl w2.heap.size w2).alloc (Nat.le_refl _) (.cells #[.slice a1 os.length c1, .slice a2 ds.length c2] 27)
 have hn3 := hn2.below ba
 have hc3 := hc2.alloc (.cells #[.slice a1 os.length c1, .slice a2 ds.length c2] 27)
 have b3 := b2.alloc b2.size (.cells #[.slice a1 os.length c1, .slice a2 ds.length c2] 27)
 have hR3 := hR2.below ba
 have hX3 := PB.new w2 #[.slice a1 os.length c1, .slice a2 ds.length c2] 27
 have hRl := hR2.lt
 have hg2l := hc2.1
 have hbase : g < w1.heap.size := hg1
 have hXg : g < w2.heap.size := by omega
 have hRg : w.heap.size ≠ g := by omega
 clear hn2 ho hd hc1 hc2 hk2 hR1 hR2 b1 b2 ba hg1 hs2
 generalize hWW : w2.alloc (.cells #[.slice a1 os.length c1, .slice a2 ds.length c2] 27) = w3 at *
 generalize hXX : w2.heap.size = X at *
 go_upto_if 19 with (first | (go_at_call 11; refine (zcy g ao cap bs (-60) 60 _ hc3 (by omega) (by omega) (by omega)).mono ?_; rintro e w4 ⟨z, rfl, hz1, hz2, hc4, hk4⟩) | (go_at_call 12; refine (zcf g ao cap bs 20 _ hc4 (by omega)).mono ?_; rintro e w5 ⟨b5, rfl, hc5, hk5⟩))
 have k5 := hk4.trans hk5
 have hR5 := hR3.keep k5 hRg
 have hX5 := hX3.keep k5 (by omega)
 have hn5 := zco hn3 k5 hbase
 have B5 : Below w.heap.size w w5 := b3.trans (k5.below (B := w.heap.size) (by omega) b3.size)
 clear hWW hXX hk4 hc4 hk5 hc3 hR3 hX3 hn3 b3 k5
 go_cut [6] (fun tv wx => ∃ t' : Int, tv = .int .i64 t' /\ PB wx w.heap.size #[.slice none 0 0, .slice none 0 0] 27 /\ PB wx X #[.slice a1 os.length c1, .slice a2 ds.length c2] 27 /\ Cp.zo wx w1.heap.size (.slice a1 os.length c1) (.slice a2 ds.length c2) os ds /\ Below w.heap.size w wx)
 case first =>
  rcases b5 with _ | _
  ·go_wp2_with fail
   go_meet
   case rel => exact ⟨_, rfl, hR5, hX5, hn5, B5⟩
  ·have hgA := hc5.1
   have hcT := hc5.alloc (.cells #[.int .i64 (-1), .int .i64 10000001, .int .i64 10000000, .int .i64 0] 2)
   have bT := (Below.refl w5.heap.size w5).alloc (Nat.le_refl _) (.cells #[.int .i64 (-1), .int .i64 10000001, .int .i64 10000000, .int .i64 0] 2)
   have hRT := hR5.below bT
   have hXT := hX5.below bT
   have hnT := hn5.below bT
   have BT := B5.alloc B5.size (.cells #[.int .i64 (-1), .int .i64 10000001, .int .i64 10000000, .int .i64 0] 2)
   clear hR5 hX5 hn5 B5 hc5
   go_wp2_with fail
   refine (qh g ao cap bs 4 _ hcT (by omega)).mono ?_
   rintro e wC ⟨yC, rfl, hyA, hyB, hcC, hkC⟩
   obtain ⟨kk, rfl⟩ := Int.eq_ofNat_of_zero_le hyA
   have hkk : kk < 4 := by omega
   obtain ⟨zz, hzz⟩ := zgl [-1, 10000001, 10000000, 0] w5 wC g _ hkC hgA kk hkk
   have HR := hidden (hRT.keep hkC hRg)
   have HX := hidden (hXT.keep hkC (by omega))
   have HN := hidden (zco hnT hkC hbase)
   have HB := hidden (BT.trans (hkC.below (B := w.heap.size) (by omega) BT.size))
   clear hcT bT hRT hXT hnT BT hcC hkC
   go_wp2_with fail
   go_meet
   case rel => exact ⟨_, rfl, HR.out, HX.out, HN.out, HB.out⟩
 case rest =>
  obtain ⟨t', rfl, hR6, hX6, hn6, B6⟩ := hcut
  obtain ⟨x0, x1⟩ := hX6.two
  have f0 := hR6.frozen 0
  have f1 := hR6.frozen 1
  obtain ⟨r0, r1⟩ := hR6.two
  have hRF := (hR6.put 0 (.slice a1 os.length c1) rfl).put 1 (.slice a2 ds.length c2) rfl
  have HN := hidden (zev (zaf (zaf hn6 hR6 (by decide) (by decide) 0 (.slice a1 os.length c1)) (hR6.put 0 (.slice a1 os.length c1) rfl) (by decide) (by decide) 1 (.slice a2 ds.length c2)))
  have HB := hidden ((B6.setCell (p := ⟨w.heap.size, 0, none⟩) (Nat.le_refl _) (.slice a1 os.length c1)).setCell (p := ⟨w.heap.size, 1, none⟩) (Nat.le_refl _) (.slice a2 ds.length c2))
  obtain ⟨y0, y1⟩ := hRF.two
  clear hR6 hX6 hn6 B6 hRF
  go_wp2_with fail
  exact bodyPost_ret (v := .tuple #[.agg #[.slice a1 os.length c1, .slice a2 ds.length c2], .int .i64 t']) (by simp [results, Tryz.results5, go_sem, y0, y1]) rfl ⟨_, _, os, ds, t', rfl, HN.out, HO.out, HD.out, HB.out⟩
end Go.Proofs.YtjlpfpigggdemaaGreatDoor
namespace Go.Proofs.YtjlpfpigggdemaaGreatDoor.Rg
open Go
set_option linter.all false
section
variable {P : Program} {ops : Array Oper} {Q : Exit -> Act -> World -> Prop} {md : Region.Mode}
def Hop3 (P : Program) (md : Region.Mode) (ops : Array Oper) (Q : Exit -> Act -> World -> Prop) (a : Act) (I : World -> Prop) (F : Nat -> (Nat -> Value) -> World -> Prop) (dead : Nat -> Option Nat) (i : Nat) : Prop :=
 ∀ b w, Fr ops a b -> I w -> (∀ k, kw md ops i k = true -> (dead k = none ∨ dead k = some i) -> F k (out ops b) w) →
  wpOp P ops Q i (fun b' w' => ∃ x, b' = b.put (ja ops i) x /\ I w' /\ ∀ o' : Nat -> Value, (∀ k, k ≠ i -> o' k = out ops b k) -> (ja ops i ≠ none -> o' i = x) -> F i o' w' /\ ∀ k, due md ops dead i k = true -> F k (out ops b) w -> F k o' w') b w
set_option maxRecDepth 20000 in
set_option maxHeartbeats 16000000 in
theorem zk7 {id : Nat} {a : Act} {w : World} (hm : P.follows .mixedOrders = true) (I : World -> Prop) (F : Nat -> (Nat -> Value) -> World -> Prop) (dead : Nat -> Option Nat) (hfit : fit .any ops a.tmps.size ops.size = true)
  (h0 : I { w with drawn := w.drawn + 1 }) (hop : ∀ i, i < ops.size -> Hop3 P .any ops Q a I F dead i)
  (hend : ∀ b w', Fr ops a b -> I w' -> (∀ k, k < ops.size -> dead k = none -> F k (out ops b) w') -> Q .normal b w') : (Code.region id ops true).wp P Q a w := by
 refine wp_region_any hm ?_
 refine zc1 (fun l b w' => l.size = ops.size /\ Shut .any ops l /\ Fr ops a b /\ I w' /\ ∀ k, k < ops.size -> l.getD k false = true -> (∃ j, dead k = some j /\ l.getD j false = true) ∨ F k (out ops b) w') ?_ ?_ _ _ _ _ ?_ ?_
 ·rintro l b w' i ⟨hs, hsh, hf, hI, hF⟩ hi
  obtain ⟨hi0, o, hio, haft⟩ := mem_ready.1 hi
  have hlt : i < ops.size := (Array.getElem?_eq_some_iff.1 hio).1
  have hli := zck (b := false) hi0
  have hnot : ∀ {d : Bool}, l.getD i d = true -> False := fun {d} h => by
   simp only [Array.getD_eq_getD_getElem?] at h
   rw [hli] at h; cases h
  have hl2 : (l.setIfInBounds i true).size = ops.size := by rw [Array.size_setIfInBounds]; exact hs
  have hii : (l.setIfInBounds i true).getD i false = true := by
   rw [Array.getD_eq_getD_getElem?, Array.getElem?_setIfInBounds_self_of_lt (by omega)]; rfl
  have hA : ∀ k, kw .any ops i k = true -> (dead k = none ∨ dead k = some i) -> F k (out ops b) w' := by
   intro k hk hd
   have hlk := za4 hio haft hk
   have hkl : k < ops.size := by
    have : k < l.size := by
     rcases Nat.lt_or_ge k l.size with q | q
     ·exact q
     ·rw [Array.getD_eq_getD_getElem?, Array.getElem?_eq_none q] at hlk; cases hlk
    omega
   rcases hF k hkl hlk with ⟨j, hj, hjl⟩ | h
   ·rcases hd with hd | hd
    ·rw [hd] at hj; cases hj
    ·rw [hd] at hj; cases hj; exact (hnot hjl).elim
   ·exact h
  refine wpOp_mono ?_ (hop i hlt b w' hf hI hA)
  rintro b' w'' ⟨x, rfl, hI2, hst⟩
  obtain ⟨hx, hst⟩ := hst (out ops (b.put (ja ops i) x)) (fun k hk => by rw [zb8 hfit hf rfl x (fun _ => .inr trivial), if_neg (fun q => hk q.1)]) (fun hd => by
   rw [zb8 hfit hf rfl x (fun _ => .inr trivial), if_pos ⟨rfl, by cases q : ja ops i with | none => exact (hd q).elim | some d => rfl⟩])
  refine ⟨hl2, ?_, hf.put i x, hI2, fun k hk hlk => ?_⟩
  ·intro k j hk hkj
   by_cases hki : k = i
   ·subst hki
    exact getD_set_true (za4 hio haft hkj)
   ·rw [getD_set_ne false (Ne.symm hki)] at hk
    exact getD_set_true (hsh k j hk hkj)
  ·by_cases hki : k = i
   ·subst hki
    exact .inr hx
   ·rw [getD_set_ne false (Ne.symm hki)] at hlk
    rcases hF k hk hlk with ⟨j, hj, hjl⟩ | h
    ·exact .inl ⟨j, hj, getD_set_true hjl⟩
    ·cases hdk : dead k with
     | none =>
      refine .inr (hst k ?_ h)
      simp only [due, hdk, Bool.and_true, Bool.and_eq_true, decide_eq_true_eq, Bool.not_eq_true']
      refine ⟨hki, ?_⟩
      cases q : kw .any ops k i with
      | false => rfl
      | true => exact (hnot (hsh k i hlk q)).elim
     | some j =>
      by_cases hji : j = i
      ·subst hji; exact .inl ⟨j, rfl, hii⟩
      ·by_cases hjd : kw .any ops i j = true
       ·exact .inl ⟨j, rfl, getD_set_true (za4 hio haft hjd)⟩
       ·refine .inr (hst k ?_ h)
        simp only [due, hdk, Bool.and_eq_true, decide_eq_true_eq, Bool.not_eq_true']
        refine ⟨⟨hki, ?_⟩, hji, by simpa using hjd⟩
        cases q : kw .any ops k i with
        | false => rfl
        | true => exact (hnot (hsh k i hlk q)).elim
 ·rintro l b w' ⟨hs, hsh, hf, hI, hF⟩ hr
  have hall := zc0 hfit hs hr
  exact hend b w' hf hI (fun k hk hd => by
   rcases hF k hk (hall k hk) with ⟨j, hj, _⟩ | h
   ·rw [hd] at hj; cases hj
   ·exact h)
 ·refine ⟨by simp, fun k j hk _ => ?_, ⟨rfl, rfl, fun s _ => rfl⟩, h0, fun k hk hlk => ?_⟩
  ·simp only [Array.getD_eq_getD_getElem?, Array.getElem?_replicate] at hk
   split at hk <;> cases hk
  ·simp only [Array.getD_eq_getD_getElem?, Array.getElem?_replicate, if_pos hk] at hlk
   cases hlk
 ·simp
theorem due_ne {dead : Nat -> Option Nat} {i k : Nat} (h : due md ops dead i k = true) : k ≠ i := by
 simp only [due, Bool.and_eq_true, decide_eq_true_eq] at h
 exact h.1.1
theorem due_af {dead : Nat -> Option Nat} {i k : Nat} (h : due md ops dead i k = true) (ha : kw md ops k i = true) : False := by
 simp [due, ha] at h
theorem due_dead {dead : Nat -> Option Nat} {i k : Nat} (h : due md ops dead i k = true) (hd : dead k = some i) : False := by
 simp [due, hd] at h
end
end Go.Proofs.YtjlpfpigggdemaaGreatDoor.Rg
