/-
  Fold: the specification's.
-/
import Derived.Test.YtbabknhccapaoaaM32
namespace Go.Proofs.Ytbabknhccapaoaa
open Go.RowKit Va Mg Go.Maps
set_option linter.all false

theorem same_bool (y x : Lt) : ((y.f != x.f) || (y.s != x.s)) = !decide (Same y x) := by
  unfold Same
  by_cases a : y.f = x.f <;> by_cases b : y.s = x.s <;> simp [a, b]

theorem take_vis {I : List Lt} {i : Nat} {y : Lt} (h : I[i]? = some y) : ∀ z ∈ I, z ∈ I.take (i + 1) ↔ z ∈ I.take i ∨ z = y := fun z _ => by
  rw [takeM h, List.mem_append, List.mem_singleton]
theorem best_all {I : List Lt} (hI : InOk I) {k : Int} {o : Option Lt} (h : IsBest I (fun y => y ∈ I.take I.length) k o) : best I k = o := by
  refine (best_eq hI ?_).symm
  rw [List.take_length] at h
  cases o with
  | none => exact fun y hy _ => h y hy hy
  | some x => exact ⟨⟨h.1.1, trivial, h.1.2.2⟩, fun y hy _ => h.2 y hy hy⟩
theorem less_bool (y z : Lt) : ((decide (y.s < z.s)) || ((y.s == z.s) && (decide (y.f < z.f)))) = lessB y z := by
  unfold lessB
  by_cases a : y.s = z.s <;> simp [a]
theorem hold_bool (u y : Lt) : ((u.f != y.f) || (u.c != y.s)) = !(decide (u.f = y.f) && decide (u.c = y.s)) := by
  by_cases a : u.f = y.f <;> by_cases b : u.c = y.s <;> simp [a, b]
/-- The place of the best so far, or -1. -/
def BAt (I : List Lt) (b : Int) (o : Option Lt) : Prop := (b = -1 ∧ o = none) ∨ ∃ (bn : Nat) (z : Lt), b = bn ∧ bn < I.length ∧ I[bn]? = some z ∧ o = some z

set_option maxRecDepth 20000 in
set_option maxHeartbeats 16000000 in
theorem sfold_any (ao : Option Addr) (n cap : Nat) (l : List Lt) (w : World) (h : VRw 5 cvLt w (.slice ao n cap) l) (hn : l.length ≤ 1048576) :
    Calls Try.prog 8 #[.slice ao n cap] w fun e w' => ∃ v', e = .returned v' ∧ VOwn 2 cvFc w' w.heap.size v' (fold l) ∧ Below w.heap.size w w' := by
  obtain rfl := h.len
  have HR := hidden h
  have HV : Hid (fold l = if l.length ≤ 1000 then factsTo (inL l) 100 else []) := rfl
  generalize fold l = M at *
  obtain ⟨i0, hi0, hv0, hv1, hv2⟩ := info_partsW infoFc
  obtain ⟨j0, hj0, hu0, hu1, hu2⟩ := info_partsW infoLet
  clear h
  by_cases g1 : (1000 : Int) < (l.length : Int)
  · have HE : Hid (M = []) := by rw [Hid, HV.out, if_neg (by omega)]
    clear HV
    go_enter Try.func8, Try.ntmps8
    go_wp2_with fail
    go_ret
    rw [HE.out]
    exact ⟨_, rfl, VOwn.nil _ _ _ _, by repeat (first | exact Below.refl _ _ | assumption | refine st_drew ?_ | refine st_drewN ?_ _ | refine Below.setCell ?_ (by first | omega | (simp; done) | (simp; omega)) _ | refine Below.alloc ?_ (by first | omega | (simp; done) | (simp; omega)) _)⟩
  have hl : l.length ≤ 1000 := by omega
  have HE : Hid (M = factsTo (inL l) 100) := by rw [Hid, HV.out, if_pos hl]
  have HB0 : Hid (Below w.heap.size w (w.alloc (.cells #[] 31))) := (Below.refl _ _).alloc (Nat.le_refl _) _
  have HO0 := hidden (ownW_new w 31 2)
  have hw1 : (w.alloc (.cells #[] 31)).heap.size = w.heap.size + 1 := by simp
  have HW1 := hidden hw1
  have HO1 : Hid (InR ((w.alloc (.cells #[] 31)).alloc (.cells #[] 29)) (w.heap.size + 1) (w.alloc (.cells #[] 31)).heap.size 0 []) := ownW_base (ownW_new (w.alloc (.cells #[] 31)) 29 5) (by simp)
  have HB1 : Hid (Below (w.heap.size + 1) (w.alloc (.cells #[] 31)) ((w.alloc (.cells #[] 31)).alloc (.cells #[] 29))) := (Below.refl _ _).alloc (by simp) _
  clear HV g1 hw1
  generalize hWA : w.alloc (.cells #[] 31) = WA at *
  go_enter Try.func8, Try.ntmps8
  go_wp2_with fail
  go_loopw [4, 5, 6, 7] (fun cv iv _ _ wr => ∃ (i : Nat) (I : List Lt) (G c : Nat), i ≤ l.length ∧ iv = .int .i64 i ∧ Hid (I = inL (l.take i)) ∧ cv = .slice (some ⟨G, 0, none⟩) I.length c ∧ InR wr (w.heap.size + 1) G c I ∧ Below (w.heap.size + 1) WA wr) (fun _ iv _ _ _ => l.length - ivS iv)
  case atStart => exact ⟨0, [], _, 0, Nat.zero_le _, rfl, rfl, rfl, HO1.out, HB1.out⟩
  case round =>
    clear HO1 HB1
    obtain ⟨i, I, G, c, hi, rfl, HI, rfl, ho, hb⟩ := hrel
    have hIl : I.length ≤ i := by rw [HI.out]; exact inL_len l i
    have hsz := hb.size
    have hsz1 : w.heap.size + 1 ≤ wr.heap.size := by have := HW1.out; omega
    have hbw : Below w.heap.size w wr := HB0.out.trans (hb.mono (by omega))
    by_cases hlt : ¬ i < l.length
    · have hlti : ¬ (i : Int) < (l.length : Int) := by omega
      have hil : i = l.length := by omega
      have HII : Hid (I = inL l) := by have := HI.out; rw [hil, List.take_length] at this; exact this
      have HOK : Hid (InOk I) := by rw [Hid, HII.out]; exact inL_ok l
      have HE2 : Hid (M = factsTo I 100) := by rw [Hid, HE.out, HII.out]
      have HOut : Hid (wr.ownsRow w.heap.size 31 2 (.slice (some ⟨w.heap.size, 0, none⟩) 0 0) 0 []) := ownW_below HO0.out (by rw [HW1.out]; exact hb)
      have hO := hidden ho
      clear hil HI HII HE HO0 hb ho HW1 hsz hsz1
      go_wp2_with fail
      go_loopw [3, 8, 9, 10, 11, 12] (fun mv kv _ _ _ _ wr => ∃ (key : Nat) (L : List Fc) (ad2 : Option Addr) (c2 : Nat), key ≤ 100 ∧ kv = .int .i64 key ∧ Hid (L = factsTo I key) ∧ mv = .slice ad2 L.length c2 ∧ wr.ownsRow w.heap.size 31 2 (.slice ad2 L.length c2) L.length (vcellsL 2 cvFc L) ∧ Hid (InR wr (w.heap.size + 1) G c I) ∧ Below w.heap.size w wr) (fun _ kv _ _ _ _ _ => 100 - ivS kv)
      case atStart => exact ⟨0, [], _, 0, by omega, rfl, rfl, rfl, HOut.out, hO, hbw⟩
      case round =>
        clear HOut hO hbw
        obtain ⟨key, L, ad2, c2, hk, rfl, HL, rfl, hoL, HIr, hb⟩ := hrel
        have hLl : L.length ≤ key := by rw [HL.out]; exact facts_len I key
        have hsz := hb.size
        have HoL := hidden hoL
        clear hoL
        by_cases hkl : ¬ key < 100
        · have hkli : ¬ (key : Int) < 100 := by omega
          have HQ : Hid (L = M) := by rw [Hid, HE2.out, HL.out, show key = 100 by omega]
          clear HL
          go_wp2_with fail
          go_ret
          rw [← HQ.out]
          exact ⟨_, rfl, vown_of rfl HoL.out, hb⟩
        have hkl := Decidable.not_not.1 hkl
        have hkli : (key : Int) < 100 := by omega
        have hIlen : I.length ≤ 1000 := by omega
        go_wp2_with fail
        go_loopw [9, 10, 11, 12] (fun bv iv _ _ ws => ∃ (i : Nat) (b : Int) (o : Option Lt), i ≤ I.length ∧ iv = .int .i64 i ∧ bv = .int .i64 b ∧ Hid (IsBest I (fun y => y ∈ I.take i) key o) ∧ Hid (BAt I b o) ∧ Below wr.heap.size wr ws) (fun _ iv _ _ _ => I.length - ivS iv)
        case atStart => exact ⟨0, -1, none, Nat.zero_le _, rfl, rfl, fun y _ hv => by simp at hv, Or.inl ⟨rfl, rfl⟩, Below.refl _ _⟩
        case round =>
          obtain ⟨i, b, o, hi, rfl, rfl, HBe, HBA, hb4⟩ := hrel
          have HI4 := hidden (ownW_below HIr.out hb4)
          have hb04 := ontoC hb hb4
          have hz4 := hb04.size
          by_cases hil : ¬ i < I.length
          · have hili : ¬ (i : Int) < (I.length : Int) := by omega
            have HBEST : Hid (best I key = o) := best_all HOK.out (by have := HBe.out; rw [show i = I.length by omega] at this; exact this)
            have HoL4 := hidden (ownW_below HoL.out hb4)
            clear HBe
            rcases HBA.out with ⟨rfl, rfl⟩ | ⟨bn, z, rfl, hbn, hz, rfl⟩
            · have HQ : Hid (L = factsTo I (key + 1)) := by rw [Hid, facts_none HBEST.out]; exact HL.out
              clear HBEST HL HBA
              go_wp2_with fail
              go_roundw
              case rel => exact ⟨key + 1, L, ad2, c2, by omega, rfl, HQ, rfl, HoL4.out, HI4, hb04⟩
              case measure => simp [ivS]; omega
            · have HQ : Hid (L ++ [⟨key, z.v⟩] = factsTo I (key + 1)) := by rw [Hid, facts_some HBEST.out, HL.out]
              have z4 : wr.cell? ⟨G, bn * 5 + 4, none⟩ = some (.int .i64 z.v) := (inr_cell HI4.out hz (k := 4) (by omega)).1
              have hbni : (bn : Int) < (I.length : Int) := by omega
              clear HBEST HL HBA hz
              go_wp2_with (at_builtin; refine wpList_append_own _ rfl (.tmp 171) (.tmp 179) 26 rfl w.heap.size 31 i0 (.agg #[.int .i64 0, .int .i64 0]) 2 16 Try.underlying26 hi0 hv0 hv1 hv2 rfl (by decide) _ L.length (vcellsL 2 cvFc L) rfl (HoL4.out.alloc _) ⟨wr.heap.size, 0, none⟩ 1 1 [.int .i64 (key : Int), .int .i64 z.v] rfl rfl (cell_twoS _ _ _ _) (by simp [Value.oneCell']) (by unfold maxLen; omega) (by omega) (by simp; omega) ?_; intro v5 w5 ho5 hg5 hn5; obtain ⟨ad5, c5, rfl⟩ := ownW_slice ho5)
              have ba : Below wr.heap.size wr (wr.alloc (.cells #[.int .i64 (key : Int), .int .i64 z.v] 31)) := (Below.refl _ _).alloc (Nat.le_refl _) _
              have b5 := (hb04.alloc hz4 (.cells #[.int .i64 (key : Int), .int .i64 z.v] 31)).grown hg5 (by simp; omega) (fun j hj => (ownW_lt HoL4.out j hj).1)
              have HI5 := hidden (own_grownS (ownW_below HI4.out ba) hg5 (fun j hj e => own_apartS HI4.out HoL4.out (by decide) j hj e))
              go_roundw
              case rel => exact ⟨key + 1, L ++ [⟨key, z.v⟩], ad5, c5, by omega, rfl, HQ, by rw [List.length_append]; rfl, by rw [List.length_append, vcellsL_app]; exact ho5, HI5, b5⟩
              case measure => simp [ivS]; omega
          have hil := Decidable.not_not.1 hil
          have hili : (i : Int) < (I.length : Int) := by omega
          obtain ⟨y, hy⟩ := some_of I i hil
          have y0 : wr.cell? ⟨G, i * 5, none⟩ = some (.int .i64 y.f) := (inr_cell HI4.out hy (k := 0) (by omega)).1
          have y1 : wr.cell? ⟨G, i * 5 + 1, none⟩ = some (.int .i64 y.s) := (inr_cell HI4.out hy (k := 1) (by omega)).1
          have y3 : wr.cell? ⟨G, i * 5 + 3, none⟩ = some (.int .i64 y.k) := (inr_cell HI4.out hy (k := 3) (by omega)).1
          have e0 := (ownM_lt HI4.out).2
          have HST := hidden (best_step (List.mem_of_getElem? hy) (take_vis hy) HBe.out)
          have HY := hidden hy
          clear hy HBe
          by_cases hyk : ¬ y.k = (key : Int)
          · have hykb : (y.k != (key : Int)) = true := by simpa using hyk
            have HQ := hidden (HST.out.1 hyk)
            clear hyk
            go_wp2_with fail
            go_roundw
            case rel => exact ⟨i + 1, b, o, by omega, rfl, rfl, HQ, HBA, hb4⟩
            case measure => simp [ivS]; omega
          have hyk := Decidable.not_not.1 hyk
          rw [hyk] at y3
          have HYK := hidden hyk
          clear hyk
          rcases HBA.out with ⟨rfl, rfl⟩ | ⟨bn, z, rfl, hbn, hz, rfl⟩
          · go_upto_region 25 with fail
            refine regSf25 (G := G) (n := I.length) (i := i) (bn := 0) (b := -1) (yf := y.f) (ys := y.s) (zf := 0) (zs := 0) rfl rfl rfl rfl (by omega) hil e0 (fun q => by omega) y0 y1 (fun q => by omega) (fun q => by omega) ?_
            intro b' w6 hf hb6 hv
            rw [decide_eq_false (show ¬ (0 : Int) ≤ -1 by omega), Bool.false_and] at hv
            rw [laySf25 hf, hv]
            clear hv hf
            generalize Rg.out (Rg.opsOf Try.f8 25) b' 0 = z0
            generalize Rg.out (Rg.opsOf Try.f8 25) b' 1 = z1
            generalize Rg.out (Rg.opsOf Try.f8 25) b' 2 = z2
            generalize Rg.out (Rg.opsOf Try.f8 25) b' 3 = z3
            generalize Rg.out (Rg.opsOf Try.f8 25) b' 4 = z4
            generalize Rg.out (Rg.opsOf Try.f8 25) b' 5 = z5
            generalize Rg.out (Rg.opsOf Try.f8 25) b' 6 = z6
            generalize Rg.out (Rg.opsOf Try.f8 25) b' 7 = z7
            generalize Rg.out (Rg.opsOf Try.f8 25) b' 8 = z8
            generalize Rg.out (Rg.opsOf Try.f8 25) b' 9 = z9
            generalize Rg.out (Rg.opsOf Try.f8 25) b' 10 = z10
            generalize Rg.out (Rg.opsOf Try.f8 25) b' 11 = z11
            generalize Rg.out (Rg.opsOf Try.f8 25) b' 12 = z12
            generalize Rg.out (Rg.opsOf Try.f8 25) b' 13 = z13
            generalize Rg.out (Rg.opsOf Try.f8 25) b' 14 = z14
            generalize Rg.out (Rg.opsOf Try.f8 25) b' 15 = z15
            generalize Rg.out (Rg.opsOf Try.f8 25) b' 16 = z16
            generalize Rg.out (Rg.opsOf Try.f8 25) b' 17 = z17
            generalize Rg.out (Rg.opsOf Try.f8 25) b' 18 = z18
            generalize Rg.out (Rg.opsOf Try.f8 25) b' 19 = z19
            generalize Rg.out (Rg.opsOf Try.f8 25) b' 20 = z20
            generalize Rg.out (Rg.opsOf Try.f8 25) b' 21 = z21
            generalize Rg.out (Rg.opsOf Try.f8 25) b' 22 = z22
            generalize Rg.out (Rg.opsOf Try.f8 25) b' 23 = z23
            generalize Rg.out (Rg.opsOf Try.f8 25) b' 24 = z24
            generalize Rg.out (Rg.opsOf Try.f8 25) b' 25 = z25
            generalize Rg.out (Rg.opsOf Try.f8 25) b' 26 = z26
            generalize Rg.out (Rg.opsOf Try.f8 25) b' 27 = z27
            generalize Rg.out (Rg.opsOf Try.f8 25) b' 28 = z28
            generalize Rg.out (Rg.opsOf Try.f8 25) b' 29 = z29
            generalize Rg.out (Rg.opsOf Try.f8 25) b' 30 = z30
            generalize Rg.out (Rg.opsOf Try.f8 25) b' 31 = z31
            generalize Rg.out (Rg.opsOf Try.f8 25) b' 32 = z32
            generalize Rg.out (Rg.opsOf Try.f8 25) b' 33 = z33
            generalize Rg.out (Rg.opsOf Try.f8 25) b' 34 = z34
            generalize Rg.out (Rg.opsOf Try.f8 25) b' 35 = z35
            generalize Rg.out (Rg.opsOf Try.f8 25) b' 36 = z36
            generalize Rg.out (Rg.opsOf Try.f8 25) b' 37 = z37
            generalize Rg.out (Rg.opsOf Try.f8 25) b' 38 = z38
            generalize Rg.out (Rg.opsOf Try.f8 25) b' 39 = z39
            go_frame
            go_wp2_with fail
            go_loopw [11, 12] (fun tv kv wt => ∃ (k : Nat) (tt : Bool), k ≤ I.length ∧ kv = .int .i64 k ∧ tv = .bool tt ∧ Hid (tt = holdsTo I y k) ∧ Below w6.heap.size w6 wt) (fun _ kv _ => I.length - ivS kv)
            case atStart => exact ⟨0, true, Nat.zero_le _, rfl, rfl, (holdsTo_zero I y).symm, Below.refl _ _⟩
            case round =>
              obtain ⟨k, tt, hk5, rfl, rfl, HT, hb7⟩ := hrel
              have hb47 := ontoC (ontoC hb4 hb6) hb7
              have NO : Hid (¬ Holds I y → IsBest I (fun y => y ∈ I.take (i + 1)) key (none)) := fun q => HST.out.2.1 HYK.out q
              by_cases hkI : ¬ k < I.length
              · have hkIi : ¬ (k : Int) < (I.length : Int) := by omega
                have hke : k = I.length := by omega
                cases tt with
                | false =>
                  have HQ := hidden (NO.out (holdsTo_false HT.out.symm))
                  clear hke HT NO
                  go_wp2_with fail
                  go_roundw
                  case rel => exact ⟨i + 1, -1, none, by omega, rfl, rfl, HQ, HBA, hb47⟩
                  case measure => simp [ivS]; omega
                | true =>
                  have HQ := hidden (HST.out.2.2.1 HYK.out (holdsTo_iff.1 (by rw [← hke]; exact HT.out.symm)) (Or.inl (by first | rfl | trivial)))
                  have HBN : Hid (BAt I (i : Int) (some y)) := Or.inr ⟨i, y, rfl, hil, HY.out, rfl⟩
                  clear hke HT NO
                  go_wp2_with fail
                  go_roundw
                  case rel => exact ⟨i + 1, (i : Int), some y, by omega, rfl, rfl, HQ, HBN, hb47⟩
                  case measure => simp [ivS]; omega
              · have hkI := Decidable.not_not.1 hkI
                have hkIi : (k : Int) < (I.length : Int) := by omega
                cases tt with
                | false =>
                  have HQ := hidden (NO.out (holdsTo_false HT.out.symm))
                  clear HT NO
                  go_wp2_with fail
                  go_roundw
                  case rel => exact ⟨i + 1, -1, none, by omega, rfl, rfl, HQ, HBA, hb47⟩
                  case measure => simp [ivS]; omega
                | true =>
                  obtain ⟨u, hu⟩ := some_of I k hkI
                  have HI7 := hidden (ownW_below HI4.out (ontoC hb6 hb7))
                  have u0 : wr.cell? ⟨G, k * 5, none⟩ = some (.int .i64 u.f) := (inr_cell HI7.out hu (k := 0) (by omega)).1
                  have u2 : wr.cell? ⟨G, k * 5 + 2, none⟩ = some (.int .i64 u.c) := (inr_cell HI7.out hu (k := 2) (by omega)).1
                  have v0 : wr.cell? ⟨G, i * 5, none⟩ = some (.int .i64 y.f) := (inr_cell HI7.out HY.out (k := 0) (by omega)).1
                  have v1 : wr.cell? ⟨G, i * 5 + 1, none⟩ = some (.int .i64 y.s) := (inr_cell HI7.out HY.out (k := 1) (by omega)).1
                  have e7 := (ownM_lt HI7.out).2
                  have HN : Hid (((u.f != y.f) || (u.c != y.s)) = holdsTo I y (k + 1)) := by rw [Hid, holdsTo_succ hu, ← HT.out, hold_bool]; rfl
                  clear hu HT NO
                  go_upto_region 30 with fail
                  refine regSf30 (G := G) (n := I.length) (i := i) (k := k) (uf := u.f) (uc := u.c) (yf := y.f) (ys := y.s) rfl rfl rfl rfl (by omega) hil hkI e7 u0 u2 v0 v1 ?_
                  intro b' w8 hf hb8 hv
                  rw [laySf30 hf, hv]
                  clear hv hf
                  generalize Rg.out (Rg.opsOf Try.f8 30) b' 0 = z0
                  generalize Rg.out (Rg.opsOf Try.f8 30) b' 1 = z1
                  generalize Rg.out (Rg.opsOf Try.f8 30) b' 2 = z2
                  generalize Rg.out (Rg.opsOf Try.f8 30) b' 3 = z3
                  generalize Rg.out (Rg.opsOf Try.f8 30) b' 4 = z4
                  generalize Rg.out (Rg.opsOf Try.f8 30) b' 5 = z5
                  generalize Rg.out (Rg.opsOf Try.f8 30) b' 6 = z6
                  generalize Rg.out (Rg.opsOf Try.f8 30) b' 7 = z7
                  generalize Rg.out (Rg.opsOf Try.f8 30) b' 8 = z8
                  generalize Rg.out (Rg.opsOf Try.f8 30) b' 9 = z9
                  generalize Rg.out (Rg.opsOf Try.f8 30) b' 10 = z10
                  generalize Rg.out (Rg.opsOf Try.f8 30) b' 11 = z11
                  generalize Rg.out (Rg.opsOf Try.f8 30) b' 12 = z12
                  generalize Rg.out (Rg.opsOf Try.f8 30) b' 13 = z13
                  generalize Rg.out (Rg.opsOf Try.f8 30) b' 14 = z14
                  generalize Rg.out (Rg.opsOf Try.f8 30) b' 15 = z15
                  generalize Rg.out (Rg.opsOf Try.f8 30) b' 16 = z16
                  generalize Rg.out (Rg.opsOf Try.f8 30) b' 17 = z17
                  generalize Rg.out (Rg.opsOf Try.f8 30) b' 18 = z18
                  generalize Rg.out (Rg.opsOf Try.f8 30) b' 19 = z19
                  generalize Rg.out (Rg.opsOf Try.f8 30) b' 20 = z20
                  generalize Rg.out (Rg.opsOf Try.f8 30) b' 21 = z21
                  generalize Rg.out (Rg.opsOf Try.f8 30) b' 22 = z22
                  generalize Rg.out (Rg.opsOf Try.f8 30) b' 23 = z23
                  generalize ((u.f != y.f) || (u.c != y.s)) = t9 at *
                  have b78 := ontoC hb7 hb8
                  go_frame
                  go_wp2_with fail
                  go_roundw
                  case rel => exact ⟨k + 1, t9, by omega, rfl, rfl, HN, b78⟩
                  case measure => simp [ivS]; omega
          · have z0 : wr.cell? ⟨G, bn * 5, none⟩ = some (.int .i64 z.f) := (inr_cell HI4.out hz (k := 0) (by omega)).1
            have z1 : wr.cell? ⟨G, bn * 5 + 1, none⟩ = some (.int .i64 z.s) := (inr_cell HI4.out hz (k := 1) (by omega)).1
            cases hless : lessB y z with
            | true =>
              have HQ := hidden (HST.out.2.2.2 z rfl (lessB_true hless))
              go_upto_region 25 with fail
              refine regSf25 (G := G) (n := I.length) (i := i) (bn := bn) (b := (bn : Int)) (yf := y.f) (ys := y.s) (zf := z.f) (zs := z.s) rfl rfl rfl rfl (by omega) hil e0 (fun _ => ⟨rfl, hbn⟩) y0 y1 (fun _ => z0) (fun _ => z1) ?_
              intro b' w6 hf hb6 hv
              rw [decide_eq_true (show (0 : Int) ≤ (bn : Int) by omega), Bool.true_and, less_bool, hless] at hv
              rw [laySf25 hf, hv]
              clear hv hf
              generalize Rg.out (Rg.opsOf Try.f8 25) b' 0 = z0
              generalize Rg.out (Rg.opsOf Try.f8 25) b' 1 = z1
              generalize Rg.out (Rg.opsOf Try.f8 25) b' 2 = z2
              generalize Rg.out (Rg.opsOf Try.f8 25) b' 3 = z3
              generalize Rg.out (Rg.opsOf Try.f8 25) b' 4 = z4
              generalize Rg.out (Rg.opsOf Try.f8 25) b' 5 = z5
              generalize Rg.out (Rg.opsOf Try.f8 25) b' 6 = z6
              generalize Rg.out (Rg.opsOf Try.f8 25) b' 7 = z7
              generalize Rg.out (Rg.opsOf Try.f8 25) b' 8 = z8
              generalize Rg.out (Rg.opsOf Try.f8 25) b' 9 = z9
              generalize Rg.out (Rg.opsOf Try.f8 25) b' 10 = z10
              generalize Rg.out (Rg.opsOf Try.f8 25) b' 11 = z11
              generalize Rg.out (Rg.opsOf Try.f8 25) b' 12 = z12
              generalize Rg.out (Rg.opsOf Try.f8 25) b' 13 = z13
              generalize Rg.out (Rg.opsOf Try.f8 25) b' 14 = z14
              generalize Rg.out (Rg.opsOf Try.f8 25) b' 15 = z15
              generalize Rg.out (Rg.opsOf Try.f8 25) b' 16 = z16
              generalize Rg.out (Rg.opsOf Try.f8 25) b' 17 = z17
              generalize Rg.out (Rg.opsOf Try.f8 25) b' 18 = z18
              generalize Rg.out (Rg.opsOf Try.f8 25) b' 19 = z19
              generalize Rg.out (Rg.opsOf Try.f8 25) b' 20 = z20
              generalize Rg.out (Rg.opsOf Try.f8 25) b' 21 = z21
              generalize Rg.out (Rg.opsOf Try.f8 25) b' 22 = z22
              generalize Rg.out (Rg.opsOf Try.f8 25) b' 23 = z23
              generalize Rg.out (Rg.opsOf Try.f8 25) b' 24 = z24
              generalize Rg.out (Rg.opsOf Try.f8 25) b' 25 = z25
              generalize Rg.out (Rg.opsOf Try.f8 25) b' 26 = z26
              generalize Rg.out (Rg.opsOf Try.f8 25) b' 27 = z27
              generalize Rg.out (Rg.opsOf Try.f8 25) b' 28 = z28
              generalize Rg.out (Rg.opsOf Try.f8 25) b' 29 = z29
              generalize Rg.out (Rg.opsOf Try.f8 25) b' 30 = z30
              generalize Rg.out (Rg.opsOf Try.f8 25) b' 31 = z31
              generalize Rg.out (Rg.opsOf Try.f8 25) b' 32 = z32
              generalize Rg.out (Rg.opsOf Try.f8 25) b' 33 = z33
              generalize Rg.out (Rg.opsOf Try.f8 25) b' 34 = z34
              generalize Rg.out (Rg.opsOf Try.f8 25) b' 35 = z35
              generalize Rg.out (Rg.opsOf Try.f8 25) b' 36 = z36
              generalize Rg.out (Rg.opsOf Try.f8 25) b' 37 = z37
              generalize Rg.out (Rg.opsOf Try.f8 25) b' 38 = z38
              generalize Rg.out (Rg.opsOf Try.f8 25) b' 39 = z39
              go_frame
              have hb46 := ontoC hb4 hb6
              go_wp2_with fail
              go_roundw
              case rel => exact ⟨i + 1, (bn : Int), some z, by omega, rfl, rfl, HQ, HBA, hb46⟩
              case measure => simp [ivS]; omega
            | false =>
              have HLE := hidden (lessB_false.1 hless)
              go_upto_region 25 with fail
              refine regSf25 (G := G) (n := I.length) (i := i) (bn := bn) (b := (bn : Int)) (yf := y.f) (ys := y.s) (zf := z.f) (zs := z.s) rfl rfl rfl rfl (by omega) hil e0 (fun _ => ⟨rfl, hbn⟩) y0 y1 (fun _ => z0) (fun _ => z1) ?_
              intro b' w6 hf hb6 hv
              rw [decide_eq_true (show (0 : Int) ≤ (bn : Int) by omega), Bool.true_and, less_bool, hless] at hv
              rw [laySf25 hf, hv]
              clear hv hf
              generalize Rg.out (Rg.opsOf Try.f8 25) b' 0 = z0
              generalize Rg.out (Rg.opsOf Try.f8 25) b' 1 = z1
              generalize Rg.out (Rg.opsOf Try.f8 25) b' 2 = z2
              generalize Rg.out (Rg.opsOf Try.f8 25) b' 3 = z3
              generalize Rg.out (Rg.opsOf Try.f8 25) b' 4 = z4
              generalize Rg.out (Rg.opsOf Try.f8 25) b' 5 = z5
              generalize Rg.out (Rg.opsOf Try.f8 25) b' 6 = z6
              generalize Rg.out (Rg.opsOf Try.f8 25) b' 7 = z7
              generalize Rg.out (Rg.opsOf Try.f8 25) b' 8 = z8
              generalize Rg.out (Rg.opsOf Try.f8 25) b' 9 = z9
              generalize Rg.out (Rg.opsOf Try.f8 25) b' 10 = z10
              generalize Rg.out (Rg.opsOf Try.f8 25) b' 11 = z11
              generalize Rg.out (Rg.opsOf Try.f8 25) b' 12 = z12
              generalize Rg.out (Rg.opsOf Try.f8 25) b' 13 = z13
              generalize Rg.out (Rg.opsOf Try.f8 25) b' 14 = z14
              generalize Rg.out (Rg.opsOf Try.f8 25) b' 15 = z15
              generalize Rg.out (Rg.opsOf Try.f8 25) b' 16 = z16
              generalize Rg.out (Rg.opsOf Try.f8 25) b' 17 = z17
              generalize Rg.out (Rg.opsOf Try.f8 25) b' 18 = z18
              generalize Rg.out (Rg.opsOf Try.f8 25) b' 19 = z19
              generalize Rg.out (Rg.opsOf Try.f8 25) b' 20 = z20
              generalize Rg.out (Rg.opsOf Try.f8 25) b' 21 = z21
              generalize Rg.out (Rg.opsOf Try.f8 25) b' 22 = z22
              generalize Rg.out (Rg.opsOf Try.f8 25) b' 23 = z23
              generalize Rg.out (Rg.opsOf Try.f8 25) b' 24 = z24
              generalize Rg.out (Rg.opsOf Try.f8 25) b' 25 = z25
              generalize Rg.out (Rg.opsOf Try.f8 25) b' 26 = z26
              generalize Rg.out (Rg.opsOf Try.f8 25) b' 27 = z27
              generalize Rg.out (Rg.opsOf Try.f8 25) b' 28 = z28
              generalize Rg.out (Rg.opsOf Try.f8 25) b' 29 = z29
              generalize Rg.out (Rg.opsOf Try.f8 25) b' 30 = z30
              generalize Rg.out (Rg.opsOf Try.f8 25) b' 31 = z31
              generalize Rg.out (Rg.opsOf Try.f8 25) b' 32 = z32
              generalize Rg.out (Rg.opsOf Try.f8 25) b' 33 = z33
              generalize Rg.out (Rg.opsOf Try.f8 25) b' 34 = z34
              generalize Rg.out (Rg.opsOf Try.f8 25) b' 35 = z35
              generalize Rg.out (Rg.opsOf Try.f8 25) b' 36 = z36
              generalize Rg.out (Rg.opsOf Try.f8 25) b' 37 = z37
              generalize Rg.out (Rg.opsOf Try.f8 25) b' 38 = z38
              generalize Rg.out (Rg.opsOf Try.f8 25) b' 39 = z39
              go_frame
              go_wp2_with fail
              go_loopw [11, 12] (fun tv kv wt => ∃ (k : Nat) (tt : Bool), k ≤ I.length ∧ kv = .int .i64 k ∧ tv = .bool tt ∧ Hid (tt = holdsTo I y k) ∧ Below w6.heap.size w6 wt) (fun _ kv _ => I.length - ivS kv)
              case atStart => exact ⟨0, true, Nat.zero_le _, rfl, rfl, (holdsTo_zero I y).symm, Below.refl _ _⟩
              case round =>
                obtain ⟨k, tt, hk5, rfl, rfl, HT, hb7⟩ := hrel
                have hb47 := ontoC (ontoC hb4 hb6) hb7
                have NO : Hid (¬ Holds I y → IsBest I (fun y => y ∈ I.take (i + 1)) key (some z)) := fun q => HST.out.2.1 HYK.out q
                by_cases hkI : ¬ k < I.length
                · have hkIi : ¬ (k : Int) < (I.length : Int) := by omega
                  have hke : k = I.length := by omega
                  cases tt with
                  | false =>
                    have HQ := hidden (NO.out (holdsTo_false HT.out.symm))
                    clear hke HT NO
                    go_wp2_with fail
                    go_roundw
                    case rel => exact ⟨i + 1, (bn : Int), some z, by omega, rfl, rfl, HQ, HBA, hb47⟩
                    case measure => simp [ivS]; omega
                  | true =>
                    have HQ := hidden (HST.out.2.2.1 HYK.out (holdsTo_iff.1 (by rw [← hke]; exact HT.out.symm)) (Or.inr ⟨z, rfl, HLE.out⟩))
                    have HBN : Hid (BAt I (i : Int) (some y)) := Or.inr ⟨i, y, rfl, hil, HY.out, rfl⟩
                    clear hke HT NO
                    go_wp2_with fail
                    go_roundw
                    case rel => exact ⟨i + 1, (i : Int), some y, by omega, rfl, rfl, HQ, HBN, hb47⟩
                    case measure => simp [ivS]; omega
                · have hkI := Decidable.not_not.1 hkI
                  have hkIi : (k : Int) < (I.length : Int) := by omega
                  cases tt with
                  | false =>
                    have HQ := hidden (NO.out (holdsTo_false HT.out.symm))
                    clear HT NO
                    go_wp2_with fail
                    go_roundw
                    case rel => exact ⟨i + 1, (bn : Int), some z, by omega, rfl, rfl, HQ, HBA, hb47⟩
                    case measure => simp [ivS]; omega
                  | true =>
                    obtain ⟨u, hu⟩ := some_of I k hkI
                    have HI7 := hidden (ownW_below HI4.out (ontoC hb6 hb7))
                    have u0 : wr.cell? ⟨G, k * 5, none⟩ = some (.int .i64 u.f) := (inr_cell HI7.out hu (k := 0) (by omega)).1
                    have u2 : wr.cell? ⟨G, k * 5 + 2, none⟩ = some (.int .i64 u.c) := (inr_cell HI7.out hu (k := 2) (by omega)).1
                    have v0 : wr.cell? ⟨G, i * 5, none⟩ = some (.int .i64 y.f) := (inr_cell HI7.out HY.out (k := 0) (by omega)).1
                    have v1 : wr.cell? ⟨G, i * 5 + 1, none⟩ = some (.int .i64 y.s) := (inr_cell HI7.out HY.out (k := 1) (by omega)).1
                    have e7 := (ownM_lt HI7.out).2
                    have HN : Hid (((u.f != y.f) || (u.c != y.s)) = holdsTo I y (k + 1)) := by rw [Hid, holdsTo_succ hu, ← HT.out, hold_bool]; rfl
                    clear hu HT NO
                    go_upto_region 30 with fail
                    refine regSf30 (G := G) (n := I.length) (i := i) (k := k) (uf := u.f) (uc := u.c) (yf := y.f) (ys := y.s) rfl rfl rfl rfl (by omega) hil hkI e7 u0 u2 v0 v1 ?_
                    intro b' w8 hf hb8 hv
                    rw [laySf30 hf, hv]
                    clear hv hf
                    generalize Rg.out (Rg.opsOf Try.f8 30) b' 0 = z0
                    generalize Rg.out (Rg.opsOf Try.f8 30) b' 1 = z1
                    generalize Rg.out (Rg.opsOf Try.f8 30) b' 2 = z2
                    generalize Rg.out (Rg.opsOf Try.f8 30) b' 3 = z3
                    generalize Rg.out (Rg.opsOf Try.f8 30) b' 4 = z4
                    generalize Rg.out (Rg.opsOf Try.f8 30) b' 5 = z5
                    generalize Rg.out (Rg.opsOf Try.f8 30) b' 6 = z6
                    generalize Rg.out (Rg.opsOf Try.f8 30) b' 7 = z7
                    generalize Rg.out (Rg.opsOf Try.f8 30) b' 8 = z8
                    generalize Rg.out (Rg.opsOf Try.f8 30) b' 9 = z9
                    generalize Rg.out (Rg.opsOf Try.f8 30) b' 10 = z10
                    generalize Rg.out (Rg.opsOf Try.f8 30) b' 11 = z11
                    generalize Rg.out (Rg.opsOf Try.f8 30) b' 12 = z12
                    generalize Rg.out (Rg.opsOf Try.f8 30) b' 13 = z13
                    generalize Rg.out (Rg.opsOf Try.f8 30) b' 14 = z14
                    generalize Rg.out (Rg.opsOf Try.f8 30) b' 15 = z15
                    generalize Rg.out (Rg.opsOf Try.f8 30) b' 16 = z16
                    generalize Rg.out (Rg.opsOf Try.f8 30) b' 17 = z17
                    generalize Rg.out (Rg.opsOf Try.f8 30) b' 18 = z18
                    generalize Rg.out (Rg.opsOf Try.f8 30) b' 19 = z19
                    generalize Rg.out (Rg.opsOf Try.f8 30) b' 20 = z20
                    generalize Rg.out (Rg.opsOf Try.f8 30) b' 21 = z21
                    generalize Rg.out (Rg.opsOf Try.f8 30) b' 22 = z22
                    generalize Rg.out (Rg.opsOf Try.f8 30) b' 23 = z23
                    generalize ((u.f != y.f) || (u.c != y.s)) = t9 at *
                    have b78 := ontoC hb7 hb8
                    go_frame
                    go_wp2_with fail
                    go_roundw
                    case rel => exact ⟨k + 1, t9, by omega, rfl, rfl, HN, b78⟩
                    case measure => simp [ivS]; omega
    have hlt := Decidable.not_not.1 hlt
    have hlti : (i : Int) < (l.length : Int) := by omega
    obtain ⟨x, hx⟩ := some_of l i hlt
    obtain ⟨gg, off, rfl, hgg, hcs⟩ := (HR.out.below hbw).at hx
    have c0 : wr.cell? ⟨gg, off + i * 5, none⟩ = some (.int .i64 x.f) := hcs 0 (by omega)
    have c1 : wr.cell? ⟨gg, off + i * 5 + 1, none⟩ = some (.int .i64 x.s) := hcs 1 (by omega)
    have c2 : wr.cell? ⟨gg, off + i * 5 + 2, none⟩ = some (.int .i64 x.c) := hcs 2 (by omega)
    have c3 : wr.cell? ⟨gg, off + i * 5 + 3, none⟩ = some (.int .i64 x.k) := hcs 3 (by omega)
    have c4 : wr.cell? ⟨gg, off + i * 5 + 4, none⟩ = some (.int .i64 x.v) := hcs 4 (by omega)
    have HX := hidden (inL_take hx)
    have k := sletter_any x
    unfold aLt at k
    have HPX := hidden (PB.new wr #[.int .i64 x.f, .int .i64 x.s, .int .i64 x.c, .int .i64 x.k, .int .i64 x.v] 29)
    have bx : Below wr.heap.size wr (wr.alloc (.cells #[.int .i64 x.f, .int .i64 x.s, .int .i64 x.c, .int .i64 x.k, .int .i64 x.v] 29)) := (Below.refl _ _).alloc (Nat.le_refl _) _
    have hO := hidden ho
    clear hcs hx ho hbw
    cases hq : ltB x with
    | false =>
      rw [hq] at k
      have HQ : Hid (I = inL (l.take (i + 1))) := by rw [Hid, HX.out, in_no hq]; exact HI.out
      clear hq
      go_wp2_with (go_at_call 23; (with_reducible refine (k _).mono ?_); rintro e w2 ⟨rfl, hb2⟩)
      have b2 := ontoC bx hb2
      go_roundw
      case rel => exact ⟨i + 1, I, G, c, by omega, rfl, HQ, rfl, ownW_below hO.out b2, hb.trans (b2.mono hsz1)⟩
      case measure => simp [ivS]; omega
    | true =>
    rw [hq] at k
    have HAT : Hid (∀ k, Plc I x k → at2 I x k = inL (l.take (i + 1))) := fun k hk => by rw [HX.out, ← HI.out, in_at hq hk]
    clear hq
    go_wp2_with (go_at_call 23; (with_reducible refine (k _).mono ?_); rintro e w2 ⟨rfl, hb2⟩)
    have b2 := ontoC bx hb2
    have HB2 := hidden (hb.trans (b2.mono hsz1))
    have HO2 := hidden (ownW_below hO.out b2)
    have HP2 := hidden (HPX.out.below hb2)
    have hz2 := b2.size
    generalize wr.heap.size = VX at *
    clear k hb2 bx b2 hb hO HPX c0 c1 c2 c3 c4 hgg HI HX hsz hsz1
    have hGlt := (ownM_lt HO2.out)
    go_loopw [7] (fun kv ws => ∃ k : Nat, k ≤ I.length ∧ kv = .int .i64 k ∧ Hid (∀ j y, j < k → I[j]? = some y → ¬ Same y x) ∧ Below w2.heap.size w2 ws) (fun kv _ => I.length - ivS kv)
    case atStart => exact ⟨0, Nat.zero_le _, rfl, fun j y hj => absurd hj (Nat.not_lt_zero _), Below.refl _ _⟩
    case round =>
      obtain ⟨k, hk, rfl, hno, hb3⟩ := hrel
      have hz3 := hb3.size
      have P3 := HP2.out.below hb3
      have hP3l := P3.lt
      have x0 : wr.cell? ⟨VX, 0, none⟩ = some (.int .i64 x.f) := P3.cell 0
      have x1 : wr.cell? ⟨VX, 1, none⟩ = some (.int .i64 x.s) := P3.cell 1
      have HO3 := hidden (ownW_below HO2.out hb3)
      have e0 := (ownM_lt HO3.out).2
      have hz4 : VX ≤ wr.heap.size := by omega
      by_cases hkl : k < I.length
      · obtain ⟨y, hy⟩ := some_of I k hkl
        have y0 : wr.cell? ⟨G, k * 5, none⟩ = some (.int .i64 y.f) := (inr_cell HO3.out hy (k := 0) (by omega)).1
        have y1 : wr.cell? ⟨G, k * 5 + 1, none⟩ = some (.int .i64 y.s) := (inr_cell HO3.out hy (k := 1) (by omega)).1
        go_upto_region 11 with fail
        refine regSf11 (G := G) (n := I.length) (B := VX) (k := k) (xf := x.f) (xs := x.s) (yf := y.f) (ys := y.s) rfl rfl rfl rfl (by omega) (by omega) e0 hP3l x0 x1 (fun _ => y0) (fun _ => y1) ?_
        intro b' w4 hf hb4 hv
        rw [same_bool, decide_eq_true (show (k : Int) < (I.length : Int) by omega), Bool.true_and] at hv
        have b24 := ontoC hb3 hb4
        by_cases hs : Same y x
        · rw [decide_eq_true hs] at hv
          have HPL : Hid (Plc I x k) := ⟨hk, hno.out, fun y' hy' => by rw [hy] at hy'; cases hy'; exact hs⟩
          have HAY : Hid (at2 I x k = if moreB x y then I.set k x else I) := by unfold at2; rw [Hid, hy]
          have HQ := hidden (HAY.out.symm.trans (HAT.out k HPL.out))
          have HO4 := hidden (ownW_below HO2.out b24)
          have P4 := hidden (HP2.out.below b24)
          have km := smore_any x y
          unfold aLt at km
          obtain ⟨f0, f1, f2, f3, f4⟩ := P4.out.fiveS
          have d0 : w4.cell? ⟨G, k * 5, none⟩ = some (.int .i64 y.f) := (inr_cell HO4.out hy (k := 0) (by omega)).1
          have d1 : w4.cell? ⟨G, k * 5 + 1, none⟩ = some (.int .i64 y.s) := (inr_cell HO4.out hy (k := 1) (by omega)).1
          have d2 : w4.cell? ⟨G, k * 5 + 2, none⟩ = some (.int .i64 y.c) := (inr_cell HO4.out hy (k := 2) (by omega)).1
          have d3 : w4.cell? ⟨G, k * 5 + 3, none⟩ = some (.int .i64 y.k) := (inr_cell HO4.out hy (k := 3) (by omega)).1
          have d4 : w4.cell? ⟨G, k * 5 + 4, none⟩ = some (.int .i64 y.v) := (inr_cell HO4.out hy (k := 4) (by omega)).1
          have HY := hidden hy
          have hkli : (k : Int) < (I.length : Int) := by omega
          have hkne : ((k : Int) == (I.length : Int)) = false := by rw [beq_eq_false_iff_ne]; omega
          rw [laySf11 hf, hv]
          clear hv hf y0 y1 x0 x1 hy hs HAT HPL HAY HO3 hno P3 hb3 hb4
          generalize Rg.out (Rg.opsOf Try.f8 11) b' 0 = z0
          generalize Rg.out (Rg.opsOf Try.f8 11) b' 1 = z1
          generalize Rg.out (Rg.opsOf Try.f8 11) b' 2 = z2
          generalize Rg.out (Rg.opsOf Try.f8 11) b' 3 = z3
          generalize Rg.out (Rg.opsOf Try.f8 11) b' 4 = z4
          generalize Rg.out (Rg.opsOf Try.f8 11) b' 5 = z5
          generalize Rg.out (Rg.opsOf Try.f8 11) b' 6 = z6
          generalize Rg.out (Rg.opsOf Try.f8 11) b' 7 = z7
          generalize Rg.out (Rg.opsOf Try.f8 11) b' 8 = z8
          generalize Rg.out (Rg.opsOf Try.f8 11) b' 9 = z9
          generalize Rg.out (Rg.opsOf Try.f8 11) b' 10 = z10
          generalize Rg.out (Rg.opsOf Try.f8 11) b' 11 = z11
          generalize Rg.out (Rg.opsOf Try.f8 11) b' 12 = z12
          generalize Rg.out (Rg.opsOf Try.f8 11) b' 13 = z13
          generalize Rg.out (Rg.opsOf Try.f8 11) b' 14 = z14
          generalize Rg.out (Rg.opsOf Try.f8 11) b' 15 = z15
          generalize Rg.out (Rg.opsOf Try.f8 11) b' 16 = z16
          generalize Rg.out (Rg.opsOf Try.f8 11) b' 17 = z17
          generalize Rg.out (Rg.opsOf Try.f8 11) b' 18 = z18
          generalize Rg.out (Rg.opsOf Try.f8 11) b' 19 = z19
          generalize Rg.out (Rg.opsOf Try.f8 11) b' 20 = z20
          generalize Rg.out (Rg.opsOf Try.f8 11) b' 21 = z21
          generalize Rg.out (Rg.opsOf Try.f8 11) b' 22 = z22
          cases hm : moreB x y with
          | false =>
            rw [hm] at km HQ
            have HQ2 : Hid (I = inL (l.take (i + 1))) := HQ.out
            clear hm HQ
            go_frame
            go_upto_region 15 with fail
            first | go_region_with (go_at_call 24; refine (km _).mono ?_; rintro e w5 ⟨rfl, hb5⟩) | fail
            all_goals
              have b45 : Below w4.heap.size w4 w5 := (st_drew (Below.refl _ _)).trans hb5
              have b5 := HB2.out.trans ((ontoC b24 b45).mono (by omega))
              have HO5 := hidden (ownW_below HO4.out b45)
              clear hb5
              go_wp2_with fail
              go_roundw
            all_goals first
              | exact ⟨i + 1, I, G, c, by omega, rfl, HQ2, rfl, HO5.out, b5⟩
              | (simp [ivS]; omega)
          | true =>
            rw [hm] at km HQ
            have HQ2 : Hid (I.set k x = inL (l.take (i + 1))) := HQ.out
            clear hm HQ
            go_frame
            go_upto_region 15 with fail
            first | go_region_with (go_at_call 24; refine (km _).mono ?_; rintro e w5 ⟨rfl, hb5⟩) | fail
            all_goals
              have b45 : Below w4.heap.size w4 w5 := (st_drew (Below.refl _ _)).trans hb5
              have b5 := HB2.out.trans ((ontoC b24 b45).mono (by omega))
              have HO5 := hidden (ownW_below HO4.out b45)
              obtain ⟨p0, p1, p2, p3, p4⟩ := (P4.out.below b45).fiveS
              have q0 : w5.cell? ⟨G, k * 5, none⟩ = some (.int .i64 y.f) ∧ w5.frozen? ⟨G, k * 5, none⟩ = false := inr_cell HO5.out HY.out (k := 0) (by omega)
              have q1 := inr_cell HO5.out HY.out (k := 1) (by omega)
              have q2 := inr_cell HO5.out HY.out (k := 2) (by omega)
              have q3 := inr_cell HO5.out HY.out (k := 3) (by omega)
              have q4 := inr_cell HO5.out HY.out (k := 4) (by omega)
              obtain ⟨s0, t0⟩ := q0
              obtain ⟨s1, t1⟩ := q1
              obtain ⟨s2, t2⟩ := q2
              obtain ⟨s3, t3⟩ := q3
              obtain ⟨s4, t4⟩ := q4
              have HO6 := hidden (ownM_put5 HO5.out rfl hkl x)
              have hG1 := (ownM_lt HO5.out).1
              have b6 : Below (w.heap.size + 1) WA (((((w5.setCell ⟨G, k * 5, none⟩ (.int .i64 x.f)).setCell ⟨G, k * 5 + 1, none⟩ (.int .i64 x.s)).setCell ⟨G, k * 5 + 2, none⟩ (.int .i64 x.c)).setCell ⟨G, k * 5 + 3, none⟩ (.int .i64 x.k)).setCell ⟨G, k * 5 + 4, none⟩ (.int .i64 x.v)) := ((((b5.setCell hG1 _).setCell hG1 _).setCell hG1 _).setCell hG1 _).setCell hG1 _
              clear hb5 HO5 b5 d0 d1 d2 d3 d4 f0 f1 f2 f3 f4
              go_wp2_with fail
              go_roundw
            all_goals first
              | exact ⟨i + 1, I.set k x, G, c, by omega, rfl, HQ2, by rw [List.length_set], by show World.ownsRow _ _ _ _ _ _ _; rw [List.length_set]; exact HO6.out, b6⟩
              | (simp [ivS]; omega)
        · rw [decide_eq_false hs] at hv
          have HN : Hid (∀ j y, j < k + 1 → I[j]? = some y → ¬ Same y x) := fun j y' hj hy' => by
            rcases Nat.lt_succ_iff_lt_or_eq.1 hj with q | rfl
            · exact hno.out j y' q hy'
            · rw [hy] at hy'; cases hy'; exact hs
          rw [laySf11 hf, hv]
          clear hv hf y0 y1 x0 x1 hy hs hno
          generalize Rg.out (Rg.opsOf Try.f8 11) b' 0 = z0
          generalize Rg.out (Rg.opsOf Try.f8 11) b' 1 = z1
          generalize Rg.out (Rg.opsOf Try.f8 11) b' 2 = z2
          generalize Rg.out (Rg.opsOf Try.f8 11) b' 3 = z3
          generalize Rg.out (Rg.opsOf Try.f8 11) b' 4 = z4
          generalize Rg.out (Rg.opsOf Try.f8 11) b' 5 = z5
          generalize Rg.out (Rg.opsOf Try.f8 11) b' 6 = z6
          generalize Rg.out (Rg.opsOf Try.f8 11) b' 7 = z7
          generalize Rg.out (Rg.opsOf Try.f8 11) b' 8 = z8
          generalize Rg.out (Rg.opsOf Try.f8 11) b' 9 = z9
          generalize Rg.out (Rg.opsOf Try.f8 11) b' 10 = z10
          generalize Rg.out (Rg.opsOf Try.f8 11) b' 11 = z11
          generalize Rg.out (Rg.opsOf Try.f8 11) b' 12 = z12
          generalize Rg.out (Rg.opsOf Try.f8 11) b' 13 = z13
          generalize Rg.out (Rg.opsOf Try.f8 11) b' 14 = z14
          generalize Rg.out (Rg.opsOf Try.f8 11) b' 15 = z15
          generalize Rg.out (Rg.opsOf Try.f8 11) b' 16 = z16
          generalize Rg.out (Rg.opsOf Try.f8 11) b' 17 = z17
          generalize Rg.out (Rg.opsOf Try.f8 11) b' 18 = z18
          generalize Rg.out (Rg.opsOf Try.f8 11) b' 19 = z19
          generalize Rg.out (Rg.opsOf Try.f8 11) b' 20 = z20
          generalize Rg.out (Rg.opsOf Try.f8 11) b' 21 = z21
          generalize Rg.out (Rg.opsOf Try.f8 11) b' 22 = z22
          go_frame
          go_wp2_with fail
          go_roundw
          case rel => exact ⟨k + 1, by omega, rfl, HN, b24⟩
          case measure => simp [ivS]; omega
      · have hke : k = I.length := by omega
        go_upto_region 11 with fail
        refine regSf11 (G := G) (n := I.length) (B := VX) (k := k) (xf := x.f) (xs := x.s) (yf := 0) (ys := 0) rfl rfl rfl rfl (by omega) (by omega) e0 hP3l x0 x1 (fun q => absurd q hkl) (fun q => absurd q hkl) ?_
        intro b' w4 hf hb4 hv
        rw [decide_eq_false (show ¬ (k : Int) < (I.length : Int) by omega), Bool.false_and] at hv
        have b24 := ontoC hb3 hb4
        have HPL : Hid (Plc I x k) := ⟨hk, hno.out, fun y' hy' => by rw [List.getElem?_eq_none (by omega)] at hy'; cases hy'⟩
        have HAY : Hid (at2 I x k = I ++ [x]) := by unfold at2; rw [Hid, List.getElem?_eq_none (by omega)]
        have HQ := hidden (HAY.out.symm.trans (HAT.out k HPL.out))
        have HO4 := hidden (ownW_below HO2.out b24)
        have P4 := hidden (HP2.out.below b24)
        obtain ⟨f0, f1, f2, f3, f4⟩ := P4.out.fiveS
        have hkeq : ((k : Int) == (I.length : Int)) = true := by rw [hke]; simp
        have hz5 := b24.size
        rw [laySf11 hf, hv]
        clear hv hf x0 x1 hno HAT HPL HAY HO3 P3 hb3 hb4 hke
        generalize Rg.out (Rg.opsOf Try.f8 11) b' 0 = z0
        generalize Rg.out (Rg.opsOf Try.f8 11) b' 1 = z1
        generalize Rg.out (Rg.opsOf Try.f8 11) b' 2 = z2
        generalize Rg.out (Rg.opsOf Try.f8 11) b' 3 = z3
        generalize Rg.out (Rg.opsOf Try.f8 11) b' 4 = z4
        generalize Rg.out (Rg.opsOf Try.f8 11) b' 5 = z5
        generalize Rg.out (Rg.opsOf Try.f8 11) b' 6 = z6
        generalize Rg.out (Rg.opsOf Try.f8 11) b' 7 = z7
        generalize Rg.out (Rg.opsOf Try.f8 11) b' 8 = z8
        generalize Rg.out (Rg.opsOf Try.f8 11) b' 9 = z9
        generalize Rg.out (Rg.opsOf Try.f8 11) b' 10 = z10
        generalize Rg.out (Rg.opsOf Try.f8 11) b' 11 = z11
        generalize Rg.out (Rg.opsOf Try.f8 11) b' 12 = z12
        generalize Rg.out (Rg.opsOf Try.f8 11) b' 13 = z13
        generalize Rg.out (Rg.opsOf Try.f8 11) b' 14 = z14
        generalize Rg.out (Rg.opsOf Try.f8 11) b' 15 = z15
        generalize Rg.out (Rg.opsOf Try.f8 11) b' 16 = z16
        generalize Rg.out (Rg.opsOf Try.f8 11) b' 17 = z17
        generalize Rg.out (Rg.opsOf Try.f8 11) b' 18 = z18
        generalize Rg.out (Rg.opsOf Try.f8 11) b' 19 = z19
        generalize Rg.out (Rg.opsOf Try.f8 11) b' 20 = z20
        generalize Rg.out (Rg.opsOf Try.f8 11) b' 21 = z21
        generalize Rg.out (Rg.opsOf Try.f8 11) b' 22 = z22
        go_frame
        go_wp2_with (at_builtin; refine wpList_append_own _ rfl (.tmp 62) (.tmp 64) 24 rfl (w.heap.size + 1) 29 j0 (.agg #[.int .i64 0, .int .i64 0, .int .i64 0, .int .i64 0, .int .i64 0]) 5 40 Try.underlying24 hj0 hu0 hu1 hu2 rfl (by decide) _ I.length (vcellsL 5 cvLt I) rfl (HO4.out.alloc _) ⟨w4.heap.size, 0, none⟩ 1 1 [.int .i64 x.f, .int .i64 x.s, .int .i64 x.c, .int .i64 x.k, .int .i64 x.v] rfl rfl (cell_fiveM _ _ _ _ _ _ _) (by simp [Value.oneCell']) (by unfold maxLen; omega) (by omega) (by simp; omega) ?_; intro v5 w5 ho5 hg5 hn5; obtain ⟨G5, c5, rfl⟩ := inr_some ho5 (by omega))
        have b5 := ((HB2.out.trans (b24.mono (by omega))).alloc (by omega) (.cells #[.int .i64 x.f, .int .i64 x.s, .int .i64 x.c, .int .i64 x.k, .int .i64 x.v] 29)).grown hg5 (by simp; omega) (fun j hj => (ownW_lt HO4.out j hj).1)
        go_roundw
        case rel => exact ⟨i + 1, I ++ [x], G5, c5, by omega, rfl, HQ, by rw [List.length_append]; rfl, by show World.ownsRow _ _ _ _ _ _ _; rw [List.length_append, vcellsL_app]; exact ho5, b5⟩
        case measure => simp [ivS]; omega
end Go.Proofs.Ytbabknhccapaoaa
