/-
  Share: the specification.
-/
import Derived.Test.YtecljmpojninfaaT4
import Derived.Test.YtecljmpojninfaaT6a
namespace Go.Proofs.Ytecljmpojninfaa
open Go.RowKit Va Lb
set_option linter.all false

set_option maxRecDepth 20000 in
set_option maxHeartbeats 8000000 in
theorem sshare_any (v : Int) (ao : Option Addr) (n cap : Nat) (l : List Int) (ao2 : Option Addr) (n2 cap2 : Nat) (m : List Int) (w : World) (h : VRw 1 cvI w (.slice ao n cap) l) (h2 : VRw 1 cvI w (.slice ao2 n2 cap2) m) (hn : l.length ≤ 1048576) (hm : m.length ≤ 1048576) :
    Calls Try.prog 20 #[.int .i64 v, .slice ao n cap, .slice ao2 n2 cap2] w fun e w' => ∃ v', e = .returned v' ∧ VOwn 1 cvI w' w.heap.size v' (share v l m) ∧ Below w.heap.size w w' := by
  obtain rfl := h.len
  obtain rfl := h2.len
  have hcap := h.cap
  have HR := hidden h
  have HM := hidden h2
  have HV : Hid (share v l m = if (0 ≤ v ∧ v ≤ 100000) ∧ NeedsOk m ∧ AsksOk l m then (shOf m v l).2 else []) := rfl
  obtain ⟨i0, hi0, hv0, hv1, hv2⟩ := info_partsW infoW64
  have HOA := hidden (ownW_new w 2 1)
  have HBA : Hid (Below w.heap.size w (w.alloc (.cells #[] 2))) := (Below.refl _ _).alloc (Nat.le_refl _) _
  generalize share v l m = R at *
  have out : R = [] → ∀ (v' : Value) (W : World), v' = .slice (some ⟨w.heap.size, 0, none⟩) 0 0 → W.ownsRow w.heap.size 2 1 (.slice (some ⟨w.heap.size, 0, none⟩) 0 0) 0 [] → Below w.heap.size w W → ∃ v'', Ending.returned v' = .returned v'' ∧ VOwn 1 cvI W w.heap.size v'' R ∧ Below w.heap.size w W := fun hR v' W hv hW hb => ⟨v', rfl, by rw [hv, hR]; exact vownI hW, hb⟩
  have bad : ¬ ((0 ≤ v ∧ v ≤ 100000) ∧ NeedsOk m ∧ AsksOk l m) → R = [] := fun q => by rw [HV.out, if_neg q]
  clear h h2
  have kv := lin_any v 0 100000
  cases g1 : rng v 0 100000 with
  | false =>
    have HB2 := hidden (out (bad (fun q => by rw [rng_iff.2 q.1] at g1; cases g1)))
    rw [g1] at kv
    clear HV out bad
    go_enter Try.func20, Try.ntmps20
    go_wp2_with (go_at_call 42; refine (kv _).mono ?_; rintro e w1 ⟨rfl, rfl⟩)
    go_ret
    exact HB2.out _ _ rfl HOA.out HBA.out
  | true =>
  have hvb := rng_iff.1 g1
  rw [g1] at kv
  clear g1
  by_cases g2 : (20 : Int) < (l.length : Int)
  · have HB2 := hidden (out (bad (fun q => by have := q.2.2.1; omega)))
    clear HV out bad
    go_enter Try.func20, Try.ntmps20
    go_wp2_with (go_at_call 42; refine (kv _).mono ?_; rintro e w1 ⟨rfl, rfl⟩)
    go_ret
    exact HB2.out _ _ rfl HOA.out HBA.out
  by_cases g3 : (100 : Int) < (m.length : Int)
  · have HB2 := hidden (out (bad (fun q => by have := q.2.1.1; omega)))
    clear HV out bad
    go_enter Try.func20, Try.ntmps20
    go_wp2_with (go_at_call 42; refine (kv _).mono ?_; rintro e w1 ⟨rfl, rfl⟩)
    go_ret
    exact HB2.out _ _ rfl HOA.out HBA.out
  have HBD := hidden bad
  have HOU := hidden out
  clear out bad
  go_enter Try.func20, Try.ntmps20
  go_wp2_with (go_at_call 42; refine (kv _).mono ?_; rintro e w1 ⟨rfl, rfl⟩)
  generalize hW0 : w.alloc (.cells #[] 2) = w0 at *
  go_loopw [8] (fun iv wr => ∃ i : Nat, i ≤ m.length ∧ iv = .int .i64 i ∧ wr = w0 ∧ Hid (∀ y ∈ m.take i, 0 ≤ y ∧ y ≤ 100000)) (fun iv _ => m.length - (intOf iv).toNat)
  case atStart => exact ⟨0, Nat.zero_le _, rfl, rfl, by intro y hy; simp at hy⟩
  case round =>
    obtain ⟨i, hi, rfl, hwr, hok⟩ := hrel
    have hwr' := hwr.symm
    clear hwr
    subst hwr'
    by_cases hlt : i < m.length
    · have hlti : (i : Int) < (m.length : Int) := by omega
      obtain ⟨y, hy⟩ := some_of m i hlt
      obtain ⟨g, off, rfl, hg, c0⟩ := vint_cell (HM.out.below HBA.out) hy
      have ky := lin_any y 0 100000
      cases q1 : rng y 0 100000 with
      | false =>
        have HB2 := hidden (HOU.out (HBD.out (fun q => not_needs hy (fun z => by rw [rng_iff.2 z] at q1; cases q1) q.2.1)))
        rw [q1] at ky
        clear hy q1
        go_wp2_with (go_at_call 42; refine (ky _).mono ?_; rintro e w1 ⟨rfl, rfl⟩)
        go_ret
        exact HB2.out _ _ rfl HOA.out HBA.out
      | true =>
        have HN : Hid (∀ y ∈ m.take (i + 1), 0 ≤ y ∧ y ≤ 100000) := by
          rw [Hid, take_snL hy]
          intro z hz
          rcases List.mem_append.1 hz with q | q
          · exact hok.out z q
          · simp at q; subst q; exact rng_iff.1 q1
        rw [q1] at ky
        clear hy q1
        go_wp2_with (go_at_call 42; refine (ky _).mono ?_; rintro e w1 ⟨rfl, rfl⟩)
        go_roundw
        case rel => exact ⟨i + 1, by omega, rfl, by simp, HN⟩
        case measure => simp [intOf]; omega
    · have hlti : ¬ (i : Int) < (m.length : Int) := by omega
      have HNd : Hid (NeedsOk m) := ⟨by omega, by have := hok.out; rw [List.take_of_length_le (by omega)] at this; exact this⟩
      clear hok hi hlt
      go_wp2_with fail
      go_loopw [9] (fun iv wr => ∃ i : Nat, i ≤ l.length ∧ iv = .int .i64 i ∧ Below w.heap.size w wr ∧ Hid (wr.ownsRow w.heap.size 2 1 (.slice (some ⟨w.heap.size, 0, none⟩) 0 0) 0 []) ∧ Hid (∀ j a, j < i → l[j]? = some a → (0 ≤ a ∧ a < (m.length : Int)) ∧ a ∉ l.take j)) (fun iv _ => l.length - (intOf iv).toNat)
      case atStart => exact ⟨0, Nat.zero_le _, rfl, HBA.out, HOA, fun j a hj => absurd hj (by omega)⟩
      case round =>
        clear HBA HOA
        obtain ⟨i, hi, rfl, hb, HOA, hok⟩ := hrel
        by_cases hlt : i < l.length
        · have hlti : (i : Int) < (l.length : Int) := by omega
          obtain ⟨y, hy⟩ := some_of l i hlt
          have k2 := fun W hW => shas_any ao i cap (l.take i) y W hW (by rw [List.length_take]; omega)
          have hK := fun W (hW : Below wr.heap.size wr W) => k2 W ((HR.out.below (hb.trans (hW.mono hb.size))).take i cap (by omega) (by omega))
          obtain ⟨g, off, rfl, hg, c0⟩ := vint_cell (HR.out.below hb) hy
          have HX := hidden hy
          clear hy k2
          go_upto_region 12 with fail
          refine regSh12 (y := y) (t := has (l.take i) y) rfl rfl rfl rfl hlt (by omega) (by omega) hg c0 hK ?_
          intro b' w3 hf hb3 hv
          rw [laySh12 hf, hv]
          clear hv hf hK c0 hg
          generalize Rg.out (Rg.opsOf Try.f20 12) b' 0 = y0
          generalize Rg.out (Rg.opsOf Try.f20 12) b' 1 = y1
          generalize Rg.out (Rg.opsOf Try.f20 12) b' 2 = y2
          generalize Rg.out (Rg.opsOf Try.f20 12) b' 3 = y3
          generalize Rg.out (Rg.opsOf Try.f20 12) b' 4 = y4
          generalize Rg.out (Rg.opsOf Try.f20 12) b' 5 = y5
          generalize Rg.out (Rg.opsOf Try.f20 12) b' 6 = y6
          generalize Rg.out (Rg.opsOf Try.f20 12) b' 7 = y7
          generalize Rg.out (Rg.opsOf Try.f20 12) b' 8 = y8
          generalize Rg.out (Rg.opsOf Try.f20 12) b' 9 = y9
          generalize Rg.out (Rg.opsOf Try.f20 12) b' 10 = y10
          generalize Rg.out (Rg.opsOf Try.f20 12) b' 11 = y11
          generalize Rg.out (Rg.opsOf Try.f20 12) b' 12 = y12
          generalize Rg.out (Rg.opsOf Try.f20 12) b' 13 = y13
          generalize Rg.out (Rg.opsOf Try.f20 12) b' 14 = y14
          generalize Rg.out (Rg.opsOf Try.f20 12) b' 15 = y15
          generalize Rg.out (Rg.opsOf Try.f20 12) b' 16 = y16
          generalize Rg.out (Rg.opsOf Try.f20 12) b' 17 = y17
          generalize Rg.out (Rg.opsOf Try.f20 12) b' 18 = y18
          generalize Rg.out (Rg.opsOf Try.f20 12) b' 19 = y19
          generalize Rg.out (Rg.opsOf Try.f20 12) b' 20 = y20
          generalize Rg.out (Rg.opsOf Try.f20 12) b' 21 = y21
          generalize Rg.out (Rg.opsOf Try.f20 12) b' 22 = y22
          have HB3 := hidden (hb.trans (hb3.mono hb.size))
          have HO3 := hidden (ownW_below HOA.out hb3)
          clear hb3 hb HOA
          generalize hBq : (((decide (y < 0)) || (decide ((m.length : Int) ≤ y))) || has (l.take i) y) = Bq at *
          go_frame
          cases Bq with
          | true =>
            have hbad : ¬ ((0 ≤ y ∧ y < (m.length : Int)) ∧ y ∉ l.take i) := by
              rintro ⟨⟨q1, q2⟩, q3⟩
              simp only [Bool.or_eq_true, decide_eq_true_eq] at hBq
              rcases hBq with (z | z) | z
              · omega
              · omega
              · exact q3 (has_iff.1 z)
            have HB2 := hidden (HOU.out (HBD.out (fun q => not_asks HX.out hbad q.2.2)))
            clear hBq hbad
            go_wp2_with fail
            go_ret
            exact HB2.out _ _ rfl HO3.out HB3.out
          | false =>
            have hgood : (0 ≤ y ∧ y < (m.length : Int)) ∧ y ∉ l.take i := by
              simp only [Bool.or_eq_false_iff, decide_eq_false_iff_not] at hBq
              exact ⟨⟨by omega, by omega⟩, has_not hBq.2⟩
            have HN : Hid (∀ j a, j < i + 1 → l[j]? = some a → (0 ≤ a ∧ a < (m.length : Int)) ∧ a ∉ l.take j) := by
              intro j a hj ha
              by_cases hji : j = i
              · subst hji
                obtain rfl : y = a := Option.some.inj (HX.out.symm.trans ha)
                exact hgood
              · exact hok.out j a (by omega) ha
            clear hBq hgood
            go_wp2_with fail
            go_roundw
            case rel => exact ⟨i + 1, by omega, rfl, HB3.out, HO3, HN⟩
            case measure => simp [intOf]; omega
        · have hlti : ¬ (i : Int) < (l.length : Int) := by omega
          have hil : i = l.length := by omega
          subst hil
          have HAs : Hid (AsksOk l m) := ⟨by omega, fun j a ha => hok.out j a (get_ltL ha) ha⟩
          have HN : Hid (R = (shOf m v l).2) := by rw [Hid, HV.out, if_pos ⟨hvb, HNd.out, HAs.out⟩]
          obtain ⟨v0, v1⟩ := hvb
          have HBA := hidden hb
          clear hok hi hlt HBD HOU HV hb hlti
          obtain ⟨w7, hw7⟩ : ∃ w7, w7 = wr := ⟨_, rfl⟩
          subst hw7
          go_wp2_with fail
          go_loopw [0, 7, 10] (fun sv ov iv wr => ∃ (i : Nat) (s : Int) (L : List Int), i ≤ l.length ∧ iv = .int .i64 i ∧ sv = .int .i64 s ∧ Hid (shOf m v (l.take i) = (s, L)) ∧ (∃ ad c, ov = .slice ad L.length c ∧ wr.ownsRow w.heap.size 2 1 (.slice ad L.length c) L.length (L.map fun z => Value.int .i64 z)) ∧ Below w.heap.size w wr) (fun _ _ iv _ => l.length - (intOf iv).toNat)
          case atStart => exact ⟨0, v, [], Nat.zero_le _, rfl, rfl, rfl, ⟨_, _, rfl, HOA.out⟩, HBA.out⟩
          case round =>
            clear HOA HBA
            obtain ⟨i, s, L, hi, rfl, rfl, HS, ⟨ad, c, rfl, ho⟩, hb⟩ := hrel
            have hsz := hb.size
            have hbd := sh_takebd HNd.out v0 v1 l i HAs.out.1
            rw [HS.out] at hbd
            obtain ⟨⟨s0, s1⟩, hLn⟩ : (0 ≤ s ∧ s ≤ 100000) ∧ L.length ≤ 20 := hbd
            by_cases hlt : i < l.length
            · have hlti : (i : Int) < (l.length : Int) := by omega
              obtain ⟨x, hx⟩ := some_of l i hlt
              have hxb := (HAs.out.2 i x hx).1
              obtain ⟨X, rfl⟩ : ∃ X : Nat, x = (X : Int) := ⟨x.toNat, by omega⟩
              have hX : (X : Int) < (m.length : Int) := hxb.2
              obtain ⟨y, hy⟩ := some_of m X (by omega)
              have hyb := HNd.out.2 y (List.mem_of_getElem? hy)
              have HX : Hid (shOf m v (l.take (i + 1)) = shStep m (s, L) (X : Int)) := by rw [Hid, shOf_take hx, HS.out]
              have hnd : nd m (X : Int) = y := nd_get (by simpa using hy)
              obtain ⟨g, off, rfl, hg, c0⟩ := vint_cell (HR.out.below hb) hx
              obtain ⟨g2, off2, rfl, hg2, d0⟩ := vint_cell (HM.out.below hb) hy
              have HO := hidden ho
              clear hx hy HS ho hxb
              by_cases q : y ≤ s
              · have HY : Hid (shOf m v (l.take (i + 1)) = (s - y, L ++ [(X : Int)])) := by rw [Hid, HX.out]; unfold shStep; rw [hnd, if_pos q]
                clear HX hnd
                go_wp2_with (at_builtin; refine wpList_append_own _ rfl (.tmp 94) (.tmp 99) 24 rfl w.heap.size 2 i0 (.int .i64 0) 1 8 Try.underlying24 hi0 hv0 hv1 hv2 rfl (by decide) _ L.length (L.map fun z => Value.int .i64 z) rfl (HO.out.alloc _) ⟨wr.heap.size, 0, none⟩ 1 1 [.int .i64 (X : Int)] rfl rfl (cell_oneW _ _ _) (by simp [Value.oneCell']) (by unfold maxLen; omega) (by omega) (by simp; omega) ?_; intro v5 w5 ho5 hg5 hn5; obtain ⟨ad5, c5, rfl⟩ := ownW_slice ho5)
                have b5 := (hb.alloc hsz (.cells #[.int .i64 (X : Int)] 2)).grown hg5 (by simp; omega) (fun k hk => (ownW_lt HO.out k hk).1)
                go_roundw
                case rel => exact ⟨i + 1, s - y, L ++ [(X : Int)], by omega, rfl, rfl, HY, ⟨_, _, by rw [List.length_append]; rfl, by rw [List.map_append, List.length_append]; exact ho5⟩, b5⟩
                case measure => simp [intOf]; omega
              · have HY : Hid (shOf m v (l.take (i + 1)) = (s, L)) := by rw [Hid, HX.out]; unfold shStep; rw [hnd, if_neg q]
                clear HX hnd
                go_wp2_with fail
                go_roundw
                case rel => exact ⟨i + 1, s, L, by omega, rfl, rfl, HY, ⟨_, _, rfl, HO.out⟩, hb⟩
                case measure => simp [intOf]; omega
            · have hlti : ¬ (i : Int) < (l.length : Int) := by omega
              have hil : i = l.length := by omega
              subst hil
              rw [List.take_length] at HS
              go_wp2_with fail
              go_ret
              have hRL : R = L := by rw [HN.out, HS.out]
              rw [hRL]
              exact ⟨_, rfl, vownI ho, hb⟩
end Go.Proofs.Ytecljmpojninfaa
