/-
  Warnings of drugs together: the specification.
-/
import Derived.Test.YtcnhogghfedcdaaNg1
namespace Go.Proofs.Ytcnhogghfedcdaa
open Go.RowKit Va Ga
set_option linter.unusedVariables false

set_option maxRecDepth 20000 in
set_option maxHeartbeats 16000000 in
theorem sint_any (ad : Option Addr) (dn dc : Nat) (l : List Dg) (ao : Option Addr) (n cap : Nat) (rs : List Ru) (w : World) (hd : DRw w (.slice ad dn dc) l) (hr : Rw 3 csRu w (.slice ao n cap) rs) (hl : l.length ≤ 1048576) (ht : ∀ x ∈ l, x.cls.length ≤ 1048576) (hn : rs.length ≤ 1048576) :
    Calls Try.prog 15 #[.slice ad dn dc, .slice ao n cap] w fun e w' => ∃ v, e = .returned v ∧ w'.ownsRow w.heap.size 38 3 v (warn rs l).length (cellsL 3 csWg (warn rs l)) ∧ Below w.heap.size w w' := by
  obtain rfl := hd.len
  obtain rfl := hr.len
  have HD := hidden hd
  have HR := hidden hr
  have HT := hidden ht
  have HO := hidden (ownW_new w 38 3)
  have HB0 : Hid (Below w.heap.size w (w.alloc (.cells #[] 38))) := (Below.refl _ _).alloc (Nat.le_refl _) _
  obtain ⟨i0, hi0, hv0, hv1, hv2⟩ := info_parts infoWarn
  clear hd hr ht
  by_cases h50 : (50 : Int) < (l.length : Int)
  · have HN : Hid (warn rs l = []) := warn_no (by simp only [dsB, Bool.and_eq_false_iff, decide_eq_false_iff_not]; left; omega)
    go_enter Try.func15, Try.ntmps15
    go_wp2_with fail
    go_ret
    rw [HN.out]
    exact ⟨_, rfl, HO.out, HB0.out⟩
  by_cases h200 : (200 : Int) < (rs.length : Int)
  · have HN : Hid (warn rs l = []) := warn_no2 (by simp only [rsB, Bool.and_eq_false_iff, decide_eq_false_iff_not]; left; omega)
    go_enter Try.func15, Try.ntmps15
    go_wp2_with fail
    go_ret
    rw [HN.out]
    exact ⟨_, rfl, HO.out, HB0.out⟩
  have hl5 : l.length ≤ 50 := by omega
  have hr2 : rs.length ≤ 200 := by omega
  go_enter Try.func15, Try.ntmps15
  go_upto_region 2 with fail
  generalize w.alloc (.cells #[] 38) = wA at *
  go_wp2_with fail
  go_loopw [6] (fun iv wr => ∃ i : Nat, i ≤ l.length ∧ iv = .int .i64 i ∧ Below wA.heap.size wA wr ∧ Hid (∀ j x, j < i → l[j]? = some x → drugB x = true)) (fun iv _ => l.length - (intOf iv).toNat)
  case atStart => exact ⟨0, Nat.zero_le _, rfl, Below.refl _ _, fun j x hj => absurd hj (Nat.not_lt_zero _)⟩
  case round =>
    obtain ⟨i, hi, rfl, hb, hok⟩ := hrel
    have hsz := hb.size
    have bW := onto HB0.out hb
    by_cases hlt : i < l.length
    · have hlti : (i : Int) < (l.length : Int) := by omega
      obtain ⟨x, hx⟩ := some_of l i hlt
      obtain ⟨g, off, ta, tc, rfl, hg, hrow, c0, c1, c2, c3, c4, c5⟩ := (HD.out.below bW).at hx
      have HX := hidden hx
      have hK := fun W hW => sdrugok_any x ta x.cls.length tc W hW (HT.out x (List.mem_of_getElem? hx))
      have HRW := hidden (fun W (hW : Below wr.heap.size wr W) => hrow.below hW)
      unfold aD at hK
      cases hp : drugB x with
      | false =>
        rw [hp] at hK
        have HN : Hid (warn rs l = []) := warn_no (by simp only [dsB, Bool.and_eq_false_iff]; right; rw [List.all_eq_false]; exact ⟨x, List.mem_of_getElem? HX.out, by rw [hp]; simp⟩)
        clear hx hrow hok hp
        go_wp2_with (go_at_call 25; refine (hK _ (HRW.out _ (by repeat (first | exact Below.refl _ _ | assumption | refine st_drew ?_ | refine st_drewN ?_ _ | refine Below.setCell ?_ (by first | omega | (simp; done) | (simp; omega)) _ | refine Below.alloc ?_ (by first | omega | (simp; done) | (simp; omega)) _)))).mono ?_; rintro e w1 ⟨rfl, hb1⟩; have bA := onto (show Below wA.heap.size wA _ from by repeat (first | exact Below.refl _ _ | assumption | refine st_drew ?_ | refine st_drewN ?_ _ | refine Below.setCell ?_ (by first | omega | (simp; done) | (simp; omega)) _ | refine Below.alloc ?_ (by first | omega | (simp; done) | (simp; omega)) _)) hb1; clear hb1)
        go_ret
        rw [HN.out]
        exact ⟨_, rfl, ownW_below HO.out bA, onto HB0.out bA⟩
      | true =>
        rw [hp] at hK
        have hok2 : Hid (∀ j y, j < i + 1 → l[j]? = some y → drugB y = true) := fun j y hj hy => by
          rcases Nat.lt_succ_iff_lt_or_eq.1 hj with k | rfl
          · exact hok.out j y k hy
          · rw [HX.out] at hy; cases hy; exact hp
        clear hx hrow hok hp bW
        go_wp2_with (go_at_call 25; refine (hK _ (HRW.out _ (by repeat (first | exact Below.refl _ _ | assumption | refine st_drew ?_ | refine st_drewN ?_ _ | refine Below.setCell ?_ (by first | omega | (simp; done) | (simp; omega)) _ | refine Below.alloc ?_ (by first | omega | (simp; done) | (simp; omega)) _)))).mono ?_; rintro e w1 ⟨rfl, hb1⟩; have bA := onto (show Below wA.heap.size wA _ from by repeat (first | exact Below.refl _ _ | assumption | refine st_drew ?_ | refine st_drewN ?_ _ | refine Below.setCell ?_ (by first | omega | (simp; done) | (simp; omega)) _ | refine Below.alloc ?_ (by first | omega | (simp; done) | (simp; omega)) _)) hb1; clear hb1)
        go_roundw
        case rel => exact ⟨i + 1, by omega, rfl, bA, hok2⟩
        case measure => simp [intOf]; omega
    · have hlti : ¬ (i : Int) < (l.length : Int) := by omega
      have HDS : Hid (dsB l = true) := by
        simp only [Hid, dsB, Bool.and_eq_true, decide_eq_true_eq, List.all_eq_true]
        exact ⟨hl5, fun x hx => by
          obtain ⟨j, hj⟩ := List.getElem?_of_mem hx
          exact hok.out j x (by have := get_lt' hj; omega) hj⟩
      clear hok bW
      go_wp2_with fail
      go_loopw [7] (fun iv wx => ∃ i : Nat, i ≤ rs.length ∧ iv = .int .i64 i ∧ Below wA.heap.size wA wx ∧ Hid (∀ j x, j < i → rs[j]? = some x → ruB x = true)) (fun iv _ => rs.length - (intOf iv).toNat)
      case atStart => exact ⟨0, Nat.zero_le _, rfl, hb, fun j x hj => absurd hj (Nat.not_lt_zero _)⟩
      case round =>
        clear hb hsz
        obtain ⟨i, hi, rfl, hb, hok⟩ := hrel
        have hsz := hb.size
        have bW := onto HB0.out hb
        by_cases hlt : i < rs.length
        · have hlti : (i : Int) < (rs.length : Int) := by omega
          obtain ⟨x, hx⟩ := some_of rs i hlt
          obtain ⟨g, off, rfl, hg, hcs⟩ := (HR.out.below bW).at hx
          have c0 : wr.cell? ⟨g, off + i * 3, none⟩ = some (.int .i64 x.a) := hcs 0 (by omega)
          have c1 : wr.cell? ⟨g, off + i * 3 + 1, none⟩ = some (.int .i64 x.b) := hcs 1 (by omega)
          have c2 : wr.cell? ⟨g, off + i * 3 + 2, none⟩ = some (.int .i64 x.g) := hcs 2 (by omega)
          have HX := hidden hx
          have hK := sru_any x
          unfold aRu at hK
          cases hp : ruB x with
          | false =>
            rw [hp] at hK
            have HN : Hid (warn rs l = []) := warn_no2 (by simp only [rsB, Bool.and_eq_false_iff]; right; rw [List.all_eq_false]; exact ⟨x, List.mem_of_getElem? HX.out, by rw [hp]; simp⟩)
            clear hx hcs hok hp
            go_wp2_with (go_at_call 41; refine (hK _).mono ?_; rintro e w1 ⟨rfl, hb1⟩; have bA := onto (show Below wA.heap.size wA _ from by repeat (first | exact Below.refl _ _ | assumption | refine st_drew ?_ | refine st_drewN ?_ _ | refine Below.setCell ?_ (by first | omega | (simp; done) | (simp; omega)) _ | refine Below.alloc ?_ (by first | omega | (simp; done) | (simp; omega)) _)) hb1; clear hb1)
            go_ret
            rw [HN.out]
            exact ⟨_, rfl, ownW_below HO.out bA, onto HB0.out bA⟩
          | true =>
            rw [hp] at hK
            have hok2 : Hid (∀ j y, j < i + 1 → rs[j]? = some y → ruB y = true) := fun j y hj hy => by
              rcases Nat.lt_succ_iff_lt_or_eq.1 hj with k | rfl
              · exact hok.out j y k hy
              · rw [HX.out] at hy; cases hy; exact hp
            clear hx hcs hok hp bW
            go_wp2_with (go_at_call 41; refine (hK _).mono ?_; rintro e w1 ⟨rfl, hb1⟩; have bA := onto (show Below wA.heap.size wA _ from by repeat (first | exact Below.refl _ _ | assumption | refine st_drew ?_ | refine st_drewN ?_ _ | refine Below.setCell ?_ (by first | omega | (simp; done) | (simp; omega)) _ | refine Below.alloc ?_ (by first | omega | (simp; done) | (simp; omega)) _)) hb1; clear hb1)
            go_roundw
            case rel => exact ⟨i + 1, by omega, rfl, bA, hok2⟩
            case measure => simp [intOf]; omega
        · have hlti : ¬ (i : Int) < (rs.length : Int) := by omega
          have HRS : Hid (rsB rs = true) := by
            simp only [Hid, rsB, Bool.and_eq_true, decide_eq_true_eq, List.all_eq_true]
            exact ⟨hr2, fun x hx => by
              obtain ⟨j, hj⟩ := List.getElem?_of_mem hx
              exact hok.out j x (by have := get_lt' hj; omega) hj⟩
          have HN : Hid (warn rs l = wTo rs l l.length) := warn_yes HDS.out HRS.out
          have HO1 := hidden (ownW_below HO.out hb)
          have HB1 := hidden bW
          clear hok hb bW HDS HRS HO
          go_wp2_with fail
          go_loopw [5, 8, 9, 10, 11, 12, 13, 14] (fun sv iv _ _ _ _ _ _ wx => ∃ (i : Nat) (out : List Wg), i ≤ l.length ∧ iv = .int .i64 i ∧ Hid (out = wTo rs l i) ∧ (∃ ad c, sv = .slice ad out.length c ∧ wx.ownsRow w.heap.size 38 3 (.slice ad out.length c) out.length (cellsL 3 csWg out)) ∧ Below w.heap.size w wx) (fun _ iv _ _ _ _ _ _ _ => l.length - (intOf iv).toNat)
          case atStart => exact ⟨0, [], Nat.zero_le _, rfl, rfl, ⟨_, _, rfl, HO1.out⟩, HB1.out⟩
          case round =>
            clear HO1 HB1 hsz
            obtain ⟨i, out, hi, rfl, HO, ⟨ad1, c1, rfl, ho⟩, hb⟩ := hrel
            have hsz := hb.size
            by_cases hlt : i < l.length
            · have hlti : (i : Int) < (l.length : Int) := by omega
              obtain ⟨x, hx⟩ := some_of l i hlt
              have HU := hidden (wTo_succ (rs := rs) hx)
              have HX := hidden hx
              clear hx
              go_wp2_with fail
              go_loopw [5, 9, 10, 11, 12, 13, 14] (fun sv kv _ _ _ _ _ wy => ∃ (k : Nat) (out : List Wg), i + 1 ≤ k ∧ k ≤ l.length ∧ kv = .int .i64 k ∧ Hid (out = wTo rs l i ++ wRow rs l i x k) ∧ (∃ ad c, sv = .slice ad out.length c ∧ wy.ownsRow w.heap.size 38 3 (.slice ad out.length c) out.length (cellsL 3 csWg out)) ∧ Below w.heap.size w wy) (fun _ kv _ _ _ _ _ _ => l.length - (intOf kv).toNat)
              case atStart => exact ⟨i + 1, out, Nat.le_refl _, by omega, rfl, by rw [Hid, wRow_nil rs l i x (i + 1) (Nat.le_refl _), List.append_nil]; exact HO.out, ⟨_, _, rfl, ho⟩, hb⟩
              case round =>
                clear ho HO hb hsz
                obtain ⟨k, out2, hik, hkl, rfl, HO2, ⟨ad2, cc2, rfl, ho2⟩, hbx⟩ := hrel
                have hsx := hbx.size
                have hout : out2.length ≤ 2600 := by
                  rw [HO2.out, List.length_append]
                  have z1 := wTo_len rs l i
                  have z2 := wRow_len rs l i x k
                  have z3 : i * l.length ≤ 50 * 50 := Nat.mul_le_mul (by omega) hl5
                  omega
                by_cases hklt : k < l.length
                · have hklti : (k : Int) < (l.length : Int) := by omega
                  obtain ⟨y, hy⟩ := some_of l k hklt
                  have HQn := fun q => hidden (wRow_no (rs := rs) (l := l) (i := i) (x := x) (by omega) hy q)
                  have HQy := fun q => hidden (wRow_yes (rs := rs) (l := l) (i := i) (x := x) (by omega) hy q)
                  have HY := hidden hy
                  have HOW := hidden ho2
                  have HBX := hidden hbx
                  clear hy ho2 hbx
                  go_wp2_with fail
                  go_loopw [10, 11, 12, 13, 14] (fun bv jv _ _ _ wz => ∃ j : Nat, j ≤ rs.length ∧ jv = .int .i64 j ∧ bv = .int .i64 (bestTo rs x.cls y.cls j) ∧ Below wr.heap.size wr wz) (fun _ jv _ _ _ _ => rs.length - (intOf jv).toNat)
                  case atStart => exact ⟨0, Nat.zero_le _, rfl, rfl, Below.refl _ _⟩
                  case round =>
                    obtain ⟨j, hj, rfl, rfl, hbz⟩ := hrel
                    have bZ := onto HBX.out hbz
                    have hsz := bZ.size
                    have hbd := bestTo_bd rs x.cls y.cls j
                    by_cases hjlt : j < rs.length
                    · have hjlti : (j : Int) < (rs.length : Int) := by omega
                      obtain ⟨r, hr⟩ := some_of rs j hjlt
                      obtain ⟨g, off, rfl, hg, hcs⟩ := (HR.out.below bZ).at hr
                      have c0 : wr.cell? ⟨g, off + j * 3, none⟩ = some (.int .i64 r.a) := hcs 0 (by omega)
                      have c1 : wr.cell? ⟨g, off + j * 3 + 1, none⟩ = some (.int .i64 r.b) := hcs 1 (by omega)
                      have c2 : wr.cell? ⟨g, off + j * 3 + 2, none⟩ = some (.int .i64 r.g) := hcs 2 (by omega)
                      obtain ⟨dg, doff, ta, tc, rfl, hdg, hrow1, -, x1, -, -, -, -⟩ := (HD.out.below bZ).at HX.out
                      obtain ⟨dg', doff', tb, td, hdo, hdg', hrow2, -, y1, -, -, -, -⟩ := (HD.out.below bZ).at HY.out
                      obtain ⟨rfl, rfl⟩ : dg = dg' ∧ doff = doff' := by simpa using hdo
                      have bx : Below wr.heap.size wr (wr.alloc (.cells #[.int .i64 r.a, .int .i64 r.b, .int .i64 r.g] 41)) := (Below.refl _ _).alloc (Nat.le_refl _) _
                      have HPX := hidden (PB.new wr #[.int .i64 r.a, .int .i64 r.b, .int .i64 r.g] 41)
                      have B4 := hidden (onto hbz bx)
                      have HXC := hidden ((bx.cell (p := ⟨dg, doff + i * 6 + 1, none⟩) hdg).trans x1)
                      have HYC := hidden ((bx.cell (p := ⟨dg, doff + k * 6 + 1, none⟩) hdg).trans y1)
                      have hdg4 : dg < (wr.alloc (.cells #[.int .i64 r.a, .int .i64 r.b, .int .i64 r.g] 41)).heap.size := by simp; omega
                      have hg4 : g < (wr.alloc (.cells #[.int .i64 r.a, .int .i64 r.b, .int .i64 r.g] 41)).heap.size := by simp; omega
                      have HRX := hidden (hrow1.below bx)
                      have HRY := hidden (hrow2.below bx)
                      have HC4 := hidden (fun (m : Nat) (q : Ru) (hq : rs[m]? = some q) => by
                        obtain ⟨g3, off3, h3, -, hc3⟩ := (HR.out.below bZ).at hq
                        obtain ⟨rfl, rfl⟩ : g = g3 ∧ off = off3 := by simpa using h3
                        exact (bx.cell (p := ⟨g, off + m * 3 + 2, none⟩) hg).trans (hc3 2 (by omega)))
                      have HI := hidden hr
                      have hFit : rfit r x.cls y.cls = ((hasB x.cls r.a && hasB y.cls r.b) || (hasB x.cls r.b && hasB y.cls r.a)) := rfl
                      have hKa := fun W (hW : IRw W (.slice ta x.cls.length tc) x.cls) => shas_any ta x.cls.length tc x.cls r.a W hW (HT.out x (List.mem_of_getElem? HX.out))
                      have hKb := fun W (hW : IRw W (.slice ta x.cls.length tc) x.cls) => shas_any ta x.cls.length tc x.cls r.b W hW (HT.out x (List.mem_of_getElem? HX.out))
                      have hKc := fun W (hW : IRw W (.slice tb y.cls.length td) y.cls) => shas_any tb y.cls.length td y.cls r.a W hW (HT.out y (List.mem_of_getElem? HY.out))
                      have hKd := fun W (hW : IRw W (.slice tb y.cls.length td) y.cls) => shas_any tb y.cls.length td y.cls r.b W hW (HT.out y (List.mem_of_getElem? HY.out))
                      have Ka := hidden hKa
                      have Kb := hidden hKb
                      have Kc := hidden hKc
                      have Kd := hidden hKd
                      clear hKa hKb hKc hKd hrow1 hrow2 x1 y1 hdo hr hcs bx hbz bZ hdg hdg'
                      go_upto_region 25 with fail
                      clear c0 c1 c2
                      generalize wr.alloc (.cells #[.int .i64 r.a, .int .i64 r.b, .int .i64 r.g] 41) = w4 at *
                      generalize wr.heap.size = RX at *
                      refine regS25 (T1 := hasB x.cls r.a) (T2 := hasB y.cls r.b) rfl rfl rfl rfl rfl hlt hklt hdg4 HXC.out HYC.out HPX.out (fun W hW => Ka.out W (HRX.out.below hW)) (fun W hW => Kd.out W (HRY.out.below hW)) ?_
                      intro b' w5 hf hb5 hv
                      rw [layS25f hf, hv]
                      clear hv hf
                      generalize Rg.out (Rg.opsOf Try.f15 25) b' 0 = a0
                      generalize Rg.out (Rg.opsOf Try.f15 25) b' 1 = a1
                      generalize Rg.out (Rg.opsOf Try.f15 25) b' 2 = a2
                      generalize Rg.out (Rg.opsOf Try.f15 25) b' 3 = a3
                      generalize Rg.out (Rg.opsOf Try.f15 25) b' 4 = a4
                      generalize Rg.out (Rg.opsOf Try.f15 25) b' 5 = a5
                      generalize Rg.out (Rg.opsOf Try.f15 25) b' 6 = a6
                      generalize Rg.out (Rg.opsOf Try.f15 25) b' 7 = a7
                      generalize Rg.out (Rg.opsOf Try.f15 25) b' 8 = a8
                      generalize Rg.out (Rg.opsOf Try.f15 25) b' 9 = a9
                      generalize Rg.out (Rg.opsOf Try.f15 25) b' 10 = a10
                      generalize Rg.out (Rg.opsOf Try.f15 25) b' 11 = a11
                      generalize Rg.out (Rg.opsOf Try.f15 25) b' 12 = a12
                      generalize Rg.out (Rg.opsOf Try.f15 25) b' 13 = a13
                      generalize Rg.out (Rg.opsOf Try.f15 25) b' 14 = a14
                      generalize Rg.out (Rg.opsOf Try.f15 25) b' 15 = a15
                      generalize Rg.out (Rg.opsOf Try.f15 25) b' 16 = a16
                      generalize Rg.out (Rg.opsOf Try.f15 25) b' 17 = a17
                      have PX2 := hidden (HPX.out.below hb5)
                      have B5 := hidden (onto B4.out hb5)
                      have HXC5 := hidden ((hb5.cell (p := ⟨dg, doff + i * 6 + 1, none⟩) hdg4).trans HXC.out)
                      have HYC5 := hidden ((hb5.cell (p := ⟨dg, doff + k * 6 + 1, none⟩) hdg4).trans HYC.out)
                      have HRX5 := hidden (HRX.out.below hb5)
                      have HRY5 := hidden (HRY.out.below hb5)
                      have hdg5 : dg < w5.heap.size := Nat.lt_of_lt_of_le hdg4 hb5.size
                      have hg5 : g < w5.heap.size := Nat.lt_of_lt_of_le hg4 hb5.size
                      have HC5 := hidden (fun m q hq => (hb5.cell (p := ⟨g, off + m * 3 + 2, none⟩) hg4).trans (HC4.out m q hq))
                      clear hb5 HPX HXC HYC HRX HRY B4 HC4 hdg4 hg4
                      go_frame
                      go_upto_region 26 with fail
                      refine regS26 (T1 := hasB x.cls r.b) (T2 := hasB y.cls r.a) rfl rfl rfl rfl rfl hlt hklt hdg5 HXC5.out HYC5.out PX2.out (fun W hW => Kb.out W (HRX5.out.below hW)) (fun W hW => Kc.out W (HRY5.out.below hW)) ?_
                      intro b' w6 hf hb6 hv
                      rw [layS26f hf, hv]
                      clear hv hf
                      generalize Rg.out (Rg.opsOf Try.f15 26) b' 0 = b0
                      generalize Rg.out (Rg.opsOf Try.f15 26) b' 1 = b1
                      generalize Rg.out (Rg.opsOf Try.f15 26) b' 2 = b2
                      generalize Rg.out (Rg.opsOf Try.f15 26) b' 3 = b3
                      generalize Rg.out (Rg.opsOf Try.f15 26) b' 4 = b4
                      generalize Rg.out (Rg.opsOf Try.f15 26) b' 5 = b5
                      generalize Rg.out (Rg.opsOf Try.f15 26) b' 6 = b6
                      generalize Rg.out (Rg.opsOf Try.f15 26) b' 7 = b7
                      generalize Rg.out (Rg.opsOf Try.f15 26) b' 8 = b8
                      generalize Rg.out (Rg.opsOf Try.f15 26) b' 9 = b9
                      generalize Rg.out (Rg.opsOf Try.f15 26) b' 10 = b10
                      generalize Rg.out (Rg.opsOf Try.f15 26) b' 11 = b11
                      generalize Rg.out (Rg.opsOf Try.f15 26) b' 12 = b12
                      generalize Rg.out (Rg.opsOf Try.f15 26) b' 13 = b13
                      generalize Rg.out (Rg.opsOf Try.f15 26) b' 14 = b14
                      generalize Rg.out (Rg.opsOf Try.f15 26) b' 15 = b15
                      generalize Rg.out (Rg.opsOf Try.f15 26) b' 16 = b16
                      generalize Rg.out (Rg.opsOf Try.f15 26) b' 17 = b17
                      have PX3 := hidden (PX2.out.below hb6)
                      have B6 := hidden (onto B5.out hb6)
                      have hg6 : g < w6.heap.size := Nat.lt_of_lt_of_le hg5 hb6.size
                      have HC6 := hidden (fun m q hq => (hb6.cell (p := ⟨g, off + m * 3 + 2, none⟩) hg5).trans (HC5.out m q hq))
                      clear hb6 PX2 HXC5 HYC5 HRX5 HRY5 B5 HC5 hdg5 hg5 Ka Kb Kc Kd
                      generalize (hasB x.cls r.a && hasB y.cls r.b) = P at *
                      generalize (hasB x.cls r.b && hasB y.cls r.a) = Q at *
                      have HFit := hidden hFit
                      clear hFit
                      go_frame
                      cases P with
                      | false =>
                        cases Q with
                        | false =>
                          have HF : Hid (bestTo rs x.cls y.cls (j + 1) = bestTo rs x.cls y.cls j) := best_no HI.out HFit.out
                          generalize bestTo rs x.cls y.cls j = B at *
                          go_upto_region 27 with fail
                          refine regS27a (q := r) (j := 0) (r := r) rfl rfl rfl rfl rfl rfl PX3.out  ?_
                          intro b' w7 hf hb7 hv
                          rw [layS27a hf, hv]
                          clear hv hf
                          generalize Rg.out (Rg.opsOf Try.f15 27) b' 0 = c0
                          generalize Rg.out (Rg.opsOf Try.f15 27) b' 1 = c1
                          generalize Rg.out (Rg.opsOf Try.f15 27) b' 2 = c2
                          generalize Rg.out (Rg.opsOf Try.f15 27) b' 3 = c3
                          generalize Rg.out (Rg.opsOf Try.f15 27) b' 4 = c4
                          generalize Rg.out (Rg.opsOf Try.f15 27) b' 5 = c5
                          generalize Rg.out (Rg.opsOf Try.f15 27) b' 6 = c6
                          generalize Rg.out (Rg.opsOf Try.f15 27) b' 7 = c7
                          generalize Rg.out (Rg.opsOf Try.f15 27) b' 8 = c8
                          generalize Rg.out (Rg.opsOf Try.f15 27) b' 9 = c9
                          generalize Rg.out (Rg.opsOf Try.f15 27) b' 10 = c10
                          generalize Rg.out (Rg.opsOf Try.f15 27) b' 11 = c11
                          generalize Rg.out (Rg.opsOf Try.f15 27) b' 12 = c12
                          generalize Rg.out (Rg.opsOf Try.f15 27) b' 13 = c13
                          generalize Rg.out (Rg.opsOf Try.f15 27) b' 14 = c14
                          generalize Rg.out (Rg.opsOf Try.f15 27) b' 15 = c15
                          generalize Rg.out (Rg.opsOf Try.f15 27) b' 16 = c16
                          have HB7 := hidden (B6.out.trans (hb7.mono B6.out.size))
                          clear hb7 PX3 B6
                          go_frame
                          go_wp2_with fail
                          go_roundw
                          case rel => exact ⟨j + 1, by omega, rfl, by rw [HF.out], HB7.out⟩
                          case measure => simp [intOf]; omega
                        | true =>
                          by_cases h0 : bestTo rs x.cls y.cls j < 0
                          · have HF : Hid (bestTo rs x.cls y.cls (j + 1) = (j : Int)) := best_new HI.out (by rw [HFit.out]; rfl) h0
                            generalize bestTo rs x.cls y.cls j = B at *
                            go_upto_region 27 with fail
                            refine regS27c (q := r) (j := 0) (r := r) rfl rfl rfl rfl rfl rfl PX3.out h0 ?_
                            intro b' w7 hf hb7 hv
                            rw [layS27a hf, hv]
                            clear hv hf
                            generalize Rg.out (Rg.opsOf Try.f15 27) b' 0 = c0
                            generalize Rg.out (Rg.opsOf Try.f15 27) b' 1 = c1
                            generalize Rg.out (Rg.opsOf Try.f15 27) b' 2 = c2
                            generalize Rg.out (Rg.opsOf Try.f15 27) b' 3 = c3
                            generalize Rg.out (Rg.opsOf Try.f15 27) b' 4 = c4
                            generalize Rg.out (Rg.opsOf Try.f15 27) b' 5 = c5
                            generalize Rg.out (Rg.opsOf Try.f15 27) b' 6 = c6
                            generalize Rg.out (Rg.opsOf Try.f15 27) b' 7 = c7
                            generalize Rg.out (Rg.opsOf Try.f15 27) b' 8 = c8
                            generalize Rg.out (Rg.opsOf Try.f15 27) b' 9 = c9
                            generalize Rg.out (Rg.opsOf Try.f15 27) b' 10 = c10
                            generalize Rg.out (Rg.opsOf Try.f15 27) b' 11 = c11
                            generalize Rg.out (Rg.opsOf Try.f15 27) b' 12 = c12
                            generalize Rg.out (Rg.opsOf Try.f15 27) b' 13 = c13
                            generalize Rg.out (Rg.opsOf Try.f15 27) b' 14 = c14
                            generalize Rg.out (Rg.opsOf Try.f15 27) b' 15 = c15
                            generalize Rg.out (Rg.opsOf Try.f15 27) b' 16 = c16
                            have HB7 := hidden (B6.out.trans (hb7.mono B6.out.size))
                            clear hb7 PX3 B6
                            go_frame
                            go_wp2_with fail
                            go_roundw
                            case rel => exact ⟨j + 1, by omega, rfl, by rw [HF.out], HB7.out⟩
                            case measure => simp [intOf]; omega
                          · obtain ⟨m, hm⟩ := Int.eq_ofNat_of_zero_le (show 0 ≤ bestTo rs x.cls y.cls j by omega)
                            obtain ⟨q, hq⟩ := some_of rs m (by omega)
                            have hml : m < rs.length := by omega
                            have HCq := hidden (HC6.out m q hq)
                            have HQ := hidden hq
                            have HM := hidden hm
                            clear hq HC6
                            by_cases hx : q.g < r.g
                            · have HF : Hid (bestTo rs x.cls y.cls (j + 1) = (j : Int)) := best_up HI.out (by rw [HFit.out]; rfl) HM.out HQ.out hx
                              rw [hm]
                              have hdl : decide (q.g < r.g) = true := by simpa using hx
                              clear hm HM HQ h0 hbd HQn HQy
                              go_upto_region 27 with fail
                              refine regS27e (q := q) (r := r) (j := m) (B := 0) rfl rfl rfl rfl rfl rfl PX3.out hml hg6 HCq.out ?_
                              intro b' w7 hf hb7 hv
                              rw [layS27a hf, hv, hdl]
                              clear hv hf
                              generalize Rg.out (Rg.opsOf Try.f15 27) b' 0 = c0
                              generalize Rg.out (Rg.opsOf Try.f15 27) b' 1 = c1
                              generalize Rg.out (Rg.opsOf Try.f15 27) b' 2 = c2
                              generalize Rg.out (Rg.opsOf Try.f15 27) b' 3 = c3
                              generalize Rg.out (Rg.opsOf Try.f15 27) b' 4 = c4
                              generalize Rg.out (Rg.opsOf Try.f15 27) b' 5 = c5
                              generalize Rg.out (Rg.opsOf Try.f15 27) b' 6 = c6
                              generalize Rg.out (Rg.opsOf Try.f15 27) b' 7 = c7
                              generalize Rg.out (Rg.opsOf Try.f15 27) b' 8 = c8
                              generalize Rg.out (Rg.opsOf Try.f15 27) b' 9 = c9
                              generalize Rg.out (Rg.opsOf Try.f15 27) b' 10 = c10
                              generalize Rg.out (Rg.opsOf Try.f15 27) b' 11 = c11
                              generalize Rg.out (Rg.opsOf Try.f15 27) b' 12 = c12
                              generalize Rg.out (Rg.opsOf Try.f15 27) b' 13 = c13
                              generalize Rg.out (Rg.opsOf Try.f15 27) b' 14 = c14
                              generalize Rg.out (Rg.opsOf Try.f15 27) b' 15 = c15
                              generalize Rg.out (Rg.opsOf Try.f15 27) b' 16 = c16
                              have HB7 := hidden (B6.out.trans (hb7.mono B6.out.size))
                              clear hb7 PX3 B6
                              go_frame
                              go_wp2_with fail
                              go_roundw
                              case rel => exact ⟨j + 1, by omega, rfl, by rw [HF.out], HB7.out⟩
                              case measure => simp [intOf]; omega
                            · have HF : Hid (bestTo rs x.cls y.cls (j + 1) = (m : Int)) := best_keep HI.out HM.out HQ.out hx
                              rw [hm]
                              have hdl : decide (q.g < r.g) = false := by simpa using hx
                              clear hm HM HQ h0 hbd HQn HQy
                              go_upto_region 27 with fail
                              refine regS27e (q := q) (r := r) (j := m) (B := 0) rfl rfl rfl rfl rfl rfl PX3.out hml hg6 HCq.out ?_
                              intro b' w7 hf hb7 hv
                              rw [layS27a hf, hv, hdl]
                              clear hv hf
                              generalize Rg.out (Rg.opsOf Try.f15 27) b' 0 = c0
                              generalize Rg.out (Rg.opsOf Try.f15 27) b' 1 = c1
                              generalize Rg.out (Rg.opsOf Try.f15 27) b' 2 = c2
                              generalize Rg.out (Rg.opsOf Try.f15 27) b' 3 = c3
                              generalize Rg.out (Rg.opsOf Try.f15 27) b' 4 = c4
                              generalize Rg.out (Rg.opsOf Try.f15 27) b' 5 = c5
                              generalize Rg.out (Rg.opsOf Try.f15 27) b' 6 = c6
                              generalize Rg.out (Rg.opsOf Try.f15 27) b' 7 = c7
                              generalize Rg.out (Rg.opsOf Try.f15 27) b' 8 = c8
                              generalize Rg.out (Rg.opsOf Try.f15 27) b' 9 = c9
                              generalize Rg.out (Rg.opsOf Try.f15 27) b' 10 = c10
                              generalize Rg.out (Rg.opsOf Try.f15 27) b' 11 = c11
                              generalize Rg.out (Rg.opsOf Try.f15 27) b' 12 = c12
                              generalize Rg.out (Rg.opsOf Try.f15 27) b' 13 = c13
                              generalize Rg.out (Rg.opsOf Try.f15 27) b' 14 = c14
                              generalize Rg.out (Rg.opsOf Try.f15 27) b' 15 = c15
                              generalize Rg.out (Rg.opsOf Try.f15 27) b' 16 = c16
                              have HB7 := hidden (B6.out.trans (hb7.mono B6.out.size))
                              clear hb7 PX3 B6
                              go_frame
                              go_wp2_with fail
                              go_roundw
                              case rel => exact ⟨j + 1, by omega, rfl, by rw [HF.out], HB7.out⟩
                              case measure => simp [intOf]; omega
                      | true =>
                        by_cases h0 : bestTo rs x.cls y.cls j < 0
                        · have HF : Hid (bestTo rs x.cls y.cls (j + 1) = (j : Int)) := best_new HI.out (by rw [HFit.out]; rfl) h0
                          generalize bestTo rs x.cls y.cls j = B at *
                          go_upto_region 27 with fail
                          refine regS27b (Qv := Q) (q := r) (j := 0) (r := r) rfl rfl rfl rfl rfl rfl PX3.out h0 ?_
                          intro b' w7 hf hb7 hv
                          rw [layS27a hf, hv]
                          clear hv hf
                          generalize Rg.out (Rg.opsOf Try.f15 27) b' 0 = c0
                          generalize Rg.out (Rg.opsOf Try.f15 27) b' 1 = c1
                          generalize Rg.out (Rg.opsOf Try.f15 27) b' 2 = c2
                          generalize Rg.out (Rg.opsOf Try.f15 27) b' 3 = c3
                          generalize Rg.out (Rg.opsOf Try.f15 27) b' 4 = c4
                          generalize Rg.out (Rg.opsOf Try.f15 27) b' 5 = c5
                          generalize Rg.out (Rg.opsOf Try.f15 27) b' 6 = c6
                          generalize Rg.out (Rg.opsOf Try.f15 27) b' 7 = c7
                          generalize Rg.out (Rg.opsOf Try.f15 27) b' 8 = c8
                          generalize Rg.out (Rg.opsOf Try.f15 27) b' 9 = c9
                          generalize Rg.out (Rg.opsOf Try.f15 27) b' 10 = c10
                          generalize Rg.out (Rg.opsOf Try.f15 27) b' 11 = c11
                          generalize Rg.out (Rg.opsOf Try.f15 27) b' 12 = c12
                          generalize Rg.out (Rg.opsOf Try.f15 27) b' 13 = c13
                          generalize Rg.out (Rg.opsOf Try.f15 27) b' 14 = c14
                          generalize Rg.out (Rg.opsOf Try.f15 27) b' 15 = c15
                          generalize Rg.out (Rg.opsOf Try.f15 27) b' 16 = c16
                          have HB7 := hidden (B6.out.trans (hb7.mono B6.out.size))
                          clear hb7 PX3 B6
                          go_frame
                          go_wp2_with fail
                          go_roundw
                          case rel => exact ⟨j + 1, by omega, rfl, by rw [HF.out], HB7.out⟩
                          case measure => simp [intOf]; omega
                        · obtain ⟨m, hm⟩ := Int.eq_ofNat_of_zero_le (show 0 ≤ bestTo rs x.cls y.cls j by omega)
                          obtain ⟨q, hq⟩ := some_of rs m (by omega)
                          have hml : m < rs.length := by omega
                          have HCq := hidden (HC6.out m q hq)
                          have HQ := hidden hq
                          have HM := hidden hm
                          clear hq HC6
                          by_cases hx : q.g < r.g
                          · have HF : Hid (bestTo rs x.cls y.cls (j + 1) = (j : Int)) := best_up HI.out (by rw [HFit.out]; rfl) HM.out HQ.out hx
                            rw [hm]
                            have hdl : decide (q.g < r.g) = true := by simpa using hx
                            clear hm HM HQ h0 hbd HQn HQy
                            go_upto_region 27 with fail
                            refine regS27d (Qv := Q) (q := q) (r := r) (j := m) (B := 0) rfl rfl rfl rfl rfl rfl PX3.out hml hg6 HCq.out ?_
                            intro b' w7 hf hb7 hv
                            rw [layS27a hf, hv, hdl]
                            clear hv hf
                            generalize Rg.out (Rg.opsOf Try.f15 27) b' 0 = c0
                            generalize Rg.out (Rg.opsOf Try.f15 27) b' 1 = c1
                            generalize Rg.out (Rg.opsOf Try.f15 27) b' 2 = c2
                            generalize Rg.out (Rg.opsOf Try.f15 27) b' 3 = c3
                            generalize Rg.out (Rg.opsOf Try.f15 27) b' 4 = c4
                            generalize Rg.out (Rg.opsOf Try.f15 27) b' 5 = c5
                            generalize Rg.out (Rg.opsOf Try.f15 27) b' 6 = c6
                            generalize Rg.out (Rg.opsOf Try.f15 27) b' 7 = c7
                            generalize Rg.out (Rg.opsOf Try.f15 27) b' 8 = c8
                            generalize Rg.out (Rg.opsOf Try.f15 27) b' 9 = c9
                            generalize Rg.out (Rg.opsOf Try.f15 27) b' 10 = c10
                            generalize Rg.out (Rg.opsOf Try.f15 27) b' 11 = c11
                            generalize Rg.out (Rg.opsOf Try.f15 27) b' 12 = c12
                            generalize Rg.out (Rg.opsOf Try.f15 27) b' 13 = c13
                            generalize Rg.out (Rg.opsOf Try.f15 27) b' 14 = c14
                            generalize Rg.out (Rg.opsOf Try.f15 27) b' 15 = c15
                            generalize Rg.out (Rg.opsOf Try.f15 27) b' 16 = c16
                            have HB7 := hidden (B6.out.trans (hb7.mono B6.out.size))
                            clear hb7 PX3 B6
                            go_frame
                            go_wp2_with fail
                            go_roundw
                            case rel => exact ⟨j + 1, by omega, rfl, by rw [HF.out], HB7.out⟩
                            case measure => simp [intOf]; omega
                          · have HF : Hid (bestTo rs x.cls y.cls (j + 1) = (m : Int)) := best_keep HI.out HM.out HQ.out hx
                            rw [hm]
                            have hdl : decide (q.g < r.g) = false := by simpa using hx
                            clear hm HM HQ h0 hbd HQn HQy
                            go_upto_region 27 with fail
                            refine regS27d (Qv := Q) (q := q) (r := r) (j := m) (B := 0) rfl rfl rfl rfl rfl rfl PX3.out hml hg6 HCq.out ?_
                            intro b' w7 hf hb7 hv
                            rw [layS27a hf, hv, hdl]
                            clear hv hf
                            generalize Rg.out (Rg.opsOf Try.f15 27) b' 0 = c0
                            generalize Rg.out (Rg.opsOf Try.f15 27) b' 1 = c1
                            generalize Rg.out (Rg.opsOf Try.f15 27) b' 2 = c2
                            generalize Rg.out (Rg.opsOf Try.f15 27) b' 3 = c3
                            generalize Rg.out (Rg.opsOf Try.f15 27) b' 4 = c4
                            generalize Rg.out (Rg.opsOf Try.f15 27) b' 5 = c5
                            generalize Rg.out (Rg.opsOf Try.f15 27) b' 6 = c6
                            generalize Rg.out (Rg.opsOf Try.f15 27) b' 7 = c7
                            generalize Rg.out (Rg.opsOf Try.f15 27) b' 8 = c8
                            generalize Rg.out (Rg.opsOf Try.f15 27) b' 9 = c9
                            generalize Rg.out (Rg.opsOf Try.f15 27) b' 10 = c10
                            generalize Rg.out (Rg.opsOf Try.f15 27) b' 11 = c11
                            generalize Rg.out (Rg.opsOf Try.f15 27) b' 12 = c12
                            generalize Rg.out (Rg.opsOf Try.f15 27) b' 13 = c13
                            generalize Rg.out (Rg.opsOf Try.f15 27) b' 14 = c14
                            generalize Rg.out (Rg.opsOf Try.f15 27) b' 15 = c15
                            generalize Rg.out (Rg.opsOf Try.f15 27) b' 16 = c16
                            have HB7 := hidden (B6.out.trans (hb7.mono B6.out.size))
                            clear hb7 PX3 B6
                            go_frame
                            go_wp2_with fail
                            go_roundw
                            case rel => exact ⟨j + 1, by omega, rfl, by rw [HF.out], HB7.out⟩
                            case measure => simp [intOf]; omega
                    · have hjlti : ¬ (j : Int) < (rs.length : Int) := by omega
                      have hjl : j = rs.length := by omega
                      subst hjl
                      rw [show bestTo rs x.cls y.cls rs.length = best rs x y from rfl] at hbd ⊢
                      generalize best rs x y = B at *
                      have HO5 := hidden (ownW_below HOW.out hbz)
                      clear HOW hbz HBX
                      by_cases q : B < 0
                      · have HQ : Hid (out2 = wTo rs l i ++ wRow rs l i x (k + 1)) := by rw [Hid, (HQn q).out]; exact HO2.out
                        have q2 : ¬ 0 ≤ B := by omega
                        clear HO2 HQn HQy
                        go_wp2_with fail
                        go_roundw
                        case rel => exact ⟨k + 1, out2, by omega, by omega, rfl, HQ, ⟨_, _, rfl, HO5.out⟩, bZ⟩
                        case measure => simp [intOf]; omega
                      · have HQ : Hid (out2 ++ [⟨i, k, B⟩] = wTo rs l i ++ wRow rs l i x (k + 1)) := by rw [Hid, (HQy (by omega)).out, HO2.out, List.append_assoc]
                        have q2 : 0 ≤ B := by omega
                        clear HO2 HQn HQy
                        go_wp2_with (at_builtin; refine wpList_append_own _ rfl (.tmp 132) (.tmp 137) 35 rfl w.heap.size 38 i0 (.agg #[.int .i64 0, .int .i64 0, .int .i64 0]) 3 24 Try.underlying35 hi0 hv0 hv1 hv2 rfl (by decide) _ out2.length (cellsL 3 csWg out2) rfl (HO5.out.alloc _) ⟨wr.heap.size, 0, none⟩ 1 1 [.int .i64 i, .int .i64 k, .int .i64 B] rfl rfl (cell3N _ _ _ _ _) (three_oneN _ _ _) (by unfold maxLen; omega) (by omega) (by simp; omega) ?_; intro v4 w4 ho4 hg4 hnn4; obtain ⟨ad4, c4, rfl⟩ := ownW_slice ho4)
                        have b4 : Below w.heap.size w w4 := (bZ.alloc hsz _).grown hg4 (by simp; omega) (fun k hk => (ownW_lt HO5.out k hk).1)
                        go_roundw
                        case rel => exact ⟨k + 1, out2 ++ [⟨i, k, B⟩], by omega, by omega, rfl, HQ, ⟨ad4, c4, by rw [List.length_append]; rfl, by rw [cells_wg, List.length_append]; exact ho4⟩, b4⟩
                        case measure => simp [intOf]; omega
                · have hklti : ¬ (k : Int) < (l.length : Int) := by omega
                  have hke : k = l.length := by omega
                  have HQ : Hid (out2 = wTo rs l (i + 1)) := by rw [Hid, HU.out, ← hke]; exact HO2.out
                  go_wp2_with fail
                  go_roundw
                  case rel => exact ⟨i + 1, out2, by omega, rfl, HQ, ⟨_, _, rfl, ho2⟩, hbx⟩
                  case measure => simp [intOf]; omega
            · have hlti : ¬ (i : Int) < (l.length : Int) := by omega
              have hil : i = l.length := by omega
              have HF : Hid (warn rs l = out) := by rw [Hid, HN.out, HO.out, hil]
              go_wp2_with fail
              go_ret
              rw [HF.out]
              exact ⟨_, rfl, ho, hb⟩
end Go.Proofs.Ytcnhogghfedcdaa
