/-
  What was used had passed, and is traced from both ends: the walk of the law.
-/
import Derived.Test.YtklgadaefngnnaaZg
namespace Go.Proofs.Ytklgadaefngnnaa
open Go.RowKit Va Wa Go.Maps
set_option linter.all false

set_option maxRecDepth 20000 in
set_option maxHeartbeats 8000000 in
theorem fst_walk (ao : Option Addr) (cap : Nat) (bs : List Int) (w : World) (hb : Bytes w w.heap.size ao bs) :
    Calls Try.prog 6 #[.slice ao bs.length cap] w fun e w' => e = .returned (.bool true) ∧ Below w.heap.size w w' := by
  have hB := big_any ao cap bs.length
  have HBY := hidden hb
  clear hb
  by_cases hbig : (4096 : Int) < (bs.length : Int)
  · rw [decide_eq_true hbig] at hB
    go_enter Try.func6, Try.ntmps6
    go_wp2_with fail
    refine (hB _).mono ?_
    rintro e w1 ⟨rfl, rfl⟩
    go_wp2_with fail
    go_ret
    exact ⟨rfl, Below.refl _ _⟩
  rw [decide_eq_false hbig] at hB
  have hl : bs.length ≤ 4096 := by omega
  go_enter Try.func6, Try.ntmps6
  go_wp2_with fail
  refine (hB w).mono ?_
  rintro e w1 ⟨rfl, hw1⟩
  subst hw1
  clear hB
  go_wp2_with fail
  refine (dtraydo_any ao cap bs _ HBY.out (by omega)).mono ?_
  rintro e w2 ⟨ad, c, l, rfl, hq2, hl2, hf2, b2⟩
  go_wp2_with fail
  refine (itraydo_any ad _ c l _ hq2 (by omega)).mono ?_
  rintro e w3 ⟨v3, rfl, ho3, hb3⟩
  obtain ⟨ad3, c3, rfl⟩ := ownW_slice ho3
  have hq3 := hq2.below hb3
  go_wp2_with fail
  refine (straydo_any ad _ c l _ hq3 (by omega)).mono ?_
  rintro e w4 ⟨v4, rfl, ho4, hb4⟩
  obtain ⟨ad4, c4, rfl⟩ := ownW_slice ho4
  have hq4 := hq3.below hb4
  have ho5 := ownW_below ho3 hb4
  have b4 : Below w1.heap.size w1 w4 := b2.trans ((hb3.trans (hb4.mono hb3.size)).mono b2.size)
  clear hb3 hb4 hq2 hq3 ho3 ho4 b2
  have HQ := hidden hq4
  have HO := hidden ho5
  have HNB : Hid (w1.heap.size ≤ w4.heap.size) := b4.size
  clear hq4 ho5 HBY
  generalize hTD : trayDo l = T at *
  have HT := hidden hTD
  clear hTD
  have hT1 : T.length ≤ 1001 := by
    rw [← HT.out]; unfold trayDo; split
    · rw [codesF_len]; exact hl2
    · simp
  go_wp2_with fail
  go_loopw [5] (fun iv wr => ∃ i : Nat, iv = .int .i64 i ∧ i ≤ T.length ∧ Below w4.heap.size w4 wr) (fun iv _ => T.length - (intOf iv).toNat)
  case atStart => exact ⟨0, rfl, Nat.zero_le _, Below.refl _ _⟩
  case round =>
    obtain ⟨i, rfl, hi, br⟩ := hrel
    by_cases hlt : i < T.length
    · have hlti : (i : Int) < (T.length : Int) := by omega
      by_cases h100 : (T.length : Int) < 100
      · have hs : ssB l = true := by
          cases q : ssB l with
          | true => rfl
          | false => have e := HT.out; unfold trayDo at e; rw [if_neg (by rw [q]; decide)] at e; rw [← e] at hlt; simp at hlt
        have hTc : Hid (T = codesF rm0 l) := by have e := HT.out; unfold trayDo at e; rw [if_pos hs] at e; exact e.symm
        have hil : i < l.length := by rw [hTc.out, codesF_len] at hlt; exact hlt
        obtain ⟨x, hx⟩ := some_of l i hil
        obtain ⟨z, hz⟩ := some_of T i hlt
        have k1 := icycle_any ad l.length c l i wr (HQ.out.below br) (by omega)
        have hSY := hidden (fun h1 h2 => sterile_yes (x := x) hs hx h1 h2)
        have hSN := hidden (fun h => sterile_no (x := x) hs hx h)
        obtain ⟨g, off, rfl, hg, c0, c1, c2, c3'⟩ := step_cells (HQ.out.below br) hx
        obtain ⟨G, rfl, hG, -, hcl⟩ := ownI_at (ownW_below HO.out br) hz
        have d0 := hcl i z hz
        by_cases hk5 : x.kind = 5
        · by_cases hz0 : z = 0
          · subst hz0
            have hz2 : (codesF rm0 l)[i]? = some 0 := by rw [← hTc.out]; exact hz
            obtain ⟨HP, HT1, HT2⟩ := hSY.out hk5 hz2
            have HPB : Hid (passB l (cycleOf l i) i) := HP
            have HTM := hidden HT1
            have HCM := hidden HT2
            have hcy : -1 ≤ cycleOf l i ∧ cycleOf l i ≤ 999 := by
              rw [cycle_at hs hx]
              obtain ⟨b, hb1, hb2⟩ := bys_bd (of_ssB hs) hx
              rw [by_at hx] at hb1
              have := Option.some.inj hb1
              omega
            have kT := fun W hW => itouched_any (some ⟨g, off, none⟩) l.length c l (cycleOf l i) W hW (by omega)
            have kC := fun W hW => icycleson_any (some ⟨g, off, none⟩) l.length c l x.per W hW (by omega)
            have hTL := touched_len l (cycleOf l i)
            have hCL := cyclesOn_len l x.per
            rw [hk5] at c0
            clear HP HT1 HT2 hSY hSN hz2 c1 c2
            generalize cycleOf l i = b at *
            generalize touched l b = TL at *
            generalize cyclesOn l x.per = CL at *
            have HX := hidden hx
            clear hk5 hx
            generalize hxp : x.per = xp at *
            have HXP := hidden hxp
            clear hxp
            go_wp2_with (go_at_call 26; refine k1.mono ?_; rintro e w5 ⟨rfl, hb5⟩; have b5 : Below w4.heap.size w4 w5 := br.trans (hb5.mono br.size); have e0 := (hb5.cell (p := ⟨g, off + i * 4, none⟩) hg).trans c0; have e3 := (hb5.cell (p := ⟨g, off + i * 4 + 3, none⟩) hg).trans c3'; have ez := (hb5.cell (p := ⟨G, i, none⟩) hG).trans d0; clear hb5 k1 c0 c3' d0)
            go_loopw [7, 8] (fun pv kv w6 => ∃ (k : Nat) (p : Bool), kv = .int .i64 k ∧ pv = .bool p ∧ k ≤ i ∧ Hid (p = true ↔ passB l b k) ∧ Below w4.heap.size w4 w6) (fun _ kv _ => i - (intOf kv).toNat)
            case atStart => exact ⟨0, false, rfl, rfl, Nat.zero_le _, by simp [Hid, passB], b5⟩
            case round =>
              clear b5 e0 e3 ez br
              obtain ⟨k, p, rfl, rfl, hk, HPK, b6⟩ := hrel
              have hq6 := HQ.out.below b6
              have ho6 := ownW_below HO.out b6
              by_cases hki : k < i
              · have hkii : (k : Int) < (i : Int) := by omega
                obtain ⟨y, hy⟩ := some_of l k (by omega)
                obtain ⟨u, hu⟩ := some_of T k (by omega)
                have HS := hidden (passB_succ (b := b) hy (by rw [← hTc.out]; exact hu))
                rcases p with _ | _
                · obtain ⟨g', off', eg, hg6, y0, y1, y2, y3⟩ := step_cells hq6 hy
                  obtain ⟨rfl, rfl⟩ : g = g' ∧ off = off' := by simpa using eg
                  obtain ⟨G', eG, hG6, -, hcl6⟩ := ownI_at ho6 hu
                  obtain rfl : G = G' := by simpa using eG
                  have u0 := hcl6 k u hu
                  have hkT : (k : Int) < (T.length : Int) := by omega
                  have hkL : (k : Int) < (l.length : Int) := by omega
                  clear eg eG hcl6 hq6 ho6 hy hu y1 y3
                  obtain ⟨yk, yt, yc, yp⟩ := y
                  simp only at y0 y2 HS
                  by_cases q1 : yk = 3
                  · subst q1
                    by_cases q2 : yc = b
                    · subst q2
                      by_cases q3 : u = 0
                      · subst q3
                        go_wp2_with fail
                        go_roundw
                        case rel => exact ⟨k + 1, _, rfl, rfl, by omega, by rw [Hid, HS.out]; simp, b6⟩
                        case measure => simp [intOf]; omega
                      · have q3b : (u == 0) = false := by simpa using q3
                        go_wp2_with fail
                        go_roundw
                        case rel => exact ⟨k + 1, _, rfl, rfl, by omega, by rw [Hid, HS.out, ← HPK.out]; simp [q3], b6⟩
                        case measure => simp [intOf]; omega
                    · have q2b : (yc == b) = false := by simpa using q2
                      go_wp2_with fail
                      go_roundw
                      case rel => exact ⟨k + 1, _, rfl, rfl, by omega, by rw [Hid, HS.out, ← HPK.out]; simp [q2], b6⟩
                      case measure => simp [intOf]; omega
                  · have q1b : (yk == 3) = false := by simpa using q1
                    go_wp2_with fail
                    go_roundw
                    case rel => exact ⟨k + 1, _, rfl, rfl, by omega, by rw [Hid, HS.out, ← HPK.out]; simp [q1], b6⟩
                    case measure => simp [intOf]; omega
                · go_wp2_with fail
                  go_roundw
                  case rel => exact ⟨k + 1, _, rfl, rfl, by omega, by rw [Hid, HS.out, ← HPK.out]; simp, b6⟩
                  case measure => simp [intOf]; omega
              · have hkii : ¬ (k : Int) < (i : Int) := by omega
                obtain rfl : k = i := by omega
                obtain rfl : p = true := HPK.out.2 HPB.out
                obtain ⟨g', off', eg, hg6, y0, y1, y2, y3⟩ := step_cells hq6 HX.out
                obtain ⟨rfl, rfl⟩ : g = g' ∧ off = off' := by simpa using eg
                have hkL : (k : Int) < (l.length : Int) := by omega
                have HQ6 := hidden (fun W (hW : Below wr.heap.size wr W) => hq6.below hW)
                rw [HXP.out] at y3
                clear eg hq6 ho6 y0 y1 y2
                go_upto_region 19 with fail
                go_cut [105] (fun tv wx => tv = .bool false ∧ Below w4.heap.size w4 wx)
                case first =>
                  refine reg19 (n := l.length) (c := c) (i := k) (g := g) (off := off) (b := b) (xp := xp) (TL := TL) (CL := CL) rfl rfl rfl rfl rfl (by omega) hg6 y3 (fun W hW => kT W (HQ6.out W hW)) (fun W hW => kC W (HQ6.out W hW)) hTL hCL HTM.out HCM.out ?_
                  intro b' w7 hf hb7 h25
                  rw [lay19 hf, h25]
                  generalize Rg.out (Rg.opsOf Try.f6 19) b' 0 = x0
                  generalize Rg.out (Rg.opsOf Try.f6 19) b' 1 = x1
                  generalize Rg.out (Rg.opsOf Try.f6 19) b' 2 = x2
                  generalize Rg.out (Rg.opsOf Try.f6 19) b' 3 = x3
                  generalize Rg.out (Rg.opsOf Try.f6 19) b' 4 = x4
                  generalize Rg.out (Rg.opsOf Try.f6 19) b' 5 = x5
                  generalize Rg.out (Rg.opsOf Try.f6 19) b' 6 = x6
                  generalize Rg.out (Rg.opsOf Try.f6 19) b' 7 = x7
                  generalize Rg.out (Rg.opsOf Try.f6 19) b' 8 = x8
                  generalize Rg.out (Rg.opsOf Try.f6 19) b' 9 = x9
                  generalize Rg.out (Rg.opsOf Try.f6 19) b' 10 = x10
                  generalize Rg.out (Rg.opsOf Try.f6 19) b' 11 = x11
                  generalize Rg.out (Rg.opsOf Try.f6 19) b' 12 = x12
                  generalize Rg.out (Rg.opsOf Try.f6 19) b' 13 = x13
                  generalize Rg.out (Rg.opsOf Try.f6 19) b' 14 = x14
                  generalize Rg.out (Rg.opsOf Try.f6 19) b' 15 = x15
                  generalize Rg.out (Rg.opsOf Try.f6 19) b' 16 = x16
                  generalize Rg.out (Rg.opsOf Try.f6 19) b' 17 = x17
                  generalize Rg.out (Rg.opsOf Try.f6 19) b' 18 = x18
                  generalize Rg.out (Rg.opsOf Try.f6 19) b' 19 = x19
                  generalize Rg.out (Rg.opsOf Try.f6 19) b' 20 = x20
                  generalize Rg.out (Rg.opsOf Try.f6 19) b' 21 = x21
                  generalize Rg.out (Rg.opsOf Try.f6 19) b' 22 = x22
                  generalize Rg.out (Rg.opsOf Try.f6 19) b' 23 = x23
                  generalize Rg.out (Rg.opsOf Try.f6 19) b' 24 = x24
                  go_frame
                  go_wp2_with fail
                  go_meet
                  case rel => exact ⟨rfl, b6.trans (hb7.mono b6.size)⟩
                case rest =>
                  obtain ⟨rfl, b8⟩ := hcut
                  go_wp2_with fail
                  go_roundw
                  case rel => exact ⟨k + 1, rfl, by omega, b8⟩
                  case measure => simp [intOf]; omega
          · have HNO : ¬ (x.kind = 5 ∧ (codesF rm0 l)[i]? = some 0) := fun q => hz0 (by have := q.2; rw [← hTc.out, hz] at this; exact Option.some.inj this)
            have qb : cycleOf l i = -1 := hSN.out HNO
            rw [qb] at k1
            clear qb hSY hSN hx hz hcl c1 c2
            have q0 : (z == 0) = false := by simpa using hz0
            rw [hk5] at c0
            clear hk5
            go_wp2_with (go_at_call 26; refine k1.mono ?_; rintro e w5 ⟨rfl, hb5⟩; have b5 : Below w4.heap.size w4 w5 := br.trans (hb5.mono br.size); have e0 := (hb5.cell (p := ⟨g, off + i * 4, none⟩) hg).trans c0; have e3 := (hb5.cell (p := ⟨g, off + i * 4 + 3, none⟩) hg).trans c3'; have ez := (hb5.cell (p := ⟨G, i, none⟩) hG).trans d0; clear hb5 k1 c0 c3' d0)
            go_roundw
            case rel => exact ⟨i + 1, rfl, by omega, b5⟩
            case measure => simp [intOf]; omega
        · have HNO : ¬ (x.kind = 5 ∧ (codesF rm0 l)[i]? = some 0) := fun q => hk5 q.1
          have qb : cycleOf l i = -1 := hSN.out HNO
          rw [qb] at k1
          clear qb hSY hSN hx hz hcl c1 c2
          have q5 : (x.kind == 5) = false := by simpa using hk5
          generalize x.kind = y at *
          go_wp2_with (go_at_call 26; refine k1.mono ?_; rintro e w5 ⟨rfl, hb5⟩; have b5 : Below w4.heap.size w4 w5 := br.trans (hb5.mono br.size); have e0 := (hb5.cell (p := ⟨g, off + i * 4, none⟩) hg).trans c0; have e3 := (hb5.cell (p := ⟨g, off + i * 4 + 3, none⟩) hg).trans c3'; have ez := (hb5.cell (p := ⟨G, i, none⟩) hG).trans d0; clear hb5 k1 c0 c3' d0)
          go_roundw
          case rel => exact ⟨i + 1, rfl, by omega, b5⟩
          case measure => simp [intOf]; omega
      · go_wp2_with fail
        go_ret
        exact ⟨rfl, b4.trans (br.mono b4.size)⟩
    · have hlti : ¬ (i : Int) < (T.length : Int) := by omega
      go_wp2_with fail
      go_ret
      exact ⟨rfl, b4.trans (br.mono b4.size)⟩
end Go.Proofs.Ytklgadaefngnnaa
