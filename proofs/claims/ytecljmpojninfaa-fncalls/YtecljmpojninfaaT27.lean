/-
  No two calls are less than an hour apart: the draw, and the walk of the law.
-/
import Derived.Test.YtecljmpojninfaaT27a
import Derived.Test.YtecljmpojninfaaT10
import Derived.Test.YtecljmpojninfaaT14
namespace Go.Proofs.Ytecljmpojninfaa
open Go.RowKit Va Lb
set_option linter.all false

theorem calls_facts {l : List Rs} {lo hi : Int} : ∀ (n i : Nat) (a : Int), (callsTo l lo hi n)[i]? = some a → ∃ (j : Nat) (r : Rs), a = (j : Int) ∧ l[j]? = some r ∧ farB lo hi r = true ∧ (∀ a', 0 < i → (callsTo l lo hi n)[i - 1]? = some a' → ∃ (j' : Nat) (p : Rs), a' = (j' : Int) ∧ l[j']? = some p ∧ 60 ≤ r.t - p.t)
  | 0, i, a, h => by simp [callsTo] at h
  | n + 1, i, a, h => by
    have ih := calls_facts (l := l) (lo := lo) (hi := hi) n
    have keep : callsTo l lo hi (n + 1) = callsTo l lo hi n → ∃ (j : Nat) (r : Rs), a = (j : Int) ∧ l[j]? = some r ∧ farB lo hi r = true ∧ (∀ a', 0 < i → (callsTo l lo hi (n + 1))[i - 1]? = some a' → ∃ (j' : Nat) (p : Rs), a' = (j' : Int) ∧ l[j']? = some p ∧ 60 ≤ r.t - p.t) := fun e => by rw [e] at h ⊢; exact ih i a h
    have more : ∀ r, l[n]? = some r → farB lo hi r = true → (∀ (L : List Int) (j' : Nat) (p : Rs), callsTo l lo hi n = L ++ [(j' : Int)] → lastC l lo hi n = some (j', p) → l[j']? = some p → 60 ≤ r.t - p.t) → callsTo l lo hi (n + 1) = callsTo l lo hi n ++ [(n : Int)] → ∃ (j : Nat) (r : Rs), a = (j : Int) ∧ l[j]? = some r ∧ farB lo hi r = true ∧ (∀ a', 0 < i → (callsTo l lo hi (n + 1))[i - 1]? = some a' → ∃ (j' : Nat) (p : Rs), a' = (j' : Int) ∧ l[j']? = some p ∧ 60 ≤ r.t - p.t) := fun r hr hf hg e => by
      rw [e] at h ⊢
      by_cases q : i < (callsTo l lo hi n).length
      · rw [List.getElem?_append_left q] at h
        obtain ⟨j, r', h1, h2, h3, h4⟩ := ih i a h
        refine ⟨j, r', h1, h2, h3, fun a' hi0 ha' => h4 a' hi0 ?_⟩
        rw [List.getElem?_append_left (by omega)] at ha'
        exact ha'
      · rw [List.getElem?_append_right (by omega)] at h
        have hil : i - (callsTo l lo hi n).length = 0 := by
          have := get_ltL h
          simp at this
          omega
        rw [hil] at h
        obtain rfl : (n : Int) = a := by simpa using h
        refine ⟨n, r, rfl, hr, hf, fun a' hi0 ha' => ?_⟩
        rw [List.getElem?_append_left (by omega)] at ha'
        rcases calls_last (l := l) (lo := lo) (hi := hi) (i := n) with ⟨z1, -⟩ | ⟨L, j', p, z1, z2, z3, z4, z5⟩
        · rw [z1] at ha'; simp at ha'
        · refine ⟨j', p, ?_, z4, hg L j' p z1 z2 z4⟩
          have hi1 : i - 1 = L.length := by
            have : (callsTo l lo hi n).length = L.length + 1 := by rw [z1]; simp
            omega
          rw [z1, hi1] at ha'
          simpa using ha'.symm
    cases hr : l[n]? with
    | none => exact keep (by simp only [callsTo, hr])
    | some r =>
      cases hf : farB lo hi r with
      | false => exact keep (calls_no hr hf).1
      | true =>
        cases hp : lastC l lo hi n with
        | none => exact more r hr hf (fun L j' p _ z _ => by rw [hp] at z; cases z) (calls_none hr hf hp).1
        | some p =>
          by_cases hn : r.t - p.2.t < 60
          · exact keep (calls_near hr hf hp hn).1
          · refine more r hr hf (fun L j' p' _ z _ => ?_) (calls_far hr hf hp hn).1
            rw [hp] at z
            cases z
            show 60 ≤ r.t - p'.t
            have : ¬ r.t - p'.t < 60 := hn
            omega
theorem delta_wide {l : List Rs} (hok : ResOk l) (m wi : Int) (hm : 200000 ≤ m) : ∀ i, deltaTo l m wi i = []
  | 0 => rfl
  | i + 1 => by
    have ih := delta_wide hok m wi hm i
    cases hr : l[i]? with
    | none => simp only [deltaTo, hr]; exact ih
    | some r =>
      cases hk : r.k with
      | false => rw [delta_no hr hk]; exact ih
      | true =>
        cases hq : lastK l i with
        | none => rw [delta_none hr hq]; exact ih
        | some jp =>
          obtain ⟨j, p⟩ := jp
          obtain ⟨q1, q2, q3⟩ := lastK_some hq
          have a := res_bd hok hr
          have b := res_bd hok q2
          have e : dlB m wi p r = false := by
            unfold dlB
            rw [Bool.and_eq_false_iff]
            right
            rw [Bool.or_eq_false_iff, decide_eq_false_iff_not, decide_eq_false_iff_not]
            omega
          rw [delta_some hr hk hq, ih]
          show (if dlB m wi p r then _ else _) = _
          rw [e]; rfl
theorem delta_none_of (l : List Rs) : delta l 200000 1000 = [] := by
  unfold delta
  split
  · rename_i h; exact delta_wide h.1 _ _ (by omega) _
  · rfl

set_option maxRecDepth 20000 in
set_option maxHeartbeats 4000000 in
theorem dcalls_any (ao : Option Addr) (cap : Nat) (bs : List Int) (w : World) (hb : Bytes w w.heap.size ao bs) (hl : bs.length ≤ 1048576) :
    Calls Try.prog 25 #[.slice ao bs.length cap] w fun e w' => ∃ (v : Value) (l : List Rs) (lo hi : Int), e = .returned (.tuple #[v, .int .i64 lo, .int .i64 hi]) ∧ VRw 3 cvRs w' v l ∧ l.length ≤ 2001 ∧ Below w.heap.size w w' := by
  go_enter Try.func25, Try.ntmps25
  go_wp2_with fail
  refine (new_any ao cap bs w hb hl).mono ?_
  rintro e wN ⟨rfl, hcN, hbN⟩
  have HBN := hidden hbN
  have hgN : w.heap.size < wN.heap.size := hcN.1
  clear hbN hb
  generalize hG : w.heap.size = g at *
  go_wp2_with fail
  refine (dres_any g ao cap bs _ hcN).mono ?_
  rintro e w1 ⟨v, l, rfl, hll, hd⟩
  obtain ⟨ad, c, rfl⟩ := hd.form
  go_wp2_with fail
  refine (from_any g ao cap bs 0 15 _ hd.cur (by omega) (by omega) (by omega)).mono ?_
  rintro e w2 ⟨lo, rfl, lo0, lo1, hc2, hk2⟩
  have hd2 := hd.call hc2 hk2
  clear hc2 hk2 hd
  go_wp2_with fail
  refine (from_any g ao cap bs (-2) 15 _ hd2.cur (by omega) (by omega) (by omega)).mono ?_
  rintro e w3 ⟨h3, rfl, h30, h31, hc3, hk3⟩
  have hd3 := hd2.call hc3 hk3
  clear hc3 hk3 hd2
  go_upto_if 20 with (go_at_call 36; refine (once_any g ao cap bs 20 _ hd3.cur (by omega)).mono ?_; rintro e w4 ⟨t4, rfl, hc4, hk4⟩)
  have hd4 := hd3.call hc4 hk4
  clear hc4 hk4 hd3
  have fin : ∀ (W : World), DRs wN W g ao cap bs (.slice ad l.length c) l → Below g w W := fun W h => HBN.out.trans (h.keep.below (B := g) (Nat.le_refl _) (by omega))
  have FIN := hidden fin
  clear fin
  cases t4 with
  | false =>
    have hrow := hd4.row
    go_wp2_with fail
    refine bodyPost_ret (v := .tuple #[.slice ad l.length c, .int .i64 lo, .int .i64 (lo + h3)]) (by simp [results, Try.results25, go_sem]) rfl ?_
    exact ⟨_, l, _, _, rfl, hrow, hll, by rw [hG]; exact FIN.out _ hd4⟩
  | true =>
    go_wp2_with fail
    refine (odd_any g ao cap bs _ hd4.cur).mono ?_
    rintro e w5 ⟨z5, rfl, hc5, hk5⟩
    have hd5 := hd4.call hc5 hk5
    clear hc5 hk5 hd4
    go_wp2_with fail
    refine (odd_any g ao cap bs _ hd5.cur).mono ?_
    rintro e w6 ⟨z6, rfl, hc6, hk6⟩
    have hd6 := hd5.call hc6 hk6
    clear hc6 hk6 hd5
    have hrow := hd6.row
    go_wp2_with fail
    refine bodyPost_ret (v := .tuple #[.slice ad l.length c, .int .i64 z5, .int .i64 z6]) (by simp [results, Try.results25, go_sem]) rfl ?_
    exact ⟨_, l, _, _, rfl, hrow, hll, by rw [hG]; exact FIN.out _ hd6⟩

set_option maxRecDepth 20000 in
set_option maxHeartbeats 8000000 in
theorem fca_walk (ao : Option Addr) (cap : Nat) (bs : List Int) (w : World) (hb : Bytes w w.heap.size ao bs) :
    Calls Try.prog 7 #[.slice ao bs.length cap] w fun e w' => e = .returned (.bool true) ∧ Below w.heap.size w w' := by
  have hB := big_any ao cap bs.length
  have HBY := hidden hb
  clear hb
  by_cases hbig : (4096 : Int) < (bs.length : Int)
  · rw [decide_eq_true hbig] at hB
    go_enter Try.func7, Try.ntmps7
    go_wp2_with fail
    refine (hB _).mono ?_
    rintro e w1 ⟨rfl, rfl⟩
    go_wp2_with fail
    go_ret
    exact ⟨rfl, Below.refl _ _⟩
  rw [decide_eq_false hbig] at hB
  have hl : bs.length ≤ 4096 := by omega
  go_enter Try.func7, Try.ntmps7
  go_wp2_with fail
  refine (hB w).mono ?_
  rintro e w1 ⟨rfl, hw1⟩
  subst hw1
  clear hB
  go_wp2_with fail
  refine (dcalls_any ao cap bs _ HBY.out (by omega)).mono ?_
  rintro e w2 ⟨v, l, lo, hi, rfl, hr, hll, b2⟩
  obtain ⟨al, cl, rfl⟩ := hr.form
  have HR := hidden hr
  clear hr HBY
  go_wp2_with fail
  refine (icalls_any al l.length cl l lo hi _ HR.out (by omega)).mono ?_
  rintro e w3 ⟨v3, rfl, ho3, hb3⟩
  obtain ⟨a3, c3, rfl⟩ := ho3.row.form
  have HD3 := hidden ho3.row
  have b3 := onto b2 hb3
  have HR3 := hidden (HR.out.below hb3)
  clear ho3 hb3 b2 HR
  have HSP := hidden (scalls_any al l.length cl l lo hi _ HR3.out (by omega))
  have HSO : Hid (calls l lo hi ≠ [] → ResOk l ∧ calls l lo hi = callsTo l lo hi l.length) := fun h => by
    by_cases q : ResOk l
    · exact ⟨q, by unfold calls; rw [if_pos q]⟩
    · exact absurd (by unfold calls; rw [if_neg q]) h
  have hDl := calls_bd l lo hi
  generalize calls l lo hi = D at *
  go_wp2_with fail
  refine HSP.out.mono ?_
  rintro e w4 ⟨v4, rfl, ho4, hb4⟩
  obtain ⟨a4, c4, rfl⟩ := ho4.row.form
  have HD := hidden (HD3.out.below hb4)
  have b4 := onto b3 hb4
  have HL := hidden (HR3.out.below hb4)
  clear ho4 hb4 b3 HR3 HD3 HSP
  have HDL := hidden (fun W hW => idelta_any al l.length cl l 200000 1000 W hW (by omega))
  rw [delta_none_of] at HDL
  go_wp2_with fail
  go_loopw [7, 8] (fun iv _ wr => ∃ i : Nat, i ≤ D.length ∧ iv = .int .i64 i ∧ Below w4.heap.size w4 wr) (fun iv _ _ => D.length - (intOf iv).toNat)
  case atStart => exact ⟨0, Nat.zero_le _, rfl, Below.refl _ _⟩
  case round =>
    obtain ⟨i, hi2, rfl, hbr⟩ := hrel
    by_cases hlt : i < D.length
    · have hlti : (i : Int) < (D.length : Int) := by omega
      obtain ⟨hok, hDe⟩ := HSO.out (fun e => by rw [e] at hlt; simp at hlt)
      obtain ⟨a, ha⟩ := some_of D i hlt
      have ha2 := ha
      rw [hDe] at ha2
      obtain ⟨j, x, rfl, hx, hfar, hprev⟩ := calls_facts l.length i a ha2
      obtain ⟨dg, doff, rfl, hdl, d0⟩ := vint_cell (HD.out.below hbr) ha
      obtain ⟨g, off, rfl, hg, hcs⟩ := (HL.out.below hbr).at hx
      have c0 : wr.cell? ⟨g, off + j * 3, none⟩ = some (.int .i64 x.v) := hcs 0 (by omega)
      have c1 : wr.cell? ⟨g, off + j * 3 + 1, none⟩ = some (.int .i64 x.t) := hcs 1 (by omega)
      have c2 : wr.cell? ⟨g, off + j * 3 + 2, none⟩ = some (.bool x.k) := hcs 2 (by omega)
      have hjl : (j : Int) < (l.length : Int) := by have := get_ltL hx; omega
      obtain ⟨q, pt, hd0, hqn, hy0, hpb, hpt⟩ : ∃ (q : Nat) (pt : Int), (0 < i → wr.cell? ⟨dg, doff + (i - 1), none⟩ = some (.int .i64 (q : Int))) ∧ (0 < i → q < l.length) ∧ (0 < i → wr.cell? ⟨g, off + q * 3 + 1, none⟩ = some (.int .i64 pt)) ∧ (0 ≤ pt ∧ pt ≤ 10000000) ∧ (0 < i → 60 ≤ x.t - pt) := by
        by_cases h0 : 0 < i
        · obtain ⟨a', ha'⟩ := some_of D (i - 1) (by omega)
          have ha2' := ha'
          rw [hDe] at ha2'
          obtain ⟨q, p, rfl, hq, h60⟩ := hprev a' h0 ha2'
          obtain ⟨dg', doff', he, _, hc⟩ := vint_cell (HD.out.below hbr) ha'
          obtain ⟨rfl, rfl⟩ : dg = dg' ∧ doff = doff' := by simpa using he
          obtain ⟨g', off', he', _, hcs'⟩ := (HL.out.below hbr).at hq
          obtain ⟨rfl, rfl⟩ : g = g' ∧ off = off' := by simpa using he'
          exact ⟨q, p.t, fun _ => hc, fun _ => get_ltL hq, fun _ => hcs' 1 (by omega), (res_bd hok hq).2, fun _ => h60⟩
        · exact ⟨0, 0, fun h => absurd h h0, fun h => absurd h h0, fun h => absurd h h0, ⟨by omega, by omega⟩, fun h => absurd h h0⟩
      have hBq : (((!x.k) || ((decide (lo ≤ x.v)) && (decide (x.v ≤ hi)))) || ((decide ((0 : Int) < (i : Int))) && (decide (x.t < pt + 60)))) = false := by
        simp only [farB, Bool.and_eq_true, Bool.or_eq_true, decide_eq_true_eq] at hfar
        obtain ⟨f1, f2⟩ := hfar
        rw [f1]
        by_cases h0 : 0 < i
        · have := hpt h0
          simp
          omega
        · simp
          omega
      have bx : Below wr.heap.size wr (wr.alloc (.cells #[.int .i64 x.v, .int .i64 x.t, .bool x.k] 46)) := (Below.refl _ _).alloc (Nat.le_refl _) _
      have HPX := hidden (PB.new wr #[.int .i64 x.v, .int .i64 x.t, .bool x.k] 46)
      have A1 := hidden (fun h => (bx.cell (p := ⟨dg, doff + (i - 1), none⟩) hdl).trans (hd0 h))
      have A2 := hidden hqn
      have A3 := hidden (fun h => (bx.cell (p := ⟨g, off + q * 3 + 1, none⟩) hg).trans (hy0 h))
      have A4 := hidden (Nat.lt_of_lt_of_le hg bx.size)
      have A5 := hidden (Nat.lt_of_lt_of_le hdl bx.size)
      have A6 := hidden hpb
      have b1 := hbr.trans (bx.mono hbr.size)
      have HBQ := hidden hBq
      clear hd0 hqn hy0 hpb hpt hBq hprev hfar hx hcs ha ha2 hDe bx hok hbr
      go_upto_region 11 with fail
      refine regFc11 (x := x) (j := q) (pt := pt) rfl rfl rfl rfl rfl rfl rfl HPX.out hlt (by omega) (by omega) A4.out A5.out A1.out A2.out A3.out A6.out ?_
      intro b' w5 hf hb5 hv
      rw [layFc11 hf, hv, HBQ.out]
      clear hv hf
      generalize Rg.out (Rg.opsOf Try.f7 11) b' 0 = y0
      generalize Rg.out (Rg.opsOf Try.f7 11) b' 1 = y1
      generalize Rg.out (Rg.opsOf Try.f7 11) b' 2 = y2
      generalize Rg.out (Rg.opsOf Try.f7 11) b' 3 = y3
      generalize Rg.out (Rg.opsOf Try.f7 11) b' 4 = y4
      generalize Rg.out (Rg.opsOf Try.f7 11) b' 5 = y5
      generalize Rg.out (Rg.opsOf Try.f7 11) b' 6 = y6
      generalize Rg.out (Rg.opsOf Try.f7 11) b' 7 = y7
      generalize Rg.out (Rg.opsOf Try.f7 11) b' 8 = y8
      generalize Rg.out (Rg.opsOf Try.f7 11) b' 9 = y9
      generalize Rg.out (Rg.opsOf Try.f7 11) b' 10 = y10
      generalize Rg.out (Rg.opsOf Try.f7 11) b' 11 = y11
      generalize Rg.out (Rg.opsOf Try.f7 11) b' 12 = y12
      generalize Rg.out (Rg.opsOf Try.f7 11) b' 13 = y13
      generalize Rg.out (Rg.opsOf Try.f7 11) b' 14 = y14
      generalize Rg.out (Rg.opsOf Try.f7 11) b' 15 = y15
      generalize Rg.out (Rg.opsOf Try.f7 11) b' 16 = y16
      generalize Rg.out (Rg.opsOf Try.f7 11) b' 17 = y17
      generalize Rg.out (Rg.opsOf Try.f7 11) b' 18 = y18
      generalize Rg.out (Rg.opsOf Try.f7 11) b' 19 = y19
      generalize Rg.out (Rg.opsOf Try.f7 11) b' 20 = y20
      generalize Rg.out (Rg.opsOf Try.f7 11) b' 21 = y21
      generalize Rg.out (Rg.opsOf Try.f7 11) b' 22 = y22
      generalize Rg.out (Rg.opsOf Try.f7 11) b' 23 = y23
      generalize Rg.out (Rg.opsOf Try.f7 11) b' 24 = y24
      generalize Rg.out (Rg.opsOf Try.f7 11) b' 25 = y25
      generalize Rg.out (Rg.opsOf Try.f7 11) b' 26 = y26
      generalize Rg.out (Rg.opsOf Try.f7 11) b' 27 = y27
      generalize Rg.out (Rg.opsOf Try.f7 11) b' 28 = y28
      generalize Rg.out (Rg.opsOf Try.f7 11) b' 29 = y29
      generalize Rg.out (Rg.opsOf Try.f7 11) b' 30 = y30
      generalize Rg.out (Rg.opsOf Try.f7 11) b' 31 = y31
      generalize Rg.out (Rg.opsOf Try.f7 11) b' 32 = y32
      have b5 := b1.trans (hb5.mono b1.size)
      clear hb5 b1 HPX A1 A2 A3 A4 A5 A6 c0 c1 c2
      go_frame
      go_wp2_with fail
      go_roundw
      case rel => exact ⟨i + 1, by omega, rfl, b5⟩
      case measure => simp [intOf]; omega
    · have hlti : ¬ (i : Int) < (D.length : Int) := by omega
      have HK := hidden (HDL.out _ (HL.out.below hbr))
      clear HDL
      go_wp2_with (go_at_call 28; refine HK.out.mono ?_; rintro e w6 ⟨v6, rfl, ho6, hb6⟩; obtain ⟨a6, c6, rfl⟩ := ho6.row.form; dsimp only [List.length_nil])
      go_ret
      exact ⟨rfl, onto b4 (onto hbr hb6)⟩
end Go.Proofs.Ytecljmpojninfaa
