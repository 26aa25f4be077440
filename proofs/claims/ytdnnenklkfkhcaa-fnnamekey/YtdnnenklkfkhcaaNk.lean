/-
  NameKey, the specification's: it returns the key of the name's bytes.
-/
import Derived.Test.YtdnnenklkfkhcaaRows
import Derived.Test.YtdnnenklkfkhcaaKey
import Derived.WalkKit
import Derived.WalkSpells
import Derived.WalkLawsBesides
import Derived.BigQuiet
import Derived.Deep.QuietTactic
import Derived.Deep.DeepCutAuto
import Derived.Laws.IdiomStrings
import Derived.Laws.BytesArg
import Derived.Laws.Cover4
import Derived.OwnWalk
import Derived.ProofKit
namespace Go.Proofs.Ytdnnenklkfkhcaa
open Go.RowKit Nk

/-- The key, as a text. -/
def keyS (s : ByteArray) : ByteArray := if s.size ≤ 200 then ⟨((key (nats s)).map UInt8.ofNat).toArray⟩ else ⟨#[]⟩

/-- A row of the call's own: its value, spelt out. -/
theorem own_shape {w : World} {b e n : Nat} {v : Value} {xs : List Value} (h : w.ownsRow b e 1 v n xs) : ∃ ao cap, v = .slice ao n cap := by
  obtain ⟨_, h2⟩ := h
  rcases h2 with ⟨rfl, rfl⟩ | ⟨g, cap, cur, rfl, _⟩
  · exact ⟨none, 0, rfl⟩
  · exact ⟨_, _, rfl⟩
theorem own_cell {w : World} {b e n : Nat} {ao : Option Addr} {cap : Nat} {xs : List Value} (h : w.ownsRow b e 1 (.slice ao n cap) n xs) (hn : 0 < n) :
    ∃ g, ao = some ⟨g, 0, none⟩ ∧ n ≤ cap ∧ ∀ i, i < n → w.cell? ⟨g, i, none⟩ = xs[i]? := by
  obtain ⟨h1, h2⟩ := h
  rcases h2 with ⟨h2, h3⟩ | ⟨g, cap', cur, h2, h3, h4, h5, h6, h7, h8⟩
  · omega
  · simp only [Value.slice.injEq, true_and] at h2
    obtain ⟨rfl, rfl⟩ := h2
    refine ⟨g, rfl, h5, fun i hi => ?_⟩
    have h9 : (cur.toList.take (n * 1))[i]? = xs[i]? := by rw [h8]
    rw [List.getElem?_take, if_pos (by omega), Array.getElem?_toList] at h9
    simp only [World.cell?, h4]
    exact h9
theorem own_empty {w : World} (t : Nat) : (w.alloc (.cells #[] t)).ownsRow w.heap.size t 1 (.slice (some ⟨w.heap.size, 0, none⟩) 0 0) 0 [] :=
  ⟨rfl, .inr ⟨w.heap.size, 0, #[], rfl, Nat.le_refl _, heap_alloc_new w _, Nat.le_refl _, Nat.zero_le _, rfl, rfl⟩⟩
theorem own_lt {w : World} {b e n : Nat} {v : Value} {xs : List Value} (h : w.ownsRow b e 1 v n xs) : ∀ k, v.ownBlock = some k → b ≤ k := by
  intro k hk
  rcases h.2 with ⟨rfl, _⟩ | ⟨g, cap, cur, rfl, h3, _⟩
  · simp [Value.ownBlock] at hk
  · simp [Value.ownBlock] at hk; omega
def b8 (y : Nat) : Value := .int .u8 y
theorem info5 : (Try.prog.info? 5).map (fun i => (i.zero, i.size, i.bytes)) = some (some (.int .u8 0), 1, 1) := by kernel_rfl
theorem conv_own {w : World} {b n : Nat} {ao : Option Addr} {cap : Nat} {acc : List Nat} (h : w.ownsRow b 5 1 (.slice ao n cap) n (acc.map b8)) (hs : Small acc) :
    (convert 22 9 (.slice ao n cap)).run Try.prog w = .ok (.string ⟨(acc.map UInt8.ofNat).toArray⟩) w := by
  have hl : acc.length = n := by have := h.1; simpa using this
  by_cases h0 : n = 0
  · subst h0
    have ha : acc = [] := List.eq_nil_of_length_eq_zero hl
    subst ha
    cases ao with
    | none => exact run_convert_bytes_nil (P := Try.prog) w 22 5 Try.underlying22 Try.underlying5 0 cap 9 Try.underlying9
    | some a => exact run_convert_bytes_back (P := Try.prog) w 22 9 5 a cap [] Try.underlying22 Try.underlying5 Try.underlying9 (fun j hj => absurd hj (by simp))
  · obtain ⟨g, rfl, hc, hcell⟩ := own_cell h (by omega)
    have := run_convert_bytes_back (P := Try.prog) w 22 9 5 ⟨g, 0, none⟩ cap (acc.map UInt8.ofNat) Try.underlying22 Try.underlying5 Try.underlying9 (fun j hj => by
      have hj' : j < acc.length := by simpa using hj
      rw [Addr.add_lit, Nat.zero_add, hcell j (by omega), List.getElem?_map, List.getElem?_eq_getElem hj']
      have h1 := hs acc[j] (List.getElem_mem hj')
      simp [b8]
      omega)
    rw [List.length_map, hl] at this
    exact this

/-- Great letters made small. -/
def lw (x : Nat) : Nat := if 65 ≤ x ∧ x ≤ 90 then x + 32 else x
theorem lowOf_lw (x : Nat) : lowOf x = if 97 ≤ lw x ∧ lw x ≤ 122 then lw x else 0 := by
  unfold lowOf lw isUp isLow
  by_cases h : 65 ≤ x ∧ x ≤ 90
  · rw [if_pos (by simp; omega), if_pos h, if_pos (by omega)]
  · rw [if_neg (by simp; omega), if_neg h]
    by_cases h2 : 97 ≤ x ∧ x ≤ 122
    · rw [if_pos (by simp; omega), if_pos h2]
    · rw [if_neg (by simp; omega), if_neg h2]
theorem drop_at (s : ByteArray) (i : Nat) (h : i < s.size) : (nats s).drop i = s[i].toNat :: (nats s).drop (i + 1) := by
  have e : s.get! i = s[i] := by
    have h' : i < s.data.size := h
    show s.data[i]! = s.data[i]
    rw [getElem!_pos s.data i h']
  rw [nats_drop s i h, e]

set_option maxRecDepth 20000 in
set_option maxHeartbeats 2000000 in
theorem skey_in (s : ByteArray) (w : World) (h : s.size ≤ 200) :
    Calls Try.prog 22 #[.string s] w fun e w' => e = .returned (.string ⟨((key (nats s)).map UInt8.ofNat).toArray⟩) ∧ Below w.heap.size w w' := by
  have hs : ¬ (200 : Int) < (s.size : Int) := by omega
  obtain ⟨i0, hi, hz0, hz1, hz2⟩ := info_parts info5
  have he := @own_empty w 5
  go_enter Try.func22, Try.ntmps22
  go_wp2_with fail
  go_loopw [3, 4] (fun v iv wr => ∃ (i : Nat) (acc : List Nat), i ≤ s.size ∧ acc.length ≤ i ∧ iv = .int .i64 i ∧ wr.ownsRow w.heap.size 5 1 v acc.length (acc.map b8) ∧ Below w.heap.size w wr ∧ Hid (Small acc ∧ keyFrom acc ((nats s).drop i) = key (nats s))) (fun _ iv _ => s.size - (intOf iv).toNat)
  case atStart => exact ⟨0, [], Nat.zero_le _, Nat.le_refl _, rfl, he, (Below.refl _ _).alloc (Nat.le_refl _) _, ⟨fun x hx => absurd hx (by simp), rfl⟩⟩
  case round =>
    obtain ⟨i, acc, hi1, hal, rfl, hown, hb, H⟩ := hrel
    clear he
    obtain ⟨ao, cap, rfl⟩ := own_shape hown
    by_cases hlt : i < s.size
    · have hlti : (i : Int) < (s.size : Int) := by omega
      have hx255 : (s[i].toNat : Int) ≤ 255 := by have := s[i].toNat_lt; omega
      have hdrop := drop_at s i hlt
      obtain ⟨x, hx⟩ : ∃ x, s[i].toNat = x := ⟨_, rfl⟩
      rw [hx] at hdrop
      have HD : Hid (keyFrom (Nk.step acc x) ((nats s).drop (i + 1)) = key (nats s)) := by
        have := H.out.2
        rw [hdrop] at this
        exact this
      have HSm : Hid (Small (Nk.step acc x)) := step_small acc x H.out.1
      go_upto_region 8 with fail
      go_cut [24] (fun v wx => wx = wr ∧ v = .bool (decide (65 ≤ x ∧ x ≤ 90)))
      case first =>
        by_cases h1 : (65 : Int) ≤ (s[i].toNat : Int)
        · by_cases h2 : (s[i].toNat : Int) ≤ 90
          · go_wp2_with fail
            go_meet
            case rel => exact ⟨rfl, by rw [decide_eq_true (show 65 ≤ x ∧ x ≤ 90 by omega)]; first | rfl | (rw [decide_eq_true (show (x : Int) ≤ 90 by omega)]; done)⟩
          · go_wp2_with fail
            go_meet
            case rel => exact ⟨rfl, by first | (rw [decide_eq_false (show ¬ (65 ≤ x ∧ x ≤ 90) by omega)]; done) | (rw [decide_eq_false (show ¬ (65 ≤ x ∧ x ≤ 90) by omega), decide_eq_false (show ¬ (x : Int) ≤ 90 by omega)]; done)⟩
        · go_wp2_with fail
          go_meet
          case rel => exact ⟨rfl, by first | (rw [decide_eq_false (show ¬ (65 ≤ x ∧ x ≤ 90) by omega)]; done) | (rw [decide_eq_false (show ¬ (65 ≤ x ∧ x ≤ 90) by omega), decide_eq_false (show ¬ (x : Int) ≤ 90 by omega)]; done)⟩
      case rest =>
        obtain ⟨hwc, rfl⟩ := hcut
        have hwc2 := hwc.symm
        clear hwc
        subst hwc2
        go_upto_if 24 with fail
        go_cut [5] (fun v wx => wx = wr ∧ v = .int .u8 (lw x))
        case first =>
          by_cases h1 : 65 ≤ x ∧ x ≤ 90
          · have HL : Hid (((lw x : Nat) : Int) = (x : Int) + 32) := by unfold lw; rw [Hid, if_pos h1]; omega
            have h9 : (x : Int) ≤ 90 := by omega
            rw [decide_eq_true h1]
            go_wp2_with fail
            go_meet
            case rel => exact ⟨rfl, by rw [HL.out]⟩
          · have HL : Hid (((lw x : Nat) : Int) = (x : Int)) := by unfold lw; rw [Hid, if_neg h1]
            rw [decide_eq_false h1]
            go_wp2_with fail
            go_meet
            case rel => exact ⟨rfl, by rw [HL.out]⟩
        case rest =>
          obtain ⟨hwc, rfl⟩ := hcut
          have hwc2 := hwc.symm
          clear hwc
          subst hwc2
          have hlow := lowOf_lw x
          have hy255 : lw x ≤ 255 := by unfold lw; split <;> omega
          generalize lw x = y at *
          clear hx hdrop hx255 H
          by_cases hL : 97 ≤ y ∧ y ≤ 122
          · have hlow' : lowOf x = y := by rw [hlow, if_pos hL]
            have l1 : ¬ (y : Int) < 97 := by omega
            have l2 : ¬ (y : Int) > 122 := by omega
            have hst : Nk.step acc x = add1 acc y := by unfold Nk.step; rw [hlow', if_neg (by omega)]
            clear hlow hlow'
            cases hacc : acc with
            | nil =>
              subst hacc
              have HST : Hid (Nk.step [] x = [y]) := by rw [Hid, hst]; rfl
              clear hst
              simp only [List.length_nil, List.map_nil] at hown hal ⊢
              go_wp2_with (at_builtin; refine wpList_append_own _ rfl (.tmp 53) (.tmp 55) 22 rfl w.heap.size 5 i0 (.int .u8 0) 1 1 Try.underlying22 hi hz0 hz1 hz2 rfl (by decide) _ 0 [] rfl (hown.alloc _) ⟨wr.heap.size, 0, none⟩ 1 1 [b8 y] rfl rfl (cell_one_new _ _ _) (by intro u hu; rw [List.mem_singleton.1 hu]; rfl) (by unfold maxLen; omega) (by omega) (by have := hb.size; simp; omega) ?_; intro v2 w2 ho2 hgr hnn2)
              have hb2 := (hb.alloc hb.size _).grown hgr (by have := hb.size; simp; omega) (own_lt hown)
              go_wp2_with fail
              go_roundw
              case rel => exact ⟨i + 1, [y], by omega, by simp, rfl, ho2, hb2, by rw [← HST.out]; exact ⟨HSm.out, HD.out⟩⟩
              case measure => simp [intOf]; omega
            | cons c0 acc0 =>
              rw [← hacc]
              have hpos : 0 < acc.length := by rw [hacc]; simp
              have hne : acc ≠ [] := by rw [hacc]; simp
              clear hacc
              have hposi : (0 : Int) < (acc.length : Int) := by omega
              obtain ⟨g, rfl, hcapn, hcell⟩ := own_cell hown hpos
              obtain ⟨l, hl⟩ : ∃ l, acc[acc.length - 1]? = some l := ⟨_, List.getElem?_eq_getElem (by omega)⟩
              have hlast : acc.getLast? = some l := by rw [List.getLast?_eq_getElem?]; exact hl
              have hcl : wr.cell? ⟨g, acc.length - 1, none⟩ = some (.int .u8 l) := by
                rw [hcell _ (by omega), List.getElem?_map, hl]; rfl
              have hidx : (acc.length : Int) - 1 = ((acc.length - 1 : Nat) : Int) := by omega
              clear hcell
              generalize acc.length - 1 = k at *
              have hk1 : (k : Int) < (acc.length : Int) := by omega
              by_cases hv : vow y = true
              · have HST : Hid (Nk.step acc x = acc) := by rw [Hid, hst]; unfold add1; rw [if_pos ⟨hne, Or.inl hv⟩]
                clear hst
                have hv' : y = 97 ∨ y = 101 ∨ y = 105 ∨ y = 111 ∨ y = 117 ∨ y = 104 ∨ y = 119 ∨ y = 121 := by
                  unfold vow at hv; simp only [Bool.or_eq_true, beq_iff_eq] at hv; omega
                clear hv
                rcases hv' with rfl | rfl | rfl | rfl | rfl | rfl | rfl | rfl
                · go_wp2_with fail
                  go_roundw
                  case rel => exact ⟨i + 1, acc, by omega, by omega, rfl, hown, hb, by rw [← HST.out]; exact ⟨HSm.out, HD.out⟩⟩
                  case measure => simp [intOf]; omega
                · go_wp2_with fail
                  go_roundw
                  case rel => exact ⟨i + 1, acc, by omega, by omega, rfl, hown, hb, by rw [← HST.out]; exact ⟨HSm.out, HD.out⟩⟩
                  case measure => simp [intOf]; omega
                · go_wp2_with fail
                  go_roundw
                  case rel => exact ⟨i + 1, acc, by omega, by omega, rfl, hown, hb, by rw [← HST.out]; exact ⟨HSm.out, HD.out⟩⟩
                  case measure => simp [intOf]; omega
                · go_wp2_with fail
                  go_roundw
                  case rel => exact ⟨i + 1, acc, by omega, by omega, rfl, hown, hb, by rw [← HST.out]; exact ⟨HSm.out, HD.out⟩⟩
                  case measure => simp [intOf]; omega
                · go_wp2_with fail
                  go_roundw
                  case rel => exact ⟨i + 1, acc, by omega, by omega, rfl, hown, hb, by rw [← HST.out]; exact ⟨HSm.out, HD.out⟩⟩
                  case measure => simp [intOf]; omega
                · go_wp2_with fail
                  go_roundw
                  case rel => exact ⟨i + 1, acc, by omega, by omega, rfl, hown, hb, by rw [← HST.out]; exact ⟨HSm.out, HD.out⟩⟩
                  case measure => simp [intOf]; omega
                · go_wp2_with fail
                  go_roundw
                  case rel => exact ⟨i + 1, acc, by omega, by omega, rfl, hown, hb, by rw [← HST.out]; exact ⟨HSm.out, HD.out⟩⟩
                  case measure => simp [intOf]; omega
                · go_wp2_with fail
                  go_roundw
                  case rel => exact ⟨i + 1, acc, by omega, by omega, rfl, hown, hb, by rw [← HST.out]; exact ⟨HSm.out, HD.out⟩⟩
                  case measure => simp [intOf]; omega
              · have v1 : ¬ (y : Int) = 97 := by intro q; exact hv (by rw [show y = 97 by omega]; rfl)
                have v2 : ¬ (y : Int) = 101 := by intro q; exact hv (by rw [show y = 101 by omega]; rfl)
                have v3 : ¬ (y : Int) = 105 := by intro q; exact hv (by rw [show y = 105 by omega]; rfl)
                have v4 : ¬ (y : Int) = 111 := by intro q; exact hv (by rw [show y = 111 by omega]; rfl)
                have v5 : ¬ (y : Int) = 117 := by intro q; exact hv (by rw [show y = 117 by omega]; rfl)
                have v6 : ¬ (y : Int) = 104 := by intro q; exact hv (by rw [show y = 104 by omega]; rfl)
                have v7 : ¬ (y : Int) = 119 := by intro q; exact hv (by rw [show y = 119 by omega]; rfl)
                have v8 : ¬ (y : Int) = 121 := by intro q; exact hv (by rw [show y = 121 by omega]; rfl)
                by_cases hyl : y = l
                · have HST : Hid (Nk.step acc x = acc) := by rw [Hid, hst]; unfold add1; rw [if_pos ⟨hne, Or.inr (by rw [hlast, hyl])⟩]
                  clear hst
                  subst hyl
                  go_wp2_with fail
                  go_roundw
                  case rel => exact ⟨i + 1, acc, by omega, by omega, rfl, hown, hb, by rw [← HST.out]; exact ⟨HSm.out, HD.out⟩⟩
                  case measure => simp [intOf]; omega
                · have HST : Hid (Nk.step acc x = acc ++ [y]) := by
                    rw [Hid, hst]; unfold add1; rw [if_neg]
                    rintro ⟨_, q | q⟩
                    · exact hv q
                    · rw [hlast] at q; exact hyl (Option.some.inj q).symm
                  clear hst
                  have hyli : ¬ (y : Int) = (l : Int) := by omega
                  go_wp2_with (at_builtin; refine wpList_append_own _ rfl (.tmp 53) (.tmp 55) 22 rfl w.heap.size 5 i0 (.int .u8 0) 1 1 Try.underlying22 hi hz0 hz1 hz2 rfl (by decide) _ acc.length (acc.map b8) rfl (hown.alloc _) ⟨wr.heap.size, 0, none⟩ 1 1 [b8 y] rfl rfl (cell_one_new _ _ _) (by intro u hu; rw [List.mem_singleton.1 hu]; rfl) (by unfold maxLen; omega) (by omega) (by have := hb.size; simp; omega) ?_; intro v2 w2 ho2 hgr hnn2)
                  have hb2 := (hb.alloc hb.size _).grown hgr (by have := hb.size; simp; omega) (own_lt hown)
                  go_wp2_with fail
                  go_roundw
                  case rel => exact ⟨i + 1, acc ++ [y], by omega, by simp; omega, rfl, by rw [List.map_append, List.length_append]; exact ho2, hb2, by rw [← HST.out]; exact ⟨HSm.out, HD.out⟩⟩
                  case measure => simp [intOf]; omega
          · have HST : Hid (Nk.step acc x = acc) := by unfold Nk.step; rw [Hid, hlow, if_neg hL, if_pos rfl]
            clear hlow
            by_cases l1 : (y : Int) < 97
            · go_wp2_with fail
              go_roundw
              case rel => exact ⟨i + 1, acc, by omega, by omega, rfl, hown, hb, by rw [← HST.out]; exact ⟨HSm.out, HD.out⟩⟩
              case measure => simp [intOf]; omega
            · have l2 : (y : Int) > 122 := by omega
              go_wp2_with fail
              go_roundw
              case rel => exact ⟨i + 1, acc, by omega, by omega, rfl, hown, hb, by rw [← HST.out]; exact ⟨HSm.out, HD.out⟩⟩
              case measure => simp [intOf]; omega
    · have hlti : ¬ (i : Int) < (s.size : Int) := by omega
      have HE : Hid (acc = key (nats s)) := by
        have := H.out.2
        rw [List.drop_eq_nil_of_le (by rw [nats_length]; omega)] at this
        exact this
      have hcv := conv_own hown H.out.1
      go_wp2_with fail
      go_ret
      exact ⟨by rw [← HE.out]; rfl, hb⟩
end Go.Proofs.Ytdnnenklkfkhcaa
