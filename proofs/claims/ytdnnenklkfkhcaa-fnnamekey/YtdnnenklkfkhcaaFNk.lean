/-
  The law of keys of names: great letters, and signs that are no letters, change no key.
-/
import Derived.Test.YtdnnenklkfkhcaaDNk
import Derived.Deep.DeepCutAuto
namespace Go.Proofs.Ytdnnenklkfkhcaa
open Go.RowKit Nk

theorem upOf_lt (x : Nat) (h : x ≤ 255) : upOf x ≤ 255 := by unfold upOf; split <;> omega
theorem loud_length (l : List Nat) : (loud l).length = 2 * l.length := by
  induction l with
  | nil => rfl
  | cons a l ih =>
    have : loud (a :: l) = upOf a :: 45 :: loud l := rfl
    rw [this]; simp [ih]; omega
theorem nats_mk (l : List Nat) (h : ∀ x ∈ l, x ≤ 255) : nats ⟨(l.map UInt8.ofNat).toArray⟩ = l := by
  unfold nats
  show ((l.map UInt8.ofNat).toArray.toList).map UInt8.toNat = l
  rw [List.toList_toArray, List.map_map]
  have : l.map (UInt8.toNat ∘ UInt8.ofNat) = l.map id := List.map_congr_left (fun x hx => by
    have := h x hx
    show (UInt8.ofNat x).toNat = x
    rw [UInt8.toNat_ofNat']; omega)
  rw [this, List.map_id]
theorem nats_le (s : ByteArray) : ∀ x ∈ nats s, x ≤ 255 := by
  intro x hx
  obtain ⟨b, _, rfl⟩ := List.mem_map.1 hx
  have := b.toNat_lt
  omega
theorem loud_le (l : List Nat) (h : ∀ x ∈ l, x ≤ 255) : ∀ x ∈ loud l, x ≤ 255 := by
  intro x hx
  obtain ⟨a, ha, hxa⟩ := List.mem_flatMap.1 hx
  rcases List.mem_cons.1 hxa with q | q
  · rw [q]; exact upOf_lt a (h a ha)
  · rw [List.mem_singleton.1 q]; omega
theorem size_mk (l : List Nat) : (⟨(l.map UInt8.ofNat).toArray⟩ : ByteArray).size = l.length := by
  show (l.map UInt8.ofNat).toArray.size = l.length
  rw [List.size_toArray, List.length_map]
theorem keyS_loud (s : ByteArray) (h : s.size ≤ 60) : keyS ⟨((loud (nats s)).map UInt8.ofNat).toArray⟩ = keyS s := by
  unfold keyS
  rw [size_mk, loud_length, nats_length, if_pos (by omega), if_pos (by omega), nats_mk _ (loud_le _ (nats_le s)), key_loud]
theorem keyS_keyS (s : ByteArray) (h : s.size ≤ 60) : keyS (keyS s) = keyS s := by
  have hk : (key (nats s)).length ≤ 60 := by have := keyFrom_len [] (nats s); rw [nats_length] at this; simp at this; unfold key; omega
  have e : keyS s = ⟨((key (nats s)).map UInt8.ofNat).toArray⟩ := by unfold keyS; rw [if_pos (by omega)]
  rw [e]
  unfold keyS
  rw [size_mk, if_pos (by omega), nats_mk _ (fun x hx => by have := keyFrom_small [] (nats s) (fun y hy => absurd hy (by simp)) x hx; omega), key_key]
theorem conv_any {w : World} {b n : Nat} {ao : Option Addr} {cap : Nat} {acc : List Nat} (h : w.ownsRow b 5 1 (.slice ao n cap) n (acc.map b8)) (hs : ∀ x ∈ acc, x ≤ 255) :
    (convert 22 9 (.slice ao n cap)).run Try.prog w = .ok (.string ⟨(acc.map UInt8.ofNat).toArray⟩) w := by
  have hl : acc.length = n := by have := h.1; simpa using this
  by_cases h0 : n = 0
  · subst h0
    have ha : acc = [] := List.eq_nil_of_length_eq_zero hl
    subst ha
    cases ao with
    | none => exact run_convert_bytes_nil (P := Try.prog) w 22 5 Try.underlying22 Try.underlying5 0 cap 9 Try.underlying9
    | some a => exact run_convert_bytes_back (P := Try.prog) w 22 9 5 a cap [] Try.underlying22 Try.underlying5 Try.underlying9 (fun j hj => absurd hj (by simp))
  · obtain ⟨g, rfl, hc, hcell⟩ := own_cell h (by omega)
    have := run_convert_bytes_back (P := Try.prog) w 22 9 5 ⟨g, 0, none⟩ cap (acc.map UInt8.ofNat) Try.underlying22 Try.underlying5 Try.underlying9 (fun j hj => by
      have hj' : j < acc.length := by simpa using hj
      rw [Addr.add_lit, Nat.zero_add, hcell j (by omega), List.getElem?_map, List.getElem?_eq_getElem hj']
      have h1 := hs acc[j] (List.getElem_mem hj')
      simp [b8]
      omega)
    rw [List.length_map, hl] at this
    exact this
theorem take_at (s : ByteArray) (i : Nat) (h : i < s.size) : (nats s).take (i + 1) = (nats s).take i ++ [s[i].toNat] := by
  have h1 : i < (nats s).length := by rw [nats_length]; exact h
  have e := drop_at s i h
  rw [List.drop_eq_getElem_cons h1] at e
  rw [List.take_add_one, List.getElem?_eq_getElem h1]
  simp only [List.cons.injEq] at e
  rw [e.1]; rfl
theorem own_stays {w W : World} {b e n : Nat} {v : Value} {xs : List Value} (h : w.ownsRow b e 1 v n xs) (hb : Below w.heap.size w W) : W.ownsRow b e 1 v n xs := by
  obtain ⟨h1, h2⟩ := h
  refine ⟨h1, ?_⟩
  rcases h2 with h2 | ⟨g, cap, cur, h2, h3, h4, h5⟩
  · exact Or.inl h2
  · exact Or.inr ⟨g, cap, cur, h2, h3, (hb.block g (Array.getElem?_eq_some_iff.1 h4).1).trans h4, h5⟩
theorem cell_two_new (w : World) (x y : Value) (t : TypeId) : ∀ j u, [x, y][j]? = some u → (w.alloc (.cells #[x, y] t)).cell? ((⟨w.heap.size, 0, none⟩ : Addr).add j) = some u := by
  intro j u hj
  have e := heap_alloc_new w (Obj.cells #[x, y] t)
  rw [Addr.add_lit, Nat.zero_add]
  match j, hj with
  | 0, hj => simp at hj; subst hj; simp only [World.cell?, e]; rfl
  | 1, hj => simp at hj; subst hj; simp only [World.cell?, e]; rfl
  | j + 2, hj => simp at hj

set_option maxRecDepth 20000 in
set_option maxHeartbeats 4000000 in
theorem fnNameKey_walk (ao : Option Addr) (cap : Nat) (bs : List Int) (w : World) (hb : Bytes w w.heap.size ao bs) :
    Calls Try.prog 5 #[.slice ao bs.length cap] w fun e w' => e = .returned (.bool true) ∧ Below w.heap.size w w' := by
  by_cases hbig : (4096 : Int) < (bs.length : Int)
  · clear hb
    go_enter Try.func5, Try.ntmps5
    go_wp2_with (go_at_call 7; refine (big_any _ _ _ _).mono ?_; rintro e w' ⟨rfl, hw'⟩; have hw2 := hw'.symm; clear hw'; subst hw2; rw [decide_eq_true hbig])
    go_ret
    exact ⟨rfl, Below.refl _ _⟩
  go_enter Try.func5, Try.ntmps5
  go_wp2_with (go_at_call 7; refine (big_any _ _ _ _).mono ?_; rintro e w' ⟨rfl, hw'⟩; have hw2 := hw'.symm; clear hw'; subst hw2; rw [decide_eq_false hbig])
  refine (dname_any ao cap bs _ hb (by omega)).mono ?_
  rintro e w1 ⟨s, rfl, hs201, b1⟩
  clear hb
  by_cases h60 : (60 : Int) < (s.size : Int)
  · go_wp2_with fail
    refine (ikey_any s _).mono ?_
    rintro e w2 ⟨rfl, hb2⟩
    have b2 : Below w.heap.size w w2 := b1.trans (hb2.mono b1.size)
    go_wp2_with fail
    refine (skey_any s _).mono ?_
    rintro e w3 ⟨rfl, hb3⟩
    have b3 : Below w.heap.size w w3 := b2.trans (hb3.mono b2.size)
    clear b1 b2 hb2 hb3
    generalize keyS s = K
    go_wp2
    go_ret
    exact ⟨rfl, b3⟩
  have hs60 : s.size ≤ 60 := by omega
  obtain ⟨i0, hi, hz0, hz1, hz2⟩ := info_parts info5
  have he := @own_empty w1 5
  go_wp2_with fail
  go_loopw [4, 5] (fun v iv wr => ∃ i : Nat, i ≤ s.size ∧ iv = .int .i64 i ∧ wr.ownsRow w1.heap.size 5 1 v (2 * i) ((loud ((nats s).take i)).map b8) ∧ Below w1.heap.size w1 wr) (fun _ iv _ => s.size - (intOf iv).toNat)
  case atStart => exact ⟨0, Nat.zero_le _, rfl, he, (Below.refl _ _).alloc (Nat.le_refl _) _⟩
  case round =>
    obtain ⟨i, hi1, rfl, hown, hbw⟩ := hrel
    clear he
    obtain ⟨bo, bcap, rfl⟩ := own_shape hown
    by_cases hlt : i < s.size
    · have hlti : (i : Int) < (s.size : Int) := by omega
      have hx255 : (s[i].toNat : Int) ≤ 255 := by have := s[i].toNat_lt; omega
      have htake := take_at s i hlt
      obtain ⟨x, hx⟩ : ∃ x, s[i].toNat = x := ⟨_, rfl⟩
      rw [hx] at htake
      have HL : Hid ((loud ((nats s).take (i + 1))).map b8 = (loud ((nats s).take i)).map b8 ++ [b8 (upOf x), b8 45]) := by
        rw [Hid, htake, loud_snoc, List.map_append]; rfl
      clear htake
      generalize (loud ((nats s).take i)).map b8 = L at *
      go_upto_region 11 with fail
      go_cut [35] (fun v wx => wx = wr ∧ v = .bool (decide (97 ≤ x ∧ x ≤ 122)))
      case first =>
        by_cases h1 : (97 : Int) ≤ (s[i].toNat : Int)
        · by_cases h2 : (s[i].toNat : Int) ≤ 122
          · go_wp2_with fail
            go_meet
            case rel => exact ⟨rfl, by first | (rw [decide_eq_true (show 97 ≤ x ∧ x ≤ 122 by omega)]; done) | (rw [decide_eq_true (show 97 ≤ x ∧ x ≤ 122 by omega), decide_eq_true (show (x : Int) ≤ 122 by omega)]; done)⟩
          · go_wp2_with fail
            go_meet
            case rel => exact ⟨rfl, by first | (rw [decide_eq_false (show ¬ (97 ≤ x ∧ x ≤ 122) by omega)]; done) | (rw [decide_eq_false (show ¬ (97 ≤ x ∧ x ≤ 122) by omega), decide_eq_false (show ¬ (x : Int) ≤ 122 by omega)]; done)⟩
        · go_wp2_with fail
          go_meet
          case rel => exact ⟨rfl, by first | (rw [decide_eq_false (show ¬ (97 ≤ x ∧ x ≤ 122) by omega)]; done) | (rw [decide_eq_false (show ¬ (97 ≤ x ∧ x ≤ 122) by omega), decide_eq_false (show ¬ (x : Int) ≤ 122 by omega)]; done)⟩
      case rest =>
        obtain ⟨hwc, rfl⟩ := hcut
        have hwc2 := hwc.symm
        clear hwc
        subst hwc2
        go_upto_if 35 with fail
        go_cut [6] (fun v wx => wx = wr ∧ v = .int .u8 (upOf x))
        case first =>
          by_cases h1 : 97 ≤ x ∧ x ≤ 122
          · have HU : Hid (((upOf x : Nat) : Int) = (x : Int) - 32) := by unfold upOf isLow; rw [Hid, if_pos (by simp; omega)]; omega
            have h8 : (97 : Int) ≤ (x : Int) := by omega
            have h9 : (x : Int) ≤ 122 := by omega
            rw [decide_eq_true h1]
            go_wp2_with fail
            go_meet
            case rel => exact ⟨rfl, by rw [HU.out]⟩
          · have HU : Hid (((upOf x : Nat) : Int) = (x : Int)) := by unfold upOf isLow; rw [Hid, if_neg (by simp; omega)]
            rw [decide_eq_false h1]
            go_wp2_with fail
            go_meet
            case rel => exact ⟨rfl, by rw [HU.out]⟩
        case rest =>
          obtain ⟨hwc, rfl⟩ := hcut
          have hwc2 := hwc.symm
          clear hwc
          subst hwc2
          generalize upOf x = y at *
          clear hx hx255
          go_wp2_with (at_builtin; refine wpList_append_own _ rfl (.tmp 38) (.tmp 40) 22 rfl w1.heap.size 5 i0 (.int .u8 0) 1 1 Try.underlying22 hi hz0 hz1 hz2 rfl (by decide) _ (2 * i) L rfl (hown.alloc _) ⟨wr.heap.size, 0, none⟩ 2 2 [b8 y, b8 45] rfl rfl (cell_two_new _ _ _ _) (by intro u hu; rcases List.mem_cons.1 hu with q | q; (rw [q]; rfl); (rw [List.mem_singleton.1 q]; rfl)) (by unfold maxLen; omega) (by omega) (by have := hbw.size; simp; omega) ?_; intro v2 w2 ho2 hgr hnn2)
          have hb2 := (hbw.alloc hbw.size _).grown hgr (by have := hbw.size; simp; omega) (own_lt hown)
          go_wp2_with fail
          go_roundw
          case rel => exact ⟨i + 1, by omega, rfl, by rw [HL.out, show 2 * (i + 1) = 2 * i + 2 by omega]; exact ho2, hb2⟩
          case measure => simp [intOf]; omega
    · have hlti : ¬ (i : Int) < (s.size : Int) := by omega
      have hall : (nats s).take i = nats s := List.take_of_length_le (by rw [nats_length]; omega)
      rw [hall] at hown
      have b2 : Below w.heap.size w wr := b1.trans (hbw.mono b1.size)
      have hkl := ikey_any ⟨((loud (nats s)).map UInt8.ofNat).toArray⟩
      rw [keyS_loud s hs60] at hkl
      have hkk := ikey_any (keyS s)
      rw [keyS_keyS s hs60] at hkk
      have hsk := skey_any s
      have hik := ikey_any s
      generalize keyS s = K at *
      clear b1 hbw
      go_wp2_with fail
      refine (hik _).mono ?_
      rintro e w3 ⟨rfl, hb3⟩
      have b3 : Below w.heap.size w w3 := b2.trans (hb3.mono b2.size)
      clear hik
      go_wp2_with fail
      refine (hsk _).mono ?_
      rintro e w4 ⟨rfl, hb4⟩
      have b4 : Below w.heap.size w w4 := b3.trans (hb4.mono b3.size)
      have hown4 := own_stays (own_stays hown hb3) hb4
      have hcv := conv_any hown4 (loud_le _ (nats_le s))
      clear hsk hb3 hb4 b2 b3 hown hown4
      generalize (⟨((loud (nats s)).map UInt8.ofNat).toArray⟩ : ByteArray) = S2 at *
      go_wp2_with fail
      refine (hkl _).mono ?_
      rintro e w5 ⟨rfl, hb5⟩
      have b5 : Below w.heap.size w w5 := b4.trans (hb5.mono b4.size)
      clear hkl hb5 b4
      go_wp2_with fail
      refine (hkk _).mono ?_
      rintro e w6 ⟨rfl, hb6⟩
      have b6 : Below w.heap.size w w6 := b5.trans (hb6.mono b5.size)
      clear hkk hb6 b5
      go_wp2_with fail
      go_ret
      exact ⟨rfl, b6⟩
end Go.Proofs.Ytdnnenklkfkhcaa
