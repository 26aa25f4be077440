/-
  NameKey, the program's: it returns the key of the name's bytes.
-/
import Derived.Test.YtdnnenklkfkhcaaNk
import Derived.Lib.OthersKept
namespace Go.Proofs.Ytdnnenklkfkhcaa
open Go.RowKit Nk

set_option maxHeartbeats 400000 in
theorem small_any (r : Nat) (w : World) (h : r ≤ 2147483647) :
    Calls Try.prog 53 #[.int .i32 r] w fun e w' => e = .returned (.tuple #[.int .i32 (lowOf r), .bool (decide (lowOf r ≠ 0))]) ∧ w' = w := by
  by_cases h1 : 97 ≤ r ∧ r ≤ 122
  · have hl : lowOf r = r := lowOf_small r h1
    rw [hl, decide_eq_true (show r ≠ 0 by omega)]
    have a1 : (97 : Int) ≤ (r : Int) := by omega
    have a2 : (r : Int) ≤ 122 := by omega
    go_enter Try.func53, Try.ntmps53
    go_wp2
    exact bodyPost_ret (v := .tuple #[.int .i32 r, .bool true]) (by simp [results, Try.results53, go_sem]) rfl ⟨rfl, rfl⟩
  · by_cases h2 : 65 ≤ r ∧ r ≤ 90
    · have hl : lowOf r = r + 32 := by unfold lowOf isUp; rw [if_pos (by simp; omega)]
      rw [hl, decide_eq_true (show r + 32 ≠ 0 by omega)]
      have HE : Hid (((r + 32 : Nat) : Int) = (r : Int) - 65 + 97) := by rw [Hid]; omega
      rw [HE.out]
      have a1 : ¬ (97 : Int) ≤ (r : Int) := by omega
      have a3 : (65 : Int) ≤ (r : Int) := by omega
      have a4 : (r : Int) ≤ 90 := by omega
      go_enter Try.func53, Try.ntmps53
      go_wp2
      exact bodyPost_ret (v := .tuple #[.int .i32 (r - 65 + 97), .bool true]) (by simp [results, Try.results53, go_sem]) rfl ⟨rfl, rfl⟩
    · have hl : lowOf r = 0 := by unfold lowOf isUp isLow; rw [if_neg (by simp; omega), if_neg (by simp; omega)]
      rw [hl, decide_eq_false (show ¬ (0 : Nat) ≠ 0 by omega)]
      by_cases b1 : (97 : Int) ≤ (r : Int)
      · have b2 : ¬ (r : Int) ≤ 122 := by omega
        have b3 : (65 : Int) ≤ (r : Int) := by omega
        have b4 : ¬ (r : Int) ≤ 90 := by omega
        go_enter Try.func53, Try.ntmps53
        go_wp2
        exact bodyPost_ret (v := .tuple #[.int .i32 0, .bool false]) (by simp [results, Try.results53, go_sem]) rfl ⟨rfl, rfl⟩
      · by_cases b3 : (65 : Int) ≤ (r : Int)
        · have b4 : ¬ (r : Int) ≤ 90 := by omega
          go_enter Try.func53, Try.ntmps53
          go_wp2
          exact bodyPost_ret (v := .tuple #[.int .i32 0, .bool false]) (by simp [results, Try.results53, go_sem]) rfl ⟨rfl, rfl⟩
        · go_enter Try.func53, Try.ntmps53
          go_wp2
          exact bodyPost_ret (v := .tuple #[.int .i32 0, .bool false]) (by simp [results, Try.results53, go_sem]) rfl ⟨rfl, rfl⟩

set_option maxHeartbeats 400000 in
theorem left_any (y : Nat) (w : World) :
    Calls Try.prog 54 #[.int .i32 y] w fun e w' => e = .returned (.bool (vow y)) ∧ w' = w := by
  by_cases hv : vow y = true
  · rw [hv]
    have hv' : y = 97 ∨ y = 101 ∨ y = 105 ∨ y = 111 ∨ y = 117 ∨ y = 104 ∨ y = 119 ∨ y = 121 := by
      unfold vow at hv; simp only [Bool.or_eq_true, beq_iff_eq] at hv; omega
    clear hv
    rcases hv' with rfl | rfl | rfl | rfl | rfl | rfl | rfl | rfl <;> (go_enter Try.func54, Try.ntmps54; go_wp2; go_ret; exact ⟨rfl, rfl⟩)
  · have v1 : ¬ (y : Int) = 97 := by intro q; exact hv (by rw [show y = 97 by omega]; rfl)
    have v2 : ¬ (y : Int) = 101 := by intro q; exact hv (by rw [show y = 101 by omega]; rfl)
    have v3 : ¬ (y : Int) = 105 := by intro q; exact hv (by rw [show y = 105 by omega]; rfl)
    have v4 : ¬ (y : Int) = 111 := by intro q; exact hv (by rw [show y = 111 by omega]; rfl)
    have v5 : ¬ (y : Int) = 117 := by intro q; exact hv (by rw [show y = 117 by omega]; rfl)
    have v6 : ¬ (y : Int) = 104 := by intro q; exact hv (by rw [show y = 104 by omega]; rfl)
    have v7 : ¬ (y : Int) = 119 := by intro q; exact hv (by rw [show y = 119 by omega]; rfl)
    have v8 : ¬ (y : Int) = 121 := by intro q; exact hv (by rw [show y = 121 by omega]; rfl)
    have HV : Hid (vow y = false) := by rw [Hid]; simpa using hv
    rw [HV.out]
    clear hv
    go_enter Try.func54, Try.ntmps54
    go_wp2
    go_ret
    exact ⟨rfl, rfl⟩

def r32 (y : Nat) : Value := .int .i32 y
theorem info21 : (Try.prog.info? 21).map (fun i => (i.zero, i.size, i.bytes)) = some (some (.int .i32 0), 1, 4) := by kernel_rfl
theorem own_iter {w : World} {b e n k pos pos' : Nat} {v : Value} {xs : List Value} {s : ByteArray} (h : w.ownsRow b e 1 v n xs) (hk : w.heap[k]? = some (.stringIter s pos)) : (w.iterAt k s pos').ownsRow b e 1 v n xs := by
  obtain ⟨h1, h2⟩ := h
  refine ⟨h1, ?_⟩
  rcases h2 with h2 | ⟨g, cap, cur, h2, h3, h4, h5⟩
  · exact Or.inl h2
  · have hg : g ≠ k := fun q => by rw [q, hk] at h4; cases h4
    exact Or.inr ⟨g, cap, cur, h2, h3, (Lib.iterAt_other w k g s pos' hg).trans h4, h5⟩
theorem own_ne {w : World} {b e n k pos : Nat} {v : Value} {xs : List Value} {s : ByteArray} (h : w.ownsRow b e 1 v n xs) (hk : w.heap[k]? = some (.stringIter s pos)) : v.ownBlock ≠ some k := by
  rcases h.2 with ⟨rfl, _⟩ | ⟨g, cap, cur, rfl, h3, h4, _⟩
  · simp [Value.ownBlock]
  · intro q
    simp [Value.ownBlock] at q
    rw [q, hk] at h4
    cases h4
theorem runes_small (acc : List Nat) (r : ByteArray) (hs : Small acc) : (acc.map (fun y : Nat => (y : Int))).foldl (fun r n => r ++ Utf8.encode n) r = r ++ ⟨(acc.map UInt8.ofNat).toArray⟩ := by
  induction acc generalizing r with
  | nil => apply ByteArray.ext; simp
  | cons y acc ih =>
    have hy := hs y (by simp)
    have he : Utf8.encode (y : Int) = ⟨#[UInt8.ofNat y]⟩ := by
      unfold Utf8.encode
      have hv : Utf8.valid (y : Int) = true := by unfold Utf8.valid; simp; omega
      simp only [hv, if_true, Int.toNat_natCast]
      rw [if_pos (by omega)]
    rw [List.map_cons, List.foldl_cons, he, ih _ (fun x hx => hs x (by simp [hx]))]
    apply ByteArray.ext
    simp
theorem conv_runes {w : World} {b n : Nat} {ao : Option Addr} {cap : Nat} {acc : List Nat} (h : w.ownsRow b 21 1 (.slice ao n cap) n (acc.map r32)) (hs : Small acc) :
    (convert 78 9 (.slice ao n cap)).run Try.prog w = .ok (.string ⟨(acc.map UInt8.ofNat).toArray⟩) w := by
  have hl : acc.length = n := by have := h.1; simpa using this
  have hrb : runesBytes (acc.map (fun y : Nat => (y : Int))) = ⟨(acc.map UInt8.ofNat).toArray⟩ := by
    unfold runesBytes
    rw [runes_small acc _ hs]
    apply ByteArray.ext
    simp
  by_cases h0 : n = 0
  · subst h0
    have ha : acc = [] := List.eq_nil_of_length_eq_zero hl
    subst ha
    cases ao with
    | none => exact run_convert_runes_nil (P := Try.prog) w 78 9 21 0 cap Try.underlying78 Try.underlying21 Try.underlying9
    | some a =>
      have := run_convert_runes (P := Try.prog) w 78 9 21 a 0 cap [] (Nat.le_refl _) Try.underlying78 Try.underlying21 Try.underlying9 (fun j hj => absurd hj (by simp))
      exact this
  · obtain ⟨g, rfl, hc, hcell⟩ := own_cell h (by omega)
    have := run_convert_runes (P := Try.prog) w 78 9 21 ⟨g, 0, none⟩ n cap (acc.map (fun y : Nat => (y : Int))) (by simp [hl]) Try.underlying78 Try.underlying21 Try.underlying9 (fun j hj => by
      have hj' : j < acc.length := by simpa using hj
      rw [Addr.add_lit, Nat.zero_add, hcell j (by omega), List.getElem?_map, List.getElem?_eq_getElem hj', List.getD_eq_getElem?_getD, List.getElem?_map, List.getElem?_eq_getElem hj']
      rfl)
    rw [List.take_of_length_le (by simp [hl]), hrb] at this
    exact this

set_option maxRecDepth 20000 in
set_option maxHeartbeats 2000000 in
theorem ikey_in (s : ByteArray) (w : World) (h : s.size ≤ 200) :
    Calls Try.prog 21 #[.string s] w fun e w' => e = .returned (.string ⟨((key (nats s)).map UInt8.ofNat).toArray⟩) ∧ Below w.heap.size w w' := by
  have hs : ¬ (200 : Int) < (s.size : Int) := by omega
  obtain ⟨i0, hi, hz0, hz1, hz2⟩ := info_parts info21
  go_enter Try.func21, Try.ntmps21
  go_wp2_with (refine wpList_make_own _ rfl (.const (.int .i64 0)) (.tmp 12) 78 rfl w.heap.size 21 i0 (.int .i32 0) 1 Try.underlying78 hi hz0 hz1 .i64 .i64 _ s.size rfl rfl rfl (by rw [hz2]; omega) (by unfold maxLen; omega) (Nat.le_refl _) ?_; intro w1 ho1 hg1)
  have hb1 : Below w.heap.size w w1 := (Below.refl _ w).grown hg1 (Nat.le_refl _) (by simp)
  obtain ⟨k, hk⟩ : ∃ k, w1.heap.size = k := ⟨_, rfl⟩
  have hkw : w.heap.size ≤ k := by have := hb1.size; omega
  have hit0 : (w1.iter s 0).heap[k]? = some (.stringIter s 0) := by rw [← hk]; exact World.iter_heap w1 s 0
  have ho0 : (w1.iter s 0).ownsRow w.heap.size 21 1 (.slice (some ⟨w.heap.size, 0, none⟩) 0 s.size) 0 [] := ho1.alloc _
  have hb0 : Below w.heap.size w (w1.iter s 0) := hb1.alloc hb1.size _
  clear ho1 hb1
  go_wp2_with fail
  rw [hk]
  go_loopw [3] (fun v wr => ∃ (pos : Nat) (acc : List Nat), pos ≤ s.size ∧ acc.length ≤ pos ∧ wr.heap[k]? = some (.stringIter s pos) ∧ wr.ownsRow w.heap.size 21 1 v acc.length (acc.map r32) ∧ Below w.heap.size w wr ∧ Hid (Small acc ∧ keyFrom acc ((nats s).drop pos) = key (nats s))) (fun _ wr => s.size - wr.iterPos k)
  case atStart => exact ⟨0, [], Nat.zero_le _, Nat.le_refl _, hit0, ho0, hb0, ⟨fun x hx => absurd hx (by simp), rfl⟩⟩
  case round =>
    clear hit0 ho0 hb0
    obtain ⟨pos, acc, hp1, hal, hit, hown, hb, H⟩ := hrel
    obtain ⟨ao, cap, rfl⟩ := own_shape hown
    by_cases hlt : pos < s.size
    · have hnx : ∀ ty, (Instr.next (.pointer (some ⟨k, 0, none⟩)) true ty).run Try.prog wr = _ := fun ty => Lib.run_next_any_at wr k s pos ty hit hlt
      have hd1 := decode_le s pos
      obtain ⟨hw1, hw2, -, hke⟩ := decode_eats s pos hlt acc
      have hown2 := own_iter (pos' := pos + (Utf8.decode s pos).2) hown hit
      have hit2 := Lib.iterAt_heap wr k s pos (pos + (Utf8.decode s pos).2) hit
      have hb2 := Lib.below_iterAt hb (k := k) hkw s (pos + (Utf8.decode s pos).2)
      have HP : Hid (wr.iterPos k = pos) := by rw [Hid]; simp [World.iterPos, hit]
      generalize (Utf8.decode s pos).1 = r at *
      generalize (Utf8.decode s pos).2 = d at *
      generalize wr.iterAt k s (pos + d) = w2 at *
      have HD : Hid (keyFrom (Nk.step acc r) ((nats s).drop (pos + d)) = key (nats s)) := by rw [Hid, ← hke]; exact H.out.2
      have HSm : Hid (Small (Nk.step acc r)) := step_small acc r H.out.1
      clear hke H hit hown hb
      have hSA := small_any r w2 hd1
      by_cases hlow : lowOf r = 0
      · have HST : Hid (Nk.step acc r = acc) := by unfold Nk.step; rw [Hid, if_pos hlow]
        rw [hlow, decide_eq_false (show ¬ (0 : Nat) ≠ 0 by omega)] at hSA
        clear hlow
        go_wp2_with fail
        refine hSA.mono ?_
        rintro e w3 ⟨rfl, hw3⟩
        have hw4 := hw3.symm
        clear hw3 hSA
        subst hw4
        go_wp2_with fail
        go_roundw
        case rel => exact ⟨pos + d, acc, hw2, by omega, hit2, hown2, hb2, by rw [← HST.out]; exact ⟨HSm.out, HD.out⟩⟩
        case measure => rw [HP.out]; simp only [World.iterPos, hit2]; omega
      · have hst : Nk.step acc r = add1 acc (lowOf r) := by unfold Nk.step; rw [if_neg hlow]
        have hyr := lowOf_range r hlow
        rw [decide_eq_true hlow] at hSA
        generalize lowOf r = y at *
        clear hlow
        cases hacc : acc with
        | nil =>
          subst hacc
          have HST : Hid (Nk.step [] r = [y]) := by rw [Hid, hst]; rfl
          clear hst
          simp only [List.length_nil, List.map_nil] at hown2 hal ⊢
          go_wp2_with fail
          refine hSA.mono ?_
          rintro e w3 ⟨rfl, hw3⟩
          have hw4 := hw3.symm
          clear hw3 hSA
          subst hw4
          go_wp2_with (first | (at_builtin; refine wpList_append_own _ rfl (.tmp 45) (.tmp 47) 78 rfl w.heap.size 21 i0 (.int .i32 0) 1 4 Try.underlying78 hi hz0 hz1 hz2 rfl (by decide) _ 0 ([]) rfl (hown2.alloc _) ⟨w2.heap.size, 0, none⟩ 1 1 [r32 y] rfl rfl (cell_one_new _ _ _) (by intro u hu; rw [List.mem_singleton.1 hu]; rfl) (by unfold maxLen; omega) (by omega) (by have := hb2.size; simp; omega) ?_; intro v5 w5 ho5 hgr hnn5) | fail)
          have hb5 := (hb2.alloc hb2.size _).grown hgr (by have := hb2.size; simp; omega) (own_lt hown2)
          have hit5 : w5.heap[k]? = some (.stringIter s (pos + d)) := by
            have hkl : k < w2.heap.size := (Array.getElem?_eq_some_iff.1 hit2).1
            rw [hgr.block k (by simp; omega) (own_ne hown2 hit2).symm]
            exact (Below.heap_alloc w2 _ k hkl).trans hit2
          go_wp2_with fail
          go_roundw
          case rel => exact ⟨pos + d, [y], hw2, by simp; omega, hit5, ho5, hb5, by rw [← HST.out]; exact ⟨HSm.out, HD.out⟩⟩
          case measure => rw [HP.out]; simp only [World.iterPos, hit5]; omega
        | cons c0 acc0 =>
          rw [← hacc]
          have hpos : 0 < acc.length := by rw [hacc]; simp
          have hne : acc ≠ [] := by rw [hacc]; simp
          clear hacc
          have hposi : ¬ (acc.length : Int) = 0 := by omega
          have hposj : ((acc.length : Int) == 0) = false := by rw [beq_eq_false_iff_ne]; exact hposi
          obtain ⟨g, rfl, hcapn, hcell⟩ := own_cell hown2 hpos
          obtain ⟨l, hl⟩ : ∃ l, acc[acc.length - 1]? = some l := ⟨_, List.getElem?_eq_getElem (by omega)⟩
          have hlast : acc.getLast? = some l := by rw [List.getLast?_eq_getElem?]; exact hl
          have hcl : w2.cell? ⟨g, acc.length - 1, none⟩ = some (.int .i32 l) := by
            rw [hcell _ (by omega), List.getElem?_map, hl]; rfl
          have hidx : (acc.length : Int) - 1 = ((acc.length - 1 : Nat) : Int) := by omega
          clear hcell hl
          generalize acc.length - 1 = q at *
          have hk1 : (q : Int) < (acc.length : Int) := by omega
          have hLF := left_any y w2
          by_cases hv : vow y = true
          · have HST : Hid (Nk.step acc r = acc) := by rw [Hid, hst]; unfold add1; rw [if_pos ⟨hne, Or.inl hv⟩]
            clear hst
            rw [hv] at hLF
            clear hv
            go_wp2_with fail
            refine hSA.mono ?_
            rintro e w3 ⟨rfl, hw3⟩
            have hw4 := hw3.symm
            clear hw3 hSA
            subst hw4
            go_wp2_with (first | (go_at_call 54; refine hLF.mono ?_; rintro e w' ⟨rfl, hw'⟩; have hw2 := hw'.symm; clear hw'; subst hw2) | fail)
            go_roundw
            case rel => exact ⟨pos + d, acc, hw2, by omega, hit2, hown2, hb2, by rw [← HST.out]; exact ⟨HSm.out, HD.out⟩⟩
            case measure => rw [HP.out]; simp only [World.iterPos, hit2]; omega
          · have hvf : vow y = false := by simpa using hv
            rw [hvf] at hLF
            by_cases hyl : y = l
            · have HST : Hid (Nk.step acc r = acc) := by rw [Hid, hst]; unfold add1; rw [if_pos ⟨hne, Or.inr (by rw [hlast, hyl])⟩]
              clear hst
              subst hyl
              go_wp2_with fail
              refine hSA.mono ?_
              rintro e w3 ⟨rfl, hw3⟩
              have hw4 := hw3.symm
              clear hw3 hSA
              subst hw4
              go_wp2_with (first | (go_at_call 54; refine hLF.mono ?_; rintro e w' ⟨rfl, hw'⟩; have hw2 := hw'.symm; clear hw'; subst hw2) | fail)
              go_roundw
              case rel => exact ⟨pos + d, acc, hw2, by omega, hit2, hown2, hb2, by rw [← HST.out]; exact ⟨HSm.out, HD.out⟩⟩
              case measure => rw [HP.out]; simp only [World.iterPos, hit2]; omega
            · have HST : Hid (Nk.step acc r = acc ++ [y]) := by
                rw [Hid, hst]; unfold add1; rw [if_neg]
                rintro ⟨_, p | p⟩
                · exact hv p
                · rw [hlast] at p; exact hyl (Option.some.inj p).symm
              clear hst
              have hyli : ((y : Int) == (l : Int)) = false := by rw [beq_eq_false_iff_ne]; omega
              go_wp2_with fail
              refine hSA.mono ?_
              rintro e w3 ⟨rfl, hw3⟩
              have hw4 := hw3.symm
              clear hw3 hSA
              subst hw4
              go_wp2_with (first | (go_at_call 54; refine hLF.mono ?_; rintro e w' ⟨rfl, hw'⟩; have hw2 := hw'.symm; clear hw'; subst hw2) | (at_builtin; refine wpList_append_own _ rfl (.tmp 45) (.tmp 47) 78 rfl w.heap.size 21 i0 (.int .i32 0) 1 4 Try.underlying78 hi hz0 hz1 hz2 rfl (by decide) _ acc.length (acc.map r32) rfl (hown2.alloc _) ⟨w2.heap.size, 0, none⟩ 1 1 [r32 y] rfl rfl (cell_one_new _ _ _) (by intro u hu; rw [List.mem_singleton.1 hu]; rfl) (by unfold maxLen; omega) (by omega) (by have := hb2.size; simp; omega) ?_; intro v5 w5 ho5 hgr hnn5) | fail)
              have hb5 := (hb2.alloc hb2.size _).grown hgr (by have := hb2.size; simp; omega) (own_lt hown2)
              have hit5 : w5.heap[k]? = some (.stringIter s (pos + d)) := by
                have hkl : k < w2.heap.size := (Array.getElem?_eq_some_iff.1 hit2).1
                rw [hgr.block k (by simp; omega) (own_ne hown2 hit2).symm]
                exact (Below.heap_alloc w2 _ k hkl).trans hit2
              go_wp2_with fail
              go_roundw
              case rel => exact ⟨pos + d, acc ++ [y], hw2, by simp; omega, hit5, by rw [List.map_append, List.length_append]; exact ho5, hb5, by rw [← HST.out]; exact ⟨HSm.out, HD.out⟩⟩
              case measure => rw [HP.out]; simp only [World.iterPos, hit5]; omega
    · have hnx : ∀ ty, (Instr.next (.pointer (some ⟨k, 0, none⟩)) true ty).run Try.prog wr = _ := fun ty => Lib.run_next_end_at wr k s pos ty hit hlt
      have HE : Hid (acc = key (nats s)) := by
        have := H.out.2
        rw [List.drop_eq_nil_of_le (by rw [nats_length]; omega)] at this
        exact this
      have hcv := conv_runes hown H.out.1
      go_wp2_with fail
      go_ret
      exact ⟨by rw [← HE.out]; rfl, hb⟩

theorem skey_any (s : ByteArray) (w : World) : Calls Try.prog 22 #[.string s] w fun e w' => e = .returned (.string (keyS s)) ∧ Below w.heap.size w w' := by
  by_cases h : s.size ≤ 200
  · have e : keyS s = ⟨((key (nats s)).map UInt8.ofNat).toArray⟩ := by unfold keyS; rw [if_pos h]
    rw [e]
    exact skey_in s w h
  · have HK : Hid (keyS s = ⟨#[]⟩) := by unfold keyS; rw [Hid, if_neg h]
    have hs : (200 : Int) < (s.size : Int) := by omega
    clear h
    go_enter Try.func22, Try.ntmps22
    go_wp2_with fail
    go_ret
    exact ⟨congrArg (fun b => Ending.returned (Value.string b)) HK.out.symm, Below.refl _ _⟩
theorem ikey_any (s : ByteArray) (w : World) : Calls Try.prog 21 #[.string s] w fun e w' => e = .returned (.string (keyS s)) ∧ Below w.heap.size w w' := by
  by_cases h : s.size ≤ 200
  · have e : keyS s = ⟨((key (nats s)).map UInt8.ofNat).toArray⟩ := by unfold keyS; rw [if_pos h]
    rw [e]
    exact ikey_in s w h
  · have HK : Hid (keyS s = ⟨#[]⟩) := by unfold keyS; rw [Hid, if_neg h]
    have hs : (200 : Int) < (s.size : Int) := by omega
    clear h
    go_enter Try.func21, Try.ntmps21
    go_wp2_with fail
    go_ret
    exact ⟨congrArg (fun b => Ending.returned (Value.string b)) HK.out.symm, Below.refl _ _⟩
end Go.Proofs.Ytdnnenklkfkhcaa
