/-
  ReadNumber, the program's: the number of which this is the text.
-/
import Derived.Test.YtdnnenklkfkhcaaDoorMn
import Derived.Lib.SmallJoins
import Derived.Lib.Strings
namespace Go.Proofs.YtdnnenklkfkhcaaDoor
open Go.RowKit Nb

theorem mkL_head (k : Nat) : ∃ r, mkL k = [77, 82, 78] ++ r ∧ r.length = 11 ∧ r.take 9 = pad 9 k := by
  refine ⟨pad 9 k ++ [45] ++ [ch (chk k).toNat], by simp [mkL], by simp [pad_length], ?_⟩
  rw [List.append_assoc, List.take_append_of_le_length (by rw [pad_length]; omega), List.take_of_length_le (by rw [pad_length]; omega)]
theorem rd_none (T : List UInt8) (h : ∀ k, k < 1000000000 → mkL k ≠ T) : rdOk T 0 false := ⟨fun q => (by cases q), fun _ => ⟨rfl, h⟩⟩
theorem rd_some (T : List UInt8) (k : Nat) (hk : k < 1000000000) (h : mkL k = T) : rdOk T k true := ⟨fun _ => ⟨hk, h⟩, fun q => (by cases q)⟩

/-- No text of a number, where its head is another. -/
theorem no_head (T : List UInt8) (h : Lib.hasPrefix T [77, 82, 78] = false) (k : Nat) : mkL k ≠ T := by
  intro e
  obtain ⟨r, hr, _, _⟩ := mkL_head k
  rw [← e, hr] at h
  simp [Lib.hasPrefix] at h
theorem split_head (T : List UInt8) (h : Lib.hasPrefix T [77, 82, 78] = true) : ∃ R, T = [77, 82, 78] ++ R ∧ Lib.trimPrefix T [77, 82, 78] = R := by
  have h' := h
  unfold Lib.hasPrefix at h'
  obtain ⟨R, hR⟩ := List.isPrefixOf_iff_prefix.1 h'
  refine ⟨R, hR.symm, ?_⟩
  unfold Lib.trimPrefix
  rw [if_pos h, ← hR]
  simp
theorem no_parse (R : List UInt8) (h : ∀ k : Nat, k < 1000000000 → Lib.parseIntB 64 (R.take 9) = .ok (k : Int) → mkL k ≠ [77, 82, 78] ++ R) (k : Nat) (hk : k < 1000000000) : mkL k ≠ [77, 82, 78] ++ R := by
  intro e
  obtain ⟨r, hr, hl, ht⟩ := mkL_head k
  rw [hr] at e
  have e2 : r = R := by simpa using e
  rw [← e2] at h
  refine h k hk ?_ hr
  rw [ht]
  exact parse9 k hk

set_option maxHeartbeats 1000000 in
theorem ird_any (t : ByteArray) (w : World) (ht : t.size ≤ 1048576) (htab : Lib.TabIs Tryd.prog w "internal/strconv.uint64pow10" .u64 Lib.pow10Tab)
    (tp1 : TypeId) (p1 : Value) (hsyn : w.var? Tryd.prog "strconv.ErrSyntax" = some #[.iface tp1 p1]) (tp2 : TypeId) (p2 : Value) (hrng : w.var? Tryd.prog "strconv.ErrRange" = some #[.iface tp2 p2]) :
    Calls Tryd.prog 7 #[.string t] w fun e w' => ∃ (n : Nat) (ok : Bool), e = .returned (.tuple #[.int .i64 n, .bool ok]) ∧ rdOk t.data.toList n ok ∧ Below w.heap.size w w' := by
  have hcut := Tryd.strings_CutPrefix t ⟨#[77, 82, 78]⟩ w
  rw [show (⟨#[77, 82, 78]⟩ : ByteArray).data.toList = [77, 82, 78] from rfl] at hcut
  cases hP : Lib.hasPrefix t.data.toList [77, 82, 78] with
  | false =>
    have HN : Hid (rdOk t.data.toList 0 false) := rd_none _ (fun k _ => no_head _ hP k)
    rw [hP] at hcut
    clear hP htab hsyn hrng
    go_enter Tryd.func7, Tryd.ntmps7
    go_wp2_with fail
    refine hcut.mono ?_
    rintro e w1 ⟨rfl, hw1⟩
    have hw1' := hw1.symm
    clear hw1 hcut
    subst hw1'
    go_wp2
    exact bodyPost_ret (v := .tuple #[.int .i64 0, .bool false]) (by simp [results, Tryd.results7, go_sem]) rfl ⟨0, false, rfl, HN.out, Below.refl _ _⟩
  | true =>
    obtain ⟨R, hR, hT⟩ := split_head _ hP
    rw [hP, hT] at hcut
    by_cases hlt : R.length < 9
    · have hlti : (R.length : Int) < 9 := by omega
      have HN : Hid (rdOk t.data.toList 0 false) := rd_none _ (fun k _ e => by
        obtain ⟨r, hr, hl, _⟩ := mkL_head k
        rw [hR, hr] at e
        have e2 : r = R := by simpa using e
        rw [e2] at hl; omega)
      clear hP htab hsyn hrng hT hR
      go_enter Tryd.func7, Tryd.ntmps7
      go_wp2_with fail
      refine hcut.mono ?_
      rintro e w1 ⟨rfl, hw1⟩
      have hw1' := hw1.symm
      clear hw1 hcut
      subst hw1'
      go_wp2
      exact bodyPost_ret (v := .tuple #[.int .i64 0, .bool false]) (by simp [results, Tryd.results7, go_sem]) rfl ⟨0, false, rfl, HN.out, Below.refl _ _⟩
    · have hlti : ¬ (R.length : Int) < 9 := by omega
      clear hP hT
      obtain ⟨S, hS⟩ : ∃ S, (⟨R.toArray⟩ : ByteArray).extract 0 9 = S := ⟨_, rfl⟩
      have hSl : S.data.toList = R.take 9 := by rw [← hS]; simp [ByteArray.data_extract]
      have hSz : S.size ≤ 9 := by
        have : S.data.toList.length ≤ 9 := by rw [hSl, List.length_take]; omega
        rw [Array.length_toList] at this; exact this
      have hsize : 12 ≤ t.size := by
        have : t.data.toList.length = 3 + R.length := by rw [hR]; simp; omega
        rw [Array.length_toList] at this
        have e : t.size = t.data.size := rfl
        omega
      have HS : Hid ((⟨R.toArray⟩ : ByteArray).extract 0 9 = S) := hS
      clear hS
      have hR2 : Hid (t.data.toList = [77, 82, 78] ++ R) := hR
      clear hR
      cases hp : Lib.parseIntB 64 (R.take 9) with
      | ok v =>
        have hPI := fun w => Tryd.strconv_ParseInt_10_at64_ok S (by omega) v (by rw [hSl]; exact hp) w
        by_cases hm : mkS v = t
        · have hv : 0 ≤ v ∧ v ≤ 999999999 := by
            rcases Classical.em (0 ≤ v ∧ v ≤ 999999999) with h | h
            · exact h
            · unfold mkS at hm
              rw [if_neg h] at hm
              rw [← hm] at hsize
              exact absurd hsize (by decide)
          have HN : Hid (rdOk t.data.toList v.toNat true) := rd_some _ _ (by omega) (by
            rw [← hm]; unfold mkS; rw [if_pos hv])
          have hvn : ((v.toNat : Nat) : Int) = v := by omega
          have HM : Hid (mkS v = t) := hm
          clear hm hp hsyn hrng hSl
          go_enter Tryd.func7, Tryd.ntmps7
          go_wp2_with fail
          refine hcut.mono ?_
          rintro e w1 ⟨rfl, hw1⟩
          have hw1' := hw1.symm
          clear hw1 hcut
          subst hw1'
          go_wp2_with fail
          rw [HS.out]
          refine (hPI _).mono ?_
          rintro e w2 ⟨rfl, hw2⟩
          have b2 : Below w.heap.size w w2 := by
            rcases hw2 with rfl | ⟨q, rfl⟩
            · exact Below.refl _ _
            · exact Lib.bytesWorld_below ..
          have ht2 := Go.Joins.var_stays (P := Tryd.prog) (g := 0) (by kernel_rfl) htab b2 (Nat.le_refl _)
          clear hw2 htab hPI
          go_wp2_with fail
          refine (imk_any v _ ht2).mono ?_
          rintro e w3 ⟨rfl, hb3⟩
          have b3 := onto b2 hb3
          rw [HM.out]
          clear hb3 b2 ht2
          go_wp2
          exact bodyPost_ret (v := .tuple #[.int .i64 v, .bool true]) (by simp [results, Tryd.results7, go_sem]) rfl ⟨v.toNat, true, by rw [hvn], HN.out, b3⟩
        · have HN : Hid (rdOk t.data.toList 0 false) := rd_none _ (fun k hk => by
            rw [hR2.out]
            refine no_parse R (fun j hjr hj => ?_) k hk
            rw [hp] at hj
            have hj' : v = (j : Int) := by injection hj
            intro e
            refine hm ?_
            rw [hj']
            unfold mkS
            rw [if_pos (by omega), Int.toNat_natCast, e, ← hR2.out])
          have hMK := fun w ht => imk_any v w ht
          have HM : Hid (¬ mkS v = t) := hm
          have hm2 : ((mkS v).toList == t.toList) = false := by
            rw [beq_eq_false_iff_ne]
            intro e
            rw [ByteArray.toList_eq, ByteArray.toList_eq] at e
            exact hm (ByteArray.ext (Array.toList_inj.1 e))
          clear hp hsyn hrng hSl
          generalize mkS v = M at *
          go_enter Tryd.func7, Tryd.ntmps7
          go_wp2_with fail
          refine hcut.mono ?_
          rintro e w1 ⟨rfl, hw1⟩
          have hw1' := hw1.symm
          clear hw1 hcut
          subst hw1'
          go_wp2_with fail
          rw [HS.out]
          refine (hPI _).mono ?_
          rintro e w2 ⟨rfl, hw2⟩
          have b2 : Below w.heap.size w w2 := by
            rcases hw2 with rfl | ⟨q, rfl⟩
            · exact Below.refl _ _
            · exact Lib.bytesWorld_below ..
          have ht2 := Go.Joins.var_stays (P := Tryd.prog) (g := 0) (by kernel_rfl) htab b2 (Nat.le_refl _)
          clear hw2 htab hPI
          go_wp2_with fail
          refine (hMK _ ht2).mono ?_
          rintro e w3 ⟨rfl, hb3⟩
          have b3 := onto b2 hb3
          clear hb3 b2 ht2
          go_wp2
          exact bodyPost_ret (v := .tuple #[.int .i64 0, .bool false]) (by simp [results, Tryd.results7, go_sem]) rfl ⟨0, false, rfl, HN.out, b3⟩
      | «syntax» =>
        have HN : Hid (rdOk t.data.toList 0 false) := rd_none _ (fun k hk => by
          rw [hR2.out]
          refine no_parse R (fun j hjr hj => ?_) k hk
          rw [hp] at hj
          exact absurd hj (by simp))
        have hPI := fun hv => Tryd.strconv_ParseInt_10_at64_syntax_var S (by omega) (by rw [hSl]; exact hp) tp1 p1 w hv
        have hPI := hPI hsyn
        clear hp hsyn hrng hSl htab
        go_enter Tryd.func7, Tryd.ntmps7
        go_wp2_with fail
        refine hcut.mono ?_
        rintro e w1 ⟨rfl, hw1⟩
        have hw1' := hw1.symm
        clear hw1 hcut
        subst hw1'
        go_wp2_with fail
        rw [HS.out]
        refine hPI.mono ?_
        rintro e w2 ⟨N, rfl, _, _, b2⟩
        go_wp2
        exact bodyPost_ret (v := .tuple #[.int .i64 0, .bool false]) (by simp [results, Tryd.results7, go_sem]) rfl ⟨0, false, rfl, HN.out, b2⟩
      | range =>
        have HN : Hid (rdOk t.data.toList 0 false) := rd_none _ (fun k hk => by
          rw [hR2.out]
          refine no_parse R (fun j hjr hj => ?_) k hk
          rw [hp] at hj
          exact absurd hj (by simp))
        have hPI := Tryd.strconv_ParseInt_10_at64_range_var S (by omega) (by rw [hSl]; exact hp) tp2 p2 w hrng
        clear hp hsyn hrng hSl htab
        go_enter Tryd.func7, Tryd.ntmps7
        go_wp2_with fail
        refine hcut.mono ?_
        rintro e w1 ⟨rfl, hw1⟩
        have hw1' := hw1.symm
        clear hw1 hcut
        subst hw1'
        go_wp2_with fail
        rw [HS.out]
        refine hPI.mono ?_
        rintro e w2 ⟨N, rfl, _, _, b2⟩
        go_wp2
        exact bodyPost_ret (v := .tuple #[.int .i64 0, .bool false]) (by simp [results, Tryd.results7, go_sem]) rfl ⟨0, false, rfl, HN.out, b2⟩
end Go.Proofs.YtdnnenklkfkhcaaDoor
