/-
  Codes without faults are trusted: the walk of the law.
-/
import Derived.Test.YtecljmpojninfaaT21
namespace Go.Proofs.Ytecljmpojninfaa
open Go.RowKit Va Lb
set_option linter.all false

def tail6 (f : Int) : List Int := [f, 6, 0, 6, 0, 0]
theorem tr_more {l : List Int} {f : Int} (hl : l.length ≤ 1000) (h1 : 1 ≤ f) (h5 : f ≤ 5) (k : Nat) (hk : k < 6) : trusted (l ++ tail6 f) ((l.length : Int) + (k : Int)) = decide (k = 5) := by
  have hlen : (l ++ tail6 f).length = l.length + 6 := by rw [List.length_append]; rfl
  unfold trusted
  rw [if_pos ⟨by omega, by omega, by rw [hlen]; omega⟩]
  have e : ((l.length : Int) + (k : Int)).toNat + 1 = l.length + (k + 1) := by omega
  rw [e, List.take_append, List.take_of_length_le (by omega), show l.length + (k + 1) - l.length = k + 1 by omega]
  have hA : trStep (trOf l) f = (true, 0) := by unfold trStep; rw [if_pos ⟨h1, h5⟩]
  unfold trOf at hA ⊢
  rw [List.foldl_append]
  unfold tail6
  rcases (show k = 0 ∨ k = 1 ∨ k = 2 ∨ k = 3 ∨ k = 4 ∨ k = 5 by omega) with rfl | rfl | rfl | rfl | rfl | rfl
  all_goals (simp only [List.take_succ_cons, List.take_zero, List.foldl_cons, List.foldl_nil, hA]; rfl)

theorem rowI_some {w : World} {ao : Option Addr} {n cap : Nat} {l : List Int} (h : VRw 1 cvI w (.slice ao n cap) l) (hn : 0 < l.length) : ∃ b off, ao = some ⟨b, off, none⟩ ∧ b < w.heap.size ∧ ∀ (j : Nat) (u : Value), (l.map fun z => Value.int .i64 z)[j]? = some u → w.cell? ((⟨b, off, none⟩ : Addr).add j) = some u := by
  obtain ⟨x0, hx0⟩ := some_of l 0 hn
  obtain ⟨g, off, rfl, hg, -⟩ := vint_cell h hx0
  refine ⟨g, off, rfl, hg, fun j u hu => ?_⟩
  rw [List.getElem?_map] at hu
  obtain ⟨x, hx, rfl⟩ := Option.map_eq_some_iff.1 hu
  obtain ⟨g', off', he, _, hc⟩ := vint_cell h hx
  obtain ⟨rfl, rfl⟩ : g = g' ∧ off = off' := by simpa using he
  rw [Addr.add_lit]
  exact hc
theorem six_cells (w : World) (a b c d e f : Value) (t : TypeId) : ∀ (j : Nat) (u : Value), [a, b, c, d, e, f][j]? = some u → (w.alloc (.cells #[a, b, c, d, e, f] t)).cell? ((⟨w.heap.size, 0, none⟩ : Addr).add j) = some u := fun j u hu => by
  have e0 := heap_alloc_new w (Obj.cells #[a, b, c, d, e, f] t)
  rw [Addr.add_lit, Nat.zero_add]
  simp only [World.cell?, e0]
  simpa using hu
theorem ints_one (L : List Int) : ∀ u ∈ (L.map fun z => Value.int .i64 z), u.oneCell' = true := by
  intro u hu
  obtain ⟨z, -, rfl⟩ := List.mem_map.1 hu
  rfl

theorem bytes_up {w W : World} {ao : Option Addr} {bs : List Int} (h : Bytes w w.heap.size ao bs) (hb : Below w.heap.size w W) : Bytes W W.heap.size ao bs := by
  have k := h.below hb
  refine ⟨k.1, ?_⟩
  rcases k.2 with h2 | ⟨b, off, h1, h2, h4⟩
  · exact Or.inl h2
  · exact Or.inr ⟨b, off, h1, Nat.lt_of_lt_of_le h2 hb.size, h4⟩
theorem ownT_nil {w : World} {b e s n cc : Nat} {ca : Option Addr} {xs : List Value} (h : w.ownsRow b e s (.slice ca n cc) n xs) : ca = none → n = 0 ∧ cc = 0 := by
  obtain ⟨_, ⟨q1, q2⟩ | ⟨g, cap, cur, q1, _⟩⟩ := h
  · intro _
    simp only [Value.slice.injEq] at q1
    exact ⟨q1.2.1, q1.2.2⟩
  · intro e
    simp only [Value.slice.injEq] at q1
    rw [e] at q1; cases q1.1

set_option maxRecDepth 20000 in
set_option maxHeartbeats 8000000 in
theorem ftr_walk (ao : Option Addr) (cap : Nat) (bs : List Int) (w : World) (hb : Bytes w w.heap.size ao bs) :
    Calls Try.prog 4 #[.slice ao bs.length cap] w fun e w' => e = .returned (.bool true) ∧ Below w.heap.size w w' := by
  have hB := big_any ao cap bs.length
  have HBY := hidden hb
  clear hb
  by_cases hbig : (4096 : Int) < (bs.length : Int)
  · rw [decide_eq_true hbig] at hB
    go_enter Try.func4, Try.ntmps4
    go_wp2_with fail
    refine (hB _).mono ?_
    rintro e w1 ⟨rfl, rfl⟩
    go_wp2_with fail
    go_ret
    exact ⟨rfl, Below.refl _ _⟩
  rw [decide_eq_false hbig] at hB
  have hl : bs.length ≤ 4096 := by omega
  obtain ⟨i0, hi0, hy0, hy1, hy2⟩ := info_partsW infoW64
  go_enter Try.func4, Try.ntmps4
  go_wp2_with fail
  refine (hB w).mono ?_
  rintro e w1 ⟨rfl, hw1⟩
  subst hw1
  clear hB
  go_wp2_with fail
  refine (dtrusted_any ao cap bs _ HBY.out (by omega)).mono ?_
  rintro e w2 ⟨v, l, a, rfl, hrow, hll, ha0, ha1, b2⟩
  obtain ⟨ad, c, rfl⟩ := ownW_slice hrow
  have HR := hidden (vownI hrow).row
  have HOL := hidden hrow
  clear hrow
  go_wp2_with fail
  refine (itrusted_any ad l.length c l a _ HR.out (by omega)).mono ?_
  rintro e w3 ⟨rfl, hw3⟩
  have hw3' := hw3.symm
  clear hw3
  subst hw3'
  have HS := hidden (strusted_any ad l.length c l a _ HR.out (by omega))
  generalize trusted l a = t at *
  go_wp2_with fail
  refine HS.out.mono ?_
  rintro e w4 ⟨rfl, hw4⟩
  have hw4' := hw4.symm
  clear hw4 HS
  subst hw4'
  have hne : (t != t) = false := by simp
  by_cases h1k : (1000 : Int) < (l.length : Int)
  · go_wp2_with fail
    go_ret
    exact ⟨rfl, b2⟩
  have HPK := hidden (fun W (hW : Below w1.heap.size w1 W) => pick_any ao cap bs 5 W (bytes_up HBY.out hW) (by omega) (by omega) (by omega))
  have hbA : Below w4.heap.size w4 (w4.alloc (.cells #[] 2)) := (Below.refl _ _).alloc (Nat.le_refl _) _
  have HO := hidden (ownW_new w4 2 1)
  have HRA := hidden (HR.out.below hbA)
  have HB1 := hidden (onto b2 hbA)
  have z0 := b2.size
  clear hbA b2
  generalize hwA : w4.alloc (.cells #[] 2) = wA at *
  have zA : w4.heap.size ≤ wA.heap.size := by rw [← hwA]; simp
  have hlen0 : l.length ≤ 1000 := by omega
  have HRN := hidden (ownT_nil HOL.out)
  have hm1 : Below wA.heap.size wA wA := Below.refl _ _
  have STEP : Hid (∀ (ad5 : Option Addr) (c5 : Nat) (w5 : World), w5.ownsRow w4.heap.size 2 1 (.slice ad5 l.length c5) l.length (l.map fun z => Value.int .i64 z) → wA.grownBy w5 (some w4.heap.size) → Below w1.heap.size w1 w5 ∧ w4.heap.size ≤ w5.heap.size) := by
    intro ad5 c5 w5 ho5 hg5
    exact ⟨HB1.out.grown hg5 HB1.out.size (fun k hk => by have := Option.some.inj hk; omega), Nat.le_trans zA hg5.size⟩
  have SIX : Hid (∀ (f : Int) (w5 w7 : World) (ad5 : Option Addr) (c5 : Nat) (v7 : Value), Below w1.heap.size w1 w5 → w5.ownsRow w4.heap.size 2 1 (.slice ad5 l.length c5) l.length (l.map fun z => Value.int .i64 z) → (w5.alloc (.cells #[.int .i64 f, .int .i64 6, .int .i64 0, .int .i64 6, .int .i64 0, .int .i64 0] 2)).grownBy w7 (Value.slice ad5 l.length c5).ownBlock → w7.ownsRow w4.heap.size 2 1 v7 (l.length + 6) ((l.map fun z => Value.int .i64 z) ++ [.int .i64 f, .int .i64 6, .int .i64 0, .int .i64 6, .int .i64 0, .int .i64 0]) → Below w1.heap.size w1 w7 ∧ VRw 1 cvI w7 v7 (l ++ tail6 f)) := by
    intro f w5 w7 ad5 c5 v7 b5 ho5 hg7 ho7
    refine ⟨(b5.alloc b5.size _).grown hg7 (by have := b5.size; simp; omega) (fun k hk => by have := (ownW_lt ho5 k hk).1; omega), (vownI (base := w4.heap.size) (L := l ++ tail6 f) ?_).row⟩
    rw [List.length_append, List.map_append]
    exact ho7
  clear HR HOL
  by_cases hl0 : l.length = 0
  · have HL0 := hidden hl0
    clear HRA hl0
    go_wp2_with (first | (at_builtin; refine wpList_append_fits_any _ rfl (.tmp 29) (.tmp 30) 24 rfl w4.heap.size 2 i0 1 Try.underlying24 hi0 hy1 w4.heap.size 0 0 [] rfl HO.out ad l.length c [] rfl (by rw [HL0.out]; rfl) HRN.out (fun ad _ j u hu => by cases hu) (fun u hu => by cases hu) (by rw [HL0.out]; exact Nat.le_refl _) ?_; intro w5 ho5 hg5; have hol : w5.ownsRow w4.heap.size 2 1 (.slice (some ⟨w4.heap.size, 0, none⟩) l.length 0) l.length (l.map fun z => Value.int .i64 z) := (by simp only [Nat.zero_add, List.nil_append] at ho5; rw [List.length_eq_zero_iff.1 HL0.out] at ho5 ⊢; exact ho5); have HO5 := hidden hol; have S5 := STEP.out _ _ _ hol hg5; have B5 := hidden S5.1; have z5 := S5.2; clear S5 hol ho5 hg5) | (go_at_call 17; refine (HPK.out _ B5.out).mono ?_; rintro e w6 ⟨⟨f, rfl, hf5⟩, hw6⟩; obtain rfl := hw6; have H6 := hidden (ownW_below HO5.out ((Below.refl _ _).alloc (Nat.le_refl _) (.cells #[.int .i64 (1 + (f : Int)), .int .i64 6, .int .i64 0, .int .i64 6, .int .i64 0, .int .i64 0] 2)))) | (at_builtin; refine wpList_append_own _ rfl (.tmp 31) (.tmp 35) 24 rfl w4.heap.size 2 i0 (.int .i64 0) 1 8 Try.underlying24 hi0 hy0 hy1 hy2 rfl (by decide) _ l.length (l.map fun z => Value.int .i64 z) rfl H6.out ⟨w6.heap.size, 0, none⟩ 6 6 [.int .i64 (1 + (f : Int)), .int .i64 6, .int .i64 0, .int .i64 6, .int .i64 0, .int .i64 0] rfl rfl (six_cells _ _ _ _ _ _ _ _) (by simp [Value.oneCell']) (by unfold maxLen; omega) (by omega) (by simp; omega) ?_; intro v7 w7 ho7 hg7 hn7; obtain ⟨ad7, c7, rfl⟩ := ownW_slice ho7; have S7 := SIX.out _ _ _ _ _ _ B5.out HO5.out hg7 ho7; have HV := hidden S7.2; have HB7 := hidden S7.1; clear S7 ho7 hg7 hn7 H6))
    go_loopw [8] (fun kv wr => ∃ k : Nat, k ≤ 6 ∧ kv = .int .i64 k ∧ wr = w7) (fun kv _ => 6 - (intOf kv).toNat)
    case atStart => exact ⟨0, by omega, rfl, rfl⟩
    case round =>
      obtain ⟨k, hk, rfl, hwr⟩ := hrel
      have hwr' := hwr.symm
      clear hwr
      subst hwr'
      by_cases hk6 : k < 6
      · have hk6' : (k : Int) < 6 := by omega
        have hc := itrusted_any ad7 (l.length + 6) c7 (l ++ tail6 (1 + (f : Int))) ((l.length : Int) + (k : Int)) w7 (by have := HV.out; exact this) (by rw [List.length_append]; show l.length + 6 ≤ _; omega)
        rw [tr_more hlen0 (by omega) (by omega) k hk6] at hc
        by_cases h5 : k = 5
        · subst h5
          go_wp2_with (go_at_call 15; refine hc.mono ?_; rintro e w9 ⟨rfl, hw9⟩; have hw9' := hw9.symm; clear hw9; subst hw9')
          go_roundw
          case rel => exact ⟨6, by omega, rfl, by simp⟩
          case measure => simp [intOf]
        · rw [decide_eq_false h5] at hc
          have h5' : ((k : Int) == 5) = false := by rw [beq_eq_false_iff_ne]; omega
          go_wp2_with (go_at_call 15; refine hc.mono ?_; rintro e w9 ⟨rfl, hw9⟩; have hw9' := hw9.symm; clear hw9; subst hw9')
          go_roundw
          case rel => exact ⟨k + 1, by omega, rfl, by simp⟩
          case measure => simp [intOf]; omega
      · have hk6' : ¬ (k : Int) < 6 := by omega
        go_wp2_with fail
        go_ret
        exact ⟨rfl, HB7.out⟩
  · obtain ⟨b, off, rfl, hbl, hcl⟩ := rowI_some HRA.out (by omega)
    have HCL := hidden hcl
    clear hcl HRN
    go_wp2_with (first | (at_builtin; refine wpList_append_own _ rfl (.tmp 29) (.tmp 30) 24 rfl w4.heap.size 2 i0 (.int .i64 0) 1 8 Try.underlying24 hi0 hy0 hy1 hy2 rfl (by decide) _ 0 [] rfl HO.out ⟨b, off, none⟩ l.length c (l.map fun z => Value.int .i64 z) rfl (by simp) HCL.out (ints_one _) (by unfold maxLen; omega) (by omega) zA ?_; intro v5 w5 ho5 hg5 hn5; obtain ⟨ad5, c5, rfl⟩ := ownW_slice ho5; have hol : w5.ownsRow w4.heap.size 2 1 (.slice ad5 l.length c5) l.length (l.map fun z => Value.int .i64 z) := (by simp only [Nat.zero_add, List.nil_append] at ho5; exact ho5); simp only [Nat.zero_add]; have HO5 := hidden hol; have S5 := STEP.out _ _ _ hol hg5; have B5 := hidden S5.1; have z5 := S5.2; clear S5 hol ho5 hg5 hn5) | (go_at_call 17; refine (HPK.out _ B5.out).mono ?_; rintro e w6 ⟨⟨f, rfl, hf5⟩, hw6⟩; obtain rfl := hw6; have H6 := hidden (ownW_below HO5.out ((Below.refl _ _).alloc (Nat.le_refl _) (.cells #[.int .i64 (1 + (f : Int)), .int .i64 6, .int .i64 0, .int .i64 6, .int .i64 0, .int .i64 0] 2)))) | (at_builtin; refine wpList_append_own _ rfl (.tmp 31) (.tmp 35) 24 rfl w4.heap.size 2 i0 (.int .i64 0) 1 8 Try.underlying24 hi0 hy0 hy1 hy2 rfl (by decide) _ l.length (l.map fun z => Value.int .i64 z) rfl H6.out ⟨w6.heap.size, 0, none⟩ 6 6 [.int .i64 (1 + (f : Int)), .int .i64 6, .int .i64 0, .int .i64 6, .int .i64 0, .int .i64 0] rfl rfl (six_cells _ _ _ _ _ _ _ _) (by simp [Value.oneCell']) (by unfold maxLen; omega) (by omega) (by simp; omega) ?_; intro v7 w7 ho7 hg7 hn7; obtain ⟨ad7, c7, rfl⟩ := ownW_slice ho7; have S7 := SIX.out _ _ _ _ _ _ B5.out HO5.out hg7 ho7; have HV := hidden S7.2; have HB7 := hidden S7.1; clear S7 ho7 hg7 hn7 H6))
    go_loopw [8] (fun kv wr => ∃ k : Nat, k ≤ 6 ∧ kv = .int .i64 k ∧ wr = w7) (fun kv _ => 6 - (intOf kv).toNat)
    case atStart => exact ⟨0, by omega, rfl, rfl⟩
    case round =>
      obtain ⟨k, hk, rfl, hwr⟩ := hrel
      have hwr' := hwr.symm
      clear hwr
      subst hwr'
      by_cases hk6 : k < 6
      · have hk6' : (k : Int) < 6 := by omega
        have hc := itrusted_any ad7 (l.length + 6) c7 (l ++ tail6 (1 + (f : Int))) ((l.length : Int) + (k : Int)) w7 (by have := HV.out; exact this) (by rw [List.length_append]; show l.length + 6 ≤ _; omega)
        rw [tr_more hlen0 (by omega) (by omega) k hk6] at hc
        by_cases h5 : k = 5
        · subst h5
          go_wp2_with (go_at_call 15; refine hc.mono ?_; rintro e w9 ⟨rfl, hw9⟩; have hw9' := hw9.symm; clear hw9; subst hw9')
          go_roundw
          case rel => exact ⟨6, by omega, rfl, by simp⟩
          case measure => simp [intOf]
        · rw [decide_eq_false h5] at hc
          have h5' : ((k : Int) == 5) = false := by rw [beq_eq_false_iff_ne]; omega
          go_wp2_with (go_at_call 15; refine hc.mono ?_; rintro e w9 ⟨rfl, hw9⟩; have hw9' := hw9.symm; clear hw9; subst hw9')
          go_roundw
          case rel => exact ⟨k + 1, by omega, rfl, by simp⟩
          case measure => simp [intOf]; omega
      · have hk6' : ¬ (k : Int) < 6 := by omega
        go_wp2_with fail
        go_ret
        exact ⟨rfl, HB7.out⟩
end Go.Proofs.Ytecljmpojninfaa
