/-
  A trial and a number, drawn of bytes; each whole block has each arm as often: the walk of the law.
-/
import Derived.Test.YtoehnlbkgpjhmaaTr27
import Derived.Test.YtoehnlbkgpjhmaaTr9
import Derived.Test.YtoehnlbkgpjhmaaTr20
namespace Go.Proofs.Ytoehnlbkgpjhmaa
open Go.RowKit Go.WideShapes Va Lb Tr Go.Maps
set_option linter.all false

theorem bytes_up {w W : World} {ao : Option Addr} {bs : List Int} (h : Bytes w w.heap.size ao bs) (hb : Below w.heap.size w W) : Bytes W W.heap.size ao bs := by
  have k := h.below hb
  refine ⟨k.1, ?_⟩
  rcases k.2 with h2 | ⟨b, off, h1, h2, h4⟩
  · exact Or.inl h2
  · exact Or.inr ⟨b, off, h1, Nat.lt_of_lt_of_le h2 hb.size, h4⟩

/-- How often each arm stands among the first i. -/
def cnt (A : Nat) (L : List Int) (i : Nat) : List Int := (List.range A).map fun (a : Nat) => (((L.take i).count (a : Int) : Nat) : Int)
theorem cnt_len (A : Nat) (L : List Int) (i : Nat) : (cnt A L i).length = A := by simp [cnt]
theorem cnt_zero (A : Nat) (L : List Int) : cnt A L 0 = List.replicate A 0 := by
  apply List.ext_getElem?
  intro i
  simp only [cnt, List.getElem?_map, List.getElem?_replicate]
  by_cases h : i < A
  · simp [h]
  · simp [h]
theorem cnt_get {A : Nat} {L : List Int} {i a : Nat} (h : a < A) : (cnt A L i)[a]? = some (((L.take i).count (a : Int) : Nat) : Int) := by simp [cnt, h]
theorem cnt_succ {A : Nat} {L : List Int} {i a : Nat} (hL : L[i]? = some (a : Int)) (ha : a < A) {c : Int} (hc : (cnt A L i)[a]? = some c) : cnt A L (i + 1) = (cnt A L i).set a (c + 1) := by
  rw [cnt_get ha] at hc
  apply List.ext_getElem?
  intro j
  by_cases h : j < A
  · rw [cnt_get h, List.take_add_one, hL, List.count_append]
    by_cases q : j = a
    · subst q
      rw [List.getElem?_set_self (by rw [cnt_len]; exact h)]
      simp only [Option.some.injEq] at hc ⊢
      simp
      omega
    · rw [List.getElem?_set_ne (fun e => q e.symm), cnt_get h]
      have : ¬ (a : Int) = (j : Int) := by omega
      simp [this]
  · rw [List.getElem?_eq_none (by rw [cnt_len]; omega), List.getElem?_eq_none (by rw [List.length_set, cnt_len]; omega)]
theorem cnt_rng {A : Nat} {L : List Int} {i a : Nat} {c : Int} (hc : (cnt A L i)[a]? = some c) : 0 ≤ c ∧ c ≤ i := by
  have ha : a < A := by have := get_ltR hc; rwa [cnt_len] at this
  rw [cnt_get ha] at hc
  have h1 := List.count_le_length (a := (a : Int)) (l := L.take i)
  have h2 := List.length_take_le i L
  simp at hc
  omega

set_option maxRecDepth 20000 in
set_option maxHeartbeats 8000000 in
theorem dalloc_any (ao : Option Addr) (cap : Nat) (bs : List Int) (w : World) (hb : Bytes w w.heap.size ao bs) (hl : bs.length ≤ 1048576) :
    Calls Try.prog 10 #[.slice ao bs.length cap] w fun e w' => ∃ (x : Tl) (ad : Option Addr) (c : Nat) (i : Int), e = .returned (.tuple #[aT x (.slice ad x.coins.length c), .int .i64 i]) ∧ x.coins.length ≤ 20 ∧ VRw 1 cvI w' (.slice ad x.coins.length c) x.coins ∧ Below w.heap.size w w' := by
  have PR := hidden (PB.new w #[.int .i64 0, .int .i64 0, .slice none 0 0, .int .i64 0] 26)
  have hbA : Below w.heap.size w (w.alloc (.cells #[.int .i64 0, .int .i64 0, .slice none 0 0, .int .i64 0] 26)) := (Below.refl _ _).alloc (Nat.le_refl _) _
  have hsA : w.heap.size < (w.alloc (.cells #[.int .i64 0, .int .i64 0, .slice none 0 0, .int .i64 0] 26)).heap.size := by simp
  have hN := hidden (new_any ao cap bs _ (bytes_up hb hbA) hl)
  clear hb
  go_enter Try.func10, Try.ntmps10
  go_upto_region 1 with fail
  generalize w.alloc (.cells #[.int .i64 0, .int .i64 0, .slice none 0 0, .int .i64 0] 26) = wA at *
  go_wp2_with fail
  refine hN.out.mono ?_
  rintro e wN ⟨rfl, hcN, hbN⟩
  have HBN := hidden (hbA.trans (hbN.mono hbA.size))
  have PRN := hidden (PR.out.below hbN)
  clear hbN hN PR
  generalize hG : wA.heap.size = g at *
  go_wp2_with fail
  refine (below_any g ao cap bs 80 _ hcN (by omega)).mono ?_
  rintro e w1 ⟨y1, rfl, p1, q1, hc1, hk1⟩
  go_upto_if 11 with (go_at_call 38; refine (once_any g ao cap bs 14 _ hc1 (by omega)).mono ?_; rintro e w2 ⟨t2, rfl, hc2, hk2⟩)
  have HK2 := hidden (hk1.trans hk2)
  clear hk1 hk2 hc1 hcN
  go_cut [5] (fun iv wx => ∃ z : Int, iv = .int .i64 z ∧ Cur wx g ao cap bs ∧ Keep g wN wx)
  case first =>
    rcases t2 with _ | _
    · go_wp2_with fail
      go_meet
      case rel => exact ⟨_, rfl, hc2, HK2.out⟩
    · have hgr := hc2.1
      have hcT : Cur (w2.alloc (.cells #[.int .i64 (-1), .int .i64 999, .int .i64 1000] 2)) g ao cap bs := hc2.below ((Below.refl _ _).alloc hc2.1 _)
      go_wp2_with fail
      refine (below_any g ao cap bs 3 _ hcT (by omega)).mono ?_
      rintro e w3 ⟨y3, rfl, p3, q3, hc3, hk3⟩
      obtain ⟨k3, rfl⟩ := Int.eq_ofNat_of_zero_le p3
      obtain ⟨z3, hz3⟩ := tab_at [-1, 999, 1000] w2 w3 g 2 hk3 hgr k3 (by simp; omega)
      have HK3 := hidden (HK2.out.trans (((Keep.refl g w2).alloc _).trans hk3))
      clear hk3 hcT
      go_wp2_with fail
      go_meet
      case rel => exact ⟨z3, rfl, hc3, HK3.out⟩
  case rest =>
    clear HK2 hc2
    obtain ⟨z, rfl, hcc, hkc⟩ := hcut
    have HKC := hidden hkc
    have hwc : w.heap.size < wc.heap.size := Nat.lt_of_lt_of_le PRN.out.lt hkc.size
    clear hkc
    go_wp2_with (go_at_call 39; refine (dtrial_any g ao cap bs _ hcc).mono ?_; rintro e w4 ⟨x, ad, c, rfl, hx20, hrow, hc4, hk4⟩; have HK4 := hidden (HKC.out.trans hk4); have HR := hidden hrow; have hp : PB w4 w.heap.size #[.int .i64 0, .int .i64 0, .slice none 0 0, .int .i64 0] 26 := (HK4.out.block w.heap.size PRN.out.lt (by omega)).trans PRN.out; have HP := hidden hp; obtain ⟨r0, r1, r2, r3⟩ := hp.four; obtain ⟨f0, f1, f2, f3, -⟩ := hp.cold; unfold aT; clear hrow hk4 hp)
    obtain ⟨s0, s1, s2, s3⟩ := (HP.out.fill4 (.int .i64 x.arms) (.int .i64 x.block) (.slice ad x.coins.length c) (.int .i64 x.told)).four
    have hB4 : Below w.heap.size w w4 := HBN.out.trans (HK4.out.below (by omega) (by have := PRN.out.lt; omega))
    have b4 := (((hB4.setCell (p := ⟨w.heap.size, 0, none⟩) (Nat.le_refl _) (.int .i64 x.arms)).setCell (p := ⟨w.heap.size, 1, none⟩) (Nat.le_refl _) (.int .i64 x.block)).setCell (p := ⟨w.heap.size, 2, none⟩) (Nat.le_refl _) (.slice ad x.coins.length c)).setCell (p := ⟨w.heap.size, 3, none⟩) (Nat.le_refl _) (.int .i64 x.told)
    have o4 := own_farT (own_farT (own_farT (own_farT HR.out (b := w.heap.size) (by omega) 0 (.int .i64 x.arms)) (b := w.heap.size) (by omega) 1 (.int .i64 x.block)) (b := w.heap.size) (by omega) 2 (.slice ad x.coins.length c)) (b := w.heap.size) (by omega) 3 (.int .i64 x.told)
    have HO4 := hidden o4.row
    clear o4
    exact bodyPost_ret (v := .tuple #[.agg #[.int .i64 x.arms, .int .i64 x.block, .slice ad x.coins.length c, .int .i64 x.told], .int .i64 z]) (by simp [results, Try.results10, go_sem, s0, s1, s2, s3]) rfl ⟨x, ad, c, z, rfl, hx20, HO4.out, b4⟩
end Go.Proofs.Ytoehnlbkgpjhmaa
