/-
  A house, a sex and a need drawn of bytes.
-/
import Derived.Test.YtklgadaefngnnaaYn
namespace Go.Proofs.Ytklgadaefngnnaa
open Go.RowKit Hm
set_option linter.all false

theorem bytes_upY {w w' : World} {ao : Option Addr} {bs : List Int} (h : Bytes w w.heap.size ao bs) (hb : Below w.heap.size w w') : Bytes w' w'.heap.size ao bs := by
  have h2 := h.below hb
  have hs := hb.size
  refine ⟨h2.1, ?_⟩
  rcases h2.2 with q | ⟨b, o, e, hl, hc⟩
  · exact Or.inl q
  · exact Or.inr ⟨b, o, e, by omega, hc⟩
/-- A house in a box X beside a cursor at g, a box R for what is told. -/
structure DF (w W : World) (g : Nat) (ao : Option Addr) (cap : Nat) (bs : List Int) (R X base : Nat) (vb vs : Value) (B : List Bd) (S : List St) : Prop where
  cur : Cur W g ao cap bs
  bel : Below w.heap.size w W
  r : W.heap[R]? = some (.cells #[.slice none 0 0, .slice none 0 0] 27 (0, 0))
  x : W.heap[X]? = some (.cells #[vb, vs] 27 (0, 0))
  own : HNew W base vb vs B S
  lt : w.heap.size ≤ g ∧ g < base ∧ R ≠ g ∧ X ≠ g ∧ w.heap.size ≤ R ∧ X ≠ R
theorem DF.call {w W W' : World} {g cap R X base : Nat} {ao : Option Addr} {bs : List Int} {vb vs : Value} {B : List Bd} {S : List St} (h : DF w W g ao cap bs R X base vb vs B S) (hc : Cur W' g ao cap bs) (hk : Keep g W W') : DF w W' g ao cap bs R X base vb vs B S := by
  obtain ⟨l1, l2, l3, l4, l5, l6⟩ := h.lt
  exact ⟨hc, h.bel.trans (hk.below l1 h.bel.size), (hk.block R (Array.getElem?_eq_some_iff.1 h.r).1 l3).trans h.r, (hk.block X (Array.getElem?_eq_some_iff.1 h.x).1 l4).trans h.x, ⟨own_keepG h.own.1 hk l2, own_keepG h.own.2 hk l2⟩, h.lt⟩

set_option maxRecDepth 20000 in
set_option maxHeartbeats 8000000 in
theorem dbf_any (ao : Option Addr) (cap : Nat) (bs : List Int) (w : World) (hb : Bytes w w.heap.size ao bs) (hl : bs.length ≤ 1048576) :
    Calls Try.prog 15 #[.slice ao bs.length cap] w fun e w' => ∃ vb vs B S sex need, e = .returned (.tuple #[.agg #[vb, vs], .int .i64 sex, .int .i64 need]) ∧ HRw w' vb vs B S ∧ B.length = 7 ∧ S.length ≤ 1001 ∧ F700 S ∧ Below w.heap.size w w' := by
  have bA : Below w.heap.size w (w.alloc (.cells #[.slice none 0 0, .slice none 0 0] 27)) := (Below.refl _ w).alloc (Nat.le_refl _) _
  have hRA := heap_alloc_new w (.cells #[.slice none 0 0, .slice none 0 0] 27)
  have hzA : (w.alloc (.cells #[.slice none 0 0, .slice none 0 0] 27)).heap.size = w.heap.size + 1 := by simp
  go_enter Try.func15, Try.ntmps15
  go_wp2_with fail
  generalize w.alloc (.cells #[.slice none 0 0, .slice none 0 0] 27) = wA at *
  refine (new_any ao cap bs _ (bytes_upY hb bA) hl).mono ?_
  rintro e w1 ⟨rfl, hc1, hb1⟩
  have hR1 := (hb1.block w.heap.size (by omega)).trans hRA
  have b1 : Below w.heap.size w w1 := bA.trans (hb1.mono (by omega))
  have hg2 : w.heap.size + 1 ≤ wA.heap.size := by omega
  clear hzA hRA bA hb1 hb
  generalize wA.heap.size = g at *
  go_wp2_with fail
  refine (dany_any g ao cap bs _ hc1).mono ?_
  rintro e w2 ⟨vb, vs, B, S, t, rfl, hn2, hB, hS, hF, ht0, ht1, hc2, hk2⟩
  have hg1 := hc1.1
  have hs2 := hk2.size
  obtain ⟨a1, c1, a2, c2, rfl, rfl⟩ := hn2.form
  have hd3 : DF w (w2.alloc (.cells #[.slice a1 B.length c1, .slice a2 S.length c2] 27)) g ao cap bs w.heap.size w2.heap.size w1.heap.size (.slice a1 B.length c1) (.slice a2 S.length c2) B S := by
    have hR2 := (hk2.block w.heap.size (Array.getElem?_eq_some_iff.1 hR1).1 (by omega)).trans hR1
    have b2 : Below w.heap.size w w2 := b1.trans ((hk2.below (B := w.heap.size) (by omega) (by omega)))
    have hRl := (Array.getElem?_eq_some_iff.1 hR2).1
    exact ⟨hc2.below ((Below.refl _ w2).alloc hc2.1 _), b2.alloc b2.size _, (((Below.refl w2.heap.size w2).alloc (Nat.le_refl _) _).block w.heap.size hRl).trans hR2, heap_alloc_new _ _, hn2.below ((Below.refl _ w2).alloc (Nat.le_refl _) _), ⟨by omega, hg1, by omega, by have := hc2.1; omega, Nat.le_refl _, by omega⟩⟩
  have HB := hidden hB
  have HS := hidden hS
  have HF := hidden hF
  clear hn2 hB hS hF hc1 hc2 hk2 hR1 b1
  generalize hWW : w2.alloc (.cells #[.slice a1 B.length c1, .slice a2 S.length c2] 27) = w3 at *
  generalize hXX : w2.heap.size = X at *
  go_wp2_with fail
  refine (below_any g ao cap bs 2 _ hd3.cur (by omega)).mono ?_
  rintro e w4 ⟨z4, rfl, z40, z41, hc4, hk4⟩
  have hd4 := hd3.call hc4 hk4
  clear hc4 hk4 hd3 hWW hXX
  go_wp2_with fail
  refine (below_any g ao cap bs 3 _ hd4.cur (by omega)).mono ?_
  rintro e w5 ⟨z5, rfl, z50, z51, hc5, hk5⟩
  have hd5 := hd4.call hc5 hk5
  clear hc5 hk5 hd4
  go_upto_if 24 with (go_at_call 50; refine (once_any g ao cap bs 14 _ hd5.cur (by omega)).mono ?_; rintro e w6 ⟨t6, rfl, hc6, hk6⟩)
  have hd6 := hd5.call hc6 hk6
  clear hc6 hk6 hd5
  go_cut [8, 9] (fun sv nv wx => ∃ s n : Int, sv = .int .i64 s ∧ nv = .int .i64 n ∧ DF w wx g ao cap bs w.heap.size X w1.heap.size (.slice a1 B.length c1) (.slice a2 S.length c2) B S)
  case first =>
    rcases t6 with _ | _
    · go_wp2_with fail
      go_meet
      case rel => exact ⟨_, _, rfl, rfl, hd6⟩
    · go_wp2_with fail
      refine (from_any g ao cap bs 0 3 _ hd6.cur (by omega) (by omega) (by omega)).mono ?_
      rintro e w7 ⟨z7, rfl, -, -, hc7, hk7⟩
      have hd7 := hd6.call hc7 hk7
      clear hc7 hk7 hd6
      go_wp2_with fail
      refine (from_any g ao cap bs 0 4 _ hd7.cur (by omega) (by omega) (by omega)).mono ?_
      rintro e w8 ⟨z8, rfl, -, -, hc8, hk8⟩
      have hd8 := hd7.call hc8 hk8
      clear hc8 hk8 hd7
      go_wp2_with fail
      go_meet
      case rel => exact ⟨_, _, rfl, rfl, hd8⟩
  case rest =>
    obtain ⟨s, n, rfl, rfl, hd⟩ := hcut
    clear hd6
    obtain ⟨x0, x1, -, -⟩ := two_ofH hd.x
    obtain ⟨r0, r1, fr0, fr1⟩ := two_ofH hd.r
    obtain ⟨l1, l2, l3, l4, l5, l6⟩ := hd.lt
    have hT : IsT wc w.heap.size 27 := ⟨_, hd.r⟩
    have hnF := ((hd.own.ty (p := ⟨w.heap.size, 0, none⟩) hT (by decide) (by decide) (.slice a1 B.length c1)).ty (p := ⟨w.heap.size, 1, none⟩) (hT.setCell _ _) (by decide) (by decide) (.slice a2 S.length c2))
    have bF := ((hd.bel.setCell (p := ⟨w.heap.size, 0, none⟩) (Nat.le_refl _) (.slice a1 B.length c1)).setCell (p := ⟨w.heap.size, 1, none⟩) (Nat.le_refl _) (.slice a2 S.length c2))
    have e0 := setCell_eq_setRow wc w.heap.size 0 _ _ _ (.slice a1 B.length c1) hd.r
    have h0 : (wc.setCell ⟨w.heap.size, 0, none⟩ (.slice a1 B.length c1)).heap[w.heap.size]? = some (.cells #[.slice a1 B.length c1, .slice none 0 0] 27 (0, 0)) := by rw [e0]; exact setRow_heap _ _ _ _ _ _ hd.r
    have e1 := setCell_eq_setRow (wc.setCell ⟨w.heap.size, 0, none⟩ (.slice a1 B.length c1)) w.heap.size 1 _ _ _ (.slice a2 S.length c2) h0
    have hRF : ((wc.setCell ⟨w.heap.size, 0, none⟩ (.slice a1 B.length c1)).setCell ⟨w.heap.size, 1, none⟩ (.slice a2 S.length c2)).heap[w.heap.size]? = some (.cells #[.slice a1 B.length c1, .slice a2 S.length c2] 27 (0, 0)) := by rw [e1, setRow_heap _ _ _ _ _ _ h0]; rfl
    obtain ⟨k0, k1, -, -⟩ := two_ofH hRF
    have HNF := hidden hnF
    have BF := hidden bF
    clear hT hnF bF e0 h0 e1 hRF hd
    go_wp2_with fail
    exact bodyPost_ret (v := .tuple #[.agg #[.slice a1 B.length c1, .slice a2 S.length c2], .int .i64 s, .int .i64 n]) (by simp [results, Try.results15, go_sem, k0, k1]) rfl ⟨_, _, B, S, s, n, rfl, HNF.out.own.row, HB.out, HS.out, HF.out, BF.out⟩
end Go.Proofs.Ytklgadaefngnnaa
