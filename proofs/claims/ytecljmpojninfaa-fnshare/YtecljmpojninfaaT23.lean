/-
  A volume, asks and needs, drawn of bytes.
-/
import Derived.Test.YtecljmpojninfaaT21
import Derived.Test.YtecljmpojninfaaT4
import Derived.Maps.AppendAt
namespace Go.Proofs.Ytecljmpojninfaa
open Go.RowKit Go.Maps Va Lb
set_option linter.all false

theorem own_keep {w0 W : World} {g b e s n : Nat} {v : Value} {xs : List Value} (h : w0.ownsRow b e s v n xs) (hk : Keep g w0 W) (hg : g < b) : W.ownsRow b e s v n xs := by
  obtain ⟨h1, h2⟩ := h
  refine ⟨h1, ?_⟩
  rcases h2 with h2 | ⟨q, c, cur, h2, h3, h4, h5⟩
  · exact Or.inl h2
  · have hb := (Array.getElem?_eq_some_iff.1 h4).1
    exact Or.inr ⟨q, c, cur, h2, h3, (hk.block q hb (by omega)).trans h4, h5⟩
theorem row_keep {w0 W : World} {g : Nat} {v : Value} {l : List Int} {b : Nat} (h : w0.ownsRow b 2 1 v l.length (l.map fun z => Value.int .i64 z)) (hk : Keep g w0 W) (hg : g < b) : VRw 1 cvI W v l := (vownI (own_keep h hk hg)).row
theorem row_keep2 {w0 W : World} {g : Nat} {v : Value} {l : List Int} (h : VRw 1 cvI w0 v l) (hk : Keep g w0 W) (hg : ∀ b off, (∃ n c, v = .slice (some ⟨b, off, none⟩) n c) → b ≠ g) : VRw 1 cvI W v l := by
  obtain ⟨ao, cap, rfl, h1, h2⟩ := h
  refine ⟨ao, cap, rfl, h1, ?_⟩
  rcases h2 with h2 | ⟨b, off, rfl, h3, h4⟩
  · exact Or.inl h2
  · exact Or.inr ⟨b, off, rfl, Nat.lt_of_lt_of_le h3 hk.size, fun i x hx k hk2 => (hk.cell h3 (hg b off ⟨_, _, rfl⟩)).trans (h4 i x hx k hk2)⟩

theorem own_ge {w : World} {b e s n : Nat} {v : Value} {xs : List Value} (h : w.ownsRow b e s v n xs) {g : Nat} (hg : g < b) : ∀ q off, (∃ n c, v = .slice (some ⟨q, off, none⟩) n c) → q ≠ g := by
  rintro q off ⟨n', c', rfl⟩
  rcases h.2 with ⟨e1, _⟩ | ⟨q2, c, cur, e1, h3, _⟩
  · cases e1
  · simp only [Value.slice.injEq, Option.some.injEq, Addr.mk.injEq] at e1
    omega
theorem share_fin {w wN wB W : World} {g cap : Nat} {ao : Option Addr} {bs l l2 : List Int} {v1 v2 : Value} (hgN : g < wN.heap.size) (hgB : g < wB.heap.size) (zB : wN.heap.size ≤ wB.heap.size) (hBB : Below g w wB) (hN : wB.ownsRow wN.heap.size 2 1 v1 l.length (l.map fun z => Value.int .i64 z)) (hd : DI wB W g ao cap bs v2 l2) :
    VRw 1 cvI W v1 l ∧ VRw 1 cvI W v2 l2 ∧ Cur W g ao cap bs ∧ Below g w W ∧ (∀ b off, (∃ n c, v1 = .slice (some ⟨b, off, none⟩) n c) → b ≠ g) ∧ (∀ b off, (∃ n c, v2 = .slice (some ⟨b, off, none⟩) n c) → b ≠ g) :=
  ⟨row_keep hN hd.keep hgN, hd.row, hd.cur, hBB.trans (hd.keep.below (B := g) (Nat.le_refl _) (by omega)), own_ge hN hgN, own_ge hd.own hgB⟩
theorem share_fin2 {w wN wB W W7 : World} {g cap : Nat} {ao : Option Addr} {bs l l2 : List Int} {v1 v2 v7 : Value} {z : Int} (hgN : g < wN.heap.size) (hgB : g < wB.heap.size) (zB : wN.heap.size ≤ wB.heap.size) (hBB : Below g w wB) (hN : wB.ownsRow wN.heap.size 2 1 v1 l.length (l.map fun z => Value.int .i64 z)) (hd : DI wB W g ao cap bs v2 l2)
    (ho : W7.ownsRow wN.heap.size 2 1 v7 (l.length + 1) ((l.map fun z => Value.int .i64 z) ++ [.int .i64 z])) (hg : W.grownBy W7 v1.ownBlock) :
    VRw 1 cvI W7 v7 (l ++ [z]) ∧ VRw 1 cvI W7 v2 l2 ∧ Cur W7 g ao cap bs ∧ Below g w W7 ∧ (∀ b off, (∃ n c, v7 = .slice (some ⟨b, off, none⟩) n c) → b ≠ g) ∧ (∀ b off, (∃ n c, v2 = .slice (some ⟨b, off, none⟩) n c) → b ≠ g) := by
  have lt := ownW_lt hN
  have hs := hd.keep.size
  have hne : v2.ownBlock = none ∨ v2.ownBlock ≠ v1.ownBlock := by
    rcases hd.own.2 with ⟨e1, _⟩ | ⟨q2, c, cur, e1, h3, _⟩
    · exact .inl (by rw [e1]; rfl)
    · refine .inr fun e2 => ?_
      rw [e1] at e2
      have := (lt q2 e2.symm).2
      omega
  have hcur : Cur W7 g ao cap bs := hd.cur.below ⟨hg.os, hg.tape, hg.output, hg.size, fun j hj => hg.block j (by omega) (fun e => by have := (lt j e.symm).1; omega)⟩
  have hbe : Below g W W7 := ⟨hg.os, hg.tape, hg.output, hg.size, fun j hj => hg.block j (by omega) (fun e => by have := (lt j e.symm).1; omega)⟩
  refine ⟨(vownI (base := wN.heap.size) (L := l ++ [z]) (by rw [List.length_append, List.map_append]; exact ho)).row, (vownI (hd.own.kept hg hne)).row, hcur, (hBB.trans (hd.keep.below (B := g) (Nat.le_refl _) (by omega))).trans hbe, own_ge ho hgN, own_ge hd.own hgB⟩
theorem DI.grow0 {w0 W W' : World} {g cap : Nat} {ao : Option Addr} {bs : List Int} {v : Value} {l : List Int} (h : DI w0 W g ao cap bs v l) (hg : W.grownBy W' none) : DI w0 W' g ao cap bs v l := by
  have := h.cur.1
  exact h.call (h.cur.below ⟨hg.os, hg.tape, hg.output, hg.size, fun j hj => hg.block j (by omega) (by simp)⟩) ⟨hg.os, hg.tape, hg.output, hg.size, fun j hj _ => hg.block j hj (by simp)⟩

set_option maxRecDepth 20000 in
set_option maxHeartbeats 8000000 in
theorem dshare_any (ao : Option Addr) (cap : Nat) (bs : List Int) (w : World) (hb : Bytes w w.heap.size ao bs) (hl : bs.length ≤ 1048576) :
    Calls Try.prog 18 #[.slice ao bs.length cap] w fun e w' => ∃ (y : Int) (va vn : Value) (la ln : List Int), e = .returned (.tuple #[.int .i64 y, va, vn]) ∧ VRw 1 cvI w' va la ∧ VRw 1 cvI w' vn ln ∧ la.length ≤ 1000 ∧ ln.length ≤ 1000 ∧ Below w.heap.size w w' := by
  obtain ⟨i0, hi0, hy0, hy1, hy2⟩ := info_partsW infoW64
  go_enter Try.func18, Try.ntmps18
  go_wp2_with fail
  refine (new_any ao cap bs w hb hl).mono ?_
  rintro e wM ⟨rfl, hcM, hbM⟩
  have hgM : w.heap.size < wM.heap.size := hcM.1
  clear hb
  generalize hG : w.heap.size = g at *
  go_wp2_with fail
  refine (below_any g ao cap bs 60 _ hcM (by omega)).mono ?_
  rintro e wN ⟨y, rfl, y0, y1, hcN, hkN⟩
  have HBN := hidden (hbM.trans (hkN.below (B := g) (Nat.le_refl _) (by omega)))
  have hgN : g < wN.heap.size := hcN.1
  have h0 := DI.start hcN
  clear hbM hcM hkN
  generalize hwA : wN.alloc (.cells #[] 2) = wA at *
  go_wp2_with fail
  refine (below_any g ao cap bs 9 _ h0.cur (by omega)).mono ?_
  rintro e w1 ⟨n1, rfl, p1, q1, hc1, hk1⟩
  have h1 := h0.call hc1 hk1
  clear hwA h0 hc1 hk1
  obtain ⟨n1, rfl⟩ := Int.eq_ofNat_of_zero_le p1
  generalize hv0 : Value.slice (some ⟨wN.heap.size, 0, none⟩) 0 0 = v0 at *
  go_wp2_with fail
  go_loopw [7, 8] (fun v nv wr => ∃ (l : List Int) (k : Nat), nv = .int .i64 k ∧ l.length + k ≤ 9 ∧ DI wN wr g ao cap bs v l) (fun _ nv _ => (intOf nv).toNat)
  case atStart => exact ⟨[], n1, rfl, by simp; omega, h1⟩
  case round =>
    clear h1 hv0
    obtain ⟨l, k, rfl, hlk, hd⟩ := hrel
    obtain ⟨ad, c, rfl⟩ := hd.form
    by_cases hk0 : 0 < k
    · have hk1 : (0 : Int) < (k : Int) := by omega
      go_wp2_with fail
      refine (below_any g ao cap bs 25 _ hd.cur (by omega)).mono ?_
      rintro e w2 ⟨z, rfl, a10, a11, hc2, hk2⟩
      have hd2 := hd.call hc2 hk2
      clear hc2 hk2 hd
      go_wp2_with (at_builtin; refine wpList_append_own _ rfl (.tmp 24) (.tmp 27) 24 rfl wN.heap.size 2 i0 (.int .i64 0) 1 8 Try.underlying24 hi0 hy0 hy1 hy2 rfl (by decide) _ l.length (l.map fun z => Value.int .i64 z) rfl (hd2.alloc _).own ⟨w2.heap.size, 0, none⟩ 1 1 [.int .i64 z] rfl rfl (cell_oneD _ _ _) (by simp [Value.oneCell']) (by unfold maxLen; omega) (by omega) (by have := hd2.keep.size; simp; omega) ?_; intro v6 w6 ho6 hg6 hnn6; have hd6 := (hd2.alloc _).app ho6 hg6; clear ho6 hg6 hnn6)
      go_roundw
      case rel => exact ⟨l ++ [z], k - 1, by congr 1; omega, by simp; omega, hd6⟩
      case measure => simp [intOf]; omega
    · have hk1 : ¬ (0 : Int) < (k : Int) := by omega
      have hl7 : l.length ≤ 9 := by omega
      clear hlk p1 q1
      obtain ⟨wB, hwB⟩ : ∃ wB, wB = wr := ⟨_, rfl⟩
      subst hwB
      have hN := hd.own
      have hkB := hd.keep
      have hgB : g < wB.heap.size := hd.cur.1
      have h0 := DI.start hd.cur
      have HBB := hidden (HBN.out.trans (hkB.below (B := g) (Nat.le_refl _) (by omega)))
      have HNO := hidden hN
      have zB := hkB.size
      clear hN hkB hd
      generalize hwA : wB.alloc (.cells #[] 2) = wA2 at *
      go_wp2_with fail
      refine (below_any g ao cap bs 7 _ h0.cur (by omega)).mono ?_
      rintro e w3 ⟨n3, rfl, p3, q3, hc3, hk3⟩
      have h3 := h0.call hc3 hk3
      clear hwA h0 hc3 hk3
      obtain ⟨n3, rfl⟩ := Int.eq_ofNat_of_zero_le p3
      generalize hv0 : Value.slice (some ⟨wB.heap.size, 0, none⟩) 0 0 = v0' at *
      go_wp2_with fail
      go_loopw [9, 10, 11] (fun v nv _ wr => ∃ (l2 : List Int) (k : Nat), nv = .int .i64 k ∧ l2.length + k ≤ 7 ∧ DI wB wr g ao cap bs v l2) (fun _ nv _ _ => (intOf nv).toNat)
      case atStart => exact ⟨[], n3, rfl, by simp; omega, h3⟩
      case round =>
        clear h3 hv0
        obtain ⟨l2, k2, rfl, hlk, hd⟩ := hrel
        obtain ⟨ad2, c2, rfl⟩ := hd.form
        by_cases hgo : 0 < k2 ∧ 0 < l.length
        · obtain ⟨hk0', hl0'⟩ := hgo
          have hk1' : (0 : Int) < (k2 : Int) := by omega
          have hl1' : (0 : Int) < (l.length : Int) := by omega
          go_wp2_with fail
          refine (below_any g ao cap bs (l.length : Int) _ hd.cur (by omega)).mono ?_
          rintro e w4 ⟨z, rfl, a10, a11, hc4, hk4⟩
          have hd4 := hd.call hc4 hk4
          clear hc4 hk4 hd
          have hs := shas_any ad2 l2.length c2 l2 z _ hd4.row (by omega)
          cases hh : has l2 z with
          | false =>
            rw [hh] at hs
            have hd2 := hd4
            go_wp2_with (first | (go_at_call 44; refine hs.mono ?_; rintro e w5 ⟨rfl, hw5⟩; obtain rfl := hw5) | (at_builtin; refine wpList_append_own _ rfl (.tmp 53) (.tmp 55) 24 rfl wB.heap.size 2 i0 (.int .i64 0) 1 8 Try.underlying24 hi0 hy0 hy1 hy2 rfl (by decide) _ l2.length (l2.map fun z => Value.int .i64 z) rfl (hd2.alloc _).own ⟨w5.heap.size, 0, none⟩ 1 1 [.int .i64 z] rfl rfl (cell_oneD _ _ _) (by simp [Value.oneCell']) (by unfold maxLen; omega) (by omega) (by have := hd2.keep.size; simp; omega) ?_; intro v6 w6 ho6 hg6 hnn6; have hd6 := (hd2.alloc _).app ho6 hg6; clear ho6 hg6 hnn6))
            go_roundw
            case rel => exact ⟨l2 ++ [z], k2 - 1, by congr 1; omega, by simp; omega, hd6⟩
            case measure => simp [intOf]; omega
          | true =>
            rw [hh] at hs
            go_upto_if 52 with (first | (go_at_call 44; refine hs.mono ?_; rintro e w5 ⟨rfl, hw5⟩; obtain rfl := hw5) | (go_at_call 36; refine (once_any g ao cap bs 60 _ hd4.cur (by omega)).mono ?_; rintro e w6 ⟨t6, rfl, hc6, hk6⟩))
            have hd2 := hd4.call hc6 hk6
            clear hc6 hk6 hd4 hs
            cases t6 with
            | false =>
              go_wp2_with fail
              go_roundw
              case rel => exact ⟨l2, k2 - 1, by congr 1; omega, by omega, hd2⟩
              case measure => simp [intOf]; omega
            | true =>
              go_wp2_with (at_builtin; refine wpList_append_own _ rfl (.tmp 53) (.tmp 55) 24 rfl wB.heap.size 2 i0 (.int .i64 0) 1 8 Try.underlying24 hi0 hy0 hy1 hy2 rfl (by decide) _ l2.length (l2.map fun z => Value.int .i64 z) rfl (hd2.alloc _).own ⟨w6.heap.size, 0, none⟩ 1 1 [.int .i64 z] rfl rfl (cell_oneD _ _ _) (by simp [Value.oneCell']) (by unfold maxLen; omega) (by omega) (by have := hd2.keep.size; simp; omega) ?_; intro v6 w6 ho6 hg6 hnn6; have hd6 := (hd2.alloc _).app ho6 hg6; clear ho6 hg6 hnn6)
              go_roundw
              case rel => exact ⟨l2 ++ [z], k2 - 1, by congr 1; omega, by simp; omega, hd6⟩
              case measure => simp [intOf]; omega
        · have hstop : (decide ((0 : Int) < (k2 : Int)) && decide ((0 : Int) < (l.length : Int))) = false := by
            rw [Bool.and_eq_false_iff, decide_eq_false_iff_not, decide_eq_false_iff_not]; omega
          have hl27 : l2.length ≤ 7 := by omega
          have LEAVE : (k2 = 0) ∨ (0 < k2 ∧ l.length = 0) := by omega
          clear hlk hgo p3 q3
          have zz : (0 : Int) < (k2 : Int) ∨ ¬ (0 : Int) < (k2 : Int) := by omega
          have done : True := trivial
          rcases LEAVE with e1 | ⟨e1, e2⟩
          · have n1' : ¬ (0 : Int) < (k2 : Int) := by omega
            clear hstop zz done e1
            go_upto_if 58 with (go_at_call 36; refine (once_any g ao cap bs 24 _ hd.cur (by omega)).mono ?_; rintro e w4 ⟨t4, rfl, hc4, hk4⟩)
            have hd4 := hd.call hc4 hk4
            clear hc4 hk4 hd
            go_cut [6, 7, 9] (fun yv nv av wx => ∃ (y : Int) (ln la : List Int) (W9 : World), yv = .int .i64 y ∧ la.length ≤ 20 ∧ ln.length ≤ 20 ∧ VRw 1 cvI wx nv ln ∧ VRw 1 cvI wx av la ∧ Cur wx g ao cap bs ∧ Below g w wx ∧ (∀ b off, (∃ n c, nv = .slice (some ⟨b, off, none⟩) n c) → b ≠ g) ∧ (∀ b off, (∃ n c, av = .slice (some ⟨b, off, none⟩) n c) → b ≠ g))
            case first =>
              cases t4 with
              | false =>
                have F := share_fin hgN hgB zB HBB.out HNO.out hd4
                go_wp2_with fail
                go_meet
                case rel => exact ⟨y, l, l2, w, rfl, by omega, by omega, F⟩
              | true =>
                go_upto_region 17 with (go_at_call 35; refine (below_any g ao cap bs 3 _ hd4.cur (by omega)).mono ?_; rintro e w5 ⟨y5, rfl, y50, y51, hc5, hk5⟩)
                have hd5 := hd4.call hc5 hk5
                clear hc5 hk5 hd4
                rcases (show y5 = 0 ∨ y5 = 1 ∨ y5 = 2 by omega) with rfl | rfl | rfl
                · have hdT := hd5.alloc (.cells #[.int .i64 (-1), .int .i64 100000, .int .i64 100001] 2)
                  have hgr := hd5.cur.1
                  go_wp2_with fail
                  refine (below_any g ao cap bs 3 _ hdT.cur (by omega)).mono ?_
                  rintro e w6 ⟨y6, rfl, y60, y61, hc6, hk6⟩
                  obtain ⟨j, rfl⟩ := Int.eq_ofNat_of_zero_le y60
                  obtain ⟨z, hz⟩ := tab_at [-1, 100000, 100001] w5 w6 g 2 hk6 hgr j (by simp; omega)
                  have hd6 := hdT.call hc6 hk6
                  clear hc6 hk6 hd5 hdT
                  have F := share_fin hgN hgB zB HBB.out HNO.out hd6
                  go_wp2_with fail
                  go_meet
                  case rel => exact ⟨z, l, l2, w, rfl, by omega, by omega, F⟩
                · have hdT := hd5.alloc (.cells #[.int .i64 (-1), .int .i64 (l.length : Int), .int .i64 99] 2)
                  have hgr := hd5.cur.1
                  go_wp2_with fail
                  refine (below_any g ao cap bs 3 _ hdT.cur (by omega)).mono ?_
                  rintro e w6 ⟨y6, rfl, y60, y61, hc6, hk6⟩
                  obtain ⟨j, rfl⟩ := Int.eq_ofNat_of_zero_le y60
                  obtain ⟨z, hz⟩ := tab_at [-1, (l.length : Int), 99] w5 w6 g 2 hk6 hgr j (by simp; omega)
                  have hd2 := hdT.call hc6 hk6
                  clear hc6 hk6 hd5 hdT
                  go_wp2_with (at_builtin; refine wpList_append_own _ rfl (.tmp 70) (.tmp 78) 24 rfl wB.heap.size 2 i0 (.int .i64 0) 1 8 Try.underlying24 hi0 hy0 hy1 hy2 rfl (by decide) _ l2.length (l2.map fun z => Value.int .i64 z) rfl (hd2.alloc _).own ⟨w6.heap.size, 0, none⟩ 1 1 [.int .i64 z] rfl rfl (cell_oneD _ _ _) (by simp [Value.oneCell']) (by unfold maxLen; omega) (by omega) (by have := hd2.keep.size; simp; omega) ?_; intro v6 w6 ho6 hg6 hnn6; have hd6 := (hd2.alloc _).app ho6 hg6; clear ho6 hg6 hnn6)
                  have F := share_fin hgN hgB zB HBB.out HNO.out hd6
                  go_meet
                  case rel => exact ⟨y, l, l2 ++ [z], w, rfl, by simp; omega, by omega, F⟩
                · have hdT := hd5.alloc (.cells #[.int .i64 (-1), .int .i64 100000, .int .i64 100001] 2)
                  have hgr := hd5.cur.1
                  go_wp2_with fail
                  refine (below_any g ao cap bs 3 _ hdT.cur (by omega)).mono ?_
                  rintro e w6 ⟨y6, rfl, y60, y61, hc6, hk6⟩
                  obtain ⟨j, rfl⟩ := Int.eq_ofNat_of_zero_le y60
                  obtain ⟨z, hz⟩ := tab_at [-1, 100000, 100001] w5 w6 g 2 hk6 hgr j (by simp; omega)
                  have hd6 := hdT.call hc6 hk6
                  clear hc6 hk6 hd5 hdT
                  have zW := hd6.keep.size
                  have HNW := hidden (own_keep HNO.out (hd6.keep.alloc (.cells #[.int .i64 z] 2)) hgN)
                  go_wp2_with (at_builtin; refine wpList_append_own _ rfl (.tmp 82) (.tmp 88) 24 rfl wN.heap.size 2 i0 (.int .i64 0) 1 8 Try.underlying24 hi0 hy0 hy1 hy2 rfl (by decide) _ l.length (l.map fun z => Value.int .i64 z) rfl HNW.out ⟨w6.heap.size, 0, none⟩ 1 1 [.int .i64 z] rfl rfl (cell_oneD _ _ _) (by simp [Value.oneCell']) (by unfold maxLen; omega) (by omega) (by simp; omega) ?_; intro v7 w7 ho7 hg7 hnn7)
                  have F := share_fin2 hgN hgB zB HBB.out HNO.out (hd6.alloc _) ho7 hg7
                  go_meet
                  case rel => exact ⟨y, l ++ [z], l2, w, rfl, by omega, by simp; omega, F⟩
            case rest =>
              clear hd4
              obtain ⟨y', ln, la, -, rfl, hla, hln, hrn, hra, hcu, hbw, hgn, hga⟩ := hcut
              obtain ⟨an, cn, rfl⟩ := hrn.form
              obtain ⟨aa, ca, rfl⟩ := hra.form
              go_upto_if 91 with (go_at_call 36; refine (once_any g ao cap bs 60 _ hcu (by omega)).mono ?_; rintro e w6 ⟨t6, rfl, hc6, hk6⟩)
              have hrn6 := row_keep2 hrn hk6 hgn
              have hra6 := row_keep2 hra hk6 hga
              have hb6 := hbw.trans (hk6.below (B := g) (Nat.le_refl _) (by have := hcu.1; omega))
              clear hrn hra hk6 hbw
              cases t6 with
              | false =>
                go_wp2_with fail
                refine bodyPost_ret (v := .tuple #[.int .i64 y', .slice aa la.length ca, .slice an ln.length cn]) (by simp [results, Try.results18, go_sem]) rfl ?_
                exact ⟨_, _, _, la, ln, rfl, hra6, hrn6, by omega, by omega, by rw [hG]; exact hb6⟩
              | true =>
                have h0 := DI.start hc6
                have z6 := hc6.1
                clear hrn6 hra6
                generalize hwA : w6.alloc (.cells #[] 2) = wA2 at *
                go_wp2_with fail
                refine (below_any g ao cap bs 2 _ h0.cur (by omega)).mono ?_
                rintro e w7 ⟨y7, rfl, y70, y71, hc7, hk7⟩
                obtain ⟨j, rfl⟩ := Int.eq_ofNat_of_zero_le y70
                have hd7 := h0.call hc7 hk7
                have hs7 := hd7.keep.size
                clear hc7 hk7 h0 hwA
                go_wp2_with (refine wpList_make_full _ rfl (.tmp 95) (.tmp 95) 24 rfl w7.heap.size 2 i0 (.int .i64 0) 1 Try.underlying24 hi0 hy0 hy1 .i64 .i64 _ _ (100 + j) rfl rfl (by omega) (by omega) (by rw [hy2]; omega) (by unfold maxLen; omega) (Nat.le_refl _) ?_; intro w8 ho8 hg8; rw [made_ints] at ho8)
                have ho8' : w8.ownsRow w7.heap.size 2 1 (.slice (some ⟨w7.heap.size, 0, none⟩) (100 + j) (100 + j)) (List.replicate (100 + j) (0 : Int)).length ((List.replicate (100 + j) (0 : Int)).map fun z => Value.int .i64 z) := by rw [List.length_replicate]; exact ho8
                have hD8 := hd7.grow0 hg8
                have HNB := hidden ho8'
                have hlt7 : g < w7.heap.size := hd7.cur.1
                have hs67 : w6.heap.size < w7.heap.size := (ownW_lt hd7.own _ rfl).2
                have hg78 : w7.heap.size ≤ w8.heap.size := hg8.size
                have hnb8 : w7.heap.size < w8.heap.size := (ownW_lt ho8' _ rfl).2
                clear ho8 ho8' hg8 hd7
                go_loopw [9, 12] (fun v iv wr => ∃ (l3 : List Int) (i : Nat), iv = .int .i64 i ∧ l3.length ≤ i ∧ i ≤ 21 ∧ DI w6 wr g ao cap bs v l3 ∧ Hid (wr.ownsRow w7.heap.size 2 1 (.slice (some ⟨w7.heap.size, 0, none⟩) (100 + j) (100 + j)) (List.replicate (100 + j) (0 : Int)).length ((List.replicate (100 + j) (0 : Int)).map fun z => Value.int .i64 z)) ∧ Hid (v.ownBlock ≠ some w7.heap.size) ∧ w7.heap.size < wr.heap.size) (fun _ iv _ => 22 - (intOf iv).toNat)
                case atStart => exact ⟨[], 0, rfl, Nat.le_refl _, by omega, hD8, HNB, (fun e => by simp only [Value.ownBlock, Option.some.injEq] at e; omega), hnb8⟩
                case round =>
                  clear hD8 HNB hnb8 hg78
                  obtain ⟨l3, i, rfl, hl3, hi22, hdl, HNB, HAP, hnb⟩ := hrel
                  obtain ⟨a3, c3, rfl⟩ := hdl.form
                  go_wp2_with fail
                  refine (below_any g ao cap bs 2 _ hdl.cur (by omega)).mono ?_
                  rintro e w9 ⟨y9, rfl, y90, y91, hc9, hk9⟩
                  have hd9 := hdl.call hc9 hk9
                  have HN9 := hidden (own_keep HNB.out hk9 hlt7)
                  have hnb9 := Nat.lt_of_lt_of_le hnb hk9.size
                  clear hc9 hk9 hdl HNB hnb
                  by_cases hlt : (i : Int) < 20 + y9
                  · go_wp2_with (at_builtin; refine wpList_append_own_at _ rfl (.tmp 104) (.tmp 106) 24 rfl w6.heap.size 2 i0 (.int .i64 0) 1 8 Try.underlying24 hi0 hy0 hy1 hy2 rfl (by decide) _ l3.length (l3.map fun z => Value.int .i64 z) rfl (hd9.alloc _).own ⟨w9.heap.size, 0, none⟩ 1 1 [.int .i64 (i : Int)] rfl rfl (cell_oneD _ _ _) (by simp [Value.oneCell']) (by unfold maxLen; omega) (by omega) (by have := hd9.keep.size; simp; omega) ?_; intro v10 w10 ho10 hg10 hnn10 hat10; have hd10 := (hd9.alloc _).app ho10 hg10; have HN10 := hidden ((ownW_below HN9.out ((Below.refl _ w9).alloc (Nat.le_refl _) (.cells #[.int .i64 (i : Int)] 2))).kept hg10 (.inr (fun e => HAP.out e.symm))); have HAP10 : Hid (v10.ownBlock ≠ some w7.heap.size) := (fun e => by rcases hat10 with q | q; exact HAP.out (q ▸ e); rw [q] at e; simp at e; omega); have hnb10 : w7.heap.size < w10.heap.size := Nat.lt_of_lt_of_le (by simp; omega) hg10.size; clear ho10 hg10 hnn10 hat10)
                    go_roundw
                    case rel => exact ⟨l3 ++ [(i : Int)], i + 1, rfl, by simp; omega, by omega, hd10, HN10, HAP10, hnb10⟩
                    case measure => simp [intOf]; omega
                  · have hrow := hd9.row
                    have bel := hd9.keep.below (B := g) (Nat.le_refl _) (by omega)
                    go_wp2_with fail
                    refine bodyPost_ret (v := .tuple #[.int .i64 y', .slice a3 l3.length c3, .slice (some ⟨w7.heap.size, 0, none⟩) (100 + j) (100 + j)]) (by simp [results, Try.results18, go_sem]) rfl ?_
                    exact ⟨_, _, _, l3, List.replicate (100 + j) 0, rfl, hrow, (vownI HN9.out).row, by omega, by rw [List.length_replicate]; omega, by rw [hG]; exact hb6.trans bel⟩
          · have n1' : (0 : Int) < (k2 : Int) := by omega
            have n2' : ¬ (0 : Int) < (l.length : Int) := by omega
            clear hstop zz done e1 e2
            go_upto_if 58 with (go_at_call 36; refine (once_any g ao cap bs 24 _ hd.cur (by omega)).mono ?_; rintro e w4 ⟨t4, rfl, hc4, hk4⟩)
            have hd4 := hd.call hc4 hk4
            clear hc4 hk4 hd
            go_cut [6, 7, 9] (fun yv nv av wx => ∃ (y : Int) (ln la : List Int) (W9 : World), yv = .int .i64 y ∧ la.length ≤ 20 ∧ ln.length ≤ 20 ∧ VRw 1 cvI wx nv ln ∧ VRw 1 cvI wx av la ∧ Cur wx g ao cap bs ∧ Below g w wx ∧ (∀ b off, (∃ n c, nv = .slice (some ⟨b, off, none⟩) n c) → b ≠ g) ∧ (∀ b off, (∃ n c, av = .slice (some ⟨b, off, none⟩) n c) → b ≠ g))
            case first =>
              cases t4 with
              | false =>
                have F := share_fin hgN hgB zB HBB.out HNO.out hd4
                go_wp2_with fail
                go_meet
                case rel => exact ⟨y, l, l2, w, rfl, by omega, by omega, F⟩
              | true =>
                go_upto_region 17 with (go_at_call 35; refine (below_any g ao cap bs 3 _ hd4.cur (by omega)).mono ?_; rintro e w5 ⟨y5, rfl, y50, y51, hc5, hk5⟩)
                have hd5 := hd4.call hc5 hk5
                clear hc5 hk5 hd4
                rcases (show y5 = 0 ∨ y5 = 1 ∨ y5 = 2 by omega) with rfl | rfl | rfl
                · have hdT := hd5.alloc (.cells #[.int .i64 (-1), .int .i64 100000, .int .i64 100001] 2)
                  have hgr := hd5.cur.1
                  go_wp2_with fail
                  refine (below_any g ao cap bs 3 _ hdT.cur (by omega)).mono ?_
                  rintro e w6 ⟨y6, rfl, y60, y61, hc6, hk6⟩
                  obtain ⟨j, rfl⟩ := Int.eq_ofNat_of_zero_le y60
                  obtain ⟨z, hz⟩ := tab_at [-1, 100000, 100001] w5 w6 g 2 hk6 hgr j (by simp; omega)
                  have hd6 := hdT.call hc6 hk6
                  clear hc6 hk6 hd5 hdT
                  have F := share_fin hgN hgB zB HBB.out HNO.out hd6
                  go_wp2_with fail
                  go_meet
                  case rel => exact ⟨z, l, l2, w, rfl, by omega, by omega, F⟩
                · have hdT := hd5.alloc (.cells #[.int .i64 (-1), .int .i64 (l.length : Int), .int .i64 99] 2)
                  have hgr := hd5.cur.1
                  go_wp2_with fail
                  refine (below_any g ao cap bs 3 _ hdT.cur (by omega)).mono ?_
                  rintro e w6 ⟨y6, rfl, y60, y61, hc6, hk6⟩
                  obtain ⟨j, rfl⟩ := Int.eq_ofNat_of_zero_le y60
                  obtain ⟨z, hz⟩ := tab_at [-1, (l.length : Int), 99] w5 w6 g 2 hk6 hgr j (by simp; omega)
                  have hd2 := hdT.call hc6 hk6
                  clear hc6 hk6 hd5 hdT
                  go_wp2_with (at_builtin; refine wpList_append_own _ rfl (.tmp 70) (.tmp 78) 24 rfl wB.heap.size 2 i0 (.int .i64 0) 1 8 Try.underlying24 hi0 hy0 hy1 hy2 rfl (by decide) _ l2.length (l2.map fun z => Value.int .i64 z) rfl (hd2.alloc _).own ⟨w6.heap.size, 0, none⟩ 1 1 [.int .i64 z] rfl rfl (cell_oneD _ _ _) (by simp [Value.oneCell']) (by unfold maxLen; omega) (by omega) (by have := hd2.keep.size; simp; omega) ?_; intro v6 w6 ho6 hg6 hnn6; have hd6 := (hd2.alloc _).app ho6 hg6; clear ho6 hg6 hnn6)
                  have F := share_fin hgN hgB zB HBB.out HNO.out hd6
                  go_meet
                  case rel => exact ⟨y, l, l2 ++ [z], w, rfl, by simp; omega, by omega, F⟩
                · have hdT := hd5.alloc (.cells #[.int .i64 (-1), .int .i64 100000, .int .i64 100001] 2)
                  have hgr := hd5.cur.1
                  go_wp2_with fail
                  refine (below_any g ao cap bs 3 _ hdT.cur (by omega)).mono ?_
                  rintro e w6 ⟨y6, rfl, y60, y61, hc6, hk6⟩
                  obtain ⟨j, rfl⟩ := Int.eq_ofNat_of_zero_le y60
                  obtain ⟨z, hz⟩ := tab_at [-1, 100000, 100001] w5 w6 g 2 hk6 hgr j (by simp; omega)
                  have hd6 := hdT.call hc6 hk6
                  clear hc6 hk6 hd5 hdT
                  have zW := hd6.keep.size
                  have HNW := hidden (own_keep HNO.out (hd6.keep.alloc (.cells #[.int .i64 z] 2)) hgN)
                  go_wp2_with (at_builtin; refine wpList_append_own _ rfl (.tmp 82) (.tmp 88) 24 rfl wN.heap.size 2 i0 (.int .i64 0) 1 8 Try.underlying24 hi0 hy0 hy1 hy2 rfl (by decide) _ l.length (l.map fun z => Value.int .i64 z) rfl HNW.out ⟨w6.heap.size, 0, none⟩ 1 1 [.int .i64 z] rfl rfl (cell_oneD _ _ _) (by simp [Value.oneCell']) (by unfold maxLen; omega) (by omega) (by simp; omega) ?_; intro v7 w7 ho7 hg7 hnn7)
                  have F := share_fin2 hgN hgB zB HBB.out HNO.out (hd6.alloc _) ho7 hg7
                  go_meet
                  case rel => exact ⟨y, l ++ [z], l2, w, rfl, by omega, by simp; omega, F⟩
            case rest =>
              clear hd4
              obtain ⟨y', ln, la, -, rfl, hla, hln, hrn, hra, hcu, hbw, hgn, hga⟩ := hcut
              obtain ⟨an, cn, rfl⟩ := hrn.form
              obtain ⟨aa, ca, rfl⟩ := hra.form
              go_upto_if 91 with (go_at_call 36; refine (once_any g ao cap bs 60 _ hcu (by omega)).mono ?_; rintro e w6 ⟨t6, rfl, hc6, hk6⟩)
              have hrn6 := row_keep2 hrn hk6 hgn
              have hra6 := row_keep2 hra hk6 hga
              have hb6 := hbw.trans (hk6.below (B := g) (Nat.le_refl _) (by have := hcu.1; omega))
              clear hrn hra hk6 hbw
              cases t6 with
              | false =>
                go_wp2_with fail
                refine bodyPost_ret (v := .tuple #[.int .i64 y', .slice aa la.length ca, .slice an ln.length cn]) (by simp [results, Try.results18, go_sem]) rfl ?_
                exact ⟨_, _, _, la, ln, rfl, hra6, hrn6, by omega, by omega, by rw [hG]; exact hb6⟩
              | true =>
                have h0 := DI.start hc6
                have z6 := hc6.1
                clear hrn6 hra6
                generalize hwA : w6.alloc (.cells #[] 2) = wA2 at *
                go_wp2_with fail
                refine (below_any g ao cap bs 2 _ h0.cur (by omega)).mono ?_
                rintro e w7 ⟨y7, rfl, y70, y71, hc7, hk7⟩
                obtain ⟨j, rfl⟩ := Int.eq_ofNat_of_zero_le y70
                have hd7 := h0.call hc7 hk7
                have hs7 := hd7.keep.size
                clear hc7 hk7 h0 hwA
                go_wp2_with (refine wpList_make_full _ rfl (.tmp 95) (.tmp 95) 24 rfl w7.heap.size 2 i0 (.int .i64 0) 1 Try.underlying24 hi0 hy0 hy1 .i64 .i64 _ _ (100 + j) rfl rfl (by omega) (by omega) (by rw [hy2]; omega) (by unfold maxLen; omega) (Nat.le_refl _) ?_; intro w8 ho8 hg8; rw [made_ints] at ho8)
                have ho8' : w8.ownsRow w7.heap.size 2 1 (.slice (some ⟨w7.heap.size, 0, none⟩) (100 + j) (100 + j)) (List.replicate (100 + j) (0 : Int)).length ((List.replicate (100 + j) (0 : Int)).map fun z => Value.int .i64 z) := by rw [List.length_replicate]; exact ho8
                have hD8 := hd7.grow0 hg8
                have HNB := hidden ho8'
                have hlt7 : g < w7.heap.size := hd7.cur.1
                have hs67 : w6.heap.size < w7.heap.size := (ownW_lt hd7.own _ rfl).2
                have hg78 : w7.heap.size ≤ w8.heap.size := hg8.size
                have hnb8 : w7.heap.size < w8.heap.size := (ownW_lt ho8' _ rfl).2
                clear ho8 ho8' hg8 hd7
                go_loopw [9, 12] (fun v iv wr => ∃ (l3 : List Int) (i : Nat), iv = .int .i64 i ∧ l3.length ≤ i ∧ i ≤ 21 ∧ DI w6 wr g ao cap bs v l3 ∧ Hid (wr.ownsRow w7.heap.size 2 1 (.slice (some ⟨w7.heap.size, 0, none⟩) (100 + j) (100 + j)) (List.replicate (100 + j) (0 : Int)).length ((List.replicate (100 + j) (0 : Int)).map fun z => Value.int .i64 z)) ∧ Hid (v.ownBlock ≠ some w7.heap.size) ∧ w7.heap.size < wr.heap.size) (fun _ iv _ => 22 - (intOf iv).toNat)
                case atStart => exact ⟨[], 0, rfl, Nat.le_refl _, by omega, hD8, HNB, (fun e => by simp only [Value.ownBlock, Option.some.injEq] at e; omega), hnb8⟩
                case round =>
                  clear hD8 HNB hnb8 hg78
                  obtain ⟨l3, i, rfl, hl3, hi22, hdl, HNB, HAP, hnb⟩ := hrel
                  obtain ⟨a3, c3, rfl⟩ := hdl.form
                  go_wp2_with fail
                  refine (below_any g ao cap bs 2 _ hdl.cur (by omega)).mono ?_
                  rintro e w9 ⟨y9, rfl, y90, y91, hc9, hk9⟩
                  have hd9 := hdl.call hc9 hk9
                  have HN9 := hidden (own_keep HNB.out hk9 hlt7)
                  have hnb9 := Nat.lt_of_lt_of_le hnb hk9.size
                  clear hc9 hk9 hdl HNB hnb
                  by_cases hlt : (i : Int) < 20 + y9
                  · go_wp2_with (at_builtin; refine wpList_append_own_at _ rfl (.tmp 104) (.tmp 106) 24 rfl w6.heap.size 2 i0 (.int .i64 0) 1 8 Try.underlying24 hi0 hy0 hy1 hy2 rfl (by decide) _ l3.length (l3.map fun z => Value.int .i64 z) rfl (hd9.alloc _).own ⟨w9.heap.size, 0, none⟩ 1 1 [.int .i64 (i : Int)] rfl rfl (cell_oneD _ _ _) (by simp [Value.oneCell']) (by unfold maxLen; omega) (by omega) (by have := hd9.keep.size; simp; omega) ?_; intro v10 w10 ho10 hg10 hnn10 hat10; have hd10 := (hd9.alloc _).app ho10 hg10; have HN10 := hidden ((ownW_below HN9.out ((Below.refl _ w9).alloc (Nat.le_refl _) (.cells #[.int .i64 (i : Int)] 2))).kept hg10 (.inr (fun e => HAP.out e.symm))); have HAP10 : Hid (v10.ownBlock ≠ some w7.heap.size) := (fun e => by rcases hat10 with q | q; exact HAP.out (q ▸ e); rw [q] at e; simp at e; omega); have hnb10 : w7.heap.size < w10.heap.size := Nat.lt_of_lt_of_le (by simp; omega) hg10.size; clear ho10 hg10 hnn10 hat10)
                    go_roundw
                    case rel => exact ⟨l3 ++ [(i : Int)], i + 1, rfl, by simp; omega, by omega, hd10, HN10, HAP10, hnb10⟩
                    case measure => simp [intOf]; omega
                  · have hrow := hd9.row
                    have bel := hd9.keep.below (B := g) (Nat.le_refl _) (by omega)
                    go_wp2_with fail
                    refine bodyPost_ret (v := .tuple #[.int .i64 y', .slice a3 l3.length c3, .slice (some ⟨w7.heap.size, 0, none⟩) (100 + j) (100 + j)]) (by simp [results, Try.results18, go_sem]) rfl ?_
                    exact ⟨_, _, _, l3, List.replicate (100 + j) 0, rfl, hrow, (vownI HN9.out).row, by omega, by rw [List.length_replicate]; omega, by rw [hG]; exact hb6.trans bel⟩
end Go.Proofs.Ytecljmpojninfaa
