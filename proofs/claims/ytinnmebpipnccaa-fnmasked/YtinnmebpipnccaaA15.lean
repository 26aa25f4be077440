/-
  Counts and a bound, drawn of bytes.
-/
import Derived.Test.YtinnmebpipnccaaA14
import Derived.Deep.CutRange
import Derived.Maps.AppendAt
namespace Go.Proofs.Ytinnmebpipnccaa
open Go.RowKit Go.Maps Va Ax
set_option linter.all false

theorem made_intsA (n : Nat) : (madeCells (Value.int .i64 0).cells (n * 1)).toList = (List.replicate n (0 : Int)).map fun z => Value.int .i64 z := by
  rw [show (Value.int .i64 0).cells = #[Value.int .i64 0] from rfl, Nat.mul_one, toList_madeCells_one, List.map_replicate]

set_option maxRecDepth 20000 in
set_option maxHeartbeats 8000000 in
theorem dmasked_any (ao : Option Addr) (cap : Nat) (bs : List Int) (w : World) (hb : Bytes w w.heap.size ao bs) (hl : bs.length ≤ 1048576) :
    Calls Try.prog 8 #[.slice ao bs.length cap] w fun e w' => ∃ (v : Value) (l : List Int) (a : Int), e = .returned (.tuple #[v, .int .i64 a]) ∧ VOwn 1 cvI w' w.heap.size v l ∧ l.length ≤ 200 ∧ Below w.heap.size w w' := by
  obtain ⟨i0, hi0, hy0, hy1, hy2⟩ := info_partsW infoW64
  go_enter Try.func8, Try.ntmps8
  go_wp2_with fail
  refine (new_any ao cap bs w hb hl).mono ?_
  rintro e wN ⟨rfl, hcN, hbN⟩
  have HBN := hidden hbN
  have hgN : w.heap.size < wN.heap.size := hcN.1
  have h0 := DI.start hcN
  clear hbN hb
  generalize hG : w.heap.size = g at *
  generalize hwA : wN.alloc (.cells #[] 2) = wA at *
  go_wp2_with fail
  refine (below_any g ao cap bs 8 _ h0.cur (by omega)).mono ?_
  rintro e w1 ⟨y1, rfl, p1, q1, hc1, hk1⟩
  have h1 := h0.call hc1 hk1
  clear hwA h0 hc1 hk1
  obtain ⟨n1, rfl⟩ := Int.eq_ofNat_of_zero_le p1
  generalize hv0 : Value.slice (some ⟨wN.heap.size, 0, none⟩) 0 0 = v0 at *
  go_wp2_with fail
  go_loopw [5, 6] (fun v nv wr => ∃ (l : List Int) (k : Nat), nv = .int .i64 k ∧ l.length + k ≤ 8 ∧ DI wN wr g ao cap bs v l) (fun _ nv _ => (intOf nv).toNat)
  case atStart => exact ⟨[], n1, rfl, by simp; omega, h1⟩
  case round =>
    clear h1 hv0
    obtain ⟨l, k, rfl, hlk, hd⟩ := hrel
    obtain ⟨ad, c, rfl⟩ := hd.form
    by_cases hk0 : 0 < k
    · have hk1 : (0 : Int) < (k : Int) := by omega
      go_upto_region 6 with fail
      refine regM6 (V0 := .slice ad l.length c) (L := l) rfl rfl rfl hd (by omega) ?_
      intro b' w2 v' y hf hv hd2
      obtain ⟨ad2, c2, rfl⟩ := hd2.form
      rw [layM6 hf, hv]
      clear hv hf hd
      generalize Rg.out (Rg.opsOf Try.f8 6) b' 0 = o0
      generalize Rg.out (Rg.opsOf Try.f8 6) b' 1 = o1
      generalize Rg.out (Rg.opsOf Try.f8 6) b' 2 = o2
      generalize Rg.out (Rg.opsOf Try.f8 6) b' 3 = o3
      generalize Rg.out (Rg.opsOf Try.f8 6) b' 4 = o4
      generalize Rg.out (Rg.opsOf Try.f8 6) b' 5 = o5
      generalize Rg.out (Rg.opsOf Try.f8 6) b' 6 = o6
      generalize Rg.out (Rg.opsOf Try.f8 6) b' 7 = o7
      generalize Rg.out (Rg.opsOf Try.f8 6) b' 8 = o8
      generalize Rg.out (Rg.opsOf Try.f8 6) b' 9 = o9
      generalize Rg.out (Rg.opsOf Try.f8 6) b' 10 = o10
      go_frame
      go_wp2_with fail
      go_roundw
      case rel => exact ⟨l ++ [y], k - 1, by congr 1; omega, by simp; omega, hd2⟩
      case measure => simp [intOf]; omega
    · have hk1 : ¬ (0 : Int) < (k : Int) := by omega
      have hl7 : l.length ≤ 8 := by omega
      clear hlk p1 q1
      go_upto_if 31 with (first | (go_at_call 25; refine (below_any g ao cap bs 7 _ hd.cur (by omega)).mono ?_; rintro e w3 ⟨s3, rfl, s30, s31, hc3, hk3⟩; have hd3 := hd.call hc3 hk3) | (go_at_call 26; refine (once_any g ao cap bs 20 _ hd3.cur (by omega)).mono ?_; rintro e w4 ⟨t4, rfl, hc4, hk4⟩))
      have hd4 := hd3.call hc4 hk4
      clear hc4 hk4 hd3 hc3 hk3 hd
      go_cut [7] (fun v wx => ∃ s : Int, v = .int .i64 s ∧ DI wN wx g ao cap bs (.slice ad l.length c) l)
      case first =>
        rcases t4 with _ | _
        · go_wp2_with fail
          go_meet
          case rel => exact ⟨s3, rfl, hd4⟩
        · have hdT := hd4.alloc (.cells #[.int .i64 (-1), .int .i64 0, .int .i64 100, .int .i64 101] 2)
          have hgr := hd4.cur.1
          go_wp2_with fail
          refine (below_any g ao cap bs 4 _ hdT.cur (by omega)).mono ?_
          rintro e w5 ⟨a1, rfl, a10, a11, hc5, hk5⟩
          obtain ⟨j, rfl⟩ := Int.eq_ofNat_of_zero_le a10
          obtain ⟨z, hz⟩ := tab_at [-1, 0, 100, 101] w4 w5 g 2 hk5 hgr j (by simp; omega)
          have hd5 := hdT.call hc5 hk5
          clear hc5 hk5 hdT hd4
          go_wp2_with fail
          go_meet
          case rel => exact ⟨z, rfl, hd5⟩
      case rest =>
        clear hd4
        obtain ⟨s, rfl, hd5⟩ := hcut
        go_upto_if 38 with (go_at_call 26; refine (once_any g ao cap bs 24 _ hd5.cur (by omega)).mono ?_; rintro e w6 ⟨t6, rfl, hc6, hk6⟩)
        have hd6 := hd5.call hc6 hk6
        clear hc6 hk6 hd5
        go_cut [5] (fun v wx => ∃ l : List Int, l.length ≤ 9 ∧ DI wN wx g ao cap bs v l)
        case first =>
          rcases t6 with _ | _
          · go_wp2_with fail
            go_meet
            case rel => exact ⟨l, by omega, hd6⟩
          · have hdT := hd6.alloc (.cells #[.int .i64 (-1), .int .i64 100000, .int .i64 100001] 2)
            have hgr := hd6.cur.1
            go_wp2_with fail
            refine (below_any g ao cap bs 3 _ hdT.cur (by omega)).mono ?_
            rintro e w7 ⟨a1, rfl, a10, a11, hc5, hk5⟩
            obtain ⟨j, rfl⟩ := Int.eq_ofNat_of_zero_le a10
            obtain ⟨z, hz⟩ := tab_at [-1, 100000, 100001] w6 w7 g 2 hk5 hgr j (by simp; omega)
            have hd2 := hdT.call hc5 hk5
            clear hc5 hk5 hdT hd6
            go_wp2_with (at_builtin; refine wpList_append_own _ rfl (.tmp 39) (.tmp 45) 24 rfl wN.heap.size 2 i0 (.int .i64 0) 1 8 Try.underlying24 hi0 hy0 hy1 hy2 rfl (by decide) _ l.length (l.map fun z => Value.int .i64 z) rfl (hd2.alloc _).own ⟨w7.heap.size, 0, none⟩ 1 1 [.int .i64 z] rfl rfl (cell_oneD _ _ _) (by simp [Value.oneCell']) (by unfold maxLen; omega) (by omega) (by have := hd2.keep.size; simp; omega) ?_; intro v6 w6 ho6 hg6 hnn6; have hd6 := (hd2.alloc _).app ho6 hg6; clear ho6 hg6 hnn6)
            go_meet
            case rel => exact ⟨l ++ [z], by simp; omega, hd6⟩
        case rest =>
          clear hd6
          obtain ⟨l2, hl2, hd7⟩ := hcut
          obtain ⟨ad2, c2, rfl⟩ := hd7.form
          go_upto_if 48 with (go_at_call 26; refine (once_any g ao cap bs 60 _ hd7.cur (by omega)).mono ?_; rintro e w8 ⟨t8, rfl, hc6, hk6⟩)
          have hd6 := hd7.call hc6 hk6
          clear hc6 hk6 hd7
          go_cut [5] (fun v wx => ∃ l : List Int, l.length ≤ 200 ∧ DI wN wx g ao cap bs v l)
          case first =>
            rcases t8 with _ | _
            · go_wp2_with fail
              go_meet
              case rel => exact ⟨l2, by omega, hd6⟩
            · go_wp2_with fail
              refine (below_any g ao cap bs 2 _ hd6.cur (by omega)).mono ?_
              rintro e w7 ⟨y7, rfl, y70, y71, hc7, hk7⟩
              obtain ⟨j, rfl⟩ := Int.eq_ofNat_of_zero_le y70
              have hd7 := hd6.call hc7 hk7
              have hs7 := hd7.keep.size
              clear hc7 hk7 hd6
              go_wp2_with (refine wpList_make_full _ rfl (.tmp 51) (.tmp 51) 24 rfl wN.heap.size 2 i0 (.int .i64 0) 1 Try.underlying24 hi0 hy0 hy1 .i64 .i64 _ _ (100 + j) rfl rfl (by omega) (by omega) (by rw [hy2]; omega) (by unfold maxLen; omega) (by omega) ?_; intro w8 ho8 hg8; rw [made_intsA] at ho8; have hd8 := hd7.grownT (n := 0) (l' := List.replicate (100 + j) 0) (by rw [List.length_replicate]; exact ho8) hg8; clear ho8 hg8)
              go_meet
              case rel => exact ⟨List.replicate (100 + j) 0, by rw [List.length_replicate]; omega, hd8⟩
          case rest =>
            clear hd6
            obtain ⟨l3, hl3, hd9⟩ := hcut
            obtain ⟨ad3, c3, rfl⟩ := hd9.form
            have hrow := (vownI hd9.own).base_le (show g ≤ wN.heap.size by omega)
            have bel := hd9.keep.below (B := g) (Nat.le_refl _) (by omega)
            go_wp2_with fail
            refine bodyPost_ret (v := .tuple #[.slice ad3 l3.length c3, .int .i64 s]) (by simp [results, Try.results8, go_sem]) rfl ?_
            exact ⟨_, l3, _, rfl, by rw [hG]; exact hrow, hl3, by rw [hG]; exact HBN.out.trans bel⟩
end Go.Proofs.Ytinnmebpipnccaa
