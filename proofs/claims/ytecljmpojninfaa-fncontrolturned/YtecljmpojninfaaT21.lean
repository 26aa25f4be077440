/-
  Codes and a place, drawn of bytes; the walk of the law on trust.
-/
import Derived.Test.YtecljmpojninfaaT20
import Derived.Test.YtecljmpojninfaaT3
namespace Go.Proofs.Ytecljmpojninfaa
open Go.RowKit Va Lb
set_option linter.all false

theorem made_ints (n : Nat) : (madeCells (Value.int .i64 0).cells (n * 1)).toList = (List.replicate n (0 : Int)).map fun z => Value.int .i64 z := by
  rw [show (Value.int .i64 0).cells = #[Value.int .i64 0] from rfl, Nat.mul_one, toList_madeCells_one, List.map_replicate]

set_option maxRecDepth 20000 in
set_option maxHeartbeats 4000000 in
theorem dtrusted_any (ao : Option Addr) (cap : Nat) (bs : List Int) (w : World) (hb : Bytes w w.heap.size ao bs) (hl : bs.length ≤ 1048576) :
    Calls Try.prog 14 #[.slice ao bs.length cap] w fun e w' => ∃ (v : Value) (l : List Int) (a : Int), e = .returned (.tuple #[v, .int .i64 a]) ∧ w'.ownsRow w.heap.size 2 1 v l.length (l.map fun z => Value.int .i64 z) ∧ l.length ≤ 2001 ∧ -10 ≤ a ∧ a ≤ 3000 ∧ Below w.heap.size w w' := by
  obtain ⟨i0, hi0, hy0, hy1, hy2⟩ := info_partsW infoW64
  go_enter Try.func14, Try.ntmps14
  go_wp2_with fail
  refine (new_any ao cap bs w hb hl).mono ?_
  rintro e wN ⟨rfl, hcN, hbN⟩
  have HBN := hidden hbN
  have hgN : w.heap.size < wN.heap.size := hcN.1
  have h0 := DI.start hcN
  clear hbN hb
  generalize hG : w.heap.size = g at *
  generalize hwA : wN.alloc (.cells #[] 2) = wA at *
  go_wp2_with fail
  refine (below_any g ao cap bs 10 _ h0.cur (by omega)).mono ?_
  rintro e w1 ⟨y1, rfl, p1, q1, hc1, hk1⟩
  have h1 := h0.call hc1 hk1
  clear hwA h0 hc1 hk1
  obtain ⟨n1, rfl⟩ := Int.eq_ofNat_of_zero_le p1
  generalize hv0 : Value.slice (some ⟨wN.heap.size, 0, none⟩) 0 0 = v0 at *
  go_wp2_with fail
  go_loopw [5, 6] (fun v nv wr => ∃ (l : List Int) (k : Nat), nv = .int .i64 k ∧ l.length + k ≤ 10 ∧ DI wN wr g ao cap bs v l) (fun _ nv _ => (intOf nv).toNat)
  case atStart => exact ⟨[], n1, rfl, by simp; omega, h1⟩
  case round =>
    clear h1 hv0
    obtain ⟨l, k, rfl, hlk, hd⟩ := hrel
    obtain ⟨ad, c, rfl⟩ := hd.form
    by_cases hk0 : 0 < k
    · have hk1 : (0 : Int) < (k : Int) := by omega
      have hdT := hd.alloc (.cells #[.int .i64 0, .int .i64 0, .int .i64 0, .int .i64 0, .int .i64 1, .int .i64 2, .int .i64 5, .int .i64 6, .int .i64 6] 2)
      have hgr := hd.cur.1
      go_wp2_with fail
      refine (below_any g ao cap bs 9 _ hdT.cur (by omega)).mono ?_
      rintro e w2 ⟨a1, rfl, a10, a11, hc2, hk2⟩
      obtain ⟨j, rfl⟩ := Int.eq_ofNat_of_zero_le a10
      obtain ⟨z, hz⟩ := tab_at [0, 0, 0, 0, 1, 2, 5, 6, 6] wr w2 g 2 hk2 hgr j (by simp; omega)
      have hd2 := hdT.call hc2 hk2
      clear hc2 hk2 hd hdT
      go_wp2_with (at_builtin; refine wpList_append_own _ rfl (.tmp 16) (.tmp 22) 24 rfl wN.heap.size 2 i0 (.int .i64 0) 1 8 Try.underlying24 hi0 hy0 hy1 hy2 rfl (by decide) _ l.length (l.map fun z => Value.int .i64 z) rfl (hd2.alloc _).own ⟨w2.heap.size, 0, none⟩ 1 1 [.int .i64 z] rfl rfl (cell_oneD _ _ _) (by simp [Value.oneCell']) (by unfold maxLen; omega) (by omega) (by have := hd2.keep.size; simp; omega) ?_; intro v6 w6 ho6 hg6 hnn6; have hd6 := (hd2.alloc _).app ho6 hg6; clear ho6 hg6 hnn6)
      go_roundw
      case rel => exact ⟨l ++ [z], k - 1, by congr 1; omega, by simp; omega, hd6⟩
      case measure => simp [intOf]; omega
    · have hk1 : ¬ (0 : Int) < (k : Int) := by omega
      have hl7 : l.length ≤ 10 := by omega
      clear hlk p1 q1
      go_upto_if 25 with (go_at_call 36; refine (once_any g ao cap bs 20 _ hd.cur (by omega)).mono ?_; rintro e w4 ⟨t4, rfl, hc4, hk4⟩)
      have hd4 := hd.call hc4 hk4
      clear hc4 hk4 hd
      go_cut [5] (fun v wx => ∃ l : List Int, l.length ≤ 11 ∧ DI wN wx g ao cap bs v l)
      case first =>
        rcases t4 with _ | _
        · go_wp2_with fail
          go_meet
          case rel => exact ⟨l, by omega, hd4⟩
        · go_wp2_with fail
          refine (odd_any g ao cap bs _ hd4.cur).mono ?_
          rintro e w5 ⟨z, rfl, hc5, hk5⟩
          have hd2 := hd4.call hc5 hk5
          clear hc5 hk5 hd4
          go_wp2_with (at_builtin; refine wpList_append_own _ rfl (.tmp 26) (.tmp 29) 24 rfl wN.heap.size 2 i0 (.int .i64 0) 1 8 Try.underlying24 hi0 hy0 hy1 hy2 rfl (by decide) _ l.length (l.map fun z => Value.int .i64 z) rfl (hd2.alloc _).own ⟨w5.heap.size, 0, none⟩ 1 1 [.int .i64 z] rfl rfl (cell_oneD _ _ _) (by simp [Value.oneCell']) (by unfold maxLen; omega) (by omega) (by have := hd2.keep.size; simp; omega) ?_; intro v6 w6 ho6 hg6 hnn6; have hd6 := (hd2.alloc _).app ho6 hg6; clear ho6 hg6 hnn6)
          go_meet
          case rel => exact ⟨l ++ [z], by simp; omega, hd6⟩
      case rest =>
        clear hd4
        obtain ⟨l2, hl2, hd5⟩ := hcut
        obtain ⟨ad2, c2, rfl⟩ := hd5.form
        go_upto_if 32 with (go_at_call 36; refine (once_any g ao cap bs 60 _ hd5.cur (by omega)).mono ?_; rintro e w6 ⟨t6, rfl, hc6, hk6⟩)
        have hd6 := hd5.call hc6 hk6
        clear hc6 hk6 hd5
        go_cut [5] (fun v wx => ∃ l : List Int, l.length ≤ 2001 ∧ DI wN wx g ao cap bs v l)
        case first =>
          rcases t6 with _ | _
          · go_wp2_with fail
            go_meet
            case rel => exact ⟨l2, by omega, hd6⟩
          · go_wp2_with fail
            refine (below_any g ao cap bs 2 _ hd6.cur (by omega)).mono ?_
            rintro e w7 ⟨y7, rfl, y70, y71, hc7, hk7⟩
            obtain ⟨j, rfl⟩ := Int.eq_ofNat_of_zero_le y70
            have hd7 := hd6.call hc7 hk7
            have hs7 := hd7.keep.size
            clear hc7 hk7 hd6
            go_wp2_with (refine wpList_make_full _ rfl (.tmp 35) (.tmp 35) 24 rfl wN.heap.size 2 i0 (.int .i64 0) 1 Try.underlying24 hi0 hy0 hy1 .i64 .i64 _ _ (2000 + j) rfl rfl (by omega) (by omega) (by rw [hy2]; omega) (by unfold maxLen; omega) (by omega) ?_; intro w8 ho8 hg8; rw [made_ints] at ho8; have hd8 := hd7.grownT (n := 0) (l' := List.replicate (2000 + j) 0) (by rw [List.length_replicate]; exact ho8) hg8; clear ho8 hg8)
            go_meet
            case rel => exact ⟨List.replicate (2000 + j) 0, by rw [List.length_replicate]; omega, hd8⟩
        case rest =>
          clear hd6
          obtain ⟨l3, hl3, hd7⟩ := hcut
          obtain ⟨ad3, c3, rfl⟩ := hd7.form
          go_wp2_with fail
          refine (from_any g ao cap bs (-1) 4 _ hd7.cur (by omega) (by omega) (by omega)).mono ?_
          rintro e w9 ⟨y9, rfl, y90, y91, hc9, hk9⟩
          have hd9 := hd7.call hc9 hk9
          have hrow := ownW_base hd9.own (show g ≤ wN.heap.size by omega)
          have bel := hd9.keep.below (B := g) (Nat.le_refl _) (by omega)
          clear hc9 hk9 hd7
          go_wp2_with fail
          refine bodyPost_ret (v := .tuple #[.slice ad3 l3.length c3, .int .i64 ((l3.length : Int) - 1 - y9)]) (by simp [results, Try.results14, go_sem]) rfl ?_
          exact ⟨_, l3, _, rfl, by rw [hG]; exact hrow, hl3, by omega, by omega, by rw [hG]; exact HBN.out.trans bel⟩
end Go.Proofs.Ytecljmpojninfaa
