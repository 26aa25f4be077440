/-
  The book of a cupboard: the specification; its answer is no nil slice.
-/
import Derived.Test.YtkejjlgeiaeicaaUb1
import Derived.Test.YtkejjlgeiaeicaaGx
import Derived.Test.YtkejjlgeiaeicaaGw
namespace Go.Proofs.Ytkejjlgeiaeicaa
open Go.RowKit Va Ua
set_option linter.all false

theorem ownB_some {w : World} {b e s n : Nat} {ad : Option Addr} {c : Nat} {xs : List Value} (h : w.ownsRow b e s (.slice ad (n + 1) c) (n + 1) xs) : ∃ G, ad = some ⟨G, 0, none⟩ := by
  obtain ⟨_, ⟨h1, _⟩ | ⟨g, cap, cur, h1, _⟩⟩ := h
  · cases h1
  · simp only [Value.slice.injEq] at h1
    exact ⟨g, h1.1⟩

set_option maxRecDepth 20000 in
set_option maxHeartbeats 8000000 in
theorem sbookS_any (s : Int) (ao : Option Addr) (len cap : Nat) (l : List Ln) (w : World) (h : Rw 4 csLn w (.slice ao len cap) l) (hl : l.length ≤ 1048576) :
    Calls Try.prog 9 #[.int .i64 s, .slice ao len cap] w fun e w' => ∃ G c, e = .returned (.slice (some ⟨G, 0, none⟩) (book s l).length c) ∧ w'.ownsRow w.heap.size 2 1 (.slice (some ⟨G, 0, none⟩) (book s l).length c) (book s l).length ((book s l).map fun z => Value.int .i64 z) ∧ Below w.heap.size w w' := by
  obtain rfl := h.len
  have h1 := lin_any s 0 1000000000
  have k1 : Hid (rng s 0 1000000000 = true → 0 ≤ s ∧ s ≤ 1000000000) := rng_iff.1
  have HV : Hid (book s l = if rng s 0 1000000000 = true ∧ l.length ≤ 1000 then told s l else []) := rfl
  have HR := hidden h
  obtain ⟨i0, hi0, hv0, hv1, hv2⟩ := info_partsW infoW64
  have HO := hidden (ownW_new w 2 1)
  have HB : Hid (Below w.heap.size w (w.alloc (.cells #[] 2))) := (Below.refl _ _).alloc (Nat.le_refl _) _
  clear h
  generalize book s l = R at *
  generalize rng s 0 1000000000 = t at *
  rcases t with _ | _
  · have HN : Hid (R = []) := by rw [Hid, HV.out]; simp
    go_enter Try.func9, Try.ntmps9
    go_wp2_with (with_reducible (refine (h1 _).mono ?_); rintro e w1 ⟨rfl, rfl⟩)
    go_ret
    rw [HN.out]
    exact ⟨_, _, rfl, HO.out, HB.out⟩
  by_cases hbig : (1000 : Int) < (l.length : Int)
  · have HN : Hid (R = []) := by rw [Hid, HV.out, if_neg (by omega)]
    go_enter Try.func9, Try.ntmps9
    go_wp2_with (with_reducible (refine (h1 _).mono ?_); rintro e w1 ⟨rfl, rfl⟩)
    go_ret
    rw [HN.out]
    exact ⟨_, _, rfl, HO.out, HB.out⟩
  obtain ⟨s0, s1⟩ := k1.out rfl
  have HN : Hid (R = told s l) := by rw [Hid, HV.out, if_pos ⟨rfl, by omega⟩]
  have hl1 : l.length ≤ 1000 := by omega
  clear HV k1
  go_enter Try.func9, Try.ntmps9
  go_wp2_with (with_reducible (refine (h1 _).mono ?_); rintro e w1 ⟨rfl, rfl⟩)
  go_loopw [5, 6, 7, 8] (fun sv nv iv _ wr => ∃ (i : Nat) (n : Int), i ≤ l.length ∧ iv = .int .i64 i ∧ nv = .int .i64 n ∧ Hid (n = left s (l.take i)) ∧ (∃ G c, sv = .slice (some ⟨G, 0, none⟩) (told s (l.take i)).length c ∧ wr.ownsRow w.heap.size 2 1 (.slice (some ⟨G, 0, none⟩) (told s (l.take i)).length c) (told s (l.take i)).length ((told s (l.take i)).map fun z => Value.int .i64 z)) ∧ Below w.heap.size w wr) (fun _ _ iv _ _ => l.length - (intOf iv).toNat)
  case atStart => exact ⟨0, s, Nat.zero_le _, rfl, rfl, rfl, ⟨_, _, rfl, HO.out⟩, HB.out⟩
  case round =>
    clear HO HB
    obtain ⟨i, n, hi, rfl, rfl, HNl, ⟨G, c, rfl, ho⟩, hb⟩ := hrel
    have hsz := hb.size
    have hnb : 0 ≤ n ∧ n ≤ 1000000000 := by rw [HNl.out]; exact left_bd s0 s1 _
    obtain ⟨n0, n1⟩ := hnb
    have htl : (told s (l.take i)).length ≤ 1000 := by rw [told_len, List.length_take]; omega
    by_cases hlt : i < l.length
    · have hlti : (i : Int) < (l.length : Int) := by omega
      obtain ⟨x, hx⟩ := some_of l i hlt
      obtain ⟨g, off, rfl, hg, hcs⟩ := (HR.out.below hb).at hx
      have c0 : wr.cell? ⟨g, off + i * 4, none⟩ = some (.int .i64 x.k) := hcs 0 (by omega)
      have c1 : wr.cell? ⟨g, off + i * 4 + 1, none⟩ = some (.int .i64 x.n) := hcs 1 (by omega)
      have c2 : wr.cell? ⟨g, off + i * 4 + 2, none⟩ = some (.int .i64 x.b) := hcs 2 (by omega)
      have c3 : wr.cell? ⟨g, off + i * 4 + 3, none⟩ = some (.int .i64 x.a) := hcs 3 (by omega)
      have HX := hidden hx
      have HN := hidden HNl.out.symm
      have HO := hidden ho
      have hK := sline_any x
      unfold aLn at hK
      have bx : Below wr.heap.size wr (wr.alloc (.cells #[.int .i64 x.k, .int .i64 x.n, .int .i64 x.b, .int .i64 x.a] 30)) := (Below.refl _ _).alloc (Nat.le_refl _) _
      have HPX := hidden (PB.new wr #[.int .i64 x.k, .int .i64 x.n, .int .i64 x.b, .int .i64 x.a] 30)
      clear hx hcs ho HNl
      cases hp : lineB x with
      | false =>
        rw [hp] at hK
        have HS : Hid (stepL n x = (-1, n)) := by
          rw [Hid]
          unfold stepL; rw [if_pos hp]
        have HT1 : Hid (told s (l.take (i + 1)) = told s (l.take i) ++ [-1]) := by rw [Hid, told_take HX.out, HN.out, HS.out]
        have HN1 : Hid (n = left s (l.take (i + 1))) := by rw [Hid, left_take HX.out, HN.out, HS.out]
        clear HS
        go_wp2_with (first | (go_at_call 27; refine (hK _).mono ?_; rintro e w4 ⟨rfl, hb4⟩; have b4 := onto (show Below w.heap.size w _ from by repeat (first | exact Below.refl _ _ | assumption | refine st_drew ?_ | refine st_drewN ?_ _ | refine Below.setCell ?_ (by first | omega | (simp; done) | (simp; omega)) _ | refine Below.alloc ?_ (by first | omega | (simp; done) | (simp; omega)) _)) hb4; have HO2 := hidden (ownW_below HO.out (onto bx hb4)); have hz4 := b4.size; obtain ⟨e0, e1, e2, e3⟩ := (HPX.out.below hb4).four) | (at_builtin; refine wpList_append_own _ rfl (.tmp 53) (.tmp 54) 27 rfl w.heap.size 2 i0 (.int .i64 0) 1 8 Try.underlying27 hi0 hv0 hv1 hv2 rfl (by decide) _ (told s (l.take i)).length ((told s (l.take i)).map fun z => Value.int .i64 z) rfl (HO2.out.alloc _) ⟨w4.heap.size, 0, none⟩ 1 1 [.int .i64 (-1)] rfl rfl (cell_oneW _ _ _) (by simp [Value.oneCell']) (by unfold maxLen; omega) (by omega) (by simp; omega) ?_; intro v5 w5 ho5 hg5 hn5; obtain ⟨ad5, c5, rfl⟩ := ownW_slice ho5; obtain ⟨G5, rfl⟩ := ownB_some ho5))
        have b5 := (b4.alloc hz4 (.cells #[.int .i64 (-1)] 2)).grown hg5 (by simp; omega) (fun k hk => (ownW_lt HO2.out k hk).1)
        go_roundw
        case rel => exact ⟨i + 1, n, by omega, rfl, rfl, HN1, ⟨_, _, by rw [HT1.out, List.length_append]; rfl, by rw [HT1.out, List.map_append, List.length_append]; exact ho5⟩, b5⟩
        case measure => simp [intOf]; omega
      | true =>
        rw [hp] at hK
        have hp2 := hp
        simp only [lineB, Bool.and_eq_true, rng_iff] at hp2
        obtain ⟨⟨x0, x1⟩, ⟨y0, y1⟩, -⟩ := hp2
        have y2 : 0 ≤ x.n := by split at y0 <;> omega
        clear y0
        obtain ⟨xk, xn, xb, xa⟩ := x
        dsimp only at x0 x1 y1 y2 c0 c1 c2 c3 hK HPX bx
        rcases (show xk = 1 ∨ xk = 2 ∨ xk = 3 ∨ xk = 4 by omega) with rfl | rfl | rfl | rfl
        · by_cases q : 1000000000 < n + xn
          · have HS : Hid (stepL n ⟨1, xn, xb, xa⟩ = (-3, n)) := by
              rw [Hid]
              unfold stepL; rw [if_neg (by rw [hp]; simp)]; simp [q]
            have HT1 : Hid (told s (l.take (i + 1)) = told s (l.take i) ++ [-3]) := by rw [Hid, told_take HX.out, HN.out, HS.out]
            have HN1 : Hid (n = left s (l.take (i + 1))) := by rw [Hid, left_take HX.out, HN.out, HS.out]
            clear HS
            go_wp2_with (first | (go_at_call 27; refine (hK _).mono ?_; rintro e w4 ⟨rfl, hb4⟩; have b4 := onto (show Below w.heap.size w _ from by repeat (first | exact Below.refl _ _ | assumption | refine st_drew ?_ | refine st_drewN ?_ _ | refine Below.setCell ?_ (by first | omega | (simp; done) | (simp; omega)) _ | refine Below.alloc ?_ (by first | omega | (simp; done) | (simp; omega)) _)) hb4; have HO2 := hidden (ownW_below HO.out (onto bx hb4)); have hz4 := b4.size; obtain ⟨e0, e1, e2, e3⟩ := (HPX.out.below hb4).four) | (at_builtin; refine wpList_append_own _ rfl (.tmp 85) (.tmp 86) 27 rfl w.heap.size 2 i0 (.int .i64 0) 1 8 Try.underlying27 hi0 hv0 hv1 hv2 rfl (by decide) _ (told s (l.take i)).length ((told s (l.take i)).map fun z => Value.int .i64 z) rfl (HO2.out.alloc _) ⟨w4.heap.size, 0, none⟩ 1 1 [.int .i64 (-3)] rfl rfl (cell_oneW _ _ _) (by simp [Value.oneCell']) (by unfold maxLen; omega) (by omega) (by simp; omega) ?_; intro v5 w5 ho5 hg5 hn5; obtain ⟨ad5, c5, rfl⟩ := ownW_slice ho5; obtain ⟨G5, rfl⟩ := ownB_some ho5))
            have b5 := (b4.alloc hz4 (.cells #[.int .i64 (-3)] 2)).grown hg5 (by simp; omega) (fun k hk => (ownW_lt HO2.out k hk).1)
            go_roundw
            case rel => exact ⟨i + 1, n, by omega, rfl, rfl, HN1, ⟨_, _, by rw [HT1.out, List.length_append]; rfl, by rw [HT1.out, List.map_append, List.length_append]; exact ho5⟩, b5⟩
            case measure => simp [intOf]; omega
          · have HS : Hid (stepL n ⟨1, xn, xb, xa⟩ = (n + xn, n + xn)) := by
              rw [Hid]
              unfold stepL; rw [if_neg (by rw [hp]; simp)]; simp [q]
            have HT1 : Hid (told s (l.take (i + 1)) = told s (l.take i) ++ [n + xn]) := by rw [Hid, told_take HX.out, HN.out, HS.out]
            have HN1 : Hid (n + xn = left s (l.take (i + 1))) := by rw [Hid, left_take HX.out, HN.out, HS.out]
            clear HS
            go_wp2_with (first | (go_at_call 27; refine (hK _).mono ?_; rintro e w4 ⟨rfl, hb4⟩; have b4 := onto (show Below w.heap.size w _ from by repeat (first | exact Below.refl _ _ | assumption | refine st_drew ?_ | refine st_drewN ?_ _ | refine Below.setCell ?_ (by first | omega | (simp; done) | (simp; omega)) _ | refine Below.alloc ?_ (by first | omega | (simp; done) | (simp; omega)) _)) hb4; have HO2 := hidden (ownW_below HO.out (onto bx hb4)); have hz4 := b4.size; obtain ⟨e0, e1, e2, e3⟩ := (HPX.out.below hb4).four) | (at_builtin; refine wpList_append_own _ rfl (.tmp 45) (.tmp 47) 27 rfl w.heap.size 2 i0 (.int .i64 0) 1 8 Try.underlying27 hi0 hv0 hv1 hv2 rfl (by decide) _ (told s (l.take i)).length ((told s (l.take i)).map fun z => Value.int .i64 z) rfl (HO2.out.alloc _) ⟨w4.heap.size, 0, none⟩ 1 1 [.int .i64 (n + xn)] rfl rfl (cell_oneW _ _ _) (by simp [Value.oneCell']) (by unfold maxLen; omega) (by omega) (by simp; omega) ?_; intro v5 w5 ho5 hg5 hn5; obtain ⟨ad5, c5, rfl⟩ := ownW_slice ho5; obtain ⟨G5, rfl⟩ := ownB_some ho5))
            have b5 := (b4.alloc hz4 (.cells #[.int .i64 (n + xn)] 2)).grown hg5 (by simp; omega) (fun k hk => (ownW_lt HO2.out k hk).1)
            go_roundw
            case rel => exact ⟨i + 1, n + xn, by omega, rfl, rfl, HN1, ⟨_, _, by rw [HT1.out, List.length_append]; rfl, by rw [HT1.out, List.map_append, List.length_append]; exact ho5⟩, b5⟩
            case measure => simp [intOf]; omega
        · by_cases q : n < xn
          · have HS : Hid (stepL n ⟨2, xn, xb, xa⟩ = (-2, n)) := by
              rw [Hid]
              unfold stepL; rw [if_neg (by rw [hp]; simp)]; simp [q]
            have HT1 : Hid (told s (l.take (i + 1)) = told s (l.take i) ++ [-2]) := by rw [Hid, told_take HX.out, HN.out, HS.out]
            have HN1 : Hid (n = left s (l.take (i + 1))) := by rw [Hid, left_take HX.out, HN.out, HS.out]
            clear HS
            go_wp2_with (first | (go_at_call 27; refine (hK _).mono ?_; rintro e w4 ⟨rfl, hb4⟩; have b4 := onto (show Below w.heap.size w _ from by repeat (first | exact Below.refl _ _ | assumption | refine st_drew ?_ | refine st_drewN ?_ _ | refine Below.setCell ?_ (by first | omega | (simp; done) | (simp; omega)) _ | refine Below.alloc ?_ (by first | omega | (simp; done) | (simp; omega)) _)) hb4; have HO2 := hidden (ownW_below HO.out (onto bx hb4)); have hz4 := b4.size; obtain ⟨e0, e1, e2, e3⟩ := (HPX.out.below hb4).four) | (at_builtin; refine wpList_append_own _ rfl (.tmp 71) (.tmp 72) 27 rfl w.heap.size 2 i0 (.int .i64 0) 1 8 Try.underlying27 hi0 hv0 hv1 hv2 rfl (by decide) _ (told s (l.take i)).length ((told s (l.take i)).map fun z => Value.int .i64 z) rfl (HO2.out.alloc _) ⟨w4.heap.size, 0, none⟩ 1 1 [.int .i64 (-2)] rfl rfl (cell_oneW _ _ _) (by simp [Value.oneCell']) (by unfold maxLen; omega) (by omega) (by simp; omega) ?_; intro v5 w5 ho5 hg5 hn5; obtain ⟨ad5, c5, rfl⟩ := ownW_slice ho5; obtain ⟨G5, rfl⟩ := ownB_some ho5))
            have b5 := (b4.alloc hz4 (.cells #[.int .i64 (-2)] 2)).grown hg5 (by simp; omega) (fun k hk => (ownW_lt HO2.out k hk).1)
            go_roundw
            case rel => exact ⟨i + 1, n, by omega, rfl, rfl, HN1, ⟨_, _, by rw [HT1.out, List.length_append]; rfl, by rw [HT1.out, List.map_append, List.length_append]; exact ho5⟩, b5⟩
            case measure => simp [intOf]; omega
          · have HS : Hid (stepL n ⟨2, xn, xb, xa⟩ = (n - xn, n - xn)) := by
              rw [Hid]
              unfold stepL; rw [if_neg (by rw [hp]; simp)]; simp [q]
            have HT1 : Hid (told s (l.take (i + 1)) = told s (l.take i) ++ [n - xn]) := by rw [Hid, told_take HX.out, HN.out, HS.out]
            have HN1 : Hid (n - xn = left s (l.take (i + 1))) := by rw [Hid, left_take HX.out, HN.out, HS.out]
            clear HS
            go_wp2_with (first | (go_at_call 27; refine (hK _).mono ?_; rintro e w4 ⟨rfl, hb4⟩; have b4 := onto (show Below w.heap.size w _ from by repeat (first | exact Below.refl _ _ | assumption | refine st_drew ?_ | refine st_drewN ?_ _ | refine Below.setCell ?_ (by first | omega | (simp; done) | (simp; omega)) _ | refine Below.alloc ?_ (by first | omega | (simp; done) | (simp; omega)) _)) hb4; have HO2 := hidden (ownW_below HO.out (onto bx hb4)); have hz4 := b4.size; obtain ⟨e0, e1, e2, e3⟩ := (HPX.out.below hb4).four) | (at_builtin; refine wpList_append_own _ rfl (.tmp 45) (.tmp 47) 27 rfl w.heap.size 2 i0 (.int .i64 0) 1 8 Try.underlying27 hi0 hv0 hv1 hv2 rfl (by decide) _ (told s (l.take i)).length ((told s (l.take i)).map fun z => Value.int .i64 z) rfl (HO2.out.alloc _) ⟨w4.heap.size, 0, none⟩ 1 1 [.int .i64 (n - xn)] rfl rfl (cell_oneW _ _ _) (by simp [Value.oneCell']) (by unfold maxLen; omega) (by omega) (by simp; omega) ?_; intro v5 w5 ho5 hg5 hn5; obtain ⟨ad5, c5, rfl⟩ := ownW_slice ho5; obtain ⟨G5, rfl⟩ := ownB_some ho5))
            have b5 := (b4.alloc hz4 (.cells #[.int .i64 (n - xn)] 2)).grown hg5 (by simp; omega) (fun k hk => (ownW_lt HO2.out k hk).1)
            go_roundw
            case rel => exact ⟨i + 1, n - xn, by omega, rfl, rfl, HN1, ⟨_, _, by rw [HT1.out, List.length_append]; rfl, by rw [HT1.out, List.map_append, List.length_append]; exact ho5⟩, b5⟩
            case measure => simp [intOf]; omega
        · by_cases q : n < xn
          · have HS : Hid (stepL n ⟨3, xn, xb, xa⟩ = (-2, n)) := by
              rw [Hid]
              unfold stepL; rw [if_neg (by rw [hp]; simp)]; simp [q]
            have HT1 : Hid (told s (l.take (i + 1)) = told s (l.take i) ++ [-2]) := by rw [Hid, told_take HX.out, HN.out, HS.out]
            have HN1 : Hid (n = left s (l.take (i + 1))) := by rw [Hid, left_take HX.out, HN.out, HS.out]
            clear HS
            go_wp2_with (first | (go_at_call 27; refine (hK _).mono ?_; rintro e w4 ⟨rfl, hb4⟩; have b4 := onto (show Below w.heap.size w _ from by repeat (first | exact Below.refl _ _ | assumption | refine st_drew ?_ | refine st_drewN ?_ _ | refine Below.setCell ?_ (by first | omega | (simp; done) | (simp; omega)) _ | refine Below.alloc ?_ (by first | omega | (simp; done) | (simp; omega)) _)) hb4; have HO2 := hidden (ownW_below HO.out (onto bx hb4)); have hz4 := b4.size; obtain ⟨e0, e1, e2, e3⟩ := (HPX.out.below hb4).four) | (at_builtin; refine wpList_append_own _ rfl (.tmp 71) (.tmp 72) 27 rfl w.heap.size 2 i0 (.int .i64 0) 1 8 Try.underlying27 hi0 hv0 hv1 hv2 rfl (by decide) _ (told s (l.take i)).length ((told s (l.take i)).map fun z => Value.int .i64 z) rfl (HO2.out.alloc _) ⟨w4.heap.size, 0, none⟩ 1 1 [.int .i64 (-2)] rfl rfl (cell_oneW _ _ _) (by simp [Value.oneCell']) (by unfold maxLen; omega) (by omega) (by simp; omega) ?_; intro v5 w5 ho5 hg5 hn5; obtain ⟨ad5, c5, rfl⟩ := ownW_slice ho5; obtain ⟨G5, rfl⟩ := ownB_some ho5))
            have b5 := (b4.alloc hz4 (.cells #[.int .i64 (-2)] 2)).grown hg5 (by simp; omega) (fun k hk => (ownW_lt HO2.out k hk).1)
            go_roundw
            case rel => exact ⟨i + 1, n, by omega, rfl, rfl, HN1, ⟨_, _, by rw [HT1.out, List.length_append]; rfl, by rw [HT1.out, List.map_append, List.length_append]; exact ho5⟩, b5⟩
            case measure => simp [intOf]; omega
          · have HS : Hid (stepL n ⟨3, xn, xb, xa⟩ = (n - xn, n - xn)) := by
              rw [Hid]
              unfold stepL; rw [if_neg (by rw [hp]; simp)]; simp [q]
            have HT1 : Hid (told s (l.take (i + 1)) = told s (l.take i) ++ [n - xn]) := by rw [Hid, told_take HX.out, HN.out, HS.out]
            have HN1 : Hid (n - xn = left s (l.take (i + 1))) := by rw [Hid, left_take HX.out, HN.out, HS.out]
            clear HS
            go_wp2_with (first | (go_at_call 27; refine (hK _).mono ?_; rintro e w4 ⟨rfl, hb4⟩; have b4 := onto (show Below w.heap.size w _ from by repeat (first | exact Below.refl _ _ | assumption | refine st_drew ?_ | refine st_drewN ?_ _ | refine Below.setCell ?_ (by first | omega | (simp; done) | (simp; omega)) _ | refine Below.alloc ?_ (by first | omega | (simp; done) | (simp; omega)) _)) hb4; have HO2 := hidden (ownW_below HO.out (onto bx hb4)); have hz4 := b4.size; obtain ⟨e0, e1, e2, e3⟩ := (HPX.out.below hb4).four) | (at_builtin; refine wpList_append_own _ rfl (.tmp 45) (.tmp 47) 27 rfl w.heap.size 2 i0 (.int .i64 0) 1 8 Try.underlying27 hi0 hv0 hv1 hv2 rfl (by decide) _ (told s (l.take i)).length ((told s (l.take i)).map fun z => Value.int .i64 z) rfl (HO2.out.alloc _) ⟨w4.heap.size, 0, none⟩ 1 1 [.int .i64 (n - xn)] rfl rfl (cell_oneW _ _ _) (by simp [Value.oneCell']) (by unfold maxLen; omega) (by omega) (by simp; omega) ?_; intro v5 w5 ho5 hg5 hn5; obtain ⟨ad5, c5, rfl⟩ := ownW_slice ho5; obtain ⟨G5, rfl⟩ := ownB_some ho5))
            have b5 := (b4.alloc hz4 (.cells #[.int .i64 (n - xn)] 2)).grown hg5 (by simp; omega) (fun k hk => (ownW_lt HO2.out k hk).1)
            go_roundw
            case rel => exact ⟨i + 1, n - xn, by omega, rfl, rfl, HN1, ⟨_, _, by rw [HT1.out, List.length_append]; rfl, by rw [HT1.out, List.map_append, List.length_append]; exact ho5⟩, b5⟩
            case measure => simp [intOf]; omega
        · by_cases q : ¬ xn = n
          · have HS : Hid (stepL n ⟨4, xn, xb, xa⟩ = (-4, n)) := by
              rw [Hid]
              unfold stepL; rw [if_neg (by rw [hp]; simp)]; simp [q]
            have HT1 : Hid (told s (l.take (i + 1)) = told s (l.take i) ++ [-4]) := by rw [Hid, told_take HX.out, HN.out, HS.out]
            have HN1 : Hid (n = left s (l.take (i + 1))) := by rw [Hid, left_take HX.out, HN.out, HS.out]
            clear HS
            go_wp2_with (first | (go_at_call 27; refine (hK _).mono ?_; rintro e w4 ⟨rfl, hb4⟩; have b4 := onto (show Below w.heap.size w _ from by repeat (first | exact Below.refl _ _ | assumption | refine st_drew ?_ | refine st_drewN ?_ _ | refine Below.setCell ?_ (by first | omega | (simp; done) | (simp; omega)) _ | refine Below.alloc ?_ (by first | omega | (simp; done) | (simp; omega)) _)) hb4; have HO2 := hidden (ownW_below HO.out (onto bx hb4)); have hz4 := b4.size; obtain ⟨e0, e1, e2, e3⟩ := (HPX.out.below hb4).four) | (at_builtin; refine wpList_append_own _ rfl (.tmp 98) (.tmp 99) 27 rfl w.heap.size 2 i0 (.int .i64 0) 1 8 Try.underlying27 hi0 hv0 hv1 hv2 rfl (by decide) _ (told s (l.take i)).length ((told s (l.take i)).map fun z => Value.int .i64 z) rfl (HO2.out.alloc _) ⟨w4.heap.size, 0, none⟩ 1 1 [.int .i64 (-4)] rfl rfl (cell_oneW _ _ _) (by simp [Value.oneCell']) (by unfold maxLen; omega) (by omega) (by simp; omega) ?_; intro v5 w5 ho5 hg5 hn5; obtain ⟨ad5, c5, rfl⟩ := ownW_slice ho5; obtain ⟨G5, rfl⟩ := ownB_some ho5))
            have b5 := (b4.alloc hz4 (.cells #[.int .i64 (-4)] 2)).grown hg5 (by simp; omega) (fun k hk => (ownW_lt HO2.out k hk).1)
            go_roundw
            case rel => exact ⟨i + 1, n, by omega, rfl, rfl, HN1, ⟨_, _, by rw [HT1.out, List.length_append]; rfl, by rw [HT1.out, List.map_append, List.length_append]; exact ho5⟩, b5⟩
            case measure => simp [intOf]; omega
          · obtain rfl : xn = n := by omega
            clear q

            have HS : Hid (stepL xn ⟨4, xn, xb, xa⟩ = (xn, xn)) := by
              rw [Hid]
              unfold stepL; rw [if_neg (by rw [hp]; simp)]; simp
            have HT1 : Hid (told s (l.take (i + 1)) = told s (l.take i) ++ [xn]) := by rw [Hid, told_take HX.out, HN.out, HS.out]
            have HN1 : Hid (xn = left s (l.take (i + 1))) := by rw [Hid, left_take HX.out, HN.out, HS.out]
            clear HS
            go_wp2_with (first | (go_at_call 27; refine (hK _).mono ?_; rintro e w4 ⟨rfl, hb4⟩; have b4 := onto (show Below w.heap.size w _ from by repeat (first | exact Below.refl _ _ | assumption | refine st_drew ?_ | refine st_drewN ?_ _ | refine Below.setCell ?_ (by first | omega | (simp; done) | (simp; omega)) _ | refine Below.alloc ?_ (by first | omega | (simp; done) | (simp; omega)) _)) hb4; have HO2 := hidden (ownW_below HO.out (onto bx hb4)); have hz4 := b4.size; obtain ⟨e0, e1, e2, e3⟩ := (HPX.out.below hb4).four) | (at_builtin; refine wpList_append_own _ rfl (.tmp 45) (.tmp 47) 27 rfl w.heap.size 2 i0 (.int .i64 0) 1 8 Try.underlying27 hi0 hv0 hv1 hv2 rfl (by decide) _ (told s (l.take i)).length ((told s (l.take i)).map fun z => Value.int .i64 z) rfl (HO2.out.alloc _) ⟨w4.heap.size, 0, none⟩ 1 1 [.int .i64 (xn)] rfl rfl (cell_oneW _ _ _) (by simp [Value.oneCell']) (by unfold maxLen; omega) (by omega) (by simp; omega) ?_; intro v5 w5 ho5 hg5 hn5; obtain ⟨ad5, c5, rfl⟩ := ownW_slice ho5; obtain ⟨G5, rfl⟩ := ownB_some ho5))
            have b5 := (b4.alloc hz4 (.cells #[.int .i64 (xn)] 2)).grown hg5 (by simp; omega) (fun k hk => (ownW_lt HO2.out k hk).1)
            go_roundw
            case rel => exact ⟨i + 1, xn, by omega, rfl, rfl, HN1, ⟨_, _, by rw [HT1.out, List.length_append]; rfl, by rw [HT1.out, List.map_append, List.length_append]; exact ho5⟩, b5⟩
            case measure => simp [intOf]; omega
    · have hlti : ¬ (i : Int) < (l.length : Int) := by omega
      have hil : i = l.length := by omega
      subst hil
      rw [List.take_length] at ho ⊢
      go_wp2_with fail
      go_ret
      rw [HN.out]
      exact ⟨_, _, rfl, ho, hb⟩
end Go.Proofs.Ytkejjlgeiaeicaa
