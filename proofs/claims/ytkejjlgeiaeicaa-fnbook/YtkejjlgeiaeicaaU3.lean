/-
  The book of a cupboard: the program.
-/
import Derived.Test.YtkejjlgeiaeicaaUb1
import Derived.Test.YtkejjlgeiaeicaaGy
import Derived.Test.YtkejjlgeiaeicaaGw
namespace Go.Proofs.Ytkejjlgeiaeicaa
open Go.RowKit Va Ua
set_option linter.all false

set_option maxHeartbeats 400000 in
theorem iperU_any (x : Int) (w : World) : Calls Try.prog 65 #[.int .i64 x] w fun e w' => e = .returned (.bool (rng x 0 999)) ∧ w = w' := by
  unfold rng
  go_enter Try.func65, Try.ntmps65
  go_wp2
  all_goals (go_ret; exact ⟨ret_boolU (by first | (simp; done) | (simp; omega) | (simp_all; done) | (simp_all; omega) | (rw [Bool.eq_iff_iff]; simp; omega) | (rw [Bool.eq_iff_iff]; simp_all; omega)), rfl⟩)

set_option maxRecDepth 20000 in
set_option maxHeartbeats 4000000 in
theorem iline_any (x : Ln) (w : World) : Calls Try.prog 53 #[aLn x] w fun e w' => e = .returned (.bool (lineB x)) ∧ Below w.heap.size w w' := by
  obtain ⟨k, n, b, a⟩ := x
  have k3 := iperU_any b
  have k4 := iperU_any a
  unfold lineB aLn
  dsimp only
  generalize hb3 : rng b 0 999 = t3 at *
  generalize hb4 : rng a 0 999 = t4 at *
  clear hb3 hb4
  by_cases h4 : k = 4
  · subst h4
    rw [if_pos rfl]
    unfold rng
    rcases t3 with _ | _ <;> rcases t4 with _ | _
    all_goals
      go_enter Try.func53, Try.ntmps53
      go_wp2_with (with_reducible (first | refine (k3 _).mono ?_ | refine (k4 _).mono ?_); rintro e w1 ⟨rfl, rfl⟩)
      all_goals (go_ret; exact ⟨ret_boolU (by first | (simp; done) | (simp; omega) | (simp_all; done) | (simp_all; omega) | (rw [Bool.eq_iff_iff]; simp; omega) | (rw [Bool.eq_iff_iff]; simp_all; omega)), by repeat (first | exact Below.refl _ _ | assumption | refine st_drew ?_ | refine st_drewN ?_ _ | refine Below.setCell ?_ (by first | omega | (simp; done) | (simp; omega)) _ | refine Below.alloc ?_ (by first | omega | (simp; done) | (simp; omega)) _)⟩)
  · rw [if_neg h4]
    unfold rng
    rcases t3 with _ | _ <;> rcases t4 with _ | _
    all_goals
      go_enter Try.func53, Try.ntmps53
      go_wp2_with (with_reducible (first | refine (k3 _).mono ?_ | refine (k4 _).mono ?_); rintro e w1 ⟨rfl, rfl⟩)
      all_goals (go_ret; exact ⟨ret_boolU (by first | (simp; done) | (simp; omega) | (simp_all; done) | (simp_all; omega) | (rw [Bool.eq_iff_iff]; simp; omega) | (rw [Bool.eq_iff_iff]; simp_all; omega)), by repeat (first | exact Below.refl _ _ | assumption | refine st_drew ?_ | refine st_drewN ?_ _ | refine Below.setCell ?_ (by first | omega | (simp; done) | (simp; omega)) _ | refine Below.alloc ?_ (by first | omega | (simp; done) | (simp; omega)) _)⟩)

set_option maxRecDepth 20000 in
set_option maxHeartbeats 4000000 in
theorem ibeh_any (x : Ln) (n : Int) (n0 : 0 ≤ n) (n1 : n ≤ 1000000000) (w : World) : Calls Try.prog 25 #[aLn x, .int .i64 n] w fun e w' => e = .returned (.int .i64 (stepL n x).1) ∧ Below w.heap.size w w' := by
  have hK := iline_any x
  obtain ⟨k, m, b, a⟩ := x
  unfold aLn at *
  dsimp only at *
  have bx : Below w.heap.size w (w.alloc (.cells #[.int .i64 k, .int .i64 m, .int .i64 b, .int .i64 a] 30)) := (Below.refl _ _).alloc (Nat.le_refl _) _
  have HPX := hidden (PB.new w #[.int .i64 k, .int .i64 m, .int .i64 b, .int .i64 a] 30)
  cases hp : lineB ⟨k, m, b, a⟩ with
  | false =>
    rw [hp] at hK
    have HS : Hid ((stepL n ⟨k, m, b, a⟩).1 = -1) := by
      rw [Hid]
      unfold stepL; rw [if_pos hp]
    generalize (stepL n ⟨k, m, b, a⟩).1 = R at *
    clear hp
    by_cases q2 : k = 2
    · subst q2
      go_enter Try.func25, Try.ntmps25
      go_wp2_with (go_at_call 53; with_reducible refine (hK _).mono ?_; rintro e w4 ⟨rfl, hb4⟩; obtain ⟨e0, e1, e2, e3⟩ := (HPX.out.below hb4).four)
      go_ret
      rw [HS.out]
      exact ⟨rfl, onto bx hb4⟩
    by_cases q3 : k = 3
    · subst q3
      go_enter Try.func25, Try.ntmps25
      go_wp2_with (go_at_call 53; with_reducible refine (hK _).mono ?_; rintro e w4 ⟨rfl, hb4⟩; obtain ⟨e0, e1, e2, e3⟩ := (HPX.out.below hb4).four)
      go_ret
      rw [HS.out]
      exact ⟨rfl, onto bx hb4⟩
    have f2 : (k == 2) = false := by simpa using q2
    have f3 : (k == 3) = false := by simpa using q3
    go_enter Try.func25, Try.ntmps25
    go_wp2_with (go_at_call 53; with_reducible refine (hK _).mono ?_; rintro e w4 ⟨rfl, hb4⟩; obtain ⟨e0, e1, e2, e3⟩ := (HPX.out.below hb4).four)
    go_ret
    rw [HS.out]
    exact ⟨rfl, onto bx hb4⟩
  | true =>
    rw [hp] at hK
    have hp2 := hp
    simp only [lineB, Bool.and_eq_true, rng_iff] at hp2
    obtain ⟨⟨x0, x1⟩, ⟨y0, y1⟩, -⟩ := hp2
    have y2 : 0 ≤ m := by split at y0 <;> omega
    clear y0
    rcases (show k = 1 ∨ k = 2 ∨ k = 3 ∨ k = 4 by omega) with rfl | rfl | rfl | rfl
    · by_cases q : 1000000000 < n + m
      · have q2 : 1000000000 - n < m := by omega
        have HS : Hid ((stepL n ⟨1, m, b, a⟩).1 = -3) := by
          rw [Hid]
          unfold stepL; rw [if_neg (by rw [hp]; simp)]; simp [q]
        generalize (stepL n ⟨1, m, b, a⟩).1 = R at *
        go_enter Try.func25, Try.ntmps25
        go_wp2_with (go_at_call 53; with_reducible refine (hK _).mono ?_; rintro e w4 ⟨rfl, hb4⟩; obtain ⟨e0, e1, e2, e3⟩ := (HPX.out.below hb4).four)
        go_ret
        rw [HS.out]
        exact ⟨rfl, onto bx hb4⟩
      · have q2 : ¬ 1000000000 - n < m := by omega
        have HS : Hid ((stepL n ⟨1, m, b, a⟩).1 = n + m) := by
          rw [Hid]
          unfold stepL; rw [if_neg (by rw [hp]; simp)]; simp [q]
        generalize (stepL n ⟨1, m, b, a⟩).1 = R at *
        go_enter Try.func25, Try.ntmps25
        go_wp2_with (go_at_call 53; with_reducible refine (hK _).mono ?_; rintro e w4 ⟨rfl, hb4⟩; obtain ⟨e0, e1, e2, e3⟩ := (HPX.out.below hb4).four)
        go_ret
        rw [HS.out]
        exact ⟨rfl, onto bx hb4⟩
    · by_cases q : n < m
      · have HS : Hid ((stepL n ⟨2, m, b, a⟩).1 = -2) := by
          rw [Hid]
          unfold stepL; rw [if_neg (by rw [hp]; simp)]; simp [q]
        generalize (stepL n ⟨2, m, b, a⟩).1 = R at *
        go_enter Try.func25, Try.ntmps25
        go_wp2_with (go_at_call 53; with_reducible refine (hK _).mono ?_; rintro e w4 ⟨rfl, hb4⟩; obtain ⟨e0, e1, e2, e3⟩ := (HPX.out.below hb4).four)
        go_ret
        rw [HS.out]
        exact ⟨rfl, onto bx hb4⟩
      · have HS : Hid ((stepL n ⟨2, m, b, a⟩).1 = n - m) := by
          rw [Hid]
          unfold stepL; rw [if_neg (by rw [hp]; simp)]; simp [q]
        generalize (stepL n ⟨2, m, b, a⟩).1 = R at *
        go_enter Try.func25, Try.ntmps25
        go_wp2_with (go_at_call 53; with_reducible refine (hK _).mono ?_; rintro e w4 ⟨rfl, hb4⟩; obtain ⟨e0, e1, e2, e3⟩ := (HPX.out.below hb4).four)
        go_ret
        rw [HS.out]
        exact ⟨rfl, onto bx hb4⟩
    · by_cases q : n < m
      · have HS : Hid ((stepL n ⟨3, m, b, a⟩).1 = -2) := by
          rw [Hid]
          unfold stepL; rw [if_neg (by rw [hp]; simp)]; simp [q]
        generalize (stepL n ⟨3, m, b, a⟩).1 = R at *
        go_enter Try.func25, Try.ntmps25
        go_wp2_with (go_at_call 53; with_reducible refine (hK _).mono ?_; rintro e w4 ⟨rfl, hb4⟩; obtain ⟨e0, e1, e2, e3⟩ := (HPX.out.below hb4).four)
        go_ret
        rw [HS.out]
        exact ⟨rfl, onto bx hb4⟩
      · have HS : Hid ((stepL n ⟨3, m, b, a⟩).1 = n - m) := by
          rw [Hid]
          unfold stepL; rw [if_neg (by rw [hp]; simp)]; simp [q]
        generalize (stepL n ⟨3, m, b, a⟩).1 = R at *
        go_enter Try.func25, Try.ntmps25
        go_wp2_with (go_at_call 53; with_reducible refine (hK _).mono ?_; rintro e w4 ⟨rfl, hb4⟩; obtain ⟨e0, e1, e2, e3⟩ := (HPX.out.below hb4).four)
        go_ret
        rw [HS.out]
        exact ⟨rfl, onto bx hb4⟩
    · by_cases q : m = n
      · subst q
        have HS : Hid ((stepL m ⟨4, m, b, a⟩).1 = m) := by
          rw [Hid]
          unfold stepL; rw [if_neg (by rw [hp]; simp)]; simp
        generalize (stepL m ⟨4, m, b, a⟩).1 = R at *
        go_enter Try.func25, Try.ntmps25
        go_wp2_with (go_at_call 53; with_reducible refine (hK _).mono ?_; rintro e w4 ⟨rfl, hb4⟩; obtain ⟨e0, e1, e2, e3⟩ := (HPX.out.below hb4).four)
        go_ret
        rw [HS.out]
        exact ⟨rfl, onto bx hb4⟩
      · have HS : Hid ((stepL n ⟨4, m, b, a⟩).1 = -4) := by
          rw [Hid]
          unfold stepL; rw [if_neg (by rw [hp]; simp)]; simp [q]
        generalize (stepL n ⟨4, m, b, a⟩).1 = R at *
        go_enter Try.func25, Try.ntmps25
        go_wp2_with (go_at_call 53; with_reducible refine (hK _).mono ?_; rintro e w4 ⟨rfl, hb4⟩; obtain ⟨e0, e1, e2, e3⟩ := (HPX.out.below hb4).four)
        go_ret
        rw [HS.out]
        exact ⟨rfl, onto bx hb4⟩

set_option maxRecDepth 20000 in
set_option maxHeartbeats 8000000 in
theorem ibook_any (s : Int) (ao : Option Addr) (len cap : Nat) (l : List Ln) (w : World) (h : Rw 4 csLn w (.slice ao len cap) l) (hl : l.length ≤ 1048576) :
    Calls Try.prog 8 #[.int .i64 s, .slice ao len cap] w fun e w' => ∃ v, e = .returned v ∧ w'.ownsRow w.heap.size 2 1 v (book s l).length ((book s l).map fun z => Value.int .i64 z) ∧ Below w.heap.size w w' := by
  obtain rfl := h.len
  have HV : Hid (book s l = if rng s 0 1000000000 = true ∧ l.length ≤ 1000 then told s l else []) := rfl
  have HR := hidden h
  obtain ⟨i0, hi0, hv0, hv1, hv2⟩ := info_partsW infoW64
  have HO := hidden (ownW_new w 2 1)
  have HB : Hid (Below w.heap.size w (w.alloc (.cells #[] 2))) := (Below.refl _ _).alloc (Nat.le_refl _) _
  clear h
  generalize book s l = R at *
  by_cases hr : rng s 0 1000000000 = true ∧ l.length ≤ 1000
  · obtain ⟨hr1, hl1⟩ := hr
    obtain ⟨s0, s1⟩ := rng_iff.1 hr1
    have HN : Hid (R = told s l) := by rw [Hid, HV.out, if_pos ⟨hr1, hl1⟩]
    clear HV hr1
    have g1 : ¬ s < 0 := by omega
    have g2 : ¬ 1000000000 < s := by omega
    have g3 : ¬ (1000 : Int) < (l.length : Int) := by omega
    go_enter Try.func8, Try.ntmps8
    go_wp2_with fail
    go_loopw [5, 6, 8, 9, 26] (fun sv nv _ _ iv wr => ∃ (i : Nat) (n : Int), i ≤ l.length ∧ iv = .int .i64 i ∧ nv = .int .i64 n ∧ Hid (n = left s (l.take i)) ∧ (∃ ad c, sv = .slice ad (told s (l.take i)).length c ∧ wr.ownsRow w.heap.size 2 1 (.slice ad (told s (l.take i)).length c) (told s (l.take i)).length ((told s (l.take i)).map fun z => Value.int .i64 z)) ∧ Below w.heap.size w wr) (fun _ _ _ _ iv _ => l.length - (intOf iv).toNat)
    case atStart => exact ⟨0, s, Nat.zero_le _, rfl, rfl, rfl, ⟨_, _, rfl, HO.out⟩, HB.out⟩
    case round =>
      clear HO HB
      obtain ⟨i, n, hi, rfl, rfl, HNl, ⟨ad, c, rfl, ho⟩, hb⟩ := hrel
      have hsz := hb.size
      have hnb : 0 ≤ n ∧ n ≤ 1000000000 := by rw [HNl.out]; exact left_bd s0 s1 _
      obtain ⟨n0, n1⟩ := hnb
      have htl : (told s (l.take i)).length ≤ 1000 := by rw [told_len, List.length_take]; omega
      by_cases hlt : i < l.length
      · have hlti : (i : Int) < (l.length : Int) := by omega
        obtain ⟨x, hx⟩ := some_of l i hlt
        obtain ⟨g, off, rfl, hg, hcs⟩ := (HR.out.below hb).at hx
        have c0 : wr.cell? ⟨g, off + i * 4, none⟩ = some (.int .i64 x.k) := hcs 0 (by omega)
        have c1 : wr.cell? ⟨g, off + i * 4 + 1, none⟩ = some (.int .i64 x.n) := hcs 1 (by omega)
        have c2 : wr.cell? ⟨g, off + i * 4 + 2, none⟩ = some (.int .i64 x.b) := hcs 2 (by omega)
        have c3 : wr.cell? ⟨g, off + i * 4 + 3, none⟩ = some (.int .i64 x.a) := hcs 3 (by omega)
        have hK := ibeh_any x n n0 n1
        unfold aLn at hK
        have bx : Below wr.heap.size wr (wr.alloc (.cells #[.int .i64 x.k, .int .i64 x.n, .int .i64 x.b, .int .i64 x.a] 30)) := (Below.refl _ _).alloc (Nat.le_refl _) _
        have HPX := hidden (PB.new wr #[.int .i64 x.k, .int .i64 x.n, .int .i64 x.b, .int .i64 x.a] 30)
        have HO := hidden ho
        have HT1 : Hid (told s (l.take (i + 1)) = told s (l.take i) ++ [(stepL n x).1]) := by rw [Hid, told_take hx, HNl.out]
        have HN1 : Hid ((stepL n x).2 = left s (l.take (i + 1))) := by rw [Hid, left_take hx, ← HNl.out]
        have HF : Hid ((stepL n x).1 < 0 → (stepL n x).2 = n) := fun q => step_fault x n0 n1 q
        have HG : Hid (0 ≤ (stepL n x).1 → (stepL n x).1 = (stepL n x).2) := fun q => (step_told x n0 q).1
        clear hx hcs ho HNl
        generalize (stepL n x).1 = z at *
        generalize (stepL n x).2 = y at *
        by_cases q : 0 ≤ z
        · have HZ : Hid (z = y) := HG.out q
          clear HF HG
          go_wp2_with (first | (go_at_call 25; refine (hK _).mono ?_; rintro e w4 ⟨rfl, hb4⟩; have b4 := onto (show Below w.heap.size w _ from by repeat (first | exact Below.refl _ _ | assumption | refine st_drew ?_ | refine st_drewN ?_ _ | refine Below.setCell ?_ (by first | omega | (simp; done) | (simp; omega)) _ | refine Below.alloc ?_ (by first | omega | (simp; done) | (simp; omega)) _)) hb4; have HO2 := hidden (ownW_below HO.out (onto bx hb4)); have hz4 := b4.size) | (at_builtin; refine wpList_append_own _ rfl (.tmp 36) (.tmp 38) 27 rfl w.heap.size 2 i0 (.int .i64 0) 1 8 Try.underlying27 hi0 hv0 hv1 hv2 rfl (by decide) _ (told s (l.take i)).length ((told s (l.take i)).map fun z => Value.int .i64 z) rfl (HO2.out.alloc _) ⟨w4.heap.size, 0, none⟩ 1 1 [.int .i64 z] rfl rfl (cell_oneW _ _ _) (by simp [Value.oneCell']) (by unfold maxLen; omega) (by omega) (by simp; omega) ?_; intro v5 w5 ho5 hg5 hn5; obtain ⟨ad5, c5, rfl⟩ := ownW_slice ho5))
          have b5 := (b4.alloc hz4 (.cells #[.int .i64 z] 2)).grown hg5 (by simp; omega) (fun k hk => (ownW_lt HO2.out k hk).1)
          go_roundw
          case rel => exact ⟨i + 1, z, by omega, rfl, rfl, by rw [HZ.out]; exact HN1, ⟨_, _, by rw [HT1.out, List.length_append]; rfl, by rw [HT1.out, List.map_append, List.length_append]; exact ho5⟩, b5⟩
          case measure => simp [intOf]; omega
        · have HZ : Hid (y = n) := HF.out (by omega)
          clear HF HG
          go_wp2_with (first | (go_at_call 25; refine (hK _).mono ?_; rintro e w4 ⟨rfl, hb4⟩; have b4 := onto (show Below w.heap.size w _ from by repeat (first | exact Below.refl _ _ | assumption | refine st_drew ?_ | refine st_drewN ?_ _ | refine Below.setCell ?_ (by first | omega | (simp; done) | (simp; omega)) _ | refine Below.alloc ?_ (by first | omega | (simp; done) | (simp; omega)) _)) hb4; have HO2 := hidden (ownW_below HO.out (onto bx hb4)); have hz4 := b4.size) | (at_builtin; refine wpList_append_own _ rfl (.tmp 36) (.tmp 38) 27 rfl w.heap.size 2 i0 (.int .i64 0) 1 8 Try.underlying27 hi0 hv0 hv1 hv2 rfl (by decide) _ (told s (l.take i)).length ((told s (l.take i)).map fun z => Value.int .i64 z) rfl (HO2.out.alloc _) ⟨w4.heap.size, 0, none⟩ 1 1 [.int .i64 z] rfl rfl (cell_oneW _ _ _) (by simp [Value.oneCell']) (by unfold maxLen; omega) (by omega) (by simp; omega) ?_; intro v5 w5 ho5 hg5 hn5; obtain ⟨ad5, c5, rfl⟩ := ownW_slice ho5))
          have b5 := (b4.alloc hz4 (.cells #[.int .i64 z] 2)).grown hg5 (by simp; omega) (fun k hk => (ownW_lt HO2.out k hk).1)
          go_roundw
          case rel => exact ⟨i + 1, n, by omega, rfl, rfl, by rw [Hid, ← HN1.out, HZ.out], ⟨_, _, by rw [HT1.out, List.length_append]; rfl, by rw [HT1.out, List.map_append, List.length_append]; exact ho5⟩, b5⟩
          case measure => simp [intOf]; omega
      · have hlti : ¬ (i : Int) < (l.length : Int) := by omega
        have hil : i = l.length := by omega
        subst hil
        rw [List.take_length] at ho ⊢
        go_wp2_with fail
        go_ret
        rw [HN.out]
        exact ⟨_, rfl, ho, hb⟩
  · have HN : Hid (R = []) := by rw [Hid, HV.out, if_neg hr]
    have hr2 : ¬ (0 ≤ s ∧ s ≤ 1000000000 ∧ l.length ≤ 1000) := fun q => hr ⟨rng_iff.2 ⟨q.1, q.2.1⟩, q.2.2⟩
    clear HV hr
    have out : ∀ (v : Value), v = .slice (some ⟨w.heap.size, 0, none⟩) 0 0 → ∃ v', Ending.returned v = .returned v' ∧ (w.alloc (.cells #[] 2)).ownsRow w.heap.size 2 1 v' R.length (R.map fun z => Value.int .i64 z) ∧ Below w.heap.size w (w.alloc (.cells #[] 2)) := fun v hv => ⟨v, rfl, by rw [hv, HN.out]; exact HO.out, HB.out⟩
    by_cases g1 : s < 0
    · go_enter Try.func8, Try.ntmps8
      go_wp2_with fail
      go_ret
      exact out _ rfl
    by_cases g2 : 1000000000 < s
    · go_enter Try.func8, Try.ntmps8
      go_wp2_with fail
      go_ret
      exact out _ rfl
    have g3 : (1000 : Int) < (l.length : Int) := by omega
    go_enter Try.func8, Try.ntmps8
    go_wp2_with fail
    go_ret
    exact out _ rfl
end Go.Proofs.Ytkejjlgeiaeicaa
