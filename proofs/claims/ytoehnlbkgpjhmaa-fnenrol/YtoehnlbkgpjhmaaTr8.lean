/-
  The order of a block, as the program makes it.
-/
import Derived.Test.YtoehnlbkgpjhmaaTr7
namespace Go.Proofs.Ytoehnlbkgpjhmaa
open Go.RowKit Go.WideShapes Va Lb Tr Go.Maps
set_option linter.all false

theorem IR.of_out {w : World} {G : Nat} {l : List Int} (h : Out 1 csI w G l.length l l.length) : IR w G l := by
  refine ⟨h.1, fun i x hx => ?_⟩
  have hi := get_lt' hx
  have e := h.2.2 i x hi hx 0 (by omega)
  rw [Nat.mul_one, Nat.add_zero] at e
  exact ⟨e, (h.2.1 i (by omega)).2⟩

/-- What the exchanges have left so far. -/
def SwI (cs : List Int) (bi i : Nat) (R : List Int) (wA : World) (G k : Nat) (wt : World) : Prop := ∃ L, L.length = i ∧ IR wt G L ∧ shuf cs bi i k L = R ∧ Below wA.heap.size wA wt

set_option maxRecDepth 20000 in
set_option maxHeartbeats 8000000 in
theorem iorder_any (x : Tl) (ta : Option Addr) (tn tc : Nat) (b : Nat) (w : World) (h : VRw 1 cvI w (.slice ta tn tc) x.coins) (ht : trialB x = true) (hbb : b ≤ 1000) :
    Calls Try.prog 67 #[aT x (.slice ta tn tc), .int .i64 b] w fun e w' => ∃ G, w.heap.size ≤ G ∧ e = .returned (.slice (some ⟨G, 0, none⟩) x.b x.b) ∧ IR w' G (blk x b) ∧ Below w.heap.size w w' := by
  obtain rfl := h.len
  obtain ⟨⟨q1, q2⟩, ⟨q3, q4⟩, -, q5, -, q6⟩ := trialB_iff.1 ht
  have HC := hidden q6
  have HK := hidden (fun m hm W hW => icoin_any x ta x.coins.length tc m W hW q5 hm)
  obtain ⟨A, Bk, cs, td⟩ := x
  simp only at *
  obtain ⟨a, rfl⟩ := Int.eq_ofNat_of_zero_le (show 0 ≤ A by omega)
  obtain ⟨n, rfl⟩ := Int.eq_ofNat_of_zero_le (show 0 ≤ Bk by omega)
  have HR : Hid (blk ⟨(a : Int), (n : Int), cs, td⟩ b = shuf cs (b * n) n (n - 1) (Tr.start a n)) := rfl
  have hxb : (⟨(a : Int), (n : Int), cs, td⟩ : Tl).b = n := rfl
  rw [hxb]
  generalize blk ⟨(a : Int), (n : Int), cs, td⟩ b = R at *
  have HH := hidden h
  have HP := hidden (PB.new w #[.int .i64 (a : Int), .int .i64 (n : Int), .slice ta cs.length tc, .int .i64 td] 26)
  have hb0 : Below w.heap.size w (w.alloc (.cells #[.int .i64 (a : Int), .int .i64 (n : Int), .slice ta cs.length tc, .int .i64 td] 26)) := (Below.refl _ _).alloc (Nat.le_refl _) _
  clear h ht q6 hxb
  unfold aT at *
  obtain ⟨i0, hi0, hv0, hv1, hv2⟩ := info_partsW infoW64
  have hsA : w.heap.size < (w.alloc (.cells #[.int .i64 (a : Int), .int .i64 (n : Int), .slice ta cs.length tc, .int .i64 td] 26)).heap.size := by simp
  go_enter Try.func67, Try.ntmps67
  go_upto_region 1 with fail
  generalize w.alloc (.cells #[.int .i64 (a : Int), .int .i64 (n : Int), .slice ta cs.length tc, .int .i64 td] 26) = wA at *
  obtain ⟨c0, c1, c2, c3⟩ := HP.out.four
  go_wp2_with (refine wpList_make_full _ rfl (.tmp 11) (.tmp 11) 24 rfl wA.heap.size 2 i0 (.int .i64 0) 1 Try.underlying24 hi0 hv0 hv1 .i64 .i64 _ _ n rfl rfl rfl rfl (by rw [hv2]; omega) (by unfold maxLen; omega) (Nat.le_refl _) ?_; intro w1 ho1 hg1; have b1 : Below wA.heap.size wA w1 := (Below.refl _ wA).grown hg1 (Nat.le_refl _) (by simp); have ho := Out.made (cs := csI) (Tr.start a n) ho1; clear ho1 hg1 c0 c1 c2 c3; obtain ⟨c0, c1, c2, c3⟩ := (HP.out.below b1).four)
  go_loopw [6, 15] (fun pv iv wr => ∃ i : Nat, i ≤ n ∧ iv = .int .i64 i ∧ Below wA.heap.size wA wr ∧ Out 1 csI wr wA.heap.size n (Tr.start a n) i) (fun _ iv _ => n - (intOf iv).toNat)
  case atStart => exact ⟨0, Nat.zero_le _, rfl, b1, ho⟩
  case round =>
    clear b1 ho c0 c1 c2 c3
    obtain ⟨i, hil, rfl, hb, ho⟩ := hrel
    obtain ⟨c0, c1, c2, c3⟩ := (HP.out.below hb).four
    by_cases hlt : i < n
    · have hlti : (i : Int) < (n : Int) := by omega
      have hx := start_get (A := a) hlt
      have hset := ho.set hlt hx [.int .i64 ((i % a : Nat) : Int)] rfl (fun k hk => by
        match k, hk with
        | 0, _ => rfl)
      obtain ⟨⟨u0, hu0⟩, hf0⟩ := ho.old hlt (k := 0) (by omega)
      simp only [Nat.mul_one, Nat.add_zero] at hu0 hf0
      rw [Nat.mul_one] at hset
      have HS := hidden hset
      have ha0 : ¬ (a : Int) = 0 := by omega
      have ha2 : ¬ a = 0 := by omega
      have ha1 : ((a : Int) == 0) = false := by simpa using ha0
      have hmod : (i : Int) % (a : Int) = ((i % a : Nat) : Int) := (Int.natCast_emod _ _).symm
      have htm : (i : Int).tmod (a : Int) = ((i % a : Nat) : Int) := by rw [Int.tmod_eq_emod_of_nonneg (by omega)]; exact hmod
      have b3 : Below wA.heap.size wA (wr.setCell ⟨wA.heap.size, i, none⟩ (.int .i64 ((i % a : Nat) : Int))) := hb.setCell (Nat.le_refl _) _
      clear hx ho hset
      generalize i % a = m at *
      go_wp2_with fail
      go_roundw
      case rel => exact ⟨i + 1, by omega, rfl, b3, HS.out⟩
      case measure => simp [intOf]; omega
    · have hlti : ¬ (i : Int) < (n : Int) := by omega
      obtain rfl : i = n := by omega
      have hlen := start_len a i
      have hir : IR wr wA.heap.size (Tr.start a i) := IR.of_out (by rw [hlen]; exact ho)
      have HS : Hid (shuf cs (b * i) i (i - 1) (Tr.start a i) = R) := HR.out.symm
      have HL : Hid ((Tr.start a i).length = i) := hlen
      have HI := hidden hir
      have hmul : (b : Int) * (i : Int) = ((b * i : Nat) : Int) := by simp
      have hbn : b * i ≤ 20000 := Nat.le_trans (Nat.mul_le_mul hbb (show i ≤ 20 by omega)) (by omega)
      clear HR hlen ho hir
      generalize Tr.start a i = L0 at *
      generalize b * i = bi at *
      go_wp2_with fail
      have e0 : (i : Int) - 1 = ((i - 1 : Nat) : Int) := by omega
      go_loopw [7, 8, 9] (fun cv kv jv wt => ∃ k : Nat, k ≤ i - 1 ∧ kv = .int .i64 k ∧ ∃ q : Nat, cv = .int .i64 q ∧ Hid (q = bi + (i - 1 - k)) ∧ SwI cs bi i R wA wA.heap.size k wt) (fun _ kv _ _ => (intOf kv).toNat)
      case atStart => exact ⟨i - 1, Nat.le_refl _, by rw [e0], bi, rfl, by rw [Hid]; omega, L0, HL.out, HI.out, HS.out, hb⟩
      case round =>
        clear hb HI HL HS c0 c1 c2 c3 e0
        obtain ⟨k, hk, rfl, q, rfl, hq, L, hlL, hir, hsh, hbt⟩ := hrel
        have HSH := hidden hsh
        obtain ⟨c0, c1, c2, c3⟩ := (HP.out.below hbt).four
        by_cases hk0 : k = 0
        · subst hk0
          have hge : ¬ (1 : Int) ≤ ((0 : Nat) : Int) := by omega
          have HB := hidden (hb0.trans (hbt.mono (Nat.le_of_lt hsA)))
          have HI := hidden hir
          clear hbt hir hlL hsh
          go_wp2_with fail
          go_ret
          exact ⟨wA.heap.size, by omega, rfl, by rw [← HSH.out]; exact HI.out, HB.out⟩
        · have hkp : (1 : Int) ≤ (k : Int) := by omega
          obtain ⟨j, hj⟩ : ∃ j, j = (coin cs q).toNat % (k + 1) := ⟨_, rfl⟩
          have hjl : j < k + 1 := by rw [hj]; exact Nat.mod_lt _ (by omega)
          obtain ⟨xk, hxk⟩ := some_of L k (by omega)
          obtain ⟨xj, hxj⟩ := some_of L j (by omega)
          obtain ⟨xz, hxz⟩ := some_of (L.set k xj) j (by rw [List.length_set]; omega)
          have HS3 : Hid (shuf cs bi i (k - 1) ((L.set k xj).set j xk) = R) := by
            have e : shuf cs bi i k L = shuf cs bi i (k - 1) (swp L k j) := by rw [hj, hq.out]; exact shuf_step (by omega)
            have e2 := HSH.out
            rw [e] at e2
            unfold swp at e2
            rw [hxk, hxj] at e2
            exact e2
          have HL3 : Hid (((L.set k xj).set j xk).length = i) := by rw [Hid, List.length_set, List.length_set]; exact hlL
          have hy0 := coin_nn HC.out q
          have hq2 : q ≤ 20020 := by have := hq.out; omega
          have HQ3 : Hid (q + 1 = bi + (i - 1 - (k - 1))) := by have := hq.out; rw [Hid]; omega
          have hjm : coin cs q % ((k : Int) + 1) = (j : Int) := by
            rw [hj, Int.natCast_emod, Int.toNat_of_nonneg hy0]
            congr 1
          have hjt : (coin cs q).tmod ((k : Int) + 1) = (j : Int) := by rw [Int.tmod_eq_emod_of_nonneg hy0]; exact hjm
          have hK := HK.out q (by omega) wr (HH.out.below (hb0.trans (hbt.mono (Nat.le_of_lt hsA))))
          have HIR := hidden hir
          have HBT := hidden hbt
          clear hj hsh hir hbt hlL HSH hq
          generalize coin cs q = y at *
          have g0 : ¬ (k : Int) + 1 = 0 := by omega
          have g9 : ((k : Int) + 1 == 0) = false := by rw [beq_eq_false_iff_ne]; exact g0
          go_wp2_with (go_at_call 85; refine hK.mono ?_; rintro e w2 ⟨rfl, hb2⟩; have HIW := hidden (HIR.out.below hb2); have HBW := hidden (HBT.out.trans (hb2.mono HBT.out.size)); clear hb2)
          clear hK HIR HBT c0 c1 c2 c3 hjm hjt
          obtain ⟨e1, f1⟩ := HIW.out.2 _ _ hxk
          obtain ⟨e2, f2⟩ := HIW.out.2 _ _ hxj
          obtain ⟨e3, f3⟩ := (HIW.out.set k xj).2 _ _ hxz
          have g1 : (k : Int) < (i : Int) := by omega
          have g2 : (j : Int) < (i : Int) := by omega
          have g3 : (0 : Int) ≤ (k : Int) := by omega
          have g4 : (0 : Int) ≤ (j : Int) := by omega
          have HI3 := hidden ((HIW.out.set k xj).set j xk)
          have HB3 := hidden ((HBW.out.setCell (p := ⟨wA.heap.size, k, none⟩) (Nat.le_refl _) (.int .i64 xj)).setCell (p := ⟨wA.heap.size, j, none⟩) (Nat.le_refl _) (.int .i64 xk))
          clear HIW HBW hxk hxj hxz
          go_region
          all_goals go_wp2_with fail
          all_goals go_roundw
          case rel => exact ⟨k - 1, by omega, by rw [show ((k - 1 : Nat) : Int) = (k : Int) - 1 by omega], q + 1, by simp, HQ3.out, _, HL3.out, HI3.out.below (st_drew (Below.refl _ _)), HS3.out, st_drew HB3.out⟩
          case measure => simp [intOf]; omega
end Go.Proofs.Ytoehnlbkgpjhmaa
