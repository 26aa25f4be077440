/-
  The order of a block, as the specification makes it.
-/
import Derived.Test.YtoehnlbkgpjhmaaTr6
import Derived.Test.YtoehnlbkgpjhmaaTr7a
namespace Go.Proofs.Ytoehnlbkgpjhmaa
open Go.RowKit Go.WideShapes Va Lb Tr Go.Maps
set_option linter.all false

/-- The numbers l lie in block G, and may be written there. -/
def IR (w : World) (G : Nat) (l : List Int) : Prop :=
  G < w.heap.size ∧ ∀ i x, l[i]? = some x → w.cell? ⟨G, i, none⟩ = some (.int .i64 x) ∧ w.frozen? ⟨G, i, none⟩ = false
theorem IR.below {w w' : World} {G : Nat} {l : List Int} (h : IR w G l) (hb : Below w.heap.size w w') : IR w' G l :=
  ⟨Nat.lt_of_lt_of_le h.1 hb.size, fun i x hx => ⟨((bcell hb).1 _ _ h.1).trans (h.2 i x hx).1, ((bcell hb).2 _ _ h.1).trans (h.2 i x hx).2⟩⟩
theorem IR.set {w : World} {G : Nat} {l : List Int} (h : IR w G l) (i : Nat) (y : Int) : IR (w.setCell ⟨G, i, none⟩ (.int .i64 y)) G (l.set i y) := by
  refine ⟨by simpa [World.setCell] using h.1, fun j x hx => ⟨?_, ?_⟩⟩
  · by_cases hj : i = j
    · subst hj
      have hi : i < l.length := by have := get_lt' hx; simpa using this
      rw [List.getElem?_set_self hi] at hx
      obtain ⟨z, hz⟩ := some_of l i hi
      rw [← Option.some.inj hx]
      exact World.cell?_setCell_same _ _ _ (h.2 i z hz).1
    · rw [List.getElem?_set_ne hj] at hx
      rw [World.cell?_setCell_other _ _ _ _ (by simpa using hj)]
      exact (h.2 j x hx).1
  · rw [World.frozen?_setCell]
    have hj : j < l.length := by have := get_lt' hx; simpa using this
    obtain ⟨z, hz⟩ := some_of l j hj
    exact (h.2 j z hz).2
theorem IR.far {w : World} {G : Nat} {l : List Int} (h : IR w G l) {b : Nat} (hb : b ≠ G) (o : Nat) (v : Value) : IR (w.setCell ⟨b, o, none⟩ v) G l :=
  ⟨by simpa [World.setCell] using h.1, fun j x hx => ⟨(World.cell?_setCell_far _ _ _ _ (fun e => hb e)).trans (h.2 j x hx).1, by rw [World.frozen?_setCell]; exact (h.2 j x hx).2⟩⟩
theorem IR.own {w : World} {G : Nat} {l : List Int} (h : IR w G l) {base : Nat} (hG : base ≤ G) (c : Nat) (hc : l.length ≤ c) : VOwn 1 cvI w base (.slice (some ⟨G, 0, none⟩) l.length c) l := by
  refine ⟨_, c, rfl, hc, Or.inr ⟨G, rfl, hG, h.1, fun j hj => ?_, fun j y hj hy k hk => ?_⟩⟩
  · obtain ⟨z, hz⟩ := some_of l j (by omega)
    exact ⟨⟨_, (h.2 j z hz).1⟩, (h.2 j z hz).2⟩
  · obtain rfl : k = 0 := by omega
    rw [Nat.mul_one, Nat.add_zero]
    exact (h.2 j y hy).1
theorem IR.of_own {w : World} {base n : Nat} {ao : Option Addr} {c : Nat} {l : List Int} (h : VOwn 1 cvI w base (.slice ao n c) l) (hl : l.length ≠ 0) : n = l.length ∧ l.length ≤ c ∧ ∃ G, ao = some ⟨G, 0, none⟩ ∧ base ≤ G ∧ IR w G l := by
  obtain ⟨ao', cap', he, hc, h2⟩ := h
  obtain ⟨rfl, rfl, rfl⟩ : ao = ao' ∧ n = l.length ∧ c = cap' := by simpa using he
  obtain ⟨G, rfl, hG, h3, h4, h5⟩ := h2.resolve_left hl
  refine ⟨rfl, hc, G, rfl, hG, h3, fun i x hx => ?_⟩
  have hi := get_lt' hx
  have e := h5 i x hi hx 0 (by omega)
  rw [Nat.mul_one, Nat.add_zero] at e
  exact ⟨e, (h4 i (by omega)).2⟩

set_option maxRecDepth 20000 in
set_option maxHeartbeats 8000000 in
theorem sblock_any (x : Tl) (ta : Option Addr) (tn tc : Nat) (b : Nat) (w : World) (h : VRw 1 cvI w (.slice ta tn tc) x.coins) (ht : trialB x = true) (hbb : b ≤ 1000) :
    Calls Try.prog 42 #[aT x (.slice ta tn tc), .int .i64 b] w fun e w' => ∃ G c, w.heap.size ≤ G ∧ x.b ≤ c ∧ e = .returned (.slice (some ⟨G, 0, none⟩) x.b c) ∧ IR w' G (blk x b) ∧ Below w.heap.size w w' := by
  obtain rfl := h.len
  obtain ⟨⟨q1, q2⟩, ⟨q3, q4⟩, -, q5, -, q6⟩ := trialB_iff.1 ht
  have HC := hidden q6
  obtain ⟨A, Bk, cs, td⟩ := x
  simp only at *
  obtain ⟨a, rfl⟩ := Int.eq_ofNat_of_zero_le (show 0 ≤ A by omega)
  obtain ⟨n, rfl⟩ := Int.eq_ofNat_of_zero_le (show 0 ≤ Bk by omega)
  have HR : Hid (blk ⟨(a : Int), (n : Int), cs, td⟩ b = shuf cs (b * n) n (n - 1) (Tr.start a n)) := rfl
  have hxb : (⟨(a : Int), (n : Int), cs, td⟩ : Tl).b = n := rfl
  rw [hxb]
  generalize blk ⟨(a : Int), (n : Int), cs, td⟩ b = R at *
  have HH := hidden h
  have HP := hidden (PB.new w #[.int .i64 (a : Int), .int .i64 (n : Int), .slice ta cs.length tc, .int .i64 td] 26)
  have hb0 : Below w.heap.size w (w.alloc (.cells #[.int .i64 (a : Int), .int .i64 (n : Int), .slice ta cs.length tc, .int .i64 td] 26)) := (Below.refl _ _).alloc (Nat.le_refl _) _
  clear h ht q6 hxb
  unfold aT
  obtain ⟨i0, hi0, hv0, hv1, hv2⟩ := info_partsW infoW64
  have hsA : w.heap.size < (w.alloc (.cells #[.int .i64 (a : Int), .int .i64 (n : Int), .slice ta cs.length tc, .int .i64 td] 26)).heap.size := by simp
  go_enter Try.func42, Try.ntmps42
  go_upto_region 1 with fail
  generalize w.alloc (.cells #[.int .i64 (a : Int), .int .i64 (n : Int), .slice ta cs.length tc, .int .i64 td] 26) = wA at *
  have hO := hidden (ownW_new wA 2 1)
  have hBA : Below wA.heap.size wA (wA.alloc (.cells #[] 2)) := (Below.refl _ _).alloc (Nat.le_refl _) _
  go_wp2_with fail
  go_loopw [5, 6] (fun sv iv wr => ∃ i : Nat, i ≤ n ∧ iv = .int .i64 i ∧ (∃ ad c, sv = .slice ad i c ∧ wr.ownsRow wA.heap.size 2 1 (.slice ad i c) i ((Tr.start a i).map fun z => Value.int .i64 z)) ∧ Below wA.heap.size wA wr) (fun _ iv _ => n - (intOf iv).toNat)
  case atStart => exact ⟨0, Nat.zero_le _, rfl, ⟨_, _, rfl, hO.out⟩, hBA⟩
  case round =>
    clear hO hBA
    obtain ⟨i, hi, rfl, ⟨ad, c, rfl, ho⟩, hb⟩ := hrel
    have hsz := hb.size
    obtain ⟨c0, c1, c2, c3⟩ := (HP.out.below hb).four
    by_cases hlt : i < n
    · have hlti : (i : Int) < (n : Int) := by omega
      have HO := hidden ho
      have ha0 : ¬ (a : Int) = 0 := by omega
      have ha1 : ((a : Int) == 0) = false := by simpa using ha0
      have hmod : (i : Int) % (a : Int) = ((i % a : Nat) : Int) := (Int.natCast_emod _ _).symm
      have htm : (i : Int).tmod (a : Int) = ((i % a : Nat) : Int) := by rw [Int.tmod_eq_emod_of_nonneg (by omega)]; exact hmod
      have HT : Hid (Tr.start a (i + 1) = Tr.start a i ++ [((i % a : Nat) : Int)]) := start_snoc a i
      clear ho
      generalize i % a = m at *
      go_wp2_with (at_builtin; refine wpList_append_own _ rfl (.tmp 18) (.tmp 23) 24 rfl wA.heap.size 2 i0 (.int .i64 0) 1 8 Try.underlying24 hi0 hv0 hv1 hv2 rfl (by decide) _ i ((Tr.start a i).map fun z => Value.int .i64 z) rfl (HO.out.alloc _) ⟨wr.heap.size, 0, none⟩ 1 1 [.int .i64 (m : Int)] rfl rfl (cell_oneW _ _ _) (by simp [Value.oneCell']) (by unfold maxLen; omega) (by omega) (by simp; omega) ?_; intro v5 w5 ho5 hg5 hn5; obtain ⟨ad5, c5, rfl⟩ := ownW_slice ho5)
      have b5 := (hb.alloc hsz (.cells #[.int .i64 (m : Int)] 2)).grown hg5 (by simp; omega) (fun k hk => (ownW_lt HO.out k hk).1)
      go_roundw
      case rel => exact ⟨i + 1, by omega, rfl, ⟨_, _, rfl, by rw [HT.out, List.map_append]; exact ho5⟩, b5⟩
      case measure => simp [intOf]; omega
    · have hlti : ¬ (i : Int) < (n : Int) := by omega
      obtain rfl : i = n := by omega
      have hlen := start_len a i
      have hov : VOwn 1 cvI wr wA.heap.size (.slice ad i c) (Tr.start a i) := vownI (by rw [hlen]; exact ho)
      obtain ⟨-, hcc, G, rfl, hG, hir⟩ := IR.of_own hov (by rw [hlen]; omega)
      rw [hlen] at hcc
      have HS : Hid (shuf cs (b * i) i (i - 1) (Tr.start a i) = R) := HR.out.symm
      have HL : Hid ((Tr.start a i).length = i) := hlen
      have HI := hidden hir
      clear HR hlen hov ho hir
      have HCC := hidden hcc
      clear hcc
      go_wp2_with fail
      generalize Tr.start a i = L0 at *
      have e0 : (i : Int) - 1 = ((i - 1 : Nat) : Int) := by omega
      go_loopw [8, 9, 10] (fun kv jv xv wt => ∃ (k : Nat) (L : List Int), k ≤ i - 1 ∧ kv = .int .i64 k ∧ Hid (L.length = i) ∧ IR wt G L ∧ Hid (shuf cs (b * i) i k L = R) ∧ Below wA.heap.size wA wt) (fun kv _ _ _ => (intOf kv).toNat)
      case atStart => exact ⟨i - 1, L0, Nat.le_refl _, by rw [e0], HL, HI.out, HS, hb⟩
      case round =>
        clear hb HI HL HS
        obtain ⟨k, L, hk, rfl, HL2, hir, HS2, hbt⟩ := hrel
        obtain ⟨c0, c1, c2, c3⟩ := (HP.out.below hbt).four
        have hsz2 := hbt.size
        by_cases hk0 : k = 0
        · subst hk0
          have HB := hidden (hb0.trans (hbt.mono (Nat.le_of_lt hsA)))
          have HI := hidden hir
          clear hbt hir
          go_wp2_with fail
          go_ret
          exact ⟨G, c, by omega, HCC.out, rfl, by rw [← HS2.out]; exact HI.out, HB.out⟩
        · have hkp : (0 : Int) < (k : Int) := by omega
          obtain ⟨j, hj⟩ : ∃ j, j = (coin cs (b * i + (i - 1 - k))).toNat % (k + 1) := ⟨_, rfl⟩
          have hjl : j < k + 1 := by rw [hj]; exact Nat.mod_lt _ (by omega)
          have hlL := HL2.out
          obtain ⟨xk, hxk⟩ := some_of L k (by omega)
          obtain ⟨xj, hxj⟩ := some_of L j (by omega)
          obtain ⟨xz, hxz⟩ := some_of (L.set k xj) j (by rw [List.length_set]; omega)
          have HS3 : Hid (shuf cs (b * i) i (k - 1) ((L.set k xj).set j xk) = R) := by
            have e : shuf cs (b * i) i k L = shuf cs (b * i) i (k - 1) (swp L k j) := by rw [hj]; exact shuf_step (by omega)
            have e2 := HS2.out
            rw [e] at e2
            unfold swp at e2
            rw [hxk, hxj] at e2
            exact e2
          have HL3 : Hid (((L.set k xj).set j xk).length = i) := by rw [Hid, List.length_set, List.length_set]; exact hlL
          have g1 : (k : Int) < (i : Int) := by omega
          have g2 : (j : Int) < (i : Int) := by omega
          have g3 : (0 : Int) ≤ (k : Int) := by omega
          have g4 : (0 : Int) ≤ (j : Int) := by omega
          have HH2 := hidden (HH.out.below (hb0.trans (hbt.mono (Nat.le_of_lt hsA))))
          clear hlL HS2 HL2
          by_cases hz : cs.length = 0
          · have hz1 : ¬ (0 : Int) < (cs.length : Int) := by omega
            have hj0 : j = 0 := by rw [hj, coin_none hz]; simp
            subst hj0
            clear hj hz
            have HIW := hir
            have HBW := hbt
            clear hir hbt
            have HI2 := hidden (HIW.set k xj)
            have HI3 := hidden ((HIW.set k xj).set 0 xk)
            have HB3 := hidden ((HBW.setCell (p := ⟨G, k, none⟩) hG (.int .i64 xj)).setCell (p := ⟨G, 0, none⟩) hG (.int .i64 xk))
            obtain ⟨e1, f1⟩ := HIW.2 _ _ hxk
            obtain ⟨e2, f2⟩ := HIW.2 _ _ hxj
            clear HIW HBW
            go_upto_region 15 with fail
            generalize hw2 : wr.setCell ⟨G, k, none⟩ (.int .i64 xj) = w2 at *
            have d0 := (HI2.out.2 0 xz hxz).1
            have d1 := (HI2.out.2 0 xz hxz).2
            clear HI2 e1 e2 f1 f2 hxk hxj hxz hw2
            go_wp2_with fail
            go_roundw
            case rel =>
              have hkk : ((k - 1 : Nat) : Int) = (k : Int) - 1 := by omega
              first | exact ⟨k - 1, (L.set k xj).set 0 xk, by omega, by rw [hkk], HL3, HI3.out, HS3, HB3.out⟩ | exact ⟨k - 1, by omega, by rw [hkk], (L.set k xj).set 0 xk, HL3, HI3.out, HS3, HB3.out⟩
            case measure => simp [intOf]; omega
          · have hz1 : (0 : Int) < (cs.length : Int) := by omega
            have hz2 : ¬ (cs.length : Int) = 0 := by omega
            obtain ⟨y, hy⟩ := some_of cs ((b * i + (i - 1 - k)) % cs.length) (Nat.mod_lt _ (by omega))
            have hcy := coin_some hy
            have hy0 := HC.out y (List.mem_of_getElem? hy)
            obtain ⟨g, off, rfl, hg, cy⟩ := vint_cell HH2.out hy
            have hml := get_lt' hy
            have hmul : (b : Int) * (i : Int) = ((b * i : Nat) : Int) := by simp
            have hbn : b * i ≤ 20000 := Nat.le_trans (Nat.mul_le_mul hbb (show i ≤ 20 by omega)) (by omega)
            obtain ⟨m, hm⟩ : ∃ m, m = b * i + (i - 1 - k) := ⟨_, rfl⟩
            rw [← hm] at hj hcy hml cy
            have hidx : ((b * i : Nat) : Int) + (i : Int) - 1 - (k : Int) = (m : Int) := by omega
            have hmod : (m : Int) % (cs.length : Int) = ((m % cs.length : Nat) : Int) := (Int.natCast_emod _ _).symm
            have htm : (m : Int).tmod (cs.length : Int) = ((m % cs.length : Nat) : Int) := by rw [Int.tmod_eq_emod_of_nonneg (by omega)]; exact hmod
            have hyk : ¬ (k : Int) + 1 = 0 := by omega
            have hjm : y % ((k : Int) + 1) = (j : Int) := by
              rw [hj, hcy, Int.natCast_emod, Int.toNat_of_nonneg hy0]
              congr 1
            have hjt : y.tmod ((k : Int) + 1) = (j : Int) := by rw [Int.tmod_eq_emod_of_nonneg hy0]; exact hjm
            have hml2 : ((m % cs.length : Nat) : Int) < (cs.length : Int) := by omega
            have hml3 : (0 : Int) ≤ ((m % cs.length : Nat) : Int) := by omega
            have hmb : m ≤ 20020 := by omega
            have hm0 := hm
            have hjm2 := hjm
            have hmlN : m % cs.length < cs.length := by omega
            clear hj hcy hy HH2 hm hidx
            generalize m % cs.length = mm at *
            have hik : k < i := by omega
            have hi20 : i ≤ 20 := by omega
            have HX := hidden (show m = b * i + (i - 1 - k) from hm0)
            have hBl := (HP.out.below hbt).lt
            have hbt2 := hidden hbt
            have hir2 := hidden hir
            clear hbt hir hm0 hjm2
            go_upto_region 12 with fail
            refine regBl12 (i := i) (k := k) (bi := b * i) (m := m) (mm := mm) (j := j) (y := y) rfl rfl rfl rfl rfl hBl hg c1 c2 cy hmul hbn hi20 hik HX.out htm hmod hmlN hjt hjm ?_
            intro b' w3 hf hb3 hv
            rw [layBl12 hf, hv]
            clear hv hf
            generalize Rg.out (Rg.opsOf Try.f42 12) b' 0 = y0
            generalize Rg.out (Rg.opsOf Try.f42 12) b' 1 = y1
            generalize Rg.out (Rg.opsOf Try.f42 12) b' 2 = y2
            generalize Rg.out (Rg.opsOf Try.f42 12) b' 3 = y3
            generalize Rg.out (Rg.opsOf Try.f42 12) b' 4 = y4
            generalize Rg.out (Rg.opsOf Try.f42 12) b' 5 = y5
            generalize Rg.out (Rg.opsOf Try.f42 12) b' 6 = y6
            generalize Rg.out (Rg.opsOf Try.f42 12) b' 7 = y7
            generalize Rg.out (Rg.opsOf Try.f42 12) b' 8 = y8
            generalize Rg.out (Rg.opsOf Try.f42 12) b' 9 = y9
            generalize Rg.out (Rg.opsOf Try.f42 12) b' 10 = y10
            generalize Rg.out (Rg.opsOf Try.f42 12) b' 11 = y11
            generalize Rg.out (Rg.opsOf Try.f42 12) b' 12 = y12
            generalize Rg.out (Rg.opsOf Try.f42 12) b' 13 = y13
            generalize Rg.out (Rg.opsOf Try.f42 12) b' 14 = y14
            generalize Rg.out (Rg.opsOf Try.f42 12) b' 15 = y15
            generalize Rg.out (Rg.opsOf Try.f42 12) b' 16 = y16
            generalize Rg.out (Rg.opsOf Try.f42 12) b' 17 = y17
            generalize Rg.out (Rg.opsOf Try.f42 12) b' 18 = y18
            go_frame
            have HIW := hir2.out.below hb3
            have HBW := hbt2.out.trans (hb3.mono hbt2.out.size)
            clear hir2 hbt2 hb3
            have HI2 := hidden (HIW.set k xj)
            have HI3 := hidden ((HIW.set k xj).set j xk)
            have HB3 := hidden ((HBW.setCell (p := ⟨G, k, none⟩) hG (.int .i64 xj)).setCell (p := ⟨G, j, none⟩) hG (.int .i64 xk))
            obtain ⟨e1, f1⟩ := HIW.2 _ _ hxk
            obtain ⟨e2, f2⟩ := HIW.2 _ _ hxj
            clear HIW HBW
            go_upto_region 15 with fail
            generalize hw2 : w3.setCell ⟨G, k, none⟩ (.int .i64 xj) = w2 at *
            have d0 := (HI2.out.2 j xz hxz).1
            have d1 := (HI2.out.2 j xz hxz).2
            clear HI2 e1 e2 f1 f2 hxk hxj hxz hw2
            go_wp2_with fail
            go_roundw
            case rel =>
              have hkk : ((k - 1 : Nat) : Int) = (k : Int) - 1 := by omega
              first | exact ⟨k - 1, (L.set k xj).set j xk, by omega, by rw [hkk], HL3, HI3.out, HS3, HB3.out⟩ | exact ⟨k - 1, by omega, by rw [hkk], (L.set k xj).set j xk, HL3, HI3.out, HS3, HB3.out⟩
            case measure => simp [intOf]; omega
end Go.Proofs.Ytoehnlbkgpjhmaa
