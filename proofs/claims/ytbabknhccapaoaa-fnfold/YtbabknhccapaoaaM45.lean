/-
  The order in which letters come does not matter, nor that one comes twice: the walk of the law.
-/
import Derived.Test.YtbabknhccapaoaaM44
import Derived.ArgAppend
import Derived.Deep.DeepAppendRoom
namespace Go.Proofs.Ytbabknhccapaoaa
open Go.RowKit Va Mg
set_option linter.all false

theorem drop_mem {l : List Lt} {n : Nat} {x : Lt} (hx : l[n]? = some x) (z : Lt) : z ∈ l.drop n ↔ z ∈ l.drop (n + 1) ∨ z = x := by
  obtain ⟨hn, rfl⟩ := List.getElem?_eq_some_iff.1 hx
  rw [List.drop_eq_getElem_cons hn, List.mem_cons]
  exact or_comm

/-- append onto a row of the call's own: the elder row stands as it stood. -/
theorem append_keep {P : Program} (w : World) {ops : Array Oper} {rest : List Oper} {o : Oper} {a : Act} {Q : Exit → Act → World → Prop} (hgd : o.guard = none) (s x : Operand) (t : TypeId)
    (ho : o.op = .call { callee := .builtin .append, args := #[s, x], argTypes := #[t, t] })
    (base : Nat) (e : TypeId) (i : TypeInfo) (z : Value) (size bytes : Nat) (ht : P.underlying t = some (.slice e)) (hi : P.info? e = some i) (hz : i.zero = some z)
    (hsize : i.size = size) (hby : i.bytes = bytes) (hzs : z.cells.size = size) (hsz : 0 < size)
    (v : Value) (n : Nat) (xs : List Value) (hs : a.eval s = v) (hown : w.ownsRow base e size v n xs)
    (ad : Addr) (m c : Nat) (news : List Value) (hx : a.eval x = .slice (some ad) m c) (hl : news.length = m * size) (hnews : ∀ j u, news[j]? = some u → w.cell? (ad.add j) = some u) (h1 : ∀ u ∈ news, u.oneCell' = true)
    (h63 : n + m ≤ maxLen) (hbytes : (n + m) * bytes ≤ 140737488355328) (hbase : base ≤ w.heap.size)
    (h : ∀ v' w', w'.ownsRow base e size v' (n + m) (xs ++ news) → w.grownBy w' v.ownBlock → w'.ownsRow base e size v n xs → wpList P ops Q rest (a.put o.dst v') w') :
    wpList P ops Q (o :: rest) a w := by
  have hown2 := hown
  obtain ⟨q, ⟨q1, q2⟩ | ⟨g, cp, cur, rfl, hbg, hg, hnc, hcm, hcs, htake⟩⟩ := hown2
  · exact wpList_append_own_at w hgd s x t ho base e i z size bytes ht hi hz hsize hby hzs hsz v n xs hs hown ad m c news hx hl hnews h1 h63 hbytes hbase (fun v' w' a1 a2 _ _ => h v' w' a1 a2 ⟨q, Or.inl ⟨q1, q2⟩⟩)
  · by_cases hr : n + m ≤ cp
    · refine wpList_append_own_spare w hgd s x t ho base e i size ht hi hsize g n cp xs hs hown ad m c news hx hl hnews h1 hr (fun w' a1 a2 => h _ w' a1 a2 ?_)
      obtain ⟨r, ⟨r1, _⟩ | ⟨g2, cp2, cur2, e2, _, hg2, hnc2, hcm2, hcs2, htake2⟩⟩ := a1
      · cases r1
      · simp only [Value.slice.injEq, Option.some.injEq, Addr.mk.injEq, and_true, true_and] at e2
        obtain ⟨rfl, rfl⟩ := e2
        refine ⟨q, Or.inr ⟨g, cp, cur2, rfl, hbg, hg2, hnc, hcm, hcs2, ?_⟩⟩
        have h9 : (cur2.toList.take ((n + m) * size)).take (n * size) = (xs ++ news).take (n * size) := by rw [htake2]
        rw [List.take_take, Nat.min_eq_left (Nat.mul_le_mul_right _ (by omega))] at h9
        rw [h9, ← q]
        exact List.take_left
    · refine wpList_append_grows w hgd s x t ho e i z size bytes ht hi hz hsize hby hzs hsz (some ⟨g, 0, none⟩) n cp xs hs (fun h => by cases h) q (fun b hb j u hj => ?_) ad m c news hx hl hnews h1 (by omega) h63 hbytes (fun v' w' a1 a2 => ?_)
      · obtain rfl := Option.some.inj hb
        exact hown.cells (g := g) rfl j u hj
      · obtain ⟨p1, p2, p3, p4, p5⟩ := a2
        refine h v' w' (ownW_base a1 hbase) ⟨p1, p2, p3, p4, fun k hk _ => p5 k hk (by simp)⟩ ⟨q, Or.inr ⟨g, cp, cur, rfl, hbg, (p5 g (Array.getElem?_eq_some_iff.1 hg).1 (by simp)).trans hg, hnc, hcm, hcs, htake⟩⟩

set_option maxRecDepth 20000 in
set_option maxHeartbeats 16000000 in
theorem ffo_walk (ao : Option Addr) (cap : Nat) (bs : List Int) (w : World) (hb : Bytes w w.heap.size ao bs) :
    Calls Try.prog 3 #[.slice ao bs.length cap] w fun e w' => e = .returned (.bool true) ∧ Below w.heap.size w w' := by
  obtain ⟨j0, hj0, hu0, hu1, hu2⟩ := info_partsW infoLetD
  have hB := big_any ao cap bs.length
  have HBY := hidden hb
  clear hb
  by_cases hbig : (4096 : Int) < (bs.length : Int)
  · rw [decide_eq_true hbig] at hB
    go_enter Try.func3, Try.ntmps3
    go_wp2_with fail
    refine (hB _).mono ?_
    rintro e w1 ⟨rfl, rfl⟩
    go_wp2_with fail
    go_ret
    exact ⟨rfl, Below.refl _ _⟩
  rw [decide_eq_false hbig] at hB
  have hl : bs.length ≤ 4096 := by omega
  go_enter Try.func3, Try.ntmps3
  go_wp2_with fail
  refine (hB w).mono ?_
  rintro e w1 ⟨rfl, hw1⟩
  subst hw1
  clear hB
  go_wp2_with fail
  refine (dfold_any ao cap bs _ HBY.out (by omega)).mono ?_
  rintro e w2 ⟨v, l, rfl, ⟨a, k, rfl⟩, hl2, HW, hrow, b2⟩
  have HR := hidden hrow
  have B2 := hidden b2
  have hfl := fold_len l
  have hI1 := ifold_any (some a) l.length k l w2 hrow (by omega) HW.out
  have HS := hidden (fun W hW => sfold_any (some a) l.length k l W hW (by omega))
  obtain ⟨F, hF⟩ : ∃ F, F = fold l := ⟨_, rfl⟩
  rw [← hF] at hI1 HS hfl
  have HF := hidden hF
  clear hF hrow b2 HBY
  go_wp2_with fail
  refine hI1.mono ?_
  rintro e w3 ⟨v3, rfl, ho3, b3⟩
  obtain ⟨a3, k3, rfl⟩ := ho3.row.form
  have V3 := hidden ho3.row
  have B3 := hidden (onto B2.out b3)
  have R3 := hidden (HR.out.below b3)
  clear ho3 b3 B2 HR hI1
  go_wp2_with fail
  refine (HS.out _ R3.out).mono ?_
  rintro e w4 ⟨v4, rfl, ho4, b4⟩
  obtain ⟨a4, k4, rfl⟩ := ho4.row.form
  have V4 := hidden (V3.out.below b4)
  have R4 := hidden (R3.out.below b4)
  have B4 := hidden (onto B3.out b4)
  clear ho4 b4 B3 HS R3 V3
  by_cases h100 : (100 : Int) < (l.length : Int)
  · go_wp2_with fail
    go_ret
    exact ⟨rfl, B4.out⟩
  have hl100 : l.length ≤ 100 := by omega
  have hB0 : (w4.alloc (.cells #[] 29)).ownsRow w4.heap.size 29 5 (.slice (some ⟨w4.heap.size, 0, none⟩) 0 0) 0 [] := ownW_new w4 _ 5
  have b5 : Below w4.heap.size w4 (w4.alloc (.cells #[] 29)) := (Below.refl _ _).alloc (Nat.le_refl _) _
  clear hl2
  go_wp2_with fail
  go_loopw [5, 6] (fun sv iv wr => ∃ (i : Int) (m : Nat) (B : List Lt), iv = .int .i64 i ∧ Hid (i = (m : Int) - 1) ∧ m ≤ l.length ∧ B.length ≤ 2 * (l.length - m) ∧ Hid (∀ z, z ∈ B ↔ z ∈ l.drop m) ∧ Hid (wr.ownsRow w4.heap.size 29 5 sv B.length (vcellsL 5 cvLt B)) ∧ Hid (Below w4.heap.size w4 wr)) (fun _ iv _ => (intOf iv + 1).toNat)
  case atStart => exact ⟨_, l.length, [], rfl, rfl, Nat.le_refl _, by simp, fun z => by simp, hB0, b5⟩
  case round =>
    clear hB0 b5
    obtain ⟨i, m, B, rfl, HI, hm, hBl, HM, HO, HB⟩ := hrel
    obtain ⟨ad, c, rfl⟩ := ownW_slice HO.out
    rcases m with _ | n
    · obtain rfl : i = -1 := by have := HI.out; omega
      clear HI
      have HN := hidden (news_of (R4.out.below HB.out))
      have hsz := HB.out.size
      go_upto_region 17 with (first | (at_builtin; refine append_keep _ rfl (.tmp 49) (.tmp 50) 24 rfl w4.heap.size 29 j0 (.agg #[.int .i64 0, .int .i64 0, .int .i64 0, .int .i64 0, .int .i64 0]) 5 40 Try.underlying24 hj0 hu0 hu1 hu2 rfl (by decide) _ B.length (vcellsL 5 cvLt B) rfl HO.out a l.length k (vcellsL 5 cvLt l) rfl (vcellsL_len l) HN.out (lts_one l) (by unfold maxLen; omega) (by omega) (by omega) ?_; intro vA wA hoA hgA hOld))
      have HBA := hidden (HB.out.grown hgA HB.out.size (fun k hk => (ownW_lt HO.out k hk).1))
      obtain ⟨ad1, k1, rfl⟩ := ownW_slice hoA
      have hmem : ∀ z, z ∈ B ++ l ↔ z ∈ l := fun z => by
        have := HM.out z
        rw [List.drop_zero] at this
        rw [List.mem_append, this]
        exact or_self_iff
      have hoA2 : wA.ownsRow w4.heap.size 29 5 (.slice ad1 (B.length + l.length) k1) (B ++ l).length (vcellsL 5 cvLt (B ++ l)) := by rw [List.length_append, lts_app]; exact hoA
      have hBl2 : (B ++ l).length ≤ 1000 := by rw [List.length_append]; omega
      have hG := ifold_any ad1 (B.length + l.length) k1 (B ++ l) wA (vown_of rfl hoA2).row (by omega) (fun x hx => HW.out x ((hmem x).1 hx))
      rw [fold_same hmem hBl2 (by omega), ← HF.out] at hG
      have HBr := hidden (fun W (hW : Below wA.heap.size wA W) => (HBA.out.trans (hW.mono HBA.out.size)))
      have HMB : Hid (VRw 5 cvLt wr (.slice ad B.length c) B) := (vown_of rfl HO.out).row
      have HMm : Hid (missing B 1 = missing l 1) := missing_same (fun z => by have := HM.out z; rw [List.drop_zero] at this; exact this) (by omega) (by omega) 1
      have HRB : Hid (VRw 5 cvLt wA (.slice ad B.length c) B) := (vown_of rfl hOld).row
      clear hoA hoA2 hgA hOld HO HB HN hmem hBl2 HM
      refine hG.mono ?_
      rintro e w7 ⟨v7, rfl, ho7, b7⟩
      obtain ⟨a7, k7, rfl⟩ := ho7.row.form
      have V7 := hidden ho7.row
      have B7 := hidden (HBr.out _ b7)
      have RB7 := hidden (HRB.out.below b7)
      have R7 := hidden (R4.out.below B7.out)
      have F7 := hidden (V4.out.below B7.out)
      have T7 := hidden (onto B4.out B7.out)
      clear ho7 b7 hG HBr HRB HMB HBA R4 V4 B4 B7
      go_wp2_with fail
      go_loopw [8] (fun iv wr => ∃ i : Nat, i ≤ F.length ∧ iv = .int .i64 i ∧ Hid (Below w7.heap.size w7 wr)) (fun iv _ => F.length - (intOf iv).toNat)
      case atStart => exact ⟨0, Nat.zero_le _, rfl, Below.refl _ _⟩
      case round =>
        obtain ⟨i, hil, rfl, HB⟩ := hrel
        by_cases hlt : i < F.length
        · have hlti : (i : Int) < (F.length : Int) := by omega
          obtain ⟨x, hx⟩ := some_of F i hlt
          obtain ⟨g, off, rfl, hg, hcs⟩ := (F7.out.below HB.out).at hx
          obtain ⟨g', off', rfl, hg', hcs'⟩ := (V7.out.below HB.out).at hx
          have c0 := hcs 0 (by omega)
          have c1 := hcs 1 (by omega)
          have d0 := hcs' 0 (by omega)
          have d1 := hcs' 1 (by omega)
          simp only [cvFc, Nat.add_zero] at c0 c1 d0 d1
          have hb := HB.out
          clear hcs hcs' hx HB
          go_wp2_with fail
          go_quiet (fail)
          go_wp2_with fail
          go_roundw
          case rel => exact ⟨i + 1, by omega, rfl, by repeat (first | exact Below.refl _ _ | assumption | refine st_drew ?_ | refine st_drewN ?_ _ | refine Below.setCell ?_ (by first | omega | (simp; done) | (simp; omega)) _ | refine Below.alloc ?_ (by first | omega | (simp; done) | (simp; omega)) _)⟩
          case measure => simp [intOf]; omega
        · have hlti : ¬ (i : Int) < (F.length : Int) := by omega
          have RB8 := hidden (RB7.out.below HB.out)
          have R8 := hidden (R7.out.below HB.out)
          have T8 := hidden (onto T7.out HB.out)
          clear V7 F7 HB RB7 R7 T7
          have hml := missing_len l 1
          have HMI := hidden (fun a0 n0 c0 W hW => imissing_any a0 n0 c0 l 1 W hW (by omega))
          have HMS := hidden (fun a0 n0 c0 W hW => smissing_any a0 n0 c0 l 1 W hW (by omega))
          have HMX := hidden (fun a0 n0 c0 W hW => imissing_any a0 n0 c0 B 1 W hW (by omega))
          rw [HMm.out] at HMX
          generalize missing l 1 = M at *
          clear HMm
          go_wp2_with fail
          refine (HMX.out _ _ _ _ RB8.out).mono ?_
          rintro e w9 ⟨v9, rfl, ho9, b9⟩
          obtain ⟨a9, k9, rfl⟩ := ho9.row.form
          have V9 := hidden ho9.row
          have R9 := hidden (R8.out.below b9)
          have T9 := hidden (onto T8.out b9)
          clear ho9 b9 R8 T8 RB8 HMX
          go_wp2_with fail
          refine (HMI.out _ _ _ _ R9.out).mono ?_
          rintro e w10 ⟨v10, rfl, ho10, b10⟩
          obtain ⟨a10, k10, rfl⟩ := ho10.row.form
          have V10 := hidden ho10.row
          have V9' := hidden (V9.out.below b10)
          have R10 := hidden (R9.out.below b10)
          have T10 := hidden (onto T9.out b10)
          clear ho10 b10 R9 T9 V9
          go_wp2_with fail
          refine (sameF_any _ _ _ _ _ _ M _ V9'.out V10.out (by omega)).mono ?_
          rintro e w11 ⟨rfl, b11⟩
          have R11 := hidden (R10.out.below b11)
          have T11 := hidden (onto T10.out b11)
          clear b11 R10 T10 V9' V10
          go_wp2_with fail
          refine (HMI.out _ _ _ _ R11.out).mono ?_
          rintro e w12 ⟨v12, rfl, ho12, b12⟩
          obtain ⟨a12, k12, rfl⟩ := ho12.row.form
          have R12 := hidden (R11.out.below b12)
          have T12 := hidden (onto T11.out b12)
          clear ho12 b12 R11 T11
          go_wp2_with fail
          refine (HMS.out _ _ _ _ R12.out).mono ?_
          rintro e w13 ⟨v13, rfl, ho13, b13⟩
          obtain ⟨a13, k13, rfl⟩ := ho13.row.form
          have T13 := hidden (onto T12.out b13)
          clear ho13 b13 R12 T12
          go_wp2_with fail
          go_ret
          exact ⟨rfl, T13.out⟩
    · obtain rfl : i = (n : Int) := by have := HI.out; omega
      clear HI
      have hnl : n < l.length := by omega
      have hn0 : (0 : Int) ≤ (n : Int) := by omega
      have hnli : (n : Int) < (l.length : Int) := by omega
      obtain ⟨x, hx⟩ := some_of l n hnl
      have hM1 := fun z => drop_mem hx z
      have HX := hidden hx
      obtain ⟨g, off, ea, hg, hcs⟩ := (R4.out.below HB.out).at hx
      obtain rfl := Option.some.inj ea
      have c0 : wr.cell? ⟨g, off + n * 5, none⟩ = some (.int .i64 x.f) := hcs 0 (by omega)
      have c1 : wr.cell? ⟨g, off + n * 5 + 1, none⟩ = some (.int .i64 x.s) := hcs 1 (by omega)
      have c2 : wr.cell? ⟨g, off + n * 5 + 2, none⟩ = some (.int .i64 x.c) := hcs 2 (by omega)
      have c3 : wr.cell? ⟨g, off + n * 5 + 3, none⟩ = some (.int .i64 x.k) := hcs 3 (by omega)
      have c4 : wr.cell? ⟨g, off + n * 5 + 4, none⟩ = some (.int .i64 x.v) := hcs 4 (by omega)
      have HO1 := hidden (ownW_below HO.out ((Below.refl wr.heap.size wr).alloc (Nat.le_refl _) (.cells #[.int .i64 x.f, .int .i64 x.s, .int .i64 x.c, .int .i64 x.k, .int .i64 x.v] 29)))
      have HB1 := hidden (HB.out.alloc HB.out.size (.cells #[.int .i64 x.f, .int .i64 x.s, .int .i64 x.c, .int .i64 x.k, .int .i64 x.v] 29))
      have hsz := HB.out.size
      clear hcs hx HO HB
      go_upto_if 41 with (at_builtin; refine wpList_append_own_at _ rfl (.tmp 32) (.tmp 37) 24 rfl w4.heap.size 29 j0 (.agg #[.int .i64 0, .int .i64 0, .int .i64 0, .int .i64 0, .int .i64 0]) 5 40 Try.underlying24 hj0 hu0 hu1 hu2 rfl (by decide) _ B.length (vcellsL 5 cvLt B) rfl HO1.out ⟨wr.heap.size, 0, none⟩ 1 1 [.int .i64 x.f, .int .i64 x.s, .int .i64 x.c, .int .i64 x.k, .int .i64 x.v] rfl rfl (cell_fiveD _ _ _ _ _ _ _) (by simp [Value.oneCell']) (by unfold maxLen; omega) (by omega) (by simp; omega) ?_; intro vA wA hoA hgA hnA hloA)
      have HBA := hidden (HB1.out.grown hgA (by simp; omega) (fun k hk => (ownW_lt HO1.out k hk).1))
      have HOA : Hid (wA.ownsRow w4.heap.size 29 5 vA (B ++ [x]).length (vcellsL 5 cvLt (B ++ [x]))) := by rw [Hid, List.length_append, vcellsL_app]; exact hoA
      have HMA : Hid (∀ z, z ∈ B ++ [x] ↔ z ∈ l.drop n) := fun z => by rw [hM1 z, List.mem_append, List.mem_singleton, HM.out z]
      clear hoA hgA hnA hloA HO1 HB1 hsz c0 c1 c2 c3 c4 hM1 HM hg
      obtain ⟨ad1, k1, rfl⟩ := ownW_slice HOA.out
      have hBA : (B ++ [x]).length ≤ 2 * (l.length - (n + 1)) + 1 := by rw [List.length_append]; simp; omega
      obtain ⟨B1, hB1⟩ : ∃ B1, B1 = B ++ [x] := ⟨_, rfl⟩
      rw [← hB1] at hBA HMA HOA ⊢
      clear hB1 hBl
      by_cases hp : n % 2 = 0
      · have p1 : (n : Int).tmod 2 = 0 := by rw [Int.tmod_eq_emod_of_nonneg (by omega)]; omega
        have p2 : (n : Int) % 2 = 0 := by omega
        obtain ⟨g2, off2, ea2, hg2, hcs⟩ := (R4.out.below HBA.out).at HX.out
        simp only [Option.some.injEq, Addr.mk.injEq, and_true] at ea2
        obtain ⟨rfl, rfl⟩ := ea2
        have c0 : wA.cell? ⟨g, off + n * 5, none⟩ = some (.int .i64 x.f) := hcs 0 (by omega)
        have c1 : wA.cell? ⟨g, off + n * 5 + 1, none⟩ = some (.int .i64 x.s) := hcs 1 (by omega)
        have c2 : wA.cell? ⟨g, off + n * 5 + 2, none⟩ = some (.int .i64 x.c) := hcs 2 (by omega)
        have c3 : wA.cell? ⟨g, off + n * 5 + 3, none⟩ = some (.int .i64 x.k) := hcs 3 (by omega)
        have c4 : wA.cell? ⟨g, off + n * 5 + 4, none⟩ = some (.int .i64 x.v) := hcs 4 (by omega)
        have HO1 := hidden (ownW_below HOA.out ((Below.refl wA.heap.size wA).alloc (Nat.le_refl _) (.cells #[.int .i64 x.f, .int .i64 x.s, .int .i64 x.c, .int .i64 x.k, .int .i64 x.v] 29)))
        have HB1 := hidden (HBA.out.alloc HBA.out.size (.cells #[.int .i64 x.f, .int .i64 x.s, .int .i64 x.c, .int .i64 x.k, .int .i64 x.v] 29))
        have hsz := HBA.out.size
        clear hcs HOA HBA
        go_wp2_with (at_builtin; refine wpList_append_own_at _ rfl (.tmp 42) (.tmp 47) 24 rfl w4.heap.size 29 j0 (.agg #[.int .i64 0, .int .i64 0, .int .i64 0, .int .i64 0, .int .i64 0]) 5 40 Try.underlying24 hj0 hu0 hu1 hu2 rfl (by decide) _ B1.length (vcellsL 5 cvLt B1) rfl HO1.out ⟨wA.heap.size, 0, none⟩ 1 1 [.int .i64 x.f, .int .i64 x.s, .int .i64 x.c, .int .i64 x.k, .int .i64 x.v] rfl rfl (cell_fiveD _ _ _ _ _ _ _) (by simp [Value.oneCell']) (by unfold maxLen; omega) (by omega) (by simp; omega) ?_; intro vZ wZ hoZ hgZ hnZ hloZ)
        have HBZ := hidden (HB1.out.grown hgZ (by simp; omega) (fun k hk => (ownW_lt HO1.out k hk).1))
        have HOZ : Hid (wZ.ownsRow w4.heap.size 29 5 vZ (B1 ++ [x]).length (vcellsL 5 cvLt (B1 ++ [x]))) := by rw [Hid, List.length_append, vcellsL_app]; exact hoZ
        have hxl : x ∈ l.drop n := (drop_mem HX.out x).2 (Or.inr rfl)
        have HMZ : Hid (∀ z, z ∈ B1 ++ [x] ↔ z ∈ l.drop n) := fun z => by
          rw [List.mem_append, List.mem_singleton, HMA.out z]
          exact ⟨fun h => h.elim id (fun e => e ▸ hxl), Or.inl⟩
        clear hoZ hgZ hnZ hloZ HO1 HB1 hxl
        go_roundw
        case rel => exact ⟨_, n, B1 ++ [x], rfl, rfl, by omega, by rw [List.length_append]; simp; omega, HMZ, HOZ, HBZ⟩
        case measure => first | (simp [intOf]; done) | (simp [intOf]; omega)
      · have p1 : ¬ (n : Int).tmod 2 = 0 := by rw [Int.tmod_eq_emod_of_nonneg (by omega)]; omega
        have p2 : ¬ (n : Int) % 2 = 0 := by omega
        go_wp2_with fail
        go_roundw
        case rel => exact ⟨_, n, B1, rfl, rfl, by omega, by omega, HMA, HOA, HBA⟩
        case measure => first | (simp [intOf]; done) | (simp [intOf]; omega)
end Go.Proofs.Ytbabknhccapaoaa
