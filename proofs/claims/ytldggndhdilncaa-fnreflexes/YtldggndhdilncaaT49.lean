/-
  Reflexes, the specification's.
-/
import Derived.Test.YtldggndhdilncaaT48
import Derived.Test.YtldggndhdilncaaT47
import Derived.Test.YtldggndhdilncaaT49q
import Derived.Test.YtldggndhdilncaaT49r
namespace Go.Proofs.Ytldggndhdilncaa
open Go.RowKit Va Lb
set_option linter.all false

theorem rf_none {rs : List Rx} {vs : List Vl} {qs : List Int} (h : ¬ RfOk rs vs qs) : reflexes rs vs qs = [] := by unfold reflexes; rw [if_neg h]
theorem TBL.grown {W W' : World} {G : Nat} {f : Nat → Nat} {b n : Nat} {v : Value} {xs : List Value} (h : TBL W G f) (ho : W.ownsRow b 2 1 v n xs) (hg : W.grownBy W' v.ownBlock) : TBL W' G f := by
  obtain ⟨A9, h1, h2⟩ := h
  exact ⟨A9, PBT_grown h1 hg (PBT_ne h1 ho (by decide)), h2⟩
theorem fold_next {qs L : List Int} {i : Nat} {x : Int} (h : L = (qs.take i).foldl addTo []) (hx : qs[i]? = some x) : (has L x = true → L = (qs.take (i + 1)).foldl addTo []) ∧ (has L x = false → L ++ [x] = (qs.take (i + 1)).foldl addTo []) := by
  rw [List.take_succ, hx, List.foldl_append, ← h]
  constructor
  · intro q
    show L = addTo L x
    unfold addTo
    rw [if_pos (has_iff.1 q)]
  · intro q
    show L ++ [x] = addTo L x
    unfold addTo
    rw [if_neg (has_not q)]
theorem meas {l n i : Nat} (h : l < 100) : (100 - (l + 1)) * (n + 1) + n < (100 - l) * (n + 1) + (n - i) := by
  obtain ⟨b, hb⟩ : ∃ b, 100 - l = b + 1 := ⟨99 - l, by omega⟩
  rw [show 100 - (l + 1) = b by omega, hb, Nat.succ_mul]
  omega
theorem own_none {w W : World} {R : List Int} {a : Option Addr} {c : Nat} (hR : R = []) (hb : Below w.heap.size w W) : ∃ v'', Ending.returned (.slice a 0 c) = .returned v'' ∧ VOwn 1 cvI (W.alloc (.cells #[] 2)) w.heap.size v'' R ∧ Below w.heap.size w (W.alloc (.cells #[] 2)) :=
  ⟨_, rfl, by rw [hR]; exact VOwn.nil _ _ _ _, hb.alloc hb.size _⟩

set_option maxRecDepth 20000 in
set_option maxHeartbeats 8000000 in
theorem sreflexes_any (ao : Option Addr) (n cap : Nat) (rs : List Rx) (av : Option Addr) (nv cv : Nat) (vs : List Vl) (aa : Option Addr) (na ca : Nat) (qs : List Int) (w : World)
    (h : VRw 4 cvRx w (.slice ao n cap) rs) (hv : VRw 2 cvVl w (.slice av nv cv) vs) (ha : VRw 1 cvI w (.slice aa na ca) qs) (hn : rs.length ≤ 1048576) (hnv : vs.length ≤ 1048576) (hna : qs.length ≤ 1048576) (hvb : ∀ x ∈ vs, vlB x.v = true) :
    Calls Try.prog 7 #[.slice ao n cap, .slice av nv cv, .slice aa na ca] w fun e w' => ∃ v', e = .returned v' ∧ VOwn 1 cvI w' w.heap.size v' (reflexes rs vs qs) ∧ Below w.heap.size w w' := by
  obtain rfl := h.len
  obtain rfl := hv.len
  obtain rfl := ha.len
  have HR := hidden h
  have HV := hidden hv
  have HA := hidden ha
  have HVB := hidden hvb
  clear h hv ha hvb
  have HF := hidden (rf_none (rs := rs) (vs := vs) (qs := qs))
  have HG : Hid (∀ q : RfOk rs vs qs, reflexes rs vs qs = growR rs vs 100 (onceL qs)) := fun q => by unfold reflexes; rw [if_pos q]
  obtain ⟨j0, hj0, hj1, hj2, hj3⟩ := info_partsW infoInt
  obtain ⟨i0, hi0, hy0, hy1, hy2⟩ := info_partsW infoW64
  by_cases g1 : (200 : Int) < (rs.length : Int)
  · have HE := hidden (HF.out (fun q => by have := q.1.1; omega))
    generalize reflexes rs vs qs = O at *
    go_enter Try.func7, Try.ntmps7
    go_wp2_with fail
    go_ret
    exact own_none HE.out (Below.refl _ _)
  by_cases g2 : (100 : Int) < (vs.length : Int)
  · have HE := hidden (HF.out (fun q => by have := q.2.1.1; omega))
    generalize reflexes rs vs qs = O at *
    go_enter Try.func7, Try.ntmps7
    go_wp2_with fail
    go_ret
    exact own_none HE.out (Below.refl _ _)
  by_cases g3 : (100 : Int) < (qs.length : Int)
  · have HE := hidden (HF.out (fun q => by have := q.2.2.1; omega))
    generalize reflexes rs vs qs = O at *
    go_enter Try.func7, Try.ntmps7
    go_wp2_with fail
    go_ret
    exact own_none HE.out (Below.refl _ _)
  generalize reflexes rs vs qs = O at *
  go_enter Try.func7, Try.ntmps7
  go_wp2_with fail
  go_loopw [7, 8] (fun iv _ wr => ∃ i : Nat, i ≤ rs.length ∧ iv = .int .i64 i ∧ Hid (∀ r ∈ rs.take i, rxB r = true) ∧ Below w.heap.size w wr) (fun iv _ _ => rs.length - (intOf iv).toNat)
  case atStart => exact ⟨0, Nat.zero_le _, rfl, (fun r hr => by simp at hr), Below.refl _ _⟩
  case round =>
    obtain ⟨i, hi, rfl, hok, hb⟩ := hrel
    by_cases hlt : i < rs.length
    · have hlti : (i : Int) < (rs.length : Int) := by omega
      obtain ⟨x, hx⟩ := some_of rs i hlt
      obtain ⟨g, off, rfl, hg, hcs⟩ := (HR.out.below hb).at hx
      have c0 : wr.cell? ⟨g, off + i * 4, none⟩ = some (.int .i64 x.te) := hcs 0 (by omega)
      have c1 : wr.cell? ⟨g, off + i * 4 + 1, none⟩ = some (.int .i64 x.lo) := hcs 1 (by omega)
      have c2 : wr.cell? ⟨g, off + i * 4 + 2, none⟩ = some (.int .i64 x.hi) := hcs 2 (by omega)
      have c3 : wr.cell? ⟨g, off + i * 4 + 3, none⟩ = some (.int .i64 x.th) := hcs 3 (by omega)
      have bA : Below w.heap.size w (wr.alloc (.cells #[.int .i64 x.te, .int .i64 x.lo, .int .i64 x.hi, .int .i64 x.th] 37)) := hb.alloc hb.size _
      have HX := hidden (rx_take (x := x) hok.out hx)
      have HN : Hid (rxB x = false → O = []) := fun q => HF.out (fun q2 => by
        have := (rx_ok x).2 (q2.1.2 x (List.mem_of_getElem? hx))
        rw [q] at this; cases this)
      have k1 := lin_any x.te 0 99
      have k2 := lin_any x.th 0 99
      have k3 := svalue_any x.lo
      have k4 := svalue_any x.hi
      clear hx hcs hok
      unfold rxB at HX HN
      generalize rng x.te 0 99 = b1 at *
      generalize rng x.th 0 99 = b2 at *
      generalize vlB x.lo = b3 at *
      generalize vlB x.hi = b4 at *
      cases b1 with
      | false =>
        have HE := hidden (HN.out rfl)
        go_wp2_with (first | (go_at_call 19; first | (with_reducible refine (k1 _).mono ?_; rintro e w1 ⟨rfl, rfl⟩) | (with_reducible refine (k2 _).mono ?_; rintro e w1 ⟨rfl, rfl⟩)) | (go_at_call 20; first | (with_reducible refine (k3 _).mono ?_; rintro e w1 ⟨rfl, rfl⟩) | (with_reducible refine (k4 _).mono ?_; rintro e w1 ⟨rfl, rfl⟩)))
        go_ret
        exact own_none HE.out bA
      | true =>
      cases b2 with
      | false =>
        have HE := hidden (HN.out rfl)
        go_wp2_with (first | (go_at_call 19; first | (with_reducible refine (k1 _).mono ?_; rintro e w1 ⟨rfl, rfl⟩) | (with_reducible refine (k2 _).mono ?_; rintro e w1 ⟨rfl, rfl⟩)) | (go_at_call 20; first | (with_reducible refine (k3 _).mono ?_; rintro e w1 ⟨rfl, rfl⟩) | (with_reducible refine (k4 _).mono ?_; rintro e w1 ⟨rfl, rfl⟩)))
        go_ret
        exact own_none HE.out bA
      | true =>
      cases b3 with
      | false =>
        have HE := hidden (HN.out rfl)
        go_wp2_with (first | (go_at_call 19; first | (with_reducible refine (k1 _).mono ?_; rintro e w1 ⟨rfl, rfl⟩) | (with_reducible refine (k2 _).mono ?_; rintro e w1 ⟨rfl, rfl⟩)) | (go_at_call 20; first | (with_reducible refine (k3 _).mono ?_; rintro e w1 ⟨rfl, rfl⟩) | (with_reducible refine (k4 _).mono ?_; rintro e w1 ⟨rfl, rfl⟩)))
        go_ret
        exact own_none HE.out bA
      | true =>
      cases b4 with
      | false =>
        have HE := hidden (HN.out rfl)
        go_wp2_with (first | (go_at_call 19; first | (with_reducible refine (k1 _).mono ?_; rintro e w1 ⟨rfl, rfl⟩) | (with_reducible refine (k2 _).mono ?_; rintro e w1 ⟨rfl, rfl⟩)) | (go_at_call 20; first | (with_reducible refine (k3 _).mono ?_; rintro e w1 ⟨rfl, rfl⟩) | (with_reducible refine (k4 _).mono ?_; rintro e w1 ⟨rfl, rfl⟩)))
        go_ret
        exact own_none HE.out bA
      | true =>
        have HE := hidden (HX.out rfl)
        clear HX HN
        go_wp2_with (first | (go_at_call 19; first | (with_reducible refine (k1 _).mono ?_; rintro e w1 ⟨rfl, rfl⟩) | (with_reducible refine (k2 _).mono ?_; rintro e w1 ⟨rfl, rfl⟩)) | (go_at_call 20; first | (with_reducible refine (k3 _).mono ?_; rintro e w1 ⟨rfl, rfl⟩) | (with_reducible refine (k4 _).mono ?_; rintro e w1 ⟨rfl, rfl⟩)))
        go_roundw
        case rel => exact ⟨i + 1, by omega, rfl, HE, bA⟩
        case measure => simp [intOf]; omega
    · have hlti : ¬ (i : Int) < (rs.length : Int) := by omega
      have HRX : Hid (RxOk rs) := rx_all (by omega) (by rw [show i = rs.length by omega] at hok; exact hok.out)
      clear hok
      have hb0 := hb.size
      go_wp2_with (refine wpList_make_full _ rfl _ _ 53 rfl wr.heap.size 3 j0 (.int .i64 0) 1 Try.underlying53 hj0 hj1 hj2 .i64 .i64 _ _ 100 rfl rfl rfl rfl (by rw [hj3]; omega) (by unfold maxLen; omega) (Nat.le_refl _) ?_; intro w8 ho8 hg8; have HT := hidden (TBL.made ho8); have hb8 := hb.grown hg8 hb0 (fun j e => by cases e); have hz8 : wr.heap.size < w8.heap.size := HT.out.lt; clear ho8 hg8)
      generalize hG9 : wr.heap.size = G at *
      clear hb
      go_loopw [10] (fun iv w9 => ∃ i : Nat, i ≤ vs.length ∧ iv = .int .i64 i ∧ Hid (TBL w9 G (atF vs i)) ∧ Hid (VlOk (vs.take i)) ∧ Below w.heap.size w w9) (fun iv _ => vs.length - (intOf iv).toNat)
      case atStart => exact ⟨0, Nat.zero_le _, rfl, HT, ⟨by simp, (fun x hx => by simp at hx), by simp⟩, hb8⟩
      case round =>
        clear HT hb8 hz8
        obtain ⟨k, hk, rfl, HT, hV, hb⟩ := hrel
        by_cases hlt2 : k < vs.length
        · have hlt3 : (k : Int) < (vs.length : Int) := by omega
          obtain ⟨⟨xt, xv⟩, hx⟩ := some_of vs k hlt2
          obtain ⟨g, off, rfl, hg, hcs⟩ := (HV.out.below hb).at hx
          have c0 : wr.cell? ⟨g, off + k * 2, none⟩ = some (.int .i64 xt) := hcs 0 (by omega)
          have c1 : wr.cell? ⟨g, off + k * 2 + 1, none⟩ = some (.int .i64 xv) := hcs 1 (by omega)
          have hxv : vlB xv = true := HVB.out _ (List.mem_of_getElem? hx)
          have k1 := lin_any xt 0 99
          have k2 := svalue_any xv
          rw [hxv] at k2
          clear hcs hxv
          cases hq : rng xt 0 99 with
          | false =>
            rw [hq] at k1
            have HE := hidden (HF.out (fun q => by have := (tst_iff xt).2 (q.2.1.2.1 _ (List.mem_of_getElem? hx)); rw [hq] at this; cases this))
            clear hq hx
            go_wp2_with (first | (go_at_call 19; refine (k1 _).mono ?_; rintro e w1 ⟨rfl, rfl⟩) | (go_at_call 20; refine (k2 _).mono ?_; rintro e w1 ⟨rfl, rfl⟩))
            go_ret
            exact own_none HE.out hb
          | true =>
            rw [hq] at k1
            obtain ⟨t, rfl⟩ : ∃ t : Nat, xt = (t : Int) := ⟨xt.toNat, by have := (tst_iff xt).1 hq; unfold Tst at this; omega⟩
            have ht : t < 100 := by have := (tst_iff _).1 hq; unfold Tst at this; omega
            have hti : (t : Int) < 100 := by omega
            have c2 := HT.out.cell ht
            have f2 := HT.out.cold t
            have HTp : Hid (TBL (wr.setCell ⟨G, t, none⟩ (.int .i64 ((k : Int) + 1))) G (atF vs (k + 1))) := HT.out.put (k := k + 1) ht (fun i => by
              rw [atF_next hx]
              dsimp only
              by_cases e : i = t
              · subst e; simp
              · rw [if_neg e, if_neg (fun e2 => e (by omega))])
            have HVN : Hid (¬ 0 < atF vs k t → VlOk (vs.take (k + 1))) := fun hd => vl_next hV.out (by omega) hx ((tst_iff _).1 hq) (Classical.byContradiction fun e => hd ((atF_pos hk).2 e))
            have HVY : Hid (0 < atF vs k t → O = []) := fun hd => HF.out (fun q => vl_dup hx ((atF_pos hk).1 hd) q.2.1)
            have hbS := hb.setCell (p := ⟨G, t, none⟩) hb0 (.int .i64 ((k : Int) + 1))
            clear hq hx HT
            generalize atF vs k t = A at *
            by_cases hd : 0 < A
            · have hd' : (0 : Int) < (A : Int) := by omega
              have HE := hidden (HVY.out hd)
              clear HVN HVY HTp
              go_wp2_with (first | (go_at_call 19; refine (k1 _).mono ?_; rintro e w1 ⟨rfl, rfl⟩) | (go_at_call 20; refine (k2 _).mono ?_; rintro e w1 ⟨rfl, rfl⟩))
              go_ret
              exact own_none HE.out hb
            · have hd' : ¬ (0 : Int) < (A : Int) := by omega
              have HV2 := hidden (HVN.out hd)
              clear HVN HVY
              go_wp2_with (first | (go_at_call 19; refine (k1 _).mono ?_; rintro e w1 ⟨rfl, rfl⟩) | (go_at_call 20; refine (k2 _).mono ?_; rintro e w1 ⟨rfl, rfl⟩))
              go_roundw
              case rel => exact ⟨k + 1, by omega, rfl, HTp, HV2, hbS⟩
              case measure => simp [intOf]; omega
        · have hlt3 : ¬ (k : Int) < (vs.length : Int) := by omega
          obtain rfl : k = vs.length := by omega
          have HVO : Hid (VlOk vs) := by have := hV.out; rw [List.take_length] at this; exact this
          have HO := hidden (ownW_new wr 2 1)
          have bx : Below wr.heap.size wr (wr.alloc (.cells #[] 2)) := (Below.refl _ _).alloc (Nat.le_refl _) _
          have HTA := hidden (HT.out.below bx)
          have hbA := onto hb bx
          have hB3 : w.heap.size ≤ wr.heap.size := hb.size
          have hzA := bx.size
          clear hV HT hb bx
          generalize hwA : wr.alloc (.cells #[] 2) = wA at *
          generalize hv0 : Value.slice (some ⟨wr.heap.size, 0, none⟩) 0 0 = v0 at *
          generalize hB9 : wr.heap.size = B3 at *
          go_wp2_with fail
          go_loopw [11, 12] (fun ov iv w9 => ∃ (i : Nat) (L : List Int), i ≤ qs.length ∧ iv = .int .i64 i ∧ Hid (L = (qs.take i).foldl addTo []) ∧ Hid (∀ x ∈ qs.take i, rng x 0 99 = true) ∧ L.length ≤ i ∧ Hid (w9.ownsRow B3 2 1 ov L.length (L.map fun z => Value.int .i64 z)) ∧ Hid (TBL w9 G (atF vs vs.length)) ∧ B3 ≤ w9.heap.size ∧ Below w.heap.size w w9) (fun _ iv _ => qs.length - (intOf iv).toNat)
          case atStart => exact ⟨0, [], Nat.zero_le _, rfl, rfl, (fun x hx => by simp at hx), Nat.le_refl _, HO, HTA, by omega, hbA⟩
          case round =>
            clear HO HTA hwA hv0 hbA hzA
            obtain ⟨i3, L, hi3, rfl, HL, hQ, hLl, ho, HT, hz, hb⟩ := hrel
            obtain ⟨ad, c, rfl⟩ := ownW_slice ho.out
            by_cases hlt4 : i3 < qs.length
            · have hlt5 : (i3 : Int) < (qs.length : Int) := by omega
              obtain ⟨x, hx⟩ := some_of qs i3 hlt4
              obtain ⟨g, off, rfl, hg, c0⟩ := vint_cell (HA.out.below hb) hx
              have k1 := lin_any x 0 99
              cases hq : rng x 0 99 with
              | false =>
                rw [hq] at k1
                have HE := hidden (HF.out (fun q => by have := (tst_iff x).2 (q.2.2.2 _ (List.mem_of_getElem? hx)); rw [hq] at this; cases this))
                clear hq hx
                go_wp2_with (go_at_call 19; refine (k1 _).mono ?_; rintro e w1 ⟨rfl, rfl⟩)
                go_ret
                exact own_none HE.out hb
              | true =>
                rw [hq] at k1
                have HQ2 := hidden (ak_take hQ.out hx hq)
                have HN := hidden (fold_next HL.out hx)
                have ks := shas_any ad L.length c L x wr (vownI ho.out).row (by omega)
                clear hq hx hQ HL
                cases hh : has L x with
                | true =>
                  rw [hh] at ks
                  have HL2 := hidden (HN.out.1 hh)
                  clear HN hh
                  go_wp2_with (first | (go_at_call 19; refine (k1 _).mono ?_; rintro e w1 ⟨rfl, rfl⟩) | (go_at_call 21; refine ks.mono ?_; rintro e w1 ⟨rfl, hw1⟩; obtain rfl := hw1))
                  go_roundw
                  case rel => exact ⟨i3 + 1, L, by omega, rfl, HL2, HQ2, by omega, ho, HT, hz, hb⟩
                  case measure => simp [intOf]; omega
                | false =>
                  rw [hh] at ks
                  have HL2 := hidden (HN.out.2 hh)
                  have bx : Below wr.heap.size wr (wr.alloc (.cells #[.int .i64 x] 2)) := (Below.refl _ _).alloc (Nat.le_refl _) _
                  have HOA := hidden (ownW_below ho.out bx)
                  have HTA := hidden (HT.out.below bx)
                  have hbA := onto hb bx
                  clear HN hh bx
                  go_wp2_with (first | (go_at_call 19; refine (k1 _).mono ?_; rintro e w1 ⟨rfl, rfl⟩) | (go_at_call 21; refine ks.mono ?_; rintro e w1 ⟨rfl, hw1⟩; have hw1' := hw1.symm; clear hw1; subst hw1') | (at_builtin; refine wpList_append_own _ rfl (.tmp 127) (.tmp 132) 26 rfl B3 2 i0 (.int .i64 0) 1 8 Try.underlying26 hi0 hy0 hy1 hy2 rfl (by decide) _ L.length (L.map fun z => Value.int .i64 z) rfl HOA.out ⟨_, 0, none⟩ 1 1 [.int .i64 x] rfl rfl (cell_oneD _ _ _) (by simp [Value.oneCell']) (by unfold maxLen; omega) (by omega) (by simp; omega) ?_; intro v6 w6 ho6 hg6 hnn6))
                  have hb6 := hbA.grown hg6 hbA.size (fun k hk => Nat.le_trans hB3 (ownW_lt HOA.out k hk).1)
                  have ho7 : w6.ownsRow B3 2 1 v6 (L ++ [x]).length ((L ++ [x]).map fun z => Value.int .i64 z) := by rw [List.length_append, List.map_append]; exact ho6
                  have hz6 : B3 ≤ w6.heap.size := Nat.le_trans (by simp; omega) hg6.size
                  have HT6 := hidden (HTA.out.grown HOA.out hg6)
                  go_roundw
                  case rel => exact ⟨i3 + 1, L ++ [x], by omega, rfl, HL2, HQ2, by simp; omega, ho7, HT6, hz6, hb6⟩
                  case measure => simp [intOf]; omega
            · have hlt5 : ¬ (i3 : Int) < (qs.length : Int) := by omega
              have HAK : Hid (AkOk qs) := ak_all (by omega) (by rw [show i3 = qs.length by omega] at hQ; exact hQ.out)
              have hLo : Hid (L = onceL qs) := by have q := HL.out; rw [List.take_of_length_le (by omega)] at q; exact q
              have HOG : Hid (O = growR rs vs 100 L) := by
                have := HG.out ⟨HRX.out, HVO.out, HAK.out⟩
                rw [hLo.out]
                exact this
              have HAP : Hid (Apt L) := by
                rw [hLo.out]
                exact apt_once HAK.out.2
              have hL100 := apt_len HAP.out
              clear HL hQ hLl HF hLo
              go_wp2_with fail
              go_loopw [11, 13, 14] (fun ov iv _ w9 => ∃ (i : Nat) (L : List Int) (m : Nat), i ≤ rs.length ∧ iv = .int .i64 i ∧ Hid (O = growR rs vs m L) ∧ Hid (Apt L) ∧ Hid (100 ≤ L.length + m) ∧ L.length ≤ 100 ∧ Hid (∀ r ∈ rs.take i, fires vs L r = false) ∧ Hid (w9.ownsRow B3 2 1 ov L.length (L.map fun z => Value.int .i64 z)) ∧ Hid (TBL w9 G (atF vs vs.length)) ∧ B3 ≤ w9.heap.size ∧ Below w.heap.size w w9) (fun ov iv _ _ => (100 - slen ov) * (rs.length + 1) + (rs.length - (intOf iv).toNat))
              case atStart => exact ⟨0, L, 100, Nat.zero_le _, rfl, HOG, HAP, (show 100 ≤ L.length + 100 by omega), hL100, (fun r hr => by simp at hr), ho, HT, hz, hb⟩
              case round =>
                clear HOG HAP hL100 ho HT hz hb
                obtain ⟨i4, L, m, hi4, rfl, HOG, HAP, HM, hL100, HNF, ho, HT, hz, hb⟩ := hrel
                obtain ⟨ad, c, rfl⟩ := ownW_slice ho.out
                by_cases hlt6 : i4 < rs.length
                · have hlt7 : (i4 : Int) < (rs.length : Int) := by omega
                  obtain ⟨⟨xt, xlo, xhi, xth⟩, hx⟩ := some_of rs i4 hlt6
                  have hxo := HRX.out.2 _ (List.mem_of_getElem? hx)
                  obtain ⟨⟨t0, t1⟩, -⟩ := hxo
                  dsimp only at t0 t1
                  obtain ⟨t, rfl⟩ : ∃ t : Nat, xt = (t : Int) := ⟨xt.toNat, by omega⟩
                  have ht : t < 100 := by omega
                  obtain ⟨g, off, rfl, hg, hcs⟩ := (HR.out.below hb).at hx
                  have c0 : wr.cell? ⟨g, off + i4 * 4, none⟩ = some (.int .i64 (t : Int)) := hcs 0 (by omega)
                  have c1 : wr.cell? ⟨g, off + i4 * 4 + 1, none⟩ = some (.int .i64 xlo) := hcs 1 (by omega)
                  have c2 : wr.cell? ⟨g, off + i4 * 4 + 2, none⟩ = some (.int .i64 xhi) := hcs 2 (by omega)
                  have c3 : wr.cell? ⟨g, off + i4 * 4 + 3, none⟩ = some (.int .i64 xth) := hcs 3 (by omega)
                  have bx : Below wr.heap.size wr (wr.alloc (.cells #[.int .i64 (t : Int), .int .i64 xlo, .int .i64 xhi, .int .i64 xth] 37)) := (Below.refl _ _).alloc (Nat.le_refl _) _
                  have HPB := hidden (PB.new wr #[.int .i64 (t : Int), .int .i64 xlo, .int .i64 xhi, .int .i64 xth] 37)
                  have HTA := hidden (HT.out.below bx)
                  have HOA := hidden (ownW_below ho.out bx)
                  have hbA := onto hb bx
                  have HVA := hidden (HV.out.below hbA)
                  have hzA := bx.size
                  obtain ⟨A, hA⟩ : ∃ A : Nat, A = atF vs vs.length t := ⟨_, rfl⟩
                  have hAl : A ≤ vs.length := by rw [hA]; exact atF_le _ _ _
                  have HC : ∃ (V voff : Nat) (vv : Int), Hid ((0 : Int) < (A : Int) → av = some ⟨V, voff, none⟩ ∧ V < (wr.alloc (.cells #[.int .i64 (t : Int), .int .i64 xlo, .int .i64 xhi, .int .i64 xth] 37)).heap.size ∧ (wr.alloc (.cells #[.int .i64 (t : Int), .int .i64 xlo, .int .i64 xhi, .int .i64 xth] 37)).cell? ⟨V, voff + (A - 1) * 2 + 1, none⟩ = some (.int .i64 vv)) ∧ Hid (calls1 vs ⟨(t : Int), xlo, xhi, xth⟩ = (decide ((0 : Int) < (A : Int)) && rng vv xlo xhi)) := by
                    have k := atF_calls HVO.out (j := t) (r := ⟨(t : Int), xlo, xhi, xth⟩) rfl
                    rw [← hA] at k
                    by_cases q : 0 < A
                    · obtain ⟨p, x, e1, e2, e3, e4⟩ := k.1 q
                      obtain ⟨V, voff, hav, hVl, hcv⟩ := HVA.out.at e3
                      refine ⟨V, voff, x.v, fun _ => ⟨hav, hVl, ?_⟩, ?_⟩
                      · rw [show A - 1 = p by omega]; exact hcv 1 (by omega)
                      · show calls1 vs _ = _
                        rw [e4, decide_eq_true (show (0 : Int) < (A : Int) by omega), Bool.true_and]
                    · refine ⟨0, 0, 0, fun h => absurd h (by omega), ?_⟩
                      show calls1 vs _ = _
                      rw [k.2 (by omega), decide_eq_false (show ¬ (0 : Int) < (A : Int) by omega), Bool.false_and]
                  obtain ⟨V, voff, vv, HCa, HCb⟩ := HC
                  have HBQ := hidden (fires_eq (L := L) HCb.out)
                  have g0c : Hid ((wr.alloc (.cells #[.int .i64 (t : Int), .int .i64 xlo, .int .i64 xhi, .int .i64 xth] 37)).cell? ⟨G, t, none⟩ = some (.int .i64 (A : Int))) := by have := HTA.out.cell ht; rw [← hA] at this; exact this
                  have hrow := (vownI HOA.out).row
                  have HK0 := hidden (fun W (hW : Below (wr.alloc (.cells #[.int .i64 (t : Int), .int .i64 xlo, .int .i64 xhi, .int .i64 xth] 37)).heap.size (wr.alloc (.cells #[.int .i64 (t : Int), .int .i64 xlo, .int .i64 xhi, .int .i64 xth] 37)) W) => shas_any ad L.length c L (t : Int) W (hrow.below hW) (by omega))
                  have HK1 := hidden (fun W (hW : Below (wr.alloc (.cells #[.int .i64 (t : Int), .int .i64 xlo, .int .i64 xhi, .int .i64 xth] 37)).heap.size (wr.alloc (.cells #[.int .i64 (t : Int), .int .i64 xlo, .int .i64 xhi, .int .i64 xth] 37)) W) => shas_any ad L.length c L xth W (hrow.below hW) (by omega))
                  have HX := hidden hx
                  clear hx hcs ho HT hb HVA hA hrow HCb
                  go_upto_region 28 with fail
                  refine regRf28 (R := wr.heap.size) (G := G) (V := V) (voff := voff) (p := A - 1) (aa := (A : Int)) (vv := vv) (lo := xlo) (hi := xhi) (th := xth) (te := t) (hb := fun n => match n with | 0 => has L (t : Int) | 1 => has L xth | _ => rng vv xlo xhi) rfl rfl rfl rfl rfl HPB.out.lt HTA.out.lt ht (fun q => (HCa.out q).1) (fun q => ⟨by omega, by omega⟩) (by omega) (by omega) (fun q => (HCa.out q).2.1) (HPB.out.cell 0) (HPB.out.cell 1) (HPB.out.cell 2) (HPB.out.cell 3) g0c.out (fun q => (HCa.out q).2.2) HK0.out HK1.out (fun W => (lin_any vv xlo xhi W).mono (fun e W' q => ⟨q.1, q.2.symm⟩)) ?_
                  intro b' w5 hf hb5 hv
                  have hv : Rg.out (Rg.opsOf Try.f7 28) b' 35 = .bool (fires vs L ⟨(t : Int), xlo, xhi, xth⟩) := hv.trans (congrArg Value.bool HBQ.out)
                  have HTA5 := hidden (HTA.out.below hb5)
                  have HO5 := hidden (ownW_below HOA.out hb5)
                  have r3 : w5.cell? ⟨wr.heap.size, 3, none⟩ = some (.int .i64 xth) := (HPB.out.below hb5).cell 3
                  have hb6 := onto hbA hb5
                  have hz5 : B3 ≤ w5.heap.size := by have := hb5.size; omega
                  clear HK0 HK1 g0c HCa HBQ HPB HTA HOA hbA hb5
                  cases hfq : fires vs L ⟨(t : Int), xlo, xhi, xth⟩ with
                  | false =>
                    rw [hfq] at hv
                    rw [layRf28 hf, hv]
                    clear hv hf
                    generalize Rg.out (Rg.opsOf Try.f7 28) b' 0 = y0
                    generalize Rg.out (Rg.opsOf Try.f7 28) b' 1 = y1
                    generalize Rg.out (Rg.opsOf Try.f7 28) b' 2 = y2
                    generalize Rg.out (Rg.opsOf Try.f7 28) b' 3 = y3
                    generalize Rg.out (Rg.opsOf Try.f7 28) b' 4 = y4
                    generalize Rg.out (Rg.opsOf Try.f7 28) b' 5 = y5
                    generalize Rg.out (Rg.opsOf Try.f7 28) b' 6 = y6
                    generalize Rg.out (Rg.opsOf Try.f7 28) b' 7 = y7
                    generalize Rg.out (Rg.opsOf Try.f7 28) b' 8 = y8
                    generalize Rg.out (Rg.opsOf Try.f7 28) b' 9 = y9
                    generalize Rg.out (Rg.opsOf Try.f7 28) b' 10 = y10
                    generalize Rg.out (Rg.opsOf Try.f7 28) b' 11 = y11
                    generalize Rg.out (Rg.opsOf Try.f7 28) b' 12 = y12
                    generalize Rg.out (Rg.opsOf Try.f7 28) b' 13 = y13
                    generalize Rg.out (Rg.opsOf Try.f7 28) b' 14 = y14
                    generalize Rg.out (Rg.opsOf Try.f7 28) b' 15 = y15
                    generalize Rg.out (Rg.opsOf Try.f7 28) b' 16 = y16
                    generalize Rg.out (Rg.opsOf Try.f7 28) b' 17 = y17
                    generalize Rg.out (Rg.opsOf Try.f7 28) b' 18 = y18
                    generalize Rg.out (Rg.opsOf Try.f7 28) b' 19 = y19
                    generalize Rg.out (Rg.opsOf Try.f7 28) b' 20 = y20
                    generalize Rg.out (Rg.opsOf Try.f7 28) b' 21 = y21
                    generalize Rg.out (Rg.opsOf Try.f7 28) b' 22 = y22
                    generalize Rg.out (Rg.opsOf Try.f7 28) b' 23 = y23
                    generalize Rg.out (Rg.opsOf Try.f7 28) b' 24 = y24
                    generalize Rg.out (Rg.opsOf Try.f7 28) b' 25 = y25
                    generalize Rg.out (Rg.opsOf Try.f7 28) b' 26 = y26
                    generalize Rg.out (Rg.opsOf Try.f7 28) b' 27 = y27
                    generalize Rg.out (Rg.opsOf Try.f7 28) b' 28 = y28
                    generalize Rg.out (Rg.opsOf Try.f7 28) b' 29 = y29
                    generalize Rg.out (Rg.opsOf Try.f7 28) b' 30 = y30
                    generalize Rg.out (Rg.opsOf Try.f7 28) b' 31 = y31
                    generalize Rg.out (Rg.opsOf Try.f7 28) b' 32 = y32
                    generalize Rg.out (Rg.opsOf Try.f7 28) b' 33 = y33
                    generalize Rg.out (Rg.opsOf Try.f7 28) b' 34 = y34
                    have HNF2 := hidden (fire_next HNF.out HX.out hfq)
                    clear hfq HNF HX
                    go_frame
                    go_wp2_with fail
                    go_roundw
                    case rel => exact ⟨i4 + 1, L, m, by omega, rfl, HOG, HAP, HM, hL100, HNF2, HO5, HTA5, hz5, hb6⟩
                    case measure => simp [intOf, slen]; omega
                  | true =>
                    rw [hfq] at hv
                    rw [layRf28 hf, hv]
                    clear hv hf
                    generalize Rg.out (Rg.opsOf Try.f7 28) b' 0 = y0
                    generalize Rg.out (Rg.opsOf Try.f7 28) b' 1 = y1
                    generalize Rg.out (Rg.opsOf Try.f7 28) b' 2 = y2
                    generalize Rg.out (Rg.opsOf Try.f7 28) b' 3 = y3
                    generalize Rg.out (Rg.opsOf Try.f7 28) b' 4 = y4
                    generalize Rg.out (Rg.opsOf Try.f7 28) b' 5 = y5
                    generalize Rg.out (Rg.opsOf Try.f7 28) b' 6 = y6
                    generalize Rg.out (Rg.opsOf Try.f7 28) b' 7 = y7
                    generalize Rg.out (Rg.opsOf Try.f7 28) b' 8 = y8
                    generalize Rg.out (Rg.opsOf Try.f7 28) b' 9 = y9
                    generalize Rg.out (Rg.opsOf Try.f7 28) b' 10 = y10
                    generalize Rg.out (Rg.opsOf Try.f7 28) b' 11 = y11
                    generalize Rg.out (Rg.opsOf Try.f7 28) b' 12 = y12
                    generalize Rg.out (Rg.opsOf Try.f7 28) b' 13 = y13
                    generalize Rg.out (Rg.opsOf Try.f7 28) b' 14 = y14
                    generalize Rg.out (Rg.opsOf Try.f7 28) b' 15 = y15
                    generalize Rg.out (Rg.opsOf Try.f7 28) b' 16 = y16
                    generalize Rg.out (Rg.opsOf Try.f7 28) b' 17 = y17
                    generalize Rg.out (Rg.opsOf Try.f7 28) b' 18 = y18
                    generalize Rg.out (Rg.opsOf Try.f7 28) b' 19 = y19
                    generalize Rg.out (Rg.opsOf Try.f7 28) b' 20 = y20
                    generalize Rg.out (Rg.opsOf Try.f7 28) b' 21 = y21
                    generalize Rg.out (Rg.opsOf Try.f7 28) b' 22 = y22
                    generalize Rg.out (Rg.opsOf Try.f7 28) b' 23 = y23
                    generalize Rg.out (Rg.opsOf Try.f7 28) b' 24 = y24
                    generalize Rg.out (Rg.opsOf Try.f7 28) b' 25 = y25
                    generalize Rg.out (Rg.opsOf Try.f7 28) b' 26 = y26
                    generalize Rg.out (Rg.opsOf Try.f7 28) b' 27 = y27
                    generalize Rg.out (Rg.opsOf Try.f7 28) b' 28 = y28
                    generalize Rg.out (Rg.opsOf Try.f7 28) b' 29 = y29
                    generalize Rg.out (Rg.opsOf Try.f7 28) b' 30 = y30
                    generalize Rg.out (Rg.opsOf Try.f7 28) b' 31 = y31
                    generalize Rg.out (Rg.opsOf Try.f7 28) b' 32 = y32
                    generalize Rg.out (Rg.opsOf Try.f7 28) b' 33 = y33
                    generalize Rg.out (Rg.opsOf Try.f7 28) b' 34 = y34
                    obtain ⟨q1, q2, q3, q4⟩ := grow_go HRX.out HAP.out HOG.out HM.out (step_at HNF.out HX.out hfq)
                    have Q1 := hidden q1
                    have Q2 := hidden q2
                    have Q3 := hidden q3
                    have b7 : Below w5.heap.size w5 (w5.alloc (.cells #[.int .i64 xth] 2)) := (Below.refl _ _).alloc (Nat.le_refl _) _
                    have HO7 := hidden (ownW_below HO5.out b7)
                    have HT7 := hidden (HTA5.out.below b7)
                    have hb7 := onto hb6 b7
                    clear hfq HNF HX q1 q2 q3 b7 HOG HAP HM
                    try dsimp only at Q1 Q2 Q3
                    go_frame
                    go_wp2_with (at_builtin; refine wpList_append_own _ rfl (.tmp 180) (.tmp 183) 26 rfl B3 2 i0 (.int .i64 0) 1 8 Try.underlying26 hi0 hy0 hy1 hy2 rfl (by decide) _ L.length (L.map fun z => Value.int .i64 z) rfl HO7.out ⟨w5.heap.size, 0, none⟩ 1 1 [.int .i64 xth] rfl rfl (cell_oneD _ _ _) (by simp [Value.oneCell']) (by unfold maxLen; omega) (by omega) (by simp; omega) ?_; intro v6 w6 ho6 hg6 hnn6)
                    have hb8 := hb7.grown hg6 hb7.size (fun k hk => Nat.le_trans hB3 (ownW_lt HO7.out k hk).1)
                    have ho7 : w6.ownsRow B3 2 1 v6 (L ++ [xth]).length ((L ++ [xth]).map fun z => Value.int .i64 z) := by rw [List.length_append, List.map_append]; exact ho6
                    have hz6 : B3 ≤ w6.heap.size := Nat.le_trans (by simp; omega) hg6.size
                    have HT6 := hidden (HT7.out.grown HO7.out hg6)
                    obtain ⟨ad6, c6, rfl⟩ := ownW_slice ho6
                    go_roundw
                    case rel => exact ⟨0, L ++ [xth], m - 1, Nat.zero_le _, rfl, Q1, Q2, Q3, by simp; omega, (fun r hr => by simp at hr), ho7, HT6, hz6, hb8⟩
                    case measure => have := meas (n := rs.length) (i := i4) q4; simpa [intOf, slen] using this
                · have hlt7 : ¬ (i4 : Int) < (rs.length : Int) := by omega
                  have HE : Hid (O = L) := by
                    have h1 := HNF.out
                    rw [List.take_of_length_le (by omega)] at h1
                    exact HOG.out.trans (grow_stop (step_none h1))
                  have hown : Hid (VOwn 1 cvI wr w.heap.size (.slice ad L.length c) O) := by
                    rw [show O = L from HE.out]
                    exact (vownI ho.out).base_le hB3
                  clear HOG HAP HM HNF ho HT HE
                  go_wp2_with fail
                  go_ret
                  exact ⟨_, rfl, hown.out, hb⟩
end Go.Proofs.Ytldggndhdilncaa
