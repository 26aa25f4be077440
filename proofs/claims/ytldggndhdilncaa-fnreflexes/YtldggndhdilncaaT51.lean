/-
  The tests that are asked for in the end: the walk of the function that hands them on.
-/
import Derived.Test.YtldggndhdilncaaT50
namespace Go.Proofs.Ytldggndhdilncaa
open Go.RowKit Go.Shelf Va Lb
set_option linter.all false
attribute [local go_sem] Oper.semAt_some

theorem fold_add {qs L : List Int} {i : Nat} {x : Int} (h : L = (qs.take i).foldl addTo []) (hx : qs[i]? = some x) : (qs.take (i + 1)).foldl addTo [] = addTo L x := by
  rw [List.take_succ, hx, List.foldl_append, ← h]
  rfl
theorem filt_lt {p q : Nat → Bool} (h : ∀ j, q j = true → p j = true) {k : Nat} (hp : p k = true) (hq : q k = false) : ∀ (l : List Nat), ((l.filter q).length ≤ (l.filter p).length) ∧ (k ∈ l → (l.filter q).length < (l.filter p).length)
  | [] => ⟨Nat.le_refl _, fun h => by cases h⟩
  | a :: l => by
    obtain ⟨i1, i2⟩ := filt_lt h hp hq l
    by_cases e : a = k
    · subst e
      rw [List.filter_cons, List.filter_cons, hp, hq]
      simp
      omega
    · rw [List.filter_cons, List.filter_cons]
      have hm : k ∈ a :: l → k ∈ l := fun hm => (List.mem_cons.1 hm).resolve_left (fun q => e q.symm)
      cases hqa : q a with
      | true =>
        rw [h a hqa]
        simp only [if_true, List.length_cons]
        exact ⟨by omega, fun hm2 => by have := i2 (hm hm2); omega⟩
      | false =>
        cases hpa : p a with
        | true =>
          simp only [if_true, List.length_cons]
          exact ⟨by simp; omega, fun hm2 => by have := i2 (hm hm2); simp; omega⟩
        | false => exact ⟨i1, fun hm2 => i2 (hm hm2)⟩
/-- How many tests are not in the set at A. -/
def mm (A : Nat) (W : World) : Nat := ((List.range 100).filter (fun j => match W.cell? ⟨A, j, none⟩ with | some (.bool false) => true | _ => false)).length
theorem mm_eq {A : Nat} {W : World} {ST : Nat → Bool} (h : SetP W A ST) : mm A W = ((List.range 100).filter (fun j => !ST j)).length := by
  unfold mm
  congr 1
  refine List.filter_congr fun j hj => ?_
  rw [h.cell (List.mem_range.1 hj)]
  cases ST j <;> rfl
theorem mm_lt {A : Nat} {W W' : World} {L : List Int} {k : Nat} (h : SetP W A (memL L)) (h' : SetP W' A (memL (L ++ [(k : Int)]))) (hk : k < 100) (hn : (k : Int) ∉ L) : mm A W' < mm A W := by
  rw [mm_eq h, mm_eq h']
  refine (filt_lt (k := k) (fun j hj => ?_) ?_ ?_ _).2 (List.mem_range.2 hk)
  · unfold memL at hj ⊢
    simp at hj ⊢
    exact hj.1
  · unfold memL; simpa using hn
  · unfold memL; simp
theorem zeroT (W : World) : (zeroValue 61).run Try.prog W = .ok (.agg (Array.replicate 100 (.bool false))) W := by kernel_rfl
theorem QR.start {w0 W : World} {n₀ B1 B2 b2 : Nat} {v1 vr : Value} {us : List Ru} (hb : Below n₀ w0 W) (hn : n₀ ≤ W.heap.size) (h1 : PB W B1 #[v1] 26) (h2 : PB W B2 #[vr] 49) (hR : RusO W b2 vr us) (A9 : Array Value) (hs : A9 = Array.replicate 100 (.bool false)) :
    QR w0 n₀ B1 B2 b2 W.heap.size v1 vr us [] (W.alloc (.cells A9 61)) := by
  have bx : Below W.heap.size W (W.alloc (.cells A9 61)) := (Below.refl _ _).alloc (Nat.le_refl _) _
  refine ⟨hb.alloc hn _, h1.alloc _, h2.alloc _, hR.below bx, A9, PB.new _ _ _, by rw [hs]; simp, fun j hj => ?_⟩
  rw [hs, Array.getElem?_replicate, if_pos hj]
  rfl

set_option maxRecDepth 100000 in
set_option maxHeartbeats 4000000 in
theorem asked1_in (F : Fence) (n : Nat) (hF : ∀ f, F.fn f) (hro : F.round = none) (hn : 1 ≤ n) (l B1 B2 n₀ b2 cap : Nat) (ao : Option Addr) (qs : List Int) (ar : Option Addr) (cr : Nat) (us : List Ru) (rs : List Rx) (vs : List Vl) (hq : AkOk qs) (hrs : RxOk rs) (hL : Like vs rs us)
    (hFR : ∀ A ST W, RusO W b2 (.slice ar us.length cr) us → SetP W A ST → CallsIn F (n - 1) Try.prog 26 #[.slice ar us.length cr, .pointer (some ⟨A, 0, none⟩)] W fun e W' => e = .returned (.tuple #[.int .i64 (((firstU ST us).getD 0 : Nat) : Int), .bool (firstU ST us).isSome]) ∧ Below W.heap.size W W')
    (J : List Int → World → Prop) (W w0 : World) (hJa : AbT 61 W.heap.size J)
    (hY : ∀ pre x W1, J pre W1 → pre.length < 100 → YieldAt F (n - 1) Try.prog l (encI x) W1 fun e W' => e = .returned (.bool true) ∧ J (pre ++ [x]) W' ∧ KpR n₀ B1 W1 W')
    (hw0 : w0.heap.size = n₀) (hB0 : Below n₀ w0 W) (h1 : PB W B1 #[.slice ao qs.length cap] 26) (h2 : PB W B2 #[.slice ar us.length cr] 49) (hR : RusO W b2 (.slice ar us.length cr) us) (hI : VRw 1 cvI w0 (.slice ao qs.length cap) qs) (h0 : J [] W) :
    CallsIn F n Try.prog 25 #[.func (.yield l) #[] #[], .pointer (some ⟨B1, 0, none⟩), .pointer (some ⟨B2, 0, none⟩)] W fun e W' => (∃ v, e = .returned v) ∧ ∃ xs, xs = growR rs vs 100 (onceL qs) ∧ J xs W' := by
  refine callsIn_of_wp Try.func25 rfl (hF _) ?_ hro
  have hz0 : n₀ ≤ W.heap.size := by rw [← hw0]; exact hB0.size
  have hlen := hq.1
  obtain ⟨Z9, hZ9⟩ : ∃ Z9 : Array Value, Z9 = Array.replicate 100 (.bool false) := ⟨_, rfl⟩
  have hzv : ∀ W, (zeroValue 61).run Try.prog W = .ok (.agg Z9) W := fun W => by rw [hZ9]; exact zeroT W
  have HQ0 := hidden (QR.start hB0 hz0 h1 h2 hR Z9 hZ9)
  have HJ0 := hidden (hJa [] W _ none h0 (World.grownBy_alloc W (.cells Z9 61) none) (fun r e => by cases e))
  have d1 : (W.alloc (.cells Z9 61)).cell? ⟨B1, 0, none⟩ = some (.slice ao qs.length cap) := HQ0.out.p1.cell 0
  clear h1 h2 hR h0 hZ9
  simp only [Try.ntmps25, List.size_toArray, List.length_cons, List.length_nil, Nat.reduceAdd, Nat.reduceSub, Array.replicate_succ, Array.replicate_zero, List.push_toArray, List.append_toArray, List.nil_append, List.cons_append]
  gi_wp2
  gi_loopw [6, 13] (fun _ iv wr => ∃ (i : Nat) (L : List Int), i ≤ qs.length ∧ iv = .int .i64 i ∧ Hid (L = (qs.take i).foldl addTo []) ∧ Hid (Apt L) ∧ Hid (J L wr) ∧ Hid (QR w0 n₀ B1 B2 b2 W.heap.size (.slice ao qs.length cap) (.slice ar us.length cr) us L wr)) (fun _ iv _ => qs.length - (intOf iv).toNat)
  case atStart => exact ⟨0, [], Nat.zero_le _, rfl, rfl, (⟨List.nodup_nil, fun x hx => by cases hx⟩ : Apt []), HJ0, HQ0⟩
  case round =>
    clear d1 HJ0 HQ0 hzv
    obtain ⟨i, L, hi, rfl, HL, HA, HJ, HQ⟩ := hrel
    by_cases hlt : i < qs.length
    · have hlti : (i : Int) < (qs.length : Int) := by omega
      obtain ⟨x, hx⟩ := some_of qs i hlt
      have hT := hq.2 x (List.mem_of_getElem? hx)
      obtain ⟨k, rfl⟩ := Int.eq_ofNat_of_zero_le hT.1
      have hk : k < 100 := by have := hT.2; omega
      have hki : (k : Int) < 100 := by omega
      obtain ⟨g, off, rfl, hg, hcs⟩ := (hI.below (by rw [hw0]; exact HQ.out.bel)).at hx
      have c0 : wr.cell? ⟨g, off + i, none⟩ = some (.int .i64 (k : Int)) := by
        have := hcs 0 (by omega)
        rw [Nat.mul_one, Nat.add_zero] at this
        exact this
      have c1 := HQ.out.st.cell hk
      have f1 := HQ.out.st.cold k
      have HF := hidden (fold_add HL.out hx)
      have HT := hidden hT
      clear hcs hx hT HL
      cases hm : memL L k with
      | true =>
        rw [hm] at c1
        have hmem : (k : Int) ∈ L := by unfold memL at hm; simpa using hm
        have HL2 : Hid (L = (qs.take (i + 1)).foldl addTo []) := by rw [Hid, HF.out]; unfold addTo; rw [if_pos hmem]
        clear hm hmem HF
        gi_wp2
        go_roundw
        case rel => exact ⟨i + 1, L, by omega, rfl, HL2, HA, HJ, HQ⟩
        case measure => simp [intOf]; omega
      | false =>
        rw [hm] at c1
        have hmem : (k : Int) ∉ L := by unfold memL at hm; simpa using hm
        have HL2 : Hid (L ++ [(k : Int)] = (qs.take (i + 1)).foldl addTo []) := by rw [Hid, HF.out]; unfold addTo; rw [if_neg hmem]
        have HA2 := hidden (apt_add HA.out HT.out hmem)
        have hl99 : L.length < 100 := by have := apt_len HA2.out; rw [List.length_append, List.length_singleton] at this; omega
        have HJ2 := hidden (abT_put hJa HQ.out.st (Nat.le_refl _) k (.bool true) HJ.out)
        have HQ2 := hidden (HQ.out.put hz0 hk)
        obtain ⟨fn, tmps, assign, body, hy, hRo⟩ := hY L (k : Int) _ HJ2.out hl99
        unfold encI at hy
        clear hm hmem HF HT HQ HJ HA
        gi_wp2
        refine hRo.mono ?_
        rintro e W3 ⟨rfl, hJ3, hk3⟩
        have HJ3 := hidden hJ3
        have HQ3 := hidden (HQ2.out.kp hk3)
        clear hJ3 hk3 hy hRo HQ2 HJ2
        gi_wp2
        go_roundw
        case rel => exact ⟨i + 1, L ++ [(k : Int)], by omega, rfl, HL2, HA2, HJ3, HQ3⟩
        case measure => simp [intOf]; omega
    · have hlti : ¬ (i : Int) < (qs.length : Int) := by omega
      have HO : Hid (growR rs vs 100 (onceL qs) = growR rs vs 100 L) := by
        rw [Hid]
        have := HL.out
        rw [List.take_of_length_le (by omega)] at this
        rw [this]
        rfl
      clear HL
      have hul : us.length ≤ 200 := by rw [like_len hL]; exact hrs.1
      have d2 : wr.cell? ⟨B2, 0, none⟩ = some (.slice ar us.length cr) := HQ.out.p2.cell 0
      obtain ⟨O, hOO⟩ : ∃ O, O = growR rs vs 100 (onceL qs) := ⟨_, rfl⟩
      have HO1 : Hid (O = growR rs vs 100 L) := hOO.trans HO.out
      have HOO := hidden hOO
      clear HO hOO
      have HO := HO1
      clear HO1
      gi_wp2_with (gi_at_call 26; refine (hFR _ _ _ HQ.out.ru HQ.out.st).mono ?_; rintro e w1 ⟨rfl, hb1⟩)
      have HJ1 := hidden (hJa L wr w1 none HJ.out (below_none hb1) (fun r e => by cases e))
      have HQ1 := hidden (HQ.out.kp (KpR.grown (Nat.le_trans hz0 (Nat.le_of_lt HQ.out.lt)) (below_none hb1)))
      clear d2 HJ HQ hb1
      gi_loopw [7, 8] (fun tv mv wq => ∃ (L : List Int) (m : Nat) (o : Option Nat), Hid (o = firstU (memL L) us) ∧ tv = .int .i64 ((o.getD 0 : Nat) : Int) ∧ mv = .bool o.isSome ∧ Hid (O = growR rs vs m L) ∧ Hid (100 ≤ L.length + m) ∧ Hid (Apt L) ∧ Hid (J L wq) ∧ Hid (QR w0 n₀ B1 B2 b2 W.heap.size (.slice ao qs.length cap) (.slice ar us.length cr) us L wq)) (fun _ _ wq => mm W.heap.size wq)
      case atStart => exact ⟨L, 100, _, rfl, rfl, rfl, HO, by rw [Hid]; omega, HA, HJ1, HQ1⟩
      case round =>
        clear HO HA HJ1 HQ1
        obtain ⟨L, m, o, Ho, rfl, rfl, HO, Hm, HA, HJ, HQ⟩ := hrel
        have hlk := link (L := L) us rs hL
        rw [← Ho.out] at hlk
        cases o with
        | none =>
          have HE : Hid (L = O) := by rw [Hid, HO.out]; exact (grow_stop hlk.symm).symm
          clear hlk HO Ho Hm HA
          simp only [Option.getD_none, Option.isSome_none]
          gi_wp2
          go_end0
          exact ⟨⟨_, rfl⟩, L, HE.out.trans HOO.out, HJ.out⟩
        | some k =>
          have hst : stepR rs vs L = some (k : Int) := hlk.symm
          obtain ⟨ht1, ht2⟩ := step_tst hrs hst
          obtain ⟨g1, g2, g3, g4⟩ := grow_go hrs HA.out HO.out Hm.out hst
          have hk : k < 100 := by have := ht1.2; omega
          have hki : (k : Int) < 100 := by omega
          have c1 := HQ.out.st.cell hk
          have f1 := HQ.out.st.cold k
          have HJ2 := hidden (abT_put hJa HQ.out.st (Nat.le_refl _) k (.bool true) HJ.out)
          have HQ2 := hidden (HQ.out.put hz0 hk)
          have HS := hidden HQ.out.st
          have HN := hidden ht2
          have G1 := hidden g1
          have G2 := hidden g2
          have G3 := hidden g3
          obtain ⟨fn, tmps, assign, body, hy, hRo⟩ := hY L (k : Int) _ HJ2.out g4
          unfold encI at hy
          clear hlk hst ht1 ht2 g1 g2 g3 HO Hm HA HJ HQ Ho
          simp only [Option.getD_some, Option.isSome_some]
          gi_wp2
          refine hRo.mono ?_
          rintro e W3 ⟨rfl, hJ3, hk3⟩
          have HJ3 := hidden hJ3
          have HQ3 := hidden (HQ2.out.kp hk3)
          have d2 : W3.cell? ⟨B2, 0, none⟩ = some (.slice ar us.length cr) := HQ3.out.p2.cell 0
          clear hJ3 hk3 hy hRo HQ2 HJ2
          gi_wp2_with (gi_at_call 26; refine (hFR _ _ _ HQ3.out.ru HQ3.out.st).mono ?_; rintro e w5 ⟨rfl, hb5⟩)
          have HJ5 := hidden (hJa _ W3 w5 none HJ3.out (below_none hb5) (fun r e => by cases e))
          have HQ5 := hidden (HQ3.out.kp (KpR.grown (Nat.le_trans hz0 (Nat.le_of_lt HQ3.out.lt)) (below_none hb5)))
          have HM := hidden (mm_lt HS.out HQ5.out.st hk HN.out)
          clear d2 hb5 HJ3 HQ3
          go_roundw
          case rel => exact ⟨L ++ [(k : Int)], m - 1, _, rfl, rfl, rfl, G1, G3, G2, HJ5, HQ5⟩
          case measure => exact HM.out
end Go.Proofs.Ytldggndhdilncaa
