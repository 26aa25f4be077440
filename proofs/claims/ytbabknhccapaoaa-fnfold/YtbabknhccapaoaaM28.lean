/-
  Which letter tells of each key: the program's.
-/
import Derived.Test.YtbabknhccapaoaaM27
namespace Go.Proofs.Ytbabknhccapaoaa
open Go.RowKit Va Mg Go.Maps
set_option linter.all false

def updT (T : Int → Option Lt) (x : Lt) : Int → Option Lt := fun k => if k = x.k then some x else T k
theorem bests {I : List Lt} {V V' : Lt → Prop} {x : Lt} {T : Int → Option Lt} (hx : x ∈ I) (hV : ∀ y ∈ I, V' y ↔ V y ∨ y = x) (h : ∀ k, IsBest I V k (T k)) :
    (¬ Holds I x → ∀ k, IsBest I V' k (T k)) ∧ (Holds I x → (T x.k = none ∨ ∃ y, T x.k = some y ∧ Le y x) → ∀ k, IsBest I V' k (updT T x k)) ∧ (∀ y, T x.k = some y → Le x y → ∀ k, IsBest I V' k (T k)) := by
  refine ⟨fun hn k => ?_, fun hh ho k => ?_, fun y hy hle k => ?_⟩
  · obtain ⟨s1, s2, s3, s4⟩ := best_step hx hV (h k)
    by_cases q : x.k = k
    · exact s2 q hn
    · exact s1 q
  · obtain ⟨s1, s2, s3, s4⟩ := best_step hx hV (h k)
    unfold updT
    by_cases q : k = x.k
    · subst q
      rw [if_pos rfl]
      exact s3 rfl hh ho
    · rw [if_neg q]
      exact s1 (fun e => q e.symm)
  · obtain ⟨s1, s2, s3, s4⟩ := best_step hx hV (h k)
    by_cases q : x.k = k
    · subst q
      exact s4 y hy hle
    · exact s1 q
/-- Block B holds the letter that tells of each key. -/
def TelM (w : World) (B n : Nat) (I : List Lt) : Prop := ∃ D : DataW Unit, w.ownsMap Try.prog 2 letE B n D ∧ Tv D (best I)
theorem mkmapT (n : Int) (w : World) : (Instr.makeMap 49 (some (.int .i64 n))).run Try.prog w = .ok (.map (some w.heap.size)) (w.alloc (.map #[] 0)) := by
  simp [Instr.makeMap, run_underlying Try.underlying49, asInt, asIntOf, Result.andThen]
theorem CorM.look {w : World} {B n : Nat} {I : List Lt} (h : CorM w B n I) {x : Lt} (hx : x ∈ I) (hI : InOk I) : ∃ c : Int, (Instr.lookup 77 (.map (some B)) (.agg #[.int .i64 x.f, .int .i64 x.s]) false).run Try.prog w = .ok (.int .i64 c) w ∧ (c = 0 ↔ Holds I x) := by
  obtain ⟨D, ho, hc⟩ := h
  have wx := ltB_wi (hI.ok x hx)
  obtain ⟨c, q1, q2, _⟩ := ho.lookup_int keyedN Try.underlying77 Try.underlying3 (show (zeroValue 3).run Try.prog w = .ok (.int .i64 0) w by kernel_rfl) (key_num wx.1 wx.2.1)
  obtain ⟨z, e1, _, _, e4⟩ := hc x.f x.s wx.1 wx.2.1
  have : c = z := by rw [e1] at q2; simpa using q2.symm
  subst this
  refine ⟨c, q1, ?_⟩
  rw [e4]
  unfold Holds
  constructor
  · intro h y hy; exact h y hy trivial
  · intro h y hy _; exact h y hy
theorem CorM.keep {w w' : World} {B n : Nat} {I : List Lt} (h : CorM w B n I) (e : w'.heap[B]? = w.heap[B]?) : CorM w' B n I := by
  obtain ⟨D, ho, hc⟩ := h
  exact ⟨D, Rt.own_heap ho e, hc⟩
theorem CorM.lt {w : World} {B n : Nat} {I : List Lt} (h : CorM w B n I) : B < w.heap.size := by
  obtain ⟨D, ho, hc⟩ := h
  exact ho.lt
theorem CM.keep {w w' : World} {B n : Nat} {I : List Lt} (h : CM w B n I) (e : w'.heap[B]? = w.heap[B]?) : CM w' B n I := by
  obtain ⟨D, g, ho, hc⟩ := h
  exact ⟨D, g, Rt.own_heap ho e, hc⟩
theorem rangesM {w w' : World} {B r n cnt : Nat} {D : DataW Unit} {left : Lit → Bool} (h : w.ranges Try.prog 80 letE B r n D left cnt) (hb : Below w.heap.size w w') : w'.ranges Try.prog 80 letE B r n D left cnt := by
  have h1 := h.owns.lt
  have h2 := h.lt
  obtain ⟨es, clock, since, seen, c0, e1, r1, r2, r3, e2, r4⟩ := h
  exact ⟨es, clock, since, seen, c0, (hb.block B h1).trans e1, r1, r2, r3, (hb.block r h2).trans e2, r4⟩

set_option maxRecDepth 20000 in
set_option maxHeartbeats 8000000 in
theorem itelling_any (B n : Nat) (I : List Lt) (w : World) (h : CM w B n I) (hI : InOk I) (hn : n ≤ 1000) :
    Calls Try.prog 19 #[.map (some B)] w fun e w' => e = .returned (.map (some w.heap.size)) ∧ TelM w' w.heap.size n I ∧ Below w.heap.size w w' := by
  have hb1 : Below w.heap.size w (w.alloc (.map #[] 0)) := (Below.refl _ _).alloc (Nat.le_refl _) _
  have kC := icorrected_any B n I (w.alloc (.map #[] 0)) (h.keep (hb1.block B (by obtain ⟨D, g, ho, -⟩ := h; exact ho.lt))) hI hn
  obtain ⟨D, g, hown, hG, hP⟩ := h
  have hszD := hown.size_le
  have hBw := hown.lt
  have HG := hidden hG
  have HP := hidden hP
  have HI := hidden hI
  have hmm := mkmapT
  have HOT := hidden (World.ownsMap_made w Try.prog 2 letE)
  have HOD := hidden (hown.alloc (.map #[] 0))
  have HB1 := hidden hb1
  have hs1 : (w.alloc (.map #[] 0)).heap.size = w.heap.size + 1 := by simp
  have HS1 := hidden hs1
  clear hown hG hP hI hb1 hs1
  generalize hszz : Maps.size D = sz at hszD
  have HSZ := hidden hszz
  clear hszz
  go_enter Try.func19, Try.ntmps19
  go_wp2_with (first | (go_at_call 38; (with_reducible refine kC.mono ?_); rintro e w3 ⟨rfl, hc3, hb3⟩; have HOD3 := hidden (Rt.own_heap HOD.out (hb3.block _ HOD.out.lt)); have HOT3 := hidden (Rt.own_heap HOT.out (hb3.block _ HOT.out.lt)); have HC3 := hidden hc3; have b3 := ontoC HB1.out hb3; have hz3 := hb3.size; clear hc3 hb3) | (at_range; refine wpList_range_own _ rfl _ 51 rfl 80 29 keyedN mapN _ B n D rfl HOD3.out ?_; intro w4 hrg4 hg4 hs4))
  have hlc3 := HC3.out.lt
  rw [HS1.out] at hz3 hlc3 HC3
  have HRG4 := hidden hrg4
  have HT4 := hidden (HOT3.out.kept hg4 (by simp))
  have HC4 := hidden (HC3.out.keep (hg4.block _ hlc3 (by simp)))
  have HB4 := hidden (b3.grown hg4 (by omega) (by simp))
  have hR : w.heap.size + 1 < w3.heap.size := hlc3
  have hw4 : w3.heap.size < w4.heap.size := by omega
  generalize w3.heap.size = r at *
  clear hrg4 hg4 hs4 HOD HOT HB1 HOD3 HOT3 HC3 b3 kC hmm hlc3
  try rw [HS1.out]
  go_wp2_with fail
  go_frame
  go_loopw [5, 6, 7, 8] (fun _ _ _ _ wr => ∃ (left : Lit → Bool) (cnt m : Nat) (Dt : DataW Unit) (T : Int → Option Lt), wr.ranges Try.prog 80 letE B r n D left cnt ∧ wr.ownsMap Try.prog 2 letE w.heap.size m Dt ∧ Hid (CorM wr (w.heap.size + 1) n I) ∧ m + cnt ≤ sz ∧ Hid (Tv Dt T) ∧ Hid (∀ k, IsBest I (Vis left) k (T k)) ∧ r < wr.heap.size ∧ Below w.heap.size w wr) (fun _ _ _ _ wr => wr.rangeLeft B r)
  case atStart =>
    refine ⟨_, _, 0, .map [], fun _ => none, HRG4.out, HT4.out, HC4, by rw [HSZ.out]; omega, Tv.nil, fun k y hy hv => ?_, hw4, HB4.out⟩
    have wy := ltB_wi (HI.out.ok y hy)
    have h1 := (HG.out y.f y.s wy.1 wy.2.1).1
    rw [(HP.out y.f y.s y).2 ⟨hy, rfl, rfl⟩] at h1
    unfold Vis at hv
    rw [h1] at hv
    cases hv
  case round =>
    clear HRG4 HT4 HC4 HB4 hw4 HSZ
    obtain ⟨left, cnt, m, Dt, T, hrg, hoT, HCr, hmc, HTv, HBest, hzr, hb⟩ := hrel
    go_wp2_with (at_next; refine wpList_next_ranges _ rfl _ rfl 80 keyedN letE mkN aLt invN invL B r n _ _ _ rfl hrg ?_ ?_)
    · intro hc0 hl0
      have HQ : Hid (TelM wr w.heap.size n I) := by
        refine ⟨Dt, hoT.mono (by omega), HTv.out.congr fun k => ?_⟩
        refine best_eq HI.out ?_
        have := HBest.out k
        revert this
        cases T k with
        | none => intro q y hy _; exact q y hy (hl0 _)
        | some z => intro q; exact ⟨⟨q.1.1, trivial, q.1.2.2⟩, fun y hy _ => q.2 y hy (hl0 _)⟩
      clear hrg hoT hc0 hl0
      go_wp2_with fail
      go_ret
      exact ⟨rfl, HQ.out, hb⟩
    · intro o0 t0 x kl yd yp w5 cnt5 hkey hlk hv hat hrg5 hlt hg5 hs5 hen
      obtain ⟨o, t, ek, wo, wt, rfl⟩ := num_inv hkey
      rw [letE_mk] at hv
      obtain ⟨rfl, rfl⟩ : ltD x = yd ∧ [] = yp := by simpa using hv
      obtain ⟨hxI, rfl, rfl⟩ := met HG.out HP.out wo wt hat
      have wx := ltB_wi (HI.out.ok x hxI)
      have hstep := vis_step HI.out hxI left
      have HBS := hidden (bests hxI hstep HBest.out)
      have hoT5 := hoT.kept hg5 (by first | (simp; done) | (simp; omega))
      have hlC := HCr.out.lt
      have HC5 := hidden (HCr.out.keep (hg5.block _ hlC (by first | (simp; done) | (simp; omega))))
      have b5 : Below w.heap.size w w5 := hb.grown hg5 hb.size (fun j hj => by cases hj; omega)
      have hs5' : r < w5.heap.size := by omega
      have hmx : m < 1000 := by omega
      have hlr := hidden (And.intro hrg hlt)
      have ek2 : mkN (o0, t0) = mkN (x.f, x.s) := ek
      rw [ek2] at hen ⊢
      unfold mkN aLt at hen ⊢
      dsimp only at hen ⊢
      have bx : Below w5.heap.size w5 ((w5.alloc (.cells #[.int .i64 x.f, .int .i64 x.s] 80)).alloc (.cells #[.int .i64 x.f, .int .i64 x.s, .int .i64 x.c, .int .i64 x.k, .int .i64 x.v] 29)) := by repeat (first | exact Below.refl _ _ | assumption | refine st_drew ?_ | refine st_drewN ?_ _ | refine Below.setCell ?_ (by first | omega | (simp; done) | (simp; omega)) _ | refine Below.alloc ?_ (by first | omega | (simp; done) | (simp; omega)) _)
      have HPK := hidden ((PB.new w5 #[.int .i64 x.f, .int .i64 x.s] 80).alloc (.cells #[.int .i64 x.f, .int .i64 x.s, .int .i64 x.c, .int .i64 x.k, .int .i64 x.v] 29))
      have HPX : Hid (PB ((w5.alloc (.cells #[.int .i64 x.f, .int .i64 x.s] 80)).alloc (.cells #[.int .i64 x.f, .int .i64 x.s, .int .i64 x.c, .int .i64 x.k, .int .i64 x.v] 29)) (w5.heap.size + 1) #[.int .i64 x.f, .int .i64 x.s, .int .i64 x.c, .int .i64 x.k, .int .i64 x.v] 29) := by
        have := PB.new (w5.alloc (.cells #[.int .i64 x.f, .int .i64 x.s] 80)) #[.int .i64 x.f, .int .i64 x.s, .int .i64 x.c, .int .i64 x.k, .int .i64 x.v] 29
        rw [World.size_alloc] at this; exact this
      have HT6 := hidden (Rt.own_heap hoT5 (bx.block _ hoT5.lt))
      have HC6 := hidden (HC5.out.keep (bx.block _ HC5.out.lt))
      have HRG6 := hidden (rangesM hrg5 bx)
      have b6 := ontoC b5 bx
      have hz6 := bx.size
      have hxI' := hidden hxI
      clear hkey hlk hv hat hg5 hrg5 hrg hoT hb ek ek2 hstep hoT5 b5 HCr HC5 hs5 hlt bx HBest hxI
      go_upto_region 6 with fail
      generalize (w5.alloc (.cells #[.int .i64 x.f, .int .i64 x.s] 80)).alloc (.cells #[.int .i64 x.f, .int .i64 x.s, .int .i64 x.c, .int .i64 x.k, .int .i64 x.v] 29) = W6 at *
      obtain ⟨y, hrun, hyx⟩ := look_key HT6.out HTv.out wx.2.2.2
      unfold aLt at hrun
      have x3 : W6.cell? ⟨w5.heap.size + 1, 3, none⟩ = some (.int .i64 x.k) := HPX.out.cell 3
      generalize w5.heap.size = V5 at *
      go_upto_region 7 with fail
      have bY : Below W6.heap.size W6 (W6.alloc (.cells #[.int .i64 y.f, .int .i64 y.s, .int .i64 y.c, .int .i64 y.k, .int .i64 y.v] 29)) := (Below.refl _ _).alloc (Nat.le_refl _) _
      have HPY := hidden (PB.new W6 #[.int .i64 y.f, .int .i64 y.s, .int .i64 y.c, .int .i64 y.k, .int .i64 y.v] 29)
      have HPK7 := hidden (HPK.out.below bY)
      have HPX7 := hidden (HPX.out.below bY)
      have HT7 := hidden (Rt.own_heap HT6.out (bY.block _ HT6.out.lt))
      have HC7 := hidden (HC6.out.keep (bY.block _ HC6.out.lt))
      have HRG7 := hidden (rangesM HRG6.out bY)
      have b7 := ontoC b6 bY
      have hz7 := bY.size
      generalize W6.alloc (.cells #[.int .i64 y.f, .int .i64 y.s, .int .i64 y.c, .int .i64 y.k, .int .i64 y.v] 29) = W7 at *
      generalize W6.heap.size = V6 at *
      clear hrun x3 HPK HPX HT6 HC6 HRG6 b6 bY
      obtain ⟨c, hrunC, hc⟩ := HC7.out.look hxI'.out HI.out
      obtain ⟨n0, n1⟩ := HPK7.out.two
      obtain ⟨e0, e1, e2, e3, e4⟩ := HPX7.out.fiveM
      obtain ⟨d0, d1, d2, d3, d4⟩ := HPY.out.fiveM
      have KEEP : Hid (∀ W8, Below W7.heap.size W7 W8 → (∀ k, IsBest I (Vis fun z => left z && !z.sameKey (kN x.f x.s)) k (T k)) → ∃ (left' : Lit → Bool) (cnt' m' : Nat) (Dt' : DataW Unit) (T' : Int → Option Lt), W8.ranges Try.prog 80 letE B r n D left' cnt' ∧ W8.ownsMap Try.prog 2 letE w.heap.size m' Dt' ∧ Hid (CorM W8 (w.heap.size + 1) n I) ∧ m' + cnt' ≤ sz ∧ Hid (Tv Dt' T') ∧ Hid (∀ k, IsBest I (Vis left') k (T' k)) ∧ r < W8.heap.size ∧ Below w.heap.size w W8) := fun W8 hb8 hq =>
        ⟨_, cnt5, m, Dt, T, rangesM HRG7.out hb8, Rt.own_heap HT7.out (hb8.block _ HT7.out.lt), HC7.out.keep (hb8.block _ HC7.out.lt), by have := hlr.out.2; omega, HTv, hq, by have := hb8.size; omega, ontoC b7 hb8⟩
      by_cases hc0 : ¬ c = 0
      · have hcb : (c == 0) = false := by simpa using hc0
        have HQ := hidden (HBS.out.1 (fun q => hc0 (hc.2 q)))
        clear hc hc0 hyx
        generalize (T x.k).isSome = tw at *
        go_wp2_with fail
        go_roundw
        case rel =>
          obtain ⟨z0, z1, z2, z3, z4, h1, h2, h3, h4, h5, h6, h7, h8⟩ := KEEP.out _ (Below.refl _ _) HQ.out
          first | exact ⟨z0, z1, z2, z3, z4, h1, h2, h3, h4, h5, h6, h7, h8⟩ | exact ⟨z0, z1, h1, z2, z3, h2, h3, h4, z4, h5, h6, h7, h8⟩
        case measure => rw [HRG7.out.left_eq, hlr.out.1.left_eq]; exact hlr.out.2
      have hc0 := Decidable.not_not.1 hc0
      have HH := hidden (hc.1 hc0)
      clear hc
      subst hc0
      have UPD : Hid (∀ W8 W9, Below W7.heap.size W7 W8 → W8.grownBy W9 (some w.heap.size) → W9.ownsMap Try.prog 2 letE w.heap.size (m + 1) (Dt.put (.int .i64 x.k) (ltD x)) → (T x.k = none ∨ ∃ y, T x.k = some y ∧ Le y x) → ∃ (left' : Lit → Bool) (cnt' m' : Nat) (Dt' : DataW Unit) (T' : Int → Option Lt), W9.ranges Try.prog 80 letE B r n D left' cnt' ∧ W9.ownsMap Try.prog 2 letE w.heap.size m' Dt' ∧ Hid (CorM W9 (w.heap.size + 1) n I) ∧ m' + cnt' ≤ sz ∧ Hid (Tv Dt' T') ∧ Hid (∀ k, IsBest I (Vis left') k (T' k)) ∧ r < W9.heap.size ∧ Below w.heap.size w W9) := fun W8 W9 hb8 hg9 ho9 hq =>
        ⟨_, cnt5, m + 1, _, updT T x, (rangesM HRG7.out hb8).kept hg9 (by first | (simp; done) | (simp; omega)) (by first | (simp; done) | (simp; omega)), ho9, (HC7.out.keep (hb8.block _ HC7.out.lt)).keep (hg9.block _ (Nat.lt_of_lt_of_le HC7.out.lt hb8.size) (by first | (simp; done) | (simp; omega))), by have := hlr.out.2; omega, HTv.out.put HT7.out.isMap x, HBS.out.2.1 HH.out hq, by have := hb8.size; have := hg9.size; omega, (ontoC b7 hb8).grown hg9 (ontoC b7 hb8).size (fun j hj => by cases hj; exact Nat.le_refl _)⟩
      have MEAS : Hid (∀ W8 W9, Below W7.heap.size W7 W8 → W8.grownBy W9 (some w.heap.size) → W9.rangeLeft B r < wr.rangeLeft B r) := fun W8 W9 hb8 hg9 => by
        rw [((rangesM HRG7.out hb8).kept hg9 (by first | (simp; done) | (simp; omega)) (by first | (simp; done) | (simp; omega))).left_eq, hlr.out.1.left_eq]; exact hlr.out.2
      cases hT0 : T x.k with
      | none =>
        rw [hT0] at UPD
        simp only [Option.isSome_none]
        clear hyx KEEP
        go_wp2_with (at_mapUpdate; refine wpList_mapUpdate_own _ rfl _ _ _ 49 rfl 2 29 keyedK mapK _ w.heap.size m Dt rfl HT7.out (by unfold maxLen; omega) _ _ _ rfl rfl (keyOf_int_mk Try.underlying2 wx.2.2.2) (ltD x) [] (letE_mk x) ?_; intro w9 ho9 hg9)
        go_roundw
        case rel =>
          obtain ⟨z0, z1, z2, z3, z4, h1, h2, h3, h4, h5, h6, h7, h8⟩ := UPD.out W7 _ (Below.refl _ _) hg9 ho9 (Or.inl (by first | rfl | trivial))
          first | exact ⟨z0, z1, z2, z3, z4, h1, h2, h3, h4, h5, h6, h7, h8⟩ | exact ⟨z0, z1, h1, z2, z3, h2, h3, h4, z4, h5, h6, h7, h8⟩
        case measure => exact MEAS.out W7 _ (Below.refl _ _) hg9
      | some y0 =>
        obtain rfl := hyx y0 hT0
        simp only [Option.isSome_some]
        have kt := itells_any x y
        unfold aLt at kt
        clear hyx
        cases hm : lessB y x with
        | false =>
          rw [hm] at kt
          have HQ := hidden (HBS.out.2.2 y hT0 (lessB_false.1 hm))
          clear hm hT0 UPD
          go_wp2_with (go_at_call 39; (with_reducible refine (kt _).mono ?_); rintro e w8 ⟨rfl, hb8⟩; obtain ⟨f0, f1, f2, f3, f4⟩ := (HPX7.out.below hb8).fiveM)
          have HR8 := hidden (rangesM HRG7.out hb8)
          go_roundw
          case rel =>
            obtain ⟨z0, z1, z2, z3, z4, h1, h2, h3, h4, h5, h6, h7, h8⟩ := KEEP.out _ hb8 HQ.out
            first | exact ⟨z0, z1, z2, z3, z4, h1, h2, h3, h4, h5, h6, h7, h8⟩ | exact ⟨z0, z1, h1, z2, z3, h2, h3, h4, z4, h5, h6, h7, h8⟩
          case measure => rw [HR8.out.left_eq, hlr.out.1.left_eq]; exact hlr.out.2
        | true =>
          rw [hm] at kt
          have HQ : Hid (T x.k = none ∨ ∃ y, T x.k = some y ∧ Le y x) := Or.inr ⟨y, hT0, lessB_true hm⟩
          clear hm hT0 KEEP
          go_wp2_with (first | (go_at_call 39; (with_reducible refine (kt _).mono ?_); rintro e w8 ⟨rfl, hb8⟩; obtain ⟨f0, f1, f2, f3, f4⟩ := (HPX7.out.below hb8).fiveM) | (at_mapUpdate; refine wpList_mapUpdate_own _ rfl _ _ _ 49 rfl 2 29 keyedK mapK _ w.heap.size m Dt rfl (Rt.own_heap HT7.out (hb8.block _ HT7.out.lt)) (by unfold maxLen; omega) _ _ _ rfl rfl (keyOf_int_mk Try.underlying2 wx.2.2.2) (ltD x) [] (letE_mk x) ?_; intro w9 ho9 hg9))
          go_frame
          go_roundw
          case rel =>
            obtain ⟨z0, z1, z2, z3, z4, h1, h2, h3, h4, h5, h6, h7, h8⟩ := UPD.out _ _ hb8 hg9 ho9 HQ.out
            first | exact ⟨z0, z1, z2, z3, z4, h1, h2, h3, h4, h5, h6, h7, h8⟩ | exact ⟨z0, z1, h1, z2, z3, h2, h3, h4, z4, h5, h6, h7, h8⟩
          case measure => exact MEAS.out _ _ hb8 hg9
end Go.Proofs.Ytbabknhccapaoaa
