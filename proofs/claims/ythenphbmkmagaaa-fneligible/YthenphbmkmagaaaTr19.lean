/-
  Criteria: who fits, as the specification says.
-/
import Derived.Test.YthenphbmkmagaaaTr18
namespace Go.Proofs.Ythenphbmkmagaaa
open Go.RowKit Go.WideShapes Va Lb El
set_option linter.all false

set_option maxRecDepth 20000 in
set_option maxHeartbeats 8000000 in
theorem seligible_any (av : Option Addr) (nv cv : Nat) (V : List Int) (ak : Option Addr) (nk ck : Nat) (K : List Bool) (ac : Option Addr) (nc cc : Nat) (C : List Cr) (w : World) (hv : VRw 1 cvI w (.slice av nv cv) V) (hk : VRw 1 cvB w (.slice ak nk ck) K) (hc : VRw 4 cvCr w (.slice ac nc cc) C) (hvl : V.length ≤ 1048576) (hkl : K.length ≤ 1048576) (hcl : C.length ≤ 1048576) :
    Calls Try.prog 10 #[.slice av nv cv, .slice ak nk ck, .slice ac nc cc] w fun e w' => e = .returned (.int .i64 (eligible V K C)) ∧ Below w.heap.size w w' := by
  obtain rfl := hv.len
  obtain rfl := hk.len
  obtain rfl := hc.len
  have hcap := hc.cap
  have HN : Hid (¬ (V.length = K.length ∧ V.length ≤ 20 ∧ C.length ≤ 200 ∧ ∀ c ∈ C, fieldB V c = true) → eligible V K C = -1) := fun h0 => by
    unfold eligible
    rw [if_neg (fun e => h0 (askB_iff.1 e))]
  have HY : Hid ((V.length = K.length ∧ V.length ≤ 20 ∧ C.length ≤ 200 ∧ ∀ c ∈ C, fieldB V c = true) → eligible V K C = scan V K C 0) := fun h0 => by
    unfold eligible
    rw [if_pos (askB_iff.2 h0)]
  have HHV := hidden hv
  have HHK := hidden hk
  have HHC := hidden hc
  clear hv hk hc
  generalize eligible V K C = R at *
  by_cases q1 : V.length = K.length
  case neg =>
    have hR : Hid (R = -1) := HN.out (fun hh => q1 hh.1)
    have q1' : ((V.length : Int) != (K.length : Int)) = true := by simp; omega
    have q1'' : ¬ (V.length : Int) = (K.length : Int) := by omega
    clear HN HY q1
    go_enter Try.func10, Try.ntmps10
    go_wp2_with fail
    all_goals go_ret
    all_goals exact ⟨ret_intT hR.out.symm, Below.refl _ _⟩
  have q1' : ((V.length : Int) != (K.length : Int)) = false := by simp; omega
  by_cases q2 : (20 : Int) < (V.length : Int)
  · have hR : Hid (R = -1) := HN.out (fun hh => by have := hh.2.1; omega)
    clear HN HY
    have HQ := hidden q1
    clear q1
    go_enter Try.func10, Try.ntmps10
    go_wp2_with fail
    all_goals go_ret
    all_goals exact ⟨ret_intT hR.out.symm, Below.refl _ _⟩
  by_cases q3 : (200 : Int) < (C.length : Int)
  · have hR : Hid (R = -1) := HN.out (fun hh => by have := hh.2.2.1; omega)
    clear HN HY
    have HQ := hidden q1
    clear q1
    go_enter Try.func10, Try.ntmps10
    go_wp2_with fail
    all_goals go_ret
    all_goals exact ⟨ret_intT hR.out.symm, Below.refl _ _⟩
  have HQ := hidden q1
  clear q1
  go_enter Try.func10, Try.ntmps10
  go_wp2_with fail
  go_loopw [8] (fun iv wr => ∃ i : Nat, i ≤ C.length ∧ iv = .int .i64 i ∧ Below w.heap.size w wr ∧ Hid (fieldsTo V C i)) (fun iv _ => C.length - (intOf iv).toNat)
  case atStart => exact ⟨0, Nat.zero_le _, rfl, Below.refl _ _, fieldsTo_zero _ _⟩
  case round =>
    obtain ⟨i, hi, rfl, hb, hok⟩ := hrel
    have hsz := hb.size
    by_cases hti : i < C.length
    · have hlti : (i : Int) < (C.length : Int) := by omega
      obtain ⟨x, hx⟩ := some_of C i hti
      obtain ⟨g, off, rfl, hg, hcs⟩ := (HHC.out.below hb).at hx
      have c0 : wr.cell? ⟨g, off + i * 4, none⟩ = some (.int .i64 x.f) := hcs 0 (by omega)
      have HI := hidden (lin_any x.f 0 ((V.length : Int) - 1))
      clear hcs
      cases hp : fieldB V x with
      | false =>
        have hR : Hid (R = -1) := HN.out (fun hh => by have := hh.2.2.2 x (List.mem_of_getElem? hx); rw [hp] at this; cases this)
        unfold fieldB at hp
        rw [hp] at HI
        clear HN HY hx hok hp
        go_wp2_with (go_at_call 30; refine (HI.out _).mono ?_; rintro e w1 ⟨rfl, rfl⟩)
        go_ret
        exact ⟨ret_intT hR.out.symm, by repeat (first | exact Below.refl _ _ | assumption | refine st_drew ?_ | refine st_drewN ?_ _ | refine Below.setCell ?_ (by first | omega | (simp; done) | (simp; omega)) _ | refine Below.alloc ?_ (by first | omega | (simp; done) | (simp; omega)) _)⟩
      | true =>
        have hok2 := hidden (fieldsTo_succ hx hok.out hp)
        unfold fieldB at hp
        rw [hp] at HI
        clear hx hok hp
        go_wp2_with (go_at_call 30; refine (HI.out _).mono ?_; rintro e w1 ⟨rfl, rfl⟩)
        go_roundw
        case rel => exact ⟨i + 1, by omega, rfl, by repeat (first | exact Below.refl _ _ | assumption | refine st_drew ?_ | refine st_drewN ?_ _ | refine Below.setCell ?_ (by first | omega | (simp; done) | (simp; omega)) _ | refine Below.alloc ?_ (by first | omega | (simp; done) | (simp; omega)) _), hok2.out⟩
        case measure => simp [intOf]; omega
    · have hlti : ¬ (i : Int) < (C.length : Int) := by omega
      have HF := hidden (fieldsTo_all hok.out (by omega))
      have HS : Hid (scan V K C 0 = R) := (HY.out ⟨HQ.out, by omega, by omega, HF.out⟩).symm
      clear hok HN HY
      go_wp2_with fail
      go_loopw [9, 10, 11] (fun iv bv sv wt => ∃ i : Nat, i ≤ C.length ∧ iv = .int .i64 i ∧ Below w.heap.size w wt ∧ Hid (scan V K (C.drop i) (i : Int) = R)) (fun iv _ _ _ => C.length - (intOf iv).toNat)
      case atStart => exact ⟨0, Nat.zero_le _, rfl, hb, HS.out⟩
      case round =>
        clear hb hi hti hlti HS hsz
        obtain ⟨i, hil, rfl, hb, hsc⟩ := hrel
        have hsz := hb.size
        by_cases hti : i < C.length
        · have hlti : (i : Int) < (C.length : Int) := by omega
          obtain ⟨x, hx⟩ := some_of C i hti
          obtain ⟨g, off, rfl, hg, hcs⟩ := (HHC.out.below hb).at hx
          have c0 : wr.cell? ⟨g, off + i * 4, none⟩ = some (.int .i64 x.f) := hcs 0 (by omega)
          have c1 : wr.cell? ⟨g, off + i * 4 + 1, none⟩ = some (.int .i64 x.lo) := hcs 1 (by omega)
          have c2 : wr.cell? ⟨g, off + i * 4 + 2, none⟩ = some (.int .i64 x.hi) := hcs 2 (by omega)
          have c3 : wr.cell? ⟨g, off + i * 4 + 3, none⟩ = some (.bool x.must) := hcs 3 (by omega)
          have hff := rng_iff.1 (show rng x.f 0 ((V.length : Int) - 1) = true from HF.out x (List.mem_of_getElem? hx))
          obtain ⟨ff, hfe⟩ := Int.eq_ofNat_of_zero_le hff.1
          have hfv : ff < V.length := by omega
          have hfk : ff < K.length := by have := HQ.out; omega
          obtain ⟨vv, hvv⟩ := some_of V ff hfv
          obtain ⟨kk, hkk⟩ := some_of K ff hfk
          obtain ⟨gv, ov, rfl, hgv, y0⟩ := vint_cell (HHV.out.below hb) hvv
          obtain ⟨gk, ok, rfl, hgk, z0⟩ := bool_cell (HHK.out.below hb) hkk
          have HB : Hid (holdsB V K x = ((kk && rng vv x.lo x.hi) == x.must)) := by
            rw [Hid]; unfold holdsB isB; rw [hfe]; simp [hvv, hkk]
          have HSD := hidden (scan_drop (v := V) (k := K) hx (i : Int))
          obtain ⟨xf, lo, hi, mu⟩ := x
          simp only at *
          subst hfe
          have HPB := hidden (PB.new wr #[.int .i64 (ff : Int), .int .i64 lo, .int .i64 hi, .bool mu] 31)
          have hbA : Below wr.heap.size wr (wr.alloc (.cells #[.int .i64 (ff : Int), .int .i64 lo, .int .i64 hi, .bool mu] 31)) := (Below.refl _ _).alloc (Nat.le_refl _) _
          have hgv2 := Nat.lt_of_lt_of_le hgv hbA.size
          have hgk2 := Nat.lt_of_lt_of_le hgk hbA.size
          have y1 := (hbA.cell (p := ⟨gv, ov + ff, none⟩) hgv).trans y0
          have z1 := (hbA.cell (p := ⟨gk, ok + ff, none⟩) hgk).trans z0
          have hb2 := hidden (hb.trans (hbA.mono hb.size))
          clear hcs hx y0 z0
          go_upto_region 13 with fail
          generalize wr.alloc (.cells #[.int .i64 (ff : Int), .int .i64 lo, .int .i64 hi, .bool mu] 31) = wB at *
          refine regSe13 (vv := vv) (kk := kk) rfl rfl rfl rfl HPB.out.lt (HPB.out.cell 0) (HPB.out.cell 1) (HPB.out.cell 2) (HPB.out.cell 3) hgv2 hgk2 hfv hfk y1 z1 ?_
          intro b' w3 hf hb3 hv
          rw [laySe13 hf, hv]
          clear hv hf c0 c1 c2 c3 y1 z1 hbA
          generalize Rg.out (Rg.opsOf Try.f10 13) b' 0 = y0
          generalize Rg.out (Rg.opsOf Try.f10 13) b' 1 = y1
          generalize Rg.out (Rg.opsOf Try.f10 13) b' 2 = y2
          generalize Rg.out (Rg.opsOf Try.f10 13) b' 3 = y3
          generalize Rg.out (Rg.opsOf Try.f10 13) b' 4 = y4
          generalize Rg.out (Rg.opsOf Try.f10 13) b' 5 = y5
          generalize Rg.out (Rg.opsOf Try.f10 13) b' 6 = y6
          generalize Rg.out (Rg.opsOf Try.f10 13) b' 7 = y7
          generalize Rg.out (Rg.opsOf Try.f10 13) b' 8 = y8
          generalize Rg.out (Rg.opsOf Try.f10 13) b' 9 = y9
          generalize Rg.out (Rg.opsOf Try.f10 13) b' 10 = y10
          generalize Rg.out (Rg.opsOf Try.f10 13) b' 11 = y11
          generalize Rg.out (Rg.opsOf Try.f10 13) b' 12 = y12
          generalize Rg.out (Rg.opsOf Try.f10 13) b' 13 = y13
          generalize Rg.out (Rg.opsOf Try.f10 13) b' 14 = y14
          generalize Rg.out (Rg.opsOf Try.f10 13) b' 15 = y15
          generalize Rg.out (Rg.opsOf Try.f10 13) b' 16 = y16
          go_frame
          have p3 : w3.cell? ⟨wr.heap.size, 3, none⟩ = some (.bool mu) := (HPB.out.below hb3).cell 3
          have hb4 := hidden (hb2.out.trans (hb3.mono hb2.out.size))
          clear hb3 hb2 hb
          generalize (kk && rng vv lo hi) = is at *
          rcases is with _ | _
          · rcases mu with _ | _
            · have hsc2 : Hid (scan V K (C.drop (i + 1)) ((i + 1 : Nat) : Int) = R) := by
                have e := hsc.out
                rw [HSD.out, HB.out, if_pos (by rfl)] at e
                rw [Hid, ← e]; congr 1
              clear HB hsc HSD
              go_wp2_with fail
              go_roundw
              case rel => exact ⟨i + 1, by omega, rfl, hb4.out, hsc2.out⟩
              case measure => simp [intOf]; omega
            · have hR : Hid (R = (i : Int) + 1) := by rw [Hid, ← hsc.out, HSD.out, HB.out, if_neg (by simp)]
              clear HB hsc HSD
              go_wp2_with fail
              go_ret
              exact ⟨ret_intT hR.out.symm, hb4.out⟩
          · rcases mu with _ | _
            · have hR : Hid (R = (i : Int) + 1) := by rw [Hid, ← hsc.out, HSD.out, HB.out, if_neg (by simp)]
              clear HB hsc HSD
              go_wp2_with fail
              go_ret
              exact ⟨ret_intT hR.out.symm, hb4.out⟩
            · have hsc2 : Hid (scan V K (C.drop (i + 1)) ((i + 1 : Nat) : Int) = R) := by
                have e := hsc.out
                rw [HSD.out, HB.out, if_pos (by rfl)] at e
                rw [Hid, ← e]; congr 1
              clear HB hsc HSD
              go_wp2_with fail
              go_roundw
              case rel => exact ⟨i + 1, by omega, rfl, hb4.out, hsc2.out⟩
              case measure => simp [intOf]; omega
        · have hlti : ¬ (i : Int) < (C.length : Int) := by omega
          have hR : Hid (R = 0) := by
            rw [Hid, ← hsc.out, List.drop_eq_nil_of_le (by omega)]; rfl
          clear hsc
          go_wp2_with fail
          go_ret
          exact ⟨ret_intT hR.out.symm, hb⟩
end Go.Proofs.Ythenphbmkmagaaa
