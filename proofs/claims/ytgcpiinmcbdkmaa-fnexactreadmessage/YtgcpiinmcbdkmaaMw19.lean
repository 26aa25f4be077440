/-
  Merged: Rm8.
-/
import Derived.Test.YtgcpiinmcbdkmaaMw18
import Derived.Laws.EntriesVeiled
namespace Go.Proofs.Ytgcpiinmcbdkmaa
open Go.RowKit Va Ms
set_option linter.all false
theorem own_vstr {w : World} {base : Nat} {v : Value} {l : List ByteArray} (h : w.ownsRow base 9 1 v l.length (strV l)) : VRw 1 cvS w v l := by
  obtain ⟨_, ⟨rfl, hz⟩ | ⟨g, cap, cur, rfl, hb, hg, hc, hm, hs, ht⟩⟩ := h
  · exact ⟨none, 0, by rw [hz], by omega, Or.inl hz⟩
  · refine ⟨_, cap, rfl, hc, Or.inr ⟨g, 0, rfl, (Array.getElem?_eq_some_iff.1 hg).1, fun i x hx k hk => ?_⟩⟩
    obtain rfl : k = 0 := by omega
    have hi := (List.getElem?_eq_some_iff.1 hx).1
    have e1 : (cur.toList.take (l.length * 1))[i]? = (strV l)[i]? := by rw [ht]
    rw [List.getElem?_take, if_pos (by omega), Array.getElem?_toList] at e1
    simp only [World.cell?, hg]
    rw [show (0 + i * 1 + 0) = i by omega, e1]
    simp [strV, hx, cvS]
def cellsP (L : List (Pt × Value)) : List Value := L.flatMap fun p => [.string p.1.n, p.2]
theorem cellsP_app (L : List (Pt × Value)) (p : Pt × Value) : cellsP (L ++ [p]) = cellsP L ++ [.string p.1.n, p.2] := by simp [cellsP]
set_option maxRecDepth 20000 in
set_option maxHeartbeats 8000000 in
theorem endP_any (s : ByteArray) (i b : Nat) (nm : ByteArray) (fa : Option Addr) (fc : Nat) (dv pv : Value) (c a R K : Nat) (fs : List ByteArray) (L : List (Pt × Value)) (w : World) (h : PB w R (rdC s i b nm (.slice fa fs.length fc) dv pv c a) 110)
    (hK : K ≤ w.heap.size) (hF : VRw 1 cvS w (.slice fa fs.length fc) fs) (hfR : Value.ownBlock (.slice fa fs.length fc) ≠ some R) (hP : w.ownsRow K 106 2 pv L.length (cellsP L)) (hn : fs.length ≤ 1048576) (hL : L.length ≤ 1048576) :
    Calls Try.prog 110 #[.pointer (some ⟨R, 0, none⟩)] w fun e w' => e = .returned (.tuple #[]) ∧ ∃ pa pc, PB w' R (rdC s i b nm (.slice fa fs.length fc) dv (.slice pa (L.length + 1) pc) (if fieldsB fs = true then c else noteC c 6) (if fieldsB fs = true then a else noteA c a 6 b)) 110 ∧ w'.ownsRow K 106 2 (.slice pa (L.length + 1) pc) (L.length + 1) (cellsP (L ++ [(⟨nm, fs⟩, .slice fa fs.length fc)])) ∧ Two R pv.ownBlock w w' := by
  obtain ⟨p0, p1, p2, p3, p4, p5, p6, p7, p8⟩ := h.nine
  have kf := fun W hW => ifields_any fa fs.length fc fs W hW hn
  have HF := hidden hF
  cases hfb : fieldsB fs with
  | true =>
    rw [hfb] at kf
    simp only [if_true]
    have HP := hidden hP
    have HH := hidden h
    clear hfb h hP
    go_enter Try.func110, Try.ntmps110
    go_wp2_with (go_at_call 138; (with_reducible refine (kf _ HF.out).mono ?_); rintro e w1 ⟨rfl, rfl⟩)
    go_upto_region 2 with fail
    refine regEp2 (base := K) (vs := pv) (nn := L.length) (xs := cellsP L) (R := R) (i9 := i) (b9 := b) (c9 := c) (a9 := a) (nm := nm) (dv := dv) rfl rfl hK trivial HH.out HP.out trivial hL ?_
    intro b' w' v hf h2 _ hP2 ⟨pa, pc, hv⟩ ho
    subst hv
    rw [layEp2 hf]
    clear hf
    generalize Rg.out (Rg.opsOf Try.f110 2) b' 0 = y0
    generalize Rg.out (Rg.opsOf Try.f110 2) b' 1 = y1
    generalize Rg.out (Rg.opsOf Try.f110 2) b' 2 = y2
    generalize Rg.out (Rg.opsOf Try.f110 2) b' 3 = y3
    generalize Rg.out (Rg.opsOf Try.f110 2) b' 4 = y4
    generalize Rg.out (Rg.opsOf Try.f110 2) b' 5 = y5
    generalize Rg.out (Rg.opsOf Try.f110 2) b' 6 = y6
    generalize Rg.out (Rg.opsOf Try.f110 2) b' 7 = y7
    generalize Rg.out (Rg.opsOf Try.f110 2) b' 8 = y8
    generalize Rg.out (Rg.opsOf Try.f110 2) b' 9 = y9
    generalize Rg.out (Rg.opsOf Try.f110 2) b' 10 = y10
    generalize Rg.out (Rg.opsOf Try.f110 2) b' 11 = y11
    generalize Rg.out (Rg.opsOf Try.f110 2) b' 12 = y12
    have HP2 := hidden hP2
    have HO := hidden ho
    have H2 := hidden h2
    clear hP2 ho h2
    go_frame
    go_wp2_with fail
    go_end0
    exact ⟨rfl, pa, pc, HP2.out, by rw [cellsP_app]; exact HO.out, H2.out⟩
  | false =>
    rw [hfb] at kf
    have kn := note_any s i b nm (.slice fa fs.length fc) dv pv c a R 6 b w h
    rw [show ((6 : Nat) : Int) = 6 from rfl] at kn
    simp only [Bool.false_eq_true, if_false]
    have HP := hidden hP
    have HH := hidden h
    have hPR := ownU_ty hP h (by decide)
    clear hfb h hP
    go_enter Try.func110, Try.ntmps110
    go_wp2_with (first | (go_at_call 138; (with_reducible refine (kf _ HF.out).mono ?_); rintro e w1 ⟨rfl, rfl⟩) | (go_at_call 71; (with_reducible refine kn.mono ?_); rintro e w1 ⟨rfl, hP1, hK1⟩; have HP1 := hidden hP1; have HK1 := hidden hK1; clear hP1 hK1))
    go_upto_region 2 with fail
    refine regEp2 (base := K) (vs := pv) (nn := L.length) (xs := cellsP L) (R := R) (i9 := i) (b9 := b) (c9 := noteC c 6) (a9 := noteA c a 6 b) (nm := nm) (dv := dv) rfl rfl (Nat.le_trans hK HK1.out.size) trivial HP1.out ((Two.of_keep (r := none) HK1.out).own HP.out hPR (fun k hk => by simp)) trivial hL ?_
    intro b' w' v hf h2 _ hP2 ⟨pa, pc, hv⟩ ho
    subst hv
    rw [layEp2 hf]
    clear hf
    generalize Rg.out (Rg.opsOf Try.f110 2) b' 0 = y0
    generalize Rg.out (Rg.opsOf Try.f110 2) b' 1 = y1
    generalize Rg.out (Rg.opsOf Try.f110 2) b' 2 = y2
    generalize Rg.out (Rg.opsOf Try.f110 2) b' 3 = y3
    generalize Rg.out (Rg.opsOf Try.f110 2) b' 4 = y4
    generalize Rg.out (Rg.opsOf Try.f110 2) b' 5 = y5
    generalize Rg.out (Rg.opsOf Try.f110 2) b' 6 = y6
    generalize Rg.out (Rg.opsOf Try.f110 2) b' 7 = y7
    generalize Rg.out (Rg.opsOf Try.f110 2) b' 8 = y8
    generalize Rg.out (Rg.opsOf Try.f110 2) b' 9 = y9
    generalize Rg.out (Rg.opsOf Try.f110 2) b' 10 = y10
    generalize Rg.out (Rg.opsOf Try.f110 2) b' 11 = y11
    generalize Rg.out (Rg.opsOf Try.f110 2) b' 12 = y12
    have HP2 := hidden hP2
    have HO := hidden ho
    have H2 := hidden h2
    clear hP2 ho h2
    go_frame
    go_wp2_with fail
    go_end0
    exact ⟨rfl, pa, pc, HP2.out, by rw [cellsP_app]; exact HO.out, ⟨H2.out.os.trans HK1.out.os, H2.out.tape.trans HK1.out.tape, H2.out.output.trans HK1.out.output, Nat.le_trans HK1.out.size H2.out.size, fun j hj hR hr => (H2.out.block j (Nat.lt_of_lt_of_le hj HK1.out.size) hR hr).trans (HK1.out.block j hj hR)⟩⟩
def ownV : Value := .agg #[.int .u8 124, .int .u8 70, .int .u8 92, .int .u8 69, .int .u8 13, .int .u8 82, .int .u8 10, .int .u8 78]
set_option maxRecDepth 20000 in
set_option maxHeartbeats 4000000 in
theorem ownE_any (w : World) : Calls Try.prog 161 #[] w fun e w' => e = .returned ownV ∧ Below w.heap.size w w' := by
  have HP := hidden (PB.new w #[.int .u8 124, .int .u8 70, .int .u8 92, .int .u8 69, .int .u8 13, .int .u8 82, .int .u8 10, .int .u8 78] 200)
  go_enter Try.func161, Try.ntmps161
  go_wp2_with fail
  exact bodyPost_ret (v := ownV) (results_cell_row Try.results161 _ _ w.heap.size 200 _ (0, 0) _ rfl HP.out Try.underlying200 rfl (by kernel_rfl)) rfl ⟨rfl, by repeat (first | exact Below.refl _ _ | assumption | refine st_drew ?_ | refine st_drewN ?_ _ | refine Below.setCell ?_ (by first | omega | (simp; done) | (simp; omega)) _ | refine Below.alloc ?_ (by first | omega | (simp; done) | (simp; omega)) _)⟩
theorem ix0 (W : World) : (Instr.index 200 ownV (.int .i64 0)).run Try.prog W = .ok (.agg #[.int .u8 124, .int .u8 70]) W := by kernel_rfl
theorem ix1 (W : World) : (Instr.index 200 ownV (.int .i64 1)).run Try.prog W = .ok (.agg #[.int .u8 92, .int .u8 69]) W := by kernel_rfl
theorem ix2 (W : World) : (Instr.index 200 ownV (.int .i64 2)).run Try.prog W = .ok (.agg #[.int .u8 13, .int .u8 82]) W := by kernel_rfl
theorem ix3 (W : World) : (Instr.index 200 ownV (.int .i64 3)).run Try.prog W = .ok (.agg #[.int .u8 10, .int .u8 78]) W := by kernel_rfl
theorem cell_new (w : World) (xs : List Value) (t : TypeId) : ∀ (j : Nat) (u : Value), xs[j]? = some u → (w.alloc (.cells xs.toArray t)).cell? ((⟨w.heap.size, 0, none⟩ : Addr).add j) = some u := fun j u hu => by
  have e0 : (w.alloc (Obj.cells xs.toArray t)).heap[w.heap.size]? = some (Obj.cells xs.toArray t) := heap_alloc_new _ _
  rw [Addr.add_lit, Nat.zero_add]
  simp only [World.cell?, e0]
  simpa using hu
theorem infoU8r : (Try.prog.info? 5).map (fun i => (i.zero, i.size, i.bytes)) = some (some (.int .u8 0), 1, 1) := by kernel_rfl
theorem own_nil (w : World) (b t s : Nat) : w.ownsRow b t s (.slice none 0 0) 0 [] := ⟨by simp, Or.inl ⟨rfl, rfl⟩⟩
end Go.Proofs.Ytgcpiinmcbdkmaa
