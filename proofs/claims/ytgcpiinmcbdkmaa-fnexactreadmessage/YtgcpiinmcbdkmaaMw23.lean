/-
  Merged: Rm12.
-/
import Derived.Test.YtgcpiinmcbdkmaaMw22
import Derived.Deep.RegionWith
namespace Go.Proofs.Ytgcpiinmcbdkmaa
open Go.RowKit Va Ms
set_option linter.all false
set_option maxRecDepth 20000 in
set_option maxHeartbeats 16000000 in
theorem takeE_any (s : ByteArray) (i b : Nat) (nm : ByteArray) (fv dv pv : Value) (c a R Kd : Nat) (fd : List Nat) (w : World) (h : PB w R (rdC s i b nm fv dv pv c a) 110) (hi : i < s.size) (hs : s.size ≤ 1048576)
    (hD : w.ownsRow Kd 5 1 dv fd.length (bytV fd)) (hK : Kd ≤ w.heap.size) (hn : fd.length ≤ 1048576) :
    Calls Try.prog 112 #[.pointer (some ⟨R, 0, none⟩)] w fun e w' => e = .returned (.tuple #[]) ∧ ∃ (x k c' a' : Nat) (da : Option Addr) (dc : Nat), x < 256 ∧ PB w' R (rdC s (i + k) b nm fv (.slice da (fd.length + 1) dc) pv c' a') 110 ∧ w'.ownsRow Kd 5 1 (.slice da (fd.length + 1) dc) (fd.length + 1) (bytV (fd ++ [x])) ∧ Two R dv.ownBlock w w' ∧
      ((EscAt s i x ∧ k = (escL x).length ∧ c' = c ∧ a' = a) ∨ ((∀ y, ¬ EscAt s i y) ∧ k = 1 ∧ c' = noteC c 5 ∧ a' = noteA c a 5 i)) := by
  obtain ⟨p0, p1, p2, p3, p4, p5, p6, p7, p8⟩ := h.nine
  have kr := fun W => readE_any (s.extract i s.size) (by rw [ByteArray.size_extract]; omega) W
  obtain ⟨i0, hi0, hz0, hz1, hz2⟩ := info_parts infoU8r
  have hli : (i : Int) ≤ (s.size : Int) := by omega
  have h00 : (0 : Int) ≤ (i : Int) := by omega
  have HH := hidden h
  have HD0 := hidden hD
  clear h hD
  go_enter Try.func112, Try.ntmps112
  go_upto_region 0 with fail
  go_region_with (first | (go_at_call 139; refine (kr _).mono ?_; rintro e w1 ⟨x, k, ok, rfl, hx, hok, hno, hb1⟩) | fail)
  all_goals
    have HT1 := hidden ((Two.start R dv.ownBlock w).below hb1)
    have HP1 := hidden ((show PB w.drew R (rdC s i b nm fv dv pv c a) 110 from HH.out).below hb1)
    have HD1 := hidden (ownW_below (show w.drew.ownsRow Kd 5 1 dv fd.length (bytV fd) from HD0.out) hb1)
    have hz1' := hb1.size
    have hsz : w.heap.size ≤ w1.heap.size := hb1.size
    have HOK := hidden hok
    have HNO := hidden hno
    clear hb1 hok hno HH HD0 kr p0 p1 p2 p3 p4 p5 p6 p7 p8
    go_frame
    cases ok with
    | true =>
      obtain ⟨he, hke⟩ := HOK.out rfl
      have hE := (escat_ext (by omega) x).1 he
      have HE := hidden hE
      have hkl : k ≤ 5 := by have := esc_len5 x hx; omega
      have HKE := hidden hke
      clear he hke hE HOK HNO
      obtain ⟨q0, q1, q2, q3, q4, q5, q6, q7, q8⟩ := HP1.out.nine
      have hDR := ownU_ty HD1.out HP1.out (by decide)
      go_wp2_with (at_builtin; refine wpList_append_own _ rfl (.tmp 31) (.tmp 33) 22 rfl Kd 5 i0 (.int .u8 0) 1 1 Try.underlying22 hi0 hz0 hz1 hz2 rfl (by decide) _ fd.length (bytV fd) rfl (HD1.out.alloc _) ⟨w1.heap.size, 0, none⟩ 1 1 [.int .u8 (x : Int)] rfl rfl (cell_newQ (by simp) [.int .u8 (x : Int)] _) (by simp [Value.oneCell']) (by unfold maxLen; omega) (by omega) (by simp; omega) ?_; intro v4 w4 ho4 hg4 hnn4; have hP4 := (HP1.out.alloc (.cells #[.int .u8 (x : Int)] 5)).kept hg4 hDR; have HP4 := hidden hP4; have hO4 := hidden ho4; have HG4 := hidden hg4; obtain ⟨ad4, c4, rfl⟩ := ownW_slice ho4; clear q0 q1 q2 q3 q4 q5 q6 q7 q8 ho4 hg4 hnn4; obtain ⟨q0, q1, q2, q3, q4, q5, q6, q7, q8⟩ := hP4.nine; have f5 := hP4.frozen 5; have f1 := hP4.frozen 1; clear hP4)
      have hw1 : IntKind.i64.wrap ((i : Int) + k) = ((i + k : Nat) : Int) := by rw [IntKind.wrap_i64]; omega
      have HP6 := hidden ((HP4.out.put 5 (.slice ad4 (fd.length + 1) c4) (vs' := rdC s i b nm fv (.slice ad4 (fd.length + 1) c4) pv (c) (a)) rfl).put 1 (.int .i64 ((i + k : Nat) : Int)) (vs' := rdC s (i + k) b nm fv (.slice ad4 (fd.length + 1) c4) pv (c) (a)) rfl)
      have hR4 := ownU_ty hO4.out HP4.out (by decide)
      have HO6 := hidden (ownB_far (ownB_far hO4.out hR4 5 (.slice ad4 (fd.length + 1) c4)) hR4 1 (.int .i64 ((i + k : Nat) : Int)))
      clear HP1 HD1
      have HT := hidden ((((HT1.out).alloc (.cells #[.int .u8 (x : Int)] 5)).grown HG4.out).set 5 (.slice ad4 (fd.length + 1) c4) |>.set 1 (.int .i64 ((i + k : Nat) : Int)))
      go_wp2_with fail
      go_end0
      exact ⟨rfl, x, k, _, _, ad4, c4, hx, HP6.out, by have := HO6.out; rw [show bytV (fd ++ [x]) = bytV fd ++ [.int .u8 (x : Int)] from by simp [bytV]]; exact this, HT.out, Or.inl ⟨HE.out, HKE.out, rfl, rfl⟩⟩
    | false =>
      have HE : Hid (∀ y, ¬ EscAt s i y) := fun y hy => HNO.out rfl y ((escat_ext (by omega) y).2 hy)
      have kn := note_any s i b nm fv dv pv c a R 5 i w1 HP1.out
      rw [show ((5 : Nat) : Int) = 5 from rfl] at kn
      obtain ⟨q0, q1, q2, q3, q4, q5, q6, q7, q8⟩ := HP1.out.nine
      have HDR := hidden (ownU_ty HD1.out HP1.out (by decide))
      clear HOK HNO
      go_wp2_with fail
      refine kn.mono ?_
      rintro e w2 ⟨rfl, hP2, hK2⟩
      have HP2 := hidden hP2
      have HT2 := hidden (HT1.out.keep hK2)
      have HD2 := hidden ((Two.of_keep (r := none) hK2).own HD1.out HDR.out (fun k hk => by simp))
      have hz2' := hK2.size
      clear hP2 hK2 kn q0 q1 q2 q3 q4 q5 q6 q7 q8 HP1 HD1 HT1 HDR
      obtain ⟨q0, q1, q2, q3, q4, q5, q6, q7, q8⟩ := HP2.out.nine
      have hDR := ownU_ty HD2.out HP2.out (by decide)
      go_wp2_with (at_builtin; refine wpList_append_own _ rfl (.tmp 31) (.tmp 33) 22 rfl Kd 5 i0 (.int .u8 0) 1 1 Try.underlying22 hi0 hz0 hz1 hz2 rfl (by decide) _ fd.length (bytV fd) rfl (HD2.out.alloc _) ⟨w2.heap.size, 0, none⟩ 1 1 [.int .u8 (x : Int)] rfl rfl (cell_newQ (by simp) [.int .u8 (x : Int)] _) (by simp [Value.oneCell']) (by unfold maxLen; omega) (by omega) (by simp; omega) ?_; intro v4 w4 ho4 hg4 hnn4; have hP4 := (HP2.out.alloc (.cells #[.int .u8 (x : Int)] 5)).kept hg4 hDR; have HP4 := hidden hP4; have hO4 := hidden ho4; have HG4 := hidden hg4; obtain ⟨ad4, c4, rfl⟩ := ownW_slice ho4; clear q0 q1 q2 q3 q4 q5 q6 q7 q8 ho4 hg4 hnn4; obtain ⟨q0, q1, q2, q3, q4, q5, q6, q7, q8⟩ := hP4.nine; have f5 := hP4.frozen 5; have f1 := hP4.frozen 1; clear hP4)
      have hw1 : IntKind.i64.wrap ((i : Int) + 1) = ((i + 1 : Nat) : Int) := by rw [IntKind.wrap_i64]; omega
      have HP6 := hidden ((HP4.out.put 5 (.slice ad4 (fd.length + 1) c4) (vs' := rdC s i b nm fv (.slice ad4 (fd.length + 1) c4) pv (noteC c 5) (noteA c a 5 i)) rfl).put 1 (.int .i64 ((i + 1 : Nat) : Int)) (vs' := rdC s (i + 1) b nm fv (.slice ad4 (fd.length + 1) c4) pv (noteC c 5) (noteA c a 5 i)) rfl)
      have hR4 := ownU_ty hO4.out HP4.out (by decide)
      have HO6 := hidden (ownB_far (ownB_far hO4.out hR4 5 (.slice ad4 (fd.length + 1) c4)) hR4 1 (.int .i64 ((i + 1 : Nat) : Int)))
      clear HP2 HD2
      have HT := hidden ((((HT2.out).alloc (.cells #[.int .u8 (x : Int)] 5)).grown HG4.out).set 5 (.slice ad4 (fd.length + 1) c4) |>.set 1 (.int .i64 ((i + 1 : Nat) : Int)))
      go_wp2_with fail
      go_end0
      exact ⟨rfl, x, 1, _, _, ad4, c4, hx, HP6.out, by have := HO6.out; rw [show bytV (fd ++ [x]) = bytV fd ++ [.int .u8 (x : Int)] from by simp [bytV]]; exact this, HT.out, Or.inr ⟨HE.out, rfl, rfl, rfl⟩⟩
end Go.Proofs.Ytgcpiinmcbdkmaa
