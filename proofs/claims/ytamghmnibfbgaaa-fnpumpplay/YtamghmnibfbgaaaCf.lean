/-
  The program's acts together: which one is taken.
-/
import Derived.Test.YtamghmnibfbgaaaCg
import Derived.Laws.EntriesVeiled
import Derived.Test.YtamghmnibfbgaaaCc1
import Derived.Test.YtamghmnibfbgaaaCc2
import Derived.Test.YtamghmnibfbgaaaCc3
import Derived.Test.YtamghmnibfbgaaaCc4
import Derived.Test.YtamghmnibfbgaaaCc5
import Derived.Test.YtamghmnibfbgaaaCc6
import Derived.Test.YtamghmnibfbgaaaCd
import Derived.Test.YtamghmnibfbgaaaCe
namespace Go.Proofs.Ytamghmnibfbgaaa
open Go.RowKit Va Ba
set_option linter.unusedVariables false

set_option maxRecDepth 20000 in
set_option maxHeartbeats 8000000 in
theorem ibehind_any (p : Pm) (a : Ac) (hR : Right p) (ha : actOk a = true) (w : World) : Calls Try.prog 31 #[aPm p, aAc a] w fun e w' => e = .returned (.tuple #[aPm (Ba.step p a).1, .int .i64 (Ba.step p a).2]) ∧ Below w.heap.size w w' := by
  have HS : Hid (Ba.step p a = Ba.step p a) := rfl
  generalize hS : Ba.step p a = R
  have HST := hidden hS
  clear hS HS
  obtain ⟨q, co⟩ := R
  have hE : aPm p = .agg #[.int .i64 p.lim.sl, .int .i64 p.lim.sh, .int .i64 p.lim.hl, .int .i64 p.lim.hh, .int .i64 p.rate, .int .i64 p.asked, .int .i64 p.st, .bool p.door, .int .i64 p.left, .int .i64 p.given] := rfl
  rw [hE]
  clear hE
  unfold aAc
  go_enter Try.func31, Try.ntmps31
  go_upto_region 1 with fail
  have hP := ((PB.new w #[.int .i64 p.lim.sl, .int .i64 p.lim.sh, .int .i64 p.lim.hl, .int .i64 p.lim.hh, .int .i64 p.rate, .int .i64 p.asked, .int .i64 p.st, .bool p.door, .int .i64 p.left, .int .i64 p.given] 61).alloc (.cells #[.int .i64 a.kind, .int .i64 a.n] 29)).alloc (.cells #[.int .i64 0, .int .i64 0, .int .i64 0, .int .i64 0, .int .i64 0, .int .i64 0, .int .i64 0, .bool false, .int .i64 0, .int .i64 0] 61)
  have hA := (PB.new (w.alloc (.cells #[.int .i64 p.lim.sl, .int .i64 p.lim.sh, .int .i64 p.lim.hl, .int .i64 p.lim.hh, .int .i64 p.rate, .int .i64 p.asked, .int .i64 p.st, .bool p.door, .int .i64 p.left, .int .i64 p.given] 61)) #[.int .i64 a.kind, .int .i64 a.n] 29).alloc (.cells #[.int .i64 0, .int .i64 0, .int .i64 0, .int .i64 0, .int .i64 0, .int .i64 0, .int .i64 0, .bool false, .int .i64 0, .int .i64 0] 61)
  have hZ := PB.new ((w.alloc (.cells #[.int .i64 p.lim.sl, .int .i64 p.lim.sh, .int .i64 p.lim.hl, .int .i64 p.lim.hh, .int .i64 p.rate, .int .i64 p.asked, .int .i64 p.st, .bool p.door, .int .i64 p.left, .int .i64 p.given] 61)).alloc (.cells #[.int .i64 a.kind, .int .i64 a.n] 29)) #[.int .i64 0, .int .i64 0, .int .i64 0, .int .i64 0, .int .i64 0, .int .i64 0, .int .i64 0, .bool false, .int .i64 0, .int .i64 0] 61
  have hb0 : Below w.heap.size w (((w.alloc (.cells #[.int .i64 p.lim.sl, .int .i64 p.lim.sh, .int .i64 p.lim.hl, .int .i64 p.lim.hh, .int .i64 p.rate, .int .i64 p.asked, .int .i64 p.st, .bool p.door, .int .i64 p.left, .int .i64 p.given] 61)).alloc (.cells #[.int .i64 a.kind, .int .i64 a.n] 29)).alloc (.cells #[.int .i64 0, .int .i64 0, .int .i64 0, .int .i64 0, .int .i64 0, .int .i64 0, .int .i64 0, .bool false, .int .i64 0, .int .i64 0] 61)) := by repeat (first | exact Below.refl _ _ | assumption | refine st_drew ?_ | refine st_drewN ?_ _ | refine Below.setCell ?_ (by first | omega | (simp; done) | (simp; omega)) _ | refine Below.alloc ?_ (by first | omega | (simp; done) | (simp; omega)) _)
  have hsz : (((w.alloc (.cells #[.int .i64 p.lim.sl, .int .i64 p.lim.sh, .int .i64 p.lim.hl, .int .i64 p.lim.hh, .int .i64 p.rate, .int .i64 p.asked, .int .i64 p.st, .bool p.door, .int .i64 p.left, .int .i64 p.given] 61)).alloc (.cells #[.int .i64 a.kind, .int .i64 a.n] 29)).alloc (.cells #[.int .i64 0, .int .i64 0, .int .i64 0, .int .i64 0, .int .i64 0, .int .i64 0, .int .i64 0, .bool false, .int .i64 0, .int .i64 0] 61)).heap.size = w.heap.size + 1 + 1 + 1 := by simp only [World.size_alloc]
  simp only [World.size_alloc] at hP hA hZ
  generalize ((w.alloc (.cells #[.int .i64 p.lim.sl, .int .i64 p.lim.sh, .int .i64 p.lim.hl, .int .i64 p.lim.hh, .int .i64 p.rate, .int .i64 p.asked, .int .i64 p.st, .bool p.door, .int .i64 p.left, .int .i64 p.given] 61)).alloc (.cells #[.int .i64 a.kind, .int .i64 a.n] 29)).alloc (.cells #[.int .i64 0, .int .i64 0, .int .i64 0, .int .i64 0, .int .i64 0, .int .i64 0, .int .i64 0, .bool false, .int .i64 0, .int .i64 0] 61) = wA at *
  generalize Value.agg #[.int .i64 p.lim.sl, .int .i64 p.lim.sh, .int .i64 p.lim.hl, .int .i64 p.lim.hh, .int .i64 p.rate, .int .i64 p.asked, .int .i64 p.st, .bool p.door, .int .i64 p.left, .int .i64 p.given] = av
  generalize Value.agg #[.int .i64 a.kind, .int .i64 a.n] = av2
  have hle : w.heap.size ≤ w.heap.size + 1 + 1 := by omega
  have hl3 : w.heap.size ≤ wA.heap.size := hb0.size
  generalize w.heap.size + 1 = B1 at *
  generalize B1 + 1 = B2 at *
  clear hsz
  have hN := PB.new wA #[.nilFunc, .nilFunc, .nilFunc, .nilFunc, .nilFunc, .nilFunc, .nilFunc, .nilFunc, .nilFunc, .nilFunc, .nilFunc] 81
  have hNB : Below wA.heap.size wA (wA.alloc (.cells #[.nilFunc, .nilFunc, .nilFunc, .nilFunc, .nilFunc, .nilFunc, .nilFunc, .nilFunc, .nilFunc, .nilFunc, .nilFunc] 81)) := (Below.refl _ _).alloc (Nat.le_refl _) _
  generalize hW : wA.alloc (.cells #[.nilFunc, .nilFunc, .nilFunc, .nilFunc, .nilFunc, .nilFunc, .nilFunc, .nilFunc, .nilFunc, .nilFunc, .nilFunc] 81) = wN at *
  have HP := hidden (hP.below hNB)
  have HA := hidden (hA.below hNB)
  have HZ := hidden (hZ.below hNB)
  have HB := hidden (hb0.trans (hNB.mono hl3))
  have hnP : wA.heap.size ≠ w.heap.size := Nat.ne_of_gt hP.lt
  have hnA : wA.heap.size ≠ B1 := Nat.ne_of_gt hA.lt
  have hnZ : wA.heap.size ≠ B2 := Nat.ne_of_gt hZ.lt
  have HN := hidden hN
  have n0 := hN.cell 0
  have m0 := hN.frozen 0
  have n1 := hN.cell 1
  have m1 := hN.frozen 1
  have n2 := hN.cell 2
  have m2 := hN.frozen 2
  have n3 := hN.cell 3
  have m3 := hN.frozen 3
  have n4 := hN.cell 4
  have m4 := hN.frozen 4
  have n5 := hN.cell 5
  have m5 := hN.frozen 5
  have n6 := hN.cell 6
  have m6 := hN.frozen 6
  have n7 := hN.cell 7
  have m7 := hN.frozen 7
  have n8 := hN.cell 8
  have m8 := hN.frozen 8
  have n9 := hN.cell 9
  have m9 := hN.frozen 9
  have n10 := hN.cell 10
  have m10 := hN.frozen 10
  simp only [List.getElem?_toArray, List.getElem?_cons_zero, List.getElem?_cons_succ] at n0 n1 n2 n3 n4 n5 n6 n7 n8 n9 n10
  clear hP hA hZ hb0 hN hNB
  go_upto_region 2 with fail
  have e0 := HN.out.put 0 (.nilFunc) (vs' := #[.nilFunc, .nilFunc, .nilFunc, .nilFunc, .nilFunc, .nilFunc, .nilFunc, .nilFunc, .nilFunc, .nilFunc, .nilFunc]) (by simp)
  have e1 := e0.put 1 (.func (.func 48) #[] #[]) (vs' := #[.nilFunc, .func (.func 48) #[] #[], .nilFunc, .nilFunc, .nilFunc, .nilFunc, .nilFunc, .nilFunc, .nilFunc, .nilFunc, .nilFunc]) (by simp)
  have e2 := e1.put 2 (.func (.func 49) #[] #[]) (vs' := #[.nilFunc, .func (.func 48) #[] #[], .func (.func 49) #[] #[], .nilFunc, .nilFunc, .nilFunc, .nilFunc, .nilFunc, .nilFunc, .nilFunc, .nilFunc]) (by simp)
  have e3 := e2.put 3 (.func (.func 50) #[] #[]) (vs' := #[.nilFunc, .func (.func 48) #[] #[], .func (.func 49) #[] #[], .func (.func 50) #[] #[], .nilFunc, .nilFunc, .nilFunc, .nilFunc, .nilFunc, .nilFunc, .nilFunc]) (by simp)
  have e4 := e3.put 4 (.func (.func 51) #[] #[]) (vs' := #[.nilFunc, .func (.func 48) #[] #[], .func (.func 49) #[] #[], .func (.func 50) #[] #[], .func (.func 51) #[] #[], .nilFunc, .nilFunc, .nilFunc, .nilFunc, .nilFunc, .nilFunc]) (by simp)
  have e5 := e4.put 5 (.func (.func 52) #[] #[]) (vs' := #[.nilFunc, .func (.func 48) #[] #[], .func (.func 49) #[] #[], .func (.func 50) #[] #[], .func (.func 51) #[] #[], .func (.func 52) #[] #[], .nilFunc, .nilFunc, .nilFunc, .nilFunc, .nilFunc]) (by simp)
  have e6 := e5.put 6 (.func (.func 53) #[] #[]) (vs' := #[.nilFunc, .func (.func 48) #[] #[], .func (.func 49) #[] #[], .func (.func 50) #[] #[], .func (.func 51) #[] #[], .func (.func 52) #[] #[], .func (.func 53) #[] #[], .nilFunc, .nilFunc, .nilFunc, .nilFunc]) (by simp)
  have e7 := e6.put 7 (.func (.func 54) #[] #[]) (vs' := #[.nilFunc, .func (.func 48) #[] #[], .func (.func 49) #[] #[], .func (.func 50) #[] #[], .func (.func 51) #[] #[], .func (.func 52) #[] #[], .func (.func 53) #[] #[], .func (.func 54) #[] #[], .nilFunc, .nilFunc, .nilFunc]) (by simp)
  have e8 := e7.put 8 (.func (.func 55) #[] #[]) (vs' := #[.nilFunc, .func (.func 48) #[] #[], .func (.func 49) #[] #[], .func (.func 50) #[] #[], .func (.func 51) #[] #[], .func (.func 52) #[] #[], .func (.func 53) #[] #[], .func (.func 54) #[] #[], .func (.func 55) #[] #[], .nilFunc, .nilFunc]) (by simp)
  have e9 := e8.put 9 (.func (.func 56) #[] #[]) (vs' := #[.nilFunc, .func (.func 48) #[] #[], .func (.func 49) #[] #[], .func (.func 50) #[] #[], .func (.func 51) #[] #[], .func (.func 52) #[] #[], .func (.func 53) #[] #[], .func (.func 54) #[] #[], .func (.func 55) #[] #[], .func (.func 56) #[] #[], .nilFunc]) (by simp)
  have e10 := e9.put 10 (.func (.func 57) #[] #[]) (vs' := #[.nilFunc, .func (.func 48) #[] #[], .func (.func 49) #[] #[], .func (.func 50) #[] #[], .func (.func 51) #[] #[], .func (.func 52) #[] #[], .func (.func 53) #[] #[], .func (.func 54) #[] #[], .func (.func 55) #[] #[], .func (.func 56) #[] #[], .func (.func 57) #[] #[]]) (by simp)
  have HZ2 := hidden ((((((((((((HZ.out).far hnZ 0 (.nilFunc)).far hnZ 1 (.func (.func 48) #[] #[])).far hnZ 2 (.func (.func 49) #[] #[])).far hnZ 3 (.func (.func 50) #[] #[])).far hnZ 4 (.func (.func 51) #[] #[])).far hnZ 5 (.func (.func 52) #[] #[])).far hnZ 6 (.func (.func 53) #[] #[])).far hnZ 7 (.func (.func 54) #[] #[])).far hnZ 8 (.func (.func 55) #[] #[])).far hnZ 9 (.func (.func 56) #[] #[])).far hnZ 10 (.func (.func 57) #[] #[]) : PB (((((((((((wN.setCell ⟨wA.heap.size, 0, none⟩ (.nilFunc)).setCell ⟨wA.heap.size, 1, none⟩ (.func (.func 48) #[] #[])).setCell ⟨wA.heap.size, 2, none⟩ (.func (.func 49) #[] #[])).setCell ⟨wA.heap.size, 3, none⟩ (.func (.func 50) #[] #[])).setCell ⟨wA.heap.size, 4, none⟩ (.func (.func 51) #[] #[])).setCell ⟨wA.heap.size, 5, none⟩ (.func (.func 52) #[] #[])).setCell ⟨wA.heap.size, 6, none⟩ (.func (.func 53) #[] #[])).setCell ⟨wA.heap.size, 7, none⟩ (.func (.func 54) #[] #[])).setCell ⟨wA.heap.size, 8, none⟩ (.func (.func 55) #[] #[])).setCell ⟨wA.heap.size, 9, none⟩ (.func (.func 56) #[] #[])).setCell ⟨wA.heap.size, 10, none⟩ (.func (.func 57) #[] #[])) B2 #[.int .i64 0, .int .i64 0, .int .i64 0, .int .i64 0, .int .i64 0, .int .i64 0, .int .i64 0, .bool false, .int .i64 0, .int .i64 0] 61)
  have hP2 : PB (((((((((((wN.setCell ⟨wA.heap.size, 0, none⟩ (.nilFunc)).setCell ⟨wA.heap.size, 1, none⟩ (.func (.func 48) #[] #[])).setCell ⟨wA.heap.size, 2, none⟩ (.func (.func 49) #[] #[])).setCell ⟨wA.heap.size, 3, none⟩ (.func (.func 50) #[] #[])).setCell ⟨wA.heap.size, 4, none⟩ (.func (.func 51) #[] #[])).setCell ⟨wA.heap.size, 5, none⟩ (.func (.func 52) #[] #[])).setCell ⟨wA.heap.size, 6, none⟩ (.func (.func 53) #[] #[])).setCell ⟨wA.heap.size, 7, none⟩ (.func (.func 54) #[] #[])).setCell ⟨wA.heap.size, 8, none⟩ (.func (.func 55) #[] #[])).setCell ⟨wA.heap.size, 9, none⟩ (.func (.func 56) #[] #[])).setCell ⟨wA.heap.size, 10, none⟩ (.func (.func 57) #[] #[])) w.heap.size #[.int .i64 p.lim.sl, .int .i64 p.lim.sh, .int .i64 p.lim.hl, .int .i64 p.lim.hh, .int .i64 p.rate, .int .i64 p.asked, .int .i64 p.st, .bool p.door, .int .i64 p.left, .int .i64 p.given] 61 := (((((((((((HP.out).far hnP 0 (.nilFunc)).far hnP 1 (.func (.func 48) #[] #[])).far hnP 2 (.func (.func 49) #[] #[])).far hnP 3 (.func (.func 50) #[] #[])).far hnP 4 (.func (.func 51) #[] #[])).far hnP 5 (.func (.func 52) #[] #[])).far hnP 6 (.func (.func 53) #[] #[])).far hnP 7 (.func (.func 54) #[] #[])).far hnP 8 (.func (.func 55) #[] #[])).far hnP 9 (.func (.func 56) #[] #[])).far hnP 10 (.func (.func 57) #[] #[])
  have hA2 : PB (((((((((((wN.setCell ⟨wA.heap.size, 0, none⟩ (.nilFunc)).setCell ⟨wA.heap.size, 1, none⟩ (.func (.func 48) #[] #[])).setCell ⟨wA.heap.size, 2, none⟩ (.func (.func 49) #[] #[])).setCell ⟨wA.heap.size, 3, none⟩ (.func (.func 50) #[] #[])).setCell ⟨wA.heap.size, 4, none⟩ (.func (.func 51) #[] #[])).setCell ⟨wA.heap.size, 5, none⟩ (.func (.func 52) #[] #[])).setCell ⟨wA.heap.size, 6, none⟩ (.func (.func 53) #[] #[])).setCell ⟨wA.heap.size, 7, none⟩ (.func (.func 54) #[] #[])).setCell ⟨wA.heap.size, 8, none⟩ (.func (.func 55) #[] #[])).setCell ⟨wA.heap.size, 9, none⟩ (.func (.func 56) #[] #[])).setCell ⟨wA.heap.size, 10, none⟩ (.func (.func 57) #[] #[])) B1 #[.int .i64 a.kind, .int .i64 a.n] 29 := (((((((((((HA.out).far hnA 0 (.nilFunc)).far hnA 1 (.func (.func 48) #[] #[])).far hnA 2 (.func (.func 49) #[] #[])).far hnA 3 (.func (.func 50) #[] #[])).far hnA 4 (.func (.func 51) #[] #[])).far hnA 5 (.func (.func 52) #[] #[])).far hnA 6 (.func (.func 53) #[] #[])).far hnA 7 (.func (.func 54) #[] #[])).far hnA 8 (.func (.func 55) #[] #[])).far hnA 9 (.func (.func 56) #[] #[])).far hnA 10 (.func (.func 57) #[] #[])
  have HB2 := hidden ((((((((((((HB.out).setCell (p := ⟨wA.heap.size, 0, none⟩) hl3 (.nilFunc)).setCell (p := ⟨wA.heap.size, 1, none⟩) hl3 (.func (.func 48) #[] #[])).setCell (p := ⟨wA.heap.size, 2, none⟩) hl3 (.func (.func 49) #[] #[])).setCell (p := ⟨wA.heap.size, 3, none⟩) hl3 (.func (.func 50) #[] #[])).setCell (p := ⟨wA.heap.size, 4, none⟩) hl3 (.func (.func 51) #[] #[])).setCell (p := ⟨wA.heap.size, 5, none⟩) hl3 (.func (.func 52) #[] #[])).setCell (p := ⟨wA.heap.size, 6, none⟩) hl3 (.func (.func 53) #[] #[])).setCell (p := ⟨wA.heap.size, 7, none⟩) hl3 (.func (.func 54) #[] #[])).setCell (p := ⟨wA.heap.size, 8, none⟩) hl3 (.func (.func 55) #[] #[])).setCell (p := ⟨wA.heap.size, 9, none⟩) hl3 (.func (.func 56) #[] #[])).setCell (p := ⟨wA.heap.size, 10, none⟩) hl3 (.func (.func 57) #[] #[]) : Below w.heap.size w (((((((((((wN.setCell ⟨wA.heap.size, 0, none⟩ (.nilFunc)).setCell ⟨wA.heap.size, 1, none⟩ (.func (.func 48) #[] #[])).setCell ⟨wA.heap.size, 2, none⟩ (.func (.func 49) #[] #[])).setCell ⟨wA.heap.size, 3, none⟩ (.func (.func 50) #[] #[])).setCell ⟨wA.heap.size, 4, none⟩ (.func (.func 51) #[] #[])).setCell ⟨wA.heap.size, 5, none⟩ (.func (.func 52) #[] #[])).setCell ⟨wA.heap.size, 6, none⟩ (.func (.func 53) #[] #[])).setCell ⟨wA.heap.size, 7, none⟩ (.func (.func 54) #[] #[])).setCell ⟨wA.heap.size, 8, none⟩ (.func (.func 55) #[] #[])).setCell ⟨wA.heap.size, 9, none⟩ (.func (.func 56) #[] #[])).setCell ⟨wA.heap.size, 10, none⟩ (.func (.func 57) #[] #[])))
  clear e0 e1 e2 e3 e4 e5 e6 e7 e8 e9 n0 m0 n1 m1 n2 m2 n3 m3 n4 m4 n5 m5 n6 m6 n7 m7 n8 m8 n9 m9 n10 m10 hW HP HA HZ HB HN
  generalize (((((((((((wN.setCell ⟨wA.heap.size, 0, none⟩ (.nilFunc)).setCell ⟨wA.heap.size, 1, none⟩ (.func (.func 48) #[] #[])).setCell ⟨wA.heap.size, 2, none⟩ (.func (.func 49) #[] #[])).setCell ⟨wA.heap.size, 3, none⟩ (.func (.func 50) #[] #[])).setCell ⟨wA.heap.size, 4, none⟩ (.func (.func 51) #[] #[])).setCell ⟨wA.heap.size, 5, none⟩ (.func (.func 52) #[] #[])).setCell ⟨wA.heap.size, 6, none⟩ (.func (.func 53) #[] #[])).setCell ⟨wA.heap.size, 7, none⟩ (.func (.func 54) #[] #[])).setCell ⟨wA.heap.size, 8, none⟩ (.func (.func 55) #[] #[])).setCell ⟨wA.heap.size, 9, none⟩ (.func (.func 56) #[] #[])).setCell ⟨wA.heap.size, 10, none⟩ (.func (.func 57) #[] #[])) = wF at *
  obtain ⟨c0, c1, c2, c3, c4, c5, c6, c7, c8, c9⟩ := hP2.ten
  obtain ⟨a0, a1⟩ := hA2.two
  have HE := hidden e10
  clear hP2 hA2 e10 hnP hnA hnZ
  have hB3l : w.heap.size ≤ wA.heap.size := hl3
  generalize wA.heap.size = B3 at *
  obtain ⟨kind, n⟩ := a
  have hk := act_k ha
  dsimp only at *
  obtain ⟨F, hX, hcf, hc⟩ : ∃ F, (∀ w, Calls Try.prog F #[.agg #[.int .i64 p.lim.sl, .int .i64 p.lim.sh, .int .i64 p.lim.hl, .int .i64 p.lim.hh, .int .i64 p.rate, .int .i64 p.asked, .int .i64 p.st, .bool p.door, .int .i64 p.left, .int .i64 p.given], .int .i64 n] w fun e w' => e = .returned (.tuple #[.agg #[.int .i64 q.lim.sl, .int .i64 q.lim.sh, .int .i64 q.lim.hl, .int .i64 q.lim.hh, .int .i64 q.rate, .int .i64 q.asked, .int .i64 q.st, .bool q.door, .int .i64 q.left, .int .i64 q.given], .int .i64 co]) ∧ Below w.heap.size w w') ∧ (∀ args w, (callFunc F args).run Try.prog w = .ok (.enter F args) w) ∧ wF.cell? ⟨B3, kind.toNat, none⟩ = some (.func (.func F) #[] #[]) := by
    have hk' : kind = 1 ∨ kind = 2 ∨ kind = 3 ∨ kind = 4 ∨ kind = 5 ∨ kind = 6 ∨ kind = 7 ∨ kind = 8 ∨ kind = 9 ∨ kind = 10 := by omega
    rcases hk' with rfl | rfl | rfl | rfl | rfl | rfl | rfl | rfl | rfl | rfl
    · exact ⟨48, iset_any p n q co (HST.out.symm.trans (step1 hR ha)), fun args w => by go_simp, HE.out.cell 1⟩
    · exact ⟨49, iconfirm_any p n q co (HST.out.symm.trans (step2 hR ha)), fun args w => by go_simp, HE.out.cell 2⟩
    · exact ⟨50, istart_any p n q co (HST.out.symm.trans (step3 hR ha)), fun args w => by go_simp, HE.out.cell 3⟩
    · exact ⟨51, ihold_any p n q co (HST.out.symm.trans (step4 hR ha)), fun args w => by go_simp, HE.out.cell 4⟩
    · exact ⟨52, iopen_any p n q co (HST.out.symm.trans (step5 hR ha)), fun args w => by go_simp, HE.out.cell 5⟩
    · exact ⟨53, iclose_any p n q co (HST.out.symm.trans (step6 hR ha)), fun args w => by go_simp, HE.out.cell 6⟩
    · exact ⟨54, itick_any p n hR (act_n ha (.inr (.inl rfl))) q co (HST.out.symm.trans (step7 hR ha)), fun args w => by go_simp, HE.out.cell 7⟩
    · exact ⟨55, ireset_any p n q co (HST.out.symm.trans (step8 hR ha)), fun args w => by go_simp, HE.out.cell 8⟩
    · exact ⟨56, ioff_any p n q co (HST.out.symm.trans (step9 hR ha)), fun args w => by go_simp, HE.out.cell 9⟩
    · exact ⟨57, ifill_any p n hR.left (act_n ha (.inr (.inr rfl))) q co (HST.out.symm.trans (step10 hR ha)), fun args w => by go_simp, HE.out.cell 10⟩
  have HZd : Hid (PB wF.drew B2 #[.int .i64 0, .int .i64 0, .int .i64 0, .int .i64 0, .int .i64 0, .int .i64 0, .int .i64 0, .bool false, .int .i64 0, .int .i64 0] 61) := HZ2.out
  have HBd : Hid (Below w.heap.size w wF.drew) := st_drew HB2.out
  have hk0 : 0 ≤ kind := by omega
  have hk1 : kind < 11 := by omega
  clear HE HST hR ha HZ2 HB2 hk
  go_region_with (with_reducible refine (hX _).mono ?_; rintro e w2 ⟨rfl, hb2⟩; obtain ⟨z0, z1, z2, z3, z4, z5, z6, z7, z8, z9⟩ := (HZd.out.below hb2).ten; obtain ⟨f0, f1, f2, f3, f4, f5, f6, f7, f8, f9⟩ := (HZd.out.below hb2).cold)
  all_goals go_wp2_with fail
  all_goals (try simp only [Exit.inBlock, Exit.then])
  all_goals exact iend (q' := q) (c := co) Try.results31 rfl (PB.fill' q (HZd.out.below (by assumption))) rfl rfl (fill_below (HBd.out.trans (Below.mono (by assumption) HBd.out.size)) hle _ _ _ _ _ _ _ _ _ _)
end Go.Proofs.Ytamghmnibfbgaaa
