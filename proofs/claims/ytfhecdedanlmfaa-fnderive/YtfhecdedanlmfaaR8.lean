/-
  The program: Derive and Why.
-/
import Derived.Test.YtfhecdedanlmfaaR7
namespace Go.Proofs.Ytfhecdedanlmfaa
open Go.RowKit Va Rc
set_option linter.all false

theorem indexF {A : Array Value} {S : Nat → Bool} (hA : SetA A S) {i : Nat} (hi : i < 64) (W : World) : (Instr.index 42 (.agg A) (.int .i64 (i : Int))).run Try.prog W = .ok (.bool (S i)) W := by
  have h1 : A[i]? = some (.bool (S i)) := hA.at' i hi
  have h2 : (i : Int) < 64 := by omega
  have h3 : (isAgg 4).run Try.prog W = .ok false W := by kernel_rfl
  have h4 : (sizeOf 4).run Try.prog W = .ok 1 W := by kernel_rfl
  have h5 : (underlying 42).run Try.prog W = .ok (.array 64 4) W := by kernel_rfl
  unfold Instr.index
  simp only [asIntOf, Sem.run_bind, Sem.run_pure, Result.andThen_ok, h5]
  rw [if_pos (by constructor <;> omega)]
  simp only [Sem.run_bind, h4, Result.andThen_ok, Int.toNat_natCast, Nat.mul_one, part, h3, h1, Sem.run_pure]
  simp

theorem derive_end (fs : List Int) (ls : List Lw) : derive fs ls = ((List.range 64).filter (endS fs ls)).map (fun x : Nat => (x : Int)) := by
  unfold derive endS
  cases okB fs ls with
  | false => simp
  | true =>
    simp only [if_true]
    unfold told
    refine congrArg (List.map _) (List.filter_congr fun x hx => ?_)
    rw [held_end fs ls (List.mem_range.1 hx)]
def toldS (S : Nat → Bool) (n : Nat) : List Int := ((List.range n).filter S).map (fun x : Nat => (x : Int))
theorem toldS_succ (S : Nat → Bool) (n : Nat) : toldS S (n + 1) = if S n then toldS S n ++ [(n : Int)] else toldS S n := by
  unfold toldS
  rw [List.range_succ, List.filter_append]
  cases h : S n <;> simp [h]

set_option maxRecDepth 20000 in
set_option maxHeartbeats 4000000 in
theorem iderive_any (ao : Option Addr) (n cap : Nat) (bo : Option Addr) (m cap' : Nat) (fs : List Int) (ls : List Lw) (w : World) (h : IRw w (.slice ao n cap) fs) (h' : LRw w (.slice bo m cap') ls) (hn : fs.length ≤ 1048576) (hm : ls.length ≤ 1048576) (ht : ∀ x ∈ ls, x.ifs.length ≤ 1048576 ∧ x.nots.length ≤ 1048576) :
    Calls Try.prog 7 #[.slice ao n cap, .slice bo m cap'] w fun e w' => ∃ ad c, e = .returned (.slice ad (derive fs ls).length c) ∧ w'.ownsRow w.heap.size 2 1 (.slice ad (derive fs ls).length c) (derive fs ls).length (intsV (derive fs ls)) ∧ Below w.heap.size w w' := by
  have k1 := fun W hW hW' => iheld_any ao n cap bo m cap' fs ls W hW hW' hn hm ht
  have HF := hidden (fun W (hW : Below w.heap.size w W) => h.below hW)
  have HL := hidden (fun W (hW : Below w.heap.size w W) => h'.below hW)
  have HE := hidden (derive_end fs ls)
  obtain ⟨i0, hi0, hz0, hz1, hz2⟩ := info_partsW infoW64
  have O0 := hidden (ownW_new w 2 1)
  clear h h' ht hn hm
  generalize derive fs ls = D at *
  generalize endS fs ls = S at *
  go_enter Try.func7, Try.ntmps7
  go_wp2_with (go_at_call 19; refine (k1 _ (HF.out _ (by repeat (first | exact Below.refl _ _ | assumption | refine st_drew ?_ | refine st_drewN ?_ _ | refine Below.setCell ?_ (by first | omega | (simp; done) | (simp; omega)) _ | refine Below.alloc ?_ (by first | omega | (simp; done) | (simp; omega)) _))) (HL.out _ (by repeat (first | exact Below.refl _ _ | assumption | refine st_drew ?_ | refine st_drewN ?_ _ | refine Below.setCell ?_ (by first | omega | (simp; done) | (simp; omega)) _ | refine Below.alloc ?_ (by first | omega | (simp; done) | (simp; omega)) _)))).mono ?_; rintro e w1 ⟨A, rfl, hA, hb1⟩; have O1 := hidden (ownW_below O0.out hb1); have b1 := onto (show Below w.heap.size w _ from by repeat (first | exact Below.refl _ _ | assumption | refine st_drew ?_ | refine st_drewN ?_ _ | refine Below.setCell ?_ (by first | omega | (simp; done) | (simp; omega)) _ | refine Below.alloc ?_ (by first | omega | (simp; done) | (simp; omega)) _)) hb1; have HA := hidden hA; clear hA hb1)
  go_loopw [5, 6, 7, 12] (fun sv _ _ iv wr => ∃ i : Nat, i ≤ 64 ∧ iv = .int .i64 i ∧ (∃ (T : List Int) (ad : Option Addr) (c : Nat), sv = .slice ad T.length c ∧ Hid (wr.ownsRow w.heap.size 2 1 (.slice ad T.length c) T.length (intsV T)) ∧ Hid (T = toldS S i) ∧ T.length ≤ i) ∧ Below w.heap.size w wr) (fun _ _ _ iv _ => 64 - (intOf iv).toNat)
  case atStart => exact ⟨0, Nat.zero_le _, rfl, ⟨[], _, _, rfl, O1, rfl, Nat.le_refl _⟩, b1⟩
  case round =>
    clear O1 b1 O0
    obtain ⟨i, hi, rfl, ⟨T, ad, c, rfl, HO, HT, hTl⟩, hb⟩ := hrel
    have hsz := hb.size
    by_cases hlt : i < 64
    · have hlti : (i : Int) < 64 := by omega
      have hix := fun W => indexF HA.out hlt W
      cases hS : S i with
      | true =>
        rw [hS] at hix
        have HZ : Hid (T ++ [(i : Int)] = toldS S (i + 1)) := by rw [Hid, toldS_succ, hS, HT.out]; rfl
        clear hS
        go_wp2_with (at_builtin; refine wpList_append_own _ rfl (.tmp 17) (.tmp 19) 24 rfl w.heap.size 2 i0 (.int .i64 0) 1 8 Try.underlying24 hi0 hz0 hz1 hz2 rfl (by decide) _ T.length (intsV T) rfl (HO.out.alloc _) ⟨wr.heap.size, 0, none⟩ 1 1 [.int .i64 (i : Int)] rfl rfl (cell_oneQ (by simp) _ _) (oneI _) (by unfold maxLen; omega) (by omega) (by simp; omega) ?_; intro v4 w4 ho4 hg4 hnn4; have hO4 := hidden ho4; obtain ⟨ad4, c4, rfl⟩ := ownW_slice ho4)
        have b4 := grownQ (show Below w.heap.size w (wr.alloc (.cells #[.int .i64 (i : Int)] 2)) from by repeat (first | exact Below.refl _ _ | assumption | refine st_drew ?_ | refine st_drewN ?_ _ | refine Below.setCell ?_ (by first | omega | (simp; done) | (simp; omega)) _ | refine Below.alloc ?_ (by first | omega | (simp; done) | (simp; omega)) _)) (by simp; omega) hg4 (fun k hk => (ownW_lt HO.out k hk).1)
        go_roundw
        case rel => exact ⟨i + 1, by omega, rfl, ⟨T ++ [(i : Int)], ad4, c4, by rw [List.length_append]; rfl, by rw [Hid, intsV_app, List.length_append]; exact hO4.out, HZ, by rw [List.length_append]; simp; omega⟩, b4⟩
        case measure => simp [intOf]; omega
      | false =>
        rw [hS] at hix
        have HZ : Hid (T = toldS S (i + 1)) := by rw [Hid, toldS_succ, hS, HT.out]; rfl
        clear hS
        go_wp2_with fail
        go_roundw
        case rel => exact ⟨i + 1, by omega, rfl, ⟨T, ad, c, rfl, HO, HZ, by omega⟩, hb⟩
        case measure => simp [intOf]; omega
    · have hlti : ¬ (i : Int) < 64 := by omega
      have hil : i = 64 := by omega
      subst hil
      have HZ : Hid (D = T) := by rw [Hid, HE.out, HT.out]; rfl
      go_wp2_with fail
      go_ret
      exact ⟨ad, c, by rw [HZ.out]; rfl, by rw [HZ.out]; exact HO.out, hb⟩

theorem why_end (fs : List Int) (ls : List Lw) (x : Int) : why fs ls x = if factB x && endS fs ls x.toNat then (if hasB fs x then -1 else firstB (setB (endS fs ls) x) ls) else -2 := by
  unfold why endS
  cases hok : okB fs ls with
  | false => simp
  | true =>
    cases hf : factB x with
    | false => simp
    | true =>
      unfold factB at hf
      simp only [Bool.and_eq_true, decide_eq_true_eq] at hf
      obtain ⟨k, rfl⟩ := Int.eq_ofNat_of_zero_le hf.1
      have hla : ls.all lawB = true := by unfold okB lawsB at hok; simp at hok; simpa using hok.2.2
      simp only [Bool.true_and, if_true, Bool.and_self, Int.toNat_natCast]
      exact why_held fs ls (by omega) hla

set_option maxRecDepth 20000 in
set_option maxHeartbeats 4000000 in
theorem iwhy_any (ao : Option Addr) (n cap : Nat) (bo : Option Addr) (m cap' : Nat) (fs : List Int) (ls : List Lw) (x : Int) (w : World) (h : IRw w (.slice ao n cap) fs) (h' : LRw w (.slice bo m cap') ls) (hn : fs.length ≤ 1048576) (hm : ls.length ≤ 1048576) (ht : ∀ x ∈ ls, x.ifs.length ≤ 1048576 ∧ x.nots.length ≤ 1048576) :
    Calls Try.prog 10 #[.slice ao n cap, .slice bo m cap', .int .i64 x] w fun e w' => e = .returned (.int .i64 (why fs ls x)) ∧ Below w.heap.size w w' := by
  have k1 := iheld_any ao n cap bo m cap' fs ls w h h' hn hm ht
  have k2 := fun W => ifact_any x W
  have k4 := fun W hW => icont_any ao n cap fs x W hW hn
  have HF := hidden (fun W (hW : Below w.heap.size w W) => h.below hW)
  have HL := hidden (fun W (hW : Below w.heap.size w W) => h'.below hW)
  have HE := hidden (why_end fs ls x)
  have HS : Hid (endS fs ls x.toNat = true → lawsB ls = true) := fun q => by
    unfold endS at q
    cases hok : okB fs ls with
    | false => rw [hok] at q; simp at q
    | true => unfold okB at hok; simp at hok; exact hok.2
  have HX : Hid (factB x = true → 0 ≤ x ∧ x < 64) := fun q => by unfold factB at q; simpa using q
  have k5 := fun A W hW hl hA => ifirstlaw_any bo m cap' ls x A (endS fs ls) W hW hl hA
  clear h h' ht hn hm
  generalize why fs ls x = D at *
  generalize firstB (setB (endS fs ls) x) ls = F at *
  generalize endS fs ls = S at *
  have k3 : ∀ A W, SetA A S → factB x = true → Calls Try.prog 22 #[.agg A, .int .i64 x] W fun e w' => e = .returned (.bool (!S x.toNat)) ∧ Below W.heap.size W w' := fun A W hA q => ilacks_any A S x W hA (HX.out q).1 (HX.out q).2
  generalize S x.toNat = b2 at *
  generalize hasB fs x = b3 at *
  generalize factB x = b1 at *
  cases b1 with
  | false =>
    clear k3 k4 k5 HS
    go_enter Try.func10, Try.ntmps10
    go_wp2_with (first | (go_at_call 19; refine k1.mono ?_; rintro e w1 ⟨A, rfl, hA, hb0⟩; have HA := hidden hA; have PZ := hidden (PB.new w1 zeroA 42); have z1 := hb0.size; have BZ := hidden (show Below w.heap.size w (w1.alloc (.cells zeroA 42)) from hb0.alloc z1 _); clear hA hb0) | (refine allocS rfl rfl (some 7) rfl w1.heap.size rfl ?_) | (refine storeS (g := w1.heap.size) (x := .tmp 7) (y := .tmp 10) (A := A) rfl rfl rfl rfl rfl HA.out PZ.out (by simp [zeroA]) ?_; intro w2 ho2 hp2; have P2 := hidden hp2; have b2' := ho2.below BZ.out z1; have z2 : w1.heap.size < w2.heap.size := (by rw [ho2.size]; simp); clear ho2 hp2) | (go_at_call 21; with_reducible refine (k2 _).mono ?_; rintro e w3 ⟨rfl, e3⟩; obtain rfl := e3))
    go_ret
    exact ⟨ret_intQ (by rw [HE.out]; simp), b2'⟩
  | true =>
  replace k3 := fun A W hA => k3 A W hA rfl
  cases b2 with
  | false =>
    clear k4 k5 HS
    go_enter Try.func10, Try.ntmps10
    go_wp2_with (first | (go_at_call 19; refine k1.mono ?_; rintro e w1 ⟨A, rfl, hA, hb0⟩; have HA := hidden hA; have PZ := hidden (PB.new w1 zeroA 42); have z1 := hb0.size; have BZ := hidden (show Below w.heap.size w (w1.alloc (.cells zeroA 42)) from hb0.alloc z1 _); clear hA hb0) | (refine allocS rfl rfl (some 7) rfl w1.heap.size rfl ?_) | (refine storeS (g := w1.heap.size) (x := .tmp 7) (y := .tmp 10) (A := A) rfl rfl rfl rfl rfl HA.out PZ.out (by simp [zeroA]) ?_; intro w2 ho2 hp2; have P2 := hidden hp2; have b2' := ho2.below BZ.out z1; have z2 : w1.heap.size < w2.heap.size := (by rw [ho2.size]; simp); clear ho2 hp2) | (go_at_call 21; with_reducible refine (k2 _).mono ?_; rintro e w3 ⟨rfl, e3⟩; obtain rfl := e3) | (refine loadS (x := .tmp 7) (g := w1.heap.size) (A := A) rfl rfl rfl HA.out (by first | exact P2.out | exact P4.out) ?_) | (go_at_call 22; with_reducible refine (k3 A _ HA.out).mono ?_; rintro e w4 ⟨rfl, hb4⟩; have P4 := hidden (P2.out.below hb4); have b4 := onto b2' hb4; clear hb4))
    go_ret
    exact ⟨ret_intQ (by rw [HE.out]; simp), b4⟩
  | true =>
  have HLW := hidden (HS.out rfl)
  clear HS
  cases b3 with
  | true =>
    clear k5
    go_enter Try.func10, Try.ntmps10
    go_wp2_with (first | (go_at_call 19; refine k1.mono ?_; rintro e w1 ⟨A, rfl, hA, hb0⟩; have HA := hidden hA; have PZ := hidden (PB.new w1 zeroA 42); have z1 := hb0.size; have BZ := hidden (show Below w.heap.size w (w1.alloc (.cells zeroA 42)) from hb0.alloc z1 _); clear hA hb0) | (refine allocS rfl rfl (some 7) rfl w1.heap.size rfl ?_) | (refine storeS (g := w1.heap.size) (x := .tmp 7) (y := .tmp 10) (A := A) rfl rfl rfl rfl rfl HA.out PZ.out (by simp [zeroA]) ?_; intro w2 ho2 hp2; have P2 := hidden hp2; have b2' := ho2.below BZ.out z1; have z2 : w1.heap.size < w2.heap.size := (by rw [ho2.size]; simp); clear ho2 hp2) | (go_at_call 21; with_reducible refine (k2 _).mono ?_; rintro e w3 ⟨rfl, e3⟩; obtain rfl := e3) | (refine loadS (x := .tmp 7) (g := w1.heap.size) (A := A) rfl rfl rfl HA.out (by first | exact P2.out | exact P4.out) ?_) | (go_at_call 22; with_reducible refine (k3 A _ HA.out).mono ?_; rintro e w4 ⟨rfl, hb4⟩; have P4 := hidden (P2.out.below hb4); have b4 := onto b2' hb4; clear hb4) | (go_at_call 23; with_reducible refine (k4 _ (HF.out _ b4)).mono ?_; rintro e w5 ⟨rfl, e5⟩; obtain rfl := e5))
    go_ret
    exact ⟨ret_intQ (by rw [HE.out]; simp), b4⟩
  | false =>
    go_enter Try.func10, Try.ntmps10
    go_wp2_with (first | (go_at_call 19; refine k1.mono ?_; rintro e w1 ⟨A, rfl, hA, hb0⟩; have HA := hidden hA; have PZ := hidden (PB.new w1 zeroA 42); have z1 := hb0.size; have BZ := hidden (show Below w.heap.size w (w1.alloc (.cells zeroA 42)) from hb0.alloc z1 _); clear hA hb0) | (refine allocS rfl rfl (some 7) rfl w1.heap.size rfl ?_) | (refine storeS (g := w1.heap.size) (x := .tmp 7) (y := .tmp 10) (A := A) rfl rfl rfl rfl rfl HA.out PZ.out (by simp [zeroA]) ?_; intro w2 ho2 hp2; have P2 := hidden hp2; have b2' := ho2.below BZ.out z1; have z2 : w1.heap.size < w2.heap.size := (by rw [ho2.size]; simp); clear ho2 hp2) | (go_at_call 21; with_reducible refine (k2 _).mono ?_; rintro e w3 ⟨rfl, e3⟩; obtain rfl := e3) | (refine loadS (x := .tmp 7) (g := w1.heap.size) (A := A) rfl rfl rfl HA.out (by first | exact P2.out | exact P4.out) ?_) | (go_at_call 22; with_reducible refine (k3 A _ HA.out).mono ?_; rintro e w4 ⟨rfl, hb4⟩; have P4 := hidden (P2.out.below hb4); have b4 := onto b2' hb4; clear hb4) | (go_at_call 23; with_reducible refine (k4 _ (HF.out _ b4)).mono ?_; rintro e w5 ⟨rfl, e5⟩; obtain rfl := e5) | (go_at_call 24; with_reducible refine (k5 A _ (HL.out _ b4) HLW.out HA.out).mono ?_; rintro e w6 ⟨rfl, hb6⟩; have b6 := onto b4 hb6; clear hb6))
    go_ret
    exact ⟨ret_intQ (by rw [HE.out]; simp), b6⟩
end Go.Proofs.Ytfhecdedanlmfaa
