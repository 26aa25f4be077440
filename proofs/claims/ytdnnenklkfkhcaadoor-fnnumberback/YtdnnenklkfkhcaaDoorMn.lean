/-
  MakeNumber, the program's and the specification's: each returns the number's text.
-/
import Derived.Test.YtdnnenklkfkhcaaDoorRows
import Derived.Test.YtdnnenklkfkhcaaDoorShelf
import Derived.Test.YtdnnenklkfkhcaaDoorNum
import Derived.Test.YtdnnenklkfkhcaaDoorCd
import Derived.WalkKit
import Derived.WalkSpells
import Derived.WalkLawsBesides
import Derived.BigQuiet
import Derived.Deep.QuietTactic
namespace Go.Proofs.YtdnnenklkfkhcaaDoor
open Go.RowKit Nb

/-- The text of n, or nothing. -/
def mkS (n : Int) : ByteArray := if 0 ≤ n ∧ n ≤ 999999999 then ⟨(mkL n.toNat).toArray⟩ else ⟨#[]⟩

theorem below_grow (w : World) (k : Nat) (os : Array Obj) : Below w.heap.size w (Sort.grow (w.drewN k) os) :=
  ⟨rfl, rfl, rfl, by simp [Sort.grow], fun j hj => by show (w.heap ++ os)[j]? = w.heap[j]?; rw [Array.getElem?_append_left hj]⟩
theorem onto {w W w2 : World} (hv : Below w.heap.size w W) (h : Below W.heap.size W w2) : Below w.heap.size w w2 := hv.trans (h.mono hv.size)
theorem below_drewN {w : World} (k : Nat) : Below w.heap.size w (w.drewN k) := ⟨rfl, rfl, rfl, Nat.le_refl _, fun _ _ => rfl⟩

set_option maxHeartbeats 1000000 in
theorem imk_in (n : Int) (w : World) (h0 : 0 ≤ n) (h1 : n ≤ 999999999) (htab : Lib.TabIs Tryd.prog w "internal/strconv.uint64pow10" .u64 Lib.pow10Tab) :
    Calls Tryd.prog 6 #[.int .i64 n] w fun e w' => e = .returned (.string ⟨(mkL n.toNat).toArray⟩) ∧ Below w.heap.size w w' := by
  obtain ⟨N, rfl⟩ := Int.eq_ofNat_of_zero_le h0
  have hit : Lib.itoa (N : Int) = Lib.decDigits N := by unfold Lib.itoa; rw [if_neg (by omega)]; rfl
  have hF := Tryd.strconv_FormatInt_10 (N : Int) (by omega) (by omega) w htab
  rw [hit] at hF
  have hp := rep_dec N (by omega)
  have hl := dec_len N (by omega)
  obtain ⟨c, hc⟩ : ∃ c : Nat, chk N = c := ⟨(chk N).toNat, by have := chk_range N (by omega); omega⟩
  have hc9 : c < 10 := by have := chk_range N (by omega); omega
  have HK : Hid ((⟨#[77, 82, 78]⟩ ++ ⟨(Lib.repeatL [48] (9 - (Lib.decDigits N).length)).toArray⟩ ++ ⟨(Lib.decDigits N).toArray⟩ ++ ⟨#[45]⟩ ++ ⟨(Lib.decDigits c).toArray⟩ : ByteArray) = ⟨(mkL N).toArray⟩) := by
    rw [Hid]
    unfold mkL
    rw [dec_small c hc9, hc, ← hp]
    apply ByteArray.ext
    simp
  clear hit hp
  generalize Lib.decDigits N = L at *
  obtain ⟨m, hm⟩ : ∃ m : Nat, 9 - L.length = m := ⟨_, rfl⟩
  have e : 9 - (L.length : Int) = (m : Int) := by omega
  have HE : Hid (9 - (L.length : Int) = (m : Int)) := e
  rw [hm] at HK
  have hm9 : m ≤ 9 := by omega
  have hR : ∀ w, Calls Tryd.prog 9 #[.string ⟨#[48]⟩, .int .i64 m] w fun e w' => e = .returned (.string ⟨(Lib.repeatL [48] m).toArray⟩) ∧ Below w.heap.size w w' := fun w =>
    Tryd.strings_Repeat ⟨#[48]⟩ m w (by omega) (by rw [show (⟨#[48]⟩ : ByteArray).size = 1 from rfl]; omega)
  clear hm e htab
  have hn1 : ¬ (N : Int) < 0 := by omega
  have hn2 : ¬ 999999999 < (N : Int) := by omega
  have hrl : (Lib.repeatL [48] m).length = m := by rw [Lib.repeatL_length]; simp
  have q1 : ¬ 9223372036854775807 < 3 + (Lib.repeatL [48] m).length := by omega
  have q2 : ¬ 9223372036854775807 < 3 + (Lib.repeatL [48] m).length + L.length := by omega
  have q3 : ¬ 9223372036854775807 < 3 + (Lib.repeatL [48] m).length + L.length + 1 := by omega
  have q4 : ¬ 9223372036854775807 < 3 + (Lib.repeatL [48] m).length + L.length + 1 + 1 := by omega
  have hC : ∀ w, Calls Tryd.prog 10 #[.int .i64 N] w fun e w' => e = .returned (.int .i64 c) ∧ ∃ k, w' = w.drewN k := fun w => by
    have := icheck_any N w
    rw [hc] at this
    exact this
  have hF2 : ∀ w, Calls Tryd.prog 8 #[.int .i64 c, .int .i64 10] w fun e w' => e = .returned (.string ⟨#[ch c]⟩) ∧ w' = w := fun w => by
    have := Tryd.strconv_FormatInt_10_small c (by omega) w
    rw [dec_small c hc9] at this
    exact this
  rw [dec_small c hc9] at HK
  clear hrl hc
  go_enter Tryd.func6, Tryd.ntmps6
  go_wp2_with fail
  refine hF.mono ?_
  rintro e w1 ⟨rfl, k1, os1, hw1⟩
  have b1 : Below w.heap.size w w1 := by rw [hw1]; exact below_grow w k1 os1
  clear hw1 hF
  go_wp2_with fail
  rw [HE.out]
  refine (hR _).mono ?_
  rintro e w2 ⟨rfl, hb2⟩
  have b2 := onto b1 hb2
  clear hb2 b1
  go_wp2_with fail
  refine (hC _).mono ?_
  rintro e w3 ⟨rfl, k3, hw3⟩
  have b3 : Below w.heap.size w w3 := by rw [hw3]; exact onto b2 (below_drewN k3)
  clear hw3 b2
  go_wp2_with fail
  refine (hF2 _).mono ?_
  rintro e w4 ⟨rfl, hw4⟩
  have hw5 := hw4.symm
  clear hw4
  subst hw5
  go_wp2
  go_ret
  exact ⟨congrArg (fun b => Ending.returned (Value.string b)) HK.out, b3⟩

set_option maxHeartbeats 400000 in
theorem imk_any (n : Int) (w : World) (htab : Lib.TabIs Tryd.prog w "internal/strconv.uint64pow10" .u64 Lib.pow10Tab) :
    Calls Tryd.prog 6 #[.int .i64 n] w fun e w' => e = .returned (.string (mkS n)) ∧ Below w.heap.size w w' := by
  by_cases h0 : n < 0
  · have HK : Hid (mkS n = ⟨#[]⟩) := by unfold mkS; rw [Hid, if_neg (by omega)]
    clear htab
    go_enter Tryd.func6, Tryd.ntmps6
    go_wp2
    go_ret
    exact ⟨congrArg (fun b => Ending.returned (Value.string b)) HK.out.symm, Below.refl _ _⟩
  by_cases h1 : 999999999 < n
  · have HK : Hid (mkS n = ⟨#[]⟩) := by unfold mkS; rw [Hid, if_neg (by omega)]
    clear htab
    go_enter Tryd.func6, Tryd.ntmps6
    go_wp2
    go_ret
    exact ⟨congrArg (fun b => Ending.returned (Value.string b)) HK.out.symm, Below.refl _ _⟩
  have e : mkS n = ⟨(mkL n.toNat).toArray⟩ := by unfold mkS; rw [if_pos (by omega)]
  rw [e]
  exact imk_in n w (by omega) (by omega) htab

end Go.Proofs.YtdnnenklkfkhcaaDoor
