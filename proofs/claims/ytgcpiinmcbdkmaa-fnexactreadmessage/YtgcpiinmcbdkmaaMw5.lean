/-
  Merged: T1 T0 M11.
-/
import Derived.Test.YtgcpiinmcbdkmaaMw1
import Derived.Test.YtgcpiinmcbdkmaaMw4
import Derived.Deep.RegionWith
import Derived.WideShapes
import Derived.ProofKit
import Derived.OpenShut
import Derived.ShutString
import Derived.ChangeOld
import Derived.Below
import Derived.Laws.Strings
namespace Go.Proofs.Ytgcpiinmcbdkmaa.Lb
open Va
set_option linter.all false
def vlB (x : Int) : Bool := rng x (-100000) 100000
def NeedsOk (needs : List Int) : Prop := needs.length ≤ 100 ∧ ∀ x ∈ needs, 0 ≤ x ∧ x ≤ 100000
def AsksOk (asks needs : List Int) : Prop := asks.length ≤ 20 ∧ ∀ i a, asks[i]? = some a → (0 ≤ a ∧ a < (needs.length : Int)) ∧ a ∉ asks.take i
noncomputable instance (needs : List Int) : Decidable (NeedsOk needs) := Classical.propDecidable _
noncomputable instance (asks needs : List Int) : Decidable (AsksOk asks needs) := Classical.propDecidable _
/- Results -/
structure Rs where
  v : Int
  t : Int
  k : Bool
def resB (r : Rs) : Bool := vlB r.v && ((r.k || decide (r.v = 0)) && tmv r.t)
def ResOk (l : List Rs) : Prop := l.length ≤ 2000 ∧ ∀ i r, l[i]? = some r → resB r = true ∧ ∀ p, 0 < i → l[i - 1]? = some p → p.t ≤ r.t
noncomputable instance (l : List Rs) : Decidable (ResOk l) := Classical.propDecidable _
end Go.Proofs.Ytgcpiinmcbdkmaa.Lb

namespace Go.Proofs.Ytgcpiinmcbdkmaa
open Go.RowKit Va Lb
set_option linter.all false
theorem info_parts {P : Program} {t : TypeId} {z : Value} {n b : Nat} (h : (P.info? t).map (fun i => (i.zero, i.size, i.bytes)) = some (some z, n, b)) : ∃ i, P.info? t = some i ∧ i.zero = some z ∧ i.size = n ∧ i.bytes = b := by
  obtain ⟨i, h1, h2⟩ := Option.map_eq_some_iff.1 h
  simp only [Prod.mk.injEq] at h2
  exact ⟨i, h1, h2.1, h2.2.1, h2.2.2⟩
theorem some_of {α : Type} (l : List α) (i : Nat) (h : i < l.length) : ∃ x, l[i]? = some x := ⟨_, List.getElem?_eq_getElem h⟩
theorem ret_boolT {a b : Bool} (h : a = b) : Ending.returned (.bool a) = .returned (.bool b) := by rw [h]
end Go.Proofs.Ytgcpiinmcbdkmaa

namespace Go.Proofs.Ytgcpiinmcbdkmaa
open Go.RowKit Va Ms
set_option linter.all false
theorem idx_at (s : ByteArray) (i : Nat) (z : Int) (hz : z = i) (h : i < s.size) (w : World) : (Instr.index 9 (.string s) (.int .i64 z)).run Try.prog w = .ok (.int .u8 (nb s i)) w := by
  subst hz
  rw [run_index_string w 9 s .i64 (i : Int) Try.underlying9, dif_pos ⟨by omega, by omega⟩]
  have : s.get! i = s[i] := by
    show s.data[i]! = s.data[i]
    rw [getElem!_pos]
  simp [nb, this]
set_option maxHeartbeats 400000 in
theorem sgreat_any (n : Nat) (w : World) : Calls Try.prog 105 #[.int .u8 (n : Int)] w fun e w' => e = .returned (.bool (grB n)) ∧ w = w' := by
  unfold grB
  by_cases h1 : 65 ≤ n
  · have h1i : ((65 : Int) ≤ (n : Int)) := by omega
    by_cases h2 : n ≤ 90
    · have h2i : ((n : Int) ≤ (90 : Int)) := by omega
      rw [decide_eq_true h1, decide_eq_true h2]
      clear h1 h2
      go_enter Try.func105, Try.ntmps105
      go_wp2
      all_goals (go_ret; exact ⟨by first | rfl | exact ret_boolT (by first | (simp; done) | (simp; omega) | (simp_all; done) | (simp_all; omega) | (rw [Bool.eq_iff_iff]; simp; omega) | (rw [Bool.eq_iff_iff]; simp_all; omega)), rfl⟩)
    · have h2i : ¬ ((n : Int) ≤ (90 : Int)) := by omega
      rw [decide_eq_true h1, decide_eq_false h2]
      clear h1 h2
      go_enter Try.func105, Try.ntmps105
      go_wp2
      all_goals (go_ret; exact ⟨by first | rfl | exact ret_boolT (by first | (simp; done) | (simp; omega) | (simp_all; done) | (simp_all; omega) | (rw [Bool.eq_iff_iff]; simp; omega) | (rw [Bool.eq_iff_iff]; simp_all; omega)), rfl⟩)
  · have h1i : ¬ ((65 : Int) ≤ (n : Int)) := by omega
    rw [decide_eq_false h1, Bool.false_and]
    clear h1
    go_enter Try.func105, Try.ntmps105
    go_wp2
    all_goals (go_ret; exact ⟨by first | rfl | exact ret_boolT (by first | (simp; done) | (simp; omega) | (simp_all; done) | (simp_all; omega) | (rw [Bool.eq_iff_iff]; simp; omega) | (rw [Bool.eq_iff_iff]; simp_all; omega)), rfl⟩)
set_option maxHeartbeats 400000 in
theorem igreat_any (n : Nat) (w : World) : Calls Try.prog 172 #[.int .u8 (n : Int)] w fun e w' => e = .returned (.bool (grB n)) ∧ w = w' := by
  unfold grB
  by_cases h1 : 65 ≤ n
  · have h1i : ((65 : Int) ≤ (n : Int)) := by omega
    by_cases h2 : n ≤ 90
    · have h2i : ((n : Int) ≤ (90 : Int)) := by omega
      rw [decide_eq_true h1, decide_eq_true h2]
      clear h1 h2
      go_enter Try.func172, Try.ntmps172
      go_wp2
      all_goals (go_ret; exact ⟨by first | rfl | exact ret_boolT (by first | (simp; done) | (simp; omega) | (simp_all; done) | (simp_all; omega) | (rw [Bool.eq_iff_iff]; simp; omega) | (rw [Bool.eq_iff_iff]; simp_all; omega)), rfl⟩)
    · have h2i : ¬ ((n : Int) ≤ (90 : Int)) := by omega
      rw [decide_eq_true h1, decide_eq_false h2]
      clear h1 h2
      go_enter Try.func172, Try.ntmps172
      go_wp2
      all_goals (go_ret; exact ⟨by first | rfl | exact ret_boolT (by first | (simp; done) | (simp; omega) | (simp_all; done) | (simp_all; omega) | (rw [Bool.eq_iff_iff]; simp; omega) | (rw [Bool.eq_iff_iff]; simp_all; omega)), rfl⟩)
  · have h1i : ¬ ((65 : Int) ≤ (n : Int)) := by omega
    rw [decide_eq_false h1, Bool.false_and]
    clear h1
    go_enter Try.func172, Try.ntmps172
    go_wp2
    all_goals (go_ret; exact ⟨by first | rfl | exact ret_boolT (by first | (simp; done) | (simp; omega) | (simp_all; done) | (simp_all; omega) | (rw [Bool.eq_iff_iff]; simp; omega) | (rw [Bool.eq_iff_iff]; simp_all; omega)), rfl⟩)
set_option maxHeartbeats 400000 in
theorem idigit_any (n : Nat) (w : World) : Calls Try.prog 173 #[.int .u8 (n : Int)] w fun e w' => e = .returned (.bool (dgB n)) ∧ w = w' := by
  unfold dgB
  by_cases h1 : 48 ≤ n
  · have h1i : ((48 : Int) ≤ (n : Int)) := by omega
    by_cases h2 : n ≤ 57
    · have h2i : ((n : Int) ≤ (57 : Int)) := by omega
      rw [decide_eq_true h1, decide_eq_true h2]
      clear h1 h2
      go_enter Try.func173, Try.ntmps173
      go_wp2
      all_goals (go_ret; exact ⟨by first | rfl | exact ret_boolT (by first | (simp; done) | (simp; omega) | (simp_all; done) | (simp_all; omega) | (rw [Bool.eq_iff_iff]; simp; omega) | (rw [Bool.eq_iff_iff]; simp_all; omega)), rfl⟩)
    · have h2i : ¬ ((n : Int) ≤ (57 : Int)) := by omega
      rw [decide_eq_true h1, decide_eq_false h2]
      clear h1 h2
      go_enter Try.func173, Try.ntmps173
      go_wp2
      all_goals (go_ret; exact ⟨by first | rfl | exact ret_boolT (by first | (simp; done) | (simp; omega) | (simp_all; done) | (simp_all; omega) | (rw [Bool.eq_iff_iff]; simp; omega) | (rw [Bool.eq_iff_iff]; simp_all; omega)), rfl⟩)
  · have h1i : ¬ ((48 : Int) ≤ (n : Int)) := by omega
    rw [decide_eq_false h1, Bool.false_and]
    clear h1
    go_enter Try.func173, Try.ntmps173
    go_wp2
    all_goals (go_ret; exact ⟨by first | rfl | exact ret_boolT (by first | (simp; done) | (simp; omega) | (simp_all; done) | (simp_all; omega) | (rw [Bool.eq_iff_iff]; simp; omega) | (rw [Bool.eq_iff_iff]; simp_all; omega)), rfl⟩)
end Go.Proofs.Ytgcpiinmcbdkmaa
