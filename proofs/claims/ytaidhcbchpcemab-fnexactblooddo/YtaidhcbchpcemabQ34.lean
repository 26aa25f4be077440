/-
  Marks of units: what they are, and whether they are held.
-/
import Derived.Test.YtaidhcbchpcemabQ25
import Derived.Test.YtaidhcbchpcemabQ33
namespace Go.Proofs.Ytaidhcbchpcemab
open Go.RowKit Va Bl
set_option linter.all false

def num (k : Int) (n : Nat) : List Int := (List.range n).map (fun i : Nat => k + (i : Int))
theorem num_len (k : Int) (n : Nat) : (num k n).length = n := by simp [num]
theorem num_get (k : Int) (n i : Nat) (h : i < n) : (num k n)[i]? = some (k + (i : Int)) := by
  rw [num, List.getElem?_map, List.getElem?_range h]; rfl
def mkU (k : Int) (x : Ut) : Ut := ⟨k, k + 1, num (k + 1 + 1) x.ant.length, k + 1 + 1 + x.ant.length, k + 1 + 1 + x.ant.length + 1, k + 1 + 1 + x.ant.length + 1 + 1⟩
def tot : List Ut → Int
  | [] => 0
  | x :: l => 5 + x.ant.length + tot l
def marked : Int → List Ut → List Ut
  | _, [] => []
  | k, x :: l => mkU k x :: marked (k + (5 + x.ant.length)) l
theorem marked_len : ∀ (l : List Ut) (k : Int), (marked k l).length = l.length := by
  intro l
  induction l with
  | nil => intro k; rfl
  | cons x l ih => intro k; simp [marked, ih]
theorem tot_app (l : List Ut) (x : Ut) : tot (l ++ [x]) = tot l + (5 + x.ant.length) := by
  induction l with
  | nil => simp [tot]
  | cons y l ih => simp only [List.cons_append, tot, ih]; omega
theorem tot_take {l : List Ut} {i : Nat} {x : Ut} (h : l[i]? = some x) : tot (l.take (i + 1)) = tot (l.take i) + (5 + x.ant.length) := by
  rw [take_snocU h, tot_app]
theorem marked_get : ∀ (l : List Ut) (k : Int) (i : Nat) (x : Ut), l[i]? = some x → (marked k l)[i]? = some (mkU (k + tot (l.take i)) x) := by
  intro l
  induction l with
  | nil => intro k i x h; cases h
  | cons y l ih =>
    intro k i x h
    cases i with
    | zero =>
      obtain rfl : y = x := by simpa using h
      simp [marked, tot]
    | succ i =>
      have := ih (k + (5 + y.ant.length)) i x (by simpa using h)
      simp only [marked, List.getElem?_cons_succ, List.take_succ_cons, tot, this]
      congr 2
      omega
theorem tot_bd {l : List Ut} (h : ∀ x ∈ l, x.ant.length ≤ 1048576) : ∀ i, 0 ≤ tot (l.take i) ∧ tot (l.take i) ≤ i * 1048581 := by
  intro i
  induction i with
  | zero => simp [tot]
  | succ i ih =>
    by_cases hi : i < l.length
    · obtain ⟨x, hx⟩ := some_of l i hi
      have := h x (List.mem_of_getElem? hx)
      rw [tot_take hx]
      omega
    · rw [List.take_of_length_le (by omega)] at *
      omega

set_option maxRecDepth 20000 in
set_option maxHeartbeats 2000000 in
theorem heldints_any (ao : Option Addr) (n cap : Nat) (k0 : Int) (w : World) (h : IRw w (.slice ao n cap) (num k0 n)) (hn : n ≤ 1048576) (hk0 : 0 ≤ k0) (hk1 : k0 ≤ 1000000000000000) :
    Calls Try.prog 24 #[.slice ao n cap, .int .i64 k0] w fun e w' => e = .returned (.int .i64 (k0 + n)) ∧ w' = w := by
  have HH := hidden h
  clear h
  go_enter Try.func24, Try.ntmps24
  go_wp2_with fail
  go_loopw [1, 5] (fun kv iv wr => ∃ i : Nat, i ≤ n ∧ kv = .int .i64 (k0 + (i : Int)) ∧ iv = .int .i64 i ∧ wr = w) (fun _ iv _ => n - (intOf iv).toNat)
  case atStart => exact ⟨0, Nat.zero_le _, by simp, rfl, rfl⟩
  case round =>
    obtain ⟨i, hi, rfl, rfl, rfl⟩ := hrel
    by_cases hlt : i < n
    · have hlti : (i : Int) < (n : Int) := by omega
      have hx := num_get k0 n i hlt
      obtain ⟨g, off, rfl, hg, hcs⟩ := HH.out.at hx
      have c0 := hcs i _ hx
      clear hcs hx
      go_wp2_with fail
      go_roundw
      case rel => exact ⟨i + 1, by omega, by congr 1; omega, rfl, by simp⟩
      case measure => simp [intOf]; omega
    · have hlti : ¬ (i : Int) < (n : Int) := by omega
      have hin : i = n := by omega
      subst hin
      go_wp2_with fail
      go_ret
      exact ⟨rfl, rfl⟩

set_option maxRecDepth 20000 in
set_option maxHeartbeats 4000000 in
theorem heldunits_any (ao : Option Addr) (cap : Nat) (l : List Ut) (k0 : Int) (w : World) (h : URw w (.slice ao l.length cap) (marked k0 l)) (hn : l.length ≤ 1048576) (ht : ∀ x ∈ l, x.ant.length ≤ 1048576) (hk0 : 0 ≤ k0) (hk1 : k0 ≤ 1000) :
    Calls Try.prog 28 #[.slice ao l.length cap, .int .i64 k0] w fun e w' => e = .returned (.int .i64 (k0 + tot l)) ∧ w' = w := by
  have HH := hidden h
  have HT := hidden ht
  clear h ht
  go_enter Try.func28, Try.ntmps28
  go_wp2_with fail
  go_loopw [1, 5] (fun kv iv wr => ∃ i : Nat, i ≤ l.length ∧ kv = .int .i64 (k0 + tot (l.take i)) ∧ iv = .int .i64 i ∧ wr = w) (fun _ iv _ => l.length - (intOf iv).toNat)
  case atStart => exact ⟨0, Nat.zero_le _, by simp [tot], rfl, rfl⟩
  case round =>
    obtain ⟨i, hi, rfl, rfl, rfl⟩ := hrel
    have hbd := tot_bd HT.out i
    by_cases hlt : i < l.length
    · have hlti : (i : Int) < (l.length : Int) := by omega
      obtain ⟨x, hx⟩ := some_of l i hlt
      have hxl := HT.out x (List.mem_of_getElem? hx)
      have hT := hidden (tot_take hx)
      obtain ⟨g, off, ta, tc, rfl, hg, hrow, c0, c1, c2, c3, c4, c5⟩ := HH.out.at (marked_get l k0 i x hx)
      generalize tot (l.take i) = kt at *
      simp only [mkU, num_len] at hrow c0 c1 c2 c3 c4 c5
      have hK := heldints_any ta x.ant.length tc (k0 + kt + 1 + 1) wr hrow hxl (by omega) (by omega)
      have hnn : ¬ k0 + kt + 1 + 1 + (x.ant.length : Int) < 0 := by omega
      clear hrow hx
      go_wp2_with (go_at_call 24; refine hK.mono ?_; rintro e w1 ⟨rfl, rfl⟩)
      go_roundw
      case rel => exact ⟨i + 1, by omega, by rw [hT.out]; congr 1; omega, rfl, by simp⟩
      case measure => simp [intOf]; omega
    · have hlti : ¬ (i : Int) < (l.length : Int) := by omega
      have hin : i = l.length := by omega
      subst hin
      have HF : Hid (tot (l.take l.length) = tot l) := by rw [Hid, List.take_length]
      go_wp2_with fail
      go_ret
      exact ⟨by rw [← HF.out]; rfl, rfl⟩

end Go.Proofs.Ytaidhcbchpcemab
