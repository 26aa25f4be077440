/-
  What was used had passed, and is traced from both ends: the walk of the law; whether a number is in a row.
-/
import Derived.Test.YtklgadaefngnnaaZd
import Derived.Test.YtklgadaefngnnaaWt
import Derived.Test.YtklgadaefngnnaaWy
import Derived.Test.YtklgadaefngnnaaWp
import Derived.Deep.RegionHeld3
namespace Go.Proofs.Ytklgadaefngnnaa
open Go.RowKit Va Wa Go.Maps
set_option linter.all false

theorem ownI_at {w : World} {b e n c i : Nat} {ad : Option Addr} {zs : List Int} {z : Int} (h : w.ownsRow b e 1 (.slice ad n c) n (zs.map fun z => Value.int .i64 z)) (hz : zs[i]? = some z) : ∃ G, ad = some ⟨G, 0, none⟩ ∧ G < w.heap.size ∧ zs.length = n ∧ ∀ j y, zs[j]? = some y → w.cell? ⟨G, j, none⟩ = some (.int .i64 y) := by
  obtain ⟨hl, ⟨q1, q2⟩ | ⟨g, cap, cur, q1, hg, hh, h5, h6, h7, h8⟩⟩ := h
  · have := lt_of_get hz
    simp at hl; omega
  · simp only [Value.slice.injEq] at q1
    refine ⟨g, q1.1, (Array.getElem?_eq_some_iff.1 hh).1, by simpa using hl, fun j y hy => ?_⟩
    have hj := lt_of_get hy
    have e1 : (cur.toList.take (n * 1))[j]? = (zs.map fun z => Value.int .i64 z)[j]? := by rw [h8]
    rw [List.getElem?_take, if_pos (by simp at hl; omega), Array.getElem?_toList, List.getElem?_map, hy] at e1
    simp only [World.cell?, hh]
    exact e1

set_option maxRecDepth 20000 in
set_option maxHeartbeats 2000000 in
theorem hasZ_any (ad : Option Addr) (c b e : Nat) (zs : List Int) (x : Int) (w : World) (h : w.ownsRow b e 1 (.slice ad zs.length c) zs.length (zs.map fun z => Value.int .i64 z)) (hn : zs.length ≤ 1048576) (hx : x ∈ zs) :
    Calls Try.prog 18 #[.slice ad zs.length c, .int .i64 x] w fun e w' => e = .returned (.bool true) ∧ w' = w := by
  obtain ⟨n, hnl, hnx⟩ := List.getElem_of_mem hx
  have hget : zs[n]? = some x := by rw [List.getElem?_eq_getElem hnl, hnx]
  obtain ⟨G, rfl, hG, -, hcl⟩ := ownI_at h hget
  clear hnx hx h
  go_enter Try.func18, Try.ntmps18
  go_wp2_with fail
  go_loopw [5] (fun iv wr => wr = w ∧ ∃ i : Nat, i ≤ n ∧ iv = .int .i64 i) (fun iv _ => zs.length - (intOf iv).toNat)
  case atStart => exact ⟨rfl, 0, Nat.zero_le _, rfl⟩
  case round =>
    obtain ⟨rfl, i, hi, rfl⟩ := hrel
    have hlti : (i : Int) < (zs.length : Int) := by omega
    obtain ⟨y, hy⟩ := some_of zs i (by omega)
    have hc1 := hcl i y hy
    by_cases hgx : y = x
    · rw [hgx] at hc1
      clear hgx hget hcl hy
      go_wp2_with fail
      go_ret
      exact ⟨rfl, rfl⟩
    · have hgx2 : (y == x) = false := by simpa using hgx
      have hin : i < n := by
        rcases Nat.lt_or_ge i n with q | q
        · exact q
        · exfalso
          rw [show i = n by omega, hget] at hy
          exact hgx (Option.some.inj hy).symm
      clear hget hcl hy
      go_wp2_with fail
      go_roundw
      case rel => first | exact ⟨rfl, i + 1, by omega, rfl⟩ | exact ⟨trivial, i + 1, by omega, rfl⟩
      case measure => simp [intOf]; omega

/-- Among the first k steps one passed the cycle b. -/
def passB (l : List Stp) (b : Int) (k : Nat) : Prop := ∃ j y, j < k ∧ l[j]? = some y ∧ y.kind = 3 ∧ y.cyc = b ∧ (codesF rm0 l)[j]? = some 0
theorem passB_succ {l : List Stp} {b : Int} {k : Nat} {y : Stp} {z : Int} (hy : l[k]? = some y) (hz : (codesF rm0 l)[k]? = some z) : passB l b (k + 1) ↔ passB l b k ∨ (y.kind = 3 ∧ y.cyc = b ∧ z = 0) := by
  constructor
  · rintro ⟨j, x, h1, h2, h3, h4, h5⟩
    rcases Nat.lt_succ_iff_lt_or_eq.1 h1 with q | q
    · exact Or.inl ⟨j, x, q, h2, h3, h4, h5⟩
    · subst q
      rw [hy] at h2; rw [hz] at h5
      cases h2; cases h5
      exact Or.inr ⟨h3, h4, rfl⟩
  · rintro (⟨j, x, h1, h2, h3, h4, h5⟩ | ⟨h3, h4, h5⟩)
    · exact ⟨j, x, by omega, h2, h3, h4, h5⟩
    · subst h5
      exact ⟨k, y, by omega, hy, h3, h4, hz⟩

end Go.Proofs.Ytklgadaefngnnaa
