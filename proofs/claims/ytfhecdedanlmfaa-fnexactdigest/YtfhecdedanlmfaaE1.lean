/-
  Digests: bytes that lie at a slice, the program's Digest and the specification's.
-/
import Derived.Test.YtfhecdedanlmfaaRw
import Derived.Test.YtfhecdedanlmfaaVb
import Derived.Lib.MinMax
import Derived.Deep.RegionWith
namespace Go.Proofs.Ytfhecdedanlmfaa
open Go.RowKit Va
set_option linter.all false

theorem some_ofB {α : Type} (l : List α) (i : Nat) (h : i < l.length) : ∃ x, l[i]? = some x := ⟨_, List.getElem?_eq_getElem h⟩
theorem ret_intB {a b : Int} (h : a = b) : Ending.returned (.int .i64 a) = .returned (.int .i64 b) := by rw [h]
/-- The bytes l lie at the slice v. -/
def BRw (w : World) (v : Value) (l : List Int) : Prop :=
  ∃ ao cap, v = .slice ao l.length cap ∧ l.length ≤ cap ∧ (∀ x ∈ l, 0 ≤ x ∧ x ≤ 255) ∧ (l.length = 0 ∨ ∃ b off, ao = some ⟨b, off, none⟩ ∧ b < w.heap.size ∧ ∀ i x, l[i]? = some x → w.cell? ⟨b, off + i, none⟩ = some (.int .u8 x))
theorem BRw.below {w w' : World} {v : Value} {l : List Int} (h : BRw w v l) (hb : Below w.heap.size w w') : BRw w' v l := by
  obtain ⟨ao, cap, rfl, hlc, hr, h2⟩ := h
  refine ⟨ao, cap, rfl, hlc, hr, ?_⟩
  rcases h2 with h2 | ⟨b, off, h3, h4, h5⟩
  · exact Or.inl h2
  · exact Or.inr ⟨b, off, h3, Nat.lt_of_lt_of_le h4 hb.size, fun i x hx => (hb.cell (p := ⟨b, off + i, none⟩) h4).trans (h5 i x hx)⟩
theorem BRw.at {w : World} {ao : Option Addr} {cap : Nat} {n : Nat} {l : List Int} (h : BRw w (.slice ao n cap) l) {i : Nat} {x : Int} (hx : l[i]? = some x) :
    ∃ b off, ao = some ⟨b, off, none⟩ ∧ b < w.heap.size ∧ ∀ i x, l[i]? = some x → w.cell? ⟨b, off + i, none⟩ = some (.int .u8 x) := by
  obtain ⟨ao', cap', he, _, _, h2⟩ := h
  obtain ⟨rfl, rfl, rfl⟩ : ao = ao' ∧ n = l.length ∧ cap = cap' := by simpa using he
  have := get_lt' hx
  rcases h2 with h2 | ⟨b, off, h3, h4, h5⟩
  · omega
  · exact ⟨b, off, h3, h4, h5⟩
theorem BRw.rng {w : World} {v : Value} {l : List Int} (h : BRw w v l) {i : Nat} {x : Int} (hx : l[i]? = some x) : 0 ≤ x ∧ x ≤ 255 := by
  obtain ⟨ao', cap', he, _, hr, h2⟩ := h
  exact hr x (List.mem_of_getElem? hx)
theorem BRw.len {w : World} {ao : Option Addr} {n cap : Nat} {l : List Int} (h : BRw w (.slice ao n cap) l) : n = l.length := by
  obtain ⟨ao', cap', he, _, _⟩ := h; simp at he; omega
theorem BRw.cap {w : World} {ao : Option Addr} {n cap : Nat} {l : List Int} (h : BRw w (.slice ao n cap) l) : l.length ≤ cap := by
  obtain ⟨ao', cap', he, hc, _⟩ := h; simp at he; omega
theorem BRw.form {w : World} {v : Value} {l : List Int} (h : BRw w v l) : ∃ ao cap, v = .slice ao l.length cap := by
  obtain ⟨ao, cap, rfl, _, _⟩ := h; exact ⟨ao, cap, rfl⟩
theorem BRw.take {w : World} {ao : Option Addr} {n cap : Nat} {l : List Int} (h : BRw w (.slice ao n cap) l) (k : Nat) (hk : k ≤ l.length) : BRw w (.slice ao k cap) (l.take k) := by
  obtain ⟨ao', cap', he, hc, hr, h2⟩ := h
  obtain ⟨rfl, rfl, rfl⟩ : ao = ao' ∧ n = l.length ∧ cap = cap' := by simpa using he
  have hl : (l.take k).length = k := by rw [List.length_take]; omega
  refine ⟨ao, cap, by rw [hl], by rw [hl]; omega, fun x hx => hr x (List.mem_of_mem_take hx), ?_⟩
  rw [hl]
  rcases h2 with h2 | ⟨b, off, h3, h4, h5⟩
  · exact Or.inl (by omega)
  · exact Or.inr ⟨b, off, h3, h4, fun i x hx => h5 i x (by rw [List.getElem?_take] at hx; split at hx; exact hx; cases hx)⟩

/-- One byte more. -/
def dgS (h b : Int) : Int := (h * 257 + b + 1) % 1000000007
def dg (l : List Int) : Int := l.foldl dgS 0
def digest (l : List Int) : Int := dg (l.take 100000)
theorem dg_snoc {l : List Int} {i : Nat} {x : Int} (h : l[i]? = some x) : dg (l.take (i + 1)) = dgS (dg (l.take i)) x := by
  unfold dg
  rw [List.take_add_one, h, List.foldl_append]
  rfl
theorem dg_rng : ∀ (l : List Int) (h : Int), 0 ≤ h ∧ h < 1000000007 → 0 ≤ l.foldl dgS h ∧ l.foldl dgS h < 1000000007
  | [], h, hh => hh
  | b :: l, h, _ => dg_rng l _ ⟨Int.emod_nonneg _ (by omega), Int.emod_lt_of_pos _ (by omega)⟩
theorem dg_in (l : List Int) : 0 ≤ dg l ∧ dg l < 1000000007 := dg_rng l 0 (by omega)

set_option maxRecDepth 20000 in
set_option maxHeartbeats 2000000 in
theorem sdigest_any (ao : Option Addr) (n cap : Nat) (l : List Int) (w : World) (h : BRw w (.slice ao n cap) l) (hn : l.length ≤ 1048576000) :
    Calls Try.prog 12 #[.slice ao n cap] w fun e w' => e = .returned (.int .i64 (digest l)) ∧ w' = w := by
  obtain rfl := h.len
  have HH := hidden h
  clear h
  go_enter Try.func12, Try.ntmps12
  go_wp2_with fail
  go_loopw [3, 4] (fun hv iv wr => ∃ (i : Nat) (D : Int), i ≤ l.length ∧ i ≤ 100000 ∧ iv = .int .i64 i ∧ hv = .int .i64 D ∧ 0 ≤ D ∧ D < 1000000007 ∧ Hid (D = dg (l.take i)) ∧ wr = w) (fun _ iv _ => l.length - (intOf iv).toNat)
  case atStart => exact ⟨0, 0, Nat.zero_le _, by omega, rfl, rfl, by omega, by omega, rfl, rfl⟩
  case round =>
    obtain ⟨i, D, hi, hi2, rfl, rfl, hD0, hD1, HD, e1⟩ := hrel
    obtain rfl := e1
    by_cases hlt : i < l.length
    · have hlti : (i : Int) < (l.length : Int) := by omega
      by_cases hl2 : i < 100000
      · have hlt2 : (i : Int) < 100000 := by omega
        obtain ⟨y, hy⟩ := some_ofB l i hlt
        obtain ⟨g, off, rfl, hg, hc⟩ := HH.out.at hy
        obtain ⟨hy0, hy1⟩ := HH.out.rng hy
        have c0 := hc i y hy
        have HN : Hid (dg (l.take (i + 1)) = dgS D y) := by show dg _ = _; rw [dg_snoc hy, HD.out]
        clear hy hc HD
        go_wp2_with fail
        go_roundw
        case rel => exact ⟨i + 1, _, by omega, by omega, rfl, rfl, by omega, by omega, by show _ = dg _; rw [HN.out]; unfold dgS; omega, (by first | rfl | trivial)⟩
        case measure => simp [intOf]; omega
      · have hlt2 : ¬ (i : Int) < 100000 := by omega
        have HE : Hid (digest l = D) := by show digest l = D; unfold digest; rw [HD.out, show i = 100000 by omega]
        clear HD
        go_wp2_with fail
        go_ret
        exact ⟨ret_intB HE.out.symm, rfl⟩
    · have hlti : ¬ (i : Int) < (l.length : Int) := by omega
      have HE : Hid (digest l = D) := by show digest l = D; unfold digest; rw [HD.out, List.take_of_length_le (by omega), List.take_of_length_le (by omega)]
      clear HD
      go_wp2_with fail
      go_ret
      exact ⟨ret_intB HE.out.symm, rfl⟩

set_option maxRecDepth 20000 in
set_option maxHeartbeats 2000000 in
theorem icount_some (a : Addr) (n cap : Nat) (w : World) (hc : n ≤ cap) (hn : n ≤ 1048576000) :
    Calls Try.prog 25 #[.slice (some a) n cap] w fun e w' => e = .returned (.slice (some a) (min n 100000) cap) ∧ w' = w := by
  by_cases h : n ≤ 100000
  · rw [Nat.min_eq_left h]
    have hm : min (n : Int) 100000 = (n : Int) := by omega
    go_enter Try.func25, Try.ntmps25
    go_wp2_with fail
    go_ret
    exact ⟨rfl, rfl⟩
  · rw [Nat.min_eq_right (by omega)]
    have hm : min (n : Int) 100000 = 100000 := by omega
    go_enter Try.func25, Try.ntmps25
    go_wp2_with fail
    go_ret
    exact ⟨rfl, rfl⟩

theorem icount_none (w : World) :
    Calls Try.prog 25 #[.slice none 0 0] w fun e w' => e = .returned (.slice none 0 0) ∧ w' = w := by
  go_enter Try.func25, Try.ntmps25
  go_wp2_with fail
  go_ret
  exact ⟨rfl, rfl⟩
end Go.Proofs.Ytfhecdedanlmfaa
