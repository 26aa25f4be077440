/-
  The doses of a day, cut by three indices.
-/
import Derived.Test.YtcnhogghfedcdaaMb
namespace Go.Proofs.Ytcnhogghfedcdaa
open Go.RowKit Va Ga
set_option linter.unusedVariables false

theorem cut_len (l : List Gv) {lo hi : Int} (h : lo ≤ hi + 1) : (cut l lo hi).length = aheadN l (hi + 1) - aheadN l lo := by
  unfold cut
  rw [List.length_take, List.length_drop]
  have := aheadN_le l (hi + 1)
  omega
theorem cut_get (l : List Gv) {lo hi : Int} {i : Nat} {x : Gv} (h : (cut l lo hi)[i]? = some x) : l[aheadN l lo + i]? = some x := by
  unfold cut at h
  rw [List.getElem?_take] at h
  split at h
  · rw [List.getElem?_drop] at h; exact h
  · cases h
/-- The cut lies where the doses lie. -/
theorem cut_row {w : World} {b off n cap : Nat} {l : List Gv} (h : Rw 3 csGv w (.slice (some ⟨b, off, none⟩) n cap) l) {lo hi : Int} (hle : lo ≤ hi + 1) :
    Rw 3 csGv w (.slice (some ⟨b, off + aheadN l lo * 3, none⟩) (cut l lo hi).length (cut l lo hi).length) (cut l lo hi) := by
  refine ⟨_, _, rfl, Nat.le_refl _, ?_⟩
  rcases Nat.eq_zero_or_pos (cut l lo hi).length with q | q
  · exact Or.inl q
  · obtain ⟨x, hx⟩ := some_of (cut l lo hi) 0 q
    obtain ⟨b', off', e, hb, _⟩ := h.at (cut_get l hx)
    obtain ⟨rfl, rfl⟩ : b = b' ∧ off = off' := by simpa using e
    refine Or.inr ⟨b, _, rfl, hb, fun i y hy k hk => ?_⟩
    obtain ⟨b2, off2, e2, _, hc⟩ := h.at (cut_get l hy)
    obtain ⟨rfl, rfl⟩ : b = b2 ∧ off = off2 := by simpa using e2
    have := hc k hk
    rw [show off + aheadN l lo * 3 + i * 3 + k = off + (aheadN l lo + i) * 3 + k by omega]
    exact this

set_option maxRecDepth 20000 in
set_option maxHeartbeats 2000000 in
theorem iwithin_any (b off n cap : Nat) (l : List Gv) (lo hi : Int) (w : World) (h : Rw 3 csGv w (.slice (some ⟨b, off, none⟩) n cap) l) (hn : l.length ≤ 1048576) (hle : lo ≤ hi + 1) (h0 : -1000000000 ≤ hi) (h1 : hi ≤ 1000000000) :
    Calls Try.prog 63 #[.slice (some ⟨b, off, none⟩) n cap, .int .i64 lo, .int .i64 hi] w fun e w' => (∃ off', e = .returned (.slice (some ⟨b, off', none⟩) (cut l lo hi).length (cut l lo hi).length) ∧ Rw 3 csGv w (.slice (some ⟨b, off', none⟩) (cut l lo hi).length (cut l lo hi).length) (cut l lo hi)) ∧ w' = w := by
  obtain rfl := h.len
  have hcap := h.cap
  have k1 := icount_any (some ⟨b, off, none⟩) l.length cap l lo w h hn
  have k2 := icount_any (some ⟨b, off, none⟩) l.length cap l (hi + 1) w h hn
  have a0 := aheadN_mono l hle
  have a1 := aheadN_le l (hi + 1)
  have HL := hidden (cut_len l hle)
  have HW := hidden (cut_row h hle)
  clear h
  generalize aheadN l lo = p at *
  generalize aheadN l (hi + 1) = q at *
  go_enter Try.func63, Try.ntmps63
  go_wp2_with (with_reducible (first | refine k1.mono ?_ | refine k2.mono ?_); rintro e w1 ⟨rfl, rfl⟩)
  · have h0' : (cut l lo hi).length = 0 := by rw [HL.out]; omega
    go_ret
    refine ⟨⟨off, by rw [h0']; rfl, ⟨_, _, rfl, Nat.le_refl _, Or.inl h0'⟩⟩, rfl⟩
  · go_ret
    exact ⟨⟨off + p * 3, by rw [HL.out]; rfl, HW.out⟩, rfl⟩
end Go.Proofs.Ytcnhogghfedcdaa
