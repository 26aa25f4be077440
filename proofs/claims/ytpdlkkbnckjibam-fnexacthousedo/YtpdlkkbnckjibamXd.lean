/-
  A house that came in, read.
-/
import Derived.Test.YtpdlkkbnckjibamXc
import Derived.ShutString
namespace Go.Proofs.Ytpdlkkbnckjibam
open Go.RowKit Hm

def mkB (f : Nat → Int) : Bd := ⟨f 0, f 1⟩
def mkS (f : Nat → Int) : St := ⟨f 0, f 1, f 2, f 3, f 4, f 5⟩
theorem mkB_at (f : Nat → Int) (k : Nat) (hk : k < 2) : csB (mkB f) k = f k := by
  match k, hk with
  | 0, _ => rfl
  | 1, _ => rfl
theorem mkS_at (f : Nat → Int) (k : Nat) (hk : k < 6) : csS (mkS f) k = f k := by
  match k, hk with
  | 0, _ => rfl
  | 1, _ => rfl
  | 2, _ => rfl
  | 3, _ => rfl
  | 4, _ => rfl
  | 5, _ => rfl
theorem rows_of_trod {α : Type} {s : Nat} {cs : α → Nat → Int} {H : Type} {enc : TypeId × Value → H} {P : Program} {W : World} {sp : Nat → Bool} {hd : Bool} {t e : TypeId} {fs : Array Field} {v : Value} {n : Nat} {y : DataW H × List MemPlace}
    (mk : (Nat → Int) → α) (hmk : ∀ f k, k < s → cs (mk f) k = f k) (hs0 : 0 < s)
    (ht : P.underlying t = some (.slice e)) (he : P.underlying e = some (.struct fs)) (ce : P.cellsOf e = s)
    (hfs : ∀ k, k < s → ∃ f, fs[k]? = some f ∧ f.offset = k ∧ P.cellsOf f.type = 1 ∧ P.underlying f.type = some (.int .i64)) (h : DataW.trod enc P W 0 sp hd n t [v] = some y) :
    ∃ ao len cap, ∃ l : List α, v = .slice ao len cap ∧ l.length = len ∧ len ≤ maxLen ∧ Rw s cs W v l := by
  have hv : ∃ ao len cap, v = .slice ao len cap := by
    rcases Deep.open_slice ht h with ⟨h1, _⟩ | ⟨a, ln, c, _, _, _, _, h1, _⟩
    · exact ⟨none, 0, 0, by simpa using h1⟩
    · exact ⟨some a, ln, c, by simpa using h1⟩
  obtain ⟨ao, len, cap, rfl⟩ := hv
  obtain ⟨l, h1, h2, h3⟩ := rows_of_read (d := y.1) (p := y.2) mk hmk hs0 ht he ce hfs ⟨n, by simpa [Value.cells] using h⟩
  exact ⟨ao, len, cap, l, rfl, h1, h2, h3⟩

set_option maxRecDepth 100000 in
theorem fsBed : ∃ fs, Try.prog.underlying 82 = some (.struct fs) ∧ ∀ k, k < 2 → ∃ f, fs[k]? = some f ∧ f.offset = k ∧ Try.prog.cellsOf f.type = 1 ∧ Try.prog.underlying f.type = some (.int .i64) := by
  refine ⟨_, Try.underlying82, fun k hk => ?_⟩
  match k, hk with
  | 0, _ => exact ⟨_, rfl, rfl, by kernel_rfl, Try.underlying2⟩
  | 1, _ => exact ⟨_, rfl, rfl, by kernel_rfl, Try.underlying2⟩
set_option maxRecDepth 100000 in
theorem fsStay : ∃ fs, Try.prog.underlying 84 = some (.struct fs) ∧ ∀ k, k < 6 → ∃ f, fs[k]? = some f ∧ f.offset = k ∧ Try.prog.cellsOf f.type = 1 ∧ Try.prog.underlying f.type = some (.int .i64) := by
  refine ⟨_, Try.underlying84, fun k hk => ?_⟩
  match k, hk with
  | 0, _ => exact ⟨_, rfl, rfl, by kernel_rfl, Try.underlying2⟩
  | 1, _ => exact ⟨_, rfl, rfl, by kernel_rfl, Try.underlying2⟩
  | 2, _ => exact ⟨_, rfl, rfl, by kernel_rfl, Try.underlying2⟩
  | 3, _ => exact ⟨_, rfl, rfl, by kernel_rfl, Try.underlying2⟩
  | 4, _ => exact ⟨_, rfl, rfl, by kernel_rfl, Try.underlying2⟩
  | 5, _ => exact ⟨_, rfl, rfl, by kernel_rfl, Try.underlying2⟩

set_option maxRecDepth 100000 in
theorem house_of_read {H : Type} {enc : TypeId × Value → H} {W : World} {sp : Nat → Bool} {hd : Bool} {r : Reach} {b0 : Nat} {v : Value} {d : DataW H} {p : List MemPlace}
    (hv : Value.okWide Try.prog W r b0 25 v) (h : DataW.Trod enc Try.prog W 0 sp hd 25 v d p) :
    ∃ ao n cap ao2 m cap2, ∃ (B : List Bd) (S : List St), v = .agg #[.slice ao n cap, .slice ao2 m cap2] ∧ n ≤ maxLen ∧ m ≤ maxLen ∧ HRw W (.slice ao n cap) (.slice ao2 m cap2) B S := by
  obtain ⟨v0, v1, y0, y1, n, rfl, _, _, h0, h1⟩ := Joins.open_agg2 Try.underlying25 (by kernel_rfl) (by kernel_rfl) hv h
  obtain ⟨fb, hb1, hb2⟩ := fsBed
  obtain ⟨fs, hs1, hs2⟩ := fsStay
  obtain ⟨ao, n', cap, B, rfl, _, q1, q2⟩ := rows_of_trod (cs := csB) mkB mkB_at (by omega) Try.underlying22 hb1 (by kernel_rfl) hb2 h0
  obtain ⟨ao2, m, cap2, S, rfl, _, q3, q4⟩ := rows_of_trod (cs := csS) mkS mkS_at (by omega) Try.underlying23 hs1 (by kernel_rfl) hs2 h1
  exact ⟨ao, n', cap, ao2, m, cap2, B, S, rfl, q1, q3, q2, q4⟩
end Go.Proofs.Ytpdlkkbnckjibam
