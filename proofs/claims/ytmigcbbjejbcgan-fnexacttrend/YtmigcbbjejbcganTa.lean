/-
  Plain facts on looks in order; no Go in sight.
-/
import Derived.Test.YtmigcbbjejbcganVb
namespace Go.Proofs.Ytmigcbbjejbcgan.Va

instance : Inhabited Vt := ⟨⟨0, 0, 0, 0, 0, 0⟩⟩
def whole (v : Vt) : Bool := vOk v && decide (pnone v = 0)
/-- The points of the last two whole looks; -1 where there is none. -/
def ab (l : List Vt) : Int × Int := l.foldl (fun q v => if whole v then (q.2, psum v) else q) (-1, -1)
def trend (l : List Vt) : Int := if 4096 < l.length then 0 else if (ab l).1 < 0 then 0 else (ab l).2 - (ab l).1
theorem ab_snoc (l : List Vt) (x : Vt) : ab (l ++ [x]) = if whole x then ((ab l).2, psum x) else ab l := by simp [ab, List.foldl_append]
theorem ab_skip (l r : List Vt) (h : ∀ x ∈ r, whole x = false) : ab (l ++ r) = ab l := by
  induction r generalizing l with
  | nil => simp
  | cons x r ih =>
    have : l ++ x :: r = (l ++ [x]) ++ r := by simp
    rw [this, ih (l ++ [x]) (fun y hy => h y (by simp [hy])), ab_snoc, h x (by simp)]
    simp
theorem ab_bd (l : List Vt) : (-1 ≤ (ab l).1 ∧ (ab l).1 ≤ 18) ∧ (-1 ≤ (ab l).2 ∧ (ab l).2 ≤ 18) := by
  have : ∀ n, ∀ l : List Vt, l.length = n → (-1 ≤ (ab l).1 ∧ (ab l).1 ≤ 18) ∧ (-1 ≤ (ab l).2 ∧ (ab l).2 ≤ 18) := by
    intro n
    induction n with
    | zero => intro l hl; rw [List.length_eq_zero_iff.1 hl]; simp [ab]
    | succ n ih =>
      intro l hl
      obtain ⟨r, x, rfl⟩ : ∃ r x, l = r ++ [x] := ⟨l.dropLast, l.getLast (by intro q; rw [q] at hl; simp at hl), (List.dropLast_concat_getLast _).symm⟩
      have q := ih r (by simp at hl; omega)
      have b := psum_bd x
      rw [ab_snoc]
      split
      · simp only; omega
      · exact q
  exact this _ l rfl
/-- Where the last whole look stands. -/
def LW (l : List Vt) (r : Int) : Prop := (r = -1 ∧ ∀ x ∈ l, whole x = false) ∨ ∃ (k : Nat) (x : Vt), r = (k : Int) ∧ l[k]? = some x ∧ whole x = true ∧ ∀ y ∈ l.drop (k + 1), whole y = false
theorem ab_none {l : List Vt} (h : ∀ x ∈ l, whole x = false) : ab l = (-1, -1) := by
  have := ab_skip [] l h
  simpa [ab] using this
theorem ab_last {l : List Vt} {k : Nat} {x : Vt} (hx : l[k]? = some x) (hw : whole x = true) (h : ∀ y ∈ l.drop (k + 1), whole y = false) : ab l = ((ab (l.take k)).2, psum x) := by
  have e : l = l.take k ++ [x] ++ l.drop (k + 1) := by
    have : l.take (k + 1) = l.take k ++ [x] := by rw [List.take_add_one, hx]; rfl
    rw [← this, List.take_append_drop]
  have e2 : ab l = ab (l.take k ++ [x] ++ l.drop (k + 1)) := by rw [← e]
  rw [e2, ab_skip _ _ h, ab_snoc, hw]
  rfl
theorem trend_none {l : List Vt} (h : ∀ x ∈ l, whole x = false) : trend l = 0 := by
  unfold trend
  split
  · rfl
  · rw [ab_none h]; rfl
theorem trend_one {l : List Vt} {k : Nat} {x : Vt} (hx : l[k]? = some x) (hw : whole x = true) (h : ∀ y ∈ l.drop (k + 1), whole y = false) (h2 : ∀ y ∈ l.take k, whole y = false) : trend l = 0 := by
  unfold trend
  split
  · rfl
  · rw [ab_last hx hw h, ab_none h2]; rfl
theorem trend_two {l : List Vt} {k : Nat} {x : Vt} (hl : l.length ≤ 4096) (hx : l[k]? = some x) (hw : whole x = true) (h : ∀ y ∈ l.drop (k + 1), whole y = false) {j : Nat} {z : Vt} (hz : (l.take k)[j]? = some z) (hw2 : whole z = true) (h2 : ∀ y ∈ (l.take k).drop (j + 1), whole y = false) : trend l = psum x - psum z := by
  unfold trend
  rw [if_neg (by omega), ab_last hx hw h, ab_last hz hw2 h2]
  have := psum_bd z
  simp only
  rw [if_neg (by omega)]

/-- The last k places of a row, from behind, with their numbers. -/
def upto (S : List Vt) (k : Nat) : List (Nat × Vt) := (List.range k).map (fun i => (S.length - 1 - i, S.getD (S.length - 1 - i) default))
theorem upto_succ (S : List Vt) (k : Nat) : upto S (k + 1) = upto S k ++ [(S.length - 1 - k, S.getD (S.length - 1 - k) default)] := by
  unfold upto; rw [List.range_succ, List.map_append]; rfl
theorem upto_len (S : List Vt) (k : Nat) : (upto S k).length = k := by simp [upto]
def noneW (l : List (Nat × Vt)) : Prop := ∀ x ∈ l, whole x.2 = false
theorem getD_of {S : List Vt} {i : Nat} {x : Vt} (h : S[i]? = some x) : S.getD i default = x := by rw [List.getD_eq_getElem?_getD, h]; rfl
theorem drop_none {S : List Vt} {k : Nat} (hk : k ≤ S.length) (h : noneW (upto S k)) : ∀ x ∈ S.drop (S.length - k), whole x = false := by
  intro x hx
  obtain ⟨i, hi⟩ := List.getElem?_of_mem hx
  rw [List.getElem?_drop] at hi
  have hl := (List.getElem?_eq_some_iff.1 hi).1
  refine h (S.length - k + i, x) (List.mem_map.2 ⟨k - 1 - i, List.mem_range.2 (by omega), ?_⟩)
  have e : S.length - 1 - (k - 1 - i) = S.length - k + i := by omega
  rw [e, getD_of hi]
theorem lw_none {S : List Vt} (h : noneW (upto S S.length)) : LW S (-1) := by
  have h1 := drop_none (Nat.le_refl _) h
  rw [Nat.sub_self, List.drop_zero] at h1
  exact Or.inl ⟨rfl, h1⟩
theorem lw_hit {S : List Vt} {k : Nat} (hk : k < S.length) (h : noneW (upto S k)) (ha : whole (S.getD (S.length - 1 - k) default) = true) : LW S ((S.length - 1 - k : Nat) : Int) := by
  have h1 := drop_none (Nat.le_of_lt hk) h
  have hx : S[S.length - 1 - k]? = some (S.getD (S.length - 1 - k) default) := by rw [List.getD_eq_getElem?_getD, List.getElem?_eq_getElem (by omega)]; rfl
  exact Or.inr ⟨S.length - 1 - k, _, rfl, hx, ha, by rw [show S.length - 1 - k + 1 = S.length - k by omega]; exact h1⟩
end Go.Proofs.Ytmigcbbjejbcgan.Va
namespace Go.Proofs.Ytmigcbbjejbcgan
open Go.RowKit Va
def csV (x : Vt) (k : Nat) : Int := match k with | 0 => x.b | 1 => x.o | 2 => x.p | 3 => x.u | 4 => x.a | _ => x.h
theorem vit_cells {w : World} {ao : Option Addr} {n cap : Nat} {l : List Vt} {k : Nat} {s : Vt} (h : Rw 6 csV w (.slice ao n cap) l) (hk : l[k]? = some s) :
    ∃ g off, ao = some ⟨g, off, none⟩ ∧ g < w.heap.size ∧ w.cell? ⟨g, off + k * 6, none⟩ = some (.int .i64 s.b) ∧ w.cell? ⟨g, off + k * 6 + 1, none⟩ = some (.int .i64 s.o) ∧
      w.cell? ⟨g, off + k * 6 + 2, none⟩ = some (.int .i64 s.p) ∧ w.cell? ⟨g, off + k * 6 + 3, none⟩ = some (.int .i64 s.u) ∧
      w.cell? ⟨g, off + k * 6 + 4, none⟩ = some (.int .i64 s.a) ∧ w.cell? ⟨g, off + k * 6 + 5, none⟩ = some (.int .i64 s.h) := by
  obtain ⟨g, off, h1, h2, h3⟩ := h.at hk
  exact ⟨g, off, h1, h2, h3 0 (by omega), h3 1 (by omega), h3 2 (by omega), h3 3 (by omega), h3 4 (by omega), h3 5 (by omega)⟩
end Go.Proofs.Ytmigcbbjejbcgan
