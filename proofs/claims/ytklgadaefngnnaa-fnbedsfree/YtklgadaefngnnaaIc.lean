/-
  What a move answers, and the boxes of a call.
-/
import Derived.Test.YtklgadaefngnnaaIb
import Derived.Test.YtklgadaefngnnaaHw
namespace Go.Proofs.Ytklgadaefngnnaa
open Go.RowKit Hm
set_option linter.unusedVariables false

/-- What a code and a house tell: with code 0 a house of its own. -/
def Ans (base : Nat) (B : List Bd) (S : List St) (c : Int) (vb vs : Value) (w : World) : Prop :=
  (c = 0 → (∃ a1 c1 a2 c2, vb = .slice a1 B.length c1 ∧ vs = .slice a2 S.length c2) ∧ HNew w base vb vs B S) ∧ (c ≠ 0 → vb = .slice none 0 0 ∧ vs = .slice none 0 0)
theorem Ans.ty {w : World} {base : Nat} {vb vs : Value} {B : List Bd} {S : List St} {c : Int} (h : Ans base B S c vb vs w) {p : Addr} (hp : IsT w p.block 27) (u : Value) : Ans base B S c vb vs (w.setCell p u) := ⟨fun q => ⟨(h.1 q).1, (h.1 q).2.ty hp (by decide) (by decide) u⟩, h.2⟩
theorem HNew.base_le {w : World} {base b2 : Nat} {vb vs : Value} {B : List Bd} {S : List St} (h : HNew w base vb vs B S) (hb : b2 ≤ base) : HNew w b2 vb vs B S := ⟨own_base h.1 hb, own_base h.2 hb⟩
theorem Ans.base_le {w : World} {base b2 : Nat} {vb vs : Value} {B : List Bd} {S : List St} {c : Int} (h : Ans base B S c vb vs w) (hb : b2 ≤ base) : Ans b2 B S c vb vs w := ⟨fun q => ⟨(h.1 q).1, (h.1 q).2.base_le hb⟩, h.2⟩
theorem Ans.below {w w' : World} {base : Nat} {vb vs : Value} {B : List Bd} {S : List St} {c : Int} (h : Ans base B S c vb vs w) (hb : Below w.heap.size w w') : Ans base B S c vb vs w' := ⟨fun q => ⟨(h.1 q).1, (h.1 q).2.below hb⟩, h.2⟩
theorem Ans.no {w : World} {base : Nat} {B : List Bd} {S : List St} {c : Int} (h : c ≠ 0) : Ans base B S c (.slice none 0 0) (.slice none 0 0) w := ⟨fun q => absurd q h, fun _ => ⟨rfl, rfl⟩⟩
theorem Ans.yes {w : World} {base : Nat} {a1 a2 : Option Addr} {n c1 m c2 : Nat} {B : List Bd} {S : List St} (h : HNew w base (.slice a1 n c1) (.slice a2 m c2) B S) : Ans base B S 0 (.slice a1 n c1) (.slice a2 m c2) w := ⟨fun _ => ⟨h.form, h⟩, fun q => absurd rfl q⟩

/-- The stays with one put in another's place. -/
theorem cells_set {S : List St} {k : Nat} {x : St} (hx : S[k]? = some x) (t : Int) : cellsL 6 csS (ended S k t) = (cellsL 6 csS S).set (k * 6 + 5) (.int .i64 t) := by
  have hk := get_lt hx
  refine List.ext_getElem? fun q => ?_
  by_cases hq : q < S.length * 6
  · obtain ⟨y, hy⟩ := some_at S (q / 6) (by omega)
    have e : q / 6 * 6 + q % 6 = q := by omega
    have h1 := cellsL_get (s := 6) (cs := csS) S (q / 6) y hy (q % 6) (by omega)
    rw [e] at h1
    have hy2 : ∃ y2, (ended S k t)[q / 6]? = some y2 ∧ csS y2 (q % 6) = if q = k * 6 + 5 then t else csS y (q % 6) := by
      rw [ended_get hx]
      by_cases h2 : q / 6 = k
      · rw [if_pos h2]
        refine ⟨_, rfl, ?_⟩
        rw [h2, hx] at hy
        cases hy
        have : q % 6 = 0 ∨ q % 6 = 1 ∨ q % 6 = 2 ∨ q % 6 = 3 ∨ q % 6 = 4 ∨ q % 6 = 5 := by omega
        rcases this with h3 | h3 | h3 | h3 | h3 | h3 <;> rw [h3] <;> first | (rw [if_neg (by omega)]; rfl) | (rw [if_pos (by omega)]; rfl)
      · rw [if_neg h2, if_neg (by omega)]
        exact ⟨y, hy, rfl⟩
    obtain ⟨y2, hy2, hv⟩ := hy2
    have h4 := cellsL_get (s := 6) (cs := csS) (ended S k t) (q / 6) y2 hy2 (q % 6) (by omega)
    rw [e, hv] at h4
    rw [h4, List.getElem?_set]
    by_cases h5 : q = k * 6 + 5
    · rw [if_pos h5, if_pos h5.symm, if_pos (by rw [cellsL_len]; omega)]
    · rw [if_neg h5, if_neg (fun e => h5 e.symm), h1]
  · rw [List.getElem?_eq_none (by rw [cellsL_len, ended_len]; omega), List.getElem?_eq_none (by rw [List.length_set, cellsL_len]; omega)]
theorem HNew.stay {w : World} {base : Nat} {vb vs : Value} {B : List Bd} {S : List St} (h : HNew w base vb vs B S) {k : Nat} {x : St} (hx : S[k]? = some x) :
    ∃ g c, vs = .slice (some ⟨g, 0, none⟩) S.length c ∧ base ≤ g ∧ g < w.heap.size ∧ (∃ u, w.cell? ⟨g, k * 6 + 5, none⟩ = some (.int .i64 u)) ∧ w.frozen? ⟨g, k * 6 + 5, none⟩ = false ∧ ∀ t : Int, HNew (w.setCell ⟨g, k * 6 + 5, none⟩ (.int .i64 t)) base vb vs B (ended S k t) := by
  have hk := get_lt hx
  have hty := fun (g : Nat) (hg : IsT w g 36) (t : Int) => own_ty h.1 (p := ⟨g, k * 6 + 5, none⟩) hg (by decide) (.int .i64 t)
  obtain ⟨q, ⟨q1, q2⟩ | ⟨g1, c, cur, rfl, hg1, hh, hc, hc2, hs, ht⟩⟩ := h.2
  · omega
  have hcell : w.cell? ⟨g1, k * 6 + 5, none⟩ = some (.int .i64 x.til) := by
    have h1 : (cellsL 6 csS S)[k * 6 + 5]? = some (.int .i64 x.til) := cellsL_get (s := 6) (cs := csS) S k x hx 5 (by omega)
    rw [← ht, List.getElem?_take, if_pos (by omega)] at h1
    simp only [World.cell?, hh]
    simpa using h1
  refine ⟨g1, c, rfl, hg1, (Array.getElem?_eq_some_iff.1 hh).1, ⟨x.til, hcell⟩, by simp [World.frozen?, hh], fun t => ⟨hty g1 ⟨cur, hh⟩ t, ?_⟩⟩
  have hblk : (w.setCell ⟨g1, k * 6 + 5, none⟩ (.int .i64 t)).heap[g1]? = some (.cells (cur.setIfInBounds (k * 6 + 5) (.int .i64 t)) 36) := by
    simp only [World.setCell, Array.getElem?_modify]
    rw [if_pos trivial, hh]
    rfl
  rw [ended_len, cells_set hx]
  refine ⟨by rw [List.length_set]; exact q, Or.inr ⟨g1, c, _, rfl, hg1, hblk, hc, hc2, by simp [hs], ?_⟩⟩
  rw [Array.toList_setIfInBounds, List.take_set, ht]

theorem far {b g : Nat} (h : b ≠ g) : (∀ (W : World) (o o2 : Nat) (u : Value), (W.setCell ⟨g, o, none⟩ u).cell? ⟨b, o2, none⟩ = W.cell? ⟨b, o2, none⟩) ∧ (∀ (W : World) (o o2 : Nat) (u : Value), (W.setCell ⟨g, o, none⟩ u).frozen? ⟨b, o2, none⟩ = W.frozen? ⟨b, o2, none⟩) :=
  ⟨fun W o o2 u => World.cell?_of_block (Below.heap_setCell _ _ _ _ h), fun W o o2 u => World.frozen?_of_block (Below.heap_setCell _ _ _ _ h)⟩
/-- withStay, by what it places. -/
theorem withstay2 (ao ao2 : Option Addr) (n cap m cap2 base kb : Nat) (B : List Bd) (S0 S : List St) (p sx nd fr tl : Int) (w : World) (h : HNew w base (.slice ao n cap) (.slice ao2 m cap2) B S) (hbase : base ≤ w.heap.size) (hn : B.length ≤ 200) (hm : S.length ≤ 1000) (hf : fits B.length S) (hkb : kb < B.length) (hs1 : 1 ≤ sx) (hs2 : sx ≤ 2) :
    Calls Try.prog 78 #[.agg #[.slice ao n cap, .slice ao2 m cap2], .agg #[.int .i64 p, .int .i64 sx, .int .i64 nd, .int .i64 kb, .int .i64 fr, .int .i64 tl]] w fun e w' => ∃ b1 b2 b3 s1 s2 s3, e = .returned (.tuple #[.agg #[.slice b1 b2 b3, .slice s1 s2 s3], .int .i64 (placed B S0 S ⟨p, sx, nd, kb, fr, tl⟩).2]) ∧ Ans base B (placed B S0 S ⟨p, sx, nd, kb, fr, tl⟩).1 (placed B S0 S ⟨p, sx, nd, kb, fr, tl⟩).2 (.slice b1 b2 b3) (.slice s1 s2 s3) w' ∧ Below base w w' := by
  refine (withstay_any ao ao2 n cap m cap2 base kb B S p sx nd fr tl w h hbase hn hm hf hkb hs1 hs2).mono ?_
  rintro e w' ⟨hb, ⟨h1, h2, a2, c2, rfl, h3⟩ | ⟨h1, h2, rfl⟩ | ⟨h1, rfl⟩⟩
  · unfold placed
    rw [if_pos h1, if_neg h2]
    exact ⟨_, _, _, _, _, _, rfl, Ans.yes h3, hb⟩
  · unfold placed
    rw [if_pos h1, if_pos h2]
    exact ⟨_, _, _, _, _, _, rfl, Ans.no (show (7 : Int) ≠ 0 by decide), hb⟩
  · unfold placed
    rw [if_neg (by rw [h1]; decide)]
    exact ⟨_, _, _, _, _, _, rfl, Ans.no (show (6 : Int) ≠ 0 by decide), hb⟩

/-- The boxes of a call that is handed a house and a move. -/
structure Bx (w W : World) (vb vs : Value) (kd pr sx nd bd tm : Int) : Prop where
  h0 : W.cell? ⟨w.heap.size, 0, none⟩ = some vb
  h1 : W.cell? ⟨w.heap.size, 1, none⟩ = some vs
  m0 : W.cell? ⟨w.heap.size + 1, 0, none⟩ = some (.int .i64 kd)
  m1 : W.cell? ⟨w.heap.size + 1, 1, none⟩ = some (.int .i64 pr)
  m2 : W.cell? ⟨w.heap.size + 1, 2, none⟩ = some (.int .i64 sx)
  m3 : W.cell? ⟨w.heap.size + 1, 3, none⟩ = some (.int .i64 nd)
  m4 : W.cell? ⟨w.heap.size + 1, 4, none⟩ = some (.int .i64 bd)
  m5 : W.cell? ⟨w.heap.size + 1, 5, none⟩ = some (.int .i64 tm)
  r0 : W.cell? ⟨w.heap.size + 1 + 1, 0, none⟩ = some (.slice none 0 0)
  r1 : W.cell? ⟨w.heap.size + 1 + 1, 1, none⟩ = some (.slice none 0 0)
  f0 : W.frozen? ⟨w.heap.size + 1 + 1, 0, none⟩ = false
  f1 : W.frozen? ⟨w.heap.size + 1 + 1, 1, none⟩ = false
  ty : IsT W (w.heap.size + 1 + 1) 27
theorem Bx.below {w W W' : World} {vb vs : Value} {kd pr sx nd bd tm : Int} {b : Nat} (h : Bx w W vb vs kd pr sx nd bd tm) (hb : Below b W W') (hs : w.heap.size + 1 + 1 < b) : Bx w W' vb vs kd pr sx nd bd tm where
  h0 := (hb.cell (p := ⟨w.heap.size, 0, none⟩) (by show w.heap.size < b; omega)).trans h.h0
  h1 := (hb.cell (p := ⟨w.heap.size, 1, none⟩) (by show w.heap.size < b; omega)).trans h.h1
  m0 := (hb.cell (p := ⟨w.heap.size + 1, 0, none⟩) (by show w.heap.size + 1 < b; omega)).trans h.m0
  m1 := (hb.cell (p := ⟨w.heap.size + 1, 1, none⟩) (by show w.heap.size + 1 < b; omega)).trans h.m1
  m2 := (hb.cell (p := ⟨w.heap.size + 1, 2, none⟩) (by show w.heap.size + 1 < b; omega)).trans h.m2
  m3 := (hb.cell (p := ⟨w.heap.size + 1, 3, none⟩) (by show w.heap.size + 1 < b; omega)).trans h.m3
  m4 := (hb.cell (p := ⟨w.heap.size + 1, 4, none⟩) (by show w.heap.size + 1 < b; omega)).trans h.m4
  m5 := (hb.cell (p := ⟨w.heap.size + 1, 5, none⟩) (by show w.heap.size + 1 < b; omega)).trans h.m5
  r0 := (hb.cell (p := ⟨w.heap.size + 1 + 1, 0, none⟩) hs).trans h.r0
  r1 := (hb.cell (p := ⟨w.heap.size + 1 + 1, 1, none⟩) hs).trans h.r1
  f0 := (hb.frozen (p := ⟨w.heap.size + 1 + 1, 0, none⟩) hs).trans h.f0
  f1 := (hb.frozen (p := ⟨w.heap.size + 1 + 1, 1, none⟩) hs).trans h.f1
  ty := h.ty.below hb hs
theorem Bx.start (w : World) (vb vs : Value) (kd pr sx nd bd tm : Int) : Bx w (((w.alloc (.cells #[vb, vs] 27)).alloc (.cells #[.int .i64 kd, .int .i64 pr, .int .i64 sx, .int .i64 nd, .int .i64 bd, .int .i64 tm] 29)).alloc (.cells #[.slice none 0 0, .slice none 0 0] 27)) vb vs kd pr sx nd bd tm := by
  constructor
  all_goals first
    | exact ⟨_, blk_new _ _ _ (by simp)⟩
    | (simp [go_sem]; done)
end Go.Proofs.Ytklgadaefngnnaa
