/-
  Limits, pumps and acts that came in, read.
-/
import Derived.Test.YtamghmnibfbgaaaBs
import Derived.WideShapes
import Derived.ProofKit
import Derived.OpenShut
import Derived.ShutString
import Derived.ChangeOld
import Derived.Below
import Derived.Lib.SmallJoins
namespace Go.Proofs.Ytamghmnibfbgaaa
open Go.RowKit Go.WideShapes Go.ChangeShapes Go.Joins Va Ba
set_option linter.unusedVariables false

set_option maxRecDepth 100000 in
theorem fsLm : ∃ fs, Try.prog.underlying 45 = some (.struct fs) ∧ ∀ k, k < 4 → ∃ f, fs[k]? = some f ∧ f.offset = k ∧ Try.prog.cellsOf f.type = 1 ∧ Try.prog.underlying f.type = some (.int .i64) := by
  refine ⟨_, Try.underlying45, fun k hk => ?_⟩
  match k, hk with
  | 0, _ => exact ⟨_, rfl, rfl, by kernel_rfl, Try.underlying2⟩
  | 1, _ => exact ⟨_, rfl, rfl, by kernel_rfl, Try.underlying2⟩
  | 2, _ => exact ⟨_, rfl, rfl, by kernel_rfl, Try.underlying2⟩
  | 3, _ => exact ⟨_, rfl, rfl, by kernel_rfl, Try.underlying2⟩

set_option maxRecDepth 100000 in
theorem fsAc : ∃ fs, Try.prog.underlying 53 = some (.struct fs) ∧ ∀ k, k < 2 → ∃ f, fs[k]? = some f ∧ f.offset = k ∧ Try.prog.cellsOf f.type = 1 ∧ Try.prog.underlying f.type = some (.int .i64) := by
  refine ⟨_, Try.underlying53, fun k hk => ?_⟩
  match k, hk with
  | 0, _ => exact ⟨_, rfl, rfl, by kernel_rfl, Try.underlying2⟩
  | 1, _ => exact ⟨_, rfl, rfl, by kernel_rfl, Try.underlying2⟩

set_option maxRecDepth 100000 in
theorem fsPm : ∃ fs, Try.prog.underlying 47 = some (.struct fs) ∧ (∃ f, fs[0]? = some f ∧ f.offset = 0 ∧ Try.prog.cellsOf f.type = 4 ∧ f.type = 45) ∧ (∃ f, fs[4]? = some f ∧ f.offset = 7 ∧ Try.prog.cellsOf f.type = 1 ∧ Try.prog.underlying f.type = some .bool) ∧
    ∀ k, k < 7 → k ≠ 0 → k ≠ 4 → ∃ f, fs[k]? = some f ∧ f.offset = k + 3 ∧ Try.prog.cellsOf f.type = 1 ∧ Try.prog.underlying f.type = some (.int .i64) := by
  refine ⟨_, Try.underlying47, ⟨_, rfl, rfl, by kernel_rfl, rfl⟩, ⟨_, rfl, rfl, by kernel_rfl, Try.underlying4⟩, fun k hk h0 h4 => ?_⟩
  match k, hk, h0, h4 with
  | 1, _, _, _ => exact ⟨_, rfl, rfl, by kernel_rfl, Try.underlying2⟩
  | 2, _, _, _ => exact ⟨_, rfl, rfl, by kernel_rfl, Try.underlying2⟩
  | 3, _, _, _ => exact ⟨_, rfl, rfl, by kernel_rfl, Try.underlying2⟩
  | 5, _, _, _ => exact ⟨_, rfl, rfl, by kernel_rfl, Try.underlying2⟩
  | 6, _, _, _ => exact ⟨_, rfl, rfl, by kernel_rfl, Try.underlying2⟩

/-- A field that is a number, read. -/
theorem field_int {H : Type} {enc : TypeId × Value → H} {W : World} {sp : Nat → Bool} {hd : Bool} {n : Nat} {fs : Array Field} {cs : List Value} {xs : List (DataW H × List MemPlace)} (hxl : xs.length = fs.size)
    (hg : ∀ (i : Nat) (f : Field), fs[i]? = some f → DataW.trod enc Try.prog W 0 sp hd n f.type ((cs.drop f.offset).take (Try.prog.cellsOf f.type)) = xs[i]?) {k o : Nat} (h : ∃ f, fs[k]? = some f ∧ f.offset = o ∧ Try.prog.cellsOf f.type = 1 ∧ Try.prog.underlying f.type = some (.int .i64)) :
    ∃ z : Int, (cs.drop o).take 1 = [.int .i64 z] := by
  obtain ⟨f, hf1, hf2, hf3, hf4⟩ := h
  have h2 := hg k f hf1
  rw [hf2, hf3] at h2
  have hxk : k < xs.length := by rw [hxl]; exact (Array.getElem?_eq_some_iff.1 hf1).1
  rw [List.getElem?_eq_getElem hxk] at h2
  obtain ⟨z, hz, _⟩ := DataW.trod_int hf4 h2
  exact ⟨z, hz⟩

set_option maxRecDepth 100000 in
theorem lim_cells {H : Type} {enc : TypeId × Value → H} {W : World} {sp : Nat → Bool} {hd : Bool} {fuel : Nat} {cs : List Value} {x : DataW H × List MemPlace} (h : DataW.trod enc Try.prog W 0 sp hd fuel 45 cs = some x) :
    ∃ l : Lm, cs = [.int .i64 l.sl, .int .i64 l.sh, .int .i64 l.hl, .int .i64 l.hh] := by
  obtain ⟨fs, hu, hfs⟩ := fsLm
  obtain ⟨xs, n, _, _, hlen, hxl, hg⟩ := DataW.trod_struct hu h
  replace hlen : cs.length = 4 := hlen.trans (by kernel_rfl)
  match cs, hlen with
  | [c0, c1, c2, c3], _ =>
    obtain ⟨z0, e0⟩ := field_int hxl hg (hfs 0 (by omega))
    obtain ⟨z1, e1⟩ := field_int hxl hg (hfs 1 (by omega))
    obtain ⟨z2, e2⟩ := field_int hxl hg (hfs 2 (by omega))
    obtain ⟨z3, e3⟩ := field_int hxl hg (hfs 3 (by omega))
    simp at e0 e1 e2 e3
    subst e0 e1 e2 e3
    exact ⟨⟨z0, z1, z2, z3⟩, rfl⟩

set_option maxRecDepth 100000 in
theorem act_cells {H : Type} {enc : TypeId × Value → H} {W : World} {sp : Nat → Bool} {hd : Bool} {fuel : Nat} {cs : List Value} {x : DataW H × List MemPlace} (h : DataW.trod enc Try.prog W 0 sp hd fuel 53 cs = some x) :
    ∃ a : Ac, cs = [.int .i64 a.kind, .int .i64 a.n] := by
  obtain ⟨fs, hu, hfs⟩ := fsAc
  obtain ⟨xs, n, _, _, hlen, hxl, hg⟩ := DataW.trod_struct hu h
  replace hlen : cs.length = 2 := hlen.trans (by kernel_rfl)
  match cs, hlen with
  | [c0, c1], _ =>
    obtain ⟨z0, e0⟩ := field_int hxl hg (hfs 0 (by omega))
    obtain ⟨z1, e1⟩ := field_int hxl hg (hfs 1 (by omega))
    simp at e0 e1
    subst e0 e1
    exact ⟨⟨z0, z1⟩, rfl⟩

set_option maxRecDepth 100000 in
theorem pump_cells {H : Type} {enc : TypeId × Value → H} {W : World} {sp : Nat → Bool} {hd : Bool} {fuel : Nat} {cs : List Value} {x : DataW H × List MemPlace} (h : DataW.trod enc Try.prog W 0 sp hd fuel 47 cs = some x) :
    ∃ p : Pm, cs = (cP p).toList := by
  obtain ⟨fs, hu, ⟨g0, q1, q2, q3, q4⟩, ⟨g4, r1, r2, r3, r4⟩, hfs⟩ := fsPm
  obtain ⟨xs, n, _, _, hlen, hxl, hg⟩ := DataW.trod_struct hu h
  replace hlen : cs.length = 10 := hlen.trans (by kernel_rfl)
  match cs, hlen with
  | [c0, c1, c2, c3, c4, c5, c6, c7, c8, c9], _ =>
    have h0 := hg 0 g0 q1
    rw [q2, q3, q4] at h0
    have hx0 : 0 < xs.length := by rw [hxl]; exact (Array.getElem?_eq_some_iff.1 q1).1
    rw [List.getElem?_eq_getElem hx0] at h0
    obtain ⟨l, hl⟩ := lim_cells h0
    have h4 := hg 4 g4 r1
    rw [r2, r3] at h4
    have hx4 : 4 < xs.length := by rw [hxl]; exact (Array.getElem?_eq_some_iff.1 r1).1
    rw [List.getElem?_eq_getElem hx4] at h4
    obtain ⟨b, hb, _⟩ := DataW.trod_bool r4 h4
    obtain ⟨z1, e1⟩ := field_int hxl hg (hfs 1 (by omega) (by omega) (by omega))
    obtain ⟨z2, e2⟩ := field_int hxl hg (hfs 2 (by omega) (by omega) (by omega))
    obtain ⟨z3, e3⟩ := field_int hxl hg (hfs 3 (by omega) (by omega) (by omega))
    obtain ⟨z5, e5⟩ := field_int hxl hg (hfs 5 (by omega) (by omega) (by omega))
    obtain ⟨z6, e6⟩ := field_int hxl hg (hfs 6 (by omega) (by omega) (by omega))
    simp at hl hb e1 e2 e3 e5 e6
    obtain ⟨l0, l1, l2, l3⟩ := hl
    subst hb e1 e2 e3 e5 e6 l0 l1 l2 l3
    exact ⟨⟨l, z1, z2, z3, b, z5, z6⟩, rfl⟩

theorem limit_of_read {H : Type} {enc : TypeId × Value → H} {W : World} {sp : Nat → Bool} {hd : Bool} {r : Reach} {b0 : Nat} {v : Value} {d : DataW H} {p : List MemPlace}
    (hv : Value.okWide Try.prog W r b0 45 v) (h : DataW.Trod enc Try.prog W 0 sp hd 45 v d p) : ∃ l : Lm, v = aL l := by
  obtain ⟨fs, hu, hfs⟩ := fsLm
  obtain ⟨cs, rfl, hsz⟩ := okWide_struct hu hv
  obtain ⟨fuel, hf⟩ := h
  obtain ⟨l, hl⟩ := lim_cells hf
  refine ⟨l, ?_⟩
  obtain ⟨cs⟩ := cs
  simp [Value.cells] at hl
  rw [hl]
  rfl

theorem act_of_read {H : Type} {enc : TypeId × Value → H} {W : World} {sp : Nat → Bool} {hd : Bool} {r : Reach} {b0 : Nat} {v : Value} {d : DataW H} {p : List MemPlace}
    (hv : Value.okWide Try.prog W r b0 53 v) (h : DataW.Trod enc Try.prog W 0 sp hd 53 v d p) : ∃ a : Ac, v = aAc a := by
  obtain ⟨fs, hu, hfs⟩ := fsAc
  obtain ⟨cs, rfl, hsz⟩ := okWide_struct hu hv
  obtain ⟨fuel, hf⟩ := h
  obtain ⟨l, hl⟩ := act_cells hf
  refine ⟨l, ?_⟩
  obtain ⟨cs⟩ := cs
  simp [Value.cells] at hl
  rw [hl]
  rfl

theorem pump_of_read {H : Type} {enc : TypeId × Value → H} {W : World} {sp : Nat → Bool} {hd : Bool} {r : Reach} {b0 : Nat} {v : Value} {d : DataW H} {p : List MemPlace}
    (hv : Value.okWide Try.prog W r b0 47 v) (h : DataW.Trod enc Try.prog W 0 sp hd 47 v d p) : ∃ x : Pm, v = aPm x := by
  obtain ⟨fs, hu, hfs⟩ := fsPm
  obtain ⟨cs, rfl, hsz⟩ := okWide_struct hu hv
  obtain ⟨fuel, hf⟩ := h
  obtain ⟨l, hl⟩ := pump_cells hf
  refine ⟨l, ?_⟩
  obtain ⟨cs⟩ := cs
  simp [Value.cells] at hl
  rw [hl]
  rfl
end Go.Proofs.Ytamghmnibfbgaaa
