/-
  A vital that came in, read; and copied by the law.
-/
import Derived.Test.YtmigcbbjejbcganVb
import Derived.WideShapes
import Derived.ProofKit
import Derived.OpenShut
import Derived.ShutString
import Derived.ChangeOld
import Derived.Below
import Derived.Lib.SmallJoins
namespace Go.Proofs.Ytmigcbbjejbcgan
open Go.RowKit Go.WideShapes Go.ChangeShapes Go.Joins Va

set_option maxHeartbeats 2000000 in
theorem tovit_any (x : Vt) (w : World) : Calls Try.prog 9 #[aV x] w fun r w' => r = .returned (aV x) ∧ Below w.heap.size w w' := by
  unfold aV
  go_enter Try.func9, Try.ntmps9
  go_wp2
  exact bodyPost_ret (v := .agg #[.int .i64 x.b, .int .i64 x.o, .int .i64 x.p, .int .i64 x.u, .int .i64 x.a, .int .i64 x.h]) (by simp [results, Try.results9, go_sem]) rfl ⟨rfl, by repeat (first | exact Below.refl _ _ | assumption | refine st_drew ?_ | refine st_drewN ?_ _ | refine Below.setCell ?_ (by first | omega | (simp; done) | (simp; omega)) _ | refine Below.alloc ?_ (by first | omega | (simp; done) | (simp; omega)) _)⟩

set_option maxRecDepth 100000 in
theorem fsVit : ∃ fs, Try.prog.underlying 23 = some (.struct fs) ∧ ∀ k, k < 6 → ∃ f, fs[k]? = some f ∧ f.offset = k ∧ Try.prog.cellsOf f.type = 1 ∧ Try.prog.underlying f.type = some (.int .i64) := by
  refine ⟨_, Try.underlying23, fun k hk => ?_⟩
  match k, hk with
  | 0, _ => exact ⟨_, rfl, rfl, by kernel_rfl, Try.underlying2⟩
  | 1, _ => exact ⟨_, rfl, rfl, by kernel_rfl, Try.underlying2⟩
  | 2, _ => exact ⟨_, rfl, rfl, by kernel_rfl, Try.underlying2⟩
  | 3, _ => exact ⟨_, rfl, rfl, by kernel_rfl, Try.underlying2⟩
  | 4, _ => exact ⟨_, rfl, rfl, by kernel_rfl, Try.underlying2⟩
  | 5, _ => exact ⟨_, rfl, rfl, by kernel_rfl, Try.underlying2⟩
theorem array6 {α : Type} {cs : Array α} (h : cs.size = 6) : ∃ c0 c1 c2 c3 c4 c5, cs = #[c0, c1, c2, c3, c4, c5] := by
  obtain ⟨l⟩ := cs
  match l, h with
  | [c0, c1, c2, c3, c4, c5], _ => exact ⟨c0, c1, c2, c3, c4, c5, rfl⟩

set_option maxRecDepth 100000 in
theorem vital_of_read {H : Type} {enc : TypeId × Value → H} {W : World} {sp : Nat → Bool} {hd : Bool} {r : Reach} {b0 : Nat} {v : Value} {d : DataW H} {p : List MemPlace}
    (hv : Value.okWide Try.prog W r b0 23 v) (h : DataW.Trod enc Try.prog W 0 sp hd 23 v d p) : ∃ x : Vt, v = aV x := by
  obtain ⟨fs, hu, hfs⟩ := fsVit
  obtain ⟨cs, rfl, hsz⟩ := okWide_struct hu hv
  obtain ⟨c0, c1, c2, c3, c4, c5, rfl⟩ := array6 (hsz.trans (by kernel_rfl))
  obtain ⟨fuel, hf⟩ := h
  obtain ⟨xs, n, _, _, _, hxl, hg⟩ := DataW.trod_struct hu hf
  have hq : ∀ k, k < 6 → ∃ z : Int, [c0, c1, c2, c3, c4, c5][k]? = some (.int .i64 z) := by
    intro k hk
    obtain ⟨f, hf1, hf2, hf3, hf4⟩ := hfs k hk
    have h2 := hg k f hf1
    rw [hf2, hf3] at h2
    have hxk : k < xs.length := by rw [hxl]; exact (Array.getElem?_eq_some_iff.1 hf1).1
    rw [List.getElem?_eq_getElem hxk] at h2
    obtain ⟨z, hz, _⟩ := DataW.trod_int hf4 h2
    refine ⟨z, ?_⟩
    match k, hk with
    | 0, _ => simpa [Value.cells] using hz
    | 1, _ => simpa [Value.cells] using hz
    | 2, _ => simpa [Value.cells] using hz
    | 3, _ => simpa [Value.cells] using hz
    | 4, _ => simpa [Value.cells] using hz
    | 5, _ => simpa [Value.cells] using hz
  obtain ⟨z0, e0⟩ := hq 0 (by omega)
  obtain ⟨z1, e1⟩ := hq 1 (by omega)
  obtain ⟨z2, e2⟩ := hq 2 (by omega)
  obtain ⟨z3, e3⟩ := hq 3 (by omega)
  obtain ⟨z4, e4⟩ := hq 4 (by omega)
  obtain ⟨z5, e5⟩ := hq 5 (by omega)
  simp at e0 e1 e2 e3 e4 e5
  subst e0 e1 e2 e3 e4 e5
  exact ⟨⟨z0, z1, z2, z3, z4, z5⟩, rfl⟩
end Go.Proofs.Ytmigcbbjejbcgan
