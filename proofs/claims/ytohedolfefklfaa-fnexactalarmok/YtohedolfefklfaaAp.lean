/-
  An alarm that came in, read; and copied by the law.
-/
import Derived.Test.YtohedolfefklfaaAb
import Derived.WideShapes
import Derived.ProofKit
import Derived.OpenShut
import Derived.ShutString
import Derived.ChangeOld
import Derived.Below
import Derived.Lib.SmallJoins
namespace Go.Proofs.Ytohedolfefklfaa
open Go.RowKit Go.WideShapes Go.ChangeShapes Go.Joins Va

set_option maxHeartbeats 2000000 in
theorem toal_any (x : Al) (w : World) : Calls Try.prog 14 #[aA x] w fun r w' => r = .returned (aA x) ∧ Below w.heap.size w w' := by
  unfold aA
  go_enter Try.func14, Try.ntmps14
  go_wp2
  exact bodyPost_ret (v := .agg #[.int .i64 x.hi, .int .i64 x.lo, .int .i64 x.sl, .int .i64 x.dl]) (by simp [results, Try.results14, go_sem]) rfl ⟨rfl, by repeat (first | exact Below.refl _ _ | assumption | refine st_drew ?_ | refine st_drewN ?_ _ | refine Below.setCell ?_ (by first | omega | (simp; done) | (simp; omega)) _ | refine Below.alloc ?_ (by first | omega | (simp; done) | (simp; omega)) _)⟩

set_option maxRecDepth 100000 in
theorem fsAl : ∃ fs, Try.prog.underlying 29 = some (.struct fs) ∧ ∀ k, k < 4 → ∃ f, fs[k]? = some f ∧ f.offset = k ∧ Try.prog.cellsOf f.type = 1 ∧ Try.prog.underlying f.type = some (.int .i64) := by
  refine ⟨_, Try.underlying29, fun k hk => ?_⟩
  match k, hk with
  | 0, _ => exact ⟨_, rfl, rfl, by kernel_rfl, Try.underlying2⟩
  | 1, _ => exact ⟨_, rfl, rfl, by kernel_rfl, Try.underlying2⟩
  | 2, _ => exact ⟨_, rfl, rfl, by kernel_rfl, Try.underlying2⟩
  | 3, _ => exact ⟨_, rfl, rfl, by kernel_rfl, Try.underlying2⟩
theorem array4a {α : Type} {cs : Array α} (h : cs.size = 4) : ∃ c0 c1 c2 c3, cs = #[c0, c1, c2, c3] := by
  obtain ⟨l⟩ := cs
  match l, h with
  | [c0, c1, c2, c3], _ => exact ⟨c0, c1, c2, c3, rfl⟩

set_option maxRecDepth 100000 in
theorem alarm_of_read {H : Type} {enc : TypeId × Value → H} {W : World} {sp : Nat → Bool} {hd : Bool} {r : Reach} {b0 : Nat} {v : Value} {d : DataW H} {p : List MemPlace}
    (hv : Value.okWide Try.prog W r b0 29 v) (h : DataW.Trod enc Try.prog W 0 sp hd 29 v d p) : ∃ x : Al, v = aA x := by
  obtain ⟨fs, hu, hfs⟩ := fsAl
  obtain ⟨cs, rfl, hsz⟩ := okWide_struct hu hv
  obtain ⟨c0, c1, c2, c3, rfl⟩ := array4a (hsz.trans (by kernel_rfl))
  obtain ⟨fuel, hf⟩ := h
  obtain ⟨xs, n, _, _, _, hxl, hg⟩ := DataW.trod_struct hu hf
  have hq : ∀ k, k < 4 → ∃ z : Int, [c0, c1, c2, c3][k]? = some (.int .i64 z) := by
    intro k hk
    obtain ⟨f, hf1, hf2, hf3, hf4⟩ := hfs k hk
    have h2 := hg k f hf1
    rw [hf2, hf3] at h2
    have hxk : k < xs.length := by rw [hxl]; exact (Array.getElem?_eq_some_iff.1 hf1).1
    rw [List.getElem?_eq_getElem hxk] at h2
    obtain ⟨z, hz, _⟩ := DataW.trod_int hf4 h2
    refine ⟨z, ?_⟩
    match k, hk with
    | 0, _ => simpa [Value.cells] using hz
    | 1, _ => simpa [Value.cells] using hz
    | 2, _ => simpa [Value.cells] using hz
    | 3, _ => simpa [Value.cells] using hz
  obtain ⟨z0, e0⟩ := hq 0 (by omega)
  obtain ⟨z1, e1⟩ := hq 1 (by omega)
  obtain ⟨z2, e2⟩ := hq 2 (by omega)
  obtain ⟨z3, e3⟩ := hq 3 (by omega)
  simp at e0 e1 e2 e3
  subst e0 e1 e2 e3
  exact ⟨⟨z0, z1, z2, z3⟩, rfl⟩
end Go.Proofs.Ytohedolfefklfaa
