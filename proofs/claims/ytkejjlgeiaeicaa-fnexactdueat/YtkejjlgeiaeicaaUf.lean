/-
  A chart that came in, read.
-/
import Derived.Test.YtkejjlgeiaeicaaUe
namespace Go.Proofs.Ytkejjlgeiaeicaa
open Go.RowKit Va Uo Go.WideShapes
set_option linter.all false

theorem slice_of_trod {H : Type} {enc : TypeId × Value → H} {P : Program} {W : World} {sp : Nat → Bool} {hd : Bool} {t e : TypeId} {fuel : Nat} {v : Value} {x : DataW H × List MemPlace}
    (ht : P.underlying t = some (.slice e)) (h : DataW.trod enc P W 0 sp hd fuel t [v] = some x) : ∃ ao n cap, v = .slice ao n cap ∧ DataW.Trod enc P W 0 sp hd t (.slice ao n cap) x.1 x.2 := by
  have hv : ∃ ao n cap, v = .slice ao n cap := by
    rcases Deep.open_slice ht h with ⟨h1, _⟩ | ⟨a, ln, c, m, n, D, Pl, h1, _⟩
    · simp at h1; exact ⟨none, 0, 0, h1⟩
    · simp at h1; exact ⟨some a, ln, c, h1⟩
  obtain ⟨ao, n, cap, rfl⟩ := hv
  exact ⟨ao, n, cap, rfl, fuel, h⟩

set_option maxRecDepth 100000 in
theorem fsChart : ∃ fs, Try.prog.underlying 34 = some (.struct fs) ∧ ∃ f g, fs[0]? = some f ∧ f.offset = 0 ∧ Try.prog.cellsOf f.type = 1 ∧ f.type = 31 ∧ fs[1]? = some g ∧ g.offset = 1 ∧ Try.prog.cellsOf g.type = 1 ∧ g.type = 32 :=
  ⟨_, Try.underlying34, _, _, rfl, rfl, by kernel_rfl, rfl, rfl, rfl, by kernel_rfl, rfl⟩
theorem array2 {α : Type} {cs : Array α} (h : cs.size = 2) : ∃ c0 c1, cs = #[c0, c1] := by
  obtain ⟨l⟩ := cs
  match l, h with
  | [c0, c1], _ => exact ⟨c0, c1, rfl⟩

set_option maxRecDepth 100000 in
theorem chart_of_read {H : Type} {enc : TypeId × Value → H} {W : World} {sp : Nat → Bool} {hd : Bool} {r : Reach} {b0 : Nat} {v : Value} {d : DataW H} {p : List MemPlace}
    (hv : Value.okWide Try.prog W r b0 34 v) (h : DataW.Trod enc Try.prog W 0 sp hd 34 v d p) : ∃ (ao : Option Addr) (cap : Nat) (ad : Option Addr) (dcap : Nat) (os : List Od) (ds : List Ds), v = .agg #[.slice ao os.length cap, .slice ad ds.length dcap] ∧ os.length ≤ maxLen ∧ ds.length ≤ maxLen ∧ VRw 9 cvOd W (.slice ao os.length cap) os ∧ VRw 5 cvDs W (.slice ad ds.length dcap) ds := by
  obtain ⟨fs, hu, f, g, f1, f2, f3, f4, g1, g2, g3, g4⟩ := fsChart
  obtain ⟨cs, rfl, hsz⟩ := okWide_struct hu hv
  obtain ⟨c0, c1, rfl⟩ := array2 (hsz.trans (by kernel_rfl))
  obtain ⟨fuel, hf⟩ := h
  obtain ⟨xs, k, hk, hxy, _, hxl, hff⟩ := DataW.trod_struct hu hf
  have q0 := hff 0 f f1
  have q1 := hff 1 g g1
  rw [f2, f3, f4] at q0
  rw [g2, g3, g4] at q1
  have x0 : 0 < xs.length := by rw [hxl]; exact (Array.getElem?_eq_some_iff.1 f1).1
  have x1 : 1 < xs.length := by rw [hxl]; exact (Array.getElem?_eq_some_iff.1 g1).1
  rw [List.getElem?_eq_getElem x0] at q0
  rw [List.getElem?_eq_getElem x1] at q1
  simp [Value.cells] at q0 q1
  obtain ⟨ao, n, cap, rfl, t0⟩ := slice_of_trod Try.underlying31 q0
  obtain ⟨ad, m, dcap, rfl, t1⟩ := slice_of_trod Try.underlying32 q1
  obtain ⟨os, rfl, h2, h3⟩ := ods_of_read t0
  obtain ⟨ds, rfl, k2, k3⟩ := dss_of_read t1
  exact ⟨ao, cap, ad, dcap, os, ds, rfl, h2, k2, h3, k3⟩
end Go.Proofs.Ytkejjlgeiaeicaa
