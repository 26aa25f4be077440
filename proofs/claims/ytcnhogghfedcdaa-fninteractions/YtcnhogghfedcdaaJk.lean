/-
  What the draws of drugs need besides: bytes that stay, results of three, rows that stay.
-/
import Derived.Test.YtcnhogghfedcdaaJe
import Derived.Laws.ResultCell
namespace Go.Proofs.Ytcnhogghfedcdaa
open Go.RowKit Va Ga
set_option linter.unusedVariables false

theorem bytes_upY {w w' : World} {ao : Option Addr} {bs : List Int} (h : Bytes w w.heap.size ao bs) (hb : Below w.heap.size w w') : Bytes w' w'.heap.size ao bs := by
  have h2 := h.below hb
  have hs := hb.size
  refine ⟨h2.1, ?_⟩
  rcases h2.2 with q | ⟨b, o, e, hl, hc⟩
  · exact Or.inl q
  · exact Or.inr ⟨b, o, e, by omega, hc⟩

theorem results_ctt0 {fn : Func} {p u v : Tmp} {ty : TypeId} (h : fn.results = #[.cell p ty, .tmp u, .tmp v]) (tmps : Array Value) (P : Program) (w : World) :
    (results fn tmps).run P w =
      ((asAddr (tmps.getD p undef)).run P w).andThen fun a w₁ => ((loadVar ty a).run P w₁).andThen fun z w₂ => .ok (.tuple #[z, tmps.getD u undef, tmps.getD v undef]) w₂ := by
  simp only [results, h]
  simp [Sem.run_bind, Result.andThen]
theorem results_ctt {P : Program} {fn : Func} {p u v : Tmp} {ty : TypeId} (h : fn.results = #[.cell p ty, .tmp u, .tmp v]) (tmps : Array Value) (w : World) (g : Nat) (t : TypeId) (cs : Array Value) (d : TypeDesc)
    (hp : tmps.getD p undef = .pointer (some ⟨g, 0, none⟩)) (hg : PB w g cs t) (hu : P.underlying ty = some d) (hd : (match d with | .struct _ | .array _ _ => true | _ => false) = true) (hi : (P.info? ty).map (·.size) = some cs.size) :
    (results fn tmps).run P w = .ok (.tuple #[.agg cs, tmps.getD u undef, tmps.getD v undef]) w := by
  have hl := run_loadVar_row (P := P) w g t ty cs _ d hg hu hd hi
  rw [results_ctt0 h, hp]
  simp [asAddr, hl, Result.andThen]
/-- A row of the call's own is read where its blocks stay. -/
theorem DI.row_of {w0 W W' : World} {g cap : Nat} {ao : Option Addr} {bs : List Int} {v : Value} {l : List Int} (h : DI w0 W g ao cap bs v l) (hs : W'.heap.size = W.heap.size) (hh : ∀ b, w0.heap.size ≤ b → W'.heap[b]? = W.heap[b]?) : IRw W' v l := by
  rcases h.own.2 with ⟨h1, h2⟩ | ⟨b, c, cur, h2, h3, h4, h5, h6, h7, h8⟩
  · have : l = [] := List.length_eq_zero_iff.1 h2
    subst this
    exact ⟨none, 0, h1, Nat.le_refl _, Or.inl rfl⟩
  · refine ⟨_, c, h2, by omega, Or.inr ⟨b, 0, rfl, by rw [hs]; exact (Array.getElem?_eq_some_iff.1 h4).1, fun i x hx => ?_⟩⟩
    have hlt := get_lt' hx
    have e : (cur.toList.take (l.length * 1))[i]? = some (.int .i64 x) := by rw [h8, List.getElem?_map, hx]; rfl
    rw [List.getElem?_take, if_pos (by omega)] at e
    have h4' := (hh b h3).trans h4
    simp only [World.cell?, h4', Nat.zero_add]
    simpa using e
end Go.Proofs.Ytcnhogghfedcdaa
