/-
  Merged: M13 M14.
-/
import Derived.Test.YtgcpiinmcbdkmaaMw5
import Derived.Test.YtgcpiinmcbdkmaaMw1
import Derived.Test.YtgcpiinmcbdkmaaMw7
import Derived.OwnWalk
import Derived.Deep.Slices
import Derived.BigQuiet
import Derived.Deep.QuietTactic
import Derived.Test.YtgcpiinmcbdkmaaMw4
namespace Go.Proofs.Ytgcpiinmcbdkmaa
open Go.RowKit Va Ms
set_option linter.all false
theorem ontoT {w w1 w2 : World} (h1 : Below w.heap.size w w1) (h2 : Below w1.heap.size w1 w2) : Below w.heap.size w w2 := h1.trans (h2.mono h1.size)
def cvS (x : ByteArray) (k : Nat) : Value := .string x
theorem str_cell {w : World} {ao : Option Addr} {n cap : Nat} {l : List ByteArray} {i : Nat} {x : ByteArray} (h : VRw 1 cvS w (.slice ao n cap) l) (hk : l[i]? = some x) :
    ∃ g off, ao = some ⟨g, off, none⟩ ∧ g < w.heap.size ∧ w.cell? ⟨g, off + i, none⟩ = some (.string x) := by
  obtain ⟨g, off, rfl, hg, hcs⟩ := h.at hk
  have := hcs 0 (by omega)
  rw [Nat.mul_one, Nat.add_zero] at this
  exact ⟨g, off, rfl, hg, this⟩
theorem infoStr : (Try.prog.info? 9).map (fun i => (i.zero, i.size, i.bytes)) = some (some (.string .empty), 1, 16) := by kernel_rfl
set_option maxRecDepth 20000 in
set_option maxHeartbeats 4000000 in
theorem eqstrs_any (a1 : Option Addr) (n1 c1 : Nat) (a2 : Option Addr) (n2 c2 : Nat) (l : List ByteArray) (w : World) (h : VRw 1 cvS w (.slice a1 n1 c1) l) (h' : VRw 1 cvS w (.slice a2 n2 c2) l) (hn : l.length ≤ 1048576) :
    Calls Try.prog 140 #[.slice a1 n1 c1, .slice a2 n2 c2] w fun e w' => e = .returned (.bool true) ∧ Below w.heap.size w w' := by
  obtain rfl := h.len
  obtain rfl := h'.len
  have HH := hidden h
  have HH' := hidden h'
  clear h h'
  go_enter Try.func140, Try.ntmps140
  go_wp2_with fail
  go_loopw [5] (fun iv wr => ∃ i : Nat, i ≤ l.length ∧ iv = .int .i64 i ∧ Below w.heap.size w wr) (fun iv _ => l.length - (intOf iv).toNat)
  case atStart => exact ⟨0, Nat.zero_le _, rfl, Below.refl _ _⟩
  case round =>
    obtain ⟨i, hil, rfl, hb⟩ := hrel
    by_cases hlt : i < l.length
    · have hlti : (i : Int) < (l.length : Int) := by omega
      obtain ⟨x, hx⟩ := some_of l i hlt
      obtain ⟨g, off, rfl, hg, c0⟩ := str_cell (HH.out.below hb) hx
      obtain ⟨g', off', rfl, hg', d0⟩ := str_cell (HH'.out.below hb) hx
      clear hx
      go_wp2_with fail
      go_quiet (fail)
      go_wp2_with fail
      go_roundw
      case rel => exact ⟨i + 1, by omega, rfl, by repeat (first | exact Below.refl _ _ | assumption | refine st_drew ?_ | refine st_drewN ?_ _ | refine Below.setCell ?_ (by first | omega | (simp; done) | (simp; omega)) _ | refine Below.alloc ?_ (by first | omega | (simp; done) | (simp; omega)) _)⟩
      case measure => simp [intOf]; omega
    · have hlti : ¬ (i : Int) < (l.length : Int) := by omega
      go_wp2_with fail
      go_ret
      exact ⟨rfl, hb⟩
end Go.Proofs.Ytgcpiinmcbdkmaa

namespace Go.Proofs.Ytgcpiinmcbdkmaa
open Go.RowKit Va Ms
set_option linter.all false
def aP (x : Pt) (fv : Value) : Value := .agg #[.string x.n, fv]
def PCell (w : World) (b o : Nat) (x : Pt) (fv : Value) : Prop := w.cell? ⟨b, o, none⟩ = some (.string x.n) ∧ w.cell? ⟨b, o + 1, none⟩ = some fv
theorem PCell.below {w w' : World} {b o : Nat} {x : Pt} {fv : Value} (h : PCell w b o x fv) (hb : Below w.heap.size w w') (hl : b < w.heap.size) : PCell w' b o x fv :=
  ⟨(hb.cell (p := ⟨b, o, none⟩) hl).trans h.1, (hb.cell (p := ⟨b, o + 1, none⟩) hl).trans h.2⟩
def PRw (w : World) (v : Value) (l : List Pt) : Prop :=
  ∃ ao cap, v = .slice ao l.length cap ∧ l.length ≤ cap ∧ (l.length = 0 ∨ ∃ b off, ao = some ⟨b, off, none⟩ ∧ b < w.heap.size ∧ ∀ i x, l[i]? = some x → ∃ fv, PCell w b (off + i * 2) x fv ∧ VRw 1 cvS w fv x.fs)
theorem PRw.below {w w' : World} {v : Value} {l : List Pt} (h : PRw w v l) (hb : Below w.heap.size w w') : PRw w' v l := by
  obtain ⟨ao, cap, rfl, hlc, h2⟩ := h
  refine ⟨ao, cap, rfl, hlc, ?_⟩
  rcases h2 with h2 | ⟨b, off, h3, h4, h5⟩
  · exact Or.inl h2
  · refine Or.inr ⟨b, off, h3, Nat.lt_of_lt_of_le h4 hb.size, fun i x hx => ?_⟩
    obtain ⟨fv, h6, h7⟩ := h5 i x hx
    exact ⟨fv, h6.below hb h4, h7.below hb⟩
theorem PRw.at {w : World} {ao : Option Addr} {cap : Nat} {n : Nat} {l : List Pt} (h : PRw w (.slice ao n cap) l) {i : Nat} {x : Pt} (hx : l[i]? = some x) :
    ∃ b off fa fc, ao = some ⟨b, off, none⟩ ∧ b < w.heap.size ∧ VRw 1 cvS w (.slice fa x.fs.length fc) x.fs ∧ w.cell? ⟨b, off + i * 2, none⟩ = some (.string x.n) ∧ w.cell? ⟨b, off + i * 2 + 1, none⟩ = some (.slice fa x.fs.length fc) := by
  obtain ⟨ao', cap', he, _, h2⟩ := h
  obtain ⟨rfl, rfl, rfl⟩ : ao = ao' ∧ n = l.length ∧ cap = cap' := by simpa using he
  have := get_lt' hx
  rcases h2 with h2 | ⟨b, off, h3, h4, h5⟩
  · omega
  · obtain ⟨fv, ⟨c0, c1⟩, h7⟩ := h5 i x hx
    obtain ⟨fa, fc, rfl⟩ := h7.form
    exact ⟨b, off, fa, fc, h3, h4, h7, c0, c1⟩
theorem PRw.len {w : World} {ao : Option Addr} {n cap : Nat} {l : List Pt} (h : PRw w (.slice ao n cap) l) : n = l.length := by
  obtain ⟨ao', cap', he, _, _⟩ := h; simp at he; omega
def WOut (w : World) (base G n : Nat) (l : List Pt) (i : Nat) : Prop :=
  base ≤ G ∧ G < w.heap.size ∧ (∀ j, j < n * 2 → (∃ u, w.cell? ⟨G, j, none⟩ = some u) ∧ w.frozen? ⟨G, j, none⟩ = false) ∧
    ∀ j x, j < i → l[j]? = some x → ∃ T, (base ≤ T ∧ T ≠ G) ∧ PCell w G (j * 2) x (.slice (some ⟨T, 0, none⟩) x.fs.length x.fs.length) ∧ VOut 1 cvS w T x.fs.length x.fs x.fs.length
theorem WOut.below {w w' : World} {base G n i : Nat} {l : List Pt} (h : WOut w base G n l i) (hb : Below w.heap.size w w') : WOut w' base G n l i := by
  obtain ⟨h0, h1, h2, h3⟩ := h
  refine ⟨h0, Nat.lt_of_lt_of_le h1 hb.size, fun j hj => ⟨?_, ((bcell hb).2 _ _ h1).trans (h2 j hj).2⟩, fun j x hj hx => ?_⟩
  · obtain ⟨u, hu⟩ := (h2 j hj).1
    exact ⟨u, ((bcell hb).1 _ _ h1).trans hu⟩
  · obtain ⟨T, k1, k3, k4⟩ := h3 j x hj hx
    exact ⟨T, k1, k3.below hb h1, k4.below hb⟩
theorem WOut.set {w : World} {base G n i : Nat} {l : List Pt} {x : Pt} (h : WOut w base G n l i) (hi : i < n) (hx : l[i]? = some x) {T : Nat} (hT : base ≤ T) (hTG : T ≠ G) (ho : VOut 1 cvS w T x.fs.length x.fs x.fs.length) :
    WOut (put w G (i * 2) [.string x.n, .slice (some ⟨T, 0, none⟩) x.fs.length x.fs.length]) base G n l (i + 1) := by
  obtain ⟨h0, h1, h2, h3⟩ := h
  generalize hvs : [Value.string x.n, .slice (some ⟨T, 0, none⟩) x.fs.length x.fs.length] = vs
  have hlen : vs.length = 2 := by rw [← hvs]; rfl
  have hnew : ∀ k v, vs[k]? = some v → (put w G (i * 2) vs).cell? ⟨G, i * 2 + k, none⟩ = some v := put_same vs w G (i * 2) (fun k hk => (h2 (i * 2 + k) (by omega)).1)
  have hoth : ∀ T', T' ≠ G → ∀ j, (put w G (i * 2) vs).cell? ⟨T', j, none⟩ = w.cell? ⟨T', j, none⟩ := fun T' hT' j => by
    rw [← hvs]
    show (World.setCell (World.setCell w _ _) _ _).cell? _ = _
    rw [World.cell?_setCell_far _ _ _ _ (fun e => hT' e.symm), World.cell?_setCell_far _ _ _ _ (fun e => hT' e.symm)]
  have hout : ∀ (T' : Nat) (t : List ByteArray), T' ≠ G → VOut 1 cvS w T' t.length t t.length → VOut 1 cvS (put w G (i * 2) vs) T' t.length t t.length := fun T' t hT' ho' => by
    obtain ⟨k1, k2, k3⟩ := ho'
    refine ⟨by rw [put_size]; exact k1, fun j hj => ⟨?_, ?_⟩, fun j y hj hy k hk => by rw [hoth T' hT']; exact k3 j y hj hy k hk⟩
    · rw [hoth T' hT']; exact (k2 j hj).1
    · rw [← hvs]
      show (World.setCell (World.setCell w _ _) _ _).frozen? _ = _
      simp only [World.frozen?_setCell]
      exact (k2 j hj).2
  refine ⟨h0, by rw [put_size]; exact h1, fun j hj => ⟨?_, by rw [put_frozen]; exact (h2 j hj).2⟩, fun j y hj hy => ?_⟩
  · by_cases a : i * 2 ≤ j ∧ j < i * 2 + 2
    · obtain ⟨v, hv⟩ : ∃ v, vs[j - i * 2]? = some v := ⟨_, List.getElem?_eq_getElem (by omega)⟩
      have := hnew (j - i * 2) v hv
      rw [show i * 2 + (j - i * 2) = j by omega] at this
      exact ⟨_, this⟩
    · rw [put_other _ _ _ _ _ (by omega)]; exact (h2 j hj).1
  · by_cases a : j = i
    · subst a
      rw [hx] at hy
      cases hy
      refine ⟨T, ⟨hT, hTG⟩, ⟨hnew 0 _ (by rw [← hvs]; rfl), hnew 1 _ (by rw [← hvs]; rfl)⟩, hout T _ hTG ho⟩
    · obtain ⟨T1, k1, ⟨e0, e1⟩, k4⟩ := h3 j y (by omega) hy
      refine ⟨T1, k1, ⟨?_, ?_⟩, hout T1 _ k1.2 k4⟩
      · rw [put_other _ _ _ _ _ (by omega)]; exact e0
      · rw [put_other _ _ _ _ _ (by omega)]; exact e1
theorem infoPart : (Try.prog.info? 106).map (fun i => (i.zero, i.size, i.bytes)) = some (some (.agg #[.string .empty, .slice none 0 0]), 2, 40) := by kernel_rfl
end Go.Proofs.Ytgcpiinmcbdkmaa
