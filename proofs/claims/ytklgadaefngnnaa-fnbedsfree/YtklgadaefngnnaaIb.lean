/-
  A stay put behind those of a house of the call's own.
-/
import Derived.Test.YtklgadaefngnnaaHk
import Derived.Test.YtklgadaefngnnaaHv
import Derived.Test.YtklgadaefngnnaaIa1
namespace Go.Proofs.Ytklgadaefngnnaa
open Go.RowKit Hm
set_option linter.unusedVariables false

/-- Block b holds cells of type t. -/
def IsT (w : World) (b t : Nat) : Prop := ∃ c, w.heap[b]? = some (.cells c t)
theorem IsT.setCell {w : World} {b t : Nat} (h : IsT w b t) (p : Addr) (u : Value) : IsT (w.setCell p u) b t := by
  obtain ⟨c, hc⟩ := h
  by_cases q : b = p.block
  · subst q
    exact ⟨_, by simp only [World.setCell, Array.getElem?_modify]; rw [if_pos trivial, hc]; rfl⟩
  · exact ⟨c, by rw [Below.heap_setCell _ _ _ _ q]; exact hc⟩
theorem IsT.below {w w' : World} {B b t : Nat} (h : IsT w b t) (hb : Below B w w') (hB : b < B) : IsT w' b t := by
  obtain ⟨c, hc⟩ := h
  exact ⟨c, (hb.block b hB).trans hc⟩
theorem IsT.grown {w w' : World} {b t : Nat} {r : Option Nat} (h : IsT w b t) (hg : w.grownBy w' r) (hr : ∀ k, r = some k → k ≠ b) : IsT w' b t := by
  obtain ⟨c, hc⟩ := h
  exact ⟨c, (hg.block b (Array.getElem?_eq_some_iff.1 hc).1 (fun e => hr b e.symm rfl)).trans hc⟩
theorem own_ty {w : World} {b e s n : Nat} {v : Value} {xs : List Value} (h : w.ownsRow b e s v n xs) {p : Addr} {t : Nat} (hp : IsT w p.block t) (hne : t ≠ e) (u : Value) : (w.setCell p u).ownsRow b e s v n xs := by
  obtain ⟨c, hc⟩ := hp
  obtain ⟨q, ⟨q1, q2⟩ | ⟨g1, c1, cur, rfl, hg1, hh, r⟩⟩ := h
  · exact ⟨q, Or.inl ⟨q1, q2⟩⟩
  · refine ⟨q, Or.inr ⟨g1, c1, cur, rfl, hg1, ?_, r⟩⟩
    rw [Below.heap_setCell _ _ _ _ (fun e2 => ?_)]
    · exact hh
    · rw [e2, hc] at hh
      have := Option.some.inj hh
      injection this with _ h5
      exact hne h5
theorem own_in {w : World} {b e s n : Nat} {v : Value} {xs : List Value} (h : w.ownsRow b e s v n xs) : ∀ k, v.ownBlock = some k → k < w.heap.size := by
  obtain ⟨q, ⟨rfl, q2⟩ | ⟨g1, c1, cur, rfl, hg1, hh, r⟩⟩ := h
  · intro k hk; cases hk
  · intro k hk; cases hk; exact (Array.getElem?_eq_some_iff.1 hh).1
theorem own_grown {w w' : World} {b1 b2 e1 e2 s1 s2 n1 n2 : Nat} {v1 v2 : Value} {x1 x2 : List Value} (h1 : w.ownsRow b1 e1 s1 v1 n1 x1) (h2 : w.ownsRow b2 e2 s2 v2 n2 x2) (hne : e1 ≠ e2) (hg : w.grownBy w' v2.ownBlock) : w'.ownsRow b1 e1 s1 v1 n1 x1 := by
  have ha := types_apart h1 h2 hne
  obtain ⟨q, ⟨rfl, q2⟩ | ⟨g1, c1, cur, rfl, hg1, hh, r⟩⟩ := h1
  · exact ⟨q, Or.inl ⟨rfl, q2⟩⟩
  · exact ⟨q, Or.inr ⟨g1, c1, cur, rfl, hg1, (hg.block g1 (Array.getElem?_eq_some_iff.1 hh).1 (fun e => ha g1 rfl e.symm)).trans hh, r⟩⟩
theorem HNew.ty {w : World} {base : Nat} {vb vs : Value} {B : List Bd} {S : List St} (h : HNew w base vb vs B S) {p : Addr} {t : Nat} (hp : IsT w p.block t) (h1 : t ≠ 72) (h2 : t ≠ 36) (u : Value) : HNew (w.setCell p u) base vb vs B S := ⟨own_ty h.1 hp h1 u, own_ty h.2 hp h2 u⟩
theorem gcell {w w' : World} {r : Option Nat} (hg : w.grownBy w' r) {b : Nat} (hb : b < w.heap.size) (hr : ∀ k, r = some k → k ≠ b) (o : Nat) : w'.cell? ⟨b, o, none⟩ = w.cell? ⟨b, o, none⟩ ∧ w'.frozen? ⟨b, o, none⟩ = w.frozen? ⟨b, o, none⟩ :=
  ⟨World.cell?_of_block (hg.block b hb (fun e => hr b e.symm rfl)), World.frozen?_of_block (hg.block b hb (fun e => hr b e.symm rfl))⟩
def zH : Value := .agg #[.slice none 0 0, .slice none 0 0]
/-- What withStay answers. -/
def WRes (w : World) (base : Nat) (ao : Option Addr) (n cap : Nat) (B : List Bd) (S : List St) (x : St) (e : Ending) (w' : World) : Prop :=
  Below base w w' ∧ ((isFr B S x.sex x.need x.bed = true ∧ S.length ≠ 1000 ∧ ∃ a2 c2, e = .returned (.tuple #[.agg #[.slice ao n cap, .slice a2 (S.length + 1) c2], .int .i64 0]) ∧ HNew w' base (.slice ao n cap) (.slice a2 (S.length + 1) c2) B (S ++ [x])) ∨ (isFr B S x.sex x.need x.bed = true ∧ S.length = 1000 ∧ e = .returned (.tuple #[zH, .int .i64 7])) ∨ (isFr B S x.sex x.need x.bed = false ∧ e = .returned (.tuple #[zH, .int .i64 6])))

set_option maxRecDepth 20000 in
set_option maxHeartbeats 4000000 in
theorem withstay_any (ao ao2 : Option Addr) (n cap m cap2 base kb : Nat) (B : List Bd) (S : List St) (p sx nd fr tl : Int) (w : World) (h : HNew w base (.slice ao n cap) (.slice ao2 m cap2) B S) (hbase : base ≤ w.heap.size) (hn : B.length ≤ 200) (hm : S.length ≤ 1000) (hf : fits B.length S) (hkb : kb < B.length) (hs1 : 1 ≤ sx) (hs2 : sx ≤ 2) :
    Calls Try.prog 78 #[.agg #[.slice ao n cap, .slice ao2 m cap2], .agg #[.int .i64 p, .int .i64 sx, .int .i64 nd, .int .i64 kb, .int .i64 fr, .int .i64 tl]] w (WRes w base ao n cap B S ⟨p, sx, nd, kb, fr, tl⟩) := by
  obtain ⟨a1, c1, a2, c2, e1, e2⟩ := h.form
  injection e1 with q1 q2 q3
  injection e2 with q4 q5 q6
  subst q2
  subst q5
  clear q1 q3 q4 q6
  have HN := hidden h
  have HF := hidden (fun W (hW : Below w.heap.size w W) => isfree_any ao ao2 B.length cap S.length cap2 B S kb sx nd W ((h.below hW).own.row) (by omega) hf hkb hs1 hs2)
  obtain ⟨i0, hi, hz0, hz1, hz2⟩ := info_parts infoSt
  clear h hf
  cases hq : isFr B S sx nd kb with
  | false =>
    have HQ := hidden hq
    rw [hq] at HF
    clear hq
    go_enter Try.func78, Try.ntmps78
    go_wp2_with (go_at_call 53; refine (HF.out _ (by repeat (first | exact Below.refl _ _ | assumption | refine st_drew ?_ | refine st_drewN ?_ _ | refine Below.setCell ?_ (by first | omega | (simp; done) | (simp; omega)) _ | refine Below.alloc ?_ (by first | omega | (simp; done) | (simp; omega)) _))).mono ?_; rintro e w3 ⟨rfl, hb3⟩; obtain ⟨hc3, hf3⟩ := bcell hb3; have bA := onto (show Below w.heap.size w _ from by repeat (first | exact Below.refl _ _ | assumption | refine st_drew ?_ | refine st_drewN ?_ _ | refine Below.setCell ?_ (by first | omega | (simp; done) | (simp; omega)) _ | refine Below.alloc ?_ (by first | omega | (simp; done) | (simp; omega)) _)) hb3)
    exact bodyPost_ret (v := .tuple #[.agg #[.slice none 0 0, .slice none 0 0], .int .i64 6]) (by simp [results, Try.results78, go_sem, hc3]) rfl ⟨(show Below w.heap.size w _ from by repeat (first | exact Below.refl _ _ | assumption | refine st_drew ?_ | refine st_drewN ?_ _ | refine Below.setCell ?_ (by first | omega | (simp; done) | (simp; omega)) _ | refine Below.alloc ?_ (by first | omega | (simp; done) | (simp; omega)) _)).mono hbase, Or.inr (Or.inr ⟨HQ.out, rfl⟩)⟩
  | true =>
    have HQ := hidden hq
    rw [hq] at HF
    clear hq
    by_cases hful : S.length = 1000
    · have HFU := hidden hful
      have hful2 : (((S.length : Nat) : Int) == 1000) = true := by simp; omega
      clear hful
      go_enter Try.func78, Try.ntmps78
      go_wp2_with (go_at_call 53; refine (HF.out _ (by repeat (first | exact Below.refl _ _ | assumption | refine st_drew ?_ | refine st_drewN ?_ _ | refine Below.setCell ?_ (by first | omega | (simp; done) | (simp; omega)) _ | refine Below.alloc ?_ (by first | omega | (simp; done) | (simp; omega)) _))).mono ?_; rintro e w3 ⟨rfl, hb3⟩; obtain ⟨hc3, hf3⟩ := bcell hb3; have bA := onto (show Below w.heap.size w _ from by repeat (first | exact Below.refl _ _ | assumption | refine st_drew ?_ | refine st_drewN ?_ _ | refine Below.setCell ?_ (by first | omega | (simp; done) | (simp; omega)) _ | refine Below.alloc ?_ (by first | omega | (simp; done) | (simp; omega)) _)) hb3)
      exact bodyPost_ret (v := .tuple #[.agg #[.slice none 0 0, .slice none 0 0], .int .i64 7]) (by simp [results, Try.results78, go_sem, hc3]) rfl ⟨(show Below w.heap.size w _ from by repeat (first | exact Below.refl _ _ | assumption | refine st_drew ?_ | refine st_drewN ?_ _ | refine Below.setCell ?_ (by first | omega | (simp; done) | (simp; omega)) _ | refine Below.alloc ?_ (by first | omega | (simp; done) | (simp; omega)) _)).mono hbase, Or.inr (Or.inl ⟨HQ.out, HFU.out, rfl⟩)⟩
    · have HFU := hidden hful
      have hful2 : (((S.length : Nat) : Int) == 1000) = false := by simp; omega
      clear hful
      go_enter Try.func78, Try.ntmps78
      have HI := hidden (own_in HN.out.2)
      go_wp2_with (first | (go_at_call 53; refine (HF.out _ (by repeat (first | exact Below.refl _ _ | assumption | refine st_drew ?_ | refine st_drewN ?_ _ | refine Below.setCell ?_ (by first | omega | (simp; done) | (simp; omega)) _ | refine Below.alloc ?_ (by first | omega | (simp; done) | (simp; omega)) _))).mono ?_; rintro e w3 ⟨rfl, hb3⟩; obtain ⟨hc3, hf3⟩ := bcell hb3; have bA := onto (show Below w.heap.size w _ from by repeat (first | exact Below.refl _ _ | assumption | refine st_drew ?_ | refine st_drewN ?_ _ | refine Below.setCell ?_ (by first | omega | (simp; done) | (simp; omega)) _ | refine Below.alloc ?_ (by first | omega | (simp; done) | (simp; omega)) _)) hb3; have z3 := hb3.size; simp only [World.size_alloc] at z3; have n3 := HN.out.below bA; have ty0 : IsT w3 w.heap.size 27 := IsT.below ⟨_, blk_alloc (blk_alloc (blk_new _ _ _ rfl) _) _⟩ hb3 (by simp; omega); have ty2 : IsT w3 (w.heap.size + 1 + 1) 27 := IsT.below ⟨_, blk_new _ _ _ (by simp)⟩ hb3 (by simp); have bs : Below w3.heap.size w3 (w3.alloc (.cells #[.int .i64 p, .int .i64 sx, .int .i64 nd, .int .i64 kb, .int .i64 fr, .int .i64 tl] 36)) := (Below.refl _ _).alloc (Nat.le_refl _) _; have n3a : HNew (w3.alloc (.cells #[.int .i64 p, .int .i64 sx, .int .i64 nd, .int .i64 kb, .int .i64 fr, .int .i64 tl] 36)) base (.slice ao B.length cap) (.slice ao2 S.length cap2) B S := ⟨n3.1.alloc _, n3.2.alloc _⟩) | (at_builtin; refine wpList_append_own _ rfl (.tmp 22) (.tmp 24) 25 rfl base 36 i0 (.agg #[.int .i64 0, .int .i64 0, .int .i64 0, .int .i64 0, .int .i64 0, .int .i64 0]) 6 48 Try.underlying25 hi hz0 hz1 hz2 rfl (by decide) (.slice ao2 S.length cap2) S.length (cellsL 6 csS S) rfl n3a.2 ⟨w3.heap.size, 0, none⟩ 1 1 [.int .i64 p, .int .i64 sx, .int .i64 nd, .int .i64 kb, .int .i64 fr, .int .i64 tl] rfl rfl (cell_six_new _ _ _ _ _ _ _ _) (six_one _ _ _ _ _ _) (by unfold maxLen; omega) (by omega) (by simp; omega) ?_; intro v4 w4 ho4 hg4 hnn4; obtain ⟨ad4, c4', rfl⟩ := own_slice ho4; have b4 := ((bA.mono hbase).trans (bs.mono (by omega))).grown hg4 (by simp; omega) (own_lt n3a.2); have z4 := hg4.size; simp only [World.size_alloc] at z4; have n4 := own_grown n3a.1 n3a.2 (by decide) hg4; have HG0 := hidden (fun k hk => Nat.ne_of_lt (HI.out k hk)); have HG2 := hidden (fun k hk => Nat.ne_of_lt (Nat.lt_add_right 2 (HI.out k hk))); have t0 := IsT.grown (ty0.below bs (by omega)) hg4 HG0.out; have t2 := IsT.grown (ty2.below bs (by omega)) hg4 HG2.out; obtain ⟨g0, f0⟩ := forall_and.1 (gcell hg4 (b := w.heap.size) (by simp; omega) HG0.out); obtain ⟨g2, f2⟩ := forall_and.1 (gcell hg4 (b := w.heap.size + 1 + 1) (by simp; omega) HG2.out); have d00 : w4.cell? ⟨w.heap.size, 0, none⟩ = some (.slice ao B.length cap) := (g0 0).trans ((bs.cell (p := ⟨w.heap.size, 0, none⟩) (by show w.heap.size < w3.heap.size; omega)).trans ((hc3 _ _ (by simp; try omega)).trans (by simp [go_sem]))); have d01 : w4.cell? ⟨w.heap.size, 1, none⟩ = some (.slice ao2 S.length cap2) := (g0 1).trans ((bs.cell (p := ⟨w.heap.size, 1, none⟩) (by show w.heap.size < w3.heap.size; omega)).trans ((hc3 _ _ (by simp; try omega)).trans (by simp [go_sem]))); have d20 : w4.cell? ⟨w.heap.size + 1 + 1, 0, none⟩ = some (.slice none 0 0) := (g2 0).trans ((bs.cell (p := ⟨w.heap.size + 1 + 1, 0, none⟩) (by show w.heap.size + 1 + 1 < w3.heap.size; omega)).trans ((hc3 _ _ (by simp; try omega)).trans (by simp [go_sem]))); have d21 : w4.cell? ⟨w.heap.size + 1 + 1, 1, none⟩ = some (.slice none 0 0) := (g2 1).trans ((bs.cell (p := ⟨w.heap.size + 1 + 1, 1, none⟩) (by show w.heap.size + 1 + 1 < w3.heap.size; omega)).trans ((hc3 _ _ (by simp; try omega)).trans (by simp [go_sem]))); have k00 : w4.frozen? ⟨w.heap.size, 0, none⟩ = false := (f0 0).trans ((bs.frozen (p := ⟨w.heap.size, 0, none⟩) (by show w.heap.size < w3.heap.size; omega)).trans ((hf3 _ _ (by simp; try omega)).trans (by simp [go_sem]))); have k01 : w4.frozen? ⟨w.heap.size, 1, none⟩ = false := (f0 1).trans ((bs.frozen (p := ⟨w.heap.size, 1, none⟩) (by show w.heap.size < w3.heap.size; omega)).trans ((hf3 _ _ (by simp; try omega)).trans (by simp [go_sem]))); have k20 : w4.frozen? ⟨w.heap.size + 1 + 1, 0, none⟩ = false := (f2 0).trans ((bs.frozen (p := ⟨w.heap.size + 1 + 1, 0, none⟩) (by show w.heap.size + 1 + 1 < w3.heap.size; omega)).trans ((hf3 _ _ (by simp; try omega)).trans (by simp [go_sem]))); have k21 : w4.frozen? ⟨w.heap.size + 1 + 1, 1, none⟩ = false := (f2 1).trans ((bs.frozen (p := ⟨w.heap.size + 1 + 1, 1, none⟩) (by show w.heap.size + 1 + 1 < w3.heap.size; omega)).trans ((hf3 _ _ (by simp; try omega)).trans (by simp [go_sem]))); clear g0 g2 f0 f2) | fail)
      have nA : HNew w4 base (.slice ao B.length cap) (.slice ad4 (S.length + 1) c4') B (S ++ [⟨p, sx, nd, kb, fr, tl⟩]) := ⟨n4, by rw [cells_stay, List.length_append]; exact ho4⟩
      exact bodyPost_ret (v := .tuple #[.agg #[.slice ao B.length cap, .slice ad4 (S.length + 1) c4'], .int .i64 0]) (by simp [results, Try.results78, go_sem, d20, d21]) rfl ⟨((b4.setCell (p := ⟨w.heap.size, 1, none⟩) hbase _).setCell (p := ⟨w.heap.size + 1 + 1, 0, none⟩) (by show base ≤ w.heap.size + 1 + 1; omega) _).setCell (p := ⟨w.heap.size + 1 + 1, 1, none⟩) (by show base ≤ w.heap.size + 1 + 1; omega) _, Or.inl ⟨HQ.out, HFU.out, ad4, c4', rfl, ((nA.ty t0 (by decide) (by decide) _).ty (t2.setCell _ _) (by decide) (by decide) _).ty ((t2.setCell _ _).setCell _ _) (by decide) (by decide) _⟩⟩

end Go.Proofs.Ytklgadaefngnnaa
