/-
  A house that grows while it is drawn of a cursor.
-/
import Derived.Test.YtklgadaefngnnaaYj
import Derived.Test.YtklgadaefngnnaaIn
import Derived.Test.YtklgadaefngnnaaKa
import Derived.Test.YtklgadaefngnnaaZs
import Derived.Deep.RegionHeld3
import Derived.Deep.RegionLawGrows
namespace Go.Proofs.Ytklgadaefngnnaa
open Go.RowKit Hm
set_option linter.all false

theorem infoBedH : (Try.prog.info? 72).map (fun i => (i.zero, i.size, i.bytes)) = some (some (.agg #[.int .i64 0, .int .i64 0]), 2, 16) := by kernel_rfl
theorem infoStayH : (Try.prog.info? 36).map (fun i => (i.zero, i.size, i.bytes)) = some (some (.agg #[.int .i64 0, .int .i64 0, .int .i64 0, .int .i64 0, .int .i64 0, .int .i64 0]), 6, 48) := by kernel_rfl
theorem info_partsH {P : Program} {t : TypeId} {z : Value} {n b : Nat} (h : (P.info? t).map (fun i => (i.zero, i.size, i.bytes)) = some (some z, n, b)) : ∃ i, P.info? t = some i ∧ i.zero = some z ∧ i.size = n ∧ i.bytes = b := by
  obtain ⟨i, h1, h2⟩ := Option.map_eq_some_iff.1 h
  simp only [Prod.mk.injEq] at h2
  exact ⟨i, h1, h2.1, h2.2.1, h2.2.2⟩
theorem step_append_own {P : Program} {ops : Array Oper} {o : Oper} {a : Act} {w : World} {K : Act → World → Prop} {Q : Exit → Act → World → Prop} {E : Prop} (hg : o.guard = none) (s x : Operand) (t : TypeId)
    (ho : o.op = .call { callee := .builtin .append, args := #[s, x], argTypes := #[t, t] })
    (base : Nat) (e : TypeId) (i : TypeInfo) (z : Value) (size bytes : Nat) (ht : P.underlying t = some (.slice e)) (hi : P.info? e = some i) (hz : i.zero = some z)
    (hsize : i.size = size) (hby : i.bytes = bytes) (hzs : z.cells.size = size) (hsz : 0 < size)
    (v : Value) (n : Nat) (xs : List Value) (hs : a.eval s = v) (hown : w.ownsRow base e size v n xs)
    (ad : Addr) (m c : Nat) (news : List Value) (hx : a.eval x = .slice (some ad) m c) (hl : news.length = m * size) (hnews : ∀ j u, news[j]? = some u → w.cell? (ad.add j) = some u) (h1 : ∀ u ∈ news, u.oneCell' = true)
    (h63 : n + m ≤ maxLen) (hbytes : (n + m) * bytes ≤ 140737488355328) (hbase : base ≤ w.heap.size)
    (h : ∀ v' w', w'.ownsRow base e size v' (n + m) (xs ++ news) → w.grownBy w' v.ownBlock → (v' = .slice none 0 0 ↔ v = .slice none 0 0 ∧ m = 0) → K (a.put o.dst v') w') :
    if Region.wanted o (yielded ops a.tmps) = true then Oper.wp P o a w K Q else E := by
  rw [if_pos (by simp [Region.wanted, hg])]
  exact wp_append_own w s x t ho base e i z size bytes ht hi hz hsize hby hzs hsz v n xs hs hown ad m c news hx hl hnews h1 h63 hbytes hbase h
theorem own_keepG {w w' : World} {g b e s n : Nat} {v : Value} {xs : List Value} (h : w.ownsRow b e s v n xs) (hk : Keep g w w') (hg : g < b) : w'.ownsRow b e s v n xs := by
  obtain ⟨q, ⟨q1, q2⟩ | ⟨G, c, cur, rfl, hG, hh, r⟩⟩ := h
  · exact ⟨q, Or.inl ⟨q1, q2⟩⟩
  · exact ⟨q, Or.inr ⟨G, c, cur, rfl, hG, (hk.block G (Array.getElem?_eq_some_iff.1 hh).1 (by omega)).trans hh, r⟩⟩
theorem own_grownG {w w' : World} {base e s n : Nat} {v : Value} {xs : List Value} {row : Option Nat} (h : w.ownsRow base e s v n xs) (hg : w.grownBy w' row) (hne : ∀ k, v.ownBlock = some k → some k ≠ row) : w'.ownsRow base e s v n xs := by
  obtain ⟨q, ⟨q1, q2⟩ | ⟨g, c, cur, rfl, hb, hh, r⟩⟩ := h
  · exact ⟨q, Or.inl ⟨q1, q2⟩⟩
  · exact ⟨q, Or.inr ⟨g, c, cur, rfl, hb, (hg.block g (Array.getElem?_eq_some_iff.1 hh).1 (hne g rfl)).trans hh, r⟩⟩
/-- The block of a row that is one's own: where it lies, and of which type. -/
theorem own_blk {w : World} {b e s n : Nat} {v : Value} {xs : List Value} (h : w.ownsRow b e s v n xs) {k : Nat} (hk : v.ownBlock = some k) : b ≤ k ∧ k < w.heap.size ∧ ∃ c, w.heap[k]? = some (.cells c e (0, 0)) := by
  obtain ⟨_, ⟨rfl, _⟩ | ⟨g, c, cur, rfl, hb, hh, _⟩⟩ := h
  · cases hk
  · cases hk
    exact ⟨hb, (Array.getElem?_eq_some_iff.1 hh).1, _, hh⟩
theorem own_not {w : World} {b e s n t j : Nat} {v : Value} {xs : List Value} {c : Array Value} (h : w.ownsRow b e s v n xs) (hj : w.heap[j]? = some (.cells c t (0, 0))) (hne : t ≠ e) : some j ≠ v.ownBlock := fun q => by
  obtain ⟨_, _, c', hc'⟩ := own_blk h q.symm
  rw [hj] at hc'
  have := Option.some.inj hc'
  simp only [Obj.cells.injEq] at this
  exact hne this.2.1
/-- The house B, S in the box X, its rows in blocks of the call's own, a box R for what is told, a cursor at g. -/
structure DH (w0 W : World) (g : Nat) (ao : Option Addr) (cap : Nat) (bs : List Int) (R X : Nat) (vb vs : Value) (B : List Bd) (S : List St) : Prop where
  cur : Cur W g ao cap bs
  keep : Keep g w0 W
  x : W.heap[X]? = some (.cells #[vb, vs] 27 (0, 0))
  r : W.heap[R]? = some (.cells #[.slice none 0 0, .slice none 0 0] 27 (0, 0))
  own : HNew W w0.heap.size vb vs B S
  ne : X ≠ R
  old : w0.heap.size ≤ R ∧ w0.heap.size ≤ X
  gg : g < w0.heap.size
section
variable {w0 W W' : World} {g cap R X : Nat} {ao : Option Addr} {bs : List Int} {vb vs : Value} {B : List Bd} {S : List St}
theorem DH.lt (h : DH w0 W g ao cap bs R X vb vs B S) : X < W.heap.size ∧ R < W.heap.size := ⟨(Array.getElem?_eq_some_iff.1 h.x).1, (Array.getElem?_eq_some_iff.1 h.r).1⟩
theorem DH.call (h : DH w0 W g ao cap bs R X vb vs B S) (hc : Cur W' g ao cap bs) (hk : Keep g W W') : DH w0 W' g ao cap bs R X vb vs B S := by
  have ho := h.old
  have hgg := h.gg
  exact ⟨hc, h.keep.trans hk, (hk.block X h.lt.1 (by omega)).trans h.x, (hk.block R h.lt.2 (by omega)).trans h.r, ⟨own_keepG h.own.1 hk hgg, own_keepG h.own.2 hk hgg⟩, h.ne, h.old, h.gg⟩
theorem DH.below (h : DH w0 W g ao cap bs R X vb vs B S) (hb : Below W.heap.size W W') : DH w0 W' g ao cap bs R X vb vs B S :=
  h.call (h.cur.below (hb.mono (by have := h.cur.1; omega))) (Keep.of_below hb)
theorem DH.alloc (h : DH w0 W g ao cap bs R X vb vs B S) (o : Obj) : DH w0 (W.alloc o) g ao cap bs R X vb vs B S := h.below ((Below.refl _ _).alloc (Nat.le_refl _) o)
theorem DH.drewN (h : DH w0 W g ao cap bs R X vb vs B S) (n : Nat) : DH w0 (W.drewN n) g ao cap bs R X vb vs B S := ⟨h.cur, h.keep.drewN n, h.x, h.r, h.own, h.ne, h.old, h.gg⟩
theorem DH.drew (h : DH w0 W g ao cap bs R X vb vs B S) : DH w0 W.drew g ao cap bs R X vb vs B S := h.drewN 1
theorem DH.xc (h : DH w0 W g ao cap bs R X vb vs B S) : W.cell? ⟨X, 0, none⟩ = some vb ∧ W.cell? ⟨X, 1, none⟩ = some vs ∧ W.frozen? ⟨X, 0, none⟩ = false ∧ W.frozen? ⟨X, 1, none⟩ = false := by
  refine ⟨?_, ?_, ?_, ?_⟩ <;> simp [World.cell?, World.frozen?, h.x]
theorem DH.rc (h : DH w0 W g ao cap bs R X vb vs B S) : W.cell? ⟨R, 0, none⟩ = some (.slice none 0 0) ∧ W.cell? ⟨R, 1, none⟩ = some (.slice none 0 0) ∧ W.frozen? ⟨R, 0, none⟩ = false ∧ W.frozen? ⟨R, 1, none⟩ = false := by
  refine ⟨?_, ?_, ?_, ?_⟩ <;> simp [World.cell?, World.frozen?, h.r]
theorem DH.form (h : DH w0 W g ao cap bs R X vb vs B S) : ∃ a1 c1 a2 c2, vb = .slice a1 B.length c1 ∧ vs = .slice a2 S.length c2 := h.own.form
theorem DH.row (h : DH w0 W g ao cap bs R X vb vs B S) : HRw W vb vs B S := h.own.own.row
/-- Another house is laid into the box. -/
theorem DH.set2 {ub us : Value} {B' : List Bd} {S' : List St} (h : DH w0 W g ao cap bs R X vb vs B S) (hn : HNew W w0.heap.size ub us B' S') : DH w0 ((W.setCell ⟨X, 0, none⟩ ub).setCell ⟨X, 1, none⟩ us) g ao cap bs R X ub us B' S' := by
  have ho := h.old
  have hgg := h.gg
  have e0 := setCell_eq_setRow W X 0 _ _ _ ub h.x
  have h0 : (W.setCell ⟨X, 0, none⟩ ub).heap[X]? = some (.cells #[ub, vs] 27 (0, 0)) := by rw [e0]; exact setRow_heap _ _ _ _ _ _ h.x
  have e1 := setCell_eq_setRow (W.setCell ⟨X, 0, none⟩ ub) X 1 _ _ _ us h0
  have hb : Below w0.heap.size W ((W.setCell ⟨X, 0, none⟩ ub).setCell ⟨X, 1, none⟩ us) := ((Below.refl _ W).setCell (p := ⟨X, 0, none⟩) ho.2 _).setCell (p := ⟨X, 1, none⟩) ho.2 _
  have hT : IsT W X 27 := ⟨_, h.x⟩
  refine ⟨h.cur.below (hb.mono (by omega)), ⟨hb.os.trans h.keep.os, hb.tape.trans h.keep.tape, hb.output.trans h.keep.output, Nat.le_trans h.keep.size hb.size, fun b hb' hbg => (hb.block b hb').trans (h.keep.block b hb' hbg)⟩, ?_, ?_, ?_, h.ne, h.old, h.gg⟩
  · rw [e1, setRow_heap _ _ _ _ _ _ h0]; rfl
  · rw [e1, setRow_other _ _ _ _ (fun e => h.ne e.symm), e0, setRow_other _ _ _ _ (fun e => h.ne e.symm)]; exact h.r
  · exact (hn.ty (p := ⟨X, 0, none⟩) hT (by decide) (by decide) _).ty (p := ⟨X, 1, none⟩) (hT.setCell _ _) (by decide) (by decide) _
/-- What lies apart from a row that grows. -/
theorem DH.grown {b e s n : Nat} {v : Value} {xs : List Value} (h : DH w0 W g ao cap bs R X vb vs B S) (hv : W.ownsRow w0.heap.size e s v n xs) (he : e ≠ 27) (hg : W.grownBy W' v.ownBlock) : Cur W' g ao cap bs ∧ Keep g w0 W' ∧ W'.heap[X]? = some (.cells #[vb, vs] 27 (0, 0)) ∧ W'.heap[R]? = some (.cells #[.slice none 0 0, .slice none 0 0] 27 (0, 0)) := by
  have hne : ∀ j, j < w0.heap.size → some j ≠ v.ownBlock := fun j hj q => by have := (own_blk hv q.symm).1; omega
  have hs := h.keep.size
  have hgg := h.gg
  refine ⟨h.cur.below ⟨hg.os, hg.tape, hg.output, hg.size, fun j hj => hg.block j (by omega) (hne j (by omega))⟩, ⟨hg.os.trans h.keep.os, hg.tape.trans h.keep.tape, hg.output.trans h.keep.output, Nat.le_trans hs hg.size, fun j hj hjg => (hg.block j (by omega) (hne j hj)).trans (h.keep.block j hj hjg)⟩, ?_, ?_⟩
  · exact (hg.block X h.lt.1 (own_not hv h.x (Ne.symm he))).trans h.x
  · exact (hg.block R h.lt.2 (own_not hv h.r (Ne.symm he))).trans h.r
/-- A bed more. -/
theorem DH.appB {v' : Value} {b : Bd} (h : DH w0 W g ao cap bs R X vb vs B S) (ho : W'.ownsRow w0.heap.size 72 2 v' (B.length + 1) (cellsL 2 csB B ++ [.int .i64 b.room, .int .i64 b.kind])) (hg : W.grownBy W' vb.ownBlock) : DH w0 (W'.setCell ⟨X, 0, none⟩ v') g ao cap bs R X v' vs (B ++ [b]) S := by
  obtain ⟨k1, k2, k3, k4⟩ := h.grown (b := 0) h.own.1 (by decide) hg
  have hS := own_grownG h.own.2 hg (fun k hk => by
    obtain ⟨_, _, c, hc⟩ := own_blk h.own.2 hk
    exact own_not h.own.1 hc (by decide))
  have hT : IsT W' X 27 := ⟨_, k3⟩
  have ho2 := h.old
  have hgg := h.gg
  have e0 := setCell_eq_setRow W' X 0 _ _ _ v' k3
  have hb : Below w0.heap.size W' (W'.setCell ⟨X, 0, none⟩ v') := (Below.refl _ W').setCell (p := ⟨X, 0, none⟩) ho2.2 _
  refine ⟨k1.below (hb.mono (by omega)), ⟨hb.os.trans k2.os, hb.tape.trans k2.tape, hb.output.trans k2.output, Nat.le_trans k2.size hb.size, fun b hb' hbg => (hb.block b hb').trans (k2.block b hb' hbg)⟩, ?_, ?_, ⟨?_, own_ty hS (p := ⟨X, 0, none⟩) hT (by decide) _⟩, h.ne, h.old, h.gg⟩
  · rw [e0, setRow_heap _ _ _ _ _ _ k3]; rfl
  · rw [e0, setRow_other _ _ _ _ (fun e => h.ne e.symm)]; exact k4
  · have := own_ty ho (p := ⟨X, 0, none⟩) hT (by decide) v'
    rw [List.length_append, cellsL_app]; exact this
/-- A stay more. -/
theorem DH.appS {v' : Value} {s : St} (h : DH w0 W g ao cap bs R X vb vs B S) (ho : W'.ownsRow w0.heap.size 36 6 v' (S.length + 1) (cellsL 6 csS S ++ [.int .i64 s.person, .int .i64 s.sex, .int .i64 s.need, .int .i64 s.bed, .int .i64 s.frm, .int .i64 s.til])) (hg : W.grownBy W' vs.ownBlock) : DH w0 (W'.setCell ⟨X, 1, none⟩ v') g ao cap bs R X vb v' B (S ++ [s]) := by
  obtain ⟨k1, k2, k3, k4⟩ := h.grown (b := 0) h.own.2 (by decide) hg
  have hS := own_grownG h.own.1 hg (fun k hk => by
    obtain ⟨_, _, c, hc⟩ := own_blk h.own.1 hk
    exact own_not h.own.2 hc (by decide))
  have hT : IsT W' X 27 := ⟨_, k3⟩
  have ho2 := h.old
  have hgg := h.gg
  have e0 := setCell_eq_setRow W' X 1 _ _ _ v' k3
  have hb : Below w0.heap.size W' (W'.setCell ⟨X, 1, none⟩ v') := (Below.refl _ W').setCell (p := ⟨X, 1, none⟩) ho2.2 _
  refine ⟨k1.below (hb.mono (by omega)), ⟨hb.os.trans k2.os, hb.tape.trans k2.tape, hb.output.trans k2.output, Nat.le_trans k2.size hb.size, fun b hb' hbg => (hb.block b hb').trans (k2.block b hb' hbg)⟩, ?_, ?_, ⟨own_ty hS (p := ⟨X, 1, none⟩) hT (by decide) _, ?_⟩, h.ne, h.old, h.gg⟩
  · rw [e0, setRow_heap _ _ _ _ _ _ k3]; rfl
  · rw [e0, setRow_other _ _ _ _ (fun e => h.ne e.symm)]; exact k4
  · have := own_ty ho (p := ⟨X, 1, none⟩) hT (by decide) v'
    rw [List.length_append, cellsL_app]; exact this
/-- What is told: the box R holds the house. -/
theorem DH.told (h : DH w0 W g ao cap bs R X vb vs B S) : ((W.setCell ⟨R, 0, none⟩ vb).setCell ⟨R, 1, none⟩ vs).cell? ⟨R, 0, none⟩ = some vb ∧ ((W.setCell ⟨R, 0, none⟩ vb).setCell ⟨R, 1, none⟩ vs).cell? ⟨R, 1, none⟩ = some vs ∧ HNew ((W.setCell ⟨R, 0, none⟩ vb).setCell ⟨R, 1, none⟩ vs) w0.heap.size vb vs B S ∧ Cur ((W.setCell ⟨R, 0, none⟩ vb).setCell ⟨R, 1, none⟩ vs) g ao cap bs ∧ Keep g w0 ((W.setCell ⟨R, 0, none⟩ vb).setCell ⟨R, 1, none⟩ vs) := by
  have ho := h.old
  have hgg := h.gg
  have e0 := setCell_eq_setRow W R 0 _ _ _ vb h.r
  have h0 : (W.setCell ⟨R, 0, none⟩ vb).heap[R]? = some (.cells #[vb, .slice none 0 0] 27 (0, 0)) := by rw [e0]; exact setRow_heap _ _ _ _ _ _ h.r
  have e1 := setCell_eq_setRow (W.setCell ⟨R, 0, none⟩ vb) R 1 _ _ _ vs h0
  have h1 : ((W.setCell ⟨R, 0, none⟩ vb).setCell ⟨R, 1, none⟩ vs).heap[R]? = some (.cells #[vb, vs] 27 (0, 0)) := by rw [e1, setRow_heap _ _ _ _ _ _ h0]; rfl
  have hb : Below w0.heap.size W ((W.setCell ⟨R, 0, none⟩ vb).setCell ⟨R, 1, none⟩ vs) := ((Below.refl _ W).setCell (p := ⟨R, 0, none⟩) ho.1 _).setCell (p := ⟨R, 1, none⟩) ho.1 _
  have hT : IsT W R 27 := ⟨_, h.r⟩
  refine ⟨by simp [World.cell?, h1], by simp [World.cell?, h1], (h.own.ty (p := ⟨R, 0, none⟩) hT (by decide) (by decide) _).ty (p := ⟨R, 1, none⟩) (hT.setCell _ _) (by decide) (by decide) _, h.cur.below (hb.mono (by omega)), ⟨hb.os.trans h.keep.os, hb.tape.trans h.keep.tape, hb.output.trans h.keep.output, Nat.le_trans h.keep.size hb.size, fun b hb' hbg => (hb.block b hb').trans (h.keep.block b hb' hbg)⟩⟩
end
/-- The beds of a drawn house. -/
def K7 : List Int := [1, 2, 1, 3, 2, 1, 1]
def bed7 (k : Nat) : Bd := ⟨if K7.getD k 0 = 3 then 50 + (k : Int) else (k : Int) / 2, K7.getD k 0⟩
def B7 (i : Nat) : List Bd := (List.range i).map bed7
theorem B7_succ (i : Nat) : B7 (i + 1) = B7 i ++ [bed7 i] := by simp [B7, List.range_succ]
theorem B7_len (i : Nat) : (B7 i).length = i := by simp [B7]
theorem ok7 : Ok (B7 7) [] := by
  have e : B7 7 = [⟨0, 1⟩, ⟨0, 2⟩, ⟨1, 1⟩, ⟨53, 3⟩, ⟨2, 2⟩, ⟨2, 1⟩, ⟨3, 1⟩] := rfl
  refine ⟨by rw [B7_len]; omega, by simp, ?_, fun i x hi => absurd hi (Nat.not_lt_zero _), fun i x hi => absurd hi (Nat.not_lt_zero _)⟩
  rw [e]
  intro i x hi hx
  simp only [List.length_cons, List.length_nil] at hi
  rcases (show i = 0 ∨ i = 1 ∨ i = 2 ∨ i = 3 ∨ i = 4 ∨ i = 5 ∨ i = 6 by omega) with rfl | rfl | rfl | rfl | rfl | rfl | rfl <;> (obtain rfl := Option.some.inj hx) <;> refine ⟨by decide, fun k y hk hy => ?_⟩
  all_goals (rcases (show k = 0 ∨ k = 1 ∨ k = 2 ∨ k = 3 ∨ k = 4 ∨ k = 5 by omega) with rfl | rfl | rfl | rfl | rfl | rfl) <;> first | omega | (obtain rfl := Option.some.inj hy; decide)
end Go.Proofs.Ytklgadaefngnnaa
