/-
  What a loop over the known results keeps: two numbers, a list that grows, the last one of note; and what comes of it.
-/
import Derived.Test.YtecljmpojninfaaT11
import Derived.Test.YtecljmpojninfaaT9
namespace Go.Proofs.Ytecljmpojninfaa
open Go.RowKit Go.Shelf Va Lb
set_option linter.all false

/-- The round of Calls. -/
def ccStep (lo hi : Int) (s : Rs × List Int) (x : Nat × Rs) : Rs × List Int :=
  if (decide (x.2.v < lo) || decide (hi < x.2.v)) && !(s.1.k && decide (wrap64 (x.2.t - s.1.t) < 60)) then (x.2, s.2 ++ [(x.1 : Int)]) else s
def ccOf (lo hi : Int) (l : List (Nat × Rs)) : Rs × List Int := l.foldl (ccStep lo hi) (⟨0, 0, false⟩, [])
theorem ccOf_snoc (lo hi : Int) (l : List (Nat × Rs)) (x : Nat × Rs) : ccOf lo hi (l ++ [x]) = ccStep lo hi (ccOf lo hi l) x := by simp [ccOf]
/-- The round of Delta. -/
def ddB (m wi : Int) (c r : Rs) : Bool := (c.k && decide (wrap64 (r.t - c.t) ≤ wi)) && decide (m < max (wrap64 (r.v - c.v)) (wrap64 (c.v - r.v)))
def ddStep (m wi : Int) (s : Rs × List Int) (x : Nat × Rs) : Rs × List Int := (x.2, if ddB m wi s.1 x.2 then s.2 ++ [(x.1 : Int)] else s.2)
def ddOf (m wi : Int) (l : List (Nat × Rs)) : Rs × List Int := l.foldl (ddStep m wi) (⟨0, 0, false⟩, [])
theorem ddOf_snoc (m wi : Int) (l : List (Nat × Rs)) (x : Nat × Rs) : ddOf m wi (l ++ [x]) = ddStep m wi (ddOf m wi l) x := by simp [ddOf]

theorem cc_len (lo hi : Int) (s : Rs × List Int) (x : Nat × Rs) : (ccStep lo hi s x).2.length ≤ s.2.length + 1 := by
  unfold ccStep
  split
  · simp
  · omega
theorem dd_len (m wi : Int) (s : Rs × List Int) (x : Nat × Rs) : (ddStep m wi s x).2.length ≤ s.2.length + 1 := by
  unfold ddStep
  dsimp only
  split
  · simp
  · omega

def rsOf (o : Option (Nat × Rs)) : Rs := match o with | none => ⟨0, 0, false⟩ | some p => p.2
theorem wrapS {x : Int} (h : -1000000000 ≤ x) (h2 : x ≤ 1000000000) : wrap64 x = x := by unfold wrap64; omega

theorem cc_calls {l : List Rs} (hok : ResOk l) (lo hi : Int) : ∀ i, ccOf lo hi (knTo l i) = (rsOf (lastC l lo hi i), callsTo l lo hi i)
  | 0 => rfl
  | i + 1 => by
    have ih := cc_calls hok lo hi i
    cases hr : l[i]? with
    | none => simp only [knTo, callsTo, lastC, hr]; exact ih
    | some r =>
      cases hk : r.k with
      | false =>
        have hf : farB lo hi r = false := by simp [farB, hk]
        rw [knTo_no hr hk, (calls_no hr hf).1, (calls_no hr hf).2]
        exact ih
      | true =>
        rw [knTo_yes hr hk, ccOf_snoc, ih]
        have hrb := res_bd hok hr
        cases hf : farB lo hi r with
        | false =>
          have hf2 : (decide (r.v < lo) || decide (hi < r.v)) = false := by simpa [farB, hk] using hf
          rw [(calls_no hr hf).1, (calls_no hr hf).2]
          simp only [ccStep, hf2, Bool.false_and, Bool.false_eq_true, if_false]
        | true =>
          have hf2 : (decide (r.v < lo) || decide (hi < r.v)) = true := by simpa [farB, hk] using hf
          rcases calls_last (l := l) (lo := lo) (hi := hi) (i := i) with ⟨-, q2⟩ | ⟨L', j, p, -, q2, q3, q4, q5⟩
          · rw [(calls_none hr hf q2).1, (calls_none hr hf q2).2, q2]
            simp only [ccStep, hf2, rsOf, Bool.false_and, Bool.not_false, Bool.and_self, if_true]
          · have hpb := res_bd hok q4
            have hw := wrapS (x := r.t - p.t) (by omega) (by omega)
            by_cases hn : r.t - p.t < 60
            · rw [(calls_near hr hf q2 hn).1, (calls_near hr hf q2 hn).2, q2]
              simp only [ccStep, hf2, rsOf, q5, hw, decide_eq_true hn, Bool.and_self, Bool.not_true, Bool.and_false, Bool.false_eq_true, if_false]
            · rw [(calls_far hr hf q2 hn).1, (calls_far hr hf q2 hn).2, q2]
              simp only [ccStep, hf2, rsOf, q5, hw, decide_eq_false hn, Bool.and_false, Bool.not_false, Bool.and_self, if_true]
theorem dd_delta {l : List Rs} (hok : ResOk l) (m wi : Int) : ∀ i, ddOf m wi (knTo l i) = (rsOf (lastK l i), deltaTo l m wi i)
  | 0 => rfl
  | i + 1 => by
    have ih := dd_delta hok m wi i
    cases hr : l[i]? with
    | none => simp only [knTo, deltaTo, lastK, hr]; exact ih
    | some r =>
      cases hk : r.k with
      | false =>
        rw [knTo_no hr hk, delta_no hr hk, lastK_no hr hk]
        exact ih
      | true =>
        rw [knTo_yes hr hk, ddOf_snoc, ih, lastK_yes hr hk]
        have hrb := res_bd hok hr
        cases hq : lastK l i with
        | none =>
          rw [delta_none hr hq]
          simp [ddStep, ddB, rsOf]
        | some jp =>
          obtain ⟨j, p⟩ := jp
          obtain ⟨q1, q2, q3⟩ := lastK_some hq
          have hpb := res_bd hok q2
          rw [delta_some hr hk hq]
          have hw1 := wrapS (x := r.t - p.t) (by omega) (by omega)
          have hw2 := wrapS (x := r.v - p.v) (by omega) (by omega)
          have hw3 := wrapS (x := p.v - r.v) (by omega) (by omega)
          have e : ddB m wi p r = dlB m wi p r := by
            unfold ddB dlB
            rw [q3, hw1, hw2, hw3, Bool.true_and]
            congr 1
            rw [Bool.eq_iff_iff]
            simp only [decide_eq_true_eq, Bool.or_eq_true]
            omega
          simp only [ddStep, rsOf, e]

theorem grownBy_setT (w : World) (b i : Nat) (v : Value) : w.grownBy (w.setCell ⟨b, i, none⟩ v) (some b) :=
  ⟨by simp [World.setCell], by simp [World.setCell], by simp [World.setCell], by simp [World.setCell], fun k _ h => by simp only [World.setCell]; rw [Array.getElem?_modify]; split; (rename_i e; exact absurd (by rw [e]) h); rfl⟩
/-- What the loop keeps. -/
structure CI (w : World) (B4 B5 B7 B8 Bs : Nat) (lo hi : Int) (sl : Value) (s : Rs × List Int) (W : World) : Prop where
  b4 : PB W B4 #[.int .i64 lo] 2
  b5 : PB W B5 #[.int .i64 hi] 2
  row : ∃ ad cc, PB W B7 #[.slice ad s.2.length cc] 24 ∧ W.ownsRow (w.heap.size + 1 + 1) 2 1 (.slice ad s.2.length cc) s.2.length (s.2.map fun z => Value.int .i64 z)
  b8 : PB W B8 #[.int .i64 s.1.v, .int .i64 s.1.t, .bool s.1.k] 46
  bs : PB W Bs #[sl] 41
  below : Below w.heap.size w W

section
variable {w W W' : World} {B4 B5 B7 B8 Bs : Nat} {lo hi : Int} {sl : Value} {s : Rs × List Int}
theorem PB.kept {B : Nat} {vs : Array Value} {t : TypeId} (h : PB W B vs t) {row : Option Nat} (hg : W.grownBy W' row) (hr : ∀ r, row = some r → ∃ o : Obj, W.heap[r]? = some o ∧ o.isCells = false) : PB W' B vs t :=
  (grownBy_keeps_cells hg hr h rfl).trans h
theorem ownsRow_keptT {base e size k : Nat} {v : Value} {xs : List Value} (h : W.ownsRow base e size v k xs) {row : Option Nat} (hg : W.grownBy W' row) (hr : ∀ r, row = some r → ∃ o : Obj, W.heap[r]? = some o ∧ o.isCells = false) : W'.ownsRow base e size v k xs := by
  refine h.kept hg ?_
  rcases h.2 with ⟨rfl, _⟩ | ⟨g, cap, cur, rfl, _, hgb, _⟩
  · exact .inl rfl
  · refine .inr fun e' => ?_
    obtain ⟨o, ho, hw⟩ := hr g (by simpa [Value.ownBlock] using e'.symm)
    rw [hgb] at ho; cases ho; cases hw
theorem CI.kept (h : CI w B4 B5 B7 B8 Bs lo hi sl s W) {row : Option Nat} (hg : W.grownBy W' row) (hr : ∀ r, row = some r → w.heap.size ≤ r ∧ ∃ o : Obj, W.heap[r]? = some o ∧ o.isCells = false) : CI w B4 B5 B7 B8 Bs lo hi sl s W' := by
  have hr' := fun r e => (hr r e).2
  obtain ⟨ad, cc, q1, q2⟩ := h.row
  exact ⟨h.b4.kept hg hr', h.b5.kept hg hr', ⟨ad, cc, q1.kept hg hr', ownsRow_keptT q2 hg hr'⟩, h.b8.kept hg hr', h.bs.kept hg hr', h.below.grown hg h.below.size (fun k e => (hr k e).1)⟩
theorem CI.grow (h : CI w B4 B5 B7 B8 Bs lo hi sl s W) (hb : Below W.heap.size W W') : CI w B4 B5 B7 B8 Bs lo hi sl s W' := by
  obtain ⟨ad, cc, q1, q2⟩ := h.row
  exact ⟨h.b4.below hb, h.b5.below hb, ⟨ad, cc, q1.below hb, ownW_below q2 hb⟩, h.b8.below hb, h.bs.below hb, h.below.trans (hb.mono h.below.size)⟩
theorem CI.alloc (h : CI w B4 B5 B7 B8 Bs lo hi sl s W) (o : Obj) : CI w B4 B5 B7 B8 Bs lo hi sl s (W.alloc o) := h.grow ((Below.refl _ _).alloc (Nat.le_refl _) o)
theorem CI.from {B : Nat} (hB : w.heap.size ≤ B) (f : List (Nat × Rs) → Rs × List Int) : OwnFrom B (fun pre W => CI w B4 B5 B7 B8 Bs lo hi sl (f pre) W) :=
  fun s W W' row hs hg hr => hs.kept hg (fun r e => ⟨Nat.le_trans hB (hr r e).1, (hr r e).2⟩)
theorem pb_ne {B C : Nat} {vs us : Array Value} {t u : TypeId} (h : PB W B vs t) (k : PB W C us u) (hn : t ≠ u) : B ≠ C := fun e => by
  subst e
  have : some (Obj.cells vs t) = some (Obj.cells us u) := h.symm.trans k
  simp only [Option.some.injEq, Obj.cells.injEq] at this
  exact hn this.2.1
theorem own_ne {B base size n : Nat} {vs : Array Value} {t e : TypeId} {v : Value} {xs : List Value} (h : PB W B vs t) (k : W.ownsRow base e size v n xs) (hn : t ≠ e) : v.ownBlock ≠ some B := fun q => by
  rcases k.2 with ⟨rfl, _⟩ | ⟨g, cap, cur, rfl, _, hgb, _⟩
  · cases q
  · obtain rfl : g = B := by simpa [Value.ownBlock] using q
    have : some (Obj.cells vs t) = some (Obj.cells cur e) := h.symm.trans hgb
    simp only [Option.some.injEq, Obj.cells.injEq] at this
    exact hn this.2.1
theorem PB.own {B base size n : Nat} {vs : Array Value} {t e : TypeId} {v : Value} {xs : List Value} (h : PB W B vs t) (k : v.ownBlock ≠ some B) (hg : W.grownBy W' v.ownBlock) : PB W' B vs t :=
  (hg.block B h.lt (fun q => k q.symm)).trans h
/-- The last one of note is another. -/
theorem CI.note (h : CI w B4 B5 B7 B8 Bs lo hi sl s W) (h4 : B4 < w.heap.size + 1 + 1) (r : Rs) (hB : w.heap.size ≤ B8) : CI w B4 B5 B7 B8 Bs lo hi sl (r, s.2) (((W.setCell ⟨B8, 0, none⟩ (.int .i64 r.v)).setCell ⟨B8, 1, none⟩ (.int .i64 r.t)).setCell ⟨B8, 2, none⟩ (.bool r.k)) := by
  obtain ⟨ad, cc, q1, q2⟩ := h.row
  have n4 := pb_ne h.b8 h.b4 (by decide)
  have n5 := pb_ne h.b8 h.b5 (by decide)
  have n7 := pb_ne h.b8 q1 (by decide)
  have ns := pb_ne h.b8 h.bs (by decide)
  have no := own_ne h.b8 q2 (by decide)
  have far3 : ∀ {B : Nat} {vs : Array Value} {t : TypeId}, B8 ≠ B → PB W B vs t → PB (((W.setCell ⟨B8, 0, none⟩ (.int .i64 r.v)).setCell ⟨B8, 1, none⟩ (.int .i64 r.t)).setCell ⟨B8, 2, none⟩ (.bool r.k)) B vs t := fun hn q => ((q.far hn _ _).far hn _ _).far hn _ _
  have hgb : ∀ (W : World) (j : Nat) (v : Value), W.grownBy (W.setCell ⟨B8, j, none⟩ v) (some B8) := fun W j v => grownBy_setT W B8 j v
  refine ⟨far3 n4 h.b4, far3 n5 h.b5, ⟨ad, cc, far3 n7 q1, ?_⟩, ?_, far3 ns h.bs, ?_⟩
  · exact ((q2.kept (hgb _ _ _) (.inr no)).kept (hgb _ _ _) (.inr no)).kept (hgb _ _ _) (.inr no)
  · exact ((h.b8.put 0 _ rfl).put 1 _ rfl).put 2 _ rfl
  · exact ((h.below.setCell hB _).setCell hB _).setCell hB _
/-- The list grows. -/
theorem CI.push (h : CI w B4 B5 B7 B8 Bs lo hi sl s W) (h4 : B4 < w.heap.size + 1 + 1) (h5 : B5 < w.heap.size + 1 + 1) (hB : w.heap.size ≤ B7) {ad : Option Addr} {cc : Nat} (q1 : PB W B7 #[.slice ad s.2.length cc] 24) (q2 : W.ownsRow (w.heap.size + 1 + 1) 2 1 (.slice ad s.2.length cc) s.2.length (s.2.map fun z => Value.int .i64 z)) {z : Int} {W5 : World} {ad5 : Option Addr} {c5 : Nat} (ho5 : W5.ownsRow (w.heap.size + 1 + 1) 2 1 (.slice ad5 (s.2.length + 1) c5) (s.2.length + 1) ((s.2.map fun z => Value.int .i64 z) ++ [.int .i64 z])) (hg5 : (W.alloc (.cells #[.int .i64 z] 2)).grownBy W5 (Value.slice ad s.2.length cc).ownBlock) :
    CI w B4 B5 B7 B8 Bs lo hi sl (s.1, s.2 ++ [z]) (W5.setCell ⟨B7, 0, none⟩ (.slice ad5 (s.2.length + 1) c5)) ∧ KpK w.heap.size Bs W (W5.setCell ⟨B7, 0, none⟩ (.slice ad5 (s.2.length + 1) c5)) ∧ KeepsOthers W (W5.setCell ⟨B7, 0, none⟩ (.slice ad5 (s.2.length + 1) c5)) := by
  have ha := h.alloc (.cells #[.int .i64 z] 2)
  have q2a := ownW_below q2 ((Below.refl _ W).alloc (Nat.le_refl _) (.cells #[.int .i64 z] 2))
  have q1a := q1.alloc (.cells #[.int .i64 z] 2)
  have lt := ownW_lt q2a
  have k4 : (Value.slice ad s.2.length cc).ownBlock ≠ some B4 := fun q => by have := (lt _ q).1; omega
  have k5 : (Value.slice ad s.2.length cc).ownBlock ≠ some B5 := fun q => by have := (lt _ q).1; omega
  have k7 := own_ne q1a q2a (by decide)
  have k8 := own_ne ha.b8 q2a (by decide)
  have ks := own_ne ha.bs q2a (by decide)
  have p4 := ha.b4.own (base := 0) (size := 0) (n := 0) (e := 0) (xs := []) k4 hg5
  have p5 := ha.b5.own (base := 0) (size := 0) (n := 0) (e := 0) (xs := []) k5 hg5
  have p7 := q1a.own (base := 0) (size := 0) (n := 0) (e := 0) (xs := []) k7 hg5
  have p8 := ha.b8.own (base := 0) (size := 0) (n := 0) (e := 0) (xs := []) k8 hg5
  have ps := ha.bs.own (base := 0) (size := 0) (n := 0) (e := 0) (xs := []) ks hg5
  have n4 := pb_ne p7 p4 (by decide)
  have n5 := pb_ne p7 p5 (by decide)
  have n8 := pb_ne p7 p8 (by decide)
  have ns := pb_ne p7 ps (by decide)
  have no := own_ne p7 ho5 (by decide)
  have bW : Below w.heap.size W (W.alloc (.cells #[.int .i64 z] 2)) := (Below.refl _ _).alloc h.below.size _
  have bW5 : Below w.heap.size W W5 := bW.grown hg5 (Nat.le_trans h.below.size bW.size) (fun k hk => by have := (lt k hk).1; omega)
  have bW6 := bW5.setCell (p := ⟨B7, 0, none⟩) hB (.slice ad5 (s.2.length + 1) c5)
  refine ⟨⟨p4.far n4 _ _, p5.far n5 _ _, ⟨ad5, c5, ?_, ?_⟩, p8.far n8 _ _, ps.far ns _ _, h.below.trans bW6⟩, ⟨bW6, fun vs t q => ?_⟩, ?_⟩
  · have := p7.put 0 (.slice ad5 (s.2.length + 1) c5) (vs' := #[.slice ad5 (s.2.length + 1) c5]) rfl
    rw [List.length_append]; exact this
  · rw [List.length_append, List.map_append]; exact ho5.kept (grownBy_setT _ B7 0 _) (.inr no)
  · have e : some (Obj.cells vs t) = some (Obj.cells #[sl] 41) := q.symm.trans h.bs
    simp only [Option.some.injEq, Obj.cells.injEq] at e
    rw [e.1, e.2.1]
    exact ps.far ns _ _
  · refine ((KeepsOthers.alloc W _).trans (KeepsOthers.of_grownBy hg5 ?_)).trans (KeepsOthers.setCell _ _ _)
    intro j o hj ho
    rcases q2a.2 with ⟨e, _⟩ | ⟨g, cap, cur, e, _, hgb, _⟩
    · rw [e] at hj; cases hj
    · rw [e] at hj
      obtain rfl : g = j := by simpa [Value.ownBlock] using hj
      rw [hgb] at ho; cases ho; rfl
theorem CI.note_keeps (h : CI w B4 B5 B7 B8 Bs lo hi sl s W) (r : Rs) (hB : w.heap.size ≤ B8) : KpK w.heap.size Bs W (((W.setCell ⟨B8, 0, none⟩ (.int .i64 r.v)).setCell ⟨B8, 1, none⟩ (.int .i64 r.t)).setCell ⟨B8, 2, none⟩ (.bool r.k)) ∧ KeepsOthers W (((W.setCell ⟨B8, 0, none⟩ (.int .i64 r.v)).setCell ⟨B8, 1, none⟩ (.int .i64 r.t)).setCell ⟨B8, 2, none⟩ (.bool r.k)) := by
  have ns := pb_ne h.b8 h.bs (by decide)
  refine ⟨⟨(((Below.refl _ W).setCell hB _).setCell hB _).setCell hB _, fun vs t q => ?_⟩, ((KeepsOthers.setCell _ _ _).trans (KeepsOthers.setCell _ _ _)).trans (KeepsOthers.setCell _ _ _)⟩
  have e : some (Obj.cells vs t) = some (Obj.cells #[sl] 41) := q.symm.trans h.bs
  simp only [Option.some.injEq, Obj.cells.injEq] at e
  rw [e.1, e.2.1]
  exact ((h.bs.far ns _ _).far ns _ _).far ns _ _
theorem KpK.grow {n₀ : Nat} (hb : Below W.heap.size W W') (hn : n₀ ≤ W.heap.size) : KpK n₀ Bs W W' := ⟨hb.mono hn, fun vs t q => q.below hb⟩
end
end Go.Proofs.Ytecljmpojninfaa
