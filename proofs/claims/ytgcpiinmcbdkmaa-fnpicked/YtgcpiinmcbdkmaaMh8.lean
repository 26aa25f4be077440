/-
  Merged: Gw Q21 Pk3.
-/
import Derived.Test.YtgcpiinmcbdkmaaMh2
import Derived.Laws.AppendOwn
import Derived.Laws.OwnMore
import Derived.Test.YtgcpiinmcbdkmaaMh7
import Derived.Deep.AppendSrc
import Derived.Test.YtgcpiinmcbdkmaaMh1
import Derived.Test.YtgcpiinmcbdkmaaMh3
namespace Go.Proofs.Ytgcpiinmcbdkmaa
open Go.RowKit Va Go.Maps
set_option linter.unusedVariables false
theorem ownW_new (w : World) (t : TypeId) (s : Nat) : (w.alloc (.cells #[] t)).ownsRow w.heap.size t s (.slice (some ⟨w.heap.size, 0, none⟩) 0 0) 0 [] :=
  ⟨by simp, .inr ⟨w.heap.size, 0, #[], rfl, Nat.le_refl _, (MapKept.heap_alloc w _).1, Nat.le_refl _, Nat.zero_le _, by simp, by simp⟩⟩
theorem ownW_lt {w : World} {b e s n : Nat} {v : Value} {xs : List Value} (h : w.ownsRow b e s v n xs) : ∀ k, v.ownBlock = some k → b ≤ k ∧ k < w.heap.size := by
  obtain ⟨_, ⟨rfl, _⟩ | ⟨g, cap, cur, rfl, hb, hh, _⟩⟩ := h
  · intro k hk; cases hk
  · intro k hk
    obtain rfl : g = k := by simpa [Value.ownBlock] using hk
    exact ⟨hb, (Array.getElem?_eq_some_iff.1 hh).1⟩
theorem ownW_slice {w : World} {b e s n : Nat} {v : Value} {xs : List Value} (h : w.ownsRow b e s v n xs) : ∃ ad c, v = .slice ad n c := by
  obtain ⟨_, ⟨rfl, rfl⟩ | ⟨g, cap, cur, rfl, _⟩⟩ := h
  · exact ⟨_, _, rfl⟩
  · exact ⟨_, _, rfl⟩
theorem ownW_below {w w' : World} {b e s n : Nat} {v : Value} {xs : List Value} (h : w.ownsRow b e s v n xs) (hb : Below w.heap.size w w') : w'.ownsRow b e s v n xs := by
  obtain ⟨q, ⟨q1, q2⟩ | ⟨g, c, cur, rfl, hg, hh, r⟩⟩ := h
  · exact ⟨q, Or.inl ⟨q1, q2⟩⟩
  · exact ⟨q, Or.inr ⟨g, c, cur, rfl, hg, (hb.block g (Array.getElem?_eq_some_iff.1 hh).1).trans hh, r⟩⟩
theorem cell_oneW (w : World) (a : Value) (t : TypeId) : ∀ (j : Nat) (u : Value), [a][j]? = some u → (w.alloc (.cells #[a] t)).cell? ((⟨w.heap.size, 0, none⟩ : Addr).add j) = some u := fun j u hu => by
  have e0 : (w.alloc (Obj.cells #[a] t)).heap[w.heap.size]? = some (Obj.cells #[a] t) := (MapKept.heap_alloc w _).1
  rw [Addr.add_lit, Nat.zero_add]
  simp only [World.cell?, e0]
  simpa using hu
theorem info_partsW {P : Program} {t : TypeId} {z : Value} {n b : Nat} (h : (P.info? t).map (fun i => (i.zero, i.size, i.bytes)) = some (some z, n, b)) : ∃ i, P.info? t = some i ∧ i.zero = some z ∧ i.size = n ∧ i.bytes = b := by
  obtain ⟨i, h1, h2⟩ := Option.map_eq_some_iff.1 h
  simp only [Prod.mk.injEq] at h2
  exact ⟨i, h1, h2.1, h2.2.1, h2.2.2⟩
theorem infoW64 : (Try.prog.info? 2).map (fun i => (i.zero, i.size, i.bytes)) = some (some (.int .i64 0), 1, 8) := by kernel_rfl
theorem ownW_base {w : World} {b b' e s n : Nat} {v : Value} {xs : List Value} (h : w.ownsRow b e s v n xs) (hb : b' ≤ b) : w.ownsRow b' e s v n xs := by
  obtain ⟨q, ⟨q1, q2⟩ | ⟨g, c, cur, rfl, hg, r⟩⟩ := h
  · exact ⟨q, Or.inl ⟨q1, q2⟩⟩
  · exact ⟨q, Or.inr ⟨g, c, cur, rfl, Nat.le_trans hb hg, r⟩⟩
end Go.Proofs.Ytgcpiinmcbdkmaa

namespace Go.Proofs.Ytgcpiinmcbdkmaa
open Go.RowKit Va Bl
set_option linter.all false
theorem PB.neQ {W : World} {B : Nat} {vs : Array Value} {t : TypeId} (h : PB W B vs t) {b e s n : Nat} {v : Value} {xs : List Value} (ho : W.ownsRow b e s v n xs) (hne : t ≠ e) : ∀ k, v.ownBlock = some k → k ≠ B := by
  intro k hk hkB
  subst hkB
  obtain ⟨_, ⟨rfl, _⟩ | ⟨g, c, cur, rfl, _, hh, _⟩⟩ := ho
  · cases hk
  · obtain rfl : g = k := by simpa [Value.ownBlock] using hk
    rw [PB, hh] at h
    simp only [Option.some.injEq, Obj.cells.injEq] at h
    exact hne h.2.1.symm
theorem PB.grownQ {W W' : World} {B : Nat} {vs : Array Value} {t : TypeId} {r : Option Nat} (h : PB W B vs t) (hg : W.grownBy W' r) (hr : ∀ k, r = some k → k ≠ B) : PB W' B vs t :=
  (hg.block B h.lt (fun e => hr B e.symm rfl)).trans h
theorem grownQ {w0 w w' : World} {v : Value} {b : Nat} (h : Below b w0 w) (hl : b ≤ w.heap.size) (hg : w.grownBy w' v.ownBlock) (hv : ∀ k, v.ownBlock = some k → b ≤ k) : Below b w0 w' := h.grown hg hl (fun k hk => hv k hk)
theorem ownQ_grown {base e s n : Nat} {w w' : World} {v : Value} {xs : List Value} {r : Option Nat} (ho : w.ownsRow base e s v n xs) (hg : w.grownBy w' r) (hr : ∀ k, v.ownBlock = some k → r ≠ some k) : w'.ownsRow base e s v n xs := by
  obtain ⟨q, ⟨q1, q2⟩ | ⟨g, c, cur, rfl, hgb, hh, r'⟩⟩ := ho
  · exact ⟨q, Or.inl ⟨q1, q2⟩⟩
  · exact ⟨q, Or.inr ⟨g, c, cur, rfl, hgb, (hg.block g (Array.getElem?_eq_some_iff.1 hh).1 (fun e => hr g rfl e.symm)).trans hh, r'⟩⟩
theorem ownQ_set {w : World} {base e s n : Nat} {v : Value} {xs : List Value} (h : w.ownsRow base e s v n xs) {b o : Nat} (hb : ∀ k, v.ownBlock = some k → k ≠ b) (u : Value) : (w.setCell ⟨b, o, none⟩ u).ownsRow base e s v n xs := by
  obtain ⟨q, ⟨q1, q2⟩ | ⟨g, c, cur, rfl, hg, hh, r⟩⟩ := h
  · exact ⟨q, Or.inl ⟨q1, q2⟩⟩
  · exact ⟨q, Or.inr ⟨g, c, cur, rfl, hg, by rw [Below.heap_setCell _ _ _ _ (by show g ≠ b; exact hb g rfl)]; exact hh, r⟩⟩
theorem ownQ_apart {w : World} {b1 e1 s1 n1 b2 e2 s2 n2 : Nat} {v1 v2 : Value} {x1 x2 : List Value} (h1 : w.ownsRow b1 e1 s1 v1 n1 x1) (h2 : w.ownsRow b2 e2 s2 v2 n2 x2) (hne : e1 ≠ e2) : ∀ k, v1.ownBlock = some k → v2.ownBlock ≠ some k := by
  intro k hk hk2
  obtain ⟨_, ⟨rfl, _⟩ | ⟨g, c, cur, rfl, _, hh, _⟩⟩ := h1
  · cases hk
  · obtain rfl : g = k := by simpa [Value.ownBlock] using hk
    exact PB.neQ (W := w) (B := g) hh h2 hne g hk2 rfl
theorem ownQ_cell {w : World} {base e s n : Nat} {v : Value} {xs : List Value} (h : w.ownsRow base e s v n xs) (hx : xs.length = n * s) {j : Nat} {u : Value} (hu : xs[j]? = some u) : ∃ g c, v = .slice (some ⟨g, 0, none⟩) n c ∧ base ≤ g ∧ g < w.heap.size ∧ n ≤ c ∧ w.cell? ⟨g, j, none⟩ = some u := by
  have hj := get_lt' hu
  obtain ⟨_, ⟨rfl, h2⟩ | ⟨g, c, cur, rfl, hb, hg, hc, hm, hs, ht⟩⟩ := h
  · subst h2; omega
  · refine ⟨g, c, rfl, hb, (Array.getElem?_eq_some_iff.1 hg).1, hc, ?_⟩
    rw [← hu, ← ht, List.getElem?_take, if_pos (by omega), Array.getElem?_toList]
    simp only [World.cell?, hg]
    rfl
def cells6 (p : Ut × Value) : List Value := [.int .i64 p.1.id, .int .i64 p.1.grp, p.2, .int .i64 p.1.til, .int .i64 p.1.st, .int .i64 p.1.fr]
def cellsU (L : List (Ut × Value)) : List Value := L.flatMap cells6
theorem cellsU_app (L : List (Ut × Value)) (p : Ut × Value) : cellsU (L ++ [p]) = cellsU L ++ cells6 p := by simp [cellsU]
theorem cellsU_len (L : List (Ut × Value)) : (cellsU L).length = L.length * 6 := by
  induction L with
  | nil => rfl
  | cons p L ih => show (cells6 p ++ cellsU L).length = _; rw [List.length_append, ih, List.length_cons]; simp [cells6]; omega
theorem cellsU_get (L : List (Ut × Value)) : ∀ i p k, L[i]? = some p → k < 6 → (cellsU L)[i * 6 + k]? = (cells6 p)[k]? := by
  induction L with
  | nil => intro i p k h; cases h
  | cons q L ih =>
    intro i p k h hk
    show (cells6 q ++ cellsU L)[i * 6 + k]? = _
    cases i with
    | zero =>
      simp at h
      subst h
      rw [List.getElem?_append_left (by simp [cells6]; omega), Nat.zero_mul, Nat.zero_add]
    | succ i =>
      rw [show (i + 1) * 6 + k = 6 + (i * 6 + k) by omega, List.getElem?_append_right (by simp [cells6])]
      have : (cells6 q).length = 6 := rfl
      rw [this, show 6 + (i * 6 + k) - 6 = i * 6 + k by omega]
      exact ih i p k (by simpa using h) hk
def AOwn (w : World) (base : Nat) (p : Ut × Value) : Prop := w.ownsRow base 2 1 p.2 p.1.ant.length (p.1.ant.map fun z => Value.int .i64 z)
theorem ownQ_irw {w : World} {base : Nat} {v : Value} {l : List Int} (h : w.ownsRow base 2 1 v l.length (l.map fun z => Value.int .i64 z)) : IRw w v l := by
  obtain ⟨_, ⟨rfl, h2⟩ | ⟨g, cap, cur, rfl, hb, hg, hc, hm, hs, ht⟩⟩ := h
  · exact ⟨none, 0, by rw [h2], by omega, Or.inl h2⟩
  · refine ⟨_, cap, rfl, hc, Or.inr ⟨g, 0, rfl, (Array.getElem?_eq_some_iff.1 hg).1, fun i x hx => ?_⟩⟩
    have hi := get_lt' hx
    have e : (l.map fun z => Value.int .i64 z)[i]? = some (.int .i64 x) := by rw [List.getElem?_map, hx]; rfl
    rw [← ht, List.getElem?_take, if_pos (by omega), Array.getElem?_toList] at e
    rw [Nat.zero_add]
    simp only [World.cell?, hg]
    exact e
theorem intsQ_one (l : List Int) : ∀ u ∈ l.map (fun z => Value.int .i64 z), u.oneCell' = true := by
  intro u hu
  obtain ⟨z, -, rfl⟩ := List.mem_map.1 hu
  rfl
def Antis (w : World) (base : Nat) (L : List (Ut × Value)) : Prop := (∀ p ∈ L, AOwn w base p) ∧ L.Pairwise (fun p q => ∀ k, p.2.ownBlock = some k → q.2.ownBlock ≠ some k)
theorem Antis.nil (w : World) (base : Nat) : Antis w base [] := ⟨(fun p hp => by cases hp), List.Pairwise.nil⟩
theorem Antis.below {w w' : World} {base : Nat} {L : List (Ut × Value)} (h : Antis w base L) (hb : Below w.heap.size w w') : Antis w' base L := ⟨fun p hp => ownW_below (h.1 p hp) hb, h.2⟩
theorem Antis.grown {w w' : World} {base b2 n e s : Nat} {L : List (Ut × Value)} {v : Value} {xs : List Value} (h : Antis w base L) (hne : 2 ≠ e) (ho : w.ownsRow b2 e s v n xs) (hg : w.grownBy w' v.ownBlock) : Antis w' base L :=
  ⟨fun p hp => ownQ_grown (h.1 p hp) hg (fun k hk => ownQ_apart (h.1 p hp) ho hne k hk), h.2⟩
theorem Antis.snoc {w : World} {base b2 : Nat} {L : List (Ut × Value)} {p : Ut × Value} (h : Antis w base L) (hp : AOwn w b2 p) (hb : base ≤ b2) (hl : ∀ q ∈ L, ∀ k, q.2.ownBlock = some k → k < b2) : Antis w base (L ++ [p]) := by
  refine ⟨fun q hq => ?_, ?_⟩
  · rcases List.mem_append.1 hq with hq | hq
    · exact h.1 q hq
    · obtain rfl : q = p := by simpa using hq
      exact ownW_base hp hb
  · rw [List.pairwise_append]
    refine ⟨h.2, by simp, fun q hq r hr k hk hk2 => ?_⟩
    obtain rfl : r = p := by simpa using hr
    have := hl q hq k hk
    have := (ownW_lt hp k hk2).1
    omega
theorem Antis.irw {w : World} {base : Nat} {L : List (Ut × Value)} (h : Antis w base L) : ∀ p ∈ L, IRw w p.2 p.1.ant := fun p hp => ownQ_irw (h.1 p hp)
theorem Antis.lt {w : World} {base : Nat} {L : List (Ut × Value)} (h : Antis w base L) : ∀ p ∈ L, ∀ k, p.2.ownBlock = some k → base ≤ k ∧ k < w.heap.size := fun p hp k hk => ownW_lt (h.1 p hp) k hk
theorem Antis.set {w : World} {base b o : Nat} {L : List (Ut × Value)} (h : Antis w base L) (hb : ∀ p ∈ L, ∀ k, p.2.ownBlock = some k → k ≠ b) (u : Value) : Antis (w.setCell ⟨b, o, none⟩ u) base L :=
  ⟨fun p hp => ownQ_set (h.1 p hp) (hb p hp) u, h.2⟩
theorem own_urw {w : World} {base : Nat} {v : Value} {L : List (Ut × Value)} (h : w.ownsRow base 81 6 v L.length (cellsU L)) (ht : ∀ p ∈ L, IRw w p.2 p.1.ant) : URw w v (L.map Prod.fst) := by
  obtain ⟨_, ⟨rfl, h2⟩ | ⟨g, cap, cur, rfl, hb, hg, hc, hm, hs, hx⟩⟩ := h
  · exact ⟨none, 0, by rw [List.length_map, h2], by rw [List.length_map]; omega, Or.inl (by rw [List.length_map]; exact h2)⟩
  · refine ⟨_, cap, by rw [List.length_map], by rw [List.length_map]; exact hc, Or.inr ⟨g, 0, rfl, (Array.getElem?_eq_some_iff.1 hg).1, fun i x hix => ?_⟩⟩
    rw [List.getElem?_map] at hix
    obtain ⟨p, hp, rfl⟩ := Option.map_eq_some_iff.1 hix
    have hi := get_lt' hp
    have hcell : ∀ k, k < 6 → w.cell? ⟨g, 0 + i * 6 + k, none⟩ = (cells6 p)[k]? := fun k hk => by
      rw [← cellsU_get L i p k hp hk, ← hx, List.getElem?_take, if_pos (by omega), Array.getElem?_toList, Nat.zero_add]
      simp only [World.cell?, hg]
      rfl
    exact ⟨p.2, ⟨hcell 0 (by omega), hcell 1 (by omega), hcell 2 (by omega), hcell 3 (by omega), hcell 4 (by omega), hcell 5 (by omega)⟩, ht p (List.mem_of_getElem? hp)⟩
theorem wpList_newQ {ops : Array Oper} {rest : List Oper} {o : Oper} {a : Act} {w : World} {Q : Exit → Act → World → Prop} (hgd : o.guard = none) (s x : Operand)
    (ho : o.op = .call { callee := .builtin .append, args := #[s, x], argTypes := #[25, 25] }) (g : Nat) (hs : a.eval s = .slice (some ⟨g, 0, none⟩) 0 0) (hblk : w.heap[g]? = some (.cells #[] 2))
    (ao : Option Addr) (n cap : Nat) (l : List Int) (hx : a.eval x = .slice ao n cap) (hrow : IRw w (.slice ao n cap) l) (hn : l.length ≤ 1048576)
    (h : ∀ v' w', w'.ownsRow g 2 1 v' l.length (l.map fun z => Value.int .i64 z) → w.grownBy w' (some g) → wpList Try.prog ops Q rest (a.put o.dst v') w') : wpList Try.prog ops Q (o :: rest) a w := by
  obtain ⟨i0, hi, hz0, hz1, hz2⟩ := info_partsW infoW64
  have hlt := (Array.getElem?_eq_some_iff.1 hblk).1
  have hown : w.ownsRow g 2 1 (.slice (some ⟨g, 0, none⟩) 0 0) 0 [] := ⟨by simp, .inr ⟨g, 0, #[], rfl, Nat.le_refl _, hblk, Nat.le_refl _, Nat.zero_le _, by simp, by simp⟩⟩
  obtain rfl := hrow.len
  cases ao with
  | none =>
    have hl : l = [] := by
      obtain ⟨ao', cap', he, _, h2⟩ := hrow
      simp only [Value.slice.injEq, true_and] at he
      rcases h2 with h2 | ⟨b, off, h3, _⟩
      · exact List.eq_nil_of_length_eq_zero h2
      · rw [← he.1] at h3; cases h3
    subst hl
    refine wpList_plain hgd fun _ hK => ?_
    have hsrc : Src Try.prog i0.size 25 (.slice none ([] : List Int).length cap) 0 [] w := Src.ofNil w Try.underlying25 cap
    have hr := run_append_room_src (P := Try.prog) w 25 25 o.type 2 i0 Try.underlying25 hi g 0 0 0 _ 0 [] hsrc (Nat.le_refl _) (fun j hj => absurd hj (Nat.not_lt_zero _)) (fun j hj => absurd hj (Nat.not_lt_zero _))
    unfold Oper.wp execOp
    simp only [ho, resolve, invoke, builtin, Sem.run_bind, Sem.run_pure, Result.andThen_ok, List.map_toArray, List.map_cons, List.map_nil, hs, hx, hr]
    exact hK _ _ (h _ _ hown ⟨rfl, rfl, rfl, Nat.le_refl _, fun _ _ _ => rfl⟩)
  | some ad =>
    refine wpList_append_own w hgd s x 25 ho g 2 i0 (.int .i64 0) 1 8 Try.underlying25 hi hz0 hz1 hz2 rfl (by decide) _ 0 [] hs hown ad l.length cap (l.map fun z => Value.int .i64 z) hx (by simp) (fun j u hu => ?_) (intsQ_one _) (by unfold maxLen; omega) (by omega) (by omega) (fun v' w' h1 h2 _ => h v' w' (by simpa using h1) h2)
    rw [List.getElem?_map] at hu
    obtain ⟨z, hz, rfl⟩ := Option.map_eq_some_iff.1 hu
    obtain ⟨b, off, he, _, hc⟩ := hrow.at hz
    obtain rfl := Option.some.inj he
    rw [Addr.add_lit]
    exact hc j z hz
end Go.Proofs.Ytgcpiinmcbdkmaa

namespace Go.Proofs.Ytgcpiinmcbdkmaa
open Go.RowKit Va Bl Pq
set_option linter.all false
abbrev UE := Ut × Value
instance : Inhabited UE := ⟨(default, .slice none 0 0)⟩
theorem own_putK {W : World} {b e s n G c j : Nat} {xs : List Value} {u : Value} (h : W.ownsRow b e s (.slice (some ⟨G, 0, none⟩) n c) n xs) (hj : j < n * s) : (W.setCell ⟨G, j, none⟩ u).ownsRow b e s (.slice (some ⟨G, 0, none⟩) n c) n (xs.set j u) := by
  obtain ⟨q, ⟨h1, _⟩ | ⟨g, cap, cur, h1, hb, hg, hc, hm, hs, ht⟩⟩ := h
  · cases h1
  · simp only [Value.slice.injEq, Option.some.injEq, Addr.mk.injEq, and_true, true_and] at h1
    obtain ⟨rfl, rfl⟩ := h1
    have hP : PB W G cur e := hg
    have hns : n * s ≤ c * s := Nat.mul_le_mul_right s hc
    refine ⟨by rw [List.length_set]; exact q, .inr ⟨G, c, cur.setIfInBounds j u, rfl, hb, hP.set j u, hc, hm, by rw [Array.size_setIfInBounds]; exact hs, ?_⟩⟩
    rw [Array.toList_setIfInBounds, List.take_set, ht]
def SU (c : Nat) (w : World) (G : Nat) (l : List UE) : Prop := w.ownsRow 0 81 6 (.slice (some ⟨G, 0, none⟩) l.length c) l.length (cellsU l)
theorem SU.blk {c : Nat} {w : World} {G : Nat} {l : List UE} (h : SU c w G l) : ∃ cur, PB w G cur 81 ∧ l.length ≤ c ∧ cur.toList.take (l.length * 6) = cellsU l := by
  obtain ⟨q, ⟨h1, _⟩ | ⟨g, cap, cur, h1, hb, hg, hc, hm, hs, ht⟩⟩ := h
  · cases h1
  · simp only [Value.slice.injEq, Option.some.injEq, Addr.mk.injEq, and_true, true_and] at h1
    obtain ⟨rfl, rfl⟩ := h1
    exact ⟨cur, hg, hc, ht⟩
theorem SU.lt {c : Nat} {w : World} {G : Nat} {l : List UE} (h : SU c w G l) : G < w.heap.size := by
  obtain ⟨cur, hg, _⟩ := h.blk
  exact (Array.getElem?_eq_some_iff.1 hg).1
theorem SU.cell {c : Nat} {w : World} {G : Nat} {l : List UE} (h : SU c w G l) {i k : Nat} {p : UE} {u : Value} (hp : l[i]? = some p) (hk : k < 6) (hu : (cells6 p)[k]? = some u) : w.cell? ⟨G, i * 6 + k, none⟩ = some u ∧ w.frozen? ⟨G, i * 6 + k, none⟩ = false := by
  obtain ⟨cur, hg, h1, h3⟩ := h.blk
  refine ⟨?_, hg.frozen _⟩
  have hi := get_lt' hp
  rw [hg.cell, ← hu, ← cellsU_get l i p k hp hk, ← h3, List.getElem?_take, if_pos (by omega), Array.getElem?_toList]
structure UC (w : World) (G o : Nat) (p : UE) : Prop where
  c0 : w.cell? ⟨G, o, none⟩ = some (.int .i64 p.1.id)
  c1 : w.cell? ⟨G, o + 1, none⟩ = some (.int .i64 p.1.grp)
  c2 : w.cell? ⟨G, o + 2, none⟩ = some p.2
  c3 : w.cell? ⟨G, o + 3, none⟩ = some (.int .i64 p.1.til)
  c4 : w.cell? ⟨G, o + 4, none⟩ = some (.int .i64 p.1.st)
  c5 : w.cell? ⟨G, o + 5, none⟩ = some (.int .i64 p.1.fr)
  f0 : w.frozen? ⟨G, o, none⟩ = false
  f1 : w.frozen? ⟨G, o + 1, none⟩ = false
  f2 : w.frozen? ⟨G, o + 2, none⟩ = false
  f3 : w.frozen? ⟨G, o + 3, none⟩ = false
  f4 : w.frozen? ⟨G, o + 4, none⟩ = false
  f5 : w.frozen? ⟨G, o + 5, none⟩ = false
theorem SU.at {c : Nat} {w : World} {G : Nat} {l : List UE} (h : SU c w G l) {i : Nat} (hi : i < l.length) : UC w G (i * 6) (at' l i) := by
  have hp := at_some hi
  have k0 := h.cell hp (k := 0) (by omega) rfl
  have k1 := h.cell hp (k := 1) (by omega) rfl
  have k2 := h.cell hp (k := 2) (by omega) rfl
  have k3 := h.cell hp (k := 3) (by omega) rfl
  have k4 := h.cell hp (k := 4) (by omega) rfl
  have k5 := h.cell hp (k := 5) (by omega) rfl
  exact ⟨k0.1, k1.1, k2.1, k3.1, k4.1, k5.1, k0.2, k1.2, k2.2, k3.2, k4.2, k5.2⟩
theorem SU.below {c : Nat} {w w' : World} {G : Nat} {l : List UE} (h : SU c w G l) (hb : Below w.heap.size w w') : SU c w' G l := ownW_below h hb
def put6 (w : World) (G o : Nat) (p : UE) : World := (((((w.setCell ⟨G, o, none⟩ (.int .i64 p.1.id)).setCell ⟨G, o + 1, none⟩ (.int .i64 p.1.grp)).setCell ⟨G, o + 2, none⟩ p.2).setCell ⟨G, o + 3, none⟩ (.int .i64 p.1.til)).setCell ⟨G, o + 4, none⟩ (.int .i64 p.1.st)).setCell ⟨G, o + 5, none⟩ (.int .i64 p.1.fr)
theorem cellsU_set (l : List UE) (i : Nat) (p : UE) (hi : i < l.length) : ((((((cellsU l).set (i * 6) (.int .i64 p.1.id)).set (i * 6 + 1) (.int .i64 p.1.grp)).set (i * 6 + 2) p.2).set (i * 6 + 3) (.int .i64 p.1.til)).set (i * 6 + 4) (.int .i64 p.1.st)).set (i * 6 + 5) (.int .i64 p.1.fr) = cellsU (l.set i p) := by
  induction l generalizing i with
  | nil => simp at hi
  | cons q l ih =>
    cases i with
    | zero => rfl
    | succ i =>
      have h := ih i (by simpa using hi)
      show _ = cells6 q ++ cellsU (l.set i p)
      rw [← h]
      have hq : (cells6 q).length = 6 := rfl
      have e : ∀ (xs : List Value) (k : Nat) (v : Value), (cells6 q ++ xs).set ((i + 1) * 6 + k) v = cells6 q ++ xs.set (i * 6 + k) v := fun xs k v => by
        rw [List.set_append_right _ _ (by rw [hq]; omega), hq]; congr 2; omega
      have e0 : ∀ (xs : List Value) (v : Value), (cells6 q ++ xs).set ((i + 1) * 6) v = cells6 q ++ xs.set (i * 6) v := fun xs v => e xs 0 v
      show ((((((cells6 q ++ cellsU l).set ((i + 1) * 6) _).set _ _).set _ _).set _ _).set _ _).set _ _ = _
      rw [e0, e, e, e, e, e]
theorem SU.put {c : Nat} {w : World} {G : Nat} {l : List UE} (h : SU c w G l) {i : Nat} (hi : i < l.length) (p : UE) : SU c (put6 w G (i * 6) p) G (l.set i p) := by
  have h2 := own_putK (own_putK (own_putK (own_putK (own_putK (own_putK h (j := i * 6) (u := .int .i64 p.1.id) (by omega)) (j := i * 6 + 1) (u := .int .i64 p.1.grp) (by omega)) (j := i * 6 + 2) (u := p.2) (by omega)) (j := i * 6 + 3) (u := .int .i64 p.1.til) (by omega)) (j := i * 6 + 4) (u := .int .i64 p.1.st) (by omega)) (j := i * 6 + 5) (u := .int .i64 p.1.fr) (by omega)
  rw [cellsU_set l i p hi] at h2
  unfold SU
  rw [List.length_set]
  exact h2
theorem SU.sw {c : Nat} {w : World} {G : Nat} {l : List UE} (h : SU c w G l) {i j : Nat} (hi : i < l.length) (hj : j < l.length) : SU c (put6 (put6 w G (i * 6) (at' l j)) G (j * 6) (at' l i)) G (Pq.sw l i j) :=
  (h.put hi (at' l j)).put (by rw [List.length_set]; exact hj) (at' l i)
theorem put6_below {B : Nat} {w0 w : World} {G o : Nat} (h : Below B w0 w) (hG : B ≤ G) (p : UE) : Below B w0 (put6 w G o p) :=
  (((((h.setCell (p := ⟨G, o, none⟩) hG _).setCell (p := ⟨G, o + 1, none⟩) hG _).setCell (p := ⟨G, o + 2, none⟩) hG _).setCell (p := ⟨G, o + 3, none⟩) hG _).setCell (p := ⟨G, o + 4, none⟩) hG _).setCell (p := ⟨G, o + 5, none⟩) hG _
end Go.Proofs.Ytgcpiinmcbdkmaa
