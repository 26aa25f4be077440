/-
  Two lists of operations that grow side by side, their teams elder than both.
-/
import Derived.Test.YtcapmobhgffnhaaPf
import Derived.Test.YtcapmobhgffnhaaPp
import Derived.Test.YtcapmobhgffnhaaOq
import Derived.Maps.AppendAt
namespace Go.Proofs.Ytcapmobhgffnhaa
open Go.RowKit Va Oa
set_option linter.unusedVariables false

theorem clash_short {l : List Opn} {r : Int} (h : l.length ≤ 201) : (clash l r).length ≤ 1048576 := by
  by_cases q : OpsOk l ∧ isR r
  · rw [clash_yes q.1 q.2]
    have h1 := upto_len l r l.length
    have h2 : l.length * l.length ≤ 201 * 201 := Nat.mul_le_mul h h
    omega
  · rw [clash_no q]; simp
/-- Cells of one's own row, as a source. -/
theorem own_src {W : World} {base e s n b c : Nat} {xs : List Value} (h : W.ownsRow base e s (.slice (some ⟨b, 0, none⟩) n c) n xs) : ∀ j u, xs[j]? = some u → W.cell? ((⟨b, 0, none⟩ : Addr).add j) = some u := by
  intro j u hu
  obtain ⟨_, ⟨h1, _⟩ | ⟨g, cap, cur, h1, hb, hg, hc, hm, hs, ht⟩⟩ := h
  · cases h1
  · simp only [Value.slice.injEq, Option.some.injEq, Addr.mk.injEq, and_true, true_and] at h1
    obtain ⟨rfl, rfl⟩ := h1
    rw [Addr.add_lit, Nat.zero_add]
    simp only [World.cell?, hg]
    rw [← ht, List.getElem?_take] at hu
    split at hu
    · simpa using hu
    · cases hu
theorem cellsO_cons (p : Opn × Value) (L : List (Opn × Value)) : cellsO (p :: L) = [.int .i64 p.1.room, .int .i64 p.1.fr, .int .i64 p.1.to, p.2] ++ cellsO L := rfl
theorem cellsO_one {w : World} {L : List (Opn × Value)} (h : ∀ p ∈ L, IRw w p.2 p.1.team ∧ p.1.team.length ≤ 8) : ∀ u ∈ cellsO L, u.oneCell' = true := by
  intro u hu
  obtain ⟨p, hp, hu⟩ := List.mem_flatMap.1 hu
  obtain ⟨ad, c, he⟩ := (h p hp).1.form
  rw [he] at hu
  exact four_oneO _ _ _ _ _ _ u hu

/-- The list F at v, in a block younger than w3; its teams as in w3. -/
structure LB (w3 W : World) (v : Value) (F : List (Opn × Value)) : Prop where
  own : W.ownsRow w3.heap.size 31 4 v F.length (cellsO F)
  teams : ∀ p ∈ F, IRw w3 p.2 p.1.team ∧ p.1.team.length ≤ 8
theorem LB.row {w3 W : World} {v : Value} {F : List (Opn × Value)} (h : LB w3 W v F) (hb : Below w3.heap.size w3 W) : ORw W v (F.map Prod.fst) := own_orw h.own fun p hp => (h.teams p hp).1.below hb
theorem LB.short {w3 W : World} {v : Value} {F : List (Opn × Value)} (h : LB w3 W v F) : ∀ x ∈ F.map Prod.fst, x.team.length ≤ 1048576 := by
  intro x hx
  obtain ⟨p, hp, rfl⟩ := List.mem_map.1 hx
  have := (h.teams p hp).2
  omega
structure FB (w3 W : World) (v6 v7 : Value) (F B : List (Opn × Value)) : Prop where
  far : LB w3 W v6 F
  back : LB w3 W v7 B
  below : Below w3.heap.size w3 W
  apart : ∀ k, v6.ownBlock = some k → v7.ownBlock ≠ some k
  some7 : v7 ≠ .slice none 0 0
section
variable {w3 W W' : World} {v6 v7 : Value} {F B : List (Opn × Value)}
theorem FB.step (h : FB w3 W v6 v7 F B) (hb : Below W.heap.size W W') : FB w3 W' v6 v7 F B :=
  ⟨⟨ownO_below h.far.own hb, h.far.teams⟩, ⟨ownO_below h.back.own hb, h.back.teams⟩, h.below.trans (hb.mono h.below.size), h.apart, h.some7⟩
theorem FB.alloc (h : FB w3 W v6 v7 F B) (o : Obj) : FB w3 (W.alloc o) v6 v7 F B := h.step ((Below.refl _ _).alloc (Nat.le_refl _) o)
theorem FB.drewN (h : FB w3 W v6 v7 F B) (n : Nat) : FB w3 (W.drewN n) v6 v7 F B := ⟨⟨h.far.own, h.far.teams⟩, ⟨h.back.own, h.back.teams⟩, st_drewN h.below n, h.apart, h.some7⟩
theorem FB.form6 (h : FB w3 W v6 v7 F B) : ∃ ad c, v6 = .slice ad F.length c := ownO_slice h.far.own
theorem FB.form7 (h : FB w3 W v6 v7 F B) : ∃ b c, v7 = .slice (some ⟨b, 0, none⟩) B.length c := by
  rcases h.back.own.2 with ⟨h1, _⟩ | ⟨b, c, cur, h1, _⟩
  · exact absurd h1 h.some7
  · exact ⟨b, c, h1⟩
theorem FB.lt6 (h : FB w3 W v6 v7 F B) : ∀ k, v6.ownBlock = some k → k < W.heap.size := fun k hk => (ownO_lt h.far.own k hk).2
theorem FB.lt7 (h : FB w3 W v6 v7 F B) : ∀ k, v7.ownBlock = some k → k < W.heap.size := fun k hk => (ownO_lt h.back.own k hk).2
/-- A store into a box that lies apart. -/
theorem FB.set (h : FB w3 W v6 v7 F B) {V : Nat} (hV : w3.heap.size ≤ V) (h6 : ∀ k, v6.ownBlock = some k → k ≠ V) (h7 : ∀ k, v7.ownBlock = some k → k ≠ V) (j : Nat) (u : Value) : FB w3 (W.setCell ⟨V, j, none⟩ u) v6 v7 F B :=
  ⟨⟨own_far h.far.own h6 u, h.far.teams⟩, ⟨own_far h.back.own h7 u, h.back.teams⟩, h.below.setCell (p := ⟨V, j, none⟩) hV u, h.apart, h.some7⟩
/-- One more ahead of the second list: behind the append onto a list of it alone, which lay at block S. -/
theorem FB.goback {v' : Value} {p : Opn × Value} {S : Nat} (h : FB w3 W v6 v7 F B) (hS : ∀ k, v6.ownBlock = some k → k < S) (hSw : w3.heap.size ≤ S) (hp : IRw w3 p.2 p.1.team ∧ p.1.team.length ≤ 8)
    (ho : W'.ownsRow S 31 4 v' (1 + B.length) ([.int .i64 p.1.room, .int .i64 p.1.fr, .int .i64 p.1.to, p.2] ++ cellsO B)) (hg : W.grownBy W' (some S)) (hSz : w3.heap.size ≤ W.heap.size) (hn : v' ≠ .slice none 0 0) : FB w3 W' v6 v' F (p :: B) := by
  refine ⟨⟨own_grownO h.far.own hg (fun k hk e => by have := hS k hk; cases e; omega), h.far.teams⟩, ⟨?_, ?_⟩, h.below.grown hg hSz (fun k hk => by cases hk; exact hSw), fun k hk e => ?_, hn⟩
  · rw [cellsO_cons, List.length_cons, Nat.add_comm]
    exact own_base ho hSw
  · intro q hq
    rcases List.mem_cons.1 hq with rfl | k
    · exact hp
    · exact h.back.teams q k
  · have h1 := hS k hk
    have h2 := (ownO_lt ho k e).1
    omega
/-- One more behind the first list. -/
theorem FB.gofar {v' : Value} {p : Opn × Value} (h : FB w3 W v6 v7 F B) (hp : IRw w3 p.2 p.1.team ∧ p.1.team.length ≤ 8)
    (ho : W'.ownsRow w3.heap.size 31 4 v' (F.length + 1) (cellsO F ++ [.int .i64 p.1.room, .int .i64 p.1.fr, .int .i64 p.1.to, p.2])) (hg : W.grownBy W' v6.ownBlock) (hat : v'.ownBlock = v6.ownBlock ∨ v'.ownBlock = some W.heap.size) : FB w3 W' v' v7 (F ++ [p]) B := by
  refine ⟨⟨?_, ?_⟩, ⟨own_grownO h.back.own hg (fun k hk e => h.apart k e hk), h.back.teams⟩, h.below.grown hg h.below.size (fun k hk => (ownO_lt h.far.own k hk).1), fun k hk e => ?_, h.some7⟩
  · rw [cellsO_app, List.length_append]; exact ho
  · intro q hq
    rcases List.mem_append.1 hq with k | k
    · exact h.far.teams q k
    · simp at k; subst k; exact hp
  · rcases hat with q | q
    · exact h.apart k (q ▸ hk) e
    · rw [q] at hk
      have := h.lt7 k e
      cases hk
      omega
theorem FB.start (w3 : World) : FB w3 ((w3.alloc (.cells #[] 31)).alloc (.cells #[] 31)) (.slice (some ⟨w3.heap.size, 0, none⟩) 0 0) (.slice (some ⟨w3.heap.size + 1, 0, none⟩) 0 0) [] [] := by
  have h1 := ownO_new w3 31 4
  have h2 := ownO_new (w3.alloc (.cells #[] 31)) 31 4
  simp only [World.size_alloc] at h2
  refine ⟨⟨ownO_below h1 ((Below.refl _ _).alloc (Nat.le_refl _) _), fun p hp => by cases hp⟩, ⟨own_base h2 (by omega), fun p hp => by cases hp⟩, ((Below.refl _ _).alloc (Nat.le_refl _) _).alloc (by simp) _, ?_, by simp⟩
  intro k hk e
  simp [Value.ownBlock] at hk e
  omega
end
end Go.Proofs.Ytcapmobhgffnhaa
