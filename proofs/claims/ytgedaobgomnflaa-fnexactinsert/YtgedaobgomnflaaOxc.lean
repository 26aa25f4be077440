/-
  What is wanted of an emergency's answer by the law: kept, marked, held.
-/
import Derived.Test.YtgedaobgomnflaaOxb
import Derived.Test.YtgedaobgomnflaaOw
namespace Go.Proofs.Ytgedaobgomnflaa
open Go.RowKit Va Oa
set_option linter.all false

theorem ins_team {l : List Opn} {u : Opn} {r : Int} : ∀ i P S h, ins l u r i = some (P, S, h) → ∀ x ∈ P, ∃ y ∈ l, x.team = y.team := by
  intro i
  induction i with
  | zero =>
    intro P S h hi x hx
    simp only [ins, Option.some.injEq, Prod.mk.injEq] at hi
    rw [← hi.1] at hx; cases hx
  | succ i ih =>
    intro P S h hi
    rw [ins] at hi
    split at hi
    · rename_i P' S' h' x h1 h2
      have hp := ih P' S' h' h1
      split at hi
      · simp only [Option.some.injEq, Prod.mk.injEq] at hi
        intro z hz
        rw [← hi.1] at hz
        rcases List.mem_append.1 hz with hz | hz
        · exact hp z hz
        · exact ⟨x, List.mem_of_getElem? h2, by rw [List.mem_singleton.1 hz]⟩
      · split at hi
        · cases hi
        · simp only [Option.some.injEq, Prod.mk.injEq] at hi
          intro z hz
          rw [← hi.1] at hz
          rcases List.mem_append.1 hz with hz | hz
          · exact hp z hz
          · exact ⟨x, List.mem_of_getElem? h2, by rw [List.mem_singleton.1 hz]; rfl⟩
    · cases hi
theorem team_bd {x : Opn} (h : opB x = true) : x.team.length ≤ 1048576 ∧ 1 ≤ x.team.length := by
  obtain ⟨-, -, -, -, h1, h2, -⟩ := of_opB h
  omega
theorem insert_good (l : List Opn) (u : Opn) (r : Int) : (Oa.insert l u r).1.length ≤ 1048576 ∧ ∀ x ∈ (Oa.insert l u r).1, x.team.length ≤ 1048576 ∧ 1 ≤ x.team.length := by
  rcases Classical.em (OpsOk l ∧ opB u = true ∧ isR r ∧ l.length ≠ 200 ∧ (clash l r).length = 0) with hc | hc
  · cases hi : ins l u r l.length with
    | none =>
      rw [insert_dead hc hi (Nat.le_refl _)]
      exact ⟨by simp, fun x hx => by cases hx⟩
    | some q =>
      obtain ⟨P, S, h⟩ := q
      rw [insert_yes hc hi]
      have hl := ins_plen l.length P S h (Nat.le_refl _) hi
      have hl2 := hc.1.1
      refine ⟨by simp; omega, fun x hx => ?_⟩
      rcases List.mem_append.1 hx with hx | hx
      · obtain ⟨y, hy, e⟩ := ins_team _ _ _ _ hi x hx
        rw [e]
        exact team_bd (hc.1.mem hy)
      · rw [List.mem_singleton.1 hx]
        exact team_bd hc.2.1
  · rw [insert_no hc]
    exact ⟨by simp, fun x hx => by cases hx⟩

/-- A list of operations in blocks of one's own, from lo to hi. -/
structure LRB (w : World) (lo hi : Nat) (v : Value) (L : List (Opn × Value)) : Prop where
  own : w.ownsRow lo 32 4 v L.length (cellsO L)
  tms : Teams w lo L
  hv : ∀ k, v.ownBlock = some k → k < hi
  ht : ∀ p ∈ L, ∀ k, p.2.ownBlock = some k → k < hi
theorem own_keep {w w' : World} {lo hi e s n : Nat} {v : Value} {xs : List Value} (h : w.ownsRow lo e s v n xs) (hv : ∀ k, v.ownBlock = some k → k < hi) (hk : ∀ b, lo ≤ b → b < hi → w'.heap[b]? = w.heap[b]?) : w'.ownsRow lo e s v n xs := by
  obtain ⟨q, ⟨q1, q2⟩ | ⟨g, c, cur, rfl, hg, hh, r⟩⟩ := h
  · exact ⟨q, Or.inl ⟨q1, q2⟩⟩
  · exact ⟨q, Or.inr ⟨g, c, cur, rfl, hg, (hk g hg (hv g rfl)).trans hh, r⟩⟩
theorem LRB.keep {w w' : World} {lo hi : Nat} {v : Value} {L : List (Opn × Value)} (h : LRB w lo hi v L) (hk : ∀ b, lo ≤ b → b < hi → w'.heap[b]? = w.heap[b]?) : LRB w' lo hi v L :=
  ⟨own_keep h.own h.hv hk, ⟨fun p hp => own_keep (h.tms.1 p hp) (h.ht p hp) hk, h.tms.2⟩, h.hv, h.ht⟩
theorem LRB.below {w w' : World} {lo hi : Nat} {v : Value} {L : List (Opn × Value)} (h : LRB w lo hi v L) (hb : Below w.heap.size w w') (hh : hi ≤ w.heap.size) : LRB w' lo hi v L := h.keep fun b _ h2 => hb.block b (by omega)
theorem LRB.kp {w w' : World} {lo hi a b : Nat} {v : Value} {L : List (Opn × Value)} (h : LRB w lo hi v L) (hk : Kp a b w w') (hh : hi ≤ a ∨ b ≤ lo) : LRB w' lo hi v L := h.keep fun c h1 h2 => hk.block c (by omega)
theorem LRB.orw {w : World} {lo hi : Nat} {v : Value} {L : List (Opn × Value)} (h : LRB w lo hi v L) : ORw w v (L.map Prod.fst) := own_orw h.own h.tms.irw
theorem lrb_of {w w' : World} {v : Value} {L : List (Opn × Value)} (h : w'.ownsRow w.heap.size 32 4 v L.length (cellsO L)) (ht : Teams w' w.heap.size L) : LRB w' w.heap.size w'.heap.size v L :=
  ⟨h, ht, fun k hk => (ownO_lt h k hk).2, fun p hp k hk => (ht.lt p hp k hk).2⟩
theorem LRB.form {w : World} {lo hi : Nat} {v : Value} {L : List (Opn × Value)} (h : LRB w lo hi v L) : ∃ ao cap, v = .slice ao L.length cap := by
  obtain ⟨q, ⟨q1, q2⟩ | ⟨g, c, cur, rfl, hg, hh, r⟩⟩ := h.own
  · exact ⟨none, 0, by rw [q1, q2]⟩
  · exact ⟨_, _, rfl⟩

set_option maxRecDepth 20000 in
set_option maxHeartbeats 2000000 in
theorem markops_none (ao : Option Addr) (cap : Nat) (k0 : Int) (w : World) :
    Calls Try.prog 17 #[.slice ao 0 cap, .int .i64 k0] w fun e w' => e = .returned (.int .i64 k0) ∧ w' = w := by
  go_enter Try.func17, Try.ntmps17
  go_wp2_with fail
  go_loopw [1, 5] (fun kv iv wr => wr = w ∧ kv = .int .i64 k0 ∧ iv = .int .i64 0) (fun _ _ _ => 0)
  case atStart => exact ⟨rfl, rfl, rfl⟩
  case round =>
    obtain ⟨rfl, rfl, rfl⟩ := hrel
    go_wp2_with fail
    go_ret
    exact ⟨rfl, rfl⟩

/-- What a marking of an answer leaves. -/
theorem markA_any (lo hi : Nat) (v : Value) (L : List (Opn × Value)) (w : World) (h : LRB w lo hi v L) (hn : L.length ≤ 1048576) (ht : ∀ p ∈ L, p.1.team.length ≤ 1048576 ∧ 1 ≤ p.1.team.length) :
    Calls Try.prog 17 #[v, .int .i64 1] w fun e w' => ∃ M : List (Opn × Value), M.length = L.length ∧ M.map Prod.fst = marked 1 (L.map Prod.fst) ∧ e = .returned (.int .i64 (1 + tot (L.map Prod.fst))) ∧ LRB w' lo hi v M ∧ Kp lo w.heap.size w w' := by
  have ho := h.own
  obtain ⟨q, ⟨q1, q2⟩ | ⟨g, c, cur, q1, hg, hh, r⟩⟩ := ho
  · obtain rfl : L = [] := List.length_eq_zero_iff.1 q2
    rw [q1]
    refine (markops_none none 0 1 w).mono ?_
    rintro e w' ⟨rfl, rfl⟩
    exact ⟨[], rfl, rfl, by simp [tot], by rw [← q1]; exact h, Kp.refl _ _ _⟩
  · subst q1
    refine (markopsX_any lo g c L 1 w h.own h.tms hn ht (by omega) (by omega)).mono ?_
    rintro e w' ⟨M, h1, h2, h3, rfl, h5, h6, h7⟩
    refine ⟨M, h1, h2, rfl, ⟨by rw [h1]; exact h5, h6, h.hv, fun p hp k hk => ?_⟩, h7⟩
    have e1 : p.2 ∈ M.map Prod.snd := List.mem_map.2 ⟨p, hp, rfl⟩
    rw [h3] at e1
    obtain ⟨p2, hp2, e2⟩ := List.mem_map.1 e1
    exact h.ht p2 hp2 k (by rw [e2]; exact hk)

set_option maxRecDepth 20000 in
set_option maxHeartbeats 1000000 in
theorem markop_any (x : Opn) (T n c : Nat) (k0 : Int) (w : World) (h : ∀ m, m < n → (∃ u, w.cell? ⟨T, m, none⟩ = some u) ∧ w.frozen? ⟨T, m, none⟩ = false) (hT : T < w.heap.size) (hn : n ≤ 1048576) (hk0 : 0 ≤ k0) (hk1 : k0 ≤ 1000000000000000) :
    Calls Try.prog 18 #[aO x (.slice (some ⟨T, 0, none⟩) n c), .int .i64 k0] w fun e w' => e = .returned (.int .i64 (k0 + n)) ∧ ∃ w1, Below w.heap.size w w1 ∧ Kp T (T + 1) w1 w' := by
  have hK := fun (W : World) (hW : Below w.heap.size w W) => markints_any T n c k0 W (fun m hm => by
    obtain ⟨⟨u, hu⟩, hf⟩ := h m hm
    exact ⟨⟨u, ((bcell hW).1 _ _ hT).trans hu⟩, ((bcell hW).2 _ _ hT).trans hf⟩) hn hk0 hk1
  clear h
  unfold aO
  go_enter Try.func18, Try.ntmps18
  go_wp2_with (go_at_call 27; refine (hK _ (by repeat (first | exact Below.refl _ _ | assumption | refine st_drew ?_ | refine st_drewN ?_ _ | refine Below.setCell ?_ (by first | omega | (simp; done) | (simp; omega)) _ | refine Below.alloc ?_ (by first | omega | (simp; done) | (simp; omega)) _))).mono ?_; rintro e w1 ⟨rfl, hk⟩)
  go_ret
  exact ⟨rfl, _, by repeat (first | exact Below.refl _ _ | assumption | refine st_drew ?_ | refine st_drewN ?_ _ | refine Below.setCell ?_ (by first | omega | (simp; done) | (simp; omega)) _ | refine Below.alloc ?_ (by first | omega | (simp; done) | (simp; omega)) _), hk⟩
end Go.Proofs.Ytgedaobgomnflaa
