/-
  Rows of numbers in blocks of one's own; numbers that are in a list.
-/
import Derived.Test.YtfhecdedanlmfaaR6
import Derived.Test.YtfhecdedanlmfaaGw
import Derived.Laws.OwnMore
import Derived.Deep.AppendSrc
namespace Go.Proofs.Ytfhecdedanlmfaa
open Go.RowKit Va Rc
set_option linter.all false

theorem PB.neQ {W : World} {B : Nat} {vs : Array Value} {t : TypeId} (h : PB W B vs t) {b e s n : Nat} {v : Value} {xs : List Value} (ho : W.ownsRow b e s v n xs) (hne : t ≠ e) : ∀ k, v.ownBlock = some k → k ≠ B := by
  intro k hk hkB
  subst hkB
  obtain ⟨_, ⟨rfl, _⟩ | ⟨g, c, cur, rfl, _, hh, _⟩⟩ := ho
  · cases hk
  · obtain rfl : g = k := by simpa [Value.ownBlock] using hk
    rw [PB, hh] at h
    simp only [Option.some.injEq, Obj.cells.injEq] at h
    exact hne h.2.1.symm
theorem grownQ {w0 w w' : World} {v : Value} {b : Nat} (h : Below b w0 w) (hl : b ≤ w.heap.size) (hg : w.grownBy w' v.ownBlock) (hv : ∀ k, v.ownBlock = some k → b ≤ k) : Below b w0 w' := h.grown hg hl (fun k hk => hv k hk)
theorem ownQ_grown {base e s n : Nat} {w w' : World} {v : Value} {xs : List Value} {r : Option Nat} (ho : w.ownsRow base e s v n xs) (hg : w.grownBy w' r) (hr : ∀ k, v.ownBlock = some k → r ≠ some k) : w'.ownsRow base e s v n xs := by
  obtain ⟨q, ⟨q1, q2⟩ | ⟨g, c, cur, rfl, hgb, hh, r'⟩⟩ := ho
  · exact ⟨q, Or.inl ⟨q1, q2⟩⟩
  · exact ⟨q, Or.inr ⟨g, c, cur, rfl, hgb, (hg.block g (Array.getElem?_eq_some_iff.1 hh).1 (fun e => hr g rfl e.symm)).trans hh, r'⟩⟩
theorem ownQ_set {w : World} {base e s n : Nat} {v : Value} {xs : List Value} (h : w.ownsRow base e s v n xs) {b o : Nat} (hb : ∀ k, v.ownBlock = some k → k ≠ b) (u : Value) : (w.setCell ⟨b, o, none⟩ u).ownsRow base e s v n xs := by
  obtain ⟨q, ⟨q1, q2⟩ | ⟨g, c, cur, rfl, hg, hh, r⟩⟩ := h
  · exact ⟨q, Or.inl ⟨q1, q2⟩⟩
  · exact ⟨q, Or.inr ⟨g, c, cur, rfl, hg, by rw [Below.heap_setCell _ _ _ _ (by show g ≠ b; exact hb g rfl)]; exact hh, r⟩⟩
theorem ownQ_apart {w : World} {b1 e1 s1 n1 b2 e2 s2 n2 : Nat} {v1 v2 : Value} {x1 x2 : List Value} (h1 : w.ownsRow b1 e1 s1 v1 n1 x1) (h2 : w.ownsRow b2 e2 s2 v2 n2 x2) (hne : e1 ≠ e2) : ∀ k, v1.ownBlock = some k → v2.ownBlock ≠ some k := by
  intro k hk hk2
  obtain ⟨_, ⟨rfl, _⟩ | ⟨g, c, cur, rfl, _, hh, _⟩⟩ := h1
  · cases hk
  · obtain rfl : g = k := by simpa [Value.ownBlock] using hk
    exact PB.neQ (W := w) (B := g) hh h2 hne g hk2 rfl
theorem ownQ_cell {w : World} {base e s n : Nat} {v : Value} {xs : List Value} (h : w.ownsRow base e s v n xs) (hx : xs.length = n * s) {j : Nat} {u : Value} (hu : xs[j]? = some u) : ∃ g c, v = .slice (some ⟨g, 0, none⟩) n c ∧ base ≤ g ∧ g < w.heap.size ∧ n ≤ c ∧ w.cell? ⟨g, j, none⟩ = some u := by
  have hj := get_lt' hu
  obtain ⟨_, ⟨rfl, h2⟩ | ⟨g, c, cur, rfl, hb, hg, hc, hm, hs, ht⟩⟩ := h
  · subst h2; omega
  · refine ⟨g, c, rfl, hb, (Array.getElem?_eq_some_iff.1 hg).1, hc, ?_⟩
    rw [← hu, ← ht, List.getElem?_take, if_pos (by omega), Array.getElem?_toList]
    simp only [World.cell?, hg]
    rfl
theorem ownQ_irw {w : World} {base : Nat} {v : Value} {l : List Int} (h : w.ownsRow base 2 1 v l.length (l.map fun z => Value.int .i64 z)) : IRw w v l := by
  obtain ⟨_, ⟨rfl, h2⟩ | ⟨g, cap, cur, rfl, hb, hg, hc, hm, hs, ht⟩⟩ := h
  · exact ⟨none, 0, by rw [h2], by omega, Or.inl h2⟩
  · refine ⟨_, cap, rfl, hc, Or.inr ⟨g, 0, rfl, (Array.getElem?_eq_some_iff.1 hg).1, fun i x hx => ?_⟩⟩
    have hi := get_lt' hx
    have e : (l.map fun z => Value.int .i64 z)[i]? = some (.int .i64 x) := by rw [List.getElem?_map, hx]; rfl
    rw [← ht, List.getElem?_take, if_pos (by omega), Array.getElem?_toList] at e
    rw [Nat.zero_add]
    simp only [World.cell?, hg]
    exact e
theorem oneI (z : Int) : ∀ u ∈ [Value.int .i64 z], u.oneCell' = true := by
  intro u hu
  obtain rfl := List.mem_singleton.1 hu
  rfl
theorem cell_oneQ {w : World} {g : Nat} (hg : g = w.heap.size) (a : Value) (t : TypeId) : ∀ (j : Nat) (u : Value), [a][j]? = some u → (w.alloc (.cells #[a] t)).cell? ((⟨g, 0, none⟩ : Addr).add j) = some u := by subst hg; exact cell_oneW w a t
def intsV (l : List Int) : List Value := l.map fun z => Value.int .i64 z
theorem intsV_app (l : List Int) (x : Int) : intsV (l ++ [x]) = intsV l ++ [.int .i64 x] := by simp [intsV]
theorem ownI_irw {w : World} {base : Nat} {v : Value} {l : List Int} (h : w.ownsRow base 2 1 v l.length (intsV l)) : IRw w v l := ownQ_irw h
theorem hasQ_true {l : List Int} {i : Nat} {x : Int} (h : l[i]? = some x) : hasB l x = true := any_trueQ h (by simp)
theorem hasQ_take {l : List Int} {i : Nat} {x y : Int} (h : hasB (l.take i) x = false) (hy : l[i]? = some y) (hq : ¬ x = y) : hasB (l.take (i + 1)) x = false := any_takeQ h hy (by simp; exact fun e => hq e.symm)

set_option maxRecDepth 20000 in
set_option maxHeartbeats 1000000 in
theorem shas_any (ao : Option Addr) (n cap : Nat) (l : List Int) (x : Int) (w : World) (h : IRw w (.slice ao n cap) l) (hn : l.length ≤ 1048576) :
    Calls Try.prog 32 #[.slice ao n cap, .int .i64 x] w fun e w' => e = .returned (.bool (hasB l x)) ∧ w' = w := by
  obtain rfl := h.len
  have HH := hidden h
  clear h
  go_enter Try.func32, Try.ntmps32
  go_wp2_with fail
  go_loopw [5] (fun iv wr => ∃ i : Nat, i ≤ l.length ∧ iv = .int .i64 i ∧ wr = w ∧ Hid (hasB (l.take i) x = false)) (fun iv _ => l.length - (intOf iv).toNat)
  case atStart => exact ⟨0, Nat.zero_le _, rfl, rfl, rfl⟩
  case round =>
    obtain ⟨i, hi, rfl, rfl, hok⟩ := hrel
    by_cases hlt : i < l.length
    · have hlti : (i : Int) < (l.length : Int) := by omega
      obtain ⟨y, hy⟩ := some_of l i hlt
      obtain ⟨g, off, rfl, hg, hc⟩ := HH.out.at hy
      have c0 := hc i y hy
      have HX := hidden hy
      clear hy hc
      by_cases hq : x = y
      · have HY : Hid (hasB l x = true) := by rw [hq]; exact hasQ_true HX.out
        subst hq
        go_wp2_with fail
        go_ret
        exact ⟨ret_boolQ HY.out.symm, rfl⟩
      · have HN : Hid (hasB (l.take (i + 1)) x = false) := hasQ_take hok.out HX.out hq
        have hq2 : ¬ y = x := fun e => hq e.symm
        go_wp2_with fail
        go_roundw
        case rel => exact ⟨i + 1, by omega, rfl, by simp, HN⟩
        case measure => simp [intOf]; omega
    · have hlti : ¬ (i : Int) < (l.length : Int) := by omega
      have hil : i = l.length := by omega
      subst hil
      go_wp2_with fail
      go_ret
      exact ⟨ret_boolQ (by have := hok.out; rw [List.take_length] at this; rw [this]), rfl⟩

set_option maxRecDepth 20000 in
set_option maxHeartbeats 1000000 in
theorem iindex_any (ao : Option Addr) (n cap : Nat) (l : List Int) (x : Int) (w : World) (h : IRw w (.slice ao n cap) l) (hn : l.length ≤ 1048576) :
    Calls Try.prog 33 #[.slice ao n cap, .int .i64 x] w fun e w' => ∃ k : Int, e = .returned (.int .i64 k) ∧ (-1 ≤ k ∧ k ≤ 1048576) ∧ decide (0 ≤ k) = hasB l x ∧ w' = w := by
  obtain rfl := h.len
  have HH := hidden h
  clear h
  go_enter Try.func33, Try.ntmps33
  go_wp2_with fail
  go_loopw [5, 8] (fun _ iv wr => ∃ i : Nat, i ≤ l.length ∧ iv = .int .i64 i ∧ wr = w ∧ Hid (hasB (l.take i) x = false)) (fun _ iv _ => l.length - (intOf iv).toNat)
  case atStart => exact ⟨0, Nat.zero_le _, rfl, rfl, rfl⟩
  case round =>
    obtain ⟨i, hi, rfl, rfl, hok⟩ := hrel
    by_cases hlt : i < l.length
    · have hlti : (i : Int) < (l.length : Int) := by omega
      obtain ⟨y, hy⟩ := some_of l i hlt
      obtain ⟨g, off, rfl, hg, hc⟩ := HH.out.at hy
      have c0 := hc i y hy
      have HX := hidden hy
      clear hy hc
      by_cases hq : x = y
      · have HY : Hid (hasB l x = true) := by rw [hq]; exact hasQ_true HX.out
        subst hq
        go_wp2_with fail
        go_ret
        exact ⟨(i : Int), rfl, ⟨by omega, by omega⟩, by rw [HY.out]; simp, rfl⟩
      · have HN : Hid (hasB (l.take (i + 1)) x = false) := hasQ_take hok.out HX.out hq
        have hq2 : ¬ y = x := fun e => hq e.symm
        go_wp2_with fail
        go_roundw
        case rel => exact ⟨i + 1, by omega, rfl, by simp, HN⟩
        case measure => simp [intOf]; omega
    · have hlti : ¬ (i : Int) < (l.length : Int) := by omega
      have hil : i = l.length := by omega
      subst hil
      go_wp2_with fail
      go_ret
      exact ⟨-1, rfl, ⟨by omega, by omega⟩, by have := hok.out; rw [List.take_length] at this; rw [this]; rfl, rfl⟩

set_option maxRecDepth 20000 in
set_option maxHeartbeats 1000000 in
theorem icont_any (ao : Option Addr) (n cap : Nat) (l : List Int) (x : Int) (w : World) (h : IRw w (.slice ao n cap) l) (hn : l.length ≤ 1048576) :
    Calls Try.prog 23 #[.slice ao n cap, .int .i64 x] w fun e w' => e = .returned (.bool (hasB l x)) ∧ w' = w := by
  have k := iindex_any ao n cap l x w h hn
  clear h
  generalize hasB l x = t at *
  go_enter Try.func23, Try.ntmps23
  go_wp2_with (go_at_call 33; refine k.mono ?_; rintro e w1 ⟨k, rfl, hk, hd, rfl⟩; have HD := hidden hd; clear hd)
  all_goals go_ret
  all_goals exact ⟨ret_boolQ (by first | exact HD.out | (rw [← HD.out]; done) | (rw [← HD.out]; simp; done)), rfl⟩

end Go.Proofs.Ytfhecdedanlmfaa
