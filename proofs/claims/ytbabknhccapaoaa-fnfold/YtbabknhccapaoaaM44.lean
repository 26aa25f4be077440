/-
  Letters that are drawn of bytes; two rows of numbers are the same; a row of letters behind another.
-/
import Derived.Test.YtbabknhccapaoaaM43
import Derived.Test.YtbabknhccapaoaaM40
import Derived.Test.YtbabknhccapaoaaM30
import Derived.Test.YtbabknhccapaoaaM33
import Derived.Test.YtbabknhccapaoaaM7
import Derived.Test.YtbabknhccapaoaaM8
import Derived.BigQuiet
namespace Go.Proofs.Ytbabknhccapaoaa
open Go.RowKit Va Mg
set_option linter.all false

set_option maxRecDepth 20000 in
set_option maxHeartbeats 4000000 in
theorem dfold_any (ao : Option Addr) (cap : Nat) (bs : List Int) (w : World) (hb : Bytes w w.heap.size ao bs) (hl : bs.length ≤ 1048576) :
    Calls Try.prog 6 #[.slice ao bs.length cap] w fun e w' => ∃ (v : Value) (l : List Lt), e = .returned v ∧ (∃ a k, v = .slice (some a) l.length k) ∧ l.length ≤ 1001 ∧ Hid (∀ x ∈ l, WfL x) ∧ VRw 5 cvLt w' v l ∧ Below w.heap.size w w' := by
  have hN := new_any ao cap bs w hb hl
  go_enter Try.func6, Try.ntmps6
  go_wp2_with (go_at_call 17; refine hN.mono ?_; rintro e w1 ⟨rfl, hcu, hbw⟩)
  have HBw := hidden hbw
  have hgw : w.heap.size < w1.heap.size := hcu.1
  clear hN hb hbw
  generalize hg : w.heap.size = g at *
  refine (dletters_any g ao cap bs _ hcu).mono ?_
  rintro e w2 ⟨v, l, rfl, ⟨a, k, rfl⟩, hl2, HW, hrow, hk2⟩
  have bel : Below g w w2 := HBw.out.trans (hk2.below (Nat.le_refl _) (by omega))
  clear hk2
  go_wp2_with fail
  go_ret
  exact ⟨_, l, rfl, ⟨_, _, rfl⟩, hl2, HW, hrow, by rw [hg]; exact bel⟩

theorem vintF {w : World} {ao : Option Addr} {n cap : Nat} {l : List Int} {i : Nat} {x : Int} (h : VRw 1 cvI w (.slice ao n cap) l) (hk : l[i]? = some x) :
    ∃ g off, ao = some ⟨g, off, none⟩ ∧ g < w.heap.size ∧ w.cell? ⟨g, off + i, none⟩ = some (.int .i64 x) := by
  obtain ⟨g, off, rfl, hg, hcs⟩ := h.at hk
  have := hcs 0 (by omega)
  rw [Nat.mul_one, Nat.add_zero] at this
  exact ⟨g, off, rfl, hg, this⟩

set_option maxRecDepth 20000 in
set_option maxHeartbeats 2000000 in
theorem sameF_any (a1 : Option Addr) (n1 c1 : Nat) (a2 : Option Addr) (n2 c2 : Nat) (l : List Int) (w : World) (h : VRw 1 cvI w (.slice a1 n1 c1) l) (h' : VRw 1 cvI w (.slice a2 n2 c2) l) (hn : l.length ≤ 1048576) :
    Calls Try.prog 9 #[.slice a1 n1 c1, .slice a2 n2 c2] w fun e w' => e = .returned (.bool true) ∧ Below w.heap.size w w' := by
  obtain rfl := h.len
  obtain rfl := h'.len
  have HH := hidden h
  have HH' := hidden h'
  clear h h'
  go_enter Try.func9, Try.ntmps9
  go_wp2_with fail
  go_loopw [5] (fun iv wr => ∃ i : Nat, i ≤ l.length ∧ iv = .int .i64 i ∧ Below w.heap.size w wr) (fun iv _ => l.length - (intOf iv).toNat)
  case atStart => exact ⟨0, Nat.zero_le _, rfl, Below.refl _ _⟩
  case round =>
    obtain ⟨i, hil, rfl, hb⟩ := hrel
    by_cases hlt : i < l.length
    · have hlti : (i : Int) < (l.length : Int) := by omega
      obtain ⟨x, hx⟩ := some_of l i hlt
      obtain ⟨g, off, rfl, hg, c0⟩ := vintF (HH.out.below hb) hx
      obtain ⟨g', off', rfl, hg', d0⟩ := vintF (HH'.out.below hb) hx
      clear hx
      go_wp2_with fail
      go_quiet (fail)
      go_wp2_with fail
      go_roundw
      case rel => exact ⟨i + 1, by omega, rfl, by repeat (first | exact Below.refl _ _ | assumption | refine st_drew ?_ | refine st_drewN ?_ _ | refine Below.setCell ?_ (by first | omega | (simp; done) | (simp; omega)) _ | refine Below.alloc ?_ (by first | omega | (simp; done) | (simp; omega)) _)⟩
      case measure => simp [intOf]; omega
    · have hlti : ¬ (i : Int) < (l.length : Int) := by omega
      go_wp2_with fail
      go_ret
      exact ⟨rfl, hb⟩

theorem news_of {W : World} {a : Addr} {n c : Nat} {l : List Lt} (h : VRw 5 cvLt W (.slice (some a) n c) l) : ∀ (j : Nat) (u : Value), (vcellsL 5 cvLt l)[j]? = some u → W.cell? (a.add j) = some u := by
  intro j u hu
  have hj : j < (vcellsL 5 cvLt l).length := (List.getElem?_eq_some_iff.1 hu).1
  rw [vcellsL_len] at hj
  obtain ⟨x, hx⟩ := some_of l (j / 5) (by omega)
  obtain ⟨b, off, e, hb, hcs⟩ := h.at hx
  obtain rfl := Option.some.inj e
  have h1 := hcs (j % 5) (by omega)
  have h2 := vcellsL_get (s := 5) (cs := cvLt) l (j / 5) x hx (j % 5) (by omega)
  have hj5 : j / 5 * 5 + j % 5 = j := by omega
  rw [hj5] at h2
  rw [hu] at h2
  rw [Option.some.inj h2, Addr.add_lit, ← h1]
  congr 2
  omega
theorem lts_one (l : List Lt) : ∀ u ∈ vcellsL 5 cvLt l, u.oneCell' = true := fun u hu => by
  simp only [vcellsL, List.mem_flatMap, List.mem_map, List.mem_range] at hu
  obtain ⟨x, _, k, hk, rfl⟩ := hu
  match k, hk with
  | 0, _ => rfl
  | 1, _ => rfl
  | 2, _ => rfl
  | 3, _ => rfl
  | 4, _ => rfl
theorem lts_app (l m : List Lt) : vcellsL 5 cvLt (l ++ m) = vcellsL 5 cvLt l ++ vcellsL 5 cvLt m := by simp [vcellsL]
end Go.Proofs.Ytbabknhccapaoaa
