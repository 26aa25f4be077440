/-
  The program's Digest; the law's helpers on bytes.
-/
import Derived.Test.YtfhecdedanlmfaaE1
import Derived.Deep.Slices
import Derived.BigQuiet
import Derived.WideShapes
import Derived.ProofKit
import Derived.OpenShut
import Derived.ShutString
import Derived.ChangeOld
import Derived.Below
namespace Go.Proofs.Ytfhecdedanlmfaa
open Go.RowKit Go.WideShapes Va
set_option linter.all false

theorem icount_any (ao : Option Addr) (n cap : Nat) (l : List Int) (w : World) (h : BRw w (.slice ao n cap) l) (hn : l.length ≤ 1048576000) (ha : ao = none → cap = 0) :
    Calls Try.prog 25 #[.slice ao n cap] w fun e w' => e = .returned (.slice ao (l.take 100000).length cap) ∧ w' = w := by
  obtain rfl := h.len
  have hc := h.cap
  rw [List.length_take, Nat.min_comm]
  cases ao with
  | none =>
    obtain rfl := ha rfl
    have h0 : l.length = 0 := by omega
    rw [h0]
    exact icount_none w
  | some a => exact icount_some a l.length cap w hc hn

set_option maxRecDepth 20000 in
set_option maxHeartbeats 2000000 in
theorem idigest_any (ao : Option Addr) (n cap : Nat) (l : List Int) (w : World) (h : BRw w (.slice ao n cap) l) (hn : l.length ≤ 1048576000) (ha : ao = none → cap = 0) :
    Calls Try.prog 14 #[.slice ao n cap] w fun e w' => e = .returned (.int .i64 (digest l)) ∧ w' = w := by
  have hK := icount_any ao n cap l w h hn ha
  have hT := h.take (l.take 100000).length (by rw [List.length_take]; omega)
  have hl1 : (l.take 100000).length ≤ 100000 := by rw [List.length_take]; omega
  rw [show l.take (l.take 100000).length = l.take 100000 from (by rw [List.length_take]; exact List.take_eq_take_min.symm)] at hT
  clear h
  unfold digest
  generalize l.take 100000 = m at *
  have HH := hidden hT
  clear hT
  go_enter Try.func14, Try.ntmps14
  go_wp2_with (go_at_call 25; refine hK.mono ?_; rintro e w1 ⟨rfl, e1⟩; obtain rfl := e1)
  go_loopw [3, 5, 9] (fun hv _ iv wr => ∃ (i : Nat) (D : Int), i ≤ m.length ∧ iv = .int .i64 i ∧ hv = .int .i64 D ∧ 0 ≤ D ∧ D < 1000000007 ∧ Hid (D = dg (m.take i)) ∧ wr = w1) (fun _ _ iv _ => m.length - (intOf iv).toNat)
  case atStart => exact ⟨0, 0, Nat.zero_le _, rfl, rfl, by omega, by omega, rfl, rfl⟩
  case round =>
    obtain ⟨i, D, hi, rfl, rfl, hD0, hD1, HD, e1⟩ := hrel
    obtain rfl := e1
    by_cases hlt : i < m.length
    · have hlti : (i : Int) < (m.length : Int) := by omega
      obtain ⟨y, hy⟩ := some_ofB m i hlt
      obtain ⟨g, off, rfl, hg, hc⟩ := HH.out.at hy
      obtain ⟨hy0, hy1⟩ := HH.out.rng hy
      have c0 := hc i y hy
      have HN : Hid (dg (m.take (i + 1)) = dgS D y) := by show dg _ = _; rw [dg_snoc hy, HD.out]
      clear hy hc HD
      go_wp2_with fail
      go_roundw
      case rel => exact ⟨i + 1, _, by omega, rfl, rfl, by omega, by omega, by show _ = dg _; rw [HN.out]; unfold dgS; omega, (by first | rfl | trivial)⟩
      case measure => simp [intOf]; omega
    · have hlti : ¬ (i : Int) < (m.length : Int) := by omega
      have HE : Hid (dg m = D) := by show dg m = D; rw [HD.out, List.take_of_length_le (by omega)]
      clear HD
      go_wp2_with fail
      go_ret
      exact ⟨ret_intB HE.out.symm, rfl⟩

/-- A slice of bytes that came in, read. -/
theorem brw_of_trod {H : Type} {enc : TypeId × Value → H} {P : Program} {W : World} {sp : Nat → Bool} {hd : Bool} {t e : TypeId} {fuel : Nat} {cs : List Value} {x : DataW H × List MemPlace}
    (ht : P.underlying t = some (.slice e)) (he : P.underlying e = some (.int .u8)) (hc : P.cellsOf e = 1) (h : DataW.trod enc P W 0 sp hd fuel t cs = some x) :
    ∃ (ao : Option Addr) (cap : Nat) (l : List Int), cs = [.slice ao l.length cap] ∧ l.length ≤ maxLen ∧ BRw W (.slice ao l.length cap) l ∧ (ao = none → cap = 0) := by
  rcases Deep.open_slice1 ht hc h with ⟨h1, _⟩ | ⟨a, ln, c, m, n, V, D, Pl, h1, _, hl, hcm, hm, _, hx⟩
  · exact ⟨none, 0, [], h1, by simp, ⟨none, 0, rfl, Nat.le_refl _, (fun x hx => by cases hx), Or.inl rfl⟩, fun _ => rfl⟩
  · have hle : ln ≤ m := by rw [hm]; split <;> omega
    have hV : ∀ i, i < ln → ∃ z : Int, W.cell? (a.add i) = some (.int .u8 z) ∧ 0 ≤ z ∧ z ≤ 255 := fun i hi => by
      obtain ⟨k1, h2⟩ := hx i (by omega)
      cases n with
      | zero => simp [DataW.trod] at h2
      | succ n =>
        simp only [DataW.trod, he] at h2
        cases hv : V i with
        | int k b =>
          rw [hv] at h2
          by_cases q : k = .u8 ∧ (Lit.int .u8 b).wf = true
          · obtain ⟨rfl, q2⟩ := q
            refine ⟨b, by rw [k1, hv], ?_⟩
            have q3 : (decide (IntKind.u8.min ≤ b) && decide (b ≤ IntKind.u8.max)) = true := q2
            have e1 : IntKind.u8.min = 0 := by decide
            have e2 : IntKind.u8.max = 255 := by decide
            rw [e1, e2] at q3
            simpa using q3
          · simp [q] at h2
        | _ => rw [hv] at h2; simp at h2
    obtain ⟨q, hq⟩ := Deep.choose_lt hV
    refine ⟨some a, c, (List.range ln).map q, by simpa using h1, by simp; omega, ⟨some a, c, rfl, by simpa using hl, fun x hx => ?_, ?_⟩, fun e => by cases e⟩
    · obtain ⟨i, hi, rfl⟩ := List.mem_map.1 hx
      exact (hq i (List.mem_range.1 hi)).2
    by_cases h0 : ln = 0
    · exact Or.inl (by simp [h0])
    · obtain ⟨b, off, spot⟩ := a
      have hs := (hq 0 (by omega)).1
      have hspot : spot = none := by simpa [Addr.add] using World.cell?_spot hs
      subst hspot
      refine Or.inr ⟨b, off, rfl, World.block_lt_of_cell? W _ (by simpa [Addr.add_lit] using hs), fun i y hy => ?_⟩
      have hi' : i < ln := by simpa using get_lt' hy
      have hy2 : y = q i := by
        rw [List.getElem?_map, List.getElem?_range hi'] at hy
        simpa using hy.symm
      subst hy2
      have := (hq i hi').1
      rw [Addr.add_lit] at this
      exact this

set_option maxRecDepth 100000 in
theorem brw_of_read {H : Type} {enc : TypeId × Value → H} {W : World} {sp : Nat → Bool} {hd : Bool} {ao : Option Addr} {n cap : Nat} {d : DataW H} {p : List MemPlace}
    (h : DataW.Trod enc Try.prog W 0 sp hd 22 (.slice ao n cap) d p) : ∃ l : List Int, l.length = n ∧ n ≤ maxLen ∧ (BRw W (.slice ao n cap) l ∧ (ao = none → cap = 0)) := by
  obtain ⟨fuel, hf⟩ := h
  obtain ⟨ao', cap', l, h1, h2, h3, h4⟩ := brw_of_trod Try.underlying22 Try.underlying5 (by kernel_rfl) hf
  simp [Value.cells] at h1
  obtain ⟨rfl, rfl, rfl⟩ := h1
  exact ⟨l, rfl, h2, h3, h4⟩

theorem info_partsE {P : Program} {t : TypeId} {z : Value} {n b : Nat} (h : (P.info? t).map (fun i => (i.zero, i.size, i.bytes)) = some (some z, n, b)) : ∃ i, P.info? t = some i ∧ i.zero = some z ∧ i.size = n ∧ i.bytes = b := by
  obtain ⟨i, h1, h2⟩ := Option.map_eq_some_iff.1 h
  simp only [Prod.mk.injEq] at h2
  exact ⟨i, h1, h2.1, h2.2.1, h2.2.2⟩
theorem infoU8 : (Try.prog.info? 5).map (fun i => (i.zero, i.size, i.bytes)) = some (some (.int .u8 0), 1, 1) := by kernel_rfl
/-- The first i of the bytes l lie in block G, which takes n. -/
def BOut (w : World) (G n : Nat) (l : List Int) (i : Nat) : Prop :=
  G < w.heap.size ∧ (∀ j, j < n → (∃ u, w.cell? ⟨G, j, none⟩ = some u) ∧ w.frozen? ⟨G, j, none⟩ = false) ∧ ∀ j x, j < i → l[j]? = some x → w.cell? ⟨G, j, none⟩ = some (.int .u8 x)
theorem BOut.below {w w' : World} {G n i : Nat} {l : List Int} (h : BOut w G n l i) (hb : Below w.heap.size w w') : BOut w' G n l i := by
  obtain ⟨h1, h2, h3⟩ := h
  refine ⟨Nat.lt_of_lt_of_le h1 hb.size, fun j hj => ⟨?_, ((bcell hb).2 _ _ h1).trans (h2 j hj).2⟩, fun j x hj hx => ((bcell hb).1 _ _ h1).trans (h3 j x hj hx)⟩
  obtain ⟨u, hu⟩ := (h2 j hj).1
  exact ⟨u, ((bcell hb).1 _ _ h1).trans hu⟩
theorem BOut.set {w : World} {G n i : Nat} {l : List Int} {x : Int} (h : BOut w G n l i) (hi : i < n) (hx : l[i]? = some x) : BOut (w.setCell ⟨G, i, none⟩ (.int .u8 x)) G n l (i + 1) := by
  obtain ⟨h1, h2, h3⟩ := h
  refine ⟨by simpa [World.setCell] using h1, fun j hj => ⟨?_, by rw [World.frozen?_setCell]; exact (h2 j hj).2⟩, fun j y hj hy => ?_⟩
  · obtain ⟨u, hu⟩ := (h2 j hj).1
    by_cases q : j = i
    · subst q; exact ⟨_, World.cell?_setCell_same _ _ _ hu⟩
    · exact ⟨u, (World.cell?_setCell_other _ _ _ _ (by first | (simp; done) | (simp; omega))).trans hu⟩
  · by_cases q : j = i
    · subst q
      rw [hx] at hy
      cases hy
      obtain ⟨u, hu⟩ := (h2 j hi).1
      exact World.cell?_setCell_same _ _ _ hu
    · exact (World.cell?_setCell_other _ _ _ _ (by first | (simp; done) | (simp; omega))).trans (h3 j y (by omega) hy)
theorem BOut.brw {w : World} {G : Nat} {l : List Int} (h : BOut w G l.length l l.length) (hr : ∀ x ∈ l, 0 ≤ x ∧ x ≤ 255) (c : Nat) (hc : l.length ≤ c) : BRw w (.slice (some ⟨G, 0, none⟩) l.length c) l :=
  ⟨_, c, rfl, hc, hr, Or.inr ⟨G, 0, rfl, h.1, fun i x hx => by rw [Nat.zero_add]; exact h.2.2 i x (get_lt' hx) hx⟩⟩

set_option maxRecDepth 20000 in
set_option maxHeartbeats 2000000 in
theorem tobytes_any (ao : Option Addr) (n cap : Nat) (l : List Int) (w : World) (h : BRw w (.slice ao n cap) l) (hn : l.length ≤ 1048576) :
    Calls Try.prog 13 #[.slice ao n cap] w fun e w' => e = .returned (.slice (some ⟨w.heap.size, 0, none⟩) l.length l.length) ∧ BOut w' w.heap.size l.length l l.length ∧ Below w.heap.size w w' := by
  obtain rfl := h.len
  have HH := hidden h
  clear h
  obtain ⟨i0, hi, hz0, hz1, hz2⟩ := info_partsE infoU8
  go_enter Try.func13, Try.ntmps13
  go_wp2_with (refine wpList_make_full _ rfl (.tmp 6) (.tmp 6) 22 rfl w.heap.size 5 i0 (.int .u8 0) 1 Try.underlying22 hi hz0 hz1 .i64 .i64 _ _ l.length rfl rfl rfl rfl (by rw [hz2]; omega) (by unfold maxLen; omega) (Nat.le_refl _) ?_; intro w1 ho1 hg1)
  have b1 : Below w.heap.size w w1 := (Below.refl _ w).grown hg1 (Nat.le_refl _) (by simp)
  have ho : BOut w1 w.heap.size l.length l 0 := by
    have hq := Out.made (cs := fun (_ : Int) _ => 0) l ho1
    exact ⟨hq.1, fun j hj => hq.2.1 j (by omega), fun j x hj => absurd hj (Nat.not_lt_zero _)⟩
  clear ho1 hg1
  go_wp2_with fail
  go_loopw [4] (fun iv wr => ∃ i : Nat, i ≤ l.length ∧ iv = .int .i64 i ∧ Below w.heap.size w wr ∧ Hid (BOut wr w.heap.size l.length l i)) (fun iv _ => l.length - (intOf iv).toNat)
  case atStart => exact ⟨0, Nat.zero_le _, rfl, b1, ho⟩
  case round =>
    clear b1 ho
    obtain ⟨i, hil, rfl, hb, HO⟩ := hrel
    by_cases hlt : i < l.length
    · have hlti : (i : Int) < (l.length : Int) := by omega
      obtain ⟨x, hx⟩ := some_ofB l i hlt
      obtain ⟨g, off, rfl, hg, hcs⟩ := (HH.out.below hb).at hx
      have c0 := hcs i x hx
      have HS := hidden (HO.out.set hlt hx)
      obtain ⟨⟨u0, hu0⟩, hf0⟩ := HO.out.2.1 i hlt
      have b3 : Below w.heap.size w (wr.setCell ⟨w.heap.size, i, none⟩ (.int .u8 x)) := hb.setCell (Nat.le_refl _) _
      clear hcs hx HO
      go_wp2_with fail
      go_roundw
      case rel => exact ⟨i + 1, by omega, rfl, b3, HS⟩
      case measure => simp [intOf]; omega
    · have hlti : ¬ (i : Int) < (l.length : Int) := by omega
      have hil2 : i = l.length := by omega
      subst hil2
      go_wp2_with fail
      go_ret
      exact ⟨rfl, HO.out, hb⟩

set_option maxRecDepth 20000 in
set_option maxHeartbeats 2000000 in
theorem eqbytes_any (a1 : Option Addr) (n1 c1 : Nat) (a2 : Option Addr) (n2 c2 : Nat) (l : List Int) (w : World) (h : BRw w (.slice a1 n1 c1) l) (h' : BRw w (.slice a2 n2 c2) l) (hn : l.length ≤ 1048576) :
    Calls Try.prog 15 #[.slice a1 n1 c1, .slice a2 n2 c2] w fun e w' => e = .returned (.bool true) ∧ Below w.heap.size w w' := by
  obtain rfl := h.len
  obtain rfl := h'.len
  have HH := hidden h
  have HH' := hidden h'
  clear h h'
  go_enter Try.func15, Try.ntmps15
  go_wp2_with fail
  go_loopw [5] (fun iv wr => ∃ i : Nat, i ≤ l.length ∧ iv = .int .i64 i ∧ Below w.heap.size w wr) (fun iv _ => l.length - (intOf iv).toNat)
  case atStart => exact ⟨0, Nat.zero_le _, rfl, Below.refl _ _⟩
  case round =>
    obtain ⟨i, hil, rfl, hb⟩ := hrel
    by_cases hlt : i < l.length
    · have hlti : (i : Int) < (l.length : Int) := by omega
      obtain ⟨x, hx⟩ := some_ofB l i hlt
      obtain ⟨g, off, rfl, hg, hcs⟩ := (HH.out.below hb).at hx
      obtain ⟨g', off', rfl, hg', hcs'⟩ := (HH'.out.below hb).at hx
      have c0 := hcs i x hx
      have d0 := hcs' i x hx
      clear hcs hcs' hx
      go_wp2_with fail
      go_quiet (fail)
      go_wp2_with fail
      go_roundw
      case rel => exact ⟨i + 1, by omega, rfl, by repeat (first | exact Below.refl _ _ | assumption | refine st_drew ?_ | refine st_drewN ?_ _ | refine Below.setCell ?_ (by first | omega | (simp; done) | (simp; omega)) _ | refine Below.alloc ?_ (by first | omega | (simp; done) | (simp; omega)) _)⟩
      case measure => simp [intOf]; omega
    · have hlti : ¬ (i : Int) < (l.length : Int) := by omega
      go_wp2_with fail
      go_ret
      exact ⟨rfl, hb⟩
end Go.Proofs.Ytfhecdedanlmfaa
