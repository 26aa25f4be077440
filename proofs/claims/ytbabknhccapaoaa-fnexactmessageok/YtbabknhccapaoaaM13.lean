/-
  Rows of texts: the law's own helpers.
-/
import Derived.Test.YtbabknhccapaoaaT0
import Derived.Test.YtbabknhccapaoaaM10
import Derived.Test.YtbabknhccapaoaaRv
import Derived.Test.YtbabknhccapaoaaGx
import Derived.OwnWalk
import Derived.Deep.Slices
import Derived.BigQuiet
import Derived.Deep.QuietTactic
namespace Go.Proofs.Ytbabknhccapaoaa
open Go.RowKit Va Ms
set_option linter.all false

theorem ontoT {w w1 w2 : World} (h1 : Below w.heap.size w w1) (h2 : Below w1.heap.size w1 w2) : Below w.heap.size w w2 := h1.trans (h2.mono h1.size)
def cvS (x : ByteArray) (k : Nat) : Value := .string x
/-- How much the texts come to. -/
def szS (l : List ByteArray) : Nat := l.length + (l.map ByteArray.size).sum
theorem szS_take {l : List ByteArray} {i : Nat} {x : ByteArray} (h : l[i]? = some x) : ((l.take (i + 1)).map ByteArray.size).sum = ((l.take i).map ByteArray.size).sum + x.size := by
  rw [List.take_add_one, h]; simp
theorem sum_le {l : List ByteArray} {x : ByteArray} (h : x ∈ l) : x.size ≤ (l.map ByteArray.size).sum := by
  induction l with
  | nil => cases h
  | cons y l ih =>
    simp only [List.map_cons, List.sum_cons]
    rcases List.mem_cons.1 h with rfl | h
    · omega
    · have := ih h; omega
theorem take_sum (l : List ByteArray) (k : Nat) : ((l.take k).map ByteArray.size).sum ≤ (l.map ByteArray.size).sum := by
  have : l.map ByteArray.size = (l.take k).map ByteArray.size ++ (l.drop k).map ByteArray.size := by rw [← List.map_append, List.take_append_drop]
  rw [this, List.sum_append]
  omega
theorem strs_of_trod {H : Type} {enc : TypeId × Value → H} {P : Program} {W : World} {sp : Nat → Bool} {hd : Bool} {t e : TypeId} {fuel : Nat} {cs : List Value} {x : DataW H × List MemPlace}
    (ht : P.underlying t = some (.slice e)) (he : P.underlying e = some .string) (hc : P.cellsOf e = 1) (h : DataW.trod enc P W 0 sp hd fuel t cs = some x) :
    ∃ (tv : Value) (l : List ByteArray), cs = [tv] ∧ l.length ≤ maxLen ∧ (∀ y ∈ l, y.size ≤ maxLen) ∧ VRw 1 cvS W tv l := by
  rcases Deep.open_slice1 ht hc h with ⟨h1, _⟩ | ⟨a, ln, c, m, n, V, D, Pl, h1, _, hl, hcm, hm, _, hx⟩
  · exact ⟨_, [], h1, by simp, (fun y hy => by cases hy), none, 0, rfl, Nat.le_refl _, Or.inl rfl⟩
  · have hle : ln ≤ m := by rw [hm]; split <;> omega
    have hV : ∀ i, i < ln → ∃ z : ByteArray, W.cell? (a.add i) = some (.string z) ∧ z.size ≤ maxLen := fun i hi => by
      obtain ⟨k1, k2⟩ := hx i (by omega)
      obtain ⟨z, hz, _, hs⟩ := DataW.trod_string he k2
      refine ⟨z, ?_, hs⟩
      rw [k1]
      simpa using hz
    obtain ⟨q, hq⟩ := Deep.choose_lt hV
    refine ⟨_, (List.range ln).map q, h1, by simp; omega, (fun y hy => ?_), some a, c, by simp, by simpa using hl, ?_⟩
    · obtain ⟨i, hi, rfl⟩ := List.mem_map.1 hy
      exact (hq i (List.mem_range.1 hi)).2
    by_cases h0 : ln = 0
    · exact Or.inl (by simp [h0])
    · obtain ⟨b, off, spot⟩ := a
      have hs := (hq 0 (by omega)).1
      have hspot : spot = none := by simpa [Addr.add] using World.cell?_spot hs
      subst hspot
      refine Or.inr ⟨b, off, rfl, World.block_lt_of_cell? W _ (by simpa [Addr.add_lit] using hs), fun i y hy k hk => ?_⟩
      have hi' : i < ln := by simpa using get_lt' hy
      have hy2 : y = q i := by
        rw [List.getElem?_map, List.getElem?_range hi'] at hy
        simpa using hy.symm
      subst hy2
      have := (hq i hi').1
      rw [Addr.add_lit] at this
      obtain rfl : k = 0 := by omega
      rw [Nat.mul_one, Nat.add_zero]
      exact this
theorem str_cell {w : World} {ao : Option Addr} {n cap : Nat} {l : List ByteArray} {i : Nat} {x : ByteArray} (h : VRw 1 cvS w (.slice ao n cap) l) (hk : l[i]? = some x) :
    ∃ g off, ao = some ⟨g, off, none⟩ ∧ g < w.heap.size ∧ w.cell? ⟨g, off + i, none⟩ = some (.string x) := by
  obtain ⟨g, off, rfl, hg, hcs⟩ := h.at hk
  have := hcs 0 (by omega)
  rw [Nat.mul_one, Nat.add_zero] at this
  exact ⟨g, off, rfl, hg, this⟩
theorem infoStr : (Try.prog.info? 9).map (fun i => (i.zero, i.size, i.bytes)) = some (some (.string .empty), 1, 16) := by kernel_rfl

set_option maxRecDepth 20000 in
set_option maxHeartbeats 4000000 in
theorem tostrs_any (ao : Option Addr) (n cap : Nat) (l : List ByteArray) (w : World) (h : VRw 1 cvS w (.slice ao n cap) l) (hn : l.length ≤ 1048576) :
    Calls Try.prog 61 #[.slice ao n cap] w fun e w' => e = .returned (.slice (some ⟨w.heap.size, 0, none⟩) l.length l.length) ∧ VOut 1 cvS w' w.heap.size l.length l l.length ∧ Below w.heap.size w w' := by
  obtain rfl := h.len
  have HH := hidden h
  clear h
  obtain ⟨i0, hi, hz0, hz1, hz2⟩ := info_parts infoStr
  go_enter Try.func61, Try.ntmps61
  go_wp2_with (refine wpList_make_full _ rfl (.tmp 6) (.tmp 6) 65 rfl w.heap.size 9 i0 (.string .empty) 1 Try.underlying65 hi hz0 hz1 .i64 .i64 _ _ l.length rfl rfl rfl rfl (by rw [hz2]; omega) (by unfold maxLen; omega) (Nat.le_refl _) ?_; intro w1 ho1 hg1)
  have b1 : Below w.heap.size w w1 := (Below.refl _ w).grown hg1 (Nat.le_refl _) (by simp)
  have ho := VOut.made (cs := cvS) l ho1
  clear ho1 hg1
  go_wp2_with fail
  go_loopw [4] (fun iv wr => ∃ i : Nat, i ≤ l.length ∧ iv = .int .i64 i ∧ Below w.heap.size w wr ∧ VOut 1 cvS wr w.heap.size l.length l i) (fun iv _ => l.length - (intOf iv).toNat)
  case atStart => exact ⟨0, Nat.zero_le _, rfl, b1, ho⟩
  case round =>
    clear b1 ho
    obtain ⟨i, hil, rfl, hb, ho⟩ := hrel
    by_cases hlt : i < l.length
    · have hlti : (i : Int) < (l.length : Int) := by omega
      obtain ⟨x, hx⟩ := some_of l i hlt
      obtain ⟨g, off, rfl, hg, c0⟩ := str_cell (HH.out.below hb) hx
      have hset : VOut 1 cvS (wr.setCell ⟨w.heap.size, i, none⟩ (.string x)) w.heap.size l.length l (i + 1) := by
        have := ho.set hlt hx [.string x] rfl (fun k hk => by obtain rfl : k = 0 := by omega
                                                              rfl)
        rw [Nat.mul_one] at this
        exact this
      obtain ⟨⟨u0, hu0⟩, hf0⟩ := ho.old hlt (show 0 < 1 by omega)
      rw [Nat.mul_one, Nat.add_zero] at hu0 hf0
      have b3 := hb.setCell (p := ⟨w.heap.size, i, none⟩) (Nat.le_refl _) (.string x)
      have HS := hidden hset
      clear hset ho hx
      go_wp2_with fail
      go_roundw
      case rel => exact ⟨i + 1, by omega, rfl, b3, HS.out⟩
      case measure => simp [intOf]; omega
    · have hlti : ¬ (i : Int) < (l.length : Int) := by omega
      have hil2 : i = l.length := by omega
      subst hil2
      go_wp2_with fail
      go_ret
      exact ⟨rfl, ho, hb⟩

set_option maxRecDepth 20000 in
set_option maxHeartbeats 2000000 in
theorem szstrs_any (ao : Option Addr) (n cap : Nat) (l : List ByteArray) (L : Int) (w : World) (h : VRw 1 cvS w (.slice ao n cap) l) (hn : l.length ≤ maxLen) (ht : ∀ x ∈ l, x.size ≤ maxLen) (h0 : 0 ≤ L) (h1 : L ≤ 1048576) :
    Calls Try.prog 60 #[.slice ao n cap, .int .i64 L] w fun e w' => e = .returned (.int .i64 (if L < (szS l : Nat) then -1 else L - (szS l : Nat))) ∧ w = w' := by
  obtain rfl := h.len
  have HH := hidden h
  have HT := hidden ht
  have hn2 : (l.length : Int) ≤ 9223372036854775807 := by unfold maxLen at hn; omega
  have HZ : Hid (szS l = l.length + (l.map ByteArray.size).sum) := rfl
  obtain ⟨R, hR⟩ : ∃ R : Int, R = if L < (szS l : Nat) then -1 else L - (szS l : Nat) := ⟨_, rfl⟩
  rw [← hR]
  have HR := hidden hR
  clear h ht hR
  by_cases hq : L - l.length < 0
  · have HV : Hid ((if L < (szS l : Nat) then (-1 : Int) else L - (szS l : Nat)) = -1) := by rw [Hid, if_pos (by rw [HZ.out]; push_cast; omega)]
    go_enter Try.func60, Try.ntmps60
    go_wp2_with fail
    go_ret
    exact ⟨by have e := HR.out; rw [HV.out] at e; subst e; rfl, rfl⟩
  go_enter Try.func60, Try.ntmps60
  go_wp2_with fail
  go_loopw [1, 5] (fun lv iv wr => ∃ (i : Nat) (M : Int), i ≤ l.length ∧ iv = .int .i64 i ∧ lv = .int .i64 M ∧ 0 ≤ M ∧ M ≤ L ∧ Hid (M = L - l.length - (((l.take i).map ByteArray.size).sum : Nat)) ∧ w = wr) (fun _ iv _ => l.length - (intOf iv).toNat)
  case atStart => exact ⟨0, _, Nat.zero_le _, rfl, rfl, by omega, by omega, by simp [Hid], rfl⟩
  case round =>
    obtain ⟨i, M, hi, rfl, rfl, hM0, hM1, hM, rfl⟩ := hrel
    by_cases hlt : i < l.length
    · have hlti : (i : Int) < (l.length : Int) := by omega
      obtain ⟨x, hx⟩ := some_of l i hlt
      obtain ⟨g, off, rfl, hg, c0⟩ := str_cell HH.out hx
      have hxl : (x.size : Int) ≤ 9223372036854775807 := by have := HT.out x (List.mem_of_getElem? hx); unfold maxLen at this; omega
      have HS := hidden (szS_take hx)
      have HL := hidden (sum_le (List.mem_of_getElem? hx))
      have HX := hidden hx
      clear hx
      by_cases hs : M - x.size < 0
      · have HV : Hid ((if L < (szS l : Nat) then (-1 : Int) else L - (szS l : Nat)) = -1) := by
          rw [Hid, if_pos]
          have hsum := take_sum l (i + 1)
          have := HZ.out
          have := hM.out
          have := HS.out
          omega
        go_wp2_with fail
        go_ret
        exact ⟨by have e := HR.out; rw [HV.out] at e; subst e; rfl, rfl⟩
      · have HQ : Hid (M - x.size = L - l.length - (((l.take (i + 1)).map ByteArray.size).sum : Nat)) := by
          have := hM.out
          have := HS.out
          unfold Hid
          omega
        clear hM
        go_wp2_with fail
        go_roundw
        case rel => exact ⟨i + 1, _, by omega, rfl, rfl, by omega, by omega, HQ, by first | trivial | rfl⟩
        case measure => simp [intOf]; omega
    · have hlti : ¬ (i : Int) < (l.length : Int) := by omega
      have hil : i = l.length := by omega
      have HV : Hid ((if L < (szS l : Nat) then (-1 : Int) else L - (szS l : Nat)) = M) := by
        have q := hM.out
        rw [hil, List.take_length] at q
        have := HZ.out
        rw [Hid, if_neg (by omega)]
        omega
      clear hil hM
      go_wp2_with fail
      go_ret
      exact ⟨by have e := HR.out; rw [HV.out] at e; subst e; rfl, rfl⟩

set_option maxRecDepth 20000 in
set_option maxHeartbeats 4000000 in
theorem eqstrs_any (a1 : Option Addr) (n1 c1 : Nat) (a2 : Option Addr) (n2 c2 : Nat) (l : List ByteArray) (w : World) (h : VRw 1 cvS w (.slice a1 n1 c1) l) (h' : VRw 1 cvS w (.slice a2 n2 c2) l) (hn : l.length ≤ 1048576) :
    Calls Try.prog 62 #[.slice a1 n1 c1, .slice a2 n2 c2] w fun e w' => e = .returned (.bool true) ∧ Below w.heap.size w w' := by
  obtain rfl := h.len
  obtain rfl := h'.len
  have HH := hidden h
  have HH' := hidden h'
  clear h h'
  go_enter Try.func62, Try.ntmps62
  go_wp2_with fail
  go_loopw [5] (fun iv wr => ∃ i : Nat, i ≤ l.length ∧ iv = .int .i64 i ∧ Below w.heap.size w wr) (fun iv _ => l.length - (intOf iv).toNat)
  case atStart => exact ⟨0, Nat.zero_le _, rfl, Below.refl _ _⟩
  case round =>
    obtain ⟨i, hil, rfl, hb⟩ := hrel
    by_cases hlt : i < l.length
    · have hlti : (i : Int) < (l.length : Int) := by omega
      obtain ⟨x, hx⟩ := some_of l i hlt
      obtain ⟨g, off, rfl, hg, c0⟩ := str_cell (HH.out.below hb) hx
      obtain ⟨g', off', rfl, hg', d0⟩ := str_cell (HH'.out.below hb) hx
      clear hx
      go_wp2_with fail
      go_quiet (fail)
      go_wp2_with fail
      go_roundw
      case rel => exact ⟨i + 1, by omega, rfl, by repeat (first | exact Below.refl _ _ | assumption | refine st_drew ?_ | refine st_drewN ?_ _ | refine Below.setCell ?_ (by first | omega | (simp; done) | (simp; omega)) _ | refine Below.alloc ?_ (by first | omega | (simp; done) | (simp; omega)) _)⟩
      case measure => simp [intOf]; omega
    · have hlti : ¬ (i : Int) < (l.length : Int) := by omega
      go_wp2_with fail
      go_ret
      exact ⟨rfl, hb⟩
end Go.Proofs.Ytbabknhccapaoaa
