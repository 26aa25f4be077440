/-
  The law of numbers that show their slips: the bytes that it is handed, what it picks of them, and its road.
-/
import Derived.Test.YtdnnenklkfkhcaaDoorRd
import Derived.Test.YtdnnenklkfkhcaaDoorNumB
import Derived.ProofKit
import Derived.Deep.Slices
import Derived.Deep.RegionLaw
import Derived.Deep.RegionHeld3
import Derived.Deep.DrawnRows
import Derived.Deep.AppendLies
import Derived.Deep.DeepCutAuto
namespace Go.Proofs.YtdnnenklkfkhcaaDoor
open Go.RowKit Nb

/-- The bytes bs lie at the slice (ao, n), below block g. -/
def Bytes (w : World) (g : Nat) (ao : Option Addr) (bs : List Int) : Prop :=
  (∀ x ∈ bs, 0 ≤ x ∧ x ≤ 255) ∧ (bs.length = 0 ∨ ∃ b off, ao = some ⟨b, off, none⟩ ∧ b < g ∧ ∀ i, i < bs.length → w.cell? ⟨b, off + i, none⟩ = some (.int .u8 (bs.getD i 0)))
theorem Bytes.below {w w' : World} {g : Nat} {ao : Option Addr} {bs : List Int} (h : Bytes w g ao bs) (hk : Below g w w') : Bytes w' g ao bs := by
  refine ⟨h.1, ?_⟩
  rcases h.2 with h2 | ⟨b, off, h1, h2, h4⟩
  · exact Or.inl h2
  · exact Or.inr ⟨b, off, h1, h2, fun i hi => (hk.cell (p := ⟨b, off + i, none⟩) h2).trans (h4 i hi)⟩
theorem Bytes.up {w : World} {g g' : Nat} {ao : Option Addr} {bs : List Int} (h : Bytes w g ao bs) (hg : g ≤ g') : Bytes w g' ao bs := by
  refine ⟨h.1, ?_⟩
  rcases h.2 with h2 | ⟨b, off, h1, h2, h4⟩
  · exact Or.inl h2
  · exact Or.inr ⟨b, off, h1, by omega, h4⟩

theorem big_any (ao : Option Addr) (cap n : Nat) (w : World) :
    Calls Tryd.prog 4 #[.slice ao n cap] w fun e w' => e = .returned (.bool (decide (4096 < (n : Int)))) ∧ w' = w := by
  go_enter Tryd.func4, Tryd.ntmps4
  go_wp2_with fail
  go_ret
  exact ⟨rfl, rfl⟩

set_option maxHeartbeats 1000000 in
theorem pick_any (ao : Option Addr) (cap : Nat) (bs : List Int) (n : Nat) (w : World) (hb : Bytes w w.heap.size ao bs) (hl : bs.length ≤ 5000) (hn : 0 < n) (hn2 : n ≤ 1000000000) :
    Calls Tryd.prog 5 #[.slice ao bs.length cap, .int .i64 n] w fun e w' => (∃ m : Nat, e = .returned (.int .i64 m) ∧ m < n) ∧ w' = w := by
  go_enter Tryd.func5, Tryd.ntmps5
  go_wp2_with fail
  go_loopw [5, 6] (fun hv iv wr => wr = w ∧ ∃ (k h : Nat), k ≤ bs.length ∧ h ≤ 1000003 ∧ iv = .int .i64 k ∧ hv = .int .i64 h) (fun _ iv _ => bs.length - (intOf iv).toNat)
  case atStart => exact ⟨rfl, 0, bs.length, Nat.zero_le _, by omega, rfl, rfl⟩
  case round =>
    obtain ⟨rfl, k, h, hk, hh, rfl, rfl⟩ := hrel
    by_cases hlt : k < bs.length
    · have hlt1 : (k : Int) < (bs.length : Int) := by omega
      rcases hb.2 with h2 | ⟨b, off, rfl, hbg0, hcell⟩
      · omega
      have hcb := hcell k hlt
      have hr : 0 ≤ bs.getD k 0 ∧ bs.getD k 0 ≤ 255 := hb.1 _ (by rw [List.getD_eq_getElem?_getD, List.getElem?_eq_getElem hlt]; simp)
      generalize bs.getD k 0 = y at *
      obtain ⟨r1, r2⟩ := hr
      obtain ⟨z, rfl⟩ := Int.eq_ofNat_of_zero_le r1
      clear hcell
      go_wp2_with fail
      go_roundw
      case rel => exact ⟨trivial, k + 1, (h * 41 + z) % 1000003, by omega, by omega, by go_num, by go_num⟩
      case measure => simp [intOf]; omega
    · have hlt1 : ¬ (k : Int) < (bs.length : Int) := by omega
      have hn0 : (0 : Int) < (n : Int) := by omega
      go_wp2_with fail
      go_ret
      exact ⟨⟨h % n, by rfl, Nat.mod_lt _ hn⟩, rfl⟩

/-- The bytes l lie in block g, and may be written. -/
def BRow (w : World) (g : Nat) (l : List UInt8) : Prop :=
  g < w.heap.size ∧ ∀ j, j < l.length → w.cell? ⟨g, j, none⟩ = some (.int .u8 (l.getD j 0).toNat) ∧ w.frozen? ⟨g, j, none⟩ = false
theorem BRow.below {w w' : World} {g B : Nat} {l : List UInt8} (h : BRow w g l) (hb : Below B w w') (hg : g < B) : BRow w' g l :=
  ⟨Nat.lt_of_lt_of_le h.1 hb.size, fun j hj => ⟨(hb.cell (p := ⟨g, j, none⟩) hg).trans (h.2 j hj).1, by
    have := (h.2 j hj).2
    simp only [World.frozen?, hb.block g hg] at this ⊢
    exact this⟩⟩
theorem BRow.drewN {w : World} {g : Nat} {l : List UInt8} (h : BRow w g l) (n : Nat) : BRow (w.drewN n) g l := h
theorem BRow.set {w : World} {g i : Nat} {l : List UInt8} (h : BRow w g l) (hi : i < l.length) (x : UInt8) : BRow (w.setCell ⟨g, i, none⟩ (.int .u8 x.toNat)) g (l.set i x) := by
  refine ⟨by simpa [World.setCell] using h.1, fun j hj => ?_⟩
  rw [List.length_set] at hj
  refine ⟨?_, by rw [World.frozen?_setCell]; exact (h.2 j hj).2⟩
  by_cases e : j = i
  · subst e
    rw [World.cell?_setCell_same _ _ _ (h.2 j hj).1, List.getD_eq_getElem?_getD, List.getElem?_set_self hi]; rfl
  · rw [World.cell?_setCell_other (h := by first | (simp; done) | (simp; exact e)), (h.2 j hj).1, List.getD_eq_getElem?_getD, List.getD_eq_getElem?_getD, List.getElem?_set_ne (fun q => e q.symm)]
theorem conv_bytes (w : World) (s : ByteArray) : ∃ (c : Nat) (W : World), (convert 9 22 (.string s)).run Tryd.prog w = .ok (.slice (some ⟨w.heap.size, 0, none⟩) s.size c) W ∧ BRow W w.heap.size s.data.toList ∧ Below w.heap.size w W := by
  refine ⟨_, _, Lib.run_convert_string_bytes w 9 22 5 s Tryd.underlying9 Tryd.underlying22 Tryd.underlying5, ⟨by rw [Lib.bytesWorld_size]; omega, fun j hj => ?_⟩, Lib.bytesWorld_below ..⟩
  rw [Array.length_toList] at hj
  refine ⟨Lib.bytesWorld_cell w 5 s j hj, ?_⟩
  have hz : s.data.size ≤ (Lib.bytesCells w 5 s).size := by simp [Lib.bytesCells]
  simp only [World.frozen?, Lib.bytesWorld_at_new]
  simp; omega

theorem info5 : (Tryd.prog.info? 5).map (fun i => (i.zero, i.size, i.bytes)) = some (some (.int .u8 0), 1, 1) := by kernel_rfl
theorem st_drew {w0 w : World} (h : Below w0.heap.size w0 w) : Below w0.heap.size w0 w.drew := ⟨h.os, h.tape, h.output, h.size, h.block⟩
theorem st_alloc {w0 w : World} (h : Below w0.heap.size w0 w) (o : Obj) : Below w0.heap.size w0 (w.alloc o) :=
  ⟨h.os, h.tape, h.output, by have := h.size; simp; omega, fun k hk => (Below.heap_alloc w o k (Nat.lt_of_lt_of_le hk h.size)).trans (h.block k hk)⟩
theorem blk_new (w : World) (o : Obj) (b : Nat) (hb : w.heap.size = b) : (w.alloc o).heap[b]? = some o := by subst hb; exact heap_alloc_new w o
theorem blk_drew {w : World} {b : Nat} {o : Obj} (h : w.heap[b]? = some o) : w.drew.heap[b]? = some o := h
theorem st_grown {w0 w w' : World} {v : Value} {n : Nat} {ys : List Value} (h : Below w0.heap.size w0 w) (hg : w.grownBy w' v.ownBlock) (ho : w.ownsRow w0.heap.size 5 1 v n ys) : Below w0.heap.size w0 w' := by
  refine ⟨hg.os.trans h.os, hg.tape.trans h.tape, hg.output.trans h.output, Nat.le_trans h.size hg.size, fun k hk => (hg.block k (Nat.lt_of_lt_of_le hk h.size) ?_).trans (h.block k hk)⟩
  rcases ho.2 with ⟨rfl, _⟩ | ⟨b, cap, cur, rfl, h3, _⟩
  · simp [Value.ownBlock]
  · simp [Value.ownBlock]; omega
theorem hold {w0 W : World} {G I : Nat} {u : Value} (hc : w0.cell? ⟨G, I, none⟩ = some u) (hG : G < w0.heap.size) (h : Below w0.heap.size w0 W) : Below w0.heap.size w0 W ∧ W.cell? ⟨G, I, none⟩ = some u :=
  ⟨h, (h.cell (p := ⟨G, I, none⟩) hG).trans hc⟩
theorem hold2 {w0 W : World} {G I : Nat} {u : Value} (hc : w0.cell? ⟨G, I, none⟩ = some u) (hf : w0.frozen? ⟨G, I, none⟩ = false) (hG : G < w0.heap.size) (h : Below w0.heap.size w0 W) : W.cell? ⟨G, I, none⟩ = some u ∧ W.frozen? ⟨G, I, none⟩ = false :=
  ⟨(h.cell (p := ⟨G, I, none⟩) hG).trans hc, by simp only [World.frozen?, h.block G hG] at hf ⊢; exact hf⟩
theorem mkL_dig (k j : Nat) (hj : j < 9) : ∃ d, d < 10 ∧ (mkL k)[3 + j]? = some (ch d) := by
  have hj' : j = 0 ∨ j = 1 ∨ j = 2 ∨ j = 3 ∨ j = 4 ∨ j = 5 ∨ j = 6 ∨ j = 7 ∨ j = 8 := by omega
  rcases hj' with rfl | rfl | rfl | rfl | rfl | rfl | rfl | rfl | rfl <;> refine ⟨_, ?_, by simp [mkL, pad]; rfl⟩ <;> omega
theorem news_of_bytes {w0 W : World} {cb coff : Nat} {bs : List Int} (hcells : ∀ i, i < bs.length → w0.cell? ⟨cb, coff + i, none⟩ = some (.int .u8 (bs.getD i 0))) (hcb : cb < w0.heap.size) (h : Below w0.heap.size w0 W) :
    ∀ j u, (bs.map (Value.int .u8))[j]? = some u → W.cell? ((⟨cb, coff, none⟩ : Addr).add j) = some u := by
  intro j u hu
  have hj : j < bs.length := by have := (List.getElem?_eq_some_iff.1 hu).1; simpa using this
  rw [Addr.add_lit, h.cell (p := ⟨cb, coff + j, none⟩) hcb, hcells j hj]
  rw [List.getElem?_map, List.getElem?_eq_getElem hj] at hu
  rw [List.getD_eq_getElem?_getD, List.getElem?_eq_getElem hj]
  simpa using hu
theorem own_one {w0 w : World} (b : Nat) (hb : w0.heap.size ≤ b) (x : Int) (h : w.heap[b]? = some (.cells #[.int .u8 x] 5)) : w.ownsRow w0.heap.size 5 1 (.slice (some ⟨b, 0, none⟩) 1 1) 1 [.int .u8 x] :=
  ⟨rfl, .inr ⟨b, 1, #[.int .u8 x], rfl, hb, h, Nat.le_refl _, by unfold maxLen; omega, rfl, rfl⟩⟩
theorem bytes_of_owns {w0 w : World} {v : Value} {n : Nat} {bs : List Int} (ho : w.ownsRow w0.heap.size 5 1 v n (bs.map (Value.int .u8))) (hr : ∀ x ∈ bs, 0 ≤ x ∧ x ≤ 255) (hn : 0 < bs.length) :
    ∃ g c, v = .slice (some ⟨g, 0, none⟩) bs.length c ∧ Bytes w w.heap.size (some ⟨g, 0, none⟩) bs := by
  obtain ⟨h1, h2⟩ := ho
  simp at h1
  rcases h2 with ⟨_, h2⟩ | ⟨g, cap, cur, h2, h3, h4, h5, h6, h7, h8⟩
  · omega
  · refine ⟨g, cap, by rw [h2, h1], hr, Or.inr ⟨g, 0, rfl, (Array.getElem?_eq_some_iff.1 h4).1, fun i hi => ?_⟩⟩
    simp only [World.cell?, h4, Nat.zero_add]
    have h9 : (cur.toList.take (n * 1))[i]? = (bs.map (Value.int .u8))[i]? := by rw [h8]
    rw [List.getElem?_take, if_pos (by omega), List.getElem?_map, List.getElem?_eq_getElem hi, Array.getElem?_toList] at h9
    simp [h9, List.getD_eq_getElem?_getD, List.getElem?_eq_getElem hi]

theorem step_app {ops : Array Oper} {o : Oper} {a : Act} {w : World} {K : Act → World → Prop} {Q : Exit → Act → World → Prop} {E : Prop} (hgd : o.guard = none) (s x : Operand)
    (ho : o.op = .call { callee := .builtin .append, args := #[s, x], argTypes := #[22, 22] })
    (w0 : World) (hB : Below w0.heap.size w0 w) (v : Value) (n : Nat) (ys : List Int) (hs : a.eval s = v) (hown : w.ownsRow w0.heap.size 5 1 v n (ys.map (Value.int .u8)))
    (ad : Addr) (m c : Nat) (news : List Int) (hx : a.eval x = .slice (some ad) m c) (hl : news.length = m) (hnews : ∀ j u, (news.map (Value.int .u8))[j]? = some u → w.cell? (ad.add j) = some u)
    (hb : n + m ≤ 5000) (hr : ∀ z ∈ ys ++ news, 0 ≤ z ∧ z ≤ 255) (hn : 0 < ys.length) (hyl : ys.length = n)
    (h : ∀ (L : List Int) g c' w', L.length ≤ 5000 → Bytes w' w'.heap.size (some ⟨g, 0, none⟩) L → Below w0.heap.size w0 w' → K (a.put o.dst (.slice (some ⟨g, 0, none⟩) L.length c')) w') :
    if Region.wanted o (yielded ops a.tmps) = true then Oper.wp Tryd.prog o a w K Q else E := by
  obtain ⟨i0, hi, hz0, hz1, hz2⟩ := info_parts info5
  have hw : Region.wanted o (yielded ops a.tmps) = true := by simp [Region.wanted, hgd]
  rw [if_pos hw]
  refine wp_append_own w s x 22 ho w0.heap.size 5 i0 (.int .u8 0) 1 1 Tryd.underlying22 hi hz0 hz1 hz2 rfl (by decide) v n (ys.map (Value.int .u8)) hs hown ad m c (news.map (Value.int .u8)) hx (by simp [hl]) hnews ?_ (by unfold maxLen; omega) (by omega) hB.size ?_
  · intro u hu
    obtain ⟨z, _, rfl⟩ := List.mem_map.1 hu
    rfl
  · intro v' w' ho' hg' _
    rw [← List.map_append] at ho'
    obtain ⟨g, c', rfl, hby⟩ := bytes_of_owns ho' hr (by simp; omega)
    exact h (ys ++ news) g c' w' (by rw [List.length_append]; omega) hby (st_grown hB hg' hown)

theorem Hid.mk9 {p : Prop} (h : p) : Hid p := h
theorem bytes_one (w : World) (g : Nat) (h : w.heap[g]? = some (.cells #[.int .u8 5] 5)) : Bytes w w.heap.size (some ⟨g, 0, none⟩) [5] := by
  refine ⟨fun x hx => by rw [List.mem_singleton.1 hx]; omega, Or.inr ⟨g, 0, rfl, (Array.getElem?_eq_some_iff.1 h).1, fun i hi => ?_⟩⟩
  have : i = 0 := by simpa using hi
  subst this
  simp [World.cell?, h]
theorem step_pick {ops : Array Oper} {o : Oper} {a : Act} {w : World} {K : Act → World → Prop} {Q : Exit → Act → World → Prop} {E : Prop} (hgd : o.guard = none) (s : Operand)
    (ho : o.op = .call { callee := .value (.func 5), args := #[s, .const (.int .i64 9)], argTypes := #[22, 2] })
    (L : List Int) (g c : Nat) (hs : a.eval s = .slice (some ⟨g, 0, none⟩) L.length c) (hL : L.length ≤ 5000) (hby : Bytes w w.heap.size (some ⟨g, 0, none⟩) L)
    (h : ∀ m : Nat, m < 9 → K (a.put o.dst (.int .i64 m)) w) :
    if Region.wanted o (yielded ops a.tmps) = true then Oper.wp Tryd.prog o a w K Q else E := by
  have hw : Region.wanted o (yielded ops a.tmps) = true := by simp [Region.wanted, hgd]
  rw [if_pos hw]
  have e5 : ∀ args w, (callFunc 5 args).run Tryd.prog w = .ok (.enter 5 args) w := enters_of Tryd.func5 (by kernel_rfl) rfl
  unfold Oper.wp
  have hrun : (execOp a.eval o).run Tryd.prog w = .ok (.enter 5 #[.slice (some ⟨g, 0, none⟩) L.length c, .int .i64 9]) w := by
    have ec : a.eval (.const (.int .i64 9)) = .int .i64 9 := rfl
    have ef : a.eval (.func 5) = .func (.func 5) #[] #[] := rfl
    simp [execOp, ho, resolve, invoke, hs, e5, ec, ef, Deferred.ofValue]
  rw [hrun, Oper.upon_enter]
  refine (pick_any (some ⟨g, 0, none⟩) c L 9 w hby hL (by decide) (by decide)).mono ?_
  rintro e w1 ⟨⟨m, rfl, hm⟩, rfl⟩
  exact h m hm

theorem stored (d m : Nat) (hd : d < 10) (hm : m < 9) :
    IntKind.u8.wrap (IntKind.i64.wrap (48 + (IntKind.i64.wrap (IntKind.i64.wrap (IntKind.i64.wrap (IntKind.u8.wrap (48 + (d : Int) - 48)) + 1) + (m : Int))).tmod 10)) = ((ch ((d + 1 + m) % 10)).toNat : Int) := by
  have e1 : IntKind.u8.wrap (48 + (d : Int) - 48) = (d : Int) := by rw [IntKind.wrap_u8]; omega
  have e2 : IntKind.i64.wrap (d : Int) = (d : Int) := by rw [IntKind.wrap_i64]; omega
  have e3 : IntKind.i64.wrap ((d : Int) + 1) = (d : Int) + 1 := by rw [IntKind.wrap_i64]; omega
  have e4 : IntKind.i64.wrap ((d : Int) + 1 + (m : Int)) = (d : Int) + 1 + (m : Int) := by rw [IntKind.wrap_i64]; omega
  rw [e1, e2, e3, e4, Int.tmod_eq_emod_of_nonneg (by omega), ch_toNat _ (by omega)]
  have e5 : IntKind.i64.wrap (48 + ((d : Int) + 1 + (m : Int)) % 10) = 48 + ((d : Int) + 1 + (m : Int)) % 10 := by rw [IntKind.wrap_i64]; omega
  rw [e5, IntKind.wrap_u8]
  omega
theorem ch_ne (d m : Nat) (hd : d < 10) (hm : m < 9) : ch d ≠ ch ((d + 1 + m) % 10) := fun h => by
  have := ch_inj _ _ hd (by omega) h
  omega
theorem conv_back (w : World) (g c : Nat) (l : List UInt8) (h : BRow w g l) (hl : l.length = 14) : (convert 22 9 (.slice (some ⟨g, 0, none⟩) 14 c)).run Tryd.prog w = .ok (.string ⟨l.toArray⟩) w := by
  rw [← hl]
  refine run_convert_bytes_back (P := Tryd.prog) w 22 9 5 ⟨g, 0, none⟩ c l Tryd.underlying22 Tryd.underlying5 Tryd.underlying9 ?_
  intro j hj
  rw [Addr.add_lit, Nat.zero_add, (h.2 j hj).1, List.getD_eq_getElem?_getD, List.getElem?_eq_getElem hj]
  rfl
theorem below_set {w W : World} {g i : Nat} (h : Below w.heap.size w W) (hg : w.heap.size ≤ g) (u : Value) : Below w.heap.size w (W.setCell ⟨g, i, none⟩ u) := h.setCell hg u

set_option maxRecDepth 100000 in
set_option maxHeartbeats 8000000 in
theorem walk (ao : Option Addr) (cap : Nat) (bs : List Int) (w : World) (hb : Bytes w w.heap.size ao bs) (htab : Lib.TabIs Tryd.prog w "internal/strconv.uint64pow10" .u64 Lib.pow10Tab)
    (tp1 : TypeId) (p1 : Value) (hsyn : w.var? Tryd.prog "strconv.ErrSyntax" = some #[.iface tp1 p1]) (tp2 : TypeId) (p2 : Value) (hrng : w.var? Tryd.prog "strconv.ErrRange" = some #[.iface tp2 p2]) :
    Calls Tryd.prog 3 #[.slice ao bs.length cap] w fun r w' => r = .returned (.bool true) ∧ Below w.heap.size w w' := by
  by_cases hbig : (4096 : Int) < (bs.length : Int)
  · clear htab hsyn hrng
    go_enter Tryd.func3, Tryd.ntmps3
    go_wp2_with fail
    refine (big_any _ _ _ _).mono ?_
    rintro e w1 ⟨rfl, hw1⟩
    have hw1' := hw1.symm
    clear hw1
    subst hw1'
    go_wp2
    go_ret
    exact ⟨rfl, Below.refl _ _⟩
  go_enter Tryd.func3, Tryd.ntmps3
  go_wp2_with fail
  refine (big_any _ _ _ _).mono ?_
  rintro e w1 ⟨rfl, hw1⟩
  have hw1' := hw1.symm
  clear hw1
  subst hw1'
  go_wp2_with fail
  refine (pick_any ao cap bs 1000000000 _ hb (by omega) (by omega) (by omega)).mono ?_
  rintro e w1 ⟨⟨m0, rfl, hm0⟩, hw1⟩
  have hw1' := hw1.symm
  clear hw1
  subst hw1'
  have hl4 : bs.length ≤ 4096 := by omega
  go_upto_if 21 with fail
  go_cut [3] (fun v wx => (∃ k, wx = w.drewN k) ∧ ∃ N : Nat, N < 1000000000 ∧ v = .int .i64 N)
  case first =>
    by_cases h3 : (3 : Int) < (bs.length : Int)
    · rcases hb.2 with h0 | ⟨cb, coff, rfl, hcb, hcells⟩
      · omega
      have c0 := hcells 0 (by omega)
      have c1 := hcells 1 (by omega)
      have c2 := hcells 2 (by omega)
      have c3 := hcells 3 (by omega)
      have hr : ∀ k, k < bs.length → 0 ≤ bs.getD k 0 ∧ bs.getD k 0 ≤ 255 := fun k hk => hb.1 _ (by rw [List.getD_eq_getElem?_getD, List.getElem?_eq_getElem hk]; simp)
      have r0 := hr 0 (by omega)
      have r1 := hr 1 (by omega)
      have r2 := hr 2 (by omega)
      have r3 := hr 3 (by omega)
      generalize bs.getD 0 0 = y0 at *
      generalize bs.getD 1 0 = y1 at *
      generalize bs.getD 2 0 = y2 at *
      generalize bs.getD 3 0 = y3 at *
      obtain ⟨r00, r01⟩ := r0
      obtain ⟨r10, r11⟩ := r1
      obtain ⟨r20, r21⟩ := r2
      obtain ⟨r30, r31⟩ := r3
      simp only [Nat.add_zero] at c0
      have k0 : (0 : Int) < (bs.length : Int) := by omega
      have k1 : (1 : Int) < (bs.length : Int) := by omega
      have k2 : (2 : Int) < (bs.length : Int) := by omega
      clear hcells hr hb htab hsyn hrng
      obtain ⟨N, hN⟩ : ∃ N : Nat, (y0 * 16777216 + y1 * 65536 + y2 * 256 + y3) % 1000000000 = (N : Int) := ⟨((y0 * 16777216 + y1 * 65536 + y2 * 256 + y3) % 1000000000).toNat, by omega⟩
      have hN2 : N < 1000000000 := by omega
      have HN : Hid ((y0 * 16777216 + y1 * 65536 + y2 * 256 + y3) % 1000000000 = (N : Int)) := hN
      clear hN
      go_wp2_with fail
      go_quiet (fail)
      go_wp2_with fail
      go_meet
      case rel => exact ⟨⟨_, rfl⟩, N, hN2, by first | (rw [HN.out]; done) | (rw [← HN.out]; done) | (congr 1; rw [← HN.out]; omega)⟩
    · go_wp2_with fail
      go_meet
      case rel => exact ⟨⟨0, rfl⟩, m0, hm0, rfl⟩
  case rest =>
    obtain ⟨⟨k0, hk0⟩, N, hN, rfl⟩ := hcut
    have b0 : Below w.heap.size w wc := by rw [hk0]; exact below_drewN k0
    have HT : Hid (∀ W : World, Below w.heap.size w W → Lib.TabIs Tryd.prog W "internal/strconv.uint64pow10" .u64 Lib.pow10Tab) := fun W h => Go.Joins.var_stays (P := Tryd.prog) (g := 0) (by kernel_rfl) htab h (Nat.le_refl _)
    have HSY : Hid (∀ W : World, Below w.heap.size w W → W.var? Tryd.prog "strconv.ErrSyntax" = some #[.iface tp1 p1]) := fun W h => Go.Joins.var_stays (P := Tryd.prog) (g := 1) (by kernel_rfl) hsyn h (Nat.le_refl _)
    have HRG : Hid (∀ W : World, Below w.heap.size w W → W.var? Tryd.prog "strconv.ErrRange" = some #[.iface tp2 p2]) := fun W h => Go.Joins.var_stays (P := Tryd.prog) (g := 2) (by kernel_rfl) hrng h (Nat.le_refl _)
    have HB : Hid (∀ W : World, Below w.heap.size w W → Bytes W W.heap.size ao bs) := fun W h => (hb.below h).up h.size
    have HBR : Hid (∀ z ∈ bs, 0 ≤ z ∧ z ≤ 255) := hb.1
    clear hk0 hb htab hsyn hrng
    go_wp2_with fail
    have hMK := imk_in N wc (by omega) (by omega) (HT.out _ b0)
    rw [Int.toNat_natCast] at hMK
    refine hMK.mono ?_
    rintro e w1 ⟨rfl, hb1'⟩
    have b1 := onto b0 hb1'
    clear hMK hb1' b0
    obtain ⟨S, hS⟩ : ∃ S : ByteArray, S = ⟨(mkL N).toArray⟩ := ⟨_, rfl⟩
    rw [← hS]
    have hSl : S.data.toList = mkL N := by rw [hS]
    have hSz : S.size = 14 := by
      have := mkL_length N
      rw [← hSl, Array.length_toList] at this
      exact this
    clear hS
    have HSl : Hid (S.data.toList = mkL N) := hSl
    clear hSl
    go_wp2_with fail
    refine (ird_any S w1 (by omega) (HT.out _ b1) tp1 p1 (HSY.out _ b1) tp2 p2 (HRG.out _ b1)).mono ?_
    rintro e w2 ⟨n2, ok2, rfl, hrd, hb2⟩
    obtain ⟨rfl, rfl⟩ := rdOk_uniq hrd (rd_some _ N hN HSl.out.symm)
    have b2 := onto b1 hb2
    clear hrd hb2 b1
    go_wp2_with fail
    refine (pick_any ao cap bs 9 _ (HB.out _ b2) (by omega) (by omega) (by omega)).mono ?_
    rintro e w3 ⟨⟨p, rfl, hp⟩, hw3⟩
    have hw3' := hw3.symm
    clear hw3
    subst hw3'
    obtain ⟨c4, w4, hcv, hro4, hb4⟩ := conv_bytes w2 S
    have b4 := onto b2 hb4
    have hS14 : (S.size : Int) = 14 := by omega
    rw [hSz] at hcv
    obtain ⟨d, hd, hxd⟩ := mkL_dig n2 p hp
    have hx : ((S.data.toList.getD (3 + p) 0).toNat : Int) = 48 + (d : Int) := by
      rw [HSl.out, List.getD_eq_getElem?_getD, hxd, Option.getD_some, ch_toNat d hd]; omega
    have HXD : Hid ((mkL n2)[3 + p]? = some (ch d)) := hxd
    clear hxd
    have hl14 : S.data.toList.length = 14 := by rw [Array.length_toList]; exact hSz
    have hc4 := (hro4.2 (3 + p) (by omega)).1
    have hf4 := (hro4.2 (3 + p) (by omega)).2
    rw [hx] at hc4
    clear hx
    have hGw : w.heap.size ≤ w2.heap.size := b2.size
    obtain ⟨G, hG⟩ : ∃ G, w2.heap.size = G := ⟨_, rfl⟩
    rw [hG] at hc4 hf4 hcv hro4 hGw
    have hG4 : G < w4.heap.size := hro4.1
    obtain ⟨I, hI⟩ : ∃ I : Nat, 3 + p = I := ⟨_, rfl⟩
    rw [hI] at hc4 hf4
    have hIi : 3 + (p : Int) = (I : Int) := by omega
    have HI : Hid (3 + p = I) := hI
    have i0 : (0 : Int) ≤ (I : Int) := by omega
    have i14 : (I : Int) < 14 := by omega
    have hr5 : Hid (∀ z ∈ [5] ++ bs, 0 ≤ z ∧ z ≤ 255) := by
      intro z hz
      rcases List.mem_append.1 hz with q | q
      · rw [List.mem_singleton.1 q]; omega
      · exact HBR.out z q
    clear hI hb4 b2 hG
    go_wp2_with fail
    go_cut [8] (fun v wx => ∃ y, v = .slice (some ⟨G, 0, none⟩) 14 c4 ∧ y < 10 ∧ ch d ≠ ch y ∧ BRow wx G (S.data.toList.set I (ch y)) ∧ Below w.heap.size w wx)
    case first =>
      have hc4a : ∀ o, (w4.alloc o).cell? ⟨G, I, none⟩ = some (.int .u8 (48 + (d : Int))) := fun o => ((st_alloc (Below.refl _ w4) o).cell (p := ⟨G, I, none⟩) hG4).trans hc4
      have hf4a : ∀ o, (w4.alloc o).frozen? ⟨G, I, none⟩ = false := fun o => (hold2 hc4 hf4 hG4 (st_alloc (Below.refl _ w4) o)).2
      have hby4 := HB.out _ b4
      cases ao with
      | none =>
        have hbs : bs = [] := by
          rcases hby4.2 with h0 | ⟨cb, coff, h0, _⟩
          · exact List.eq_nil_of_length_eq_zero h0
          · cases h0
        subst hbs
        clear hby4
        go_region_law (first
          | ((refine step_pick (by rfl) (.tmp 80) (by rfl) [5] w4.heap.size 1 (by first | ((simp [Act.eval, Act.put]); done) | fail) (by decide) (by first | exact bytes_one _ _ (by first | ((repeat (first | exact blk_new _ _ _ (by first | ((simp); done) | fail) | with_reducible apply blk_drew)); done) | fail) | fail) ?_; intro m hm))
          | fail)
        all_goals rw [stored d m hd hm]
        all_goals go_wp2_with fail
        all_goals go_meet
        all_goals first
          | exact ⟨(d + 1 + m) % 10, rfl, Nat.mod_lt _ (by decide), ch_ne d m hd hm, ((hro4.set (by omega) _).below (st_alloc (Below.refl _ _) _) (by simpa [World.setCell] using hG4)).drewN 1, st_drew (st_alloc (below_set b4 hGw _) _)⟩
          | skip
      | some AD =>
        have HNW : Hid (∀ W : World, Below w4.heap.size w4 W → ∀ j u, (bs.map (Value.int .u8))[j]? = some u → W.cell? (AD.add j) = some u) := by
          rcases hby4.2 with h0 | ⟨cb, coff, h0, hcb, hcells⟩
          · intro W _ j u hu
            rw [List.eq_nil_of_length_eq_zero h0] at hu
            simp at hu
          · obtain rfl := Option.some.inj h0
            exact fun W h => news_of_bytes hcells hcb h
        clear hby4
        go_region_law (first
            | ((refine step_app (by rfl) (.tmp 78) (.tmp 79) (by rfl) w4 (by first | ((repeat (first | assumption | with_reducible exact Below.refl _ _ | with_reducible apply st_drew | with_reducible apply st_alloc)); done) | fail) (.slice (some ⟨w4.heap.size, 0, none⟩) 1 1) 1 [5] (by first | ((simp [Act.eval, Act.put]); done) | fail) (own_one w4.heap.size (Nat.le_refl _) 5 (by first | ((repeat (first | exact blk_new _ _ _ (by first | ((simp); done) | fail) | with_reducible apply blk_drew)); done) | fail)) AD bs.length cap bs (by first | ((simp [Act.eval, Act.put]); done) | fail) rfl (HNW.out _ (by first | ((repeat (first | assumption | with_reducible exact Below.refl _ _ | with_reducible apply st_drew | with_reducible apply st_alloc)); done) | fail)) (by omega) hr5.out (by decide) rfl ?_; intro L g c5 w5 hL5 hby5 hb5; obtain ⟨hc5, hf5⟩ := hold2 hc4 hf4 hG4 hb5))
            | ((refine step_pick (by rfl) (.tmp 80) (by rfl) L g c5 (by first | ((simp [Act.eval, Act.put]); done) | fail) hL5 (by first | exact hby5 | fail) ?_; intro m hm))
            | fail)
        all_goals rw [stored d m hd hm]
        all_goals go_wp2_with fail
        all_goals go_meet
        all_goals first
          | exact ⟨(d + 1 + m) % 10, rfl, Nat.mod_lt _ (by decide), ch_ne d m hd hm, (hro4.below hb5 hG4).set (by omega) _, below_set (onto b4 hb5) hGw _⟩
          | skip
    case rest =>
      obtain ⟨y, rfl, hy, hny, hro6, b6⟩ := hcut
      clear hro4 hc4 hf4 b4 hcv
      have hcv6 := conv_back wc G c4 _ hro6 (by rw [List.length_set]; exact hl14)
      have hsz6 : (⟨(S.data.toList.set I (ch y)).toArray⟩ : ByteArray).size = 14 := by
        show (S.data.toList.set I (ch y)).toArray.size = 14
        rw [List.size_toArray, List.length_set]; exact hl14
      have hslip := slip_one n2 p y hN hp hy (by rw [HXD.out]; intro q; exact hny (Option.some.inj q))
      have hrd6 := ird_any ⟨(S.data.toList.set I (ch y)).toArray⟩ wc (by rw [hsz6]; decide) (HT.out _ b6) tp1 p1 (HSY.out _ b6) tp2 p2 (HRG.out _ b6)
      have HE6 : Hid ((⟨(S.data.toList.set I (ch y)).toArray⟩ : ByteArray).data.toList = (mkL n2).set (3 + p) (ch y)) := by
        show (S.data.toList.set I (ch y)).toArray.toList = _
        rw [List.toList_toArray, HSl.out, HI.out]
      generalize (⟨(S.data.toList.set I (ch y)).toArray⟩ : ByteArray) = S6 at *
      clear hro6
      go_wp2_with fail
      refine hrd6.mono ?_
      rintro e w7 ⟨n7, ok7, rfl, hrd, hb7⟩
      obtain ⟨rfl, rfl⟩ := rdOk_uniq hrd (rd_none _ (fun k hk q => hslip k hk (by rw [q, HE6.out])))
      have b7 := onto b6 hb7
      clear hrd hrd6 hb7 b6 hcv6 hsz6 hslip HE6
      obtain ⟨c8, w8, hcv, hro8, hb8⟩ := conv_bytes w7 S
      have b8 := onto b7 hb8
      rw [hSz] at hcv
      have hGw8 : w.heap.size ≤ w7.heap.size := b7.size
      obtain ⟨G8, hG8⟩ : ∃ G8, w7.heap.size = G8 := ⟨_, rfl⟩
      rw [hG8] at hcv hro8 hGw8
      clear hb8 hG8 b7
      by_cases hI11 : I = 11
      · subst hI11
        obtain ⟨a, ha, hxa⟩ := mkL_dig n2 7 (by omega)
        obtain ⟨b, hb, hxb⟩ := mkL_dig n2 (7 + 1) (by omega)
        have hsw := slip_two n2 7 a b hN (by omega) ha hb hxa (by rw [show 4 + 7 = 3 + (7 + 1) by omega]; exact hxb)
        have hca := (hro8.2 (10) (by omega)).1
        have hfa := (hro8.2 (10) (by omega)).2
        have hcb := (hro8.2 (11) (by omega)).1
        have hfb := (hro8.2 (11) (by omega)).2
        have hxa' : ((S.data.toList.getD (10) 0).toNat : Int) = 48 + (a : Int) := by
          rw [HSl.out, List.getD_eq_getElem?_getD, show (10 : Nat) = 3 + 7 by omega, hxa, Option.getD_some, ch_toNat a ha]; omega
        have hxb' : ((S.data.toList.getD (11) 0).toNat : Int) = 48 + (b : Int) := by
          rw [HSl.out, List.getD_eq_getElem?_getD, show (11 : Nat) = 3 + (7 + 1) by omega, hxb, Option.getD_some, ch_toNat b hb]; omega
        rw [hxa'] at hca
        rw [hxb'] at hcb
        have hro9 := (hro8.set (i := 10) (by omega) (ch b)).set (i := 11) (by rw [List.length_set]; omega) (ch a)
        rw [show ((ch b).toNat : Int) = 48 + (b : Int) by rw [ch_toNat b hb]; omega, show ((ch a).toNat : Int) = 48 + (a : Int) by rw [ch_toNat a ha]; omega] at hro9
        have b9 := below_set (i := 11) (below_set (i := 10) b8 hGw8 (.int .u8 (48 + (b : Int)))) hGw8 (.int .u8 (48 + (a : Int)))
        have hcv9 := conv_back _ G8 c8 _ hro9 (by rw [List.length_set, List.length_set]; exact hl14)
        have HE9 : Hid ((⟨((S.data.toList.set (10) (ch b)).set (11) (ch a)).toArray⟩ : ByteArray).data.toList = ((mkL n2).set (3 + 7) (ch b)).set (4 + 7) (ch a)) := by
          show ((S.data.toList.set (10) (ch b)).set (11) (ch a)).toArray.toList = _
          rw [List.toList_toArray, HSl.out, show (10 : Nat) = 3 + 7 by omega, show (11 : Nat) = 4 + 7 by omega]
        have hsz9 : (⟨((S.data.toList.set (10) (ch b)).set (11) (ch a)).toArray⟩ : ByteArray).size = 14 := by
          show ((S.data.toList.set (10) (ch b)).set (11) (ch a)).toArray.size = 14
          rw [List.size_toArray, List.length_set, List.length_set]; exact hl14
        generalize (⟨((S.data.toList.set (10) (ch b)).set (11) (ch a)).toArray⟩ : ByteArray) = S9 at *
        clear hro8 hro9 hxa hxb hxa' hxb' b8
        have hrd9 := fun W hW => ird_any S9 W (by rw [hsz9]; decide) (HT.out _ hW) tp1 p1 (HSY.out _ hW) tp2 p2 (HRG.out _ hW)
        have HRD := Hid.mk9 hrd9
        have HB9 := Hid.mk9 b9
        clear hrd9 b9
        have HSW := Hid.mk9 hsw
        clear hsw
        go_wp2_with fail
        refine (HRD.out _ HB9.out).mono ?_
        rintro e w11 ⟨n9, ok9, rfl, hrd, hb11⟩
        have b11 := onto HB9.out hb11
        have hsw := HSW.out
        clear HRD HB9 HSW hcv9 hca hcb hfa hfb hb11
        by_cases hab : a = b
        · subst hab
          rw [show ok9 = true from by
            cases hok : ok9
            · first | rfl | exact absurd ((hsw.2 (by unfold swOk; omega))) (fun ⟨k, hk, e⟩ => ((hrd.2 hok).2 k hk) (e.trans HE9.out.symm))
            · first | rfl | exact absurd (hsw.1 ⟨n9, (hrd.1 hok).1, (hrd.1 hok).2.trans HE9.out⟩) (by unfold swOk; omega)]
          go_wp2
          go_ret
          exact ⟨by first | rfl | (simp [hne, ha1, hb1]; done) | (simp [hne]; done), b11⟩
        · have hne : ((48 + (a : Int)) == 48 + (b : Int)) = false := by rw [beq_eq_false_iff_ne]; omega
          by_cases hs9 : a + b = 9
          · by_cases ha0 : a = 0
            · subst ha0
              have hb9 : b = 9 := by omega
              subst hb9
              rw [show ok9 = true from by
                cases hok : ok9
                · first | rfl | exact absurd ((hsw.2 (by unfold swOk; omega))) (fun ⟨k, hk, e⟩ => ((hrd.2 hok).2 k hk) (e.trans HE9.out.symm))
                · first | rfl | exact absurd (hsw.1 ⟨n9, (hrd.1 hok).1, (hrd.1 hok).2.trans HE9.out⟩) (by unfold swOk; omega)]
              go_wp2
              go_ret
              exact ⟨by first | rfl | (simp [hne, ha1, hb1]; done) | (simp [hne]; done), b11⟩
            · by_cases hb0 : b = 0
              · subst hb0
                have ha9 : a = 9 := by omega
                subst ha9
                rw [show ok9 = true from by
                  cases hok : ok9
                  · first | rfl | exact absurd ((hsw.2 (by unfold swOk; omega))) (fun ⟨k, hk, e⟩ => ((hrd.2 hok).2 k hk) (e.trans HE9.out.symm))
                  · first | rfl | exact absurd (hsw.1 ⟨n9, (hrd.1 hok).1, (hrd.1 hok).2.trans HE9.out⟩) (by unfold swOk; omega)]
                go_wp2
                go_ret
                exact ⟨by first | rfl | (simp [hne, ha1, hb1]; done) | (simp [hne]; done), b11⟩
              · have ha1 : ((48 + (a : Int)) == 48) = false := by rw [beq_eq_false_iff_ne]; omega
                have hb1 : ((48 + (b : Int)) == 48) = false := by rw [beq_eq_false_iff_ne]; omega
                rw [show ok9 = false from by
                  cases hok : ok9
                  · first | rfl | exact absurd ((hsw.2 (by unfold swOk; omega))) (fun ⟨k, hk, e⟩ => ((hrd.2 hok).2 k hk) (e.trans HE9.out.symm))
                  · first | rfl | exact absurd (hsw.1 ⟨n9, (hrd.1 hok).1, (hrd.1 hok).2.trans HE9.out⟩) (by unfold swOk; omega)]
                go_wp2
                go_ret
                exact ⟨by first | rfl | (simp [hne, ha1, hb1]; done) | (simp [hne]; done), b11⟩
          · have hs1 : ¬ (48 + (a : Int)) + (48 + (b : Int)) = 105 := by omega
            rw [show ok9 = false from by
              cases hok : ok9
              · first | rfl | exact absurd ((hsw.2 (by unfold swOk; omega))) (fun ⟨k, hk, e⟩ => ((hrd.2 hok).2 k hk) (e.trans HE9.out.symm))
              · first | rfl | exact absurd (hsw.1 ⟨n9, (hrd.1 hok).1, (hrd.1 hok).2.trans HE9.out⟩) (by unfold swOk; omega)]
            go_wp2
            go_ret
            exact ⟨by first | rfl | (simp [hne, ha1, hb1]; done) | (simp [hne]; done), b11⟩
      · have hI11i : ¬ (I : Int) = 11 := by omega
        have hI10 : I ≤ 10 := by have := HI.out; omega
        have hp8 : p < 8 := by have := HI.out; omega
        have hI13 : (I : Int) + 1 < 14 := by omega
        have hIp : I = 3 + p := HI.out.symm
        have HIp : Hid (I = 3 + p) := hIp
        clear hIp
        obtain ⟨a, ha, hxa⟩ := mkL_dig n2 p (by omega)
        obtain ⟨b, hb, hxb⟩ := mkL_dig n2 (p + 1) (by omega)
        have hsw := slip_two n2 p a b hN (by omega) ha hb hxa (by rw [show 4 + p = 3 + (p + 1) by omega]; exact hxb)
        have hca := (hro8.2 (I) (by omega)).1
        have hfa := (hro8.2 (I) (by omega)).2
        have hcb := (hro8.2 (I + 1) (by omega)).1
        have hfb := (hro8.2 (I + 1) (by omega)).2
        have hxa' : ((S.data.toList.getD (I) 0).toNat : Int) = 48 + (a : Int) := by
          rw [HSl.out, List.getD_eq_getElem?_getD, show (I : Nat) = 3 + p from HIp.out, hxa, Option.getD_some, ch_toNat a ha]; omega
        have hxb' : ((S.data.toList.getD (I + 1) 0).toNat : Int) = 48 + (b : Int) := by
          rw [HSl.out, List.getD_eq_getElem?_getD, show (I + 1 : Nat) = 3 + (p + 1) by rw [HIp.out]; omega, hxb, Option.getD_some, ch_toNat b hb]; omega
        rw [hxa'] at hca
        rw [hxb'] at hcb
        have hro9 := (hro8.set (i := I) (by omega) (ch b)).set (i := I + 1) (by rw [List.length_set]; omega) (ch a)
        rw [show ((ch b).toNat : Int) = 48 + (b : Int) by rw [ch_toNat b hb]; omega, show ((ch a).toNat : Int) = 48 + (a : Int) by rw [ch_toNat a ha]; omega] at hro9
        have b9 := below_set (i := I + 1) (below_set (i := I) b8 hGw8 (.int .u8 (48 + (b : Int)))) hGw8 (.int .u8 (48 + (a : Int)))
        have hcv9 := conv_back _ G8 c8 _ hro9 (by rw [List.length_set, List.length_set]; exact hl14)
        have HE9 : Hid ((⟨((S.data.toList.set (I) (ch b)).set (I + 1) (ch a)).toArray⟩ : ByteArray).data.toList = ((mkL n2).set (3 + p) (ch b)).set (4 + p) (ch a)) := by
          show ((S.data.toList.set (I) (ch b)).set (I + 1) (ch a)).toArray.toList = _
          rw [List.toList_toArray, HSl.out, show (I : Nat) = 3 + p from HIp.out, show 3 + p + 1 = 4 + p by omega]
        have hsz9 : (⟨((S.data.toList.set (I) (ch b)).set (I + 1) (ch a)).toArray⟩ : ByteArray).size = 14 := by
          show ((S.data.toList.set (I) (ch b)).set (I + 1) (ch a)).toArray.size = 14
          rw [List.size_toArray, List.length_set, List.length_set]; exact hl14
        generalize (⟨((S.data.toList.set (I) (ch b)).set (I + 1) (ch a)).toArray⟩ : ByteArray) = S9 at *
        clear hro8 hro9 hxa hxb hxa' hxb' b8
        have hrd9 := fun W hW => ird_any S9 W (by rw [hsz9]; decide) (HT.out _ hW) tp1 p1 (HSY.out _ hW) tp2 p2 (HRG.out _ hW)
        have HRD := Hid.mk9 hrd9
        have HB9 := Hid.mk9 b9
        clear hrd9 b9
        have HSW := Hid.mk9 hsw
        clear hsw
        go_wp2_with fail
        refine (HRD.out _ HB9.out).mono ?_
        rintro e w11 ⟨n9, ok9, rfl, hrd, hb11⟩
        have b11 := onto HB9.out hb11
        have hsw := HSW.out
        clear HRD HB9 HSW hcv9 hca hcb hfa hfb hb11
        by_cases hab : a = b
        · subst hab
          rw [show ok9 = true from by
            cases hok : ok9
            · first | rfl | exact absurd ((hsw.2 (by unfold swOk; omega))) (fun ⟨k, hk, e⟩ => ((hrd.2 hok).2 k hk) (e.trans HE9.out.symm))
            · first | rfl | exact absurd (hsw.1 ⟨n9, (hrd.1 hok).1, (hrd.1 hok).2.trans HE9.out⟩) (by unfold swOk; omega)]
          go_wp2
          go_ret
          exact ⟨by first | rfl | (simp [hne, ha1, hb1]; done) | (simp [hne]; done), b11⟩
        · have hne : ((48 + (a : Int)) == 48 + (b : Int)) = false := by rw [beq_eq_false_iff_ne]; omega
          by_cases hs9 : a + b = 9
          · by_cases ha0 : a = 0
            · subst ha0
              have hb9 : b = 9 := by omega
              subst hb9
              rw [show ok9 = true from by
                cases hok : ok9
                · first | rfl | exact absurd ((hsw.2 (by unfold swOk; omega))) (fun ⟨k, hk, e⟩ => ((hrd.2 hok).2 k hk) (e.trans HE9.out.symm))
                · first | rfl | exact absurd (hsw.1 ⟨n9, (hrd.1 hok).1, (hrd.1 hok).2.trans HE9.out⟩) (by unfold swOk; omega)]
              go_wp2
              go_ret
              exact ⟨by first | rfl | (simp [hne, ha1, hb1]; done) | (simp [hne]; done), b11⟩
            · by_cases hb0 : b = 0
              · subst hb0
                have ha9 : a = 9 := by omega
                subst ha9
                rw [show ok9 = true from by
                  cases hok : ok9
                  · first | rfl | exact absurd ((hsw.2 (by unfold swOk; omega))) (fun ⟨k, hk, e⟩ => ((hrd.2 hok).2 k hk) (e.trans HE9.out.symm))
                  · first | rfl | exact absurd (hsw.1 ⟨n9, (hrd.1 hok).1, (hrd.1 hok).2.trans HE9.out⟩) (by unfold swOk; omega)]
                go_wp2
                go_ret
                exact ⟨by first | rfl | (simp [hne, ha1, hb1]; done) | (simp [hne]; done), b11⟩
              · have ha1 : ((48 + (a : Int)) == 48) = false := by rw [beq_eq_false_iff_ne]; omega
                have hb1 : ((48 + (b : Int)) == 48) = false := by rw [beq_eq_false_iff_ne]; omega
                rw [show ok9 = false from by
                  cases hok : ok9
                  · first | rfl | exact absurd ((hsw.2 (by unfold swOk; omega))) (fun ⟨k, hk, e⟩ => ((hrd.2 hok).2 k hk) (e.trans HE9.out.symm))
                  · first | rfl | exact absurd (hsw.1 ⟨n9, (hrd.1 hok).1, (hrd.1 hok).2.trans HE9.out⟩) (by unfold swOk; omega)]
                go_wp2
                go_ret
                exact ⟨by first | rfl | (simp [hne, ha1, hb1]; done) | (simp [hne]; done), b11⟩
          · have hs1 : ¬ (48 + (a : Int)) + (48 + (b : Int)) = 105 := by omega
            rw [show ok9 = false from by
              cases hok : ok9
              · first | rfl | exact absurd ((hsw.2 (by unfold swOk; omega))) (fun ⟨k, hk, e⟩ => ((hrd.2 hok).2 k hk) (e.trans HE9.out.symm))
              · first | rfl | exact absurd (hsw.1 ⟨n9, (hrd.1 hok).1, (hrd.1 hok).2.trans HE9.out⟩) (by unfold swOk; omega)]
            go_wp2
            go_ret
            exact ⟨by first | rfl | (simp [hne, ha1, hb1]; done) | (simp [hne]; done), b11⟩
end Go.Proofs.YtdnnenklkfkhcaaDoor
