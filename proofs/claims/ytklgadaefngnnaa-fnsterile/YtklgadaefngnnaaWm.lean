/-
  What the specification makes of a history.
-/
import Derived.Test.YtklgadaefngnnaaWl
import Derived.Deep.CutBlock
namespace Go.Proofs.Ytklgadaefngnnaa
open Go.RowKit Va Wa Go.Maps
set_option linter.all false

theorem infoWB : (Try.prog.info? 4).map (fun i => (i.zero, i.size, i.bytes)) = some (some (.bool false), 1, 1) := by kernel_rfl
theorem mk_ints : ∃ Z : Array Value, Z.size = 1000 ∧ (∀ t, t < 1000 → Z[t]? = some (.int .i64 0)) ∧ ∀ W : World, (Instr.makeSlice 40 (.int .i64 1000) (.int .i64 1000)).run Try.prog W = .ok (.slice (some ⟨W.heap.size, 0, none⟩) 1000 1000) (W.alloc (.cells Z 2)) := by
  obtain ⟨i0, h0, h1, h2, h3⟩ := info_partsW infoW64
  refine ⟨madeCells #[.int .i64 0] 1000, size_madeCells _ _, fun t ht => by simp [madeCells, Nat.mod_one, ht], fun W => ?_⟩
  have := run_make (P := Try.prog) W 40 2 i0 _ Try.underlying40 h0 h1 .i64 .i64 1000 1000 (by omega) (by omega) (by rw [h3]; decide) (by omega)
  rw [h2] at this
  exact this
theorem mk_bools : ∃ Z : Array Value, Z.size = 1000 ∧ (∀ t, t < 1000 → Z[t]? = some (.bool false)) ∧ ∀ W : World, (Instr.makeSlice 136 (.int .i64 1000) (.int .i64 1000)).run Try.prog W = .ok (.slice (some ⟨W.heap.size, 0, none⟩) 1000 1000) (W.alloc (.cells Z 4)) := by
  obtain ⟨i0, h0, h1, h2, h3⟩ := info_partsW infoWB
  refine ⟨madeCells #[.bool false] 1000, size_madeCells _ _, fun t ht => by simp [madeCells, Nat.mod_one, ht], fun W => ?_⟩
  have := run_make (P := Try.prog) W 136 4 i0 _ Try.underlying136 h0 h1 .i64 .i64 1000 1000 (by omega) (by omega) (by rw [h3]; decide) (by omega)
  rw [h2] at this
  exact this
theorem heapD (w : World) : w.drew.heap = w.heap := rfl
theorem heapA (w : World) (o : Obj) (k : Nat) : (w.alloc o).heap[k]? = if k = w.heap.size then some o else w.heap[k]? := by
  show (w.heap.push o)[k]? = _
  rw [Array.getElem?_push]
theorem ownW_base {w : World} {b b' e s n : Nat} {v : Value} {xs : List Value} (h : w.ownsRow b e s v n xs) (hb : b' ≤ b) : w.ownsRow b' e s v n xs := by
  obtain ⟨q, ⟨q1, q2⟩ | ⟨g, c, cur, rfl, hg, r⟩⟩ := h
  · exact ⟨q, Or.inl ⟨q1, q2⟩⟩
  · exact ⟨q, Or.inr ⟨g, c, cur, rfl, Nat.le_trans hb hg, r⟩⟩
/-- What is told stays while a row grows beside it. -/
theorem told_keep {w w5 : World} {o : Obj} {base T S C E : Nat} {v cv bv : Value} {R : Rm} (h : SR w base T S C E cv bv R) (hg : (w.alloc o).grownBy w5 v.ownBlock) (hv : ∀ k, v.ownBlock = some k → k ≠ T ∧ k ≠ S ∧ k ≠ C ∧ k ≠ E) : SR w5 base T S C E cv bv R := by
  have hl := h.lt
  refine (h.below ((Below.refl _ w).alloc (Nat.le_refl _) o)).keep fun b q => hg.block b (by simp; rcases q with rfl | rfl | rfl | rfl <;> omega) (fun e => ?_)
  have := hv b e.symm
  omega
theorem told_own {w w5 : World} {o : Obj} {T b e s n : Nat} {v bv : Value} {xs : List Value} (h : w.ownsRow b e s bv n xs) (hg : (w.alloc o).grownBy w5 v.ownBlock) (hv : ∀ k, bv.ownBlock = some k → v.ownBlock ≠ some k) (hT : ∀ k, bv.ownBlock = some k → k ≠ T) (u : Value) : (w5.setCell ⟨T, 0, none⟩ u).ownsRow b e s bv n xs := by
  obtain ⟨q, ⟨q1, q2⟩ | ⟨g, c, cur, rfl, hgb, hh, r⟩⟩ := h
  · exact ⟨q, Or.inl ⟨q1, q2⟩⟩
  · have hlt := (Array.getElem?_eq_some_iff.1 hh).1
    exact ⟨q, Or.inr ⟨g, c, cur, rfl, hgb, (Below.heap_setCell _ _ _ _ (hT g rfl)).trans ((hg.block g (by simp; omega) (fun e => hv g rfl e.symm)).trans (((Below.refl _ w).alloc (Nat.le_refl _) o).block g hlt |>.trans hh)), r⟩⟩
theorem cell_twoW (w : World) (T j0 : Nat) (u0 a : Value) (t : TypeId) : ∀ (j : Nat) (u : Value), [a][j]? = some u → ((w.setCell ⟨T, j0, none⟩ u0).alloc (.cells #[a] t)).cell? ((⟨w.heap.size, 0, none⟩ : Addr).add j) = some u := fun j u hu => by
  have := cell_oneW (w.setCell ⟨T, j0, none⟩ u0) a t j u hu
  simpa using this
theorem told_room {wc w5 w7 : World} {o o2 : Obj} {T S C E n5 n7 c5 c7 : Nat} {u : Value} {cv bv : Value} {ad5 ad7 : Option Addr} (h5 : (Value.slice ad5 n5 c5).ownBlock = cv.ownBlock ∨ (Value.slice ad5 n5 c5).ownBlock = some (wc.alloc o).heap.size)
    (h7 : (Value.slice ad7 n7 c7).ownBlock = bv.ownBlock ∨ (Value.slice ad7 n7 c7).ownBlock = some ((w5.setCell ⟨T, 0, none⟩ u).alloc o2).heap.size) (hg5 : (wc.alloc o).grownBy w5 cv.ownBlock) (hg7 : ((w5.setCell ⟨T, 0, none⟩ u).alloc o2).grownBy w7 bv.ownBlock)
    (hnc : ∀ k, cv.ownBlock = some k → (k ≠ T ∧ k ≠ S ∧ k ≠ C ∧ k ≠ E) ∧ bv.ownBlock ≠ some k) (hnb : ∀ k, bv.ownBlock = some k → k ≠ T ∧ k ≠ S ∧ k ≠ C ∧ k ≠ E) (hT : T < wc.heap.size) (hS : S < wc.heap.size) (hC : C < wc.heap.size) (hE : E < wc.heap.size) (hz : wc.heap.size + 1 ≤ w5.heap.size)
    (hbl : ∀ k, bv.ownBlock = some k → k < wc.heap.size) (h5l : ∀ k, (Value.slice ad5 n5 c5).ownBlock = some k → k < w5.heap.size) :
    (∀ k, (Value.slice ad5 n5 c5).ownBlock = some k → (Value.slice ad7 n7 c7).ownBlock ≠ some k) ∧ (∀ k, (Value.slice ad5 n5 c5).ownBlock = some k → k ≠ T ∧ k ≠ S ∧ k ≠ C ∧ k ≠ E) ∧ (∀ k, (Value.slice ad7 n7 c7).ownBlock = some k → k ≠ T ∧ k ≠ S ∧ k ≠ C ∧ k ≠ E) := by
  simp only [World.size_alloc, World.size_setCell] at h5 h7
  refine ⟨fun k hk hk2 => ?_, fun k hk => ?_, fun k hk => ?_⟩
  · have hk5 := h5l k hk
    rcases h7 with h7 | h7
    · rw [h7] at hk2
      rcases h5 with h5 | h5
      · exact (hnc k (h5.symm.trans hk)).2 hk2
      · rw [h5] at hk
        have := hbl k hk2
        have := Option.some.inj hk; omega
    · rw [h7] at hk2
      have := Option.some.inj hk2; omega
  · rcases h5 with h5 | h5
    · exact (hnc k (h5.symm.trans hk)).1
    · rw [h5] at hk
      have := Option.some.inj hk; omega
  · rcases h7 with h7 | h7
    · exact hnb k (h7.symm.trans hk)
    · rw [h7] at hk
      have := Option.some.inj hk; omega
theorem told_apart5 {wc : World} {o : Obj} {n5 c5 : Nat} {cv bv : Value} {ad5 : Option Addr} {Q : Nat → Prop} (h5 : (Value.slice ad5 n5 c5).ownBlock = cv.ownBlock ∨ (Value.slice ad5 n5 c5).ownBlock = some (wc.alloc o).heap.size) (hnc : ∀ k, cv.ownBlock = some k → Q k ∧ bv.ownBlock ≠ some k) (hbl : ∀ k, bv.ownBlock = some k → k < wc.heap.size) : ∀ k, (Value.slice ad5 n5 c5).ownBlock = some k → bv.ownBlock ≠ some k := by
  simp only [World.size_alloc] at h5
  intro k hk hk2
  rcases h5 with h5 | h5
  · exact (hnc k (h5.symm.trans hk)).2 hk2
  · rw [h5] at hk
    have := hbl k hk2
    have := Option.some.inj hk; omega
theorem told_box {wc w5 w7 : World} {o o2 ob : Obj} {T P : Nat} {u u7 : Value} {cv bv : Value} (hP : wc.heap[P]? = some ob) (hg5 : (wc.alloc o).grownBy w5 cv.ownBlock) (hg7 : ((w5.setCell ⟨T, 0, none⟩ u).alloc o2).grownBy w7 bv.ownBlock) (hc : ∀ k, cv.ownBlock = some k → k ≠ P) (hb : ∀ k, bv.ownBlock = some k → k ≠ P) (hT : P ≠ T) (hl : P < wc.heap.size) : (w7.setCell ⟨T, 1, none⟩ u7).heap[P]? = some ob := by
  have hz := hg5.size
  simp only [World.size_alloc] at hz
  rw [Below.heap_setCell _ _ _ _ (show P ≠ T from hT), hg7.block P (by simp [World.size_setCell]; omega) (fun e => hb P e.symm rfl), heapA, if_neg (by simp [World.size_setCell]; omega), Below.heap_setCell _ _ _ _ (show P ≠ T from hT), hg5.block P (by simp; omega) (fun e => hc P e.symm rfl), heapA, if_neg (by omega)]
  exact hP
theorem told_below {w wc w5 w7 : World} {o o2 : Obj} {T : Nat} {u u7 : Value} {cv bv : Value} (h : Below w.heap.size w wc) (hg5 : (wc.alloc o).grownBy w5 cv.ownBlock) (hg7 : ((w5.setCell ⟨T, 0, none⟩ u).alloc o2).grownBy w7 bv.ownBlock) (hc : ∀ k, cv.ownBlock = some k → w.heap.size ≤ k) (hb : ∀ k, bv.ownBlock = some k → w.heap.size ≤ k) (hT : w.heap.size ≤ T) (hl : w.heap.size ≤ wc.heap.size) : Below w.heap.size w (w7.setCell ⟨T, 1, none⟩ u7) := by
  have hz := hg5.size
  simp only [World.size_alloc] at hz
  exact ((((h.alloc hl o).grown hg5 (by simp; omega) hc).setCell (p := ⟨T, 0, none⟩) hT u |>.alloc (by simp [World.size_setCell]; omega) o2).grown hg7 (by simp [World.size_setCell]; omega) hb).setCell (p := ⟨T, 1, none⟩) hT u7
theorem ownW_other {w : World} {b e s n T j : Nat} {v : Value} {xs : List Value} (h : w.ownsRow b e s v n xs) (hT : ∀ k, v.ownBlock = some k → k ≠ T) (u : Value) : (w.setCell ⟨T, j, none⟩ u).ownsRow b e s v n xs := by
  obtain ⟨q, ⟨q1, q2⟩ | ⟨g, c, cur, rfl, hgb, hh, r⟩⟩ := h
  · exact ⟨q, Or.inl ⟨q1, q2⟩⟩
  · exact ⟨q, Or.inr ⟨g, c, cur, rfl, hgb, (Below.heap_setCell _ _ _ _ (hT g rfl)).trans hh, r⟩⟩
theorem told_own2 {w5 w7 : World} {o2 : Obj} {b e s n T : Nat} {u v bv : Value} {xs : List Value} (h : w5.ownsRow b e s v n xs) (hg7 : ((w5.setCell ⟨T, 0, none⟩ u).alloc o2).grownBy w7 bv.ownBlock) (hne : ∀ k, v.ownBlock = some k → bv.ownBlock ≠ some k) (hT : ∀ k, v.ownBlock = some k → k ≠ T) (u7 : Value) : (w7.setCell ⟨T, 1, none⟩ u7).ownsRow b e s v n xs := by
  obtain ⟨q, ⟨q1, q2⟩ | ⟨g, c, cur, rfl, hgb, hh, r⟩⟩ := h
  · exact ⟨q, Or.inl ⟨q1, q2⟩⟩
  · have hlt := (Array.getElem?_eq_some_iff.1 hh).1
    refine ⟨q, Or.inr ⟨g, c, cur, rfl, hgb, ?_, r⟩⟩
    rw [Below.heap_setCell _ _ _ _ (show g ≠ T from hT g rfl), hg7.block g (by simp [World.size_setCell]; omega) (fun e => hne g rfl e.symm), heapA, if_neg (by simp [World.size_setCell]; omega), Below.heap_setCell _ _ _ _ (show g ≠ T from hT g rfl)]
    exact hh
/-- What the round's switch leaves. -/
def Sw (X : Nat → Prop) (base T S C E : Nat) (cv bv : Value) (R : Rm) (x : Stp) (w0 : World) (a b : Value) (wx : World) : Prop := a = .int .i64 (codeS R x) ∧ b = .int .i64 (byS R x) ∧ SR wx base T S C E cv bv (nxt R x) ∧ Sx X w0 wx

set_option maxRecDepth 20000 in
set_option maxHeartbeats 8000000 in
theorem srun_any (ao : Option Addr) (n cap : Nat) (l : List Stp) (w : World) (h : Rw 4 csT w (.slice ao n cap) l) (hok : StepsOk l) :
    Calls Try.prog 67 #[.slice ao n cap] w fun e w' => ∃ cv bv S C, e = .returned (.agg #[cv, bv, .slice (some ⟨S, 0, none⟩) 1000 1000, .slice (some ⟨C, 0, none⟩) 1000 1000]) ∧ w'.ownsRow w.heap.size 2 1 cv l.length ((codesF rm0 l).map fun z => Value.int .i64 z) ∧ w'.ownsRow w.heap.size 2 1 bv l.length ((bysF rm0 l).map fun z => Value.int .i64 z) ∧ Th w' S 2 (fun t => .int .i64 ((rmF rm0 l).st t)) ∧ Below w.heap.size w w' := by
  obtain rfl := h.len
  have HH := hidden h
  have hl2 := hok.1
  have HOK := hidden hok
  obtain ⟨i0, hi0, hv0, hv1, hv2⟩ := info_partsW infoW64
  obtain ⟨ZI, zi1, zi2, hmk⟩ := mk_ints
  obtain ⟨ZB, zb1, zb2, hmb⟩ := mk_bools
  have HZI := hidden (And.intro zi1 zi2)
  have HZB := hidden (And.intro zb1 zb2)
  clear h hok zi1 zi2 zb1 zb2
  go_enter Try.func67, Try.ntmps67
  go_upto_region 1 with fail
  go_cut [3, 11, 12] (fun tv sv cv wx => ∃ T S C, tv = .pointer (some ⟨T, 0, none⟩) ∧ sv = .slice (some ⟨S, 0, none⟩) 1000 1000 ∧ cv = .slice (some ⟨C, 0, none⟩) 1000 1000 ∧ (wx.heap[T]? = some (Obj.cells #[.slice none 0 0, .slice none 0 0, .slice (some ⟨S, 0, none⟩) 1000 1000, .slice (some ⟨C, 0, none⟩) 1000 1000] 100 (0, 0)) ∧ wx.heap[S]? = some (Obj.cells ZI 2 (0, 0)) ∧ wx.heap[C]? = some (Obj.cells ZI 2 (0, 0)) ∧ S ≠ C ∧ w.heap.size + 1 ≤ T ∧ w.heap.size + 1 ≤ S ∧ w.heap.size + 1 ≤ C ∧ wx.heap[w.heap.size]? = some (Obj.cells #[.slice none 0 0, .slice none 0 0, .slice none 0 0, .slice none 0 0] 100 (0, 0)) ∧ Below w.heap.size w wx))
  case first =>
    first | go_region | fail
    all_goals go_wp2_with fail
    all_goals go_meet
    all_goals refine ⟨_, _, _, rfl, rfl, rfl, ?_, ?_, ?_, by omega, by omega, by omega, by omega, ?_, by repeat (first | exact Below.refl _ _ | assumption | refine st_drew ?_ | refine st_drewN ?_ _ | refine Below.setCell ?_ (by first | omega | (simp; done) | (simp; omega)) _ | refine Below.alloc ?_ (by first | omega | (simp; done) | (simp; omega)) _)⟩
    all_goals (simp only [heapD, heapA, World.size_alloc])
    all_goals (repeat (first | rw [if_pos trivial] | rw [if_pos rfl] | rw [if_neg (by omega)]))
  case rest =>
    rename World => wz
    obtain ⟨T, S, C, rfl, -, -, h1, h2, h3, h4, h5, h6, h7, h8, b0⟩ := hcut
    have hsz0 := b0.size
    have hS0 : SR (wz.alloc (.cells ZB 4)) (w.heap.size + 1) T S C wz.heap.size (.slice none 0 0) (.slice none 0 0) rm0 := by
      have bA : Below wz.heap.size wz (wz.alloc (.cells ZB 4)) := (Below.refl _ wz).alloc (Nat.le_refl _) _
      have hlt : ∀ {b : Nat} {o : Obj}, wz.heap[b]? = some o → (wz.alloc (.cells ZB 4)).heap[b]? = some o := fun q => (bA.block _ (Array.getElem?_eq_some_iff.1 q).1).trans q
      have hsz : w.heap.size < wz.heap.size := (Array.getElem?_eq_some_iff.1 h8).1
      exact ⟨hlt h1, ⟨ZI, hlt h2, HZI.out.1, HZI.out.2⟩, ⟨ZI, hlt h3, HZI.out.1, HZI.out.2⟩, ⟨ZB, (MapKept.heap_alloc wz _).1, HZB.out.1, HZB.out.2⟩, h4, h5, h6, h7, hsz⟩
    have hP0 : (wz.alloc (.cells ZB 4)).heap[w.heap.size]? = some (Obj.cells #[.slice none 0 0, .slice none 0 0, .slice none 0 0, .slice none 0 0] 100 (0, 0)) := ((Below.refl _ wz).alloc (Nat.le_refl _) _).block _ (Array.getElem?_eq_some_iff.1 h8).1 |>.trans h8
    have HS0 := hidden hS0
    have HP0 := hidden hP0
    clear h1 h2 h3 h4 h5 h6 h7 h8 hS0 hP0 hmk
    go_wp2_with fail
    go_loopw [5] (fun iv wr => ∃ (i : Nat) (cv bv : Value), i ≤ l.length ∧ iv = .int .i64 i ∧ SR wr (w.heap.size + 1) T S C wz.heap.size cv bv (rmF rm0 (l.take i)) ∧ wr.ownsRow (w.heap.size + 1) 2 1 cv i ((codesF rm0 (l.take i)).map fun z => Value.int .i64 z) ∧ wr.ownsRow (w.heap.size + 1) 2 1 bv i ((bysF rm0 (l.take i)).map fun z => Value.int .i64 z) ∧ (∀ k, cv.ownBlock = some k → (k ≠ T ∧ k ≠ S ∧ k ≠ C ∧ k ≠ wz.heap.size) ∧ bv.ownBlock ≠ some k) ∧ (∀ k, bv.ownBlock = some k → k ≠ T ∧ k ≠ S ∧ k ≠ C ∧ k ≠ wz.heap.size) ∧ wr.heap[w.heap.size]? = some (Obj.cells #[.slice none 0 0, .slice none 0 0, .slice none 0 0, .slice none 0 0] 100 (0, 0)) ∧ Below w.heap.size w wr) (fun iv _ => l.length - (intOf iv).toNat)
    case atStart => exact ⟨0, _, _, Nat.zero_le _, rfl, HS0.out, ⟨by simp [codesF], Or.inl ⟨rfl, rfl⟩⟩, ⟨by simp [bysF], Or.inl ⟨rfl, rfl⟩⟩, fun k hk => (by cases hk), fun k hk => (by cases hk), HP0.out, b0.alloc hsz0 _⟩
    case round =>
      clear HS0 HP0 b0 hmb
      obtain ⟨i, cv, bv, hi, rfl, hS, hoc, hob, hnc, hnb, hP, hb⟩ := hrel
      have hszr := hb.size
      by_cases hlt : i < l.length
      · have hlti : (i : Int) < (l.length : Int) := by omega
        obtain ⟨x, hx⟩ := some_of l i hlt
        obtain ⟨g, off, rfl, hg, c0, c1, c2, c3⟩ := step_cells (HH.out.below hb) hx
        have hxo := HOK.out.2 x (List.mem_of_getElem? hx)
        have hCd := hidden (codes_take hx)
        have hBy := hidden (bys_take hx)
        have hM := hidden (rm_take hx)
        generalize rmF rm0 (l.take i) = R at *
        have bW : Below wr.heap.size wr (wr.alloc (.cells #[.int .i64 x.kind, .int .i64 x.tray, .int .i64 x.cyc, .int .i64 x.per] 58)) := (Below.refl _ wr).alloc (Nat.le_refl _) _
        have hSW := hS.below bW
        have hPl : w.heap.size < wr.heap.size := (Array.getElem?_eq_some_iff.1 hP).1
        have hoc2 := ownW_below hoc bW
        have hob2 := ownW_below hob bW
        have hP2 := (bW.block _ hPl).trans hP
        have hb2 := hb.alloc hszr (.cells #[.int .i64 x.kind, .int .i64 x.tray, .int .i64 x.cyc, .int .i64 x.per] 58)
        have hv2w : wr.heap.size + 1 = (wr.alloc (.cells #[.int .i64 x.kind, .int .i64 x.tray, .int .i64 x.cyc, .int .i64 x.per] 58)).heap.size := by simp
        have hSl := hS.lt
        have HW := hidden (And.intro hoc2 (And.intro hob2 (And.intro hP2 (And.intro hb2 (And.intro hSW hv2w)))))
        have HN := hidden (And.intro hnc hnb)
        have HX := hidden hxo
        clear hx hxo hS hoc hob hP hoc2 hob2 hP2 hb2 hnc hnb hv2w bW
        go_upto_block 2 with fail
        go_cut [7, 8] from 25 to 134 (fun a b wx => Sw (fun k => k = S ∨ k = C ∨ k = wz.heap.size) (w.heap.size + 1) T S C wz.heap.size cv bv R x (wr.alloc (.cells #[.int .i64 x.kind, .int .i64 x.tray, .int .i64 x.cyc, .int .i64 x.per] 58)) a b wx)
        case first =>
          clear HW HN hCd hBy hM hb hszr c0 c1 c2 c3 HH
          obtain ⟨k, tI, cI, p⟩ := x
          obtain ⟨⟨t0, t1⟩, ⟨c0, c1⟩, -, hk⟩ := HX.out
          try simp only at t0 t1 c0 c1 hk
          try dsimp only at hSW
          try dsimp only
          obtain ⟨t, rfl⟩ : ∃ t' : Nat, tI = (t' : Int) := ⟨tI.toNat, by omega⟩
          obtain ⟨c, rfl⟩ : ∃ c' : Nat, cI = (c' : Int) := ⟨cI.toNat, by omega⟩
          have ht : t < 1000 := by omega
          have hc : c < 1000 := by omega
          have hti : (t : Int) < 1000 := by omega
          have hci : (c : Int) < 1000 := by omega
          have hBX : (wr.alloc (.cells #[.int .i64 k, .int .i64 t, .int .i64 c, .int .i64 p] 58)).heap[wr.heap.size]? = some (Obj.cells #[.int .i64 k, .int .i64 t, .int .i64 c, .int .i64 p] 58 (0, 0)) := (MapKept.heap_alloc wr _).1
          have hBl : wr.heap.size < (wr.alloc (.cells #[.int .i64 k, .int .i64 t, .int .i64 c, .int .i64 p] 58)).heap.size := by simp
          generalize wr.alloc (.cells #[.int .i64 k, .int .i64 t, .int .i64 c, .int .i64 p] 58) = W at *
          have x0 : W.cell? ⟨wr.heap.size, 0, none⟩ = some (.int .i64 k) := by simp [World.cell?, hBX]
          have x1 : W.cell? ⟨wr.heap.size, 1, none⟩ = some (.int .i64 t) := by simp [World.cell?, hBX]
          have x2 : W.cell? ⟨wr.heap.size, 2, none⟩ = some (.int .i64 c) := by simp [World.cell?, hBX]
          obtain ⟨-, -, d2, d3, -⟩ := hSW.cells
          have s0 := hSW.s.cell ht
          have s1 := hSW.c.cell ht
          have s2 := hSW.e.cell hc
          have f0 := hSW.s.fro t
          have f1 := hSW.c.fro t
          have f2 := hSW.e.fro c
          try simp only at s0
          try simp only at s1
          try simp only at s2
          have n1 : ¬ T = S := hSW.apart.1
          have n2 : ¬ S = T := fun e => n1 e.symm
          have hBne : wr.heap.size ≠ S ∧ wr.heap.size ≠ C ∧ wr.heap.size ≠ wz.heap.size := by omega
          clear t0 t1 c0 c1
          by_cases q1 : k = 1
          · subst q1
            clear hk
            by_cases q : R.st t = 2
            · rw [q] at s0
              have e1 : Hid (codeS R ⟨1, t, c, p⟩ = 1) := by simp [codeS, Hid, q]
              have e2 : Hid (byS R ⟨1, t, c, p⟩ = -1) := by simp [byS, Hid, q]
              have e3 : Hid (nxt R ⟨1, t, c, p⟩ = R) := by simp [nxt, Hid, q]
              have HS := hidden (hSW)
              have HXx := hidden (Sx.refl (fun k => k = S ∨ k = C ∨ k = wz.heap.size) W)
              clear hSW HX
              go_wp2_with fail
              go_meet
              exact ⟨by rw [e1.out], by rw [e2.out], by rw [e3.out]; exact HS.out, HXx.out⟩
            · have qb : (R.st t == 2) = false := by simp [q]
              have e1 : Hid (codeS R ⟨1, t, c, p⟩ = 0) := by simp [codeS, Hid, q]
              have e2 : Hid (byS R ⟨1, t, c, p⟩ = -1) := by simp [byS, Hid, q]
              have e3 : Hid (nxt R ⟨1, t, c, p⟩ = ⟨upd R.st t 1, R.cy, R.ov⟩) := by simp [nxt, Hid, q]
              have HS := hidden (hSW.setS ht 1)
              have HXx := hidden ((Sx.refl (fun k => k = S ∨ k = C ∨ k = wz.heap.size) W).set (Or.inl rfl) t (.int .i64 1))
              clear hSW HX
              go_wp2_with fail
              go_meet
              exact ⟨by rw [e1.out], by rw [e2.out], by rw [e3.out]; exact HS.out, HXx.out⟩
          by_cases q2 : k = 2
          · subst q2
            clear hk q1
            by_cases q : R.st t = 1
            · rw [q] at s0
              cases qo : R.ov c with
              | true =>
                rw [qo] at s2
                have e1 : Hid (codeS R ⟨2, t, c, p⟩ = 3) := by simp [codeS, Hid, q, qo]
                have e2 : Hid (byS R ⟨2, t, c, p⟩ = -1) := by simp [byS, Hid, q, qo]
                have e3 : Hid (nxt R ⟨2, t, c, p⟩ = R) := by simp [nxt, Hid, q, qo]
                have HS := hidden (hSW)
                have HXx := hidden (Sx.refl (fun k => k = S ∨ k = C ∨ k = wz.heap.size) W)
                clear hSW HX
                go_wp2_with fail
                go_meet
                exact ⟨by rw [e1.out], by rw [e2.out], by rw [e3.out]; exact HS.out, HXx.out⟩
              | false =>
                rw [qo] at s2
                have hsA := hSW.setS ht 2
                obtain ⟨-, -, y2, y3, -⟩ := hsA.cells
                have y4 := hsA.c.cell ht
                have y5 := hsA.c.fro t
                have y6 := hsA.s.cell ht
                have y7 := hsA.s.fro t
                have hB2 := (Below.heap_setCell W ⟨S, t, none⟩ (.int .i64 2) wr.heap.size hBne.1).trans hBX
                have z0 : (W.setCell ⟨S, t, none⟩ (.int .i64 2)).cell? ⟨wr.heap.size, 0, none⟩ = some (.int .i64 2) := by simp only [World.cell?, hB2]; rfl
                have z1 : (W.setCell ⟨S, t, none⟩ (.int .i64 2)).cell? ⟨wr.heap.size, 1, none⟩ = some (.int .i64 t) := by simp only [World.cell?, hB2]; rfl
                have z2 : (W.setCell ⟨S, t, none⟩ (.int .i64 2)).cell? ⟨wr.heap.size, 2, none⟩ = some (.int .i64 c) := by simp only [World.cell?, hB2]; rfl
                clear hsA hB2
                have e1 : Hid (codeS R ⟨2, t, c, p⟩ = 0) := by simp [codeS, Hid, q, qo]
                have e2 : Hid (byS R ⟨2, t, c, p⟩ = -1) := by simp [byS, Hid, q, qo]
                have e3 : Hid (nxt R ⟨2, t, c, p⟩ = ⟨upd R.st t 2, upd R.cy t c, R.ov⟩) := by simp [nxt, Hid, q, qo]
                have HS := hidden ((hSW.setS ht 2).setC ht c)
                have HXx := hidden (((Sx.refl (fun k => k = S ∨ k = C ∨ k = wz.heap.size) W).set (Or.inl rfl) t (.int .i64 2)).set (Or.inr (Or.inl rfl)) t (.int .i64 c))
                clear hSW HX
                go_wp2_with fail
                go_meet
                exact ⟨by rw [e1.out], by rw [e2.out], by rw [e3.out]; exact HS.out, HXx.out⟩
            · have qb : (R.st t != 1) = true := by simp [q]
              have qb2 : (R.st t == 1) = false := by simp [q]
              have e1 : Hid (codeS R ⟨2, t, c, p⟩ = 2) := by simp [codeS, Hid, q]
              have e2 : Hid (byS R ⟨2, t, c, p⟩ = -1) := by simp [byS, Hid, q]
              have e3 : Hid (nxt R ⟨2, t, c, p⟩ = R) := by simp [nxt, Hid, q]
              have HS := hidden (hSW)
              have HXx := hidden (Sx.refl (fun k => k = S ∨ k = C ∨ k = wz.heap.size) W)
              clear hSW HX
              go_wp2_with fail
              go_meet
              exact ⟨by rw [e1.out], by rw [e2.out], by rw [e3.out]; exact HS.out, HXx.out⟩
          by_cases q3 : k = 3 ∨ k = 4
          · rcases q3 with q3 | q3
            · subst q3
              clear hk q1 q2
              have HSW := hidden hSW
              have HB := hidden (And.intro hBX hBl)
              clear hSW d2 d3 s0 s1 s2 f0 f1 f2 x1 x2 HX hBX hBl
              go_wp2_with fail
              clear x0
              go_loopw [9, 10] (fun sv kv wx => ∃ j : Nat, j ≤ 1000 ∧ kv = .int .i64 j ∧ sv = .bool (anyC R c j) ∧ SR wx (w.heap.size + 1) T S C wz.heap.size cv bv ⟨ends R c 3 j, R.cy, R.ov⟩ ∧ Sx (fun k => k = S ∨ k = C ∨ k = wz.heap.size) W wx) (fun _ kv _ => 1000 - (intOf kv).toNat)
              case atStart => exact ⟨0, by omega, rfl, by simp [anyC], SR.stEq (s := R.st) (cy := R.cy) (ov := R.ov) HSW.out (fun t _ => by simp [ends]), Sx.refl _ _⟩
              case round =>
                rename World => wx
                obtain ⟨j, hj, rfl, rfl, hSj, hXj⟩ := hrel
                have hBj := (hXj.block wr.heap.size HB.out.2 (fun q => by omega)).trans HB.out.1
                have x0 : wx.cell? ⟨wr.heap.size, 0, none⟩ = some (.int .i64 3) := by simp [World.cell?, hBj]
                have x2 : wx.cell? ⟨wr.heap.size, 2, none⟩ = some (.int .i64 c) := by simp [World.cell?, hBj]
                obtain ⟨-, -, d2, d3, -⟩ := hSj.cells
                by_cases hjt : j < 1000
                · have hjti : (j : Int) < 1000 := by omega
                  have s0 := hSj.s.cell hjt
                  have s1 := hSj.c.cell hjt
                  have f0 := hSj.s.fro j
                  simp only [ends_at] at s0
                  try simp only at s1
                  have HA := hidden (anyC_succ R c j)
                  cases q : inC R c j with
                  | true =>
                    have qq := q
                    simp only [inC, decide_eq_true_eq] at qq
                    rw [qq.1] at s0
                    rw [qq.2] at s1
                    rw [q] at HA
                    have hsA := hSj.setS hjt 3
                    obtain ⟨-, -, y2, y3, -⟩ := hsA.cells
                    have y4 := hsA.c.cell hjt
                    have y5 := hsA.c.fro j
                    have y6 := hsA.s.cell hjt
                    have y7 := hsA.s.fro j
                    have hB2 := (Below.heap_setCell wx ⟨S, j, none⟩ (.int .i64 3) wr.heap.size hBne.1).trans hBj
                    have z0 : (wx.setCell ⟨S, j, none⟩ (.int .i64 3)).cell? ⟨wr.heap.size, 0, none⟩ = some (.int .i64 3) := by simp only [World.cell?, hB2]; rfl
                    have z1 : (wx.setCell ⟨S, j, none⟩ (.int .i64 3)).cell? ⟨wr.heap.size, 1, none⟩ = some (.int .i64 t) := by simp only [World.cell?, hB2]; rfl
                    have z2 : (wx.setCell ⟨S, j, none⟩ (.int .i64 3)).cell? ⟨wr.heap.size, 2, none⟩ = some (.int .i64 c) := by simp only [World.cell?, hB2]; rfl
                    clear hsA hB2
                    have HS2 := hidden ((hSj.setS hjt 3).stEq (fun t _ => ends_succ q t))
                    have HX2 := hidden (hXj.set (Or.inl rfl) j (.int .i64 3))
                    clear qq q hSj hXj hBj
                    go_upto_region 27 with fail
                    first | go_quiet (fail) | fail
                    all_goals go_wp2_with fail
                    all_goals go_roundw
                    case rel => exact ⟨j + 1, by omega, rfl, by rw [HA.out]; simp, HS2.out.keep (fun b _ => rfl), ⟨HX2.out.os, HX2.out.tape, HX2.out.output, HX2.out.size, HX2.out.block⟩⟩
                    case measure => simp [intOf]; omega
                  | false =>
                    rw [q] at HA
                    have HS2 := hidden (hSj.stEq (fun t _ => ends_skip q t))
                    have HX2 := hidden hXj
                    by_cases q1 : R.st j = 2
                    · have q2 : ¬ R.cy j = c := fun e => by simp [inC, q1, e] at q
                      have qb : (R.cy j == (c : Int)) = false := by simp [q2]
                      rw [q1] at s0
                      clear q q1 q2 hSj hXj hBj
                      generalize R.cy j = z at s1 qb
                      go_upto_region 27 with fail
                      first | go_quiet (fail) | fail
                      all_goals go_wp2_with fail
                      all_goals go_roundw
                      case rel => exact ⟨j + 1, by omega, rfl, by rw [HA.out]; simp, HS2.out.keep (fun b _ => rfl), ⟨HX2.out.os, HX2.out.tape, HX2.out.output, HX2.out.size, HX2.out.block⟩⟩
                      case measure => simp [intOf]; omega
                    · have qb : (R.st j == 2) = false := by simp [q1]
                      clear q q1 hSj hXj hBj
                      generalize R.st j = z at s0 qb
                      go_upto_region 27 with fail
                      first | go_quiet (fail) | fail
                      all_goals go_wp2_with fail
                      all_goals go_roundw
                      case rel => exact ⟨j + 1, by omega, rfl, by rw [HA.out]; simp, HS2.out.keep (fun b _ => rfl), ⟨HX2.out.os, HX2.out.tape, HX2.out.output, HX2.out.size, HX2.out.block⟩⟩
                      case measure => simp [intOf]; omega
                · have hjti : ¬ (j : Int) < 1000 := by omega
                  have hjn : j = 1000 := by omega
                  subst hjn
                  have s2 := hSj.e.cell hc
                  have f2 := hSj.e.fro c
                  try simp only at s2
                  cases q : anyC R c 1000 with
                  | true =>
                    have e1 : Hid (codeS R ⟨3, t, c, p⟩ = 0) := by simp [codeS, Hid, q]
                    have e2 : Hid (byS R ⟨3, t, c, p⟩ = -1) := by simp [byS, Hid]
                    have e3 : Hid (nxt R ⟨3, t, c, p⟩ = ⟨ends R c 3 1000, R.cy, upd R.ov c true⟩) := by simp [nxt, Hid, q]
                    have HS2 := hidden (hSj.setE hc true)
                    have HX2 := hidden (hXj.set (Or.inr (Or.inr rfl)) c (.bool true))
                    clear q hSj hXj hBj
                    go_wp2_with fail
                    go_meet
                    exact ⟨by rw [e1.out], by rw [e2.out], by rw [e3.out]; exact HS2.out, HX2.out⟩
                  | false =>
                    have e1 : Hid (codeS R ⟨3, t, c, p⟩ = 3) := by simp [codeS, Hid, q]
                    have e2 : Hid (byS R ⟨3, t, c, p⟩ = -1) := by simp [byS, Hid]
                    have e3 : Hid (nxt R ⟨3, t, c, p⟩ = R) := by simp [nxt, Hid, q]
                    have HS2 := hidden (show SR wx (w.heap.size + 1) T S C wz.heap.size cv bv R from hSj.stEq (fun t _ => ends_none (by simp [q]) t))
                    have HX2 := hidden hXj
                    clear q hSj hXj hBj
                    go_wp2_with fail
                    go_meet
                    exact ⟨by rw [e1.out], by rw [e2.out], by rw [e3.out]; exact HS2.out, HX2.out⟩
            · subst q3
              clear hk q1 q2
              have HSW := hidden hSW
              have HB := hidden (And.intro hBX hBl)
              clear hSW d2 d3 s0 s1 s2 f0 f1 f2 x1 x2 HX hBX hBl
              go_wp2_with fail
              clear x0
              go_loopw [9, 10] (fun sv kv wx => ∃ j : Nat, j ≤ 1000 ∧ kv = .int .i64 j ∧ sv = .bool (anyC R c j) ∧ SR wx (w.heap.size + 1) T S C wz.heap.size cv bv ⟨ends R c 0 j, R.cy, R.ov⟩ ∧ Sx (fun k => k = S ∨ k = C ∨ k = wz.heap.size) W wx) (fun _ kv _ => 1000 - (intOf kv).toNat)
              case atStart => exact ⟨0, by omega, rfl, by simp [anyC], SR.stEq (s := R.st) (cy := R.cy) (ov := R.ov) HSW.out (fun t _ => by simp [ends]), Sx.refl _ _⟩
              case round =>
                rename World => wx
                obtain ⟨j, hj, rfl, rfl, hSj, hXj⟩ := hrel
                have hBj := (hXj.block wr.heap.size HB.out.2 (fun q => by omega)).trans HB.out.1
                have x0 : wx.cell? ⟨wr.heap.size, 0, none⟩ = some (.int .i64 4) := by simp [World.cell?, hBj]
                have x2 : wx.cell? ⟨wr.heap.size, 2, none⟩ = some (.int .i64 c) := by simp [World.cell?, hBj]
                obtain ⟨-, -, d2, d3, -⟩ := hSj.cells
                by_cases hjt : j < 1000
                · have hjti : (j : Int) < 1000 := by omega
                  have s0 := hSj.s.cell hjt
                  have s1 := hSj.c.cell hjt
                  have f0 := hSj.s.fro j
                  simp only [ends_at] at s0
                  try simp only at s1
                  have HA := hidden (anyC_succ R c j)
                  cases q : inC R c j with
                  | true =>
                    have qq := q
                    simp only [inC, decide_eq_true_eq] at qq
                    rw [qq.1] at s0
                    rw [qq.2] at s1
                    rw [q] at HA
                    have hsA := hSj.setS hjt 3
                    obtain ⟨-, -, y2, y3, -⟩ := hsA.cells
                    have y4 := hsA.c.cell hjt
                    have y5 := hsA.c.fro j
                    have y6 := hsA.s.cell hjt
                    have y7 := hsA.s.fro j
                    have hB2 := (Below.heap_setCell wx ⟨S, j, none⟩ (.int .i64 3) wr.heap.size hBne.1).trans hBj
                    have z0 : (wx.setCell ⟨S, j, none⟩ (.int .i64 3)).cell? ⟨wr.heap.size, 0, none⟩ = some (.int .i64 4) := by simp only [World.cell?, hB2]; rfl
                    have z1 : (wx.setCell ⟨S, j, none⟩ (.int .i64 3)).cell? ⟨wr.heap.size, 1, none⟩ = some (.int .i64 t) := by simp only [World.cell?, hB2]; rfl
                    have z2 : (wx.setCell ⟨S, j, none⟩ (.int .i64 3)).cell? ⟨wr.heap.size, 2, none⟩ = some (.int .i64 c) := by simp only [World.cell?, hB2]; rfl
                    clear hsA hB2
                    have HS2 := hidden (SR.stEq (s' := ends R c 0 (j + 1)) (s := upd (upd (ends R c 0 j) j 3) j 0) ((hSj.setS hjt 3).setS hjt 0) (fun t ht => by rw [ends_succ q t]; unfold upd; split <;> rfl))
                    have HX2 := hidden ((hXj.set (Or.inl rfl) j (.int .i64 3)).set (Or.inl rfl) j (.int .i64 0))
                    clear qq q hSj hXj hBj
                    go_upto_region 27 with fail
                    first | go_quiet (fail) | fail
                    all_goals go_wp2_with fail
                    all_goals go_roundw
                    case rel => exact ⟨j + 1, by omega, rfl, by rw [HA.out]; simp, HS2.out.keep (fun b _ => rfl), ⟨HX2.out.os, HX2.out.tape, HX2.out.output, HX2.out.size, HX2.out.block⟩⟩
                    case measure => simp [intOf]; omega
                  | false =>
                    rw [q] at HA
                    have HS2 := hidden (hSj.stEq (fun t _ => ends_skip q t))
                    have HX2 := hidden hXj
                    by_cases q1 : R.st j = 2
                    · have q2 : ¬ R.cy j = c := fun e => by simp [inC, q1, e] at q
                      have qb : (R.cy j == (c : Int)) = false := by simp [q2]
                      rw [q1] at s0
                      clear q q1 q2 hSj hXj hBj
                      generalize R.cy j = z at s1 qb
                      go_upto_region 27 with fail
                      first | go_quiet (fail) | fail
                      all_goals go_wp2_with fail
                      all_goals go_roundw
                      case rel => exact ⟨j + 1, by omega, rfl, by rw [HA.out]; simp, HS2.out.keep (fun b _ => rfl), ⟨HX2.out.os, HX2.out.tape, HX2.out.output, HX2.out.size, HX2.out.block⟩⟩
                      case measure => simp [intOf]; omega
                    · have qb : (R.st j == 2) = false := by simp [q1]
                      clear q q1 hSj hXj hBj
                      generalize R.st j = z at s0 qb
                      go_upto_region 27 with fail
                      first | go_quiet (fail) | fail
                      all_goals go_wp2_with fail
                      all_goals go_roundw
                      case rel => exact ⟨j + 1, by omega, rfl, by rw [HA.out]; simp, HS2.out.keep (fun b _ => rfl), ⟨HX2.out.os, HX2.out.tape, HX2.out.output, HX2.out.size, HX2.out.block⟩⟩
                      case measure => simp [intOf]; omega
                · have hjti : ¬ (j : Int) < 1000 := by omega
                  have hjn : j = 1000 := by omega
                  subst hjn
                  have s2 := hSj.e.cell hc
                  have f2 := hSj.e.fro c
                  try simp only at s2
                  cases q : anyC R c 1000 with
                  | true =>
                    have e1 : Hid (codeS R ⟨4, t, c, p⟩ = 0) := by simp [codeS, Hid, q]
                    have e2 : Hid (byS R ⟨4, t, c, p⟩ = -1) := by simp [byS, Hid]
                    have e3 : Hid (nxt R ⟨4, t, c, p⟩ = ⟨ends R c 0 1000, R.cy, upd R.ov c true⟩) := by simp [nxt, Hid, q]
                    have HS2 := hidden (hSj.setE hc true)
                    have HX2 := hidden (hXj.set (Or.inr (Or.inr rfl)) c (.bool true))
                    clear q hSj hXj hBj
                    go_wp2_with fail
                    go_meet
                    exact ⟨by rw [e1.out], by rw [e2.out], by rw [e3.out]; exact HS2.out, HX2.out⟩
                  | false =>
                    have e1 : Hid (codeS R ⟨4, t, c, p⟩ = 3) := by simp [codeS, Hid, q]
                    have e2 : Hid (byS R ⟨4, t, c, p⟩ = -1) := by simp [byS, Hid]
                    have e3 : Hid (nxt R ⟨4, t, c, p⟩ = R) := by simp [nxt, Hid, q]
                    have HS2 := hidden (show SR wx (w.heap.size + 1) T S C wz.heap.size cv bv R from hSj.stEq (fun t _ => ends_none (by simp [q]) t))
                    have HX2 := hidden hXj
                    clear q hSj hXj hBj
                    go_wp2_with fail
                    go_meet
                    exact ⟨by rw [e1.out], by rw [e2.out], by rw [e3.out]; exact HS2.out, HX2.out⟩
          by_cases q5 : k = 5
          · subst q5
            clear hk q1 q2 q3
            by_cases q : R.st t = 3
            · rw [q] at s0
              have hsA := hSW.setS ht 0
              obtain ⟨-, -, y2, y3, -⟩ := hsA.cells
              have y4 := hsA.c.cell ht
              have y5 := hsA.c.fro t
              have y6 := hsA.s.cell ht
              have y7 := hsA.s.fro t
              have hB2 := (Below.heap_setCell W ⟨S, t, none⟩ (.int .i64 0) wr.heap.size hBne.1).trans hBX
              have z0 : (W.setCell ⟨S, t, none⟩ (.int .i64 0)).cell? ⟨wr.heap.size, 0, none⟩ = some (.int .i64 5) := by simp only [World.cell?, hB2]; rfl
              have z1 : (W.setCell ⟨S, t, none⟩ (.int .i64 0)).cell? ⟨wr.heap.size, 1, none⟩ = some (.int .i64 t) := by simp only [World.cell?, hB2]; rfl
              have z2 : (W.setCell ⟨S, t, none⟩ (.int .i64 0)).cell? ⟨wr.heap.size, 2, none⟩ = some (.int .i64 c) := by simp only [World.cell?, hB2]; rfl
              clear hsA hB2
              have e1 : Hid (codeS R ⟨5, t, c, p⟩ = 0) := by simp [codeS, Hid, q]
              have e2 : Hid (byS R ⟨5, t, c, p⟩ = R.cy t) := by simp [byS, Hid, q]
              have e3 : Hid (nxt R ⟨5, t, c, p⟩ = ⟨upd R.st t 0, R.cy, R.ov⟩) := by simp [nxt, Hid, q]
              have HS := hidden (hSW.setS ht 0)
              have HXx := hidden ((Sx.refl (fun k => k = S ∨ k = C ∨ k = wz.heap.size) W).set (Or.inl rfl) t (.int .i64 0))
              clear hSW HX
              go_wp2_with fail
              go_meet
              exact ⟨by rw [e1.out], by rw [e2.out], by rw [e3.out]; exact HS.out, HXx.out⟩
            · have qb : (R.st t != 3) = true := by simp [q]
              have qb2 : (R.st t == 3) = false := by simp [q]
              have e1 : Hid (codeS R ⟨5, t, c, p⟩ = 4) := by simp [codeS, Hid, q]
              have e2 : Hid (byS R ⟨5, t, c, p⟩ = -1) := by simp [byS, Hid, q]
              have e3 : Hid (nxt R ⟨5, t, c, p⟩ = R) := by simp [nxt, Hid, q]
              have HS := hidden (hSW)
              have HXx := hidden (Sx.refl (fun k => k = S ∨ k = C ∨ k = wz.heap.size) W)
              clear hSW HX
              go_wp2_with fail
              go_meet
              exact ⟨by rw [e1.out], by rw [e2.out], by rw [e3.out]; exact HS.out, HXx.out⟩
          obtain rfl : k = 6 := by omega
          clear hk q1 q2 q3 q5
          by_cases q : R.st t = 3
          · rw [q] at s0
            have hsA := hSW.setS ht 0
            obtain ⟨-, -, y2, y3, -⟩ := hsA.cells
            have y4 := hsA.c.cell ht
            have y5 := hsA.c.fro t
            have y6 := hsA.s.cell ht
            have y7 := hsA.s.fro t
            have hB2 := (Below.heap_setCell W ⟨S, t, none⟩ (.int .i64 0) wr.heap.size hBne.1).trans hBX
            have z0 : (W.setCell ⟨S, t, none⟩ (.int .i64 0)).cell? ⟨wr.heap.size, 0, none⟩ = some (.int .i64 6) := by simp only [World.cell?, hB2]; rfl
            have z1 : (W.setCell ⟨S, t, none⟩ (.int .i64 0)).cell? ⟨wr.heap.size, 1, none⟩ = some (.int .i64 t) := by simp only [World.cell?, hB2]; rfl
            have z2 : (W.setCell ⟨S, t, none⟩ (.int .i64 0)).cell? ⟨wr.heap.size, 2, none⟩ = some (.int .i64 c) := by simp only [World.cell?, hB2]; rfl
            clear hsA hB2
            have e1 : Hid (codeS R ⟨6, t, c, p⟩ = 0) := by simp [codeS, Hid, q]
            have e2 : Hid (byS R ⟨6, t, c, p⟩ = -1) := by simp [byS, Hid, q]
            have e3 : Hid (nxt R ⟨6, t, c, p⟩ = ⟨upd R.st t 0, R.cy, R.ov⟩) := by simp [nxt, Hid, q]
            have HS := hidden (hSW.setS ht 0)
            have HXx := hidden ((Sx.refl (fun k => k = S ∨ k = C ∨ k = wz.heap.size) W).set (Or.inl rfl) t (.int .i64 0))
            clear hSW HX
            go_wp2_with fail
            go_meet
            exact ⟨by rw [e1.out], by rw [e2.out], by rw [e3.out]; exact HS.out, HXx.out⟩
          · have qb : (R.st t != 3) = true := by simp [q]
            have qb2 : (R.st t == 3) = false := by simp [q]
            have e1 : Hid (codeS R ⟨6, t, c, p⟩ = 5) := by simp [codeS, Hid, q]
            have e2 : Hid (byS R ⟨6, t, c, p⟩ = -1) := by simp [byS, Hid, q]
            have e3 : Hid (nxt R ⟨6, t, c, p⟩ = R) := by simp [nxt, Hid, q]
            have HS := hidden (hSW)
            have HXx := hidden (Sx.refl (fun k => k = S ∨ k = C ∨ k = wz.heap.size) W)
            clear hSW HX
            go_wp2_with fail
            go_meet
            exact ⟨by rw [e1.out], by rw [e2.out], by rw [e3.out]; exact HS.out, HXx.out⟩
        case rest =>
          obtain ⟨rfl, rfl, hS2, hX2⟩ := hcut
          obtain ⟨hoc2, hob2, hP2, hb2, hSW, hv2w⟩ := HW.out
          obtain ⟨hnc, hnb⟩ := HN.out
          clear HW HN HX
          generalize wr.alloc (.cells #[.int .i64 x.kind, .int .i64 x.tray, .int .i64 x.cyc, .int .i64 x.per] 58) = W at *
          generalize codeS R x = cd at *
          generalize byS R x = by' at *
          generalize nxt R x = N at *
          have hoc3 := hX2.own hoc2 (fun k hk q => by have := (hnc k hk).1; omega)
          have hob3 := hX2.own hob2 (fun k hk q => by have := hnb k hk; omega)
          have hWz : W.heap.size ≤ wc.heap.size := hX2.size
          have hbs := hSW.bs
          have hbc := hSW.bc
          have hbe := hSW.be
          have hbt := hSW.bt
          have hP3 : wc.heap[w.heap.size]? = some (Obj.cells #[.slice none 0 0, .slice none 0 0, .slice none 0 0, .slice none 0 0] 100 (0, 0)) := (hX2.block _ (by omega) (fun q => by omega)).trans hP2
          have hb3 : Below w.heap.size w wc := hX2.below hb2 (fun b q => by omega) (by omega)
          have hsz3 := hb3.size
          have hTl := hS2.lt
          have HA := hidden (And.intro hoc3 hob3)
          have HP := hidden hP3
          obtain ⟨d0, -, -, -, -⟩ := hS2.cells
          obtain ⟨ca, cc, rfl⟩ := ownW_slice hoc3
          obtain ⟨ba, bc, rfl⟩ := ownW_slice hob3
          clear hoc2 hob2 hP2 hb2 hSW hX2 hoc3 hob3 hP3
          go_wp2_with (first
            | (at_builtin; refine wpList_append_own_at _ rfl (.tmp 136) (.tmp 138) 40 rfl (w.heap.size + 1) 2 i0 (.int .i64 0) 1 8 Try.underlying40 hi0 hv0 hv1 hv2 rfl (by decide) _ i ((codesF rm0 (l.take i)).map fun z => Value.int .i64 z) rfl (HA.out.1.alloc _) ⟨wc.heap.size, 0, none⟩ 1 1 [.int .i64 cd] rfl rfl (cell_oneW _ _ _) (by simp [Value.oneCell']) (by unfold maxLen; omega) (by omega) (by simp; omega) ?_; intro v5 w5 ho5 hg5 hn5 hat5; obtain ⟨ad5, c5, rfl⟩ := ownW_slice ho5; have hS5 := told_keep hS2 hg5 (fun k hk => (hnc k hk).1); have hS6 := (hS5.setT (.slice ad5 (i + 1) c5)).1; obtain ⟨m0, m1, m2, m3, mf⟩ := hS5.cells; have mf0 := mf 0; obtain ⟨e0, e1, e2, e3, ef⟩ := hS6.cells; have ef1 := ef 1; have hz5 := hg5.size; simp only [World.size_alloc] at hz5; have HB5 := hidden (told_own HA.out.2 hg5 (fun k hk q => (hnc k q).2 hk) (fun k hk => (hnb k hk).1) (.slice ad5 (i + 1) c5)); clear d0 mf ef hn5)
            | (at_builtin; refine wpList_append_own_at _ rfl (.tmp 142) (.tmp 144) 40 rfl (w.heap.size + 1) 2 i0 (.int .i64 0) 1 8 Try.underlying40 hi0 hv0 hv1 hv2 rfl (by decide) _ i ((bysF rm0 (l.take i)).map fun z => Value.int .i64 z) rfl (HB5.out.alloc _) ⟨w5.heap.size, 0, none⟩ 1 1 [.int .i64 by'] rfl rfl (cell_twoW _ _ _ _ _ _) (by simp [Value.oneCell']) (by unfold maxLen; omega) (by omega) (by simp; omega) ?_; intro v7 w7 ho7 hg7 hn7 hat7; obtain ⟨ad7, c7, rfl⟩ := ownW_slice ho7; have hS7 := told_keep hS6 hg7 hnb; obtain ⟨n0, n1, n2, n3, nf⟩ := hS7.cells; have nf1 := nf 1; clear nf hn7))
          have hX6 := hidden (told_room hat5 hat7 hg5 hg7 hnc hnb hTl.1 hTl.2.1 hTl.2.2.1 hTl.2.2.2 hz5 (fun k hk => (ownW_lt HA.out.2 k hk).2) (fun k hk => (ownW_lt ho5 k hk).2))
          have hP6 := told_box (u7 := .slice ad7 (i + 1) c7) HP.out hg5 hg7 (fun k hk => by have := (ownW_lt HA.out.1 k hk).1; omega) (fun k hk => by have := (ownW_lt HA.out.2 k hk).1; omega) (by omega) (by omega)
          have hB6 := told_below (u7 := .slice ad7 (i + 1) c7) hb3 hg5 hg7 (fun k hk => by have := (ownW_lt HA.out.1 k hk).1; omega) (fun k hk => by have := (ownW_lt HA.out.2 k hk).1; omega) (by omega) hsz3
          have hO5 := told_own2 ho5 hg7 (fun k hk q => told_apart5 hat5 hnc (fun k hk => (ownW_lt HA.out.2 k hk).2) k hk q) (fun k hk => (hX6.out.2.1 k hk).1) (.slice ad7 (i + 1) c7)
          have hO7 := ownW_other (j := 1) ho7 (fun k hk => (hX6.out.2.2 k hk).1) (.slice ad7 (i + 1) c7)
          go_roundw
          case rel => exact ⟨i + 1, _, _, by omega, rfl, by rw [hM.out]; exact (hS7.setT (.slice ad7 (i + 1) c7)).2, by rw [hCd.out, List.map_append]; exact hO5, by rw [hBy.out, List.map_append]; exact hO7, fun k hk => ⟨hX6.out.2.1 k hk, hX6.out.1 k hk⟩, hX6.out.2.2, hP6, hB6⟩
          case measure => simp [intOf]; omega
      · have hlti : ¬ (i : Int) < (l.length : Int) := by omega
        have hin : i = l.length := by omega
        subst hin
        rw [List.take_length] at hS hoc hob
        obtain ⟨ca, cc, rfl⟩ := ownW_slice hoc
        obtain ⟨ba, bc, rfl⟩ := ownW_slice hob
        obtain ⟨d0, d1, d2, d3, df⟩ := hS.cells
        have hTl := hS.lt.1
        have hbt := hS.bt
        have p0 : wr.cell? ⟨w.heap.size, 0, none⟩ = some (.slice none 0 0) := by simp [World.cell?, hP]
        have p1 : wr.cell? ⟨w.heap.size, 1, none⟩ = some (.slice none 0 0) := by simp [World.cell?, hP]
        have p2 : wr.cell? ⟨w.heap.size, 2, none⟩ = some (.slice none 0 0) := by simp [World.cell?, hP]
        have p3 : wr.cell? ⟨w.heap.size, 3, none⟩ = some (.slice none 0 0) := by simp [World.cell?, hP]
        have pf : ∀ j, wr.frozen? ⟨w.heap.size, j, none⟩ = false := fun j => by simp [World.frozen?, hP]
        have f0 := pf 0
        have f1 := pf 1
        have f2 := pf 2
        have f3 := pf 3
        have hX := (((((Sx.refl (fun k => k = w.heap.size) wr).set rfl 0 (.slice ca l.length cc)).set rfl 1 (.slice ba l.length bc)).set rfl 2 (.slice (some ⟨S, 0, none⟩) 1000 1000)).set rfl 3 (.slice (some ⟨C, 0, none⟩) 1000 1000))
        have hP4 := set_heap (set_heap (set_heap (set_heap hP 0 (.slice ca l.length cc)) 1 (.slice ba l.length bc)) 2 (.slice (some ⟨S, 0, none⟩) 1000 1000)) 3 (.slice (some ⟨C, 0, none⟩) 1000 1000)
        have hbs := hS.bs
        have HF := hidden (And.intro (hX.own hoc (fun k hk q => by have := (ownW_lt hoc k hk).1; omega)) (And.intro (hX.own hob (fun k hk q => by have := (ownW_lt hob k hk).1; omega)) (And.intro (hS.s.keep (hX.block S hS.lt.2.1 (fun q => by omega))) (And.intro (hX.below hb (fun b q => by omega) hszr) hP4))))
        clear hS hoc hob hP pf df hX hP4
        go_wp2_with fail
        obtain ⟨k1, k2, k3, k4, k5⟩ := HF.out
        refine bodyPost_ret (v := .agg #[.slice ca l.length cc, .slice ba l.length bc, .slice (some ⟨S, 0, none⟩) 1000 1000, .slice (some ⟨C, 0, none⟩) 1000 1000]) ?_ rfl ⟨_, _, _, ⟨_, rfl⟩, ownW_base k1 (by omega), ownW_base k2 (by omega), k3, k4⟩
        have q0 := cell_of_row _ _ 0 _ _ _ k5
        have q1 := cell_of_row _ _ 1 _ _ _ k5
        have q2 := cell_of_row _ _ 2 _ _ _ k5
        have q3 := cell_of_row _ _ 3 _ _ _ k5
        clear k1 k2 k3 k4 k5
        simp at q0 q1 q2 q3
        generalize World.setCell _ _ _ = W4 at *
        simp [results, Try.results67, go_sem, q0, q1, q2, q3]
end Go.Proofs.Ytklgadaefngnnaa
