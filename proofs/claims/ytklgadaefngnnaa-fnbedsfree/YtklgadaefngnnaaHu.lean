/-
  WhereAt, the program's.
-/
import Derived.Test.YtklgadaefngnnaaHj
import Derived.Test.YtklgadaefngnnaaHp
import Derived.RangeFuncNested
import Derived.RangeFuncBound
import Derived.RangeFuncCalls
import Derived.RangeFuncLeaves
import Derived.Shelf.Abstract
import Derived.Shelf.RegionOpen
import Derived.OwnWalkIn
import Derived.TacticsInMore
import Derived.LoopNIn
import Derived.LoopIn
namespace Go.Proofs.Ytklgadaefngnnaa
open Go.RowKit Go.Shelf Hm
set_option linter.all false
attribute [local go_sem] Oper.semAt_some

/-- The last k places of a row, from behind, with their numbers. -/
def upto (S : List St) (k : Nat) : List (Nat × St) := (List.range k).map (fun i => (S.length - 1 - i, S.getD (S.length - 1 - i) default))
theorem upto_succ (S : List St) (k : Nat) : upto S (k + 1) = upto S k ++ [(S.length - 1 - k, S.getD (S.length - 1 - k) default)] := by
  unfold upto; rw [List.range_succ, List.map_append]; rfl
theorem upto_len (S : List St) (k : Nat) : (upto S k).length = k := by simp [upto]
def none_at (p t : Int) (l : List (Nat × St)) : Prop := ∀ x ∈ l, atBed p t x.2 = false
theorem lastBed_skip (p t : Int) (l r : List St) (h : ∀ x ∈ r, atBed p t x = false) : lastBed p t (l ++ r) = lastBed p t l := by
  induction r generalizing l with
  | nil => simp
  | cons x r ih =>
    have : l ++ x :: r = (l ++ [x]) ++ r := by simp
    rw [this, ih (l ++ [x]) (fun y hy => h y (by simp [hy])), lastBed_snoc, h x (by simp)]
    simp
theorem getD_of {S : List St} {i : Nat} {x : St} (h : S[i]? = some x) : S.getD i default = x := by rw [List.getD_eq_getElem?_getD, h]; rfl
theorem drop_none {p t : Int} {S : List St} {k : Nat} (hk : k ≤ S.length) (h : none_at p t (upto S k)) : ∀ x ∈ S.drop (S.length - k), atBed p t x = false := by
  intro x hx
  obtain ⟨i, hi⟩ := List.getElem?_of_mem hx
  rw [List.getElem?_drop] at hi
  have hl := get_lt hi
  refine h (S.length - k + i, x) (List.mem_map.2 ⟨k - 1 - i, List.mem_range.2 (by omega), ?_⟩)
  have e : S.length - 1 - (k - 1 - i) = S.length - k + i := by omega
  rw [e, getD_of hi]
theorem last_none {p t : Int} {S : List St} (h : none_at p t (upto S S.length)) : lastBed p t S = -1 := by
  have h1 := drop_none (Nat.le_refl _) h
  rw [Nat.sub_self, List.drop_zero] at h1
  have := lastBed_skip p t [] S h1
  simpa [lastBed] using this
theorem last_hit {p t : Int} {S : List St} {k : Nat} (hk : k < S.length) (h : none_at p t (upto S k)) (ha : atBed p t (S.getD (S.length - 1 - k) default) = true) : lastBed p t S = (S.getD (S.length - 1 - k) default).bed := by
  have h1 := drop_none (Nat.le_of_lt hk) h
  obtain ⟨x, hx⟩ := some_at S (S.length - 1 - k) (by omega)
  have e : S = S.take (S.length - 1 - k) ++ [x] ++ S.drop (S.length - k) := by
    rw [← take_snoc hx, show S.length - 1 - k + 1 = S.length - k by omega, List.take_append_drop]
  rw [getD_of hx] at ha ⊢
  have e2 : lastBed p t S = lastBed p t (S.take (S.length - 1 - k) ++ [x] ++ S.drop (S.length - k)) := by rw [← e]
  rw [e2, lastBed_skip _ _ _ _ h1, lastBed_snoc, ha]
  rfl

def encs (x : Nat × St) : Array Value := #[.int .i64 x.1, aS x.2]

set_option maxRecDepth 100000 in
set_option maxHeartbeats 4000000 in
theorem back1_in (F : Fence) (n : Nat) (hF : ∀ f, F.fn f) (hro : F.round = none) (hn : 1 ≤ n) (l Bs n₀ cap : Nat) (ao : Option Addr) (S : List St) (hreach : S.length ≤ 1048576) (J Jx : List (Nat × St) → World → Prop)
    (hY : ∀ pre x W, J pre W → pre.length < S.length → YieldAt F (n - 1) Try.prog l (encs x) W fun e W' =>
      (e = .returned (.bool true) ∧ J (pre ++ [x]) W' ∧ Below n₀ W W') ∨ (e = .returned (.bool false) ∧ Jx (pre ++ [x]) W'))
    (W w0 : World) (hw0 : w0.heap.size = n₀) (hB0 : Below n₀ w0 W) (hBs1 : Bs < n₀) (hBs : w0.cell? ⟨Bs, 0, none⟩ = some (.slice ao S.length cap)) (hI : Rw 6 csS w0 (.slice ao S.length cap) S) (h0 : J [] W) :
    CallsIn F n Try.prog 91 #[.func (.yield l) #[] #[], .pointer (some ⟨Bs, 0, none⟩)] W fun e W' => (∃ v, e = .returned v) ∧
      ((∃ ys, ys = upto S S.length ∧ J ys W') ∨ (∃ pre, (∃ k, k < S.length ∧ pre = upto S (k + 1)) ∧ Jx pre W')) := by
  refine callsIn_of_wp Try.func91 rfl (hF _) ?_ hro
  have hB := hB0
  have hc0 := (hB.cell (p := ⟨Bs, 0, none⟩) hBs1).trans hBs
  simp only [Try.ntmps91, List.size_toArray, List.length_cons, List.length_nil, Nat.reduceAdd, Nat.reduceSub, Array.replicate_succ, Array.replicate_zero, List.push_toArray, List.append_toArray, List.nil_append, List.cons_append]
  gi_wp2
  gi_loopw [3] (fun i wr => ∃ k : Nat, k ≤ S.length ∧ i = .int .i64 ((S.length : Int) - 1 - k) ∧ J (upto S k) wr ∧ Below n₀ w0 wr) (fun i _ => (intOf i + 1).toNat)
  case atStart => exact ⟨0, Nat.zero_le _, by simp, h0, hB0⟩
  case round =>
    clear hB hc0
    obtain ⟨k, hk, rfl, hJs, hB⟩ := hrel
    have hc := (hB.cell (p := ⟨Bs, 0, none⟩) hBs1).trans hBs
    by_cases hlt : k < S.length
    · have q0 : (0 : Int) ≤ (S.length : Int) - 1 - k := by omega
      have q1 : (S.length : Int) - 1 - k < (S.length : Int) := by omega
      obtain ⟨i, hi⟩ : ∃ i : Nat, (S.length : Int) - 1 - k = (i : Int) ∧ i = S.length - 1 - k := ⟨S.length - 1 - k, by omega, rfl⟩
      obtain ⟨hi1, hi2⟩ := hi
      obtain ⟨x, hx⟩ := some_at S i (by omega)
      obtain ⟨g, off, rfl, hg, c0, c1, c2, c3, c4, c5⟩ := stay_cells (hI.below (by rw [hw0]; exact hB)) hx
      have HU : Hid (upto S (k + 1) = upto S k ++ [(i, x)]) := by rw [Hid, upto_succ, ← hi2, getD_of hx]
      have HK := hidden (And.intro hi1 hi2)
      obtain ⟨fn, tmps, assign, body, hy, hR⟩ := hY (upto S k) (i, x) wr hJs (by rw [upto_len]; exact hlt)
      unfold encs aS at hy
      dsimp only at hy
      rw [hi1]
      have q0' : (0 : Int) ≤ (i : Int) := by omega
      have q1' : (i : Int) < (S.length : Int) := by omega
      clear hx hi1 hi2 q0 q1
      gi_wp2
      refine hR.mono ?_
      rintro e W3 (⟨rfl, hJ3, hk3⟩ | ⟨rfl, hJx3⟩)
      · gi_wp2
        go_roundw
        case rel => exact ⟨k + 1, by omega, by have := HK.out.1; congr 1; omega, by rw [HU.out]; exact hJ3, hB.trans hk3⟩
        case measure => have := HK.out.1; first | (simp [intOf]; done) | (simp [intOf]; omega)
      · gi_wp2
        refine bodyPost_ret (results_none rfl _ _ _) rfl ?_
        exact ⟨⟨_, rfl⟩, .inr ⟨upto S k ++ [(i, x)], ⟨k, hlt, HU.out.symm⟩, hJx3⟩⟩
    · obtain rfl : k = S.length := by omega
      have q0 : ¬ (0 : Int) ≤ (S.length : Int) - 1 - S.length := by omega
      gi_wp2
      go_end0
      first | exact ⟨⟨_, rfl⟩, .inl ⟨_, rfl, hJs⟩⟩ | exact ⟨⟨_, rfl⟩, .inl hJs⟩

set_option maxRecDepth 20000 in
set_option maxHeartbeats 1000000 in
theorem backward_in (F : Fence) (n : Nat) (hF : ∀ f, F.fn f) (hro : F.round = none) (a : Option Addr) (len cap : Nat) (w : World) :
    CallsIn F n Try.prog 55 #[.slice a len cap] w fun e w' => e = .returned (.func (.func 91) #[] #[.pointer (some ⟨w.heap.size, 0, none⟩)]) ∧ w' = w.alloc (.cells #[.slice a len cap] 25) := by
  refine callsIn_of_wp Try.func55 rfl (hF _) ?_ hro
  simp only [Try.ntmps55, List.size_toArray, List.length_cons, List.length_nil, Nat.reduceAdd, Nat.reduceSub, Array.replicate_succ, Array.replicate_zero, List.push_toArray, List.append_toArray, List.nil_append, List.cons_append]
  gi_wp2
  go_ret
  exact ⟨rfl, rfl⟩

theorem back_stops (F : Fence) (n : Nat) (hF : ∀ f, F.fn f) (hro : F.round = none) (hn : 1 ≤ n) (Bs cap : Nat) (ao : Option Addr) (S : List St) (hreach : S.length ≤ 1048576) (w : World) (hBs1 : Bs < w.heap.size)
    (hBs : w.cell? ⟨Bs, 0, none⟩ = some (.slice ao S.length cap)) (hI : Rw 6 csS w (.slice ao S.length cap) S) :
    SeqStopsK F n Try.prog 91 #[.pointer (some ⟨Bs, 0, none⟩)] encs (Below w.heap.size) (fun ys => ys = upto S S.length) (fun pre => ∃ k, k < S.length ∧ pre = upto S (k + 1)) S.length w :=
  fun l J Jx W hW _ _ hY h0 => back1_in F n hF hro hn l Bs w.heap.size cap ao S hreach J Jx hY W w rfl hW hBs1 hBs hI h0

theorem keep_cell {W : World} {a : Addr} {v : Value} (o : Obj) (h : W.cell? a = some v) : (W.alloc o).cell? a = some v := by
  obtain ⟨b, x, s⟩ := a
  have hb := World.block_lt_of_cell? W _ h
  exact (((Below.refl W.heap.size W).alloc (Nat.le_refl _) o).cell (p := ⟨b, x, s⟩) hb).trans h
theorem blk_cells {W : World} {B : Nat} {cs : Array Value} {t : TypeId} (h : W.heap[B]? = some (.cells cs t)) (i : Nat) : W.cell? ⟨B, i, none⟩ = cs[i]? ∧ W.frozen? ⟨B, i, none⟩ = false := by
  constructor
  · simp only [World.cell?, h]; simp
  · simp only [World.frozen?, h]; simp

set_option maxRecDepth 100000 in
set_option maxHeartbeats 4000000 in
theorem iwhere_in (F : Fence) (n : Nat) (hF : ∀ f, F.fn f) (hro : F.round = none) (hn : 3 ≤ n) (ao ao2 : Option Addr) (nb cap m cap2 : Nat) (B : List Bd) (S : List St) (p t : Int) (w : World) (h : HRw w (.slice ao nb cap) (.slice ao2 m cap2) B S)
    (hOK : ∀ W, Below w.heap.size w W → CallsIn F (n - 1) Try.prog 14 #[.agg #[.slice ao nb cap, .slice ao2 m cap2]] W fun e w' => e = .returned (.bool (okB B S)) ∧ Below W.heap.size W w') :
    CallsIn F n Try.prog 19 #[.agg #[.slice ao nb cap, .slice ao2 m cap2], .int .i64 p, .int .i64 t] w fun e W' => e = .returned (.int .i64 (whereAt B S p t)) ∧ Below w.heap.size w W' := by
  have HH := hidden h
  obtain rfl := h.1.len
  obtain rfl := h.2.len
  have HOK := hidden hOK
  have h1 : 1 ≤ n := by omega
  clear hOK h
  cases hk : okB B S with
  | false =>
    have HR : Hid (whereAt B S p t = -1) := by unfold whereAt; rw [Hid, hk]; rfl
    rw [hk] at HOK
    refine callsIn_of_wp_marks Try.func19 rfl (hF _) ?_ hro
    simp only [Try.ntmps19, List.size_toArray, List.length_cons, List.length_nil, Nat.reduceAdd, Nat.reduceSub, Array.replicate_succ, Array.replicate_zero, List.push_toArray, List.append_toArray, List.nil_append, List.cons_append]
    have hb0 : Below w.heap.size w ((((w.alloc (.cells #[.slice ao B.length cap, .slice ao2 S.length cap2] 27)).alloc (.cells #[.int .i64 p] 2)).alloc (.cells #[.int .i64 t] 2)).alloc (.cells #[.int .i64 0] 2)) := ((((Below.refl _ w).alloc (Nat.le_refl _) _).alloc (by first | omega | (simp; done) | (simp; omega)) _).alloc (by first | omega | (simp; done) | (simp; omega)) _).alloc (by first | omega | (simp; done) | (simp; omega)) _
    gi_wp2_with (gi_at_call 14; refine (HOK.out _ hb0).mono ?_; rintro e w1 ⟨rfl, hb1⟩; have b1 := onto hb0 hb1; have z1 := hb1.size; simp only [World.size_alloc] at z1; have r4 : w1.cell? ⟨w.heap.size + 1 + 1 + 1, 0, none⟩ = some (.int .i64 0) := ((bcell hb1).1 _ _ (by first | omega | (simp; done) | (simp; omega))).trans (by simp [go_sem]); have r5 : w1.frozen? ⟨w.heap.size + 1 + 1 + 1, 0, none⟩ = false := ((bcell hb1).2 _ _ (by first | omega | (simp; done) | (simp; omega))).trans (by simp [go_sem]))
    have hc9 : (w1.setCell ⟨w.heap.size + 1 + 1 + 1, 0, none⟩ (.int .i64 (-1))).cell? ⟨w.heap.size + 1 + 1 + 1, 0, none⟩ = some (.int .i64 (-1)) := World.cell?_setCell_same _ _ _ r4
    exact ⟨.int .i64 (-1), by simp [results, Try.results19, go_sem, hc9], ret_int HR.out.symm, b1.setCell (p := ⟨w.heap.size + 1 + 1 + 1, 0, none⟩) (by first | omega | (simp; done) | (simp; omega)) _⟩
  | true =>
    have HR : Hid (whereAt B S p t = lastBed p t S) := by unfold whereAt; rw [Hid, hk]; rfl
    have hl2 := (ok_of hk).2.1
    rw [hk] at HOK
    clear hk
    refine callsIn_of_wp_marks Try.func19 rfl (hF _) ?_ hro
    simp only [Try.ntmps19, List.size_toArray, List.length_cons, List.length_nil, Nat.reduceAdd, Nat.reduceSub, Array.replicate_succ, Array.replicate_zero, List.push_toArray, List.append_toArray, List.nil_append, List.cons_append]
    have hb0 : Below w.heap.size w ((((w.alloc (.cells #[.slice ao B.length cap, .slice ao2 S.length cap2] 27)).alloc (.cells #[.int .i64 p] 2)).alloc (.cells #[.int .i64 t] 2)).alloc (.cells #[.int .i64 0] 2)) := ((((Below.refl _ w).alloc (Nat.le_refl _) _).alloc (by first | omega | (simp; done) | (simp; omega)) _).alloc (by first | omega | (simp; done) | (simp; omega)) _).alloc (by first | omega | (simp; done) | (simp; omega)) _
    gi_wp2_with (gi_at_call 14; refine (HOK.out _ hb0).mono ?_; rintro e w1 ⟨rfl, hb1⟩; have b1 := onto hb0 hb1; have z1 := hb1.size; simp only [World.size_alloc] at z1; have r1 : w1.cell? ⟨w.heap.size, 1, none⟩ = some (.slice ao2 S.length cap2) := ((bcell hb1).1 _ _ (by first | omega | (simp; done) | (simp; omega))).trans (by simp [go_sem]))
    have r2 : w1.cell? ⟨w.heap.size + 1, 0, none⟩ = some (.int .i64 p) := ((bcell hb1).1 _ _ (by first | omega | (simp; done) | (simp; omega))).trans (by simp [go_sem])
    have r3 : w1.cell? ⟨w.heap.size + 1 + 1, 0, none⟩ = some (.int .i64 t) := ((bcell hb1).1 _ _ (by first | omega | (simp; done) | (simp; omega))).trans (by simp [go_sem])
    have r4 : w1.cell? ⟨w.heap.size + 1 + 1 + 1, 0, none⟩ = some (.int .i64 0) := ((bcell hb1).1 _ _ (by first | omega | (simp; done) | (simp; omega))).trans (by simp [go_sem])
    have r5 : w1.frozen? ⟨w.heap.size + 1 + 1 + 1, 0, none⟩ = false := ((bcell hb1).2 _ _ (by first | omega | (simp; done) | (simp; omega))).trans (by simp [go_sem])
    have HRW := hidden (HH.out.below b1).2
    have y1 : w.heap.size + 1 + 1 + 1 < w1.heap.size := by omega
    clear hb1 hb0
    gi_wp2_with (gi_at_call 55; refine (backward_in F (n - 1) hF hro _ _ _ _).mono ?_; rintro e w' ⟨rfl, rfl⟩)
    have hbN : Below w1.heap.size w1 (w1.alloc (.cells #[.slice ao2 S.length cap2] 25)) := (Below.refl _ _).alloc (Nat.le_refl _) _
    refine wpIn_rangeFunc_ownH hro h1 (gf := 91) (lb := #[.pointer (some ⟨w1.heap.size, 0, none⟩)]) rfl (hF _) (enters_of Try.func91 (by kernel_rfl) rfl)
      (back_stops F (n - 1) hF hro (by omega) w1.heap.size cap2 ao2 S (by omega) (w1.alloc (.cells #[.slice ao2 S.length cap2] 25)) (by simp) (by simp) (HRW.out.below hbN)) belowK_t (belowK_b (Nat.le_refl _)) (Below.refl _ _) (fun _ => rfl)
      (fun pre W => (w1.heap.size + 1 ≤ W.heap.size ∧ W.cell? ⟨w.heap.size + 1, 0, none⟩ = some (.int .i64 p) ∧ W.cell? ⟨w.heap.size + 1 + 1, 0, none⟩ = some (.int .i64 t) ∧ W.cell? ⟨w.heap.size + 1 + 1 + 1, 0, none⟩ = some (.int .i64 0) ∧ W.frozen? ⟨w.heap.size + 1 + 1 + 1, 0, none⟩ = false) ∧ (Hid (none_at p t pre) ∧ Below w.heap.size w W))
      (fun c q W => (c = .ret ∧ ∃ pre x, q = pre ++ [x] ∧ none_at p t pre ∧ atBed p t x.2 = true ∧ W.cell? ⟨w.heap.size + 1 + 1 + 1, 0, none⟩ = some (.int .i64 x.2.bed)) ∧ Below w.heap.size w W)
      (OwnFrom.and (Own.from (fun s A C row hs hg hr => ⟨Nat.le_trans hs.1 hg.size, cell_kept hs.2.1 hg hr, cell_kept hs.2.2.1 hg hr, cell_kept hs.2.2.2.1 hg hr, (frozen_kept hs.2.2.2.1 hg hr).trans hs.2.2.2.2⟩) _) (OwnFrom.and (ownFrom_pure _ _) (ownFrom_below (Nat.le_refl _) (by simp; omega))))
      (fun c => OwnFrom.and (Own.from (fun s A C row hs hg hr => by obtain ⟨h1, pre, x, h2, h3, h4, h5⟩ := hs; exact ⟨h1, pre, x, h2, h3, h4, cell_kept h5 hg hr⟩) _) (ownFrom_below (Nat.le_refl _) (by simp; omega)))
      ⟨⟨by simp, (old_cell (by omega) _ _).trans r2, (old_cell (by omega) _ _).trans r3, (old_cell (by omega) _ _).trans r4, (hbN.frozen (p := ⟨w.heap.size + 1 + 1 + 1, 0, none⟩) y1).trans r5⟩, ⟨(fun x hx => absurd hx (List.not_mem_nil)), b1.alloc b1.size _⟩⟩
      (fun x a' W => ∃ Bx, (W.cell? ⟨Bx, 0, none⟩ = some (.int .i64 x.2.person) ∧ W.cell? ⟨Bx, 1, none⟩ = some (.int .i64 x.2.sex) ∧ W.cell? ⟨Bx, 2, none⟩ = some (.int .i64 x.2.need) ∧ W.cell? ⟨Bx, 3, none⟩ = some (.int .i64 x.2.bed) ∧ W.cell? ⟨Bx, 4, none⟩ = some (.int .i64 x.2.frm) ∧ W.cell? ⟨Bx, 5, none⟩ = some (.int .i64 x.2.til)) ∧ a' = { tmps := #[.agg #[.slice ao B.length cap, .slice ao2 S.length cap2], .int .i64 p, .int .i64 t, .pointer (some ⟨w.heap.size, 0, none⟩), .pointer (some ⟨w.heap.size + 1, 0, none⟩), .pointer (some ⟨w.heap.size + 1 + 1, 0, none⟩), .pointer (some ⟨w.heap.size + 1 + 1 + 1, 0, none⟩), undef, .pointer (some ⟨Bx, 0, none⟩), .agg #[.slice ao B.length cap, .slice ao2 S.length cap2], .bool true, .bool false, .pointer (some ⟨w.heap.size, 1, none⟩), .slice ao2 S.length cap2, .func (.func 91) #[] #[.pointer (some ⟨w1.heap.size, 0, none⟩)], .int .i64 x.1, .agg #[.int .i64 x.2.person, .int .i64 x.2.sex, .int .i64 x.2.need, .int .i64 x.2.bed, .int .i64 x.2.frm, .int .i64 x.2.til], undef, undef, undef, undef, undef, undef, undef, undef, undef, undef, undef, undef, undef, undef, undef, undef, undef, undef, undef, undef, undef, undef, undef], defers := [] })
      (fun x a' => Own.from (fun s A C row hs hg hr => by obtain ⟨Bx, ⟨h1, h2, h3, h4, h5, h6⟩, h7⟩ := hs; exact ⟨Bx, ⟨cell_kept h1 hg hr, cell_kept h2 hg hr, cell_kept h3 hg hr, cell_kept h4 hg hr, cell_kept h5 hg hr, cell_kept h6 hg hr⟩, h7⟩) _)
      ?assign ?body ?done ?stop
    case assign =>
      rintro l pre x W K ⟨⟨i0, i1, i2, i3, i4⟩, i5, i6⟩ hK
      have hl3 := World.block_lt_of_cell? W _ i3
      unfold encs aS
      gi_wp2
      exact hK _ _ ((KeepsOthers.alloc _ _).from _) ((Below.refl _ W).alloc (by simp; omega) _) ⟨⟨by simp; omega, keep_cell _ i1, keep_cell _ i2, keep_cell _ i3, ((Below.refl W.heap.size W).alloc (Nat.le_refl _) _).frozen (p := ⟨w.heap.size + 1 + 1 + 1, 0, none⟩) hl3 |>.trans i4⟩, i5, i6.alloc i6.size _⟩ ⟨W.heap.size, ⟨by simp, by simp, by simp, by simp, by simp, by simp⟩, rfl⟩
    case body =>
      rintro l pre x a' W hl ⟨r, hr⟩ ⟨⟨i0, i1, i2, i3, i4⟩, i5, i6⟩ ⟨Bx, ⟨x0, x1, x2, x3, x4, x5⟩, rfl⟩ hlen
      have HSN : Hid (atBed p t x.2 = false → none_at p t (pre ++ [x])) := fun q y hy => by
        rcases List.mem_append.1 hy with h | h
        · exact i5.out y h
        · rw [List.mem_singleton.1 h]; exact q
      clear hr hl
      gi_wp2
      all_goals first
        | exact ⟨KeepsFrom.refl _ _, Below.refl _ _, ⟨⟨i0, i1, i2, i3, i4⟩, HSN.out (by unfold atBed; first | (simp_all; done) | (simp; omega)), i6⟩⟩
        | exact ⟨(KeepsOthers.setCell _ _ _).from _, ⟨rfl, pre, x, rfl, i5.out, by unfold atBed; first | (simp_all; done) | (simp; omega), by simp [go_sem, i3]⟩, i6.setCell (p := ⟨w.heap.size + 1 + 1 + 1, 0, none⟩) (by first | omega | (simp; done) | (simp; omega)) _⟩
    case done =>
      rintro D ys W hD rfl ⟨⟨i0, i1, i2, i3, i4⟩, i5, i6⟩ hK
      have HRES : Hid (whereAt B S p t = -1) := by rw [Hid, HR.out]; exact last_none i5.out
      gi_wp2
      have hK' := (KeepsOthers.setCell W ⟨w.heap.size + 1 + 1 + 1, 0, none⟩ (.int .i64 (-1))).same D _ hK rfl
      refine ⟨by simp, .inl ⟨_, _, rfl, run_takeDeferred hK', ?_⟩⟩
      have hc9 : (W.setCell ⟨w.heap.size + 1 + 1 + 1, 0, none⟩ (.int .i64 (-1))).cell? ⟨w.heap.size + 1 + 1 + 1, 0, none⟩ = some (.int .i64 (-1)) := World.cell?_setCell_same _ _ _ i3
      have hc10 := cell_kept hc9 (grownBy_putObj' _ D (.deferred none)) (fun r e => by cases e; exact ⟨_, hK', rfl⟩)
      have hB9 : Below w.heap.size w (W.setCell ⟨w.heap.size + 1 + 1 + 1, 0, none⟩ (.int .i64 (-1))) := i6.setCell (p := ⟨w.heap.size + 1 + 1 + 1, 0, none⟩) (by first | omega | (simp; done) | (simp; omega)) _
      exact ⟨.int .i64 (-1), by simp [results, Try.results19, go_sem, hc10], ret_int HRES.out.symm, hB9.trans (belowK_b (w := w) (Nat.le_refl _) _ D _ _ (by simp at hD; omega) hK' rfl rfl)⟩
    case stop =>
      rintro D c q W hD ⟨k, hk, rfl⟩ ⟨⟨rfl, pre, x, h2, h3, h4, h5⟩, h6⟩ hK
      have HRES : Hid (whereAt B S p t = x.2.bed) := by
        rw [upto_succ] at h2
        obtain ⟨e1, e2⟩ := List.append_inj' h2 rfl
        have e3 : x = (S.length - 1 - k, S.getD (S.length - 1 - k) default) := (List.singleton_inj.1 e2).symm
        subst e1
        rw [e3] at h4 ⊢
        rw [Hid, HR.out]
        exact last_hit hk h3 h4
      gi_wp2
      refine ⟨by simp, .inl ⟨_, _, rfl, run_takeDeferred hK, ?_⟩⟩
      have hc10 := cell_kept h5 (grownBy_putObj' _ D (.deferred none)) (fun r e => by cases e; exact ⟨_, hK, rfl⟩)
      exact ⟨.int .i64 x.2.bed, by simp [results, Try.results19, go_sem, hc10], ret_int HRES.out.symm, h6.trans (belowK_b (w := w) (Nat.le_refl _) _ D _ _ (by simp at hD; omega) hK rfl rfl)⟩

theorem iwhere_any (ao ao2 : Option Addr) (nb cap m cap2 : Nat) (B : List Bd) (S : List St) (p t : Int) (w : World) (h : HRw w (.slice ao nb cap) (.slice ao2 m cap2) B S) :
    Calls Try.prog 19 #[.agg #[.slice ao nb cap, .slice ao2 m cap2], .int .i64 p, .int .i64 t] w fun e W' => e = .returned (.int .i64 (whereAt B S p t)) ∧ Below w.heap.size w W' :=
  (callsIn_wide (n := 3)).1 (iwhere_in Fence.wide 3 (fun _ => trivial) rfl (by omega) ao ao2 nb cap m cap2 B S p t w h (fun W hW => callsIn_wide.2 (iok_any ao ao2 nb cap m cap2 B S W (h.below hW))))

end Go.Proofs.Ytklgadaefngnnaa
