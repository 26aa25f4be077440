/-
  Lists of parts, and messages: the law's own copies, sizes, sameness.
-/
import Derived.Test.YtbabknhccapaoaaM15
namespace Go.Proofs.Ytbabknhccapaoaa
open Go.RowKit Go.WideShapes Va Ms
set_option linter.all false

/-- What the law's size leaves. -/
def PSm (x : Pt) : Prop := x.n.size ≤ 1048576 ∧ x.fs.length ≤ 1048576 ∧ ∀ y ∈ x.fs, y.size ≤ 1048576
theorem szS_len (l : List ByteArray) : l.length ≤ szS l := by unfold szS; omega
theorem szS_mem {l : List ByteArray} {y : ByteArray} (h : y ∈ l) : y.size ≤ szS l := by have := sum_le h; unfold szS; omega

set_option maxRecDepth 20000 in
set_option maxHeartbeats 4000000 in
theorem toparts_any (ao : Option Addr) (n cap : Nat) (l : List Pt) (w : World) (h : PRw w (.slice ao n cap) l) (hn : l.length ≤ 1048576) (ht : ∀ x ∈ l, PSm x) :
    Calls Try.prog 31 #[.slice ao n cap] w fun e w' => e = .returned (.slice (some ⟨w.heap.size, 0, none⟩) l.length l.length) ∧ WOut w' w.heap.size w.heap.size l.length l l.length ∧ Below w.heap.size w w' := by
  obtain rfl := h.len
  have HH := hidden h
  have HT := hidden ht
  clear h ht
  obtain ⟨i0, hi, hz0, hz1, hz2⟩ := info_parts infoPart
  go_enter Try.func31, Try.ntmps31
  go_wp2_with (refine wpList_make_full _ rfl (.tmp 6) (.tmp 6) 40 rfl w.heap.size 67 i0 (.agg #[.string .empty, .slice none 0 0]) 2 Try.underlying40 hi hz0 hz1 .i64 .i64 _ _ l.length rfl rfl rfl rfl (by rw [hz2]; omega) (by unfold maxLen; omega) (Nat.le_refl _) ?_; intro w1 ho1 hg1)
  have b1 : Below w.heap.size w w1 := (Below.refl _ w).grown hg1 (Nat.le_refl _) (by simp)
  have ho : WOut w1 w.heap.size w.heap.size l.length l 0 := by
    have hq := VOut.made (cs := fun (_ : Pt) _ => Value.bool false) l ho1
    exact ⟨Nat.le_refl _, hq.1, hq.2.1, fun j x hj => absurd hj (Nat.not_lt_zero _)⟩
  clear ho1 hg1
  go_wp2_with fail
  go_loopw [4] (fun iv wr => ∃ i : Nat, i ≤ l.length ∧ iv = .int .i64 i ∧ Below w.heap.size w wr ∧ WOut wr w.heap.size w.heap.size l.length l i) (fun iv _ => l.length - (intOf iv).toNat)
  case atStart => exact ⟨0, Nat.zero_le _, rfl, b1, ho⟩
  case round =>
    clear b1 ho
    obtain ⟨i, hil, rfl, hb, ho⟩ := hrel
    by_cases hlt : i < l.length
    · have hlti : (i : Int) < (l.length : Int) := by omega
      obtain ⟨x, hx⟩ := some_of l i hlt
      obtain ⟨g, off, fa, fc, rfl, hg, hr1, c0, c1⟩ := (HH.out.below hb).at hx
      have hl2 := HT.out x (List.mem_of_getElem? hx)
      have hK := topart_any x fa x.fs.length fc wr hr1 hl2.2.1
      unfold aP at hK
      have HO := hidden ho
      have HX := hidden hx
      have hzw : w.heap.size < wr.heap.size := ho.2.1
      clear hx hr1 ho hl2
      go_wp2_with (go_at_call 49; (with_reducible refine hK.mono ?_); rintro e w2 ⟨G, hG, hGl, rfl, hoT, hb2⟩; have b2 := ontoT hb hb2; have ho2 := HO.out.below hb2; obtain ⟨⟨u0, hu0⟩, hf0⟩ := ho2.2.2.1 (i * 2) (by omega); obtain ⟨⟨u1, hu1⟩, hf1⟩ := ho2.2.2.1 (i * 2 + 1) (by omega); have HS := hidden (ho2.set hlt HX.out (show w.heap.size ≤ G by omega) (by omega) hoT); clear ho2 hoT hb2)
      have b3 : Below w.heap.size w (put w2 w.heap.size (i * 2) [.string x.n, .slice (some ⟨G, 0, none⟩) x.fs.length x.fs.length]) := put_below _ _ _ _ b2 (Nat.le_refl _)
      go_roundw
      case rel => exact ⟨i + 1, by omega, rfl, b3, HS.out⟩
      case measure => simp [intOf]; omega
    · have hlti : ¬ (i : Int) < (l.length : Int) := by omega
      have hil2 : i = l.length := by omega
      subst hil2
      go_wp2_with fail
      go_ret
      exact ⟨rfl, ho, hb⟩

set_option maxRecDepth 20000 in
set_option maxHeartbeats 2000000 in
theorem szparts_any (ao : Option Addr) (n cap : Nat) (l : List Pt) (L : Int) (w : World) (h : PRw w (.slice ao n cap) l) (hn : l.length ≤ maxLen) (ht : ∀ x ∈ l, PBd x) (h0 : 0 ≤ L) (h1 : L ≤ 1048576) :
    Calls Try.prog 29 #[.slice ao n cap, .int .i64 L] w fun e w' => ∃ r : Int, e = .returned (.int .i64 r) ∧ (r = -1 ∨ (0 ≤ r ∧ r ≤ L ∧ l.length ≤ 1048576 ∧ ∀ x ∈ l, PSm x)) ∧ Below w.heap.size w w' := by
  obtain rfl := h.len
  have HH := hidden h
  have HT := hidden ht
  have hn2 : (l.length : Int) ≤ 9223372036854775807 := by unfold maxLen at hn; omega
  clear h ht
  by_cases hq : L - l.length < 0
  · go_enter Try.func29, Try.ntmps29
    go_wp2_with fail
    go_ret
    exact ⟨-1, rfl, Or.inl rfl, Below.refl _ _⟩
  go_enter Try.func29, Try.ntmps29
  go_wp2_with fail
  go_loopw [1, 5] (fun lv iv wr => ∃ (i : Nat) (M : Int), i ≤ l.length ∧ iv = .int .i64 i ∧ lv = .int .i64 M ∧ 0 ≤ M ∧ M ≤ L ∧ Below w.heap.size w wr ∧ Hid (∀ j x, j < i → l[j]? = some x → PSm x)) (fun _ iv _ => l.length - (intOf iv).toNat)
  case atStart => exact ⟨0, _, Nat.zero_le _, rfl, rfl, by omega, by omega, Below.refl _ _, fun j x hj => absurd hj (Nat.not_lt_zero _)⟩
  case round =>
    obtain ⟨i, M, hi, rfl, rfl, hM0, hM1, hb, hok⟩ := hrel
    have hsz := hb.size
    by_cases hlt : i < l.length
    · have hlti : (i : Int) < (l.length : Int) := by omega
      obtain ⟨x, hx⟩ := some_of l i hlt
      obtain ⟨g, off, fa, fc, rfl, hg, hr1, c0, c1⟩ := (HH.out.below hb).at hx
      have hxl := HT.out x (List.mem_of_getElem? hx)
      have hK := szpart_any x fa x.fs.length fc M wr hr1 hxl hM0 (by omega)
      unfold aP at hK
      have HX := hidden hx
      clear hx hr1 hxl
      by_cases hs : M < ((x.n.size + szS x.fs : Nat) : Int)
      · rw [if_pos hs] at hK
        clear hs
        go_wp2_with (go_at_call 47; (with_reducible refine hK.mono ?_); rintro e w1 ⟨rfl, hb1⟩)
        go_ret
        exact ⟨-1, rfl, Or.inl rfl, ontoT hb hb1⟩
      · rw [if_neg hs] at hK
        have h2 : ¬ M - ((x.n.size + szS x.fs : Nat) : Int) < 0 := by omega
        have hok2 : Hid (∀ j y, j < i + 1 → l[j]? = some y → PSm y) := fun j y hj hy => by
          rcases Nat.lt_succ_iff_lt_or_eq.1 hj with k | rfl
          · exact hok.out j y k hy
          · have := HX.out
            rw [this] at hy
            cases hy
            have q1 := szS_len x.fs
            exact ⟨by omega, by omega, fun y hy => by have := szS_mem hy; omega⟩
        clear hok
        generalize hmm : M - ((x.n.size + szS x.fs : Nat) : Int) = M2 at *
        have hM2 : 0 ≤ M2 ∧ M2 ≤ L := ⟨by omega, by omega⟩
        clear hmm
        go_wp2_with (go_at_call 47; (with_reducible refine hK.mono ?_); rintro e w1 ⟨rfl, hb1⟩)
        go_roundw
        case rel => exact ⟨i + 1, _, by omega, rfl, rfl, hM2.1, hM2.2, ontoT hb hb1, hok2⟩
        case measure => simp [intOf]; omega
    · have hlti : ¬ (i : Int) < (l.length : Int) := by omega
      go_wp2_with fail
      go_ret
      exact ⟨M, rfl, Or.inr ⟨hM0, hM1, by omega, fun x hx => by
        obtain ⟨j, hj⟩ := List.getElem?_of_mem hx
        exact hok.out j x (by have := get_lt' hj; omega) hj⟩, hb⟩

set_option maxRecDepth 20000 in
set_option maxHeartbeats 2000000 in
theorem eqparts_any (a1 : Option Addr) (n1 c1 : Nat) (a2 : Option Addr) (n2 c2 : Nat) (l : List Pt) (w : World) (h : PRw w (.slice a1 n1 c1) l) (h' : PRw w (.slice a2 n2 c2) l) (hn : l.length ≤ 1048576) (ht : ∀ x ∈ l, x.fs.length ≤ 1048576) :
    Calls Try.prog 34 #[.slice a1 n1 c1, .slice a2 n2 c2] w fun e w' => e = .returned (.bool true) ∧ Below w.heap.size w w' := by
  obtain rfl := h.len
  obtain rfl := h'.len
  have HH := hidden h
  have HH' := hidden h'
  have HT := hidden ht
  clear h h' ht
  go_enter Try.func34, Try.ntmps34
  go_wp2_with fail
  go_loopw [5] (fun iv wr => ∃ i : Nat, i ≤ l.length ∧ iv = .int .i64 i ∧ Below w.heap.size w wr) (fun iv _ => l.length - (intOf iv).toNat)
  case atStart => exact ⟨0, Nat.zero_le _, rfl, Below.refl _ _⟩
  case round =>
    obtain ⟨i, hil, rfl, hb⟩ := hrel
    have hsz := hb.size
    by_cases hlt : i < l.length
    · have hlti : (i : Int) < (l.length : Int) := by omega
      obtain ⟨x, hx⟩ := some_of l i hlt
      obtain ⟨g, off, fa, fc, rfl, hg, hr1, c0, c1⟩ := (HH.out.below hb).at hx
      obtain ⟨g', off', fa', fc', rfl, hg', hr1', d0, d1⟩ := (HH'.out.below hb).at hx
      have hl2 := HT.out x (List.mem_of_getElem? hx)
      have hK := fun W h1 h2 => eqpart_any x fa x.fs.length fc fa' x.fs.length fc' W h1 h2 hl2
      unfold aP at hK
      have HA := hidden (fun W (hW : Below wr.heap.size wr W) => hr1.below hW)
      have HC := hidden (fun W (hW : Below wr.heap.size wr W) => hr1'.below hW)
      clear hx hr1 hr1' hl2
      go_wp2_with fail
      first | go_region_with (go_at_call 52; refine (hK _ (HA.out _ (by repeat (first | exact Below.refl _ _ | assumption | refine st_drew ?_ | refine st_drewN ?_ _ | refine Below.setCell ?_ (by first | omega | (simp; done) | (simp; omega)) _ | refine Below.alloc ?_ (by first | omega | (simp; done) | (simp; omega)) _))) (HC.out _ (by repeat (first | exact Below.refl _ _ | assumption | refine st_drew ?_ | refine st_drewN ?_ _ | refine Below.setCell ?_ (by first | omega | (simp; done) | (simp; omega)) _ | refine Below.alloc ?_ (by first | omega | (simp; done) | (simp; omega)) _)))).mono ?_; rintro e w1 ⟨rfl, hb1⟩; have bA := ontoT (show Below w.heap.size w _ from by repeat (first | exact Below.refl _ _ | assumption | refine st_drew ?_ | refine st_drewN ?_ _ | refine Below.setCell ?_ (by first | omega | (simp; done) | (simp; omega)) _ | refine Below.alloc ?_ (by first | omega | (simp; done) | (simp; omega)) _)) hb1; clear hb1) | fail
      all_goals go_wp2_with fail
      all_goals go_roundw
      all_goals first
        | exact ⟨i + 1, by omega, rfl, by repeat (first | exact Below.refl _ _ | assumption | refine st_drew ?_ | refine st_drewN ?_ _ | refine Below.setCell ?_ (by first | omega | (simp; done) | (simp; omega)) _ | refine Below.alloc ?_ (by first | omega | (simp; done) | (simp; omega)) _)⟩
        | (simp [intOf]; omega)
    · have hlti : ¬ (i : Int) < (l.length : Int) := by omega
      go_wp2_with fail
      go_ret
      exact ⟨rfl, hb⟩

theorem WOut.base_le {w : World} {base b2 G n i : Nat} {l : List Pt} (h : WOut w base G n l i) (hb : b2 ≤ base) : WOut w b2 G n l i :=
  ⟨Nat.le_trans hb h.1, h.2.1, h.2.2.1, fun j x hj hx => by
    obtain ⟨T, k1, k⟩ := h.2.2.2 j x hj hx
    exact ⟨T, ⟨Nat.le_trans hb k1.1, k1.2⟩, k⟩⟩
theorem WOut.far {w : World} {base G n i : Nat} {l : List Pt} (h : WOut w base G n l i) {b : Nat} (hb : b < base) (o : Nat) (v : Value) : WOut (w.setCell ⟨b, o, none⟩ v) base G n l i := by
  obtain ⟨h0, h1, h2, h3⟩ := h
  have hc : ∀ T j, base ≤ T → (w.setCell ⟨b, o, none⟩ v).cell? ⟨T, j, none⟩ = w.cell? ⟨T, j, none⟩ := fun T j hT => World.cell?_setCell_far _ _ _ _ (by show b ≠ T; omega)
  refine ⟨h0, by simpa [World.setCell] using h1, fun j hj => ⟨by rw [hc G j h0]; exact (h2 j hj).1, by rw [World.frozen?_setCell]; exact (h2 j hj).2⟩, fun j x hj hx => ?_⟩
  obtain ⟨T, k1, ⟨e0, e1⟩, k4⟩ := h3 j x hj hx
  exact ⟨T, k1, ⟨by rw [hc G _ h0]; exact e0, by rw [hc G _ h0]; exact e1⟩, k4.far (by omega) o v⟩

set_option maxRecDepth 20000 in
set_option maxHeartbeats 4000000 in
theorem tomess_any (ao : Option Addr) (n cap : Nat) (l : List Pt) (w : World) (h : PRw w (.slice ao n cap) l) (hn : l.length ≤ 1048576) (ht : ∀ x ∈ l, PSm x) :
    Calls Try.prog 14 #[.agg #[.slice ao n cap]] w fun e w' => e = .returned (.agg #[.slice (some ⟨w.heap.size + 1 + 1 + 1, 0, none⟩) l.length l.length]) ∧ WOut w' w.heap.size (w.heap.size + 1 + 1 + 1) l.length l l.length ∧ Below w.heap.size w w' := by
  have HT := hidden (fun W (hW : Below w.heap.size w W) => toparts_any ao n cap l W (h.below hW) hn ht)
  clear h ht
  have P1 := hidden ((PB.new (w.alloc (.cells #[.slice ao n cap] 37)) #[.slice none 0 0] 42).alloc (.cells #[.slice none 0 0] 42))
  have P2 := hidden (PB.new ((w.alloc (.cells #[.slice ao n cap] 37)).alloc (.cells #[.slice none 0 0] 42)) #[.slice none 0 0] 42)
  simp only [World.size_alloc] at P1 P2
  go_enter Try.func14, Try.ntmps14
  go_wp2_with (go_at_call 31; (with_reducible refine (HT.out _ (by repeat (first | exact Below.refl _ _ | assumption | refine st_drew ?_ | refine st_drewN ?_ _ | refine Below.setCell ?_ (by first | omega | (simp; done) | (simp; omega)) _ | refine Below.alloc ?_ (by first | omega | (simp; done) | (simp; omega)) _))).mono ?_); rintro e w1 ⟨rfl, ho1, hb1⟩; simp only [World.size_alloc] at ho1; have hsz := hb1.size; simp only [World.size_alloc] at hsz; have hq := P1.out.below hb1; have hr := P2.out.below hb1; have q0 := hq.cell 0; have r0 := hr.cell 0; obtain ⟨f0, -⟩ := hq.cold; obtain ⟨g0, -⟩ := hr.cold; have bA := ontoT (show Below w.heap.size w _ from by repeat (first | exact Below.refl _ _ | assumption | refine st_drew ?_ | refine st_drewN ?_ _ | refine Below.setCell ?_ (by first | omega | (simp; done) | (simp; omega)) _ | refine Below.alloc ?_ (by first | omega | (simp; done) | (simp; omega)) _)) hb1; have HQ := hidden hq; have HO := hidden ho1; clear hb1 hq hr ho1)
  have o1 := HO.out.far (b := w.heap.size + 1 + 1) (by omega) 0 (.slice (some ⟨w.heap.size + 1 + 1 + 1, 0, none⟩) l.length l.length)
  have o2 := (o1.far (b := w.heap.size + 1) (by omega) 0 (.slice (some ⟨w.heap.size + 1 + 1 + 1, 0, none⟩) l.length l.length)).base_le (show w.heap.size ≤ w.heap.size + 1 + 1 + 1 by omega)
  have b1 := bA.setCell (p := ⟨w.heap.size + 1 + 1, 0, none⟩) (by show w.heap.size ≤ w.heap.size + 1 + 1; omega) (.slice (some ⟨w.heap.size + 1 + 1 + 1, 0, none⟩) l.length l.length)
  have b2 := b1.setCell (p := ⟨w.heap.size + 1, 0, none⟩) (by show w.heap.size ≤ w.heap.size + 1; omega) (.slice (some ⟨w.heap.size + 1 + 1 + 1, 0, none⟩) l.length l.length)
  have e1 := (HQ.out.far (b := w.heap.size + 1 + 1) (by omega) 0 (.slice (some ⟨w.heap.size + 1 + 1 + 1, 0, none⟩) l.length l.length)).put 0 (.slice (some ⟨w.heap.size + 1 + 1 + 1, 0, none⟩) l.length l.length) (vs' := #[(.slice (some ⟨w.heap.size + 1 + 1 + 1, 0, none⟩) l.length l.length)]) (by simp)
  have y0 := e1.cell 0
  exact bodyPost_ret (v := .agg #[(.slice (some ⟨w.heap.size + 1 + 1 + 1, 0, none⟩) l.length l.length)]) (by simp [results, Try.results14, go_sem, y0]) rfl ⟨rfl, o2, b2⟩

set_option maxRecDepth 20000 in
set_option maxHeartbeats 2000000 in
theorem szmess_any (ao : Option Addr) (n cap : Nat) (l : List Pt) (L : Int) (w : World) (h : PRw w (.slice ao n cap) l) (hn : l.length ≤ maxLen) (ht : ∀ x ∈ l, PBd x) (h0 : 0 ≤ L) (h1 : L ≤ 1048576) :
    Calls Try.prog 12 #[.agg #[.slice ao n cap], .int .i64 L] w fun e w' => ∃ r : Int, e = .returned (.int .i64 r) ∧ (r = -1 ∨ (0 ≤ r ∧ r ≤ L ∧ l.length ≤ 1048576 ∧ ∀ x ∈ l, PSm x)) ∧ Below w.heap.size w w' := by
  have HT := hidden (fun W (hW : Below w.heap.size w W) => szparts_any ao n cap l L W (h.below hW) hn ht h0 h1)
  clear h ht
  go_enter Try.func12, Try.ntmps12
  go_upto_region 2 with (go_at_call 29; (with_reducible refine (HT.out _ (by repeat (first | exact Below.refl _ _ | assumption | refine st_drew ?_ | refine st_drewN ?_ _ | refine Below.setCell ?_ (by first | omega | (simp; done) | (simp; omega)) _ | refine Below.alloc ?_ (by first | omega | (simp; done) | (simp; omega)) _))).mono ?_); rintro e w1 ⟨r, rfl, hr, hb1⟩; have bA := ontoT (show Below w.heap.size w _ from by repeat (first | exact Below.refl _ _ | assumption | refine st_drew ?_ | refine st_drewN ?_ _ | refine Below.setCell ?_ (by first | omega | (simp; done) | (simp; omega)) _ | refine Below.alloc ?_ (by first | omega | (simp; done) | (simp; omega)) _)) hb1)
  rcases hr with rfl | ⟨r0, r1, r2, r3⟩
  · go_wp2_with fail
    go_ret
    exact ⟨-1, rfl, Or.inl rfl, bA⟩
  · have hr0 : ¬ r < 0 := by omega
    have H3 := hidden r3
    clear r3
    go_wp2_with fail
    go_ret
    refine ⟨r, rfl, Or.inr ?_, bA⟩
    repeat (first | exact H3.out | (refine ⟨by assumption, ?_⟩))

set_option maxRecDepth 20000 in
set_option maxHeartbeats 2000000 in
theorem eqmess_any (a1 : Option Addr) (n1 c1 : Nat) (a2 : Option Addr) (n2 c2 : Nat) (l : List Pt) (w : World) (h : PRw w (.slice a1 n1 c1) l) (h' : PRw w (.slice a2 n2 c2) l) (hn : l.length ≤ 1048576) (ht : ∀ x ∈ l, x.fs.length ≤ 1048576) :
    Calls Try.prog 16 #[.agg #[.slice a1 n1 c1], .agg #[.slice a2 n2 c2]] w fun e w' => e = .returned (.bool true) ∧ Below w.heap.size w w' := by
  have HT := hidden (fun W (hW : Below w.heap.size w W) => eqparts_any a1 n1 c1 a2 n2 c2 l W (h.below hW) (h'.below hW) hn ht)
  clear h h' ht
  go_enter Try.func16, Try.ntmps16
  go_wp2_with (go_at_call 34; (with_reducible refine (HT.out _ (by repeat (first | exact Below.refl _ _ | assumption | refine st_drew ?_ | refine st_drewN ?_ _ | refine Below.setCell ?_ (by first | omega | (simp; done) | (simp; omega)) _ | refine Below.alloc ?_ (by first | omega | (simp; done) | (simp; omega)) _))).mono ?_); rintro e w1 ⟨rfl, hb1⟩; have bA := ontoT (show Below w.heap.size w _ from by repeat (first | exact Below.refl _ _ | assumption | refine st_drew ?_ | refine st_drewN ?_ _ | refine Below.setCell ?_ (by first | omega | (simp; done) | (simp; omega)) _ | refine Below.alloc ?_ (by first | omega | (simp; done) | (simp; omega)) _)) hb1)
  go_ret
  exact ⟨rfl, bA⟩

theorem array1M {α : Type} {cs : Array α} (h : cs.size = 1) : ∃ c0, cs = #[c0] := by
  obtain ⟨l⟩ := cs
  match l, h with
  | [c0], _ => exact ⟨c0, rfl⟩

set_option maxRecDepth 100000 in
theorem mess_of_read {H : Type} {enc : TypeId × Value → H} {W : World} {sp : Nat → Bool} {hd : Bool} {r : Reach} {b0 : Nat} {v : Value} {d : DataW H} {p : List MemPlace}
    (hv : Value.okWide Try.prog W r b0 37 v) (h : DataW.Trod enc Try.prog W 0 sp hd 37 v d p) : ∃ (ao : Option Addr) (n cap : Nat) (l : List Pt), v = .agg #[.slice ao n cap] ∧ l.length ≤ maxLen ∧ PRw W (.slice ao n cap) l ∧ ∀ x ∈ l, PBd x := by
  obtain ⟨cs, rfl, hsz⟩ := okWide_struct Try.underlying37 hv
  obtain ⟨c0, rfl⟩ := array1M (hsz.trans (by kernel_rfl))
  obtain ⟨fuel, hf⟩ := h
  obtain ⟨xs, k, hk, hxy, hcl, hxl, hg⟩ := DataW.trod_struct Try.underlying37 hf
  obtain ⟨fs, h1, h2⟩ := fsPart
  have hg0 := hg 0 _ rfl
  have hc1 : Try.prog.cellsOf 35 = 1 := by kernel_rfl
  have hx0 : 0 < xs.length := by rw [hxl]; exact Nat.zero_lt_succ _
  rw [List.getElem?_eq_getElem hx0] at hg0
  have hg1 : DataW.trod enc Try.prog W 0 sp hd k 35 [c0] = some xs[0] := by
    rw [← hg0]
    simp [Value.cells, hc1]
  obtain ⟨v, l, e1, e2, e3, e4⟩ := parts_of_trod Try.underlying35 h1 (by kernel_rfl) h2 hg1
  obtain ⟨ao, cap, rfl⟩ := e3.form
  obtain rfl : c0 = _ := by simpa using e1
  exact ⟨ao, _, cap, l, rfl, e2, e3, e4⟩
end Go.Proofs.Ytbabknhccapaoaa
