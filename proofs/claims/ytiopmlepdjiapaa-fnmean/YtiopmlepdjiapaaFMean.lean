/-
  Proved: FnMean.
-/
import Derived.Test.YtiopmlepdjiapaaIMean
import Derived.Test.YtiopmlepdjiapaaCurs5
import Derived.ProofKit
import Derived.OpenShut
import Derived.ShutString
import Derived.ChangeOld
import Derived.Below
import Derived.Deep.Slices
import Derived.Deep.RegionLaw
import Derived.Deep.DrawnRows
import Derived.Deep.AppendLies
namespace Go.Proofs.Ytiopmlepdjiapaa
open Go.RowKit Fl
attribute [local go_sem ↓] Go.wp_at_zero Go.wp_at_succ

theorem nanc_any (w : World) : Calls Try.prog 36 #[] w fun e w' => e = .returned (.float .f64 9221120237041090561) ∧ w' = w :=
  (callsIn_wide (n := 3)).1 (nanc_in Fence.wide 3 trivial trivial rfl w)

set_option maxHeartbeats 1000000 in
theorem imean_any (v : Value) (n : Nat) (xs : List Nat) (w : World) (ha : Row w v n (xs.map fl)) (hn : n ≤ 1048576) :
    Calls Try.prog 15 #[v] w fun e w' => ∃ y, e = .returned (.float .f64 y) ∧ cls y = meanW xs ∧ Below w.heap.size w w' := by
  have hl : xs.length = n := by have := ha.1; simpa using this
  by_cases h : n ≤ 4096
  · rw [← hl] at ha
    exact (callsIn_wide (n := 3)).1 (imean_in Fence.wide 3 (fun _ => trivial) rfl (by omega) v xs w ha (by omega))
  · obtain ⟨_, ao, cap, rfl, hrow⟩ := ha
    clear hrow
    have hbi : (4096 : Int) < (n : Int) := by omega
    have HW : Hid (meanW xs = none) := by unfold Hid meanW; rw [if_pos (by omega)]
    go_enter Try.func15, Try.ntmps15
    go_wp2_with (go_at_call 36; refine (nanc_any _).mono ?_; rintro e w' ⟨rfl, hw'⟩; have hw2 := hw'.symm; clear hw'; subst hw2)
    go_ret
    exact ⟨_, rfl, by rw [HW.out]; simp [cls, nan_c], Below.refl _ _⟩

theorem onto {w W w2 : World} (hv : Below w.heap.size w W) (h : Below W.heap.size W w2) : Below w.heap.size w w2 := hv.trans (h.mono hv.size)

theorem st_drew {w0 w : World} (h : Below w0.heap.size w0 w) : Below w0.heap.size w0 w.drew := ⟨h.os, h.tape, h.output, h.size, h.block⟩
theorem st_alloc {w0 w : World} (h : Below w0.heap.size w0 w) (o : Obj) : Below w0.heap.size w0 (w.alloc o) :=
  ⟨h.os, h.tape, h.output, by have := h.size; simp; omega, fun k hk => (Below.heap_alloc w o k (Nat.lt_of_lt_of_le hk h.size)).trans (h.block k hk)⟩
theorem blk_new (w : World) (o : Obj) (b : Nat) (hb : w.heap.size = b) : (w.alloc o).heap[b]? = some o := by subst hb; exact heap_alloc_new w o
theorem blk_drew {w : World} {b : Nat} {o : Obj} (h : w.heap[b]? = some o) : w.drew.heap[b]? = some o := h
theorem blk_alloc {w : World} {b : Nat} {o : Obj} (h : w.heap[b]? = some o) (o' : Obj) : (w.alloc o').heap[b]? = some o :=
  (Below.heap_alloc w o' b (Array.getElem?_eq_some_iff.1 h).1).trans h
theorem blk_grown {w w' : World} {r b n c : Nat} {o : Obj} (hg : w.grownBy w' (Value.slice (some ⟨r, 0, none⟩) n c).ownBlock) (h : w.heap[b]? = some o) (hne : b ≠ r) : w'.heap[b]? = some o :=
  (hg.block b (Array.getElem?_eq_some_iff.1 h).1 (by simpa [Value.ownBlock] using hne)).trans h
theorem own_drew {w : World} {b e n : Nat} {v : Value} {xs : List Value} (h : w.ownsRow b e 1 v n xs) : w.drew.ownsRow b e 1 v n xs := h
theorem own_empty {w0 w : World} (b : Nat) (hb : w0.heap.size ≤ b) (h : w.heap[b]? = some (.cells #[] 37)) : w.ownsRow w0.heap.size 37 1 (.slice (some ⟨b, 0, none⟩) 0 0) 0 [] :=
  ⟨rfl, .inr ⟨b, 0, #[], rfl, hb, h, Nat.le_refl _, Nat.zero_le _, rfl, rfl⟩⟩
theorem st_grown {w0 w w' : World} {v : Value} {n : Nat} {ys : List Value} (h : Below w0.heap.size w0 w) (hg : w.grownBy w' v.ownBlock) (ho : w.ownsRow w0.heap.size 37 1 v n ys) : Below w0.heap.size w0 w' := by
  refine ⟨hg.os.trans h.os, hg.tape.trans h.tape, hg.output.trans h.output, Nat.le_trans h.size hg.size, fun k hk => (hg.block k (Nat.lt_of_lt_of_le hk h.size) ?_).trans (h.block k hk)⟩
  rcases ho.2 with ⟨rfl, _⟩ | ⟨b, cap, cur, rfl, h3, _⟩
  · simp [Value.ownBlock]
  · simp [Value.ownBlock]; omega

theorem step_app {ops : Array Oper} {o : Oper} {a : Act} {w : World} {K : Act → World → Prop} {Q : Exit → Act → World → Prop} {E : Prop} (hgd : o.guard = none) (s x : Operand)
    (ho : o.op = .call { callee := .builtin .append, args := #[s, x], argTypes := #[35, 35] })
    (w0 : World) (hB : Below w0.heap.size w0 w) (v : Value) (n : Nat) (ys : List Value) (hs : a.eval s = v) (hown : w.ownsRow w0.heap.size 37 1 v n ys)
    (ad : Addr) (m c : Nat) (news : List Nat) (hx : a.eval x = .slice (some ad) m c) (hl : news.length = m) (hnews : ∀ j u, (news.map fl)[j]? = some u → w.cell? (ad.add j) = some u)
    (hb : n + m ≤ 100000)
    (h : ∀ v' w', w'.ownsRow w0.heap.size 37 1 v' (n + m) (ys ++ news.map fl) → Below w0.heap.size w0 w' → w.grownBy w' v.ownBlock → K (a.put o.dst v') w') :
    if Region.wanted o (yielded ops a.tmps) = true then Oper.wp Try.prog o a w K Q else E := by
  obtain ⟨i0, hi, hz0, hz1, hz2⟩ := info_parts info37
  have hw : Region.wanted o (yielded ops a.tmps) = true := by simp [Region.wanted, hgd]
  rw [if_pos hw]
  refine wp_append_own w s x 35 ho w0.heap.size 37 i0 (.float .f64 0) 1 8 Try.underlying35 hi hz0 hz1 hz2 rfl (by decide) v n ys hs hown ad m c (news.map fl) hx (by simp [hl]) hnews ?_ (by unfold maxLen; omega) (by omega) hB.size ?_
  · intro u hu
    obtain ⟨z, _, rfl⟩ := List.mem_map.1 hu
    rfl
  · intro v' w' ho' hg' _
    exact h v' w' ho' (st_grown hB hg' hown) hg'

theorem meas_put (xs : List Nat) (k z : Nat) (hz : isN z = true) : meas (xs.take k ++ [z] ++ xs.drop k) = meas xs := by
  unfold meas
  rw [List.filter_append, List.filter_append]
  have e : List.filter (fun x => !isN x) [z] = [] := by simp [hz]
  rw [e, List.append_nil, ← List.filter_append, List.take_append_drop]
theorem mean_put (xs : List Nat) (k z : Nat) (hz : isN z = true) (hl : xs.length ≤ 4000) : meanW (xs.take k ++ [z] ++ xs.drop k) = meanW xs := by
  unfold meanW
  rw [meas_put xs k z hz]
  have e : (xs.take k ++ [z] ++ xs.drop k).length = xs.length + 1 := by
    rw [List.length_append, List.length_append, List.length_take, List.length_drop, List.length_singleton]; omega
  have a1 : ¬ 4096 < xs.length + 1 := by omega
  have a2 : ¬ 4096 < xs.length := by omega
  rw [e]
  simp only [if_neg a1, if_neg a2]
theorem news_take {w : World} {g : Nat} {cur : Array Value} {xs : List Nat} (k : Nat) (h : w.heap[g]? = some (.cells cur 37)) (hc : cur.toList.take xs.length = xs.map fl) : ∀ j u, ((xs.take k).map fl)[j]? = some u → w.cell? ((⟨g, 0, none⟩ : Addr).add j) = some u := by
  intro j u hu
  refine World.news_of_block h j u ?_
  rw [List.map_take, ← hc] at hu
  have h1 := (List.getElem?_eq_some_iff.1 hu).1
  rw [List.getElem?_take] at hu
  split at hu
  · rw [List.getElem?_take] at hu
    split at hu
    · exact hu
    · cases hu
  · cases hu
theorem news_drop {w : World} {g : Nat} {cur : Array Value} {xs : List Nat} (k : Nat) (h : w.heap[g]? = some (.cells cur 37)) (hc : cur.toList.take xs.length = xs.map fl) : ∀ j u, ((xs.drop k).map fl)[j]? = some u → w.cell? ((⟨g, k, none⟩ : Addr).add j) = some u := by
  intro j u hu
  rw [Addr.add_lit, cell_of_row w g (k + j) cur 37 (0, 0) h]
  rw [List.map_drop, List.getElem?_drop, ← hc, List.getElem?_take] at hu
  split at hu
  · simpa using hu
  · cases hu

theorem nan_quo (w : World) : isN (fRes BinOp.quo 0 0 w) = true := by
  have h := cls_fRes .quo 0 0 w
  have e : fop .quo (cls 0) (cls 0) = none := by decide
  rw [e] at h
  unfold cls at h
  cases q : isN (fRes BinOp.quo 0 0 w)
  · rw [q] at h; simp at h
  · rfl
theorem Bytes.mono3 {w : World} {g g' : Nat} {ao : Option Addr} {bs : List Int} (h : Bytes w g ao bs) (hg : g ≤ g') : Bytes w g' ao bs := by
  refine ⟨h.1, ?_⟩
  rcases h.2 with h2 | ⟨b, off, h1, h2, h4⟩
  · exact Or.inl h2
  · exact Or.inr ⟨b, off, h1, Nat.lt_of_lt_of_le h2 hg, h4⟩

set_option linter.unusedSimpArgs false in
set_option maxHeartbeats 1000000 in
theorem fnMean_walk (ao : Option Addr) (cap : Nat) (bs : List Int) (w : World) (hb : Bytes w w.heap.size ao bs) :
    Calls Try.prog 4 #[.slice ao bs.length cap] w fun e w' => e = .returned (.bool true) ∧ Below w.heap.size w w' := by
  by_cases hbig : (4096 : Int) < (bs.length : Int)
  · clear hb
    go_enter Try.func4, Try.ntmps4
    go_wp2_with (go_at_call 5; refine (big_any _ _ _ _).mono ?_; rintro e w' ⟨rfl, hw'⟩; have hw2 := hw'.symm; clear hw'; subst hw2; rw [decide_eq_true hbig])
    go_ret
    exact ⟨rfl, Below.refl _ _⟩
  go_enter Try.func4, Try.ntmps4
  go_wp2_with (go_at_call 5; refine (big_any _ _ _ _).mono ?_; rintro e w' ⟨rfl, hw'⟩; have hw2 := hw'.symm; clear hw'; subst hw2; rw [decide_eq_false hbig])
  refine (draw_any ao cap bs _ hb (by omega)).mono ?_
  rintro e w1 ⟨v, xs, rfl, hown, hnn, hlen, hb1⟩
  obtain ⟨g1, cap1, cur1, rfl, hg1, hobj, hcap⟩ : ∃ g1 cap1 cur1, v = .slice (some ⟨g1, 0, none⟩) xs.length cap1 ∧ g1 < w1.heap.size ∧ w1.heap[g1]? = some (.cells cur1 37) ∧ xs.length ≤ cap1 ∧ cap1 ≤ maxLen ∧ cur1.size = cap1 ∧ cur1.toList.take xs.length = xs.map fl := by
    rcases hown.2 with ⟨h, _⟩ | ⟨g, cap, cur, h1, h2, h3, h4, h5, h6, h7⟩
    · exact absurd h hnn
    · exact ⟨g, cap, cur, h1, (Array.getElem?_eq_some_iff.1 h3).1, h3, h4, h5, by simpa using h6, by simpa using h7⟩
  obtain ⟨hcap, hcap2, hcap3, hcap4⟩ := hcap
  have hrow := Row.of_owns hown
  clear hown hnn
  go_wp2_with fail
  refine (imean_any _ xs.length xs _ hrow (by omega)).mono ?_
  rintro e w2 ⟨y, rfl, hy, hb2⟩
  have hrow2 := hrow.below hb2
  have hb02 := onto hb1 hb2
  have HY : Hid (cls y = meanW xs) := hy
  clear hy
  go_wp2_with fail
  refine (smean_any _ xs.length xs _ hrow2 (by omega)).mono ?_
  rintro e w3 ⟨y3, m3, rfl, hy3, hw3⟩
  have hb3 : Below w2.heap.size w2 w3 := by rw [hw3]; exact below_drewN (Below.refl _ _) _
  clear hw3
  have hrow3 := hrow2.below hb3
  have hb03 := onto hb02 hb3
  have HO3 : Hid (w3.heap[g1]? = some (.cells cur1 37)) := (hb3.block g1 (Nat.lt_of_lt_of_le hg1 hb2.size)).trans ((hb2.block g1 hg1).trans hobj)
  have HG3 : Hid (g1 < w3.heap.size) := Nat.lt_of_lt_of_le hg1 (Nat.le_trans hb2.size hb3.size)
  have HY3 : Hid (cls y3 = meanW xs) := hy3
  clear hy3 hobj hrow2 hrow hb2 hb3 hb02
  have hcls := HY.out.trans HY3.out.symm
  have hquo := run_fquo
  by_cases h4000 : (4000 : Int) < (xs.length : Int)
  · rcases cls_eq hcls with ⟨h1, h2⟩ | ⟨rfl, h1⟩
    · have o1 : FloatKind.f64.format.order y y = none := ord_nan (Or.inl h1)
      have o2 : FloatKind.f64.format.order y3 y3 = none := ord_nan (Or.inl h2)
      have o3 : FloatKind.f64.format.order y y3 = none := ord_nan (Or.inl h1)
      clear hrow3 hb
      go_wp2_with fail
      go_ret
      exact ⟨rfl, hb03⟩
    · have o1 : FloatKind.f64.format.order y y = some .eq := ord_self h1
      clear hrow3 hb
      go_wp2_with fail
      go_ret
      exact ⟨rfl, hb03⟩
  · rcases cls_eq hcls with ⟨h1, h2⟩ | ⟨rfl, h1⟩
    · have o1 : FloatKind.f64.format.order y y = none := ord_nan (Or.inl h1)
      have o2 : FloatKind.f64.format.order y3 y3 = none := ord_nan (Or.inl h2)
      have o3 : FloatKind.f64.format.order y y3 = none := ord_nan (Or.inl h1)
      have HB3 := hb.below hb03
      go_wp2_with fail
      have HN : Hid (isN (fRes BinOp.quo 0 0 w3) = true) := nan_quo w3
      generalize fRes BinOp.quo 0 0 w3 = nanb at *
      obtain ⟨w0, hw0⟩ : ∃ w0, w3.drewN (fN BinOp.quo 0 0) = w0 := ⟨_, rfl⟩
      rw [hw0]
      have hb0 : Below w.heap.size w w0 := by rw [← hw0]; exact below_drewN hb03 _
      have HO : Hid (w0.heap[g1]? = some (.cells cur1 37)) := by rw [← hw0]; exact HO3
      have HG : Hid (g1 < w0.heap.size) := by rw [← hw0]; exact HG3
      have HB0 : Bytes w0 w0.heap.size ao bs := (hb.below hb0).mono3 hb0.size
      clear hw0 hb03 HO3 HG3 HB3 hb
      refine (pick_any ao cap bs (xs.length + 1) w0 HB0 (by omega) (by omega) (by omega)).mono ?_
      rintro e w4 ⟨⟨at', rfl, hat⟩, rfl⟩
      have ha0 : (0 : Int) ≤ (at' : Int) := by omega
      have ha1 : (at' : Int) ≤ (xs.length : Int) := by omega
      have ha2 : (at' : Int) ≤ (cap1 : Int) := by omega
      have ha3 : (xs.length : Int) ≤ (cap1 : Int) := by omega
      clear hrow3
      go_wp2_with fail
      have T1 : Hid ((xs.take at').length = at') := by unfold Hid; rw [List.length_take]; omega
      have T3 : Hid ((xs.drop at').length = xs.length - at') := by unfold Hid; rw [List.length_drop]
      have N1 : Hid (∀ W : World, Below w4.heap.size w4 W → ∀ j u, ((xs.take at').map fl)[j]? = some u → W.cell? ((⟨g1, 0, none⟩ : Addr).add j) = some u) := fun W hW => news_take at' ((hW.block g1 HG.out).trans HO.out) hcap4
      obtain ⟨A, hA, N3⟩ : ∃ A : Addr, (if cap1 = at' then some (⟨g1, 0, none⟩ : Addr) else some ⟨g1, at', none⟩) = some A ∧ Hid (∀ W : World, Below w4.heap.size w4 W → ∀ j u, ((xs.drop at').map fl)[j]? = some u → W.cell? (A.add j) = some u) := by
        by_cases hce : cap1 = at'
        · refine ⟨⟨g1, 0, none⟩, by simp [hce], fun W hW j u hu => ?_⟩
          have h0 : xs.drop at' = [] := List.drop_eq_nil_of_le (by omega)
          rw [h0] at hu
          simp at hu
        · exact ⟨⟨g1, at', none⟩, by simp [hce], fun W hW => news_drop at' ((hW.block g1 HG.out).trans HO.out) hcap4⟩
      have FIN : Hid (∀ (v : Value) (W : World), W.ownsRow w4.heap.size 37 1 v (0 + at' + 1 + (xs.length - at')) ([] ++ (xs.take at').map fl ++ [nanb].map fl ++ (xs.drop at').map fl) →
          Calls Try.prog 15 #[v] W fun e w' => ∃ z, e = .returned (.float .f64 z) ∧ cls z = meanW xs ∧ Below W.heap.size W w') := by
        intro v W ho
        have e : [] ++ (xs.take at').map fl ++ [nanb].map fl ++ (xs.drop at').map fl = (xs.take at' ++ [nanb] ++ xs.drop at').map fl := by simp
        rw [e] at ho
        have h := imean_any v _ (xs.take at' ++ [nanb] ++ xs.drop at') W (Row.of_owns ho) (by omega)
        rw [mean_put xs at' nanb HN.out (by omega)] at h
        exact h
      go_region_law (first
        | ((refine step_app (by rfl) (.tmp 43) (.tmp 46) (by rfl) w4 (by first | ((repeat (first | assumption | with_reducible exact Below.refl _ _ | with_reducible apply st_drew | with_reducible apply st_alloc)); done) | fail) (.slice (some ⟨w4.heap.size, 0, none⟩) 0 0) 0 [] (by first | ((simp [Act.eval, Act.put]); done) | fail) (own_empty _ (by omega) (by first | ((repeat (first | exact blk_new _ _ _ (by first | ((simp); done) | fail) | with_reducible apply blk_drew | with_reducible apply blk_alloc)); done) | fail)) ⟨g1, 0, none⟩ at' cap1 (xs.take at') (by first | ((simp [Act.eval, Act.put]); done) | fail) T1.out (N1.out _ (by first | ((repeat (first | assumption | with_reducible exact Below.refl _ _ | with_reducible apply st_drew | with_reducible apply st_alloc)); done) | fail)) (by omega) ?_; intro v1 wa ho1 hb1 hg1'))
        | ((refine step_app (by rfl) (.tmp 43) (.tmp 46) (by rfl) w4 (by first | ((repeat (first | assumption | with_reducible exact Below.refl _ _ | with_reducible apply st_drew | with_reducible apply st_alloc)); done) | fail) (.slice (some ⟨w4.heap.size + 1, 0, none⟩) 0 0) 0 [] (by first | ((simp [Act.eval, Act.put]); done) | fail) (own_empty _ (by omega) (by first | ((repeat (first | exact blk_new _ _ _ (by first | ((simp); done) | fail) | with_reducible apply blk_drew | with_reducible apply blk_alloc)); done) | fail)) ⟨g1, 0, none⟩ at' cap1 (xs.take at') (by first | ((simp [Act.eval, Act.put]); done) | fail) T1.out (N1.out _ (by first | ((repeat (first | assumption | with_reducible exact Below.refl _ _ | with_reducible apply st_drew | with_reducible apply st_alloc)); done) | fail)) (by omega) ?_; intro v1 wa ho1 hb1 hg1'))
        | ((refine step_app (by rfl) (.tmp 47) (.tmp 49) (by rfl) w4 (by first | ((repeat (first | assumption | with_reducible exact Below.refl _ _ | with_reducible apply st_drew | with_reducible apply st_alloc)); done) | fail) v1 (0 + at') ([] ++ (xs.take at').map fl) (by first | ((simp [Act.eval, Act.put]); done) | fail) (by first | ((repeat (first | assumption | with_reducible apply own_drew | with_reducible apply owns_alloc)); done) | fail) ⟨wa.heap.size, 0, none⟩ 1 1 [nanb] (by first | ((simp [Act.eval, Act.put]); done) | fail) (by rfl) (World.news_of_block (cs := #[.float .f64 nanb]) (t := 37) (by first | ((repeat (first | exact blk_new _ _ _ (by first | ((simp); done) | fail) | with_reducible apply blk_drew | with_reducible apply blk_alloc)); done) | fail)) (by omega) ?_; intro v2 wb ho2 hb2 hg2'))
        | ((refine step_app (by rfl) (.tmp 47) (.tmp 49) (by rfl) w4 (by first | ((repeat (first | assumption | with_reducible exact Below.refl _ _ | with_reducible apply st_drew | with_reducible apply st_alloc)); done) | fail) v1 (0 + at') ([] ++ (xs.take at').map fl) (by first | ((simp [Act.eval, Act.put]); done) | fail) (by first | ((repeat (first | assumption | with_reducible apply own_drew | with_reducible apply owns_alloc)); done) | fail) ⟨w4.heap.size, 0, none⟩ 1 1 [nanb] (by first | ((simp [Act.eval, Act.put]); done) | fail) (by rfl) (World.news_of_block (cs := #[.float .f64 nanb]) (t := 37) (by first | ((repeat (first | exact blk_grown hg1' (by first | ((repeat (first | exact blk_new _ _ _ (by first | ((simp); done) | fail) | with_reducible apply blk_drew | with_reducible apply blk_alloc)); done) | fail) (by omega) | with_reducible apply blk_drew)); done) | fail)) (by omega) ?_; intro v2 wb ho2 hb2 hg2'))
        | ((refine step_app (by rfl) (.tmp 47) (.tmp 49) (by rfl) w4 (by first | ((repeat (first | assumption | with_reducible exact Below.refl _ _ | with_reducible apply st_drew | with_reducible apply st_alloc)); done) | fail) v1 (0 + at') ([] ++ (xs.take at').map fl) (by first | ((simp [Act.eval, Act.put]); done) | fail) (by first | ((repeat (first | assumption | with_reducible apply own_drew | with_reducible apply owns_alloc)); done) | fail) ⟨w4.heap.size + 1, 0, none⟩ 1 1 [nanb] (by first | ((simp [Act.eval, Act.put]); done) | fail) (by rfl) (World.news_of_block (cs := #[.float .f64 nanb]) (t := 37) (by first | ((repeat (first | exact blk_grown hg1' (by first | ((repeat (first | exact blk_new _ _ _ (by first | ((simp); done) | fail) | with_reducible apply blk_drew | with_reducible apply blk_alloc)); done) | fail) (by omega) | with_reducible apply blk_drew)); done) | fail)) (by omega) ?_; intro v2 wb ho2 hb2 hg2'))
        | ((refine step_app (by rfl) (.tmp 50) (.tmp 53) (by rfl) w4 (by first | ((repeat (first | assumption | with_reducible exact Below.refl _ _ | with_reducible apply st_drew | with_reducible apply st_alloc)); done) | fail) v2 (0 + at' + 1) ([] ++ (xs.take at').map fl ++ [nanb].map fl) (by first | ((simp [Act.eval, Act.put]); done) | fail) (by first | ((repeat (first | assumption | with_reducible apply own_drew | with_reducible apply owns_alloc)); done) | fail) A (xs.length - at') (cap1 - at') (xs.drop at') (by first | ((simp [Act.eval, Act.put, hA]); done) | fail) T3.out (N3.out _ (by first | ((repeat (first | assumption | with_reducible exact Below.refl _ _ | with_reducible apply st_drew | with_reducible apply st_alloc)); done) | fail)) (by omega) ?_; intro v3 wc ho3 hb3 hg3'))
        | fail)
      all_goals go_wp2_with fail
      all_goals refine (FIN.out _ _ (by first | exact ho3 | exact own_drew ho3)).mono ?_
      all_goals rintro e w5 ⟨z, rfl, hz, hb5⟩
      all_goals have hb6 := onto (onto hb0 (by first | exact hb3 | exact st_drew hb3)) hb5
      all_goals rcases cls_eq (hz.trans HY.out.symm) with ⟨k1, k2⟩ | ⟨rfl, k1⟩
      all_goals first | (rw [h1] at k1; cases k1; done) | skip
      all_goals have o4 : FloatKind.f64.format.order z z = none := ord_nan (Or.inl k1)
      all_goals have o5 : FloatKind.f64.format.order z y = none := ord_nan (Or.inl k1)
      all_goals go_wp2_with fail
      all_goals go_ret
      all_goals exact ⟨rfl, hb6⟩
    · have o1 : FloatKind.f64.format.order y y = some .eq := ord_self h1
      have HB3 := hb.below hb03
      go_wp2_with fail
      have HN : Hid (isN (fRes BinOp.quo 0 0 w3) = true) := nan_quo w3
      generalize fRes BinOp.quo 0 0 w3 = nanb at *
      obtain ⟨w0, hw0⟩ : ∃ w0, w3.drewN (fN BinOp.quo 0 0) = w0 := ⟨_, rfl⟩
      rw [hw0]
      have hb0 : Below w.heap.size w w0 := by rw [← hw0]; exact below_drewN hb03 _
      have HO : Hid (w0.heap[g1]? = some (.cells cur1 37)) := by rw [← hw0]; exact HO3
      have HG : Hid (g1 < w0.heap.size) := by rw [← hw0]; exact HG3
      have HB0 : Bytes w0 w0.heap.size ao bs := (hb.below hb0).mono3 hb0.size
      clear hw0 hb03 HO3 HG3 HB3 hb
      refine (pick_any ao cap bs (xs.length + 1) w0 HB0 (by omega) (by omega) (by omega)).mono ?_
      rintro e w4 ⟨⟨at', rfl, hat⟩, rfl⟩
      have ha0 : (0 : Int) ≤ (at' : Int) := by omega
      have ha1 : (at' : Int) ≤ (xs.length : Int) := by omega
      have ha2 : (at' : Int) ≤ (cap1 : Int) := by omega
      have ha3 : (xs.length : Int) ≤ (cap1 : Int) := by omega
      clear hrow3
      go_wp2_with fail
      have T1 : Hid ((xs.take at').length = at') := by unfold Hid; rw [List.length_take]; omega
      have T3 : Hid ((xs.drop at').length = xs.length - at') := by unfold Hid; rw [List.length_drop]
      have N1 : Hid (∀ W : World, Below w4.heap.size w4 W → ∀ j u, ((xs.take at').map fl)[j]? = some u → W.cell? ((⟨g1, 0, none⟩ : Addr).add j) = some u) := fun W hW => news_take at' ((hW.block g1 HG.out).trans HO.out) hcap4
      obtain ⟨A, hA, N3⟩ : ∃ A : Addr, (if cap1 = at' then some (⟨g1, 0, none⟩ : Addr) else some ⟨g1, at', none⟩) = some A ∧ Hid (∀ W : World, Below w4.heap.size w4 W → ∀ j u, ((xs.drop at').map fl)[j]? = some u → W.cell? (A.add j) = some u) := by
        by_cases hce : cap1 = at'
        · refine ⟨⟨g1, 0, none⟩, by simp [hce], fun W hW j u hu => ?_⟩
          have h0 : xs.drop at' = [] := List.drop_eq_nil_of_le (by omega)
          rw [h0] at hu
          simp at hu
        · exact ⟨⟨g1, at', none⟩, by simp [hce], fun W hW => news_drop at' ((hW.block g1 HG.out).trans HO.out) hcap4⟩
      have FIN : Hid (∀ (v : Value) (W : World), W.ownsRow w4.heap.size 37 1 v (0 + at' + 1 + (xs.length - at')) ([] ++ (xs.take at').map fl ++ [nanb].map fl ++ (xs.drop at').map fl) →
          Calls Try.prog 15 #[v] W fun e w' => ∃ z, e = .returned (.float .f64 z) ∧ cls z = meanW xs ∧ Below W.heap.size W w') := by
        intro v W ho
        have e : [] ++ (xs.take at').map fl ++ [nanb].map fl ++ (xs.drop at').map fl = (xs.take at' ++ [nanb] ++ xs.drop at').map fl := by simp
        rw [e] at ho
        have h := imean_any v _ (xs.take at' ++ [nanb] ++ xs.drop at') W (Row.of_owns ho) (by omega)
        rw [mean_put xs at' nanb HN.out (by omega)] at h
        exact h
      go_region_law (first
        | ((refine step_app (by rfl) (.tmp 43) (.tmp 46) (by rfl) w4 (by first | ((repeat (first | assumption | with_reducible exact Below.refl _ _ | with_reducible apply st_drew | with_reducible apply st_alloc)); done) | fail) (.slice (some ⟨w4.heap.size, 0, none⟩) 0 0) 0 [] (by first | ((simp [Act.eval, Act.put]); done) | fail) (own_empty _ (by omega) (by first | ((repeat (first | exact blk_new _ _ _ (by first | ((simp); done) | fail) | with_reducible apply blk_drew | with_reducible apply blk_alloc)); done) | fail)) ⟨g1, 0, none⟩ at' cap1 (xs.take at') (by first | ((simp [Act.eval, Act.put]); done) | fail) T1.out (N1.out _ (by first | ((repeat (first | assumption | with_reducible exact Below.refl _ _ | with_reducible apply st_drew | with_reducible apply st_alloc)); done) | fail)) (by omega) ?_; intro v1 wa ho1 hb1 hg1'))
        | ((refine step_app (by rfl) (.tmp 43) (.tmp 46) (by rfl) w4 (by first | ((repeat (first | assumption | with_reducible exact Below.refl _ _ | with_reducible apply st_drew | with_reducible apply st_alloc)); done) | fail) (.slice (some ⟨w4.heap.size + 1, 0, none⟩) 0 0) 0 [] (by first | ((simp [Act.eval, Act.put]); done) | fail) (own_empty _ (by omega) (by first | ((repeat (first | exact blk_new _ _ _ (by first | ((simp); done) | fail) | with_reducible apply blk_drew | with_reducible apply blk_alloc)); done) | fail)) ⟨g1, 0, none⟩ at' cap1 (xs.take at') (by first | ((simp [Act.eval, Act.put]); done) | fail) T1.out (N1.out _ (by first | ((repeat (first | assumption | with_reducible exact Below.refl _ _ | with_reducible apply st_drew | with_reducible apply st_alloc)); done) | fail)) (by omega) ?_; intro v1 wa ho1 hb1 hg1'))
        | ((refine step_app (by rfl) (.tmp 47) (.tmp 49) (by rfl) w4 (by first | ((repeat (first | assumption | with_reducible exact Below.refl _ _ | with_reducible apply st_drew | with_reducible apply st_alloc)); done) | fail) v1 (0 + at') ([] ++ (xs.take at').map fl) (by first | ((simp [Act.eval, Act.put]); done) | fail) (by first | ((repeat (first | assumption | with_reducible apply own_drew | with_reducible apply owns_alloc)); done) | fail) ⟨wa.heap.size, 0, none⟩ 1 1 [nanb] (by first | ((simp [Act.eval, Act.put]); done) | fail) (by rfl) (World.news_of_block (cs := #[.float .f64 nanb]) (t := 37) (by first | ((repeat (first | exact blk_new _ _ _ (by first | ((simp); done) | fail) | with_reducible apply blk_drew | with_reducible apply blk_alloc)); done) | fail)) (by omega) ?_; intro v2 wb ho2 hb2 hg2'))
        | ((refine step_app (by rfl) (.tmp 47) (.tmp 49) (by rfl) w4 (by first | ((repeat (first | assumption | with_reducible exact Below.refl _ _ | with_reducible apply st_drew | with_reducible apply st_alloc)); done) | fail) v1 (0 + at') ([] ++ (xs.take at').map fl) (by first | ((simp [Act.eval, Act.put]); done) | fail) (by first | ((repeat (first | assumption | with_reducible apply own_drew | with_reducible apply owns_alloc)); done) | fail) ⟨w4.heap.size, 0, none⟩ 1 1 [nanb] (by first | ((simp [Act.eval, Act.put]); done) | fail) (by rfl) (World.news_of_block (cs := #[.float .f64 nanb]) (t := 37) (by first | ((repeat (first | exact blk_grown hg1' (by first | ((repeat (first | exact blk_new _ _ _ (by first | ((simp); done) | fail) | with_reducible apply blk_drew | with_reducible apply blk_alloc)); done) | fail) (by omega) | with_reducible apply blk_drew)); done) | fail)) (by omega) ?_; intro v2 wb ho2 hb2 hg2'))
        | ((refine step_app (by rfl) (.tmp 47) (.tmp 49) (by rfl) w4 (by first | ((repeat (first | assumption | with_reducible exact Below.refl _ _ | with_reducible apply st_drew | with_reducible apply st_alloc)); done) | fail) v1 (0 + at') ([] ++ (xs.take at').map fl) (by first | ((simp [Act.eval, Act.put]); done) | fail) (by first | ((repeat (first | assumption | with_reducible apply own_drew | with_reducible apply owns_alloc)); done) | fail) ⟨w4.heap.size + 1, 0, none⟩ 1 1 [nanb] (by first | ((simp [Act.eval, Act.put]); done) | fail) (by rfl) (World.news_of_block (cs := #[.float .f64 nanb]) (t := 37) (by first | ((repeat (first | exact blk_grown hg1' (by first | ((repeat (first | exact blk_new _ _ _ (by first | ((simp); done) | fail) | with_reducible apply blk_drew | with_reducible apply blk_alloc)); done) | fail) (by omega) | with_reducible apply blk_drew)); done) | fail)) (by omega) ?_; intro v2 wb ho2 hb2 hg2'))
        | ((refine step_app (by rfl) (.tmp 50) (.tmp 53) (by rfl) w4 (by first | ((repeat (first | assumption | with_reducible exact Below.refl _ _ | with_reducible apply st_drew | with_reducible apply st_alloc)); done) | fail) v2 (0 + at' + 1) ([] ++ (xs.take at').map fl ++ [nanb].map fl) (by first | ((simp [Act.eval, Act.put]); done) | fail) (by first | ((repeat (first | assumption | with_reducible apply own_drew | with_reducible apply owns_alloc)); done) | fail) A (xs.length - at') (cap1 - at') (xs.drop at') (by first | ((simp [Act.eval, Act.put, hA]); done) | fail) T3.out (N3.out _ (by first | ((repeat (first | assumption | with_reducible exact Below.refl _ _ | with_reducible apply st_drew | with_reducible apply st_alloc)); done) | fail)) (by omega) ?_; intro v3 wc ho3 hb3 hg3'))
        | fail)
      all_goals go_wp2_with fail
      all_goals refine (FIN.out _ _ (by first | exact ho3 | exact own_drew ho3)).mono ?_
      all_goals rintro e w5 ⟨z, rfl, hz, hb5⟩
      all_goals have hb6 := onto (onto hb0 (by first | exact hb3 | exact st_drew hb3)) hb5
      all_goals rcases cls_eq (hz.trans HY.out.symm) with ⟨k1, k2⟩ | ⟨rfl, k1⟩
      all_goals first | (rw [h1] at k2; cases k2; done) | skip
      all_goals go_wp2_with fail
      all_goals go_ret
      all_goals exact ⟨rfl, hb6⟩
end Go.Proofs.Ytiopmlepdjiapaa
