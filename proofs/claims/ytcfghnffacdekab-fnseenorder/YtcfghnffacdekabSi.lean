/-
  SeenOrder, the specification's.
-/
import Derived.Test.YtcfghnffacdekabSh
import Derived.Deep.CutBlock
namespace Go.Proofs.Ytcfghnffacdekab
open Go.RowKit Va Vh
set_option linter.unusedVariables false

theorem own_below2 {w w' : World} {b e s n : Nat} {v : Value} {xs : List Value} (h : w.ownsRow b e s v n xs) (hb : Below w.heap.size w w') : w'.ownsRow b e s v n xs := by
  obtain ⟨q, ⟨q1, q2⟩ | ⟨g1, c, cur, q1, hg1, hh, r⟩⟩ := h
  · exact ⟨q, Or.inl ⟨q1, q2⟩⟩
  · exact ⟨q, Or.inr ⟨g1, c, cur, q1, hg1, (hb.block g1 (Array.getElem?_eq_some_iff.1 hh).1).trans hh, r⟩⟩
theorem own_sliceG {w : World} {b e s n : Nat} {v : Value} {xs : List Value} (h : w.ownsRow b e s v (n + 1) xs) : ∃ G c, v = .slice (some ⟨G, 0, none⟩) (n + 1) c := by
  obtain ⟨_, ⟨_, q2⟩ | ⟨g1, cap, cur, rfl, _⟩⟩ := h
  · omega
  · exact ⟨_, _, rfl⟩
theorem own_at {w : World} {b e n G c : Nat} {l : List Int} (h : w.ownsRow b e 1 (.slice (some ⟨G, 0, none⟩) n c) n (l.map fun z => Value.int .i64 z)) {j : Nat} (hj : j < l.length) (hl : l.length = n) : w.cell? ⟨G, j, none⟩ = some (.int .i64 (Vh.g l j)) ∧ w.frozen? ⟨G, j, none⟩ = false := by
  refine ⟨?_, h.frozenAt j⟩
  rw [h.cellAt j (by omega), List.getElem?_map, g_get hj]
  rfl
theorem ext_g {l m : List Int} (hl : l.length = m.length) (h : ∀ j, j < l.length → g l j = g m j) : l = m := by
  apply List.ext_getElem?
  intro j
  by_cases hj : j < l.length
  · rw [g_get hj, g_get (by omega), h j hj]
  · rw [List.getElem?_eq_none (by omega), List.getElem?_eq_none (by omega)]
theorem ins_len (l : List Int) (k : Nat) (x : Int) (hk : k ≤ l.length) : (insAt l k x).length = l.length + 1 := by
  unfold insAt
  rw [List.length_append, List.length_take, List.length_cons, List.length_drop]
  omega
theorem g_ins (l : List Int) (k : Nat) (x : Int) (hk : k ≤ l.length) (j : Nat) : g (insAt l k x) j = if j < k then g l j else if j = k then x else g l (j - 1) := by
  have ht : (l.take k).length = k := by rw [List.length_take]; omega
  unfold insAt g
  simp only [List.getD_eq_getElem?_getD]
  by_cases h1 : j < k
  · rw [if_pos h1, List.getElem?_append_left (by omega), List.getElem?_take, if_pos h1]
  · rw [if_neg h1, List.getElem?_append_right (by omega), ht]
    by_cases h2 : j = k
    · subst h2; simp
    · rw [if_neg h2]
      obtain ⟨d, rfl⟩ : ∃ d, j = k + d + 1 := ⟨j - k - 1, by omega⟩
      rw [show k + d + 1 - k = d + 1 by omega, List.getElem?_cons_succ, List.getElem?_drop, show k + d + 1 - 1 = k + d by omega]
/-- Items shifted up behind place k. -/
structure Shf (out : List Int) (k : Nat) (lk : List Int) : Prop where
  len : lk.length = out.length + 1
  lo : ∀ j, j < k → g lk j = g out j
  hi : ∀ j, k < j → j ≤ out.length → g lk j = g out (j - 1)
theorem Shf.start (out : List Int) : Shf out out.length (out ++ [0]) := by
  refine ⟨by simp, fun j hj => ?_, fun j h1 h2 => by omega⟩
  unfold g
  rw [List.getD_eq_getElem?_getD, List.getD_eq_getElem?_getD, List.getElem?_append_left hj]
theorem Shf.step {out lk : List Int} {k : Nat} (h : Shf out k lk) (hk : 0 < k) (hk2 : k ≤ out.length) : Shf out (k - 1) (lk.set k (g lk (k - 1))) := by
  have hl := h.len
  refine ⟨by simpa using hl, fun j hj => ?_, fun j h1 h2 => ?_⟩
  · rw [g_set, if_neg (by omega)]; exact h.lo j (by omega)
  · rw [g_set]
    by_cases e : k = j
    · rw [if_pos ⟨e, by omega⟩, h.lo (k - 1) (by omega), e]
    · rw [if_neg (fun z => e z.1)]; exact h.hi j (by omega) h2
theorem Shf.last {out lk : List Int} {k : Nat} (h : Shf out k lk) (hk : k ≤ out.length) (x : Int) : lk.set k x = insAt out k x := by
  have hl := h.len
  apply ext_g
  · rw [List.length_set, hl, ins_len _ _ _ hk]
  · intro j hj
    rw [List.length_set] at hj
    rw [g_set, g_ins _ _ _ hk]
    by_cases e : k = j
    · subst e
      rw [if_pos ⟨rfl, by omega⟩, if_neg (by omega), if_pos rfl]
    · rw [if_neg (fun z => e z.1)]
      by_cases h1 : j < k
      · rw [if_pos h1]; exact h.lo j h1
      · rw [if_neg h1, if_neg (fun z => e z.symm)]; exact h.hi j (by omega) (by omega)
theorem mem_ins_places {out : List Int} {i : Nat} (hp : out.Perm (places i)) {k : Nat} (hk : k < out.length) : ∃ p : Nat, p < i ∧ g out k = (p : Int) := mem_places.1 (hp.mem_iff.1 (g_mem hk))
theorem ins_places {out : List Int} {i k : Nat} (hp : out.Perm (places i)) : (insAt out k (i : Int)).Perm (places (i + 1)) := by
  rw [places_succ]
  exact (ins_perm out k (i : Int)).trans ((hp.cons (i : Int)).trans (List.perm_append_singleton _ _).symm)

set_option maxRecDepth 20000 in
set_option maxHeartbeats 8000000 in
theorem sseen_any (ao : Option Addr) (n cq : Nat) (q : List Wt) (t : Int) (w : World) (h : Rw 3 csW w (.slice ao n cq) q) (hn : q.length ≤ 1048576) :
    Calls Try.prog 30 #[.slice ao n cq, .int .i64 t] w fun e w' => ∃ ad c L, e = .returned (.slice ad L.length c) ∧ w'.ownsRow w.heap.size 2 1 (.slice ad L.length c) L.length (L.map fun z => Value.int .i64 z) ∧ Told q t L ∧ Below w.heap.size w w' := by
  have hbA : Below w.heap.size w (w.alloc (.cells #[] 2)) := (Below.refl _ _).alloc (Nat.le_refl _) _
  have hQ := squeue_any ao n cq q _ (h.below hbA) hn
  have hT := stmq_any t
  have ow0 : (w.alloc (.cells #[] 2)).ownsRow w.heap.size 2 1 (.slice (some ⟨w.heap.size, 0, none⟩) 0 0) 0 [] := ⟨by simp, .inr ⟨w.heap.size, 0, #[], rfl, Nat.le_refl _, heap_alloc_new _ _, Nat.le_refl _, Nat.zero_le _, by simp, by simp⟩⟩
  cases hv : (qB q && tmv t) with
  | false =>
    have HT0 := hidden (show Told q t [] by unfold Told; rw [hv]; rfl)
    have OW := hidden ow0
    clear ow0
    generalize qB q = b1 at *
    generalize tmv t = b2 at *
    rcases b1 with _ | _
    · go_enter Try.func30, Try.ntmps30
      go_wp2_with (go_at_call 67; refine hQ.mono ?_; rintro e w1 ⟨rfl, hb1⟩)
      go_ret
      exact ⟨_, _, [], rfl, own_below2 OW.out hb1, HT0.out, onto hbA hb1⟩
    · have hb2 : b2 = false := by simpa using hv
      subst hb2
      go_enter Try.func30, Try.ntmps30
      go_wp2_with (first | (go_at_call 67; refine hQ.mono ?_; rintro e w1 ⟨rfl, hb1⟩) | (go_at_call 44; refine (hT _).mono ?_; rintro e w2 ⟨rfl, rfl⟩))
      go_ret
      exact ⟨_, _, [], rfl, own_below2 OW.out hb1, HT0.out, onto hbA hb1⟩
  | true =>
    have hv2 := hv
    rw [Bool.and_eq_true] at hv2
    obtain ⟨hq0, ht0⟩ := hv2
    have hok := of_qB hq0
    have htt := tmv_iff.1 ht0
    have HTD := hidden (fun L (hL : IsSeen q t L) => show Told q t L by unfold Told; rw [hv]; exact hL)
    rw [hq0] at hQ
    rw [ht0] at hT
    have hlen := hok.1
    clear hv hq0 ht0
    obtain rfl := h.len
    have HH := hidden h
    have HOK := hidden hok
    have HTT := hidden htt
    have OW := hidden ow0
    have BA := hidden hbA
    obtain ⟨i0, hi0, hy0, hy1, hy2⟩ := info_parts infoI64
    clear h hok ow0 hbA
    go_enter Try.func30, Try.ntmps30
    go_wp2_with (first | (go_at_call 67; refine hQ.mono ?_; rintro e w1 ⟨rfl, hb1⟩) | (go_at_call 44; refine (hT _).mono ?_; rintro e w2 ⟨rfl, rfl⟩))
    have OW1 := hidden (own_below2 OW.out hb1)
    have BE1 := hidden (onto BA.out hb1)
    clear hb1 hQ hT OW BA
    go_loopw [5, 6, 7, 8, 9, 10, 11] (fun ov iv _ _ _ _ _ wr => ∃ (i : Nat) (out : List Int) (G c : Nat), i ≤ q.length ∧ iv = .int .i64 i ∧ ov = .slice (some ⟨G, 0, none⟩) out.length c ∧ Hid (wr.ownsRow w.heap.size 2 1 (.slice (some ⟨G, 0, none⟩) out.length c) out.length (out.map fun z => Value.int .i64 z)) ∧ Hid (out.Perm (places i)) ∧ Hid (Sorted (bfW q t) out) ∧ Below w.heap.size w wr) (fun _ iv _ _ _ _ _ _ => q.length - (intOf iv).toNat)
    case atStart => exact ⟨0, [], _, _, Nat.zero_le _, rfl, rfl, OW1.out, List.Perm.refl _, List.Pairwise.nil, BE1.out⟩
    case round =>
      clear OW1 BE1
      obtain ⟨i, out, G, c, hi, rfl, rfl, ho, hperm, hsort, hb⟩ := hrel
      by_cases hlt : i < q.length
      · have hlti : (i : Int) < (q.length : Int) := by omega
        obtain ⟨x, hx⟩ := some_of q i hlt
        obtain ⟨gq, off, rfl, hgq, -, -, -⟩ := wait_cells (HH.out.below hb) hx
        have hlo : out.length = i := by have := hperm.out.length_eq; simpa [places] using this
        have HLO := hidden hlo
        have HX := hidden hx
        have ox := (HOK.out.2 i x hlt hx).1
        have UX := hidden (fun W => snow_any x t ox HTT.out W)
        have bx := nowU_bd (t := t) ox
        have ol2 : out.length ≤ 200 := by omega
        clear hx hlo
        unfold aW at UX
        obtain ⟨WR, hWR⟩ : ∃ z, z = wr := ⟨_, rfl⟩
        subst hWR
        go_upto_block 2 with fail
        go_cut [7] (fun av wx => ∃ k : Nat, k ≤ out.length ∧ av = .int .i64 k ∧ Hid (0 < k → bfW q t (i : Int) (g out (k - 1)) = false) ∧ Hid (∀ j, k ≤ j → j < out.length → bfW q t (g out j) (i : Int) = false) ∧ Below WR.heap.size WR wx)
        case first =>
          go_wp2_with fail
          go_loopw [7, 8, 9, 10] (fun av _ _ _ wk => ∃ k : Nat, k ≤ out.length ∧ av = .int .i64 k ∧ Hid (∀ j, k ≤ j → j < out.length → bfW q t (g out j) (i : Int) = false) ∧ Below WR.heap.size WR wk) (fun av _ _ _ _ => (intOf av).toNat)
          case atStart => exact ⟨out.length, Nat.le_refl _, rfl, (fun j h1 h2 => by omega), Below.refl _ _⟩
          case round =>
            obtain ⟨k, hk, rfl, hj, hbk⟩ := hrel
            by_cases hk0 : 0 < k
            · have hk0i : (0 : Int) < (k : Int) := by omega
              obtain ⟨p, hp, ep0⟩ := mem_ins_places hperm.out (k := k - 1) (by omega)
              have ep := hidden ep0
              obtain ⟨y, hy⟩ := some_of q p (by omega)
              have oy := (HOK.out.2 p y (by omega) hy).1
              have UY := hidden (fun W => snow_any y t oy HTT.out W)
              have by' := nowU_bd (t := t) oy
              obtain ⟨x0, -⟩ := own_at (own_below2 ho.out hbk) (j := k - 1) (by omega) rfl
              rw [ep0] at x0
              obtain ⟨g1, o1, hgo, hgl, a0, a1, a2⟩ := wait_cells ((HH.out.below hb).below hbk) HX.out
              obtain ⟨rfl, rfl⟩ : gq = g1 ∧ off = o1 := by simpa using hgo
              obtain ⟨g1, o1, hgo2, -, d0, d1, d2⟩ := wait_cells ((HH.out.below hb).below hbk) hy
              obtain ⟨rfl, rfl⟩ : gq = g1 ∧ off = o1 := by simpa using hgo2
              have HTV := hidden (show bfW q t (p : Int) (i : Int) = (decide (nowU y t < nowU x t) || (decide (nowU y t = nowU x t) && (decide (y.since < x.since) || (decide (y.since = x.since) && decide (y.person < x.person))))) by unfold bfW; rw [wAt_nat hy, wAt_nat HX.out]; rfl)
              have ASY : bfW q t (p : Int) (i : Int) = true → bfW q t (i : Int) (g out (k - 1)) = false := fun z => by rw [ep.out]; exact (ord_W q t).asym _ _ z
              have i1 : ((k : Int) - 1).toNat = k - 1 := by omega
              have i2 : (0 : Int) ≤ (k : Int) - 1 := by omega
              have i3 : (k : Int) - 1 < (out.length : Int) := by omega
              have i4 : (p : Int) < (q.length : Int) := by omega
              have hgn : gq ≠ wr.heap.size := by omega
              unfold aW at UY
              clear hgo hgo2 hy ep0 oy
              generalize nowU x t = ux at *
              generalize nowU y t = uy at *
              rcases Int.lt_trichotomy uy ux with hu | hu | hu
              · have q1 : uy < ux := hu
                go_wp2_with (go_at_call 68; (with_reducible (first | refine (UX.out _).mono ?_ | refine (UY.out _).mono ?_)); rintro e w8 ⟨rfl, hb8⟩; have bs := onto (show Below wr.heap.size wr _ from by repeat (first | exact Below.refl _ _ | assumption | refine st_drew ?_ | refine st_drewN ?_ _ | refine Below.setCell ?_ (by first | omega | (simp; done) | (simp; omega)) _ | refine Below.alloc ?_ (by first | omega | (simp; done) | (simp; omega)) _)) hb8; have ka0 := (bs.cell (p := ⟨gq, off + i * 3, none⟩) hgl).trans a0; have ka1 := (bs.cell (p := ⟨gq, off + i * 3 + 1, none⟩) hgl).trans a1; have ka2 := (bs.cell (p := ⟨gq, off + i * 3 + 2, none⟩) hgl).trans a2; have zs := hb8.size; (try simp only [World.size_alloc] at zs); have kb0 : w8.cell? ⟨wr.heap.size, 0, none⟩ = some (.int .i64 y.person) := (hb8.cell (p := ⟨wr.heap.size, 0, none⟩) (by first | omega | (simp; done) | (simp; omega))).trans (by first | assumption | (simp; done)); have kb1 : w8.cell? ⟨wr.heap.size, 1, none⟩ = some (.int .i64 y.urg) := (hb8.cell (p := ⟨wr.heap.size, 1, none⟩) (by first | omega | (simp; done) | (simp; omega))).trans (by first | assumption | (simp; done)); have kb2 : w8.cell? ⟨wr.heap.size, 2, none⟩ = some (.int .i64 y.since) := (hb8.cell (p := ⟨wr.heap.size, 2, none⟩) (by first | omega | (simp; done) | (simp; omega))).trans (by first | assumption | (simp; done)))
                go_quiet (fail)
                go_wp2_with fail
                go_meet
                case rel => exact ⟨k, hk, rfl, (fun _ => ASY (by rw [HTV.out]; (try have z2 := H2.out); first | (simp only [Bool.or_eq_true, Bool.and_eq_true, decide_eq_true_eq]; omega) | (simp; omega))), hj.out, onto hbk (by first | exact bs | exact st_drew bs | exact st_drewN bs _)⟩
              · subst hu
                have q1 : decide (uy < uy) = false := by simp
                rcases Int.lt_trichotomy y.since x.since with h2 | h2 | h2
                · have q2 : y.since < x.since := h2
                  go_wp2_with (go_at_call 68; (with_reducible (first | refine (UX.out _).mono ?_ | refine (UY.out _).mono ?_)); rintro e w8 ⟨rfl, hb8⟩; have bs := onto (show Below wr.heap.size wr _ from by repeat (first | exact Below.refl _ _ | assumption | refine st_drew ?_ | refine st_drewN ?_ _ | refine Below.setCell ?_ (by first | omega | (simp; done) | (simp; omega)) _ | refine Below.alloc ?_ (by first | omega | (simp; done) | (simp; omega)) _)) hb8; have ka0 := (bs.cell (p := ⟨gq, off + i * 3, none⟩) hgl).trans a0; have ka1 := (bs.cell (p := ⟨gq, off + i * 3 + 1, none⟩) hgl).trans a1; have ka2 := (bs.cell (p := ⟨gq, off + i * 3 + 2, none⟩) hgl).trans a2; have zs := hb8.size; (try simp only [World.size_alloc] at zs); have kb0 : w8.cell? ⟨wr.heap.size, 0, none⟩ = some (.int .i64 y.person) := (hb8.cell (p := ⟨wr.heap.size, 0, none⟩) (by first | omega | (simp; done) | (simp; omega))).trans (by first | assumption | (simp; done)); have kb1 : w8.cell? ⟨wr.heap.size, 1, none⟩ = some (.int .i64 y.urg) := (hb8.cell (p := ⟨wr.heap.size, 1, none⟩) (by first | omega | (simp; done) | (simp; omega))).trans (by first | assumption | (simp; done)); have kb2 : w8.cell? ⟨wr.heap.size, 2, none⟩ = some (.int .i64 y.since) := (hb8.cell (p := ⟨wr.heap.size, 2, none⟩) (by first | omega | (simp; done) | (simp; omega))).trans (by first | assumption | (simp; done)))
                  go_quiet (fail)
                  go_wp2_with fail
                  go_meet
                  case rel => exact ⟨k, hk, rfl, (fun _ => ASY (by rw [HTV.out]; (try have z2 := H2.out); first | (simp only [Bool.or_eq_true, Bool.and_eq_true, decide_eq_true_eq]; omega) | (simp; omega))), hj.out, onto hbk (by first | exact bs | exact st_drew bs | exact st_drewN bs _)⟩
                · have q2 : decide (y.since < x.since) = false := by simp; omega
                  have q3 : (x.since == y.since) = true := by simp; omega
                  have H2 := hidden h2
                  clear h2
                  by_cases h3 : y.person < x.person
                  · have q4 : y.person < x.person := h3
                    go_wp2_with (go_at_call 68; (with_reducible (first | refine (UX.out _).mono ?_ | refine (UY.out _).mono ?_)); rintro e w8 ⟨rfl, hb8⟩; have bs := onto (show Below wr.heap.size wr _ from by repeat (first | exact Below.refl _ _ | assumption | refine st_drew ?_ | refine st_drewN ?_ _ | refine Below.setCell ?_ (by first | omega | (simp; done) | (simp; omega)) _ | refine Below.alloc ?_ (by first | omega | (simp; done) | (simp; omega)) _)) hb8; have ka0 := (bs.cell (p := ⟨gq, off + i * 3, none⟩) hgl).trans a0; have ka1 := (bs.cell (p := ⟨gq, off + i * 3 + 1, none⟩) hgl).trans a1; have ka2 := (bs.cell (p := ⟨gq, off + i * 3 + 2, none⟩) hgl).trans a2; have zs := hb8.size; (try simp only [World.size_alloc] at zs); have kb0 : w8.cell? ⟨wr.heap.size, 0, none⟩ = some (.int .i64 y.person) := (hb8.cell (p := ⟨wr.heap.size, 0, none⟩) (by first | omega | (simp; done) | (simp; omega))).trans (by first | assumption | (simp; done)); have kb1 : w8.cell? ⟨wr.heap.size, 1, none⟩ = some (.int .i64 y.urg) := (hb8.cell (p := ⟨wr.heap.size, 1, none⟩) (by first | omega | (simp; done) | (simp; omega))).trans (by first | assumption | (simp; done)); have kb2 : w8.cell? ⟨wr.heap.size, 2, none⟩ = some (.int .i64 y.since) := (hb8.cell (p := ⟨wr.heap.size, 2, none⟩) (by first | omega | (simp; done) | (simp; omega))).trans (by first | assumption | (simp; done)))
                    go_quiet (fail)
                    go_wp2_with fail
                    go_meet
                    case rel => exact ⟨k, hk, rfl, (fun _ => ASY (by rw [HTV.out]; (try have z2 := H2.out); first | (simp only [Bool.or_eq_true, Bool.and_eq_true, decide_eq_true_eq]; omega) | (simp; omega))), hj.out, onto hbk (by first | exact bs | exact st_drew bs | exact st_drewN bs _)⟩
                  · have q4 : decide (y.person < x.person) = false := by simp; omega
                    go_wp2_with (go_at_call 68; (with_reducible (first | refine (UX.out _).mono ?_ | refine (UY.out _).mono ?_)); rintro e w8 ⟨rfl, hb8⟩; have bs := onto (show Below wr.heap.size wr _ from by repeat (first | exact Below.refl _ _ | assumption | refine st_drew ?_ | refine st_drewN ?_ _ | refine Below.setCell ?_ (by first | omega | (simp; done) | (simp; omega)) _ | refine Below.alloc ?_ (by first | omega | (simp; done) | (simp; omega)) _)) hb8; have ka0 := (bs.cell (p := ⟨gq, off + i * 3, none⟩) hgl).trans a0; have ka1 := (bs.cell (p := ⟨gq, off + i * 3 + 1, none⟩) hgl).trans a1; have ka2 := (bs.cell (p := ⟨gq, off + i * 3 + 2, none⟩) hgl).trans a2; have zs := hb8.size; (try simp only [World.size_alloc] at zs); have kb0 : w8.cell? ⟨wr.heap.size, 0, none⟩ = some (.int .i64 y.person) := (hb8.cell (p := ⟨wr.heap.size, 0, none⟩) (by first | omega | (simp; done) | (simp; omega))).trans (by first | assumption | (simp; done)); have kb1 : w8.cell? ⟨wr.heap.size, 1, none⟩ = some (.int .i64 y.urg) := (hb8.cell (p := ⟨wr.heap.size, 1, none⟩) (by first | omega | (simp; done) | (simp; omega))).trans (by first | assumption | (simp; done)); have kb2 : w8.cell? ⟨wr.heap.size, 2, none⟩ = some (.int .i64 y.since) := (hb8.cell (p := ⟨wr.heap.size, 2, none⟩) (by first | omega | (simp; done) | (simp; omega))).trans (by first | assumption | (simp; done)))
                    go_quiet (fail)
                    go_wp2_with fail
                    go_roundw
                    case rel => exact ⟨k - 1, by omega, by congr 1; omega, (fun j h1 h2 => by
                      by_cases ej : j = k - 1
                      · rw [ej, ep.out]; rw [HTV.out, Bool.eq_false_iff]; (try have z2 := H2.out); first | (simp only [ne_eq, Bool.or_eq_true, Bool.and_eq_true, decide_eq_true_eq]; omega) | (simp; omega)
                      · exact hj.out j (by omega) h2), onto hbk (by first | exact bs | exact st_drew bs | exact st_drewN bs _)⟩
                    case measure => simp [intOf]; omega
                · have q2 : decide (y.since < x.since) = false := by simp; omega
                  have q3 : (x.since == y.since) = false := by simp; omega
                  go_wp2_with (go_at_call 68; (with_reducible (first | refine (UX.out _).mono ?_ | refine (UY.out _).mono ?_)); rintro e w8 ⟨rfl, hb8⟩; have bs := onto (show Below wr.heap.size wr _ from by repeat (first | exact Below.refl _ _ | assumption | refine st_drew ?_ | refine st_drewN ?_ _ | refine Below.setCell ?_ (by first | omega | (simp; done) | (simp; omega)) _ | refine Below.alloc ?_ (by first | omega | (simp; done) | (simp; omega)) _)) hb8; have ka0 := (bs.cell (p := ⟨gq, off + i * 3, none⟩) hgl).trans a0; have ka1 := (bs.cell (p := ⟨gq, off + i * 3 + 1, none⟩) hgl).trans a1; have ka2 := (bs.cell (p := ⟨gq, off + i * 3 + 2, none⟩) hgl).trans a2; have zs := hb8.size; (try simp only [World.size_alloc] at zs); have kb0 : w8.cell? ⟨wr.heap.size, 0, none⟩ = some (.int .i64 y.person) := (hb8.cell (p := ⟨wr.heap.size, 0, none⟩) (by first | omega | (simp; done) | (simp; omega))).trans (by first | assumption | (simp; done)); have kb1 : w8.cell? ⟨wr.heap.size, 1, none⟩ = some (.int .i64 y.urg) := (hb8.cell (p := ⟨wr.heap.size, 1, none⟩) (by first | omega | (simp; done) | (simp; omega))).trans (by first | assumption | (simp; done)); have kb2 : w8.cell? ⟨wr.heap.size, 2, none⟩ = some (.int .i64 y.since) := (hb8.cell (p := ⟨wr.heap.size, 2, none⟩) (by first | omega | (simp; done) | (simp; omega))).trans (by first | assumption | (simp; done)))
                  go_quiet (fail)
                  go_wp2_with fail
                  go_roundw
                  case rel => exact ⟨k - 1, by omega, by congr 1; omega, (fun j h1 h2 => by
                    by_cases ej : j = k - 1
                    · rw [ej, ep.out]; rw [HTV.out, Bool.eq_false_iff]; (try have z2 := H2.out); first | (simp only [ne_eq, Bool.or_eq_true, Bool.and_eq_true, decide_eq_true_eq]; omega) | (simp; omega)
                    · exact hj.out j (by omega) h2), onto hbk (by first | exact bs | exact st_drew bs | exact st_drewN bs _)⟩
                  case measure => simp [intOf]; omega
              · have q1 : decide (uy < ux) = false := by simp; omega
                have q2 : (ux == uy) = false := by simp; omega
                go_wp2_with (go_at_call 68; (with_reducible (first | refine (UX.out _).mono ?_ | refine (UY.out _).mono ?_)); rintro e w8 ⟨rfl, hb8⟩; have bs := onto (show Below wr.heap.size wr _ from by repeat (first | exact Below.refl _ _ | assumption | refine st_drew ?_ | refine st_drewN ?_ _ | refine Below.setCell ?_ (by first | omega | (simp; done) | (simp; omega)) _ | refine Below.alloc ?_ (by first | omega | (simp; done) | (simp; omega)) _)) hb8; have ka0 := (bs.cell (p := ⟨gq, off + i * 3, none⟩) hgl).trans a0; have ka1 := (bs.cell (p := ⟨gq, off + i * 3 + 1, none⟩) hgl).trans a1; have ka2 := (bs.cell (p := ⟨gq, off + i * 3 + 2, none⟩) hgl).trans a2; have zs := hb8.size; (try simp only [World.size_alloc] at zs); have kb0 : w8.cell? ⟨wr.heap.size, 0, none⟩ = some (.int .i64 y.person) := (hb8.cell (p := ⟨wr.heap.size, 0, none⟩) (by first | omega | (simp; done) | (simp; omega))).trans (by first | assumption | (simp; done)); have kb1 : w8.cell? ⟨wr.heap.size, 1, none⟩ = some (.int .i64 y.urg) := (hb8.cell (p := ⟨wr.heap.size, 1, none⟩) (by first | omega | (simp; done) | (simp; omega))).trans (by first | assumption | (simp; done)); have kb2 : w8.cell? ⟨wr.heap.size, 2, none⟩ = some (.int .i64 y.since) := (hb8.cell (p := ⟨wr.heap.size, 2, none⟩) (by first | omega | (simp; done) | (simp; omega))).trans (by first | assumption | (simp; done)))
                go_quiet (fail)
                go_wp2_with fail
                go_roundw
                case rel => exact ⟨k - 1, by omega, by congr 1; omega, (fun j h1 h2 => by
                  by_cases ej : j = k - 1
                  · rw [ej, ep.out]; rw [HTV.out, Bool.eq_false_iff]; (try have z2 := H2.out); first | (simp only [ne_eq, Bool.or_eq_true, Bool.and_eq_true, decide_eq_true_eq]; omega) | (simp; omega)
                  · exact hj.out j (by omega) h2), onto hbk (by first | exact bs | exact st_drew bs | exact st_drewN bs _)⟩
                case measure => simp [intOf]; omega
            · have hk0i : ¬ (0 : Int) < (k : Int) := by omega
              have hk00 : k = 0 := by omega
              subst hk00
              go_wp2_with fail
              go_meet
              case rel => exact ⟨0, Nat.zero_le _, rfl, (fun z => absurd z (Nat.lt_irrefl 0)), hj.out, hbk⟩
        case rest =>
          obtain ⟨k, hk, rfl, hA, hB, hbx⟩ := hcut
          have ho2 := hidden ((own_below2 ho.out hbx).alloc (.cells #[.int .i64 0] 2))
          have hob := hidden (own_base_le ho.out)
          have bel2 := hb.trans (hbx.mono hb.size)
          have z2 := bel2.size
          clear hbx ho UX
          go_wp2_with (at_builtin; refine wpList_append_own _ rfl (.tmp 89) (.tmp 90) 40 rfl w.heap.size 2 i0 (.int .i64 0) 1 8 Try.underlying40 hi0 hy0 hy1 hy2 rfl (by decide) _ out.length (out.map fun z => Value.int .i64 z) rfl ho2.out ⟨wc.heap.size, 0, none⟩ 1 1 [.int .i64 0] rfl rfl (cell_oneS _ _ _) (by simp [Value.oneCell']) (by unfold maxLen; omega) (by omega) (by simp; omega) ?_; intro v5 w5 ho5 hg5 hn5; obtain ⟨G5, c5, rfl⟩ := own_sliceG ho5)
          have bel5 : Below w.heap.size w w5 := (bel2.alloc z2 _).grown hg5 (by simp; omega) (fun k hk => hob.out k hk)
          have ho6 := hidden (show w5.ownsRow w.heap.size 2 1 (.slice (some ⟨G5, 0, none⟩) (out.length + 1) c5) (out.length + 1) ((out ++ [(0 : Int)]).map fun z => Value.int .i64 z) by simpa using ho5)
          have hGw : w.heap.size ≤ G5 := own_base_le ho5 G5 rfl
          clear ho5 hg5 hn5 ho2
          go_wp2_with fail
          go_loopw [11] (fun jv w6 => ∃ (j : Nat) (lk : List Int), k ≤ j ∧ j ≤ out.length ∧ jv = .int .i64 j ∧ Hid (Shf out j lk) ∧ Hid (w6.ownsRow w.heap.size 2 1 (.slice (some ⟨G5, 0, none⟩) (out.length + 1) c5) (out.length + 1) (lk.map fun z => Value.int .i64 z)) ∧ Below w.heap.size w w6) (fun jv _ => (intOf jv).toNat)
          case atStart => exact ⟨out.length, out ++ [(0 : Int)], hk, Nat.le_refl _, by first | rfl | (congr 1; omega) | (simp; done) | (simp; omega), Shf.start out, ho6.out, bel5⟩
          case round =>
            clear ho6 bel5
            obtain ⟨j, lk, hkj, hjo, rfl, hsh, how, belj⟩ := hrel
            have hll := hsh.out.len
            have HLK := hidden hll
            by_cases hjk : k < j
            · have hjki : (k : Int) < (j : Int) := by omega
              obtain ⟨x0, -⟩ := own_at how.out (j := j - 1) (by omega) hll
              obtain ⟨y0, y1⟩ := own_at how.out (j := j) (by omega) hll
              have HST := hidden (how.out.stored j (.int .i64 (g lk (j - 1)))).1
              have HSH := hidden (hsh.out.step (by omega) hjo)
              have i1 : ((j : Int) - 1).toNat = j - 1 := by omega
              have i2 : (0 : Int) ≤ (j : Int) - 1 := by omega
              have i3 : (j : Int) - 1 < ((out.length + 1 : Nat) : Int) := by omega
              have i4 : (j : Int) < ((out.length + 1 : Nat) : Int) := by omega
              have belk := belj.setCell (p := ⟨G5, j, none⟩) hGw (.int .i64 (g lk (j - 1)))
              clear hsh how hll
              generalize g lk (j - 1) = vv at *
              go_wp2_with fail
              go_roundw
              case rel => exact ⟨j - 1, lk.set j vv, by omega, by omega, by congr 1; omega, HSH.out, (by have := HST.out; rw [← List.map_set] at this; exact this), belk⟩
              case measure => simp [intOf]; omega
            · have hjki : ¬ (k : Int) < (j : Int) := by omega
              have hjk2 : j = k := by omega
              subst hjk2
              obtain ⟨y0, y1⟩ := own_at how.out (j := j) (by omega) hll
              have HIN := hidden (hsh.out.last hjo (i : Int))
              have HST := hidden (show (wr.setCell ⟨G5, j, none⟩ (.int .i64 i)).ownsRow w.heap.size 2 1 (.slice (some ⟨G5, 0, none⟩) (insAt out j (i : Int)).length c5) (insAt out j (i : Int)).length ((insAt out j (i : Int)).map fun z => Value.int .i64 z) by
                rw [← HIN.out, List.length_set, HLK.out, List.map_set]
                exact (how.out.stored j (.int .i64 i)).1)
              have i4 : (j : Int) < ((out.length + 1 : Nat) : Int) := by omega
              have belk := belj.setCell (p := ⟨G5, j, none⟩) hGw (.int .i64 (i : Int))
              have HSO := hidden (ins_sorted (ord_W q t) hsort.out hjo hA.out hB.out)
              have HPE := hidden (ins_places (k := j) hperm.out)
              have HIL := hidden (ins_len out j (i : Int) hjo)
              clear hsh how hll
              go_wp2_with fail
              go_roundw
              case rel => exact ⟨i + 1, insAt out j (i : Int), G5, c5, by omega, rfl, by rw [HIL.out], HST.out, HPE.out, HSO.out, belk⟩
              case measure => simp [intOf]; omega
      · have hlti : ¬ (i : Int) < (q.length : Int) := by omega
        have hil : i = q.length := by omega
        subst hil
        go_wp2_with fail
        go_ret
        exact ⟨_, _, out, rfl, ho.out, HTD.out out ⟨hperm.out, hsort.out⟩, hb⟩
end Go.Proofs.Ytcfghnffacdekab
