/-
  Merged: Q24.
-/
import Derived.Test.YtgcpiinmcbdkmaaMh21
namespace Go.Proofs.Ytgcpiinmcbdkmaa
open Go.RowKit Va Bl
set_option linter.all false
def givB (p : Int) (u : Ut) : Bool := decide (u.st = 3) && decide (u.fr = p)
theorem filt_snoc {l : List Ut} {i : Nat} {x : Ut} {f : Ut → Bool} (h : l[i]? = some x) : (l.take (i + 1)).filter f = (l.take i).filter f ++ (if f x = true then [x] else []) := by
  rw [take_snocU h, List.filter_append]
  congr 1
  by_cases q : f x = true
  · rw [if_pos q]; simp only [List.filter_cons, q, if_true, List.filter_nil]
  · rw [if_neg q]; simp only [Bool.not_eq_true] at q; simp only [List.filter_cons, q]; rfl
theorem bank_len {l : List Ut} (h : bankB l = true) : l.length ≤ 300 := by
  unfold bankB at h
  simp only [Bool.and_eq_true, decide_eq_true_eq] at h
  exact h.1
theorem infoUq : (Try.prog.info? 81).map (fun i => (i.zero, i.size, i.bytes)) = some (some (.agg #[.int .i64 0, .int .i64 0, .slice none 0 0, .int .i64 0, .int .i64 0, .int .i64 0]), 6, 64) := by kernel_rfl
set_option maxRecDepth 20000 in
set_option maxHeartbeats 8000000 in
theorem itrace_any (ao : Option Addr) (n cap : Nat) (l : List Ut) (p : Int) (w : World) (h : URw w (.slice ao n cap) l) (hn : l.length ≤ 1048576) (ht : ∀ x ∈ l, x.ant.length ≤ 1048576) :
    Calls Try.prog 15 #[.slice ao n cap, .int .i64 p] w fun e w' => ∃ ad c, e = .returned (.slice ad (trace l p).length c) ∧ w'.ownsRow w.heap.size 2 1 (.slice ad (trace l p).length c) (trace l p).length (intsV (trace l p)) ∧ Below w.heap.size w w' := by
  obtain rfl := h.len
  have hK := ibank_any ao l.length cap l w h hn ht
  have HH := hidden h
  have HT := hidden ht
  clear h ht
  obtain ⟨j0, hj0, hy0, hy1, hy2⟩ := info_partsW infoUq
  cases hB : bankB l with
  | false =>
    rw [hB] at hK
    have HE : Hid (trace l p = []) := by rw [Hid, trace, if_neg (by rw [hB]; simp)]
    clear hB
    go_enter Try.func15, Try.ntmps15
    go_wp2_with (go_at_call 41; refine hK.mono ?_; rintro e w1 ⟨rfl, hb1⟩; have z1 := hb1.size; have O1 := hidden (ownW_new w1 2 1))
    go_ret
    exact ⟨_, _, by rw [HE.out]; rfl, by rw [HE.out]; exact ownW_base O1.out z1, by repeat (first | exact Below.refl _ _ | assumption | refine st_drew ?_ | refine st_drewN ?_ _ | refine Below.setCell ?_ (by first | omega | (simp; done) | (simp; omega)) _ | refine Below.alloc ?_ (by first | omega | (simp; done) | (simp; omega)) _)⟩
  | true =>
    rw [hB] at hK
    have hl3 := bank_len hB
    have HE : Hid (trace l p = traceL l p) := by rw [Hid, trace, if_pos hB]
    have hJ := fun W hW => bankof_any ao l.length cap l W hW hl3 HT.out
    clear hB
    go_enter Try.func15, Try.ntmps15
    go_wp2_with (first | (go_at_call 41; refine hK.mono ?_; rintro e w1 ⟨rfl, hb1⟩; have z1 := hb1.size; have O1 := hidden (ownW_base (ownW_new w1 81 6) z1)) | (go_at_call 44; refine (hJ _ (HH.out.below (by repeat (first | exact Below.refl _ _ | assumption | refine st_drew ?_ | refine st_drewN ?_ _ | refine Below.setCell ?_ (by first | omega | (simp; done) | (simp; omega)) _ | refine Below.alloc ?_ (by first | omega | (simp; done) | (simp; omega)) _)))).mono ?_; rintro e w2 ⟨L, ab, cb, rfl, hLl, hob, hA, hb2⟩; have bA := onto (show Below w.heap.size w _ from by repeat (first | exact Below.refl _ _ | assumption | refine st_drew ?_ | refine st_drewN ?_ _ | refine Below.setCell ?_ (by first | omega | (simp; done) | (simp; omega)) _ | refine Below.alloc ?_ (by first | omega | (simp; done) | (simp; omega)) _)) hb2; have O2 := hidden (ownW_below O1.out hb2); have OB2 := hidden (ownW_base hob (show w.heap.size ≤ _ by simp; omega)); have A2 := hidden hA; have LL := hidden hLl; clear hb2 hob hA hLl))
    have HLn : Hid (L.length = l.length) := by rw [Hid, ← LL.out, List.length_map]
    go_loopw [5, 7, 16] (fun sv _ iv wr => ∃ i : Nat, i ≤ l.length ∧ iv = .int .i64 i ∧ (∃ (M : List (Ut × Value)) (ad : Option Addr) (c : Nat), sv = .slice ad M.length c ∧ wr.ownsRow w.heap.size 81 6 (.slice ad M.length c) M.length (cellsU M) ∧ Hid (M.map Prod.fst = (l.take i).filter (givB p)) ∧ M.length ≤ i ∧ Hid (∀ q ∈ M, ∃ a n c, q.2 = .slice a n c)) ∧ wr.ownsRow w.heap.size 78 1 (.slice ab L.length cb) L.length (L.map aI) ∧ Below w.heap.size w wr) (fun _ _ iv _ => l.length - (intOf iv).toNat)
    case atStart => exact ⟨0, Nat.zero_le _, rfl, ⟨[], _, _, rfl, O2.out, rfl, Nat.le_refl _, fun q hq => by cases hq⟩, OB2.out, bA⟩
    case round =>
      clear O1 O2 OB2 bA hb1 z1
      obtain ⟨i, hi, rfl, ⟨M, ad, c, rfl, ho, HM, hMl, HMs⟩, hob, hb⟩ := hrel
      have HO := hidden ho
      have OB := hidden hob
      have hsz := hb.size
      clear ho hob
      by_cases hlt : i < l.length
      · have hlti : (i : Int) < (L.length : Int) := by have := HLn.out; omega
        obtain ⟨x, hx⟩ := some_of l i hlt
        obtain ⟨q, hq, hqx⟩ := map_take LL.out hx
        obtain ⟨aq, cq, hq2⟩ := ownW_slice (A2.out.1 q (List.mem_of_getElem? hq))
        obtain ⟨x', tv'⟩ := q
        dsimp only at hqx hq2
        subst hqx
        subst hq2
        obtain ⟨g, c9, he, -, hg, -, u0⟩ := own_at OB.out hq
        simp only [Value.slice.injEq, true_and] at he
        obtain ⟨rfl, rfl⟩ := he
        have HN := hidden (filt_snoc (f := givB p) hx)
        have k1 := fun W => iwas_any (x', .slice aq x'.ant.length cq) p W
        have k2 := fun W => told_any x' aq x'.ant.length cq W
        have hm := fun a b c d e s W => m_told x'.st a b c d e s W
        unfold aI aU at u0 k1
        unfold aU at k2
        dsimp only at u0 k1
        clear hx hq
        change ∀ W, Calls Try.prog 57 _ W fun e w' => e = .returned (.bool (givB p x')) ∧ Below W.heap.size W w' at k1
        cases hG : givB p x' with
        | true =>
          rw [hG] at k1 HN
          have HZ : Hid ((M ++ [(x', Value.slice aq x'.ant.length cq)]).map Prod.fst = (l.take (i + 1)).filter (givB p)) := by rw [Hid, HN.out, List.map_append, HM.out]; rfl
          have HS : Hid (∀ q ∈ M ++ [(x', Value.slice aq x'.ant.length cq)], ∃ a n c, q.2 = .slice a n c) := fun q hq => by
            rcases List.mem_append.1 hq with q1 | q1
            · exact HMs.out q q1
            · rw [List.mem_singleton.1 q1]; exact ⟨_, _, _, rfl⟩
          clear hG
          go_wp2_with (first | (go_at_call 57; refine (k1 _).mono ?_; rintro e w3 ⟨rfl, hb3⟩; have bB := onto hb hb3; have O3 := hidden (ownW_below HO.out hb3); have OB3 := hidden (ownW_below OB.out hb3); have z3 := bB.size; clear hb3) | (go_at_call 195; refine (k2 _).mono ?_; rintro e w5 ⟨rfl, hb5⟩; have bC := onto bB hb5; have O5 := hidden (ownW_below O3.out hb5); have OB5 := hidden (ownW_below OB3.out hb5); have z5 := bC.size; clear hb5) | (at_builtin; refine wpList_append_own _ rfl (.tmp 23) (.tmp 26) 24 rfl w.heap.size 81 j0 (.agg #[.int .i64 0, .int .i64 0, .slice none 0 0, .int .i64 0, .int .i64 0, .int .i64 0]) 6 64 Try.underlying24 hj0 hy0 hy1 hy2 rfl (by decide) _ M.length (cellsU M) rfl (O5.out.alloc _) ⟨w5.heap.size, 0, none⟩ 1 1 (cells6 (x', Value.slice aq x'.ant.length cq)) rfl rfl (cell6U _ (x', Value.slice aq x'.ant.length cq) _) (oneU _ _ _ _) (by unfold maxLen; omega) (by omega) (by simp; omega) ?_; intro v4 w4 ho4 hg4 hnn4; have hO4 := hidden ho4; obtain ⟨ad4, c4, rfl⟩ := ownW_slice ho4))
          have b4 := grownQ (show Below w.heap.size w (w5.alloc (.cells #[.int .i64 x'.id, .int .i64 x'.grp, Value.slice aq x'.ant.length cq, .int .i64 x'.til, .int .i64 x'.st, .int .i64 x'.fr] 81)) from by repeat (first | exact Below.refl _ _ | assumption | refine st_drew ?_ | refine st_drewN ?_ _ | refine Below.setCell ?_ (by first | omega | (simp; done) | (simp; omega)) _ | refine Below.alloc ?_ (by first | omega | (simp; done) | (simp; omega)) _)) (by simp; omega) hg4 (fun k hk => (ownW_lt HO.out k hk).1)
          have OB6 := ownQ_grown (OB5.out.alloc (.cells #[.int .i64 x'.id, .int .i64 x'.grp, Value.slice aq x'.ant.length cq, .int .i64 x'.til, .int .i64 x'.st, .int .i64 x'.fr] 81)) hg4 (ownQ_apart OB5.out O5.out (by decide))
          go_roundw
          case rel => exact ⟨i + 1, by omega, rfl, ⟨M ++ [(x', .slice aq x'.ant.length cq)], ad4, c4, by rw [List.length_append]; rfl, by rw [cellsU_app, List.length_append]; exact hO4.out, HZ, by rw [List.length_append]; simp; omega, HS⟩, OB6, b4⟩
          case measure => simp [intOf]; omega
        | false =>
          rw [hG] at k1 HN
          have HZ : Hid (M.map Prod.fst = (l.take (i + 1)).filter (givB p)) := by rw [Hid, HN.out, HM.out]; simp
          clear hG
          go_wp2_with (go_at_call 57; refine (k1 _).mono ?_; rintro e w3 ⟨rfl, hb3⟩; have bB := onto hb hb3; have O3 := hidden (ownW_below HO.out hb3); have OB3 := hidden (ownW_below OB.out hb3); have z3 := bB.size; clear hb3)
          go_roundw
          case rel => exact ⟨i + 1, by omega, rfl, ⟨M, ad, c, rfl, O3.out, HZ, by omega, HMs⟩, OB3.out, bB⟩
          case measure => simp [intOf]; omega
      · have hlti : ¬ (i : Int) < (L.length : Int) := by have := HLn.out; omega
        have hil : i = l.length := by omega
        subst hil
        have HZ : Hid (trace l p = M.map fun p => p.1.id) := by
          rw [Hid, HE.out, traceL]
          have := HM.out
          rw [List.take_length] at this
          show (l.filter (givB p)).map Ut.id = _
          rw [← this, List.map_map]; rfl
        have hk := idsof_any (.slice ad M.length c) M w.heap.size wr HO.out HMs.out (by omega)
        go_wp2_with (go_at_call 48; refine hk.mono ?_; rintro e w3 ⟨a3, c3, rfl, ho3, hb3⟩)
        go_ret
        refine ⟨a3, c3, ?_, ?_, onto hb hb3⟩
        · rw [HZ.out, List.length_map]; rfl
        · rw [HZ.out, List.length_map]; exact ownW_base ho3 hsz
end Go.Proofs.Ytgcpiinmcbdkmaa
