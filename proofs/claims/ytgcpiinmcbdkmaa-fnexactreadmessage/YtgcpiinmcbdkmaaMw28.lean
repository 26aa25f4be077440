/-
  Merged: Rm17.
-/
import Derived.Test.YtgcpiinmcbdkmaaMw27
namespace Go.Proofs.Ytgcpiinmcbdkmaa
open Go.RowKit Va Ms
set_option linter.all false
theorem cellsP_get : ∀ (L : List (Pt × Value)) (i : Nat) (p : Pt × Value), L[i]? = some p → (cellsP L)[i * 2]? = some (.string p.1.n) ∧ (cellsP L)[i * 2 + 1]? = some p.2 := by
  intro L
  induction L with
  | nil => intro i p h; simp at h
  | cons q L ih =>
    intro i p h
    have e : cellsP (q :: L) = .string q.1.n :: q.2 :: cellsP L := rfl
    rw [e]
    cases i with
    | zero =>
      simp only [List.getElem?_cons_zero, Option.some.injEq] at h
      subst h
      exact ⟨rfl, rfl⟩
    | succ i =>
      rw [List.getElem?_cons_succ] at h
      rw [show (i + 1) * 2 = i * 2 + 1 + 1 by omega]
      simp only [List.getElem?_cons_succ]
      exact ih i p h
theorem prw_of {w : World} {B B' : Nat} {pv : Value} {L : List (Pt × Value)} (hp : w.ownsRow B 106 2 pv L.length (cellsP L)) (he : ∀ p ∈ L, w.ownsRow B' 9 1 p.2 p.1.fs.length (strV p.1.fs)) : PRw w pv (L.map Prod.fst) := by
  obtain ⟨_, ⟨rfl, hz⟩ | ⟨g, cap, cur, rfl, hb, hg, hc, hm, hs, ht⟩⟩ := hp
  · exact ⟨none, 0, by rw [List.length_map, hz], by rw [List.length_map, hz]; exact Nat.le_refl _, Or.inl (by rw [List.length_map, hz])⟩
  · refine ⟨some ⟨g, 0, none⟩, cap, by rw [List.length_map], by rw [List.length_map]; exact hc, Or.inr ⟨g, 0, rfl, (Array.getElem?_eq_some_iff.1 hg).1, fun i x hx => ?_⟩⟩
    rw [List.getElem?_map] at hx
    obtain ⟨p, hpi, rfl⟩ := Option.map_eq_some_iff.1 hx
    have hi := (List.getElem?_eq_some_iff.1 hpi).1
    obtain ⟨c0, c1⟩ := cellsP_get L i p hpi
    have key : ∀ k v, k < 2 → (cellsP L)[i * 2 + k]? = some v → w.cell? ⟨g, 0 + i * 2 + k, none⟩ = some v := fun k v hk hv => by
      rw [← ht, List.getElem?_take, if_pos (by omega), Array.getElem?_toList] at hv
      simp only [World.cell?, hg]
      rw [show (0 + i * 2 + k) = i * 2 + k by omega, hv]
      rfl
    refine ⟨p.2, ⟨?_, ?_⟩, own_vstr (he p (List.mem_of_getElem? hpi))⟩
    · exact key 0 _ (by omega) c0
    · exact key 1 _ (by omega) c1
theorem bf_bad {s : ByteArray} (h : (bf s).1 ≠ 0) : readO s = .bad (bf s).1 (bf s).2 := by
  unfold bf at *
  unfold readO
  by_cases h1 : 20000 < s.size
  · rw [if_pos h1, if_pos h1]
  · rw [if_neg h1] at h ⊢
    rw [if_neg h1]
    by_cases h2 : s.size = 0 ∨ nb s (s.size - 1) ≠ 13
    · rw [if_pos h2, if_pos h2]
    · rw [if_neg h2] at h ⊢
      rw [if_neg h2]
      cases hb : badByte s 0 with
      | some i => rfl
      | none => rw [hb] at h; exact absurd rfl h
theorem bf_ok {s : ByteArray} (h : (bf s).1 = 0) : s.size ≤ 20000 ∧ Ended s ∧ badByte s 0 = none := by
  unfold bf at h
  by_cases h1 : 20000 < s.size
  · rw [if_pos h1] at h; cases h
  · rw [if_neg h1] at h
    by_cases h2 : s.size = 0 ∨ nb s (s.size - 1) ≠ 13
    · rw [if_pos h2] at h; cases h
    · rw [if_neg h2] at h
      refine ⟨by omega, ⟨by omega, by omega⟩, ?_⟩
      cases hb : badByte s 0 with
      | some i => rw [hb] at h; cases h
      | none => rfl
theorem results_cell_cell {fn : Func} {p u : Tmp} {ty tu : TypeId} (h : fn.results = #[.cell p ty, .cell u tu]) (tmps : Array Value) (P : Program) (w : World) :
    (results fn tmps).run P w =
      ((asAddr (tmps.getD p undef)).run P w).andThen fun a w₁ => ((loadVar ty a).run P w₁).andThen fun v w₂ => ((asAddr (tmps.getD u undef)).run P w₂).andThen fun b w₃ => ((loadVar tu b).run P w₃).andThen fun v2 w₄ => .ok (.tuple #[v, v2]) w₄ := by
  simp only [results, h]
  simp [Sem.run_bind, Result.andThen]
theorem results_cc {P : Program} {fn : Func} {p u : Tmp} {ty tu : TypeId} (h : fn.results = #[.cell p ty, .cell u tu]) (tmps : Array Value) (w : World) (g k : Nat) (t t2 : TypeId) (cs ds : Array Value) (d d2 : TypeDesc)
    (hp : tmps.getD p undef = .pointer (some ⟨g, 0, none⟩)) (hg : PB w g cs t) (hu : P.underlying ty = some d) (hd : (match d with | .struct _ | .array _ _ => true | _ => false) = true) (hi : (P.info? ty).map (·.size) = some cs.size)
    (hp2 : tmps.getD u undef = .pointer (some ⟨k, 0, none⟩)) (hg2 : PB w k ds t2) (hu2 : P.underlying tu = some d2) (hd2 : (match d2 with | .struct _ | .array _ _ => true | _ => false) = true) (hi2 : (P.info? tu).map (·.size) = some ds.size) :
    (results fn tmps).run P w = .ok (.tuple #[.agg cs, .agg ds]) w := by
  have hl := run_loadVar_row (P := P) w g t ty cs _ d hg hu hd hi
  have hl2 := run_loadVar_row (P := P) w k t2 tu ds _ d2 hg2 hu2 hd2 hi2
  rw [results_cell_cell h, hp, hp2]
  simp [asAddr, hl, hl2, Result.andThen]
structure OwnP (w : World) (B : Nat) (mv : Value) (L : List (Pt × Value)) : Prop where
  parts : w.ownsRow B 106 2 mv L.length (cellsP L)
  each : ∀ p ∈ L, w.ownsRow B 9 1 p.2 p.1.fs.length (strV p.1.fs)
  dist : (L.map Prod.snd).Pairwise fun p q => ∀ k, p.ownBlock = some k → q.ownBlock ≠ some k
theorem OwnP.prw {w : World} {B : Nat} {mv : Value} {L : List (Pt × Value)} (h : OwnP w B mv L) : PRw w mv (L.map Prod.fst) := prw_of h.parts h.each
def RdOut (B : Nat) (w : World) (o : Ms.Out) (mv : Value) (c a : Nat) : Prop :=
  match o with
  | .bad c' a' => c = c' ∧ a = a' ∧ mv = .slice none 0 0
  | .ok l => c = 0 ∧ a = 0 ∧ ∃ L, L.map Prod.fst = l ∧ OwnP w B mv L
set_option maxRecDepth 20000 in
set_option maxHeartbeats 16000000 in
theorem iread_any (s : ByteArray) (hs : s.size ≤ 1048576) (w : World) : Calls Try.prog 31 #[.string s] w fun e w' => ∃ mv c a, e = .returned (.tuple #[.agg #[mv], .agg #[.int .i64 (c : Nat), .int .i64 (a : Nat)]]) ∧ RdOut w.heap.size w' (readO s) mv c a ∧ Below w.heap.size w w' := by
  have kb := fun W => ibytes_any s hs W
  by_cases hc : (bf s).1 = 0
  · have e0 : ((((bf s).1 : Nat) : Int) != 0) = false := by rw [hc]; rfl
    obtain ⟨hs2, hE, hbb⟩ := bf_ok hc
    clear hc
    generalize (bf s).1 = c at *
    generalize (bf s).2 = a at *
    go_enter Try.func31, Try.ntmps31
    have bW : Below w.heap.size w ((w.alloc (.cells #[.slice none 0 0] 56)).alloc (.cells #[.int .i64 0, .int .i64 0] 58)) := by repeat (first | exact Below.refl _ _ | assumption | refine st_drew ?_ | refine st_drewN ?_ _ | refine Below.setCell ?_ (by first | omega | (simp; done) | (simp; omega)) _ | refine Below.alloc ?_ (by first | omega | (simp; done) | (simp; omega)) _)
    have PA := (PB.new w #[.slice none 0 0] 56).alloc (.cells #[.int .i64 0, .int .i64 0] 58)
    have PF := PB.new (w.alloc (.cells #[.slice none 0 0] 56)) #[.int .i64 0, .int .i64 0] 58
    rw [World.size_alloc] at PF
    go_upto_region 1 with fail
    generalize ((w.alloc (.cells #[.slice none 0 0] 56)).alloc (.cells #[.int .i64 0, .int .i64 0] 58)) = W1 at *
    generalize hA : w.heap.size = A at *
    generalize hB : A + 1 = B at *
    have hAB := hidden (show A ≠ B by omega)
    have hAw := hidden (show w.heap.size ≤ A ∧ A ≤ B by omega)
    go_upto_region 2 with (go_at_call 69; refine (kb _).mono ?_; rintro e w1 ⟨rfl, hb1⟩)
    have PA2 := (PA.below hb1).alloc (.cells #[.int .i64 c, .int .i64 a] 58)
    have PF2 := (PF.below hb1).alloc (.cells #[.int .i64 c, .int .i64 a] 58)
    have PC := PB.new w1 #[.int .i64 c, .int .i64 a] 58
    have HB2 : Hid (Below A w (w1.alloc (.cells #[.int .i64 c, .int .i64 a] 58))) := by subst hA; exact (onto bW hb1).alloc (by have := bW.size; have := hb1.size; omega) (.cells #[.int .i64 c, .int .i64 a] 58)
    have hC := hidden (show A ≠ w1.heap.size ∧ B ≠ w1.heap.size by have := (PA.below hb1).lt; have := (PF.below hb1).lt; omega)
    clear hb1 bW PA PF
    generalize w1.alloc (.cells #[.int .i64 c, .int .i64 a] 58) = w2 at *
    generalize w1.heap.size = C at *
    have p0 := PA2.cell 0
    have f0 := PA2.frozen 0
    obtain ⟨q0, q1⟩ := PF2.two
    have g0 := PF2.frozen 0
    have g1 := PF2.frozen 1
    obtain ⟨r0, r1⟩ := PC.two
    obtain ⟨n1, n2⟩ := hC.out
    have n3 := hAB.out
    have n4 := n1.symm
    have n5 := n2.symm
    have n6 := n3.symm
    have HPA := hidden PA2
    have HPF := hidden PF2
    clear PA2 PF2 PC
    go_upto_region 5 with fail
    have PR : PB (w2.alloc (.cells #[.string s, .int .i64 0, .int .i64 0, .string ⟨#[]⟩, .slice none 0 0, .slice none 0 0, .slice none 0 0, .int .i64 0, .int .i64 0] 110)) w2.heap.size (rdC s 0 0 ⟨#[]⟩ (.slice none 0 0) (.slice none 0 0) (.slice none 0 0) 0 0) 110 := PB.new w2 #[.string s, .int .i64 0, .int .i64 0, .string ⟨#[]⟩, .slice none 0 0, .slice none 0 0, .slice none 0 0, .int .i64 0, .int .i64 0] 110
    have PA3 := HPA.out.alloc (.cells #[.string s, .int .i64 0, .int .i64 0, .string ⟨#[]⟩, .slice none 0 0, .slice none 0 0, .slice none 0 0, .int .i64 0, .int .i64 0] 110)
    have PF3 := HPF.out.alloc (.cells #[.string s, .int .i64 0, .int .i64 0, .string ⟨#[]⟩, .slice none 0 0, .slice none 0 0, .slice none 0 0, .int .i64 0, .int .i64 0] 110)
    have hAR : A ≠ w2.heap.size ∧ B ≠ w2.heap.size ∧ A ≤ w2.heap.size := by have := HPA.out.lt; have := HPF.out.lt; omega
    have HB3 := HB2.out.alloc hAR.2.2 (.cells #[.string s, .int .i64 0, .int .i64 0, .string ⟨#[]⟩, .slice none 0 0, .slice none 0 0, .slice none 0 0, .int .i64 0, .int .i64 0] 110)
    have hA3 : A ≤ (w2.alloc (.cells #[.string s, .int .i64 0, .int .i64 0, .string ⟨#[]⟩, .slice none 0 0, .slice none 0 0, .slice none 0 0, .int .i64 0, .int .i64 0] 110)).heap.size := by rw [World.size_alloc]; omega
    clear p0 f0 q0 q1 g0 g1 r0 r1 HPA HPF HB2 n1 n2 n4 n5 hC e0
    generalize w2.alloc (.cells #[.string s, .int .i64 0, .int .i64 0, .string ⟨#[]⟩, .slice none 0 0, .slice none 0 0, .slice none 0 0, .int .i64 0, .int .i64 0] 110) = w3 at *
    generalize w2.heap.size = R at *
    have kr := readP_any s hs2 hE R w3 _ _ _ PR
    go_upto_region 6 with (go_at_call 70; refine kr.mono ?_; rintro e w4 ⟨rfl, hJ⟩)
    obtain ⟨-, b, nm, fv, dv, pv, c1, a1, L, F, hB4, hI⟩ := hJ
    obtain ⟨pa, pc, rfl⟩ := ownW_slice hB4.parts
    have hend := inv_end hI hs2 hE hbb
    have hcod := hI.codes
    have HPA := hidden (show PB w4 A #[.slice none 0 0] 56 from (hB4.keep.block A PA3.lt hAR.1).trans PA3)
    have HPF := hidden (show PB w4 B #[.int .i64 0, .int .i64 0] 58 from (hB4.keep.block B PF3.lt hAR.2.1).trans PF3)
    have HB4 := hidden (HB3.trans ((Two.of_keep (r := none) hB4.keep).bel hAR.2.2 (fun k e => by cases e) hA3))
    have HPR := hidden hB4.box
    have n1 := hAR.1
    have n2 := hAR.2.1
    have n4 := n1.symm
    have n5 := n2.symm
    have HK := hidden hB4
    have hLs := hB4.len
    have HA3 := hidden hA3
    clear PR PA3 PF3 HB3 hA3 kr hB4 hI
    by_cases h20 : 20 < L.length
    · have h20i : ¬ (L.length : Int) ≤ 20 := by omega
      have h20j : (20 : Int) < (L.length : Int) := by omega
      have HR : Hid (readO s = .bad (noteC c1 7) (noteA c1 a1 7 s.size)) := by
        show readO s = _
        rw [← hend]
        rcases hcod with rfl | rfl | rfl | rfl <;> simp [endO, noteC, noteA, h20]
      have hc2 : noteC c1 7 ≠ 0 := by rcases hcod with rfl | rfl | rfl | rfl <;> decide
      have kn := fun W h => note_any s s.size b nm fv dv (.slice pa L.length pc) c1 a1 R 7 s.size W h
      rw [show ((7 : Nat) : Int) = 7 from rfl] at kn
      generalize noteC c1 7 = c2 at *
      generalize noteA c1 a1 7 s.size = a2 at *
      have e2 : (((c2 : Nat) : Int) != 0) = true := by rw [bne_iff_ne]; omega
      obtain ⟨p0, p1, p2, p3, p4, p5, p6, p7, p8⟩ := HPR.out.nine
      go_upto_region 8 with (go_at_call 71; refine (kn _ ?_).mono ?_; (exact HPR.out); rintro e w5 ⟨rfl, hP5, hK5⟩)
      have HPA5 := hidden (show PB w5 A #[.slice none 0 0] 56 from (hK5.block A HPA.out.lt hAR.1).trans HPA.out)
      have HPF5 := hidden (show PB w5 B #[.int .i64 0, .int .i64 0] 58 from (hK5.block B HPF.out.lt hAR.2.1).trans HPF.out)
      have HB5 := hidden (HB4.out.trans ((Two.of_keep (r := none) hK5).bel hAR.2.2 (fun k e => by cases e) (Nat.le_of_lt HPA.out.lt)))
      have HPR5 := hidden hP5
      clear hP5 hK5 p0 p1 p2 p3 p4 p5 p6 p7 p8 kn
      have q0 := HPA5.out.cell 0
      have f0 := HPA5.out.frozen 0
      obtain ⟨y0, y1⟩ := HPF5.out.two
      have g0 := HPF5.out.frozen 0
      have g1 := HPF5.out.frozen 1
      obtain ⟨p0, p1, p2, p3, p4, p5, p6, p7, p8⟩ := HPR5.out.nine
      go_wp2_with fail
      go_region
      all_goals go_wp2_with fail
      have hAf : PB ((((w5.setCell ⟨A, 0, none⟩ (.slice none 0 0)).setCell ⟨B, 0, none⟩ (.int .i64 (c2 : Nat))).setCell ⟨B, 1, none⟩ (.int .i64 (a2 : Nat))).drew) A #[.slice none 0 0] 56 := ((HPA5.out.put 0 (.slice none 0 0) (vs' := #[.slice none 0 0]) rfl).far n6 0 (.int .i64 (c2 : Nat))).far n6 1 (.int .i64 (a2 : Nat))
      have hBf : PB ((((w5.setCell ⟨A, 0, none⟩ (.slice none 0 0)).setCell ⟨B, 0, none⟩ (.int .i64 (c2 : Nat))).setCell ⟨B, 1, none⟩ (.int .i64 (a2 : Nat))).drew) B #[.int .i64 (c2 : Nat), .int .i64 (a2 : Nat)] 58 := ((HPF5.out.far n3 0 (.slice none 0 0)).put 0 (.int .i64 (c2 : Nat)) (vs' := #[.int .i64 (c2 : Nat), .int .i64 0]) rfl).put 1 (.int .i64 (a2 : Nat)) (vs' := #[.int .i64 (c2 : Nat), .int .i64 (a2 : Nat)]) rfl
      have hbel : Below A w ((((w5.setCell ⟨A, 0, none⟩ (.slice none 0 0)).setCell ⟨B, 0, none⟩ (.int .i64 (c2 : Nat))).setCell ⟨B, 1, none⟩ (.int .i64 (a2 : Nat))).drew) := st_drew (((HB5.out.setCell (p := ⟨A, 0, none⟩) (Nat.le_refl A) _).setCell (p := ⟨B, 0, none⟩) hAw.out.2 _).setCell (p := ⟨B, 1, none⟩) hAw.out.2 _)
      refine bodyPost_ret (results_cc Try.results31 _ _ A B 56 58 _ _ _ _ rfl hAf Try.underlying56 rfl (by kernel_rfl) rfl hBf Try.underlying58 rfl (by kernel_rfl)) rfl ⟨_, c2, a2, rfl, ?_, ?_⟩
      · rw [HR.out]; exact ⟨rfl, rfl, rfl⟩
      · first | exact hbel | (rw [hA]; exact hbel)
    · have h20i : (L.length : Int) ≤ 20 := by omega
      have h20j : ¬ (20 : Int) < (L.length : Int) := by omega
      by_cases h0 : c1 = 0
      · have e2 : (((c1 : Nat) : Int) != 0) = false := by rw [h0]; rfl
        subst h0
        have HR : Hid (readO s = .ok (L.map Prod.fst)) := by
          show readO s = _
          rw [← hend]
          simp [endO, h20]
        have q0 := HPA.out.cell 0
        have f0 := HPA.out.frozen 0
        obtain ⟨y0, y1⟩ := HPF.out.two
        have g0 := HPF.out.frozen 0
        have g1 := HPF.out.frozen 1
        obtain ⟨p0, p1, p2, p3, p4, p5, p6, p7, p8⟩ := HPR.out.nine
        go_wp2_with fail
        have hAf : PB (((w4.setCell ⟨A, 0, none⟩ (.slice pa L.length pc)).setCell ⟨B, 0, none⟩ (.int .i64 0)).setCell ⟨B, 1, none⟩ (.int .i64 0)) A #[.slice pa L.length pc] 56 := ((HPA.out.put 0 (.slice pa L.length pc) (vs' := #[.slice pa L.length pc]) rfl).far n6 0 (.int .i64 0)).far n6 1 (.int .i64 0)
        have hBf : PB (((w4.setCell ⟨A, 0, none⟩ (.slice pa L.length pc)).setCell ⟨B, 0, none⟩ (.int .i64 0)).setCell ⟨B, 1, none⟩ (.int .i64 0)) B #[.int .i64 0, .int .i64 0] 58 := ((HPF.out.far n3 0 (.slice pa L.length pc)).put 0 (.int .i64 0) (vs' := #[.int .i64 0, .int .i64 0]) rfl).put 1 (.int .i64 0) (vs' := #[.int .i64 0, .int .i64 0]) rfl
        have hbel : Below A w (((w4.setCell ⟨A, 0, none⟩ (.slice pa L.length pc)).setCell ⟨B, 0, none⟩ (.int .i64 0)).setCell ⟨B, 1, none⟩ (.int .i64 0)) := ((HB4.out.setCell (p := ⟨A, 0, none⟩) (Nat.le_refl A) _).setCell (p := ⟨B, 0, none⟩) hAw.out.2 _).setCell (p := ⟨B, 1, none⟩) hAw.out.2 _
        have far : ∀ {bs t z n xs} {v : Value}, t ≠ 56 → t ≠ 58 → w4.ownsRow bs t z v n xs → World.ownsRow (((w4.setCell ⟨A, 0, none⟩ (.slice pa L.length pc)).setCell ⟨B, 0, none⟩ (.int .i64 0)).setCell ⟨B, 1, none⟩ (.int .i64 0)) bs t z v n xs := fun h1 h2 q =>
          ownB_far (ownB_far (ownB_far q (ownU_ty q HPA.out h1.symm) 0 _) (ownU_ty q HPF.out h2.symm) 0 _) (ownU_ty q HPF.out h2.symm) 1 _
        refine bodyPost_ret (results_cc Try.results31 _ _ A B 56 58 _ _ _ _ rfl hAf Try.underlying56 rfl (by kernel_rfl) rfl hBf Try.underlying58 rfl (by kernel_rfl)) rfl ⟨_, 0, 0, rfl, ?_, ?_⟩
        · rw [HR.out]
          have hown : OwnP (((w4.setCell ⟨A, 0, none⟩ (.slice pa L.length pc)).setCell ⟨B, 0, none⟩ (.int .i64 0)).setCell ⟨B, 1, none⟩ (.int .i64 0)) A (.slice pa L.length pc) L := ⟨ownW_base (far (by decide) (by decide) HK.out.parts) HA3.out, fun p hp => ownW_base (far (by decide) (by decide) (HK.out.each p hp).1) HA3.out, List.pairwise_map.2 HK.out.dist⟩
          exact ⟨rfl, rfl, L, rfl, (by first | exact hown | (rw [hA]; exact hown))⟩
        · first | exact hbel | (rw [hA]; exact hbel)
      · have e2 : (((c1 : Nat) : Int) != 0) = true := by rw [bne_iff_ne]; omega
        have HR : Hid (readO s = .bad c1 a1) := by
          show readO s = _
          rw [← hend]
          simp [endO, h0]
        have q0 := HPA.out.cell 0
        have f0 := HPA.out.frozen 0
        obtain ⟨y0, y1⟩ := HPF.out.two
        have g0 := HPF.out.frozen 0
        have g1 := HPF.out.frozen 1
        obtain ⟨p0, p1, p2, p3, p4, p5, p6, p7, p8⟩ := HPR.out.nine
        go_wp2_with fail
        go_region
        all_goals go_wp2_with fail
        have hAf : PB ((((w4.setCell ⟨A, 0, none⟩ (.slice none 0 0)).setCell ⟨B, 0, none⟩ (.int .i64 (c1 : Nat))).setCell ⟨B, 1, none⟩ (.int .i64 (a1 : Nat))).drew) A #[.slice none 0 0] 56 := ((HPA.out.put 0 (.slice none 0 0) (vs' := #[.slice none 0 0]) rfl).far n6 0 (.int .i64 (c1 : Nat))).far n6 1 (.int .i64 (a1 : Nat))
        have hBf : PB ((((w4.setCell ⟨A, 0, none⟩ (.slice none 0 0)).setCell ⟨B, 0, none⟩ (.int .i64 (c1 : Nat))).setCell ⟨B, 1, none⟩ (.int .i64 (a1 : Nat))).drew) B #[.int .i64 (c1 : Nat), .int .i64 (a1 : Nat)] 58 := ((HPF.out.far n3 0 (.slice none 0 0)).put 0 (.int .i64 (c1 : Nat)) (vs' := #[.int .i64 (c1 : Nat), .int .i64 0]) rfl).put 1 (.int .i64 (a1 : Nat)) (vs' := #[.int .i64 (c1 : Nat), .int .i64 (a1 : Nat)]) rfl
        have hbel : Below A w ((((w4.setCell ⟨A, 0, none⟩ (.slice none 0 0)).setCell ⟨B, 0, none⟩ (.int .i64 (c1 : Nat))).setCell ⟨B, 1, none⟩ (.int .i64 (a1 : Nat))).drew) := st_drew (((HB4.out.setCell (p := ⟨A, 0, none⟩) (Nat.le_refl A) _).setCell (p := ⟨B, 0, none⟩) hAw.out.2 _).setCell (p := ⟨B, 1, none⟩) hAw.out.2 _)
        refine bodyPost_ret (results_cc Try.results31 _ _ A B 56 58 _ _ _ _ rfl hAf Try.underlying56 rfl (by kernel_rfl) rfl hBf Try.underlying58 rfl (by kernel_rfl)) rfl ⟨_, c1, a1, rfl, ?_, ?_⟩
        · rw [HR.out]; exact ⟨rfl, rfl, rfl⟩
        · first | exact hbel | (rw [hA]; exact hbel)
  · have e0 : ((((bf s).1 : Nat) : Int) != 0) = true := by rw [bne_iff_ne]; omega
    have HR := hidden (bf_bad hc)
    clear hc
    generalize (bf s).1 = c at *
    generalize (bf s).2 = a at *
    go_enter Try.func31, Try.ntmps31
    have bW : Below w.heap.size w ((w.alloc (.cells #[.slice none 0 0] 56)).alloc (.cells #[.int .i64 0, .int .i64 0] 58)) := by repeat (first | exact Below.refl _ _ | assumption | refine st_drew ?_ | refine st_drewN ?_ _ | refine Below.setCell ?_ (by first | omega | (simp; done) | (simp; omega)) _ | refine Below.alloc ?_ (by first | omega | (simp; done) | (simp; omega)) _)
    have PA := (PB.new w #[.slice none 0 0] 56).alloc (.cells #[.int .i64 0, .int .i64 0] 58)
    have PF := PB.new (w.alloc (.cells #[.slice none 0 0] 56)) #[.int .i64 0, .int .i64 0] 58
    rw [World.size_alloc] at PF
    go_upto_region 1 with fail
    generalize ((w.alloc (.cells #[.slice none 0 0] 56)).alloc (.cells #[.int .i64 0, .int .i64 0] 58)) = W1 at *
    generalize hA : w.heap.size = A at *
    generalize hB : A + 1 = B at *
    have hAB := hidden (show A ≠ B by omega)
    have hAw := hidden (show w.heap.size ≤ A ∧ A ≤ B by omega)
    go_upto_region 2 with (go_at_call 69; refine (kb _).mono ?_; rintro e w1 ⟨rfl, hb1⟩)
    have PA2 := (PA.below hb1).alloc (.cells #[.int .i64 c, .int .i64 a] 58)
    have PF2 := (PF.below hb1).alloc (.cells #[.int .i64 c, .int .i64 a] 58)
    have PC := PB.new w1 #[.int .i64 c, .int .i64 a] 58
    have HB2 : Hid (Below A w (w1.alloc (.cells #[.int .i64 c, .int .i64 a] 58))) := by subst hA; exact (onto bW hb1).alloc (by have := bW.size; have := hb1.size; omega) (.cells #[.int .i64 c, .int .i64 a] 58)
    have hC := hidden (show A ≠ w1.heap.size ∧ B ≠ w1.heap.size by have := (PA.below hb1).lt; have := (PF.below hb1).lt; omega)
    clear hb1 bW PA PF
    generalize w1.alloc (.cells #[.int .i64 c, .int .i64 a] 58) = w2 at *
    generalize w1.heap.size = C at *
    have p0 := PA2.cell 0
    have f0 := PA2.frozen 0
    obtain ⟨q0, q1⟩ := PF2.two
    have g0 := PF2.frozen 0
    have g1 := PF2.frozen 1
    obtain ⟨r0, r1⟩ := PC.two
    obtain ⟨n1, n2⟩ := hC.out
    have n3 := hAB.out
    have n4 := n1.symm
    have n5 := n2.symm
    have n6 := n3.symm
    have HPA := hidden PA2
    have HPF := hidden PF2
    clear PA2 PF2 PC
    go_wp2_with fail
    go_region
    all_goals go_wp2_with fail
    have hAf : PB ((((w2.setCell ⟨A, 0, none⟩ (.slice none 0 0)).setCell ⟨B, 0, none⟩ (.int .i64 c)).setCell ⟨B, 1, none⟩ (.int .i64 a)).drew) A #[.slice none 0 0] 56 := ((HPA.out.put 0 (.slice none 0 0) (vs' := #[.slice none 0 0]) rfl).far n6 0 (.int .i64 c)).far n6 1 (.int .i64 a)
    have hBf : PB ((((w2.setCell ⟨A, 0, none⟩ (.slice none 0 0)).setCell ⟨B, 0, none⟩ (.int .i64 c)).setCell ⟨B, 1, none⟩ (.int .i64 a)).drew) B #[.int .i64 c, .int .i64 a] 58 := ((HPF.out.far n3 0 (.slice none 0 0)).put 0 (.int .i64 c) (vs' := #[.int .i64 c, .int .i64 0]) rfl).put 1 (.int .i64 a) (vs' := #[.int .i64 c, .int .i64 a]) rfl
    have hbel : Below A w ((((w2.setCell ⟨A, 0, none⟩ (.slice none 0 0)).setCell ⟨B, 0, none⟩ (.int .i64 c)).setCell ⟨B, 1, none⟩ (.int .i64 a)).drew) := st_drew (((HB2.out.setCell (p := ⟨A, 0, none⟩) (Nat.le_refl A) _).setCell (p := ⟨B, 0, none⟩) hAw.out.2 _).setCell (p := ⟨B, 1, none⟩) hAw.out.2 _)
    refine bodyPost_ret (results_cc Try.results31 _ _ A B 56 58 _ _ _ _ rfl hAf Try.underlying56 rfl (by kernel_rfl) rfl hBf Try.underlying58 rfl (by kernel_rfl)) rfl ⟨_, c, a, rfl, ?_, ?_⟩
    · rw [HR.out]; exact ⟨rfl, rfl, rfl⟩
    · first | exact hbel | (rw [hA]; exact hbel)
end Go.Proofs.Ytgcpiinmcbdkmaa
