/-
  SeenOrder, the program's.
-/
import Derived.Test.YtcfghnffacdekabSg
import Derived.Laws.EntriesVeiled
namespace Go.Proofs.Ytcfghnffacdekab
open Go.RowKit Va Vh
set_option linter.unusedVariables false

/-- What is told: the one order of a right queue, nothing else. -/
def Told (q : List Wt) (t : Int) (L : List Int) : Prop := if qB q && tmv t then IsSeen q t L else L = []
theorem own_fr {W W' : World} {base e s n H : Nat} {ob : Option Nat} {v : Value} {xs : List Value} (h : W.ownsRow base e s v n xs) (hf : Fr H ob W W') (hH : H < base) (ho : ∀ j, ob = some j → j < base) : W'.ownsRow base e s v n xs := by
  obtain ⟨q, ⟨q1, q2⟩ | ⟨g1, c, cur, q1, hg1, hh, r⟩⟩ := h
  · exact ⟨q, Or.inl ⟨q1, q2⟩⟩
  · exact ⟨q, Or.inr ⟨g1, c, cur, q1, hg1, (hf.block g1 (Array.getElem?_eq_some_iff.1 hh).1 (by omega) (fun e => by have := ho g1 e; omega)).trans hh, r⟩⟩
theorem HS.belowB {W W' : World} {B H gi cap : Nat} {l : List Int} {ao : Option Addr} {n cq : Nat} {q : List Wt} {t : Int} (h : HS W H gi cap l ao n cq q t) (hb : Below B W W') (hH : H < B) (hg : gi < B) (hq : ∀ b off, ao = some ⟨b, off, none⟩ → b < B) : HS W' H gi cap l ao n cq q t := by
  have eH := hb.block H hH
  refine ⟨⟨(World.cell?_of_block (w := W) eH).trans h.hp.c0, (World.cell?_of_block (w := W) eH).trans h.hp.c1, (World.frozen?_of_block (w := W) eH).trans h.hp.f0, ?_, h.hp.ne⟩, ?_, h.nq, h.ok, h.tt, h.pl⟩
  · obtain ⟨cur, q1, q2⟩ := h.hp.blk
    exact ⟨cur, (hb.block gi hg).trans q1, q2⟩
  · obtain ⟨ao', cap', e, hl, hh⟩ := h.rq
    refine ⟨ao', cap', e, hl, ?_⟩
    rcases hh with z | ⟨b', o, q1, q2, q3⟩
    · exact Or.inl z
    · have ea : ao = ao' := by injection e
      refine Or.inr ⟨b', o, q1, Nat.lt_of_lt_of_le q2 hb.size, fun i x hx k hkk => ?_⟩
      rw [World.cell?_of_block (w := W) (hb.block b' (hq b' o (ea.trans q1)))]
      exact q3 i x hx k hkk
theorem Fr.to_below {H B : Nat} {ob : Option Nat} {w w' : World} (h : Fr H ob w w') (hB : B ≤ w.heap.size) (hH : B ≤ H) (ho : ∀ j, ob = some j → B ≤ j) : Below B w w' :=
  ⟨h.os, h.tape, h.output, h.size, fun k hk => h.block k (by omega) (by omega) (fun e => by have := ho k e; omega)⟩

/-- The second loop's state: what is told so far, and what is left. -/
structure Lp (q : List Wt) (t : Int) (out l : List Int) : Prop where
  perm : (out ++ l).Perm (places q.length)
  sorted : Sorted (bfW q t) out
  heap : Heap (bfW q t) l
  low : ∀ x ∈ out, ∀ y ∈ l, bfW q t y x = false
theorem Lp.next {q : List Wt} {t : Int} {out l l' : List Int} (h : Lp q t out l) (hl : 0 < l.length) (hp : (g l 0 :: l').Perm l) (hh : Heap (bfW q t) l') : Lp q t (out ++ [g l 0]) l' := by
  refine ⟨?_, snoc_sorted h.sorted (fun y hy => h.low y hy _ (g_mem hl)), hh, fun x hx y hy => ?_⟩
  · rw [List.append_assoc]
    exact (List.Perm.append_left out hp).trans h.perm
  · have hy2 : y ∈ l := hp.mem_iff.1 (List.mem_cons_of_mem _ hy)
    rcases List.mem_append.1 hx with z | z
    · exact h.low x z y hy2
    · rw [List.mem_singleton] at z
      subst z
      obtain ⟨i, hi⟩ := List.getElem?_of_mem hy2
      have hil := (List.getElem?_eq_some_iff.1 hi).1
      rw [g_get hil] at hi
      cases hi
      exact heap_min (ord_W q t) h.heap (i + 1) i (by omega) hil
def lenOf (v : Value) : Nat := match v with | .slice _ n _ => n | _ => 0
theorem own_base_le {w : World} {b e s n : Nat} {v : Value} {xs : List Value} (h : w.ownsRow b e s v n xs) : ∀ j, v.ownBlock = some j → b ≤ j := by
  obtain ⟨_, ⟨rfl, _⟩ | ⟨g1, c, cur, rfl, hg1, _⟩⟩ := h
  · intro j hj; cases hj
  · intro j hj; cases hj; exact hg1
theorem own_baseS {w : World} {b b2 e s n : Nat} {v : Value} {xs : List Value} (h : w.ownsRow b e s v n xs) (hb : b2 ≤ b) : w.ownsRow b2 e s v n xs := by
  obtain ⟨q, ⟨q1, q2⟩ | ⟨g1, c, cur, rfl, hg1, r⟩⟩ := h
  · exact ⟨q, Or.inl ⟨q1, q2⟩⟩
  · exact ⟨q, Or.inr ⟨g1, c, cur, rfl, Nat.le_trans hb hg1, r⟩⟩
theorem Lp.done {q : List Wt} {t : Int} {out : List Int} (h : Lp q t out []) : IsSeen q t out := ⟨by have := h.perm; rwa [List.append_nil] at this, h.sorted⟩

set_option maxRecDepth 20000 in
set_option maxHeartbeats 8000000 in
theorem iseen_any (ao : Option Addr) (n cq : Nat) (q : List Wt) (t : Int) (w : World) (h : Rw 3 csW w (.slice ao n cq) q) (hn : q.length ≤ 1048576) :
    Calls Try.prog 29 #[.slice ao n cq, .int .i64 t] w fun e w' => ∃ ad c L, e = .returned (.slice ad L.length c) ∧ w'.ownsRow w.heap.size 2 1 (.slice ad L.length c) L.length (L.map fun z => Value.int .i64 z) ∧ Told q t L ∧ Below w.heap.size w w' := by
  have hQ := iqueue_any ao n cq q w h hn
  have hT := itmq_any t
  cases hv : (qB q && tmv t) with
  | false =>
    have HT0 := hidden (show Told q t [] by unfold Told; rw [hv]; rfl)
    have E0 : ∀ (W : World), Below w.heap.size w W → (W.alloc (.cells #[] 2)).ownsRow w.heap.size 2 1 (.slice (some ⟨W.heap.size, 0, none⟩) 0 0) 0 [] ∧ Below w.heap.size w (W.alloc (.cells #[] 2)) := fun W hW => ⟨⟨by simp, .inr ⟨W.heap.size, 0, #[], rfl, hW.size, heap_alloc_new _ _, Nat.le_refl _, Nat.zero_le _, by simp, by simp⟩⟩, hW.alloc hW.size _⟩
    have HE0 := hidden E0
    clear E0
    generalize qB q = b1 at *
    generalize tmv t = b2 at *
    rcases b1 with _ | _
    · go_enter Try.func29, Try.ntmps29
      go_wp2_with (go_at_call 63; refine hQ.mono ?_; rintro e w1 ⟨rfl, hb1⟩)
      obtain ⟨o1, o2⟩ := HE0.out _ hb1
      go_ret
      exact ⟨_, _, [], rfl, o1, HT0.out, o2⟩
    · have hb2 : b2 = false := by simpa using hv
      subst hb2
      go_enter Try.func29, Try.ntmps29
      go_wp2_with (first | (go_at_call 63; refine hQ.mono ?_; rintro e w1 ⟨rfl, hb1⟩) | (go_at_call 56; refine (hT _).mono ?_; rintro e w2 ⟨rfl, rfl⟩))
      obtain ⟨o1, o2⟩ := HE0.out _ hb1
      go_ret
      exact ⟨_, _, [], rfl, o1, HT0.out, o2⟩
  | true =>
    have hv2 := hv
    rw [Bool.and_eq_true] at hv2
    obtain ⟨hq0, ht0⟩ := hv2
    have hok := of_qB hq0
    have htt := tmv_iff.1 ht0
    have HTD := hidden (fun L (hL : IsSeen q t L) => show Told q t L by unfold Told; rw [hv]; exact hL)
    rw [hq0] at hQ
    rw [ht0] at hT
    have hlen := hok.1
    clear hv hq0 ht0
    obtain rfl := h.len
    have HH := hidden h
    have HOK := hidden hok
    have HTT := hidden htt
    clear h hok
    go_enter Try.func29, Try.ntmps29
    go_wp2_with (first | (go_at_call 63; refine hQ.mono ?_; rintro e w1 ⟨rfl, hb1⟩) | (go_at_call 56; refine (hT _).mono ?_; rintro e w2 ⟨rfl, rfl⟩))
    have bel0 : Below w.heap.size w ((w1.alloc (.cells #[.slice ao q.length cq, .int .i64 t] 97)).alloc (.cells #[.slice none 0 0, fnS ao q.length cq t] 99)) := (hb1.alloc hb1.size _).alloc (by have := hb1.size; simp; omega) _
    have e0 : ((w1.alloc (.cells #[.slice ao q.length cq, .int .i64 t] 97)).alloc (.cells #[.slice none 0 0, fnS ao q.length cq t] 99)).heap[w1.heap.size + 1]? = some (.cells #[.slice none 0 0, fnS ao q.length cq t] 99) := by
      have := heap_alloc_new (w1.alloc (.cells #[.slice ao q.length cq, .int .i64 t] 97)) (.cells #[.slice none 0 0, fnS ao q.length cq t] 99)
      simpa using this
    have hHw : w.heap.size ≤ w1.heap.size + 1 := by have := hb1.size; omega
    have hbq : Hid (0 < q.length → ∀ b off, ao = some ⟨b, off, none⟩ → b < w.heap.size) := fun h0 b off e => by
      obtain ⟨xq, hxq⟩ := some_of q 0 h0
      obtain ⟨g', o', z1, z2, _⟩ := HH.out.at hxq
      rw [e] at z1
      injection z1 with z3
      injection z3 with z4
      omega
    generalize hW0 : ((w1.alloc (.cells #[.slice ao q.length cq, .int .i64 t] 97)).alloc (.cells #[.slice none 0 0, fnS ao q.length cq t] 99)) = W0 at *
    generalize hH0 : w1.heap.size + 1 = H at *
    have hv0 : HV W0 H (fnS ao q.length cq t) (.slice none 0 0) [] := ⟨by simp only [World.cell?, e0]; rfl, by simp only [World.cell?, e0]; rfl, by simp only [World.frozen?, e0]; simp, ⟨by simp, Or.inl ⟨rfl, rfl⟩⟩, fun j hj => by cases hj⟩
    have H0 := hidden hv0
    have B0 := hidden bel0
    have R0 := hidden (HH.out.below bel0)
    clear hv0 bel0 hW0 hH0 e0 hQ hT hb1
    go_loopw [7, 26] (fun _ iv wr => ∃ (i : Nat) (v : Value) (l : List Int), i ≤ q.length ∧ iv = .int .i64 i ∧ HV wr H (fnS ao q.length cq t) v l ∧ Rw 3 csW wr (.slice ao q.length cq) q ∧ (∀ j, v.ownBlock = some j → w.heap.size ≤ j) ∧ Hid (l.Perm (places i)) ∧ Hid (Heap (bfW q t) l) ∧ Below w.heap.size w wr) (fun _ iv _ => q.length - (intOf iv).toNat)
    case atStart => exact ⟨0, _, [], Nat.zero_le _, rfl, H0.out, R0.out, (fun j hj => by cases hj), List.Perm.refl _, (fun i h0 hl => absurd hl (Nat.not_lt_zero _)), B0.out⟩
    case round =>
      clear H0 B0 R0
      obtain ⟨i, v, l, hi, rfl, hv, hrq, hvo, hperm, hheap, hb⟩ := hrel
      have hll : l.length = i := by have := hperm.out.length_eq; simpa [places] using this
      by_cases hlt : i < q.length
      · have hlti : (i : Int) < (q.length : Int) := by omega
        have hbq2 := hbq.out (by omega)
        have PU := hidden (push_any H v l ao q.length cq q t i wr hv hrq (fun b off e => by have := hbq2 b off e; exact ⟨fun e2 => by have := hvo b e2; omega, by omega⟩) HOK.out HTT.out (fun x hx => by
          obtain ⟨k, hk, rfl⟩ := mem_places.1 (hperm.out.mem_iff.1 hx)
          exact mem_places.2 ⟨k, by omega, rfl⟩) hlt (by omega) hheap.out)
        have HLL := hidden hll
        clear hv hrq hheap hll
        go_wp2_with (go_at_call 65; refine PU.out.mono ?_; rintro e w3 ⟨rfl, gi, cap, l', hs, hcap, hp, hh, hgi, hfr⟩)
        have hbn : Below w.heap.size wr w3 := hfr.to_below hb.size (by omega) hvo
        go_roundw
        case rel => exact ⟨i + 1, _, l', by omega, rfl, hv_of_hp hs.hp hcap, hs.rq, (fun j hj => by
          cases hj
          rcases hgi with z | z
          · exact hvo _ z
          · exact Nat.le_trans hb.size z), (hp.trans ((hperm.out.append_right [(i : Int)]).trans (by rw [← places_succ]))), hh, hb.trans hbn⟩
        case measure => simp [intOf]; omega
      · have hlti : ¬ (i : Int) < (q.length : Int) := by omega
        have hil : i = q.length := by omega
        subst hil
        obtain ⟨i0, hi0, hy0, hy1, hy2⟩ := info_parts infoI64
        have hzb := hb.size
        go_wp2_with (refine wpList_make_own _ rfl (.const (.int .i64 0)) (.tmp 33) 40 rfl wr.heap.size 2 i0 (.int .i64 0) 1 Try.underlying40 hi0 hy0 hy1 .i64 .i64 _ q.length rfl rfl rfl (by rw [hy2]; omega) (by unfold maxLen; omega) (Nat.le_refl _) ?_; intro w4 ho4 hg4)
        have hb4 : Below wr.heap.size wr w4 := (Below.refl _ wr).grown hg4 (Nat.le_refl _) (by simp)
        have hLp : Lp q t [] l := ⟨by simpa using hperm.out, List.Pairwise.nil, hheap.out, fun x hx => absurd hx (List.not_mem_nil)⟩
        have hHl := hv.hlt
        have hst : (∃ gi cap, HS w4 H gi cap l ao q.length cq q t ∧ gi < wr.heap.size ∧ w.heap.size ≤ gi) ∨ (l = [] ∧ ∃ va vc, w4.cell? ⟨H, 0, none⟩ = some (.slice va 0 vc)) := by
          by_cases hl0 : l = []
          · right
            obtain ⟨va, vc, e⟩ := own_sliceS hv.own
            refine ⟨hl0, va, vc, (hb4.cell (p := ⟨H, 0, none⟩) hHl).trans (hv.c0.trans ?_)⟩
            rw [e, hl0]; rfl
          · left
            obtain ⟨gi, cap, e, hp⟩ := hp_of_own hv hl0
            have hq1 : 0 < q.length := by rw [← hll]; exact List.length_pos_iff.2 hl0
            have hs : HS wr H gi cap l ao q.length cq q t := ⟨hp, hrq, fun b off e2 => by
              have z1 := hbq.out hq1 b off e2
              have z2 := hvo gi (by rw [e]; rfl)
              exact ⟨by omega, by omega⟩, HOK.out, HTT.out, fun x hx => hperm.out.mem_iff.1 hx⟩
            exact ⟨gi, cap, hs.below hb4, hs.hp.glt, hvo gi (by rw [e]; rfl)⟩
        have hB0 := hb.size
        have bel4 := hb.trans (hb4.mono hB0)
        have ST := hidden hst
        have LP := hidden hLp
        have OW := hidden ho4
        have BE := hidden bel4
        have hz4 := hb4.size
        clear hst hLp ho4 bel4 hg4 hb4 hv hrq hperm hheap hll hb hvo
        have hHl0 := hHl
        generalize hBO : wr.heap.size = B0 at *
        clear hBO
        go_loopw [8] (fun sv ws => ∃ (l out : List Int) (ad : Option Addr) (c : Nat), sv = .slice ad out.length c ∧ Hid (ws.ownsRow B0 2 1 (.slice ad out.length c) out.length (out.map fun z => Value.int .i64 z)) ∧ Hid (Lp q t out l) ∧ Below w.heap.size w ws ∧ B0 ≤ ws.heap.size ∧ ((∃ gi cap, HS ws H gi cap l ao q.length cq q t ∧ gi < B0 ∧ w.heap.size ≤ gi) ∨ (l = [] ∧ ∃ va vc, ws.cell? ⟨H, 0, none⟩ = some (.slice va 0 vc)))) (fun sv _ => q.length - lenOf sv)
        case atStart => exact ⟨l, [], _, _, rfl, OW.out, LP.out, BE.out, hz4, ST.out⟩
        case round =>
          clear OW LP BE ST
          rename_i l0 _ _
          obtain ⟨l, out, ad, c, rfl, ho, hlp, bel, hz, hst⟩ := hrel
          have hsum : out.length + l.length = q.length := by have := hlp.out.perm.length_eq; simpa [places] using this
          by_cases hl0 : l = []
          · subst hl0
            obtain ⟨va, vc, hc0⟩ : ∃ va vc, wr.cell? ⟨H, 0, none⟩ = some (.slice va 0 vc) := by
              rcases hst with ⟨gi, cap, hs, _⟩ | ⟨_, va, vc, e⟩
              · exact ⟨_, _, hs.hp.c0⟩
              · exact ⟨va, vc, e⟩
            clear hst
            go_wp2_with fail
            go_ret
            exact ⟨ad, c, out, rfl, own_baseS ho.out hB0, HTD.out out hlp.out.done, bel⟩
          · rcases hst with ⟨gi, cap, hs, hgB, hgw⟩ | ⟨e, _⟩
            · obtain ⟨m, hm⟩ : ∃ m, l.length = m + 1 := ⟨l.length - 1, by have := List.length_pos_iff.2 hl0; omega⟩
              have c0 := hs.hp.c0
              rw [hm] at c0
              have hq1 : 0 < q.length := by omega
              have HBQ := hidden (hbq.out hq1)
              have hHl := hs.hp.hlt
              have POc := hidden (pop_any H gi cap l ao q.length cq q t m wr hs hm (by omega) hlp.out.heap)
              have hHB : H < B0 := hHl0
              have HSUM := hidden hsum
              have HM := hidden hm
              clear hs hsum hm
              go_wp2_with fail
              refine POc.out.mono ?_
              rintro e w5 ⟨rfl, l', hs5, hp5, hh5, hfr5⟩
              have hlp5 := hidden (hlp.out.next (by have := HM.out; omega) hp5 hh5)
              have ho5 := hidden ((own_fr ho.out hfr5 hHB (fun j hj => by cases hj; exact hgB)).alloc (.cells #[.int .i64 (g l 0)] 2))
              have hob := hidden (own_base_le ho.out)
              have b5 : Below w.heap.size wr w5 := hfr5.to_below bel.size hHw (fun j hj => by cases hj; exact hgw)
              have z5 := hfr5.size
              have HS5 := hidden hs5
              have HL5 := hidden hp5.length_eq
              clear hs5 hp5 hh5 hfr5 c0 ho hlp
              generalize g l 0 = v0 at *
              go_wp2_with (at_builtin; refine wpList_append_own _ rfl (.tmp 39) (.tmp 41) 40 rfl B0 2 i0 (.int .i64 0) 1 8 Try.underlying40 hi0 hy0 hy1 hy2 rfl (by decide) _ out.length (out.map fun z => Value.int .i64 z) rfl ho5.out ⟨w5.heap.size, 0, none⟩ 1 1 [.int .i64 v0] rfl rfl (cell_oneS _ _ _) (by simp [Value.oneCell']) (by have := HSUM.out; unfold maxLen; omega) (by have := HSUM.out; omega) (by simp; omega) ?_; intro v6 w6 ho6 hg6 hn6; obtain ⟨ad6, c6, rfl⟩ := own_sliceS ho6)
              have bA : Below B0 (w5.alloc (.cells #[.int .i64 v0] 2)) w6 := (Below.refl B0 _).grown hg6 (by simp; omega) (fun k hk => hob.out k hk)
              have z6 := bA.size
              simp only [World.size_alloc] at z6
              have hs6 := hidden ((HS5.out.below ((Below.refl _ w5).alloc (Nat.le_refl _) (.cells #[.int .i64 v0] 2))).belowB bA hHB hgB (fun b off e => by have := HBQ.out b off e; omega))
              have bel6 : Below w.heap.size w w6 := ((bel.trans b5).alloc (by have := bel.size; omega) _).trans (bA.mono (by omega))
              have ho7 := hidden (show w6.ownsRow B0 2 1 (.slice ad6 (out ++ [v0]).length c6) (out ++ [v0]).length ((out ++ [v0]).map fun z => Value.int .i64 z) by simpa using ho6)
              clear ho6 hg6 hn6 ho5
              go_roundw
              case rel => exact ⟨l', out ++ [v0], ad6, c6, by simp, ho7.out, hlp5.out, bel6, by omega, Or.inl ⟨gi, cap, hs6.out, hgB, hgw⟩⟩
              case measure => have := HSUM.out; have := HM.out; simp [lenOf]; omega
            · exact absurd e hl0
end Go.Proofs.Ytcfghnffacdekab
