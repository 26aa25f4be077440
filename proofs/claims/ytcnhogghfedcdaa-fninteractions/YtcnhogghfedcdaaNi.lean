/-
  Drugs and rules, drawn.
-/
import Derived.Test.YtcnhogghfedcdaaNh
namespace Go.Proofs.Ytcnhogghfedcdaa
open Go.RowKit Va Ga
set_option linter.unusedVariables false

theorem infoDgJ : (Try.prog.info? 26).map (fun i => (i.zero, i.size, i.bytes)) = some (some (.agg #[.int .i64 0, .slice none 0 0, .int .i64 0, .int .i64 0, .int .i64 0, .int .i64 0]), 6, 64) := by kernel_rfl
def cellsD (L : List (Dg × Value)) : List Value := L.flatMap fun p => [.int .i64 p.1.id, p.2, .int .i64 p.1.pk, .int .i64 p.1.most, .int .i64 p.1.day, .int .i64 p.1.kid]
theorem cellsD_app (L M : List (Dg × Value)) : cellsD (L ++ M) = cellsD L ++ cellsD M := by unfold cellsD; rw [List.flatMap_append]
theorem cellsD_get : ∀ (L : List (Dg × Value)) (i : Nat) (p : Dg × Value) (k : Nat), L[i]? = some p → k < 6 → (cellsD L)[i * 6 + k]? = [.int .i64 p.1.id, p.2, .int .i64 p.1.pk, .int .i64 p.1.most, .int .i64 p.1.day, .int .i64 p.1.kid][k]? := by
  intro L
  induction L with
  | nil => intro i p k h; cases h
  | cons q L ih =>
    intro i p k h hk
    show ([.int .i64 q.1.id, q.2, .int .i64 q.1.pk, .int .i64 q.1.most, .int .i64 q.1.day, .int .i64 q.1.kid] ++ cellsD L)[i * 6 + k]? = _
    cases i with
    | zero =>
      simp at h
      subst h
      rw [List.getElem?_append_left (by simp; omega), Nat.zero_mul, Nat.zero_add]
    | succ i =>
      rw [show (i + 1) * 6 + k = 6 + (i * 6 + k) by omega, List.getElem?_append_right (by simp)]
      simp only [List.length_cons, List.length_nil, Nat.zero_add]
      rw [show 6 + (i * 6 + k) - 6 = i * 6 + k by omega]
      exact ih i p k (by simpa using h) hk
/-- Owned drugs whose classes can be read are a row of drugs. -/
theorem own_drw {w : World} {base : Nat} {v : Value} {L : List (Dg × Value)} (h : w.ownsRow base 26 6 v L.length (cellsD L)) (ht : ∀ p ∈ L, IRw w p.2 p.1.cls) : DRw w v (L.map Prod.fst) := by
  obtain ⟨_, ⟨rfl, h2⟩ | ⟨g, cap, cur, rfl, hb, hg, hc, hm, hs, hx⟩⟩ := h
  · exact ⟨none, 0, by rw [List.length_map, h2], by rw [List.length_map]; omega, Or.inl (by rw [List.length_map]; exact h2)⟩
  · refine ⟨_, cap, by rw [List.length_map], by rw [List.length_map]; exact hc, Or.inr ⟨g, 0, rfl, (Array.getElem?_eq_some_iff.1 hg).1, fun i x hix => ?_⟩⟩
    rw [List.getElem?_map] at hix
    obtain ⟨p, hp, rfl⟩ := Option.map_eq_some_iff.1 hix
    have hi := get_lt' hp
    have hcell : ∀ k, k < 6 → w.cell? ⟨g, 0 + i * 6 + k, none⟩ = [.int .i64 p.1.id, p.2, .int .i64 p.1.pk, .int .i64 p.1.most, .int .i64 p.1.day, .int .i64 p.1.kid][k]? := fun k hk => by
      rw [← cellsD_get L i p k hp hk, ← hx, List.getElem?_take, if_pos (by omega), Array.getElem?_toList, Nat.zero_add]
      simp only [World.cell?, hg]
      rfl
    exact ⟨p.2, ⟨hcell 0 (by omega), hcell 1 (by omega), hcell 2 (by omega), hcell 3 (by omega), hcell 4 (by omega), hcell 5 (by omega)⟩, ht p (List.mem_of_getElem? hp)⟩
theorem cell6J (w : World) (a b c d e f : Value) (t : TypeId) : ∀ (j : Nat) (u : Value), [a, b, c, d, e, f][j]? = some u → (w.alloc (.cells #[a, b, c, d, e, f] t)).cell? ((⟨w.heap.size, 0, none⟩ : Addr).add j) = some u := fun j u hu => by
  have e0 := heap_alloc_new w (Obj.cells #[a, b, c, d, e, f] t)
  have e1 : (w.alloc (.cells #[a, b, c, d, e, f] t)).cell? ((⟨w.heap.size, 0, none⟩ : Addr).add j) = [a, b, c, d, e, f][j]? := by
    rw [Addr.add_lit, Nat.zero_add]
    simp only [World.cell?, e0]
    simp
  rw [e1, hu]
theorem six_oneJ (a : Int) (o : Option Addr) (n k : Nat) (b c d e : Int) : ∀ u ∈ [Value.int .i64 a, .slice o n k, .int .i64 b, .int .i64 c, .int .i64 d, .int .i64 e], u.oneCell' = true := by
  intro u hu
  simp only [List.mem_cons, List.not_mem_nil, or_false] at hu
  rcases hu with rfl | rfl | rfl | rfl | rfl | rfl <;> rfl
/-- The classes of a drug, in a block of one's own. -/
def COwn (w : World) (base : Nat) (p : Dg × Value) : Prop := w.ownsRow base 2 1 p.2 p.1.cls.length (p.1.cls.map fun z => Value.int .i64 z)
/-- Rules at vr and drugs at v, in blocks of the call's own, beside a cursor at g. -/
structure DQ (wN W : World) (g : Nat) (ao : Option Addr) (cap : Nat) (bs : List Int) (vr : Value) (rs : List Ru) (v : Value) (L : List (Dg × Value)) : Prop where
  cur : Cur W g ao cap bs
  keep : Keep g wN W
  rul : W.ownsRow wN.heap.size 41 3 vr rs.length (cellsL 3 csRu rs)
  own : W.ownsRow wN.heap.size 26 6 v L.length (cellsD L)
  cls : ∀ p ∈ L, COwn W wN.heap.size p ∧ p.1.cls.length ≤ 4
  gg : g < wN.heap.size
section
variable {wN W W' : World} {g cap : Nat} {ao : Option Addr} {bs : List Int} {vr v : Value} {rs : List Ru} {L : List (Dg × Value)}
theorem DQ.call (h : DQ wN W g ao cap bs vr rs v L) (hc : Cur W' g ao cap bs) (hk : Keep g W W') : DQ wN W' g ao cap bs vr rs v L :=
  ⟨hc, h.keep.trans hk, own_keep h.rul hk h.gg, own_keep h.own hk h.gg, fun p hp => ⟨own_keep (h.cls p hp).1 hk h.gg, (h.cls p hp).2⟩, h.gg⟩
theorem DQ.alloc (h : DQ wN W g ao cap bs vr rs v L) (o : Obj) : DQ wN (W.alloc o) g ao cap bs vr rs v L := h.call (h.cur.alloc o) ((Keep.refl g W).alloc o)
theorem DQ.form (h : DQ wN W g ao cap bs vr rs v L) : ∃ a k, v = .slice a L.length k := ownW_slice h.own
theorem DQ.app {v' : Value} {p : Dg × Value} (h : DQ wN W g ao cap bs vr rs v L) (hp : COwn W wN.heap.size p ∧ p.1.cls.length ≤ 4) (ho : W'.ownsRow wN.heap.size 26 6 v' (L.length + 1) (cellsD L ++ [.int .i64 p.1.id, p.2, .int .i64 p.1.pk, .int .i64 p.1.most, .int .i64 p.1.day, .int .i64 p.1.kid])) (hg : W.grownBy W' v.ownBlock) : DQ wN W' g ao cap bs vr rs v' (L ++ [p]) := by
  have h0 := ownW_lt h.own
  have hgg := h.gg
  have hb : Below wN.heap.size W W' := (Below.refl _ _).grown hg h.keep.size (fun k hk => (h0 k hk).1)
  refine ⟨h.cur.below (hb.mono hgg), ⟨hb.os.trans h.keep.os, hb.tape.trans h.keep.tape, hb.output.trans h.keep.output, Nat.le_trans h.keep.size hg.size, fun i hi hig => (hb.block i hi).trans (h.keep.block i hi hig)⟩, own_grown h.rul hg (own_ne2 h.rul h.own (by decide)), ?_, ?_, h.gg⟩
  · rw [List.length_append, cellsD_app]
    exact ho
  · intro q hq
    have ht : ∀ q, COwn W wN.heap.size q → COwn W' wN.heap.size q := fun q hq => own_grown hq hg (own_ne2 hq h.own (by decide))
    rcases List.mem_append.1 hq with k | k
    · exact ⟨ht q (h.cls q k).1, (h.cls q k).2⟩
    · simp at k; subst k; exact ⟨ht q hp.1, hp.2⟩
theorem DQ.start {X : World} (h : DR wN X g ao cap bs vr rs) : DQ wN (X.alloc (.cells #[] 26)) g ao cap bs vr rs (.slice (some ⟨X.heap.size, 0, none⟩) 0 0) [] := by
  have k := h.alloc (.cells #[] 26)
  exact ⟨k.cur, k.keep, k.own, ⟨rfl, .inr ⟨X.heap.size, 0, #[], rfl, h.keep.size, heap_alloc_new X _, Nat.le_refl _, Nat.zero_le _, rfl, rfl⟩⟩, (fun p hp => by cases hp), h.gg⟩
theorem DQ.row (h : DQ wN W g ao cap bs vr rs v L) : DRw W v (L.map Prod.fst) := own_drw h.own fun p hp => ownN_irw (h.cls p hp).1
theorem DQ.rows (h : DQ wN W g ao cap bs vr rs v L) : Rw 3 csRu W vr rs := (own_of rfl h.rul).row
theorem DQ.small (h : DQ wN W g ao cap bs vr rs v L) : ∀ x ∈ L.map Prod.fst, x.cls.length ≤ 4 := by
  intro x hx
  obtain ⟨p, hp, rfl⟩ := List.mem_map.1 hx
  exact (h.cls p hp).2
end

set_option maxRecDepth 20000 in
set_option maxHeartbeats 8000000 in
theorem dint_any (ao : Option Addr) (cap : Nat) (bs : List Int) (w : World) (hb : Bytes w w.heap.size ao bs) (hl : bs.length ≤ 1048576) :
    Calls Try.prog 13 #[.slice ao bs.length cap] w fun e w' => ∃ (ad : Option Addr) (c : Nat) (D : List Dg) (ar : Option Addr) (cr : Nat) (rs : List Ru), e = .returned (.tuple #[.slice ad D.length c, .slice ar rs.length cr]) ∧ D.length ≤ 51 ∧ rs.length ≤ 201 ∧ (∀ x ∈ D, x.cls.length ≤ 4) ∧ DRw w' (.slice ad D.length c) D ∧ Rw 3 csRu w' (.slice ar rs.length cr) rs ∧ Below w.heap.size w w' := by
  obtain ⟨i0, hi0, hv0, hv1, hv2⟩ := info_parts infoDgJ
  go_enter Try.func13, Try.ntmps13
  go_wp2_with fail
  refine (new_any ao cap bs w hb hl).mono ?_
  rintro e wN ⟨rfl, hcN, hbN⟩
  have hwN := hbN.size
  have HG : Hid (w.heap.size = w.heap.size) := rfl
  generalize hg0 : w.heap.size = g at hcN hbN ⊢
  clear hb
  have HW := hidden (fun W (hk : Keep g wN W) => hbN.trans (hk.below (Nat.le_refl _) (by have := hcN.1; omega)))
  clear hbN
  go_wp2_with fail
  refine (drules_any g ao cap bs wN hcN).mono ?_
  rintro e w1 ⟨ar, cr, rs, rfl, hrl, hdr⟩
  have hd := DQ.start hdr
  clear hdr hcN
  go_upto_region 4 with fail
  generalize w1.alloc (.cells #[] 26) = w2 at *
  generalize Value.slice (some ⟨w1.heap.size, 0, none⟩) 0 0 = v0 at *
  go_wp2_with fail
  refine (below_any g ao cap bs 5 _ hd.cur (by omega)).mono ?_
  rintro e w3 ⟨b2, rfl, b20, b21, hc3, hk3⟩
  have hd3 := hd.call hc3 hk3
  clear hd hc3 hk3
  obtain ⟨n2, rfl⟩ := Int.eq_ofNat_of_zero_le b20
  go_wp2_with fail
  go_loopw [6, 7] (fun sv kv wr => ∃ (k : Nat) (L : List (Dg × Value)), k + L.length ≤ 6 ∧ kv = .int .i64 k ∧ DQ wN wr g ao cap bs (.slice ar rs.length cr) rs sv L) (fun _ kv _ => (intOf kv).toNat)
  case atStart => exact ⟨n2 + 2, [], by simp; omega, by congr 1; omega, hd3⟩
  case round =>
    clear hd3
    obtain ⟨k, L, hkl, rfl, hd⟩ := hrel
    obtain ⟨a1, c1, rfl⟩ := hd.form
    by_cases hk0 : 0 < k
    · have hki : (0 : Int) < (k : Int) := by omega
      have hDD := ddrug_any g ao cap bs wr hd.cur
      unfold aD at hDD
      go_wp2_with fail
      refine hDD.mono ?_
      rintro e w4 ⟨x, ad, c, rfl, hlen, hdi⟩
      clear hDD
      have hd4 := hd.call hdi.cur hdi.keep
      have HC : Hid (COwn (w4.alloc (.cells #[.int .i64 x.id, .slice ad x.cls.length c, .int .i64 x.pk, .int .i64 x.most, .int .i64 x.day, .int .i64 x.kid] 26)) wN.heap.size (x, .slice ad x.cls.length c) ∧ x.cls.length ≤ 4) := ⟨ownW_below (ownW_base hdi.own hd.keep.size) ((Below.refl _ _).alloc (Nat.le_refl _) _), hlen⟩
      clear hd hdi
      have HX := hidden (hd4.alloc (.cells #[.int .i64 x.id, .slice ad x.cls.length c, .int .i64 x.pk, .int .i64 x.most, .int .i64 x.day, .int .i64 x.kid] 26))
      have hszA := hd4.keep.size
      clear hd4
      go_wp2_with (at_builtin; refine wpList_append_own _ rfl (.tmp 20) (.tmp 23) 31 rfl wN.heap.size 26 i0 (.agg #[.int .i64 0, .slice none 0 0, .int .i64 0, .int .i64 0, .int .i64 0, .int .i64 0]) 6 64 Try.underlying31 hi0 hv0 hv1 hv2 rfl (by decide) _ L.length (cellsD L) rfl HX.out.own ⟨w4.heap.size, 0, none⟩ 1 1 [.int .i64 x.id, .slice ad x.cls.length c, .int .i64 x.pk, .int .i64 x.most, .int .i64 x.day, .int .i64 x.kid] rfl rfl (cell6J _ _ _ _ _ _ _ _) (six_oneJ _ _ _ _ _ _ _ _) (by unfold maxLen; omega) (by omega) (by simp; omega) ?_; intro vA wA2 hoA hgA hnA)
      have hdA := HX.out.app (p := (x, .slice ad x.cls.length c)) HC.out hoA hgA
      go_roundw
      case rel => exact ⟨k - 1, L ++ [(x, .slice ad x.cls.length c)], by simp; omega, by congr 1; omega, hdA⟩
      case measure => simp [intOf]; omega
    · have hki : ¬ (0 : Int) < (k : Int) := by omega
      go_wp2_with fail
      refine (once_any g ao cap bs 60 _ hd.cur (by omega)).mono ?_
      rintro e wu ⟨tu, rfl, hcu, hku⟩
      have hdu := hd.call hcu hku
      clear hd hcu hku
      rcases tu with _ | _
      · go_wp2_with fail
        refine bodyPost_ret (v := .tuple #[.slice a1 L.length c1, .slice ar rs.length cr]) (by simp [results, Try.results13, go_sem]) rfl ?_
        exact ⟨_, _, L.map Prod.fst, _, _, rs, by rw [List.length_map], by rw [List.length_map]; omega, hrl, hdu.small, by rw [List.length_map]; exact hdu.row, hdu.rows, by rw [hg0]; exact HW.out _ hdu.keep⟩
      · have HS : ∃ M : List (Dg × Value), M.length ≤ 51 ∧ DQ wN wu g ao cap bs (.slice ar rs.length cr) rs (.slice a1 L.length c1) M := ⟨L, by omega, hdu⟩
        clear hdu
        generalize hVS : Value.slice a1 L.length c1 = vS at *
        clear hVS
        go_wp2_with fail
        go_loopw [6] (fun v wr => ∃ M : List (Dg × Value), M.length ≤ 51 ∧ DQ wN wr g ao cap bs (.slice ar rs.length cr) rs v M) (fun v _ => match v with | .slice _ n _ => 51 - n | _ => 0)
        case atStart => exact HS
        case round =>
          clear HS
          obtain ⟨M, hM, hdl⟩ := hrel
          obtain ⟨a2, c2, rfl⟩ := hdl.form
          go_wp2_with fail
          refine (below_any g ao cap bs 2 _ hdl.cur (by omega)).mono ?_
          rintro e wb ⟨yb, rfl, hb0, hb1, hcb, hkb⟩
          have hd := hdl.call hcb hkb
          clear hcb hkb hdl
          by_cases hlt : (M.length : Int) < 50 + yb
          · have hlM : M.length ≤ 50 := by omega
            have HC : ∀ W : World, Hid (COwn W wN.heap.size (⟨1, [], 1, 1, 1, 0⟩, .slice none 0 0) ∧ (⟨1, [], 1, 1, 1, 0⟩ : Dg).cls.length ≤ 4) := fun W => ⟨⟨rfl, .inl ⟨rfl, rfl⟩⟩, by simp⟩
            have HX := hidden (hd.alloc (.cells #[.int .i64 1, .slice none 0 0, .int .i64 1, .int .i64 1, .int .i64 1, .int .i64 0] 26))
            have hszA := hd.keep.size
            clear hd
            go_wp2_with (at_builtin; refine wpList_append_own _ rfl (.tmp 33) (.tmp 35) 31 rfl wN.heap.size 26 i0 (.agg #[.int .i64 0, .slice none 0 0, .int .i64 0, .int .i64 0, .int .i64 0, .int .i64 0]) 6 64 Try.underlying31 hi0 hv0 hv1 hv2 rfl (by decide) _ M.length (cellsD M) rfl HX.out.own ⟨wb.heap.size, 0, none⟩ 1 1 [.int .i64 1, .slice none 0 0, .int .i64 1, .int .i64 1, .int .i64 1, .int .i64 0] rfl rfl (cell6J _ _ _ _ _ _ _ _) (six_oneJ _ _ _ _ _ _ _ _) (by unfold maxLen; omega) (by omega) (by simp; omega) ?_; intro vA wA2 hoA hgA hnA)
            have hdA := HX.out.app (p := (⟨1, [], 1, 1, 1, 0⟩, .slice none 0 0)) (HC _).out hoA hgA

            obtain ⟨a6, c6, rfl⟩ := hdA.form
            go_roundw
            case rel => exact ⟨_, by rw [List.length_append]; simp; omega, hdA⟩
            case measure => simp; omega
          · go_wp2_with fail
            refine bodyPost_ret (v := .tuple #[.slice a2 M.length c2, .slice ar rs.length cr]) (by simp [results, Try.results13, go_sem]) rfl ?_
            exact ⟨_, _, M.map Prod.fst, _, _, rs, by rw [List.length_map], by rw [List.length_map]; omega, hrl, hd.small, by rw [List.length_map]; exact hd.row, hd.rows, by rw [hg0]; exact HW.out _ hd.keep⟩
end Go.Proofs.Ytcnhogghfedcdaa
