/-
  Watch: the specification's.
-/
import Derived.Test.YtdjnnhdeijnhgabMw24
import Derived.Test.YtdjnnhdeijnhgabMw3
import Derived.Test.YtdjnnhdeijnhgabMw22
import Derived.WideShapes
import Derived.ProofKit
import Derived.OpenShut
import Derived.ShutString
import Derived.ChangeOld
import Derived.Below
import Derived.Lib.SmallJoins
import Derived.Test.YtdjnnhdeijnhgabMw21
import Derived.Test.YtdjnnhdeijnhgabMw25
namespace Go.Proofs.Ytdjnnhdeijnhgab
open Go.RowKit Va Rn
set_option linter.all false

theorem nw_meet {s c s' c' : Int} {b b' : Bool} {g : Bool} {X : Nw} {P : Prop} (h : (⟨s, c, b, g⟩ : Nw) = X) (hp : P) (hX : X.s = s' ∧ X.c = c' ∧ X.b = b') : Value.int .i64 s' = .int .i64 s ∧ Value.int .i64 c' = .int .i64 c ∧ Value.bool b' = .bool b ∧ P := by
  subst h
  obtain ⟨rfl, rfl, rfl⟩ := hX
  exact ⟨rfl, rfl, rfl, hp⟩
open Lean.Parser.Tactic in
macro "nw_fin" a:ident b:ident : tactic => `(tactic| (refine nw_meet (Hid.out $a) rfl ?_; have e := Hid.out $b; (try simp only [beq_iff_eq, beq_eq_false_iff_ne, Bool.not_eq_true, ne_eq] at *); clear $a $b; (repeat' split at e) <;> (try simp only [true_and, not_true_eq_false] at *) <;> first | omega | (subst e; (repeat' split) <;> (try simp only [not_true_eq_false] at *) <;> first | omega | (exact absurd trivial (by assumption : ¬True)) | contradiction | (refine ⟨?_, ?_, ?_⟩ <;> first | rfl | omega | (simp; done) | (trace_state; sorry)))))
theorem tkB_v {t : Tk} (h : tkB t = true) : -100000 ≤ t.v ∧ t.v ≤ 100000 := by
  unfold tkB vB at h
  simp at h
  exact h.1

set_option maxRecDepth 20000 in
set_option maxHeartbeats 16000000 in
theorem swatch_any (a : Al) (u : Value) (l : List Tk) (w : World) (h : VRw 3 cvTk w u l) (hn : l.length ≤ 1048576) :
    Calls Try.prog 7 #[aA a, u] w fun e w' => ∃ v', e = .returned v' ∧ w'.ownsRow w.heap.size 2 1 v' (watch a l).length (ints (watch a l)) ∧ Below w.heap.size w w' := by
  have HR := hidden h
  obtain ⟨ao, cap, rfl⟩ := h.form
  obtain ⟨i0, hi0, hy0, hy1, hy2⟩ := info_partsW infoW64
  have hAl := fun W => saok_any a W
  have HT := hidden (fun W (hW : Below w.heap.size w W) => sticks_any (.slice ao l.length cap) l W (h.below hW) hn)
  have HV : Hid (watch a l = if alOk a && tksB l then toldK a l l.length else []) := rfl
  have HS := hidden (fun k => stK_bd a l k)
  have HX := hidden (fun (k : Nat) (x : Tk) (hx : l[k]? = some x) => stK_next (a := a) hx)
  have HSU := hidden (toldK_succ a l)
  have HAO := hidden (fun (q : alOk a = true) => alOk_iff.1 q)
  have HBH : Hid (∀ (n : Nw) (x : Tk), behind a n x = if x.k then
    if sideF a n.s x.v = 0 then ⟨0, if sideF a n.s x.v = n.s then n.c else 0, n.b && !x.h, false⟩
    else if (if sideF a n.s x.v = n.s then n.c else 0) + 1 = a.dl + 1 then ⟨sideF a n.s x.v, (if sideF a n.s x.v = n.s then n.c else 0) + 1, true, !(n.b && !x.h)⟩
    else ⟨sideF a n.s x.v, (if sideF a n.s x.v = n.s then n.c else 0) + 1, n.b && !x.h, false⟩
  else ⟨n.s, n.c, n.b && !x.h, false⟩) := fun _ _ => rfl
  have HSD : Hid (∀ s v : Int, sideF a s v = if s = 1 ∧ a.hi - a.sl < v then 1 else if s = -1 ∧ v < a.lo + a.sl then -1 else if a.hi < v then 1 else if v < a.lo then -1 else 0) := fun _ _ => rfl
  obtain ⟨hi, lo, sl, dl⟩ := a
  unfold aA at *
  dsimp only at *
  have HB0 : Hid (Below w.heap.size w ((w.alloc (.cells #[.int .i64 hi, .int .i64 lo, .int .i64 sl, .int .i64 dl] 28)).alloc (.cells #[] 2))) := ((Below.refl _ _).alloc (Nat.le_refl _) _).alloc (by simp) _
  have HK0 : Hid (((w.alloc (.cells #[.int .i64 hi, .int .i64 lo, .int .i64 sl, .int .i64 dl] 28)).alloc (.cells #[] 2)).heap[w.heap.size]? = some (.cells #[.int .i64 hi, .int .i64 lo, .int .i64 sl, .int .i64 dl] 28 (0, 0))) := by
    exact (heap_alloc_old _ _ (by simp)).trans (heap_alloc_new w _)
  have HO0 : Hid (((w.alloc (.cells #[.int .i64 hi, .int .i64 lo, .int .i64 sl, .int .i64 dl] 28)).alloc (.cells #[] 2)).ownsRow (w.heap.size + 1) 2 1 (.slice (some ⟨w.heap.size + 1, 0, none⟩) 0 0) 0 []) := by
    have := ownW_new (w.alloc (.cells #[.int .i64 hi, .int .i64 lo, .int .i64 sl, .int .i64 dl] 28)) 2 1
    have hz : (w.alloc (.cells #[.int .i64 hi, .int .i64 lo, .int .i64 sl, .int .i64 dl] 28)).heap.size = w.heap.size + 1 := by simp
    rw [hz] at this
    exact this
  clear h
  cases hA : alOk ⟨hi, lo, sl, dl⟩ with
  | false =>
    rw [hA] at hAl
    have HV2 : Hid (watch ⟨hi, lo, sl, dl⟩ l = []) := by rw [Hid, HV.out, hA]; rfl
    clear HV
    go_enter Try.func7, Try.ntmps7
    go_wp2_with (go_at_call 21; refine (hAl _).mono ?_; rintro e w1 ⟨rfl, hb1⟩)
    go_ret
    exact ⟨_, rfl, by rw [HV2.out]; exact ownW_base (ownW_below HO0.out hb1) (by omega), onto HB0.out hb1⟩
  | true =>
    rw [hA] at hAl
    obtain ⟨⟨a1, a2⟩, ⟨a3, a4⟩, a5, ⟨a6, a7⟩, a8, a9⟩ := HAO.out hA
    clear HAO
    cases hB : tksB l with
    | false =>
      have HV2 : Hid (watch ⟨hi, lo, sl, dl⟩ l = []) := by rw [Hid, HV.out, hB, Bool.and_false]; rfl
      rw [hB] at HT
      clear HV
      go_enter Try.func7, Try.ntmps7
      go_wp2_with (first | (go_at_call 21; refine (hAl _).mono ?_; rintro e w1 ⟨rfl, hb1⟩; have hb1' := onto HB0.out hb1) | (go_at_call 22; refine (HT.out _ hb1').mono ?_; rintro e w2 ⟨rfl, hb2⟩))
      go_ret
      exact ⟨_, rfl, by rw [HV2.out]; exact ownW_base (ownW_below (ownW_below HO0.out hb1) hb2) (by omega), onto hb1' hb2⟩
    | true =>
      have HV2 : Hid (watch ⟨hi, lo, sl, dl⟩ l = toldK ⟨hi, lo, sl, dl⟩ l l.length) := by rw [Hid, HV.out, hA, hB]; rfl
      obtain ⟨hl2, hto⟩ := (tksB_iff l).1 hB
      have HTO := hidden hto
      rw [hB] at HT
      clear HV hto
      go_enter Try.func7, Try.ntmps7
      go_wp2_with (first | (go_at_call 21; refine (hAl _).mono ?_; rintro e w1 ⟨rfl, hb1⟩; have hb1' := onto HB0.out hb1) | (go_at_call 22; refine (HT.out _ hb1').mono ?_; rintro e w2 ⟨rfl, hb2⟩))
      have HO2 := hidden (ownW_below (ownW_below HO0.out hb1) hb2)
      have HK2 := hidden ((hb2.block w.heap.size (by have := hb1.size; simp at this; show w.heap.size < _; omega)).trans ((hb1.block w.heap.size (by simp; omega)).trans HK0.out))
      have HB2 := hidden (onto hb1' hb2)
      clear hb1 hb1' hb2 HO0 HK0 HB0 HT hAl
      go_loopw [5, 6, 7, 8, 9, 10, 11, 12] (fun ov sv cv bv iv _ _ _ wr => ∃ (i : Nat) (L : List Int), i ≤ l.length ∧ iv = .int .i64 i ∧ sv = .int .i64 (stK ⟨hi, lo, sl, dl⟩ l i).s ∧ cv = .int .i64 (stK ⟨hi, lo, sl, dl⟩ l i).c ∧ bv = .bool (stK ⟨hi, lo, sl, dl⟩ l i).b ∧ Hid (toldK ⟨hi, lo, sl, dl⟩ l i = L) ∧ (∃ ad c, ov = .slice ad L.length c ∧ wr.ownsRow (w.heap.size + 1) 2 1 (.slice ad L.length c) L.length (ints L)) ∧ Hid (wr.heap[w.heap.size]? = some (.cells #[.int .i64 hi, .int .i64 lo, .int .i64 sl, .int .i64 dl] 28 (0, 0))) ∧ Below w.heap.size w wr) (fun _ _ _ _ iv _ _ _ _ => l.length - (intOf iv).toNat)
      case atStart => exact ⟨0, [], Nat.zero_le _, rfl, rfl, rfl, rfl, rfl, ⟨_, _, rfl, HO2.out⟩, HK2, HB2.out⟩
      case round =>
        clear HO2 HK2 HB2
        obtain ⟨i, L, hi', rfl, rfl, rfl, rfl, HL, ⟨ad, c, rfl, ho⟩, hK, hb⟩ := hrel
        have hsz := hb.size
        have hLn : L.length ≤ 2000 := by rw [← HL.out, toldK_len]; omega
        have HO := hidden ho
        by_cases hlt : i < l.length
        · have hlti : (i : Int) < (l.length : Int) := by omega
          have hi0' : (0 : Int) ≤ (i : Int) := by omega
          obtain ⟨x, hx⟩ := some_of l i hlt
          obtain ⟨g, off, rfl, hg, hcs⟩ := (HR.out.below hb).at hx
          have c0 : wr.cell? ⟨g, off + i * 3, none⟩ = some (.int .i64 x.v) := hcs 0 (by omega)
          have c1 : wr.cell? ⟨g, off + i * 3 + 1, none⟩ = some (.bool x.k) := hcs 1 (by omega)
          have c2 : wr.cell? ⟨g, off + i * 3 + 2, none⟩ = some (.bool x.h) := hcs 2 (by omega)
          have HN := hidden (HX.out i x hx)
          have HT2 := hidden (HSU.out i)
          have hXB := HTO.out i x hlt hx
          obtain ⟨hs, hc0, hc1⟩ := HS.out i
          have HS2 := hidden (HS.out (i + 1))
          have HBX := hidden (HBH.out (stK ⟨hi, lo, sl, dl⟩ l i) x)
          have HSX := hidden (HSD.out (stK ⟨hi, lo, sl, dl⟩ l i).s x.v)
          rw [HN.out] at HT2 HS2
          generalize stK ⟨hi, lo, sl, dl⟩ l i = n at *
          generalize behind ⟨hi, lo, sl, dl⟩ n x = m at *
          generalize sideF ⟨hi, lo, sl, dl⟩ n.s x.v = z at *
          obtain ⟨s, cc, b, gg⟩ := n
          obtain ⟨ms, mc, mb, mg⟩ := m
          have hv := (tkB_v hXB)
          obtain ⟨xv, xk, xh⟩ := x
          dsimp only at c0 c1 c2 hs hc0 hc1 hv HBX HSX
          obtain ⟨hv1, hv2⟩ := hv
          have HW := hidden (hb.alloc hsz (.cells #[.int .i64 xv, .bool xk, .bool xh] 42))
          have HOW := hidden (HO.out.alloc (.cells #[.int .i64 xv, .bool xk, .bool xh] 42))
          have HKW := hidden ((heap_alloc_old wr (.cells #[.int .i64 xv, .bool xk, .bool xh] 42) (show w.heap.size < wr.heap.size from (Array.getElem?_eq_some_iff.1 hK.out).1)).trans hK.out)
          have hsb : -1 ≤ s ∧ s ≤ 1 := by omega
          obtain ⟨hsb1, hsb2⟩ := hsb
          clear ho hx hcs hXB hb
          cases xh
          · go_upto_if 36 with fail
            go_cut [6, 7, 8] from 37 to 87 (fun sv cv bv wx => sv = .int .i64 ms ∧ cv = .int .i64 mc ∧ bv = .bool mb ∧ wx = wr.alloc (.cells #[.int .i64 xv, .bool xk, .bool false] 42))
            · obtain ⟨⟨m0, m1, m2, m3⟩, -⟩ := at_four HKW.out
              cases xk
              · go_wp2_with fail
                go_meet
                exact nw_meet HBX.out rfl (by simp)
              · rcases hs with rfl | rfl | rfl
                · go_wp2
                  all_goals go_meet
                  all_goals nw_fin HBX HSX
                · go_wp2
                  all_goals go_meet
                  all_goals nw_fin HBX HSX
                · go_wp2
                  all_goals go_meet
                  all_goals nw_fin HBX HSX
            · obtain ⟨rfl, rfl, rfl, rfl⟩ := hcut
              obtain ⟨hms, hm0, hm1⟩ := HS2.out
              dsimp only at hms hm0 hm1
              have hmb : -1 ≤ ms ∧ ms ≤ 1 := by omega
              obtain ⟨hmb1, hmb2⟩ := hmb
              clear HS2 hms HBX HSX HS HX HSU HBH HSD
              have key : ∀ (z : Int), toldN ⟨ms, mc, mb, mg⟩ = z → ∀ (v5 : Value) (w5 : World), w5.ownsRow (w.heap.size + 1) 2 1 v5 (L.length + 1) (ints L ++ [.int .i64 z]) → ((wr.alloc (.cells #[.int .i64 xv, .bool xk, .bool false] 42)).alloc (.cells #[.int .i64 z] 2)).grownBy w5 (Value.slice ad L.length c).ownBlock → ∃ ad5 c5, v5 = .slice ad5 (L ++ [z]).length c5 ∧ Hid (toldK ⟨hi, lo, sl, dl⟩ l (i + 1) = L ++ [z]) ∧ w5.ownsRow (w.heap.size + 1) 2 1 (.slice ad5 (L ++ [z]).length c5) (L ++ [z]).length (ints (L ++ [z])) ∧ Below w.heap.size w w5 ∧ Hid (w5.heap[w.heap.size]? = some (.cells #[.int .i64 hi, .int .i64 lo, .int .i64 sl, .int .i64 dl] 28 (0, 0))) := by
                intro z hz v5 w5 ho5 hg5
                obtain ⟨ad5, c5, rfl⟩ := ownW_slice ho5
                have hlt0 : w.heap.size < wr.heap.size := (Array.getElem?_eq_some_iff.1 hK.out).1
                refine ⟨ad5, c5, by rw [List.length_append]; rfl, by rw [Hid, HT2.out, HL.out, hz], ?_, ?_, ?_⟩
                · rw [List.length_append]
                  unfold ints at ho5 ⊢
                  rw [List.map_append]
                  exact ho5
                · exact (HW.out.alloc (by simp; omega) _).grown hg5 (by simp; omega) (fun k hk => by have := (HO.out.lt k hk).1; omega)
                · rw [Hid, hg5.block w.heap.size (by simp; omega) (fun e => by have := (HO.out.lt w.heap.size e.symm).1; omega)]
                  exact (heap_alloc_old _ _ (by simp; omega)).trans HKW.out
              have HKEY := hidden key
              clear key
              cases mb
              · go_wp2_with (at_builtin; refine wpList_append_own _ rfl (.tmp 92) (.tmp 94) 26 rfl (w.heap.size + 1) 2 i0 (.int .i64 0) 1 8 Try.underlying26 hi0 hy0 hy1 hy2 rfl (by decide) _ L.length (ints L) rfl (HOW.out.alloc _) ⟨wr.heap.size + 1, 0, none⟩ 1 1 [.int .i64 ms] rfl rfl (by simpa using cell_oneW (wr.alloc (.cells #[.int .i64 xv, .bool xk, .bool false] 42)) (.int .i64 ms) 2) (by simp [Value.oneCell']) (by unfold maxLen; omega) (by omega) (by simp; omega) ?_; intro v5 w5 ho5 hg5 hn5; obtain ⟨ad5, c5, e5, HT5, ho6, hb5, hk5⟩ := HKEY.out ms rfl v5 w5 ho5 hg5; subst e5)
                go_roundw
                case rel => exact ⟨i + 1, L ++ [ms], by omega, rfl, by rw [HN.out], by rw [HN.out], by rw [HN.out], HT5, ⟨ad5, c5, by rw [List.length_append]; rfl, ho6⟩, hk5, hb5⟩
                case measure => simp [intOf]; omega
              · go_wp2_with (at_builtin; refine wpList_append_own _ rfl (.tmp 92) (.tmp 94) 26 rfl (w.heap.size + 1) 2 i0 (.int .i64 0) 1 8 Try.underlying26 hi0 hy0 hy1 hy2 rfl (by decide) _ L.length (ints L) rfl (HOW.out.alloc _) ⟨wr.heap.size + 1, 0, none⟩ 1 1 [.int .i64 (ms + 10)] rfl rfl (by simpa using cell_oneW (wr.alloc (.cells #[.int .i64 xv, .bool xk, .bool false] 42)) (.int .i64 (ms + 10)) 2) (by simp [Value.oneCell']) (by unfold maxLen; omega) (by omega) (by simp; omega) ?_; intro v5 w5 ho5 hg5 hn5; obtain ⟨ad5, c5, e5, HT5, ho6, hb5, hk5⟩ := HKEY.out (ms + 10) rfl v5 w5 ho5 hg5; subst e5)
                go_roundw
                case rel => exact ⟨i + 1, L ++ [(ms + 10)], by omega, rfl, by rw [HN.out], by rw [HN.out], by rw [HN.out], HT5, ⟨ad5, c5, by rw [List.length_append]; rfl, ho6⟩, hk5, hb5⟩
                case measure => simp [intOf]; omega
          · go_upto_if 36 with fail
            go_cut [6, 7, 8] from 37 to 87 (fun sv cv bv wx => sv = .int .i64 ms ∧ cv = .int .i64 mc ∧ bv = .bool mb ∧ wx = wr.alloc (.cells #[.int .i64 xv, .bool xk, .bool true] 42))
            · obtain ⟨⟨m0, m1, m2, m3⟩, -⟩ := at_four HKW.out
              cases xk
              · go_wp2_with fail
                go_meet
                exact nw_meet HBX.out rfl (by simp)
              · rcases hs with rfl | rfl | rfl
                · go_wp2
                  all_goals go_meet
                  all_goals nw_fin HBX HSX
                · go_wp2
                  all_goals go_meet
                  all_goals nw_fin HBX HSX
                · go_wp2
                  all_goals go_meet
                  all_goals nw_fin HBX HSX
            · obtain ⟨rfl, rfl, rfl, rfl⟩ := hcut
              obtain ⟨hms, hm0, hm1⟩ := HS2.out
              dsimp only at hms hm0 hm1
              have hmb : -1 ≤ ms ∧ ms ≤ 1 := by omega
              obtain ⟨hmb1, hmb2⟩ := hmb
              clear HS2 hms HBX HSX HS HX HSU HBH HSD
              have key : ∀ (z : Int), toldN ⟨ms, mc, mb, mg⟩ = z → ∀ (v5 : Value) (w5 : World), w5.ownsRow (w.heap.size + 1) 2 1 v5 (L.length + 1) (ints L ++ [.int .i64 z]) → ((wr.alloc (.cells #[.int .i64 xv, .bool xk, .bool true] 42)).alloc (.cells #[.int .i64 z] 2)).grownBy w5 (Value.slice ad L.length c).ownBlock → ∃ ad5 c5, v5 = .slice ad5 (L ++ [z]).length c5 ∧ Hid (toldK ⟨hi, lo, sl, dl⟩ l (i + 1) = L ++ [z]) ∧ w5.ownsRow (w.heap.size + 1) 2 1 (.slice ad5 (L ++ [z]).length c5) (L ++ [z]).length (ints (L ++ [z])) ∧ Below w.heap.size w w5 ∧ Hid (w5.heap[w.heap.size]? = some (.cells #[.int .i64 hi, .int .i64 lo, .int .i64 sl, .int .i64 dl] 28 (0, 0))) := by
                intro z hz v5 w5 ho5 hg5
                obtain ⟨ad5, c5, rfl⟩ := ownW_slice ho5
                have hlt0 : w.heap.size < wr.heap.size := (Array.getElem?_eq_some_iff.1 hK.out).1
                refine ⟨ad5, c5, by rw [List.length_append]; rfl, by rw [Hid, HT2.out, HL.out, hz], ?_, ?_, ?_⟩
                · rw [List.length_append]
                  unfold ints at ho5 ⊢
                  rw [List.map_append]
                  exact ho5
                · exact (HW.out.alloc (by simp; omega) _).grown hg5 (by simp; omega) (fun k hk => by have := (HO.out.lt k hk).1; omega)
                · rw [Hid, hg5.block w.heap.size (by simp; omega) (fun e => by have := (HO.out.lt w.heap.size e.symm).1; omega)]
                  exact (heap_alloc_old _ _ (by simp; omega)).trans HKW.out
              have HKEY := hidden key
              clear key
              cases mb
              · go_wp2_with (at_builtin; refine wpList_append_own _ rfl (.tmp 92) (.tmp 94) 26 rfl (w.heap.size + 1) 2 i0 (.int .i64 0) 1 8 Try.underlying26 hi0 hy0 hy1 hy2 rfl (by decide) _ L.length (ints L) rfl (HOW.out.alloc _) ⟨wr.heap.size + 1, 0, none⟩ 1 1 [.int .i64 ms] rfl rfl (by simpa using cell_oneW (wr.alloc (.cells #[.int .i64 xv, .bool xk, .bool true] 42)) (.int .i64 ms) 2) (by simp [Value.oneCell']) (by unfold maxLen; omega) (by omega) (by simp; omega) ?_; intro v5 w5 ho5 hg5 hn5; obtain ⟨ad5, c5, e5, HT5, ho6, hb5, hk5⟩ := HKEY.out ms rfl v5 w5 ho5 hg5; subst e5)
                go_roundw
                case rel => exact ⟨i + 1, L ++ [ms], by omega, rfl, by rw [HN.out], by rw [HN.out], by rw [HN.out], HT5, ⟨ad5, c5, by rw [List.length_append]; rfl, ho6⟩, hk5, hb5⟩
                case measure => simp [intOf]; omega
              · go_wp2_with (at_builtin; refine wpList_append_own _ rfl (.tmp 92) (.tmp 94) 26 rfl (w.heap.size + 1) 2 i0 (.int .i64 0) 1 8 Try.underlying26 hi0 hy0 hy1 hy2 rfl (by decide) _ L.length (ints L) rfl (HOW.out.alloc _) ⟨wr.heap.size + 1, 0, none⟩ 1 1 [.int .i64 (ms + 10)] rfl rfl (by simpa using cell_oneW (wr.alloc (.cells #[.int .i64 xv, .bool xk, .bool true] 42)) (.int .i64 (ms + 10)) 2) (by simp [Value.oneCell']) (by unfold maxLen; omega) (by omega) (by simp; omega) ?_; intro v5 w5 ho5 hg5 hn5; obtain ⟨ad5, c5, e5, HT5, ho6, hb5, hk5⟩ := HKEY.out (ms + 10) rfl v5 w5 ho5 hg5; subst e5)
                go_roundw
                case rel => exact ⟨i + 1, L ++ [(ms + 10)], by omega, rfl, by rw [HN.out], by rw [HN.out], by rw [HN.out], HT5, ⟨ad5, c5, by rw [List.length_append]; rfl, ho6⟩, hk5, hb5⟩
                case measure => simp [intOf]; omega
        · have hlti : ¬ (i : Int) < (l.length : Int) := by omega
          have hil : i = l.length := by omega
          subst hil
          go_wp2_with fail
          go_ret
          exact ⟨_, rfl, by rw [HV2.out, HL.out]; exact ownW_base HO.out (by omega), hb⟩
end Go.Proofs.Ytdjnnhdeijnhgab

/-
  An alarm that came in, read; and copied by the law.
-/
namespace Go.Proofs.Ytdjnnhdeijnhgab
open Go.RowKit Go.WideShapes Go.ChangeShapes Go.Joins Va

set_option maxHeartbeats 2000000 in
theorem toal_any (x : Al) (w : World) : Calls Try.prog 8 #[aA x] w fun r w' => r = .returned (aA x) ∧ Below w.heap.size w w' := by
  unfold aA
  go_enter Try.func8, Try.ntmps8
  go_wp2
  exact bodyPost_ret (v := .agg #[.int .i64 x.hi, .int .i64 x.lo, .int .i64 x.sl, .int .i64 x.dl]) (by simp [results, Try.results8, go_sem]) rfl ⟨rfl, by repeat (first | exact Below.refl _ _ | assumption | refine st_drew ?_ | refine st_drewN ?_ _ | refine Below.setCell ?_ (by first | omega | (simp; done) | (simp; omega)) _ | refine Below.alloc ?_ (by first | omega | (simp; done) | (simp; omega)) _)⟩

set_option maxRecDepth 100000 in
theorem fsAl : ∃ fs, Try.prog.underlying 23 = some (.struct fs) ∧ ∀ k, k < 4 → ∃ f, fs[k]? = some f ∧ f.offset = k ∧ Try.prog.cellsOf f.type = 1 ∧ Try.prog.underlying f.type = some (.int .i64) := by
  refine ⟨_, Try.underlying23, fun k hk => ?_⟩
  match k, hk with
  | 0, _ => exact ⟨_, rfl, rfl, by kernel_rfl, Try.underlying2⟩
  | 1, _ => exact ⟨_, rfl, rfl, by kernel_rfl, Try.underlying2⟩
  | 2, _ => exact ⟨_, rfl, rfl, by kernel_rfl, Try.underlying2⟩
  | 3, _ => exact ⟨_, rfl, rfl, by kernel_rfl, Try.underlying2⟩
theorem array4a {α : Type} {cs : Array α} (h : cs.size = 4) : ∃ c0 c1 c2 c3, cs = #[c0, c1, c2, c3] := by
  obtain ⟨l⟩ := cs
  match l, h with
  | [c0, c1, c2, c3], _ => exact ⟨c0, c1, c2, c3, rfl⟩

set_option maxRecDepth 100000 in
theorem alarm_of_read {H : Type} {enc : TypeId × Value → H} {W : World} {sp : Nat → Bool} {hd : Bool} {r : Reach} {b0 : Nat} {v : Value} {d : DataW H} {p : List MemPlace}
    (hv : Value.okWide Try.prog W r b0 23 v) (h : DataW.Trod enc Try.prog W 0 sp hd 23 v d p) : ∃ x : Al, v = aA x := by
  obtain ⟨fs, hu, hfs⟩ := fsAl
  obtain ⟨cs, rfl, hsz⟩ := okWide_struct hu hv
  obtain ⟨c0, c1, c2, c3, rfl⟩ := array4a (hsz.trans (by kernel_rfl))
  obtain ⟨fuel, hf⟩ := h
  obtain ⟨xs, n, _, _, _, hxl, hg⟩ := DataW.trod_struct hu hf
  have hq : ∀ k, k < 4 → ∃ z : Int, [c0, c1, c2, c3][k]? = some (.int .i64 z) := by
    intro k hk
    obtain ⟨f, hf1, hf2, hf3, hf4⟩ := hfs k hk
    have h2 := hg k f hf1
    rw [hf2, hf3] at h2
    have hxk : k < xs.length := by rw [hxl]; exact (Array.getElem?_eq_some_iff.1 hf1).1
    rw [List.getElem?_eq_getElem hxk] at h2
    obtain ⟨z, hz, _⟩ := DataW.trod_int hf4 h2
    refine ⟨z, ?_⟩
    match k, hk with
    | 0, _ => simpa [Value.cells] using hz
    | 1, _ => simpa [Value.cells] using hz
    | 2, _ => simpa [Value.cells] using hz
    | 3, _ => simpa [Value.cells] using hz
  obtain ⟨z0, e0⟩ := hq 0 (by omega)
  obtain ⟨z1, e1⟩ := hq 1 (by omega)
  obtain ⟨z2, e2⟩ := hq 2 (by omega)
  obtain ⟨z3, e3⟩ := hq 3 (by omega)
  simp at e0 e1 e2 e3
  subst e0 e1 e2 e3
  exact ⟨⟨z0, z1, z2, z3⟩, rfl⟩
end Go.Proofs.Ytdjnnhdeijnhgab

/-
  The helpers of Watch's law, as goroutine 0 calls them beside leavers.
-/
namespace Go.Proofs.Ytdjnnhdeijnhgab
open Va Go.RowKit
set_option linter.all false
/-- Marked numbers in a block of one's own. -/
def MkI (w : World) (base : Nat) (v : Value) (m : Nat) : Prop := Own 1 csM w base v (marks 1 1 m)
theorem MkI.below {w w' : World} {base m : Nat} {v : Value} (h : MkI w base v m) (hb : Below w.heap.size w w') : MkI w' base v m := Own.below h hb
theorem MkI.row {w : World} {base m : Nat} {v : Value} (h : MkI w base v m) : Rw 1 csM w v (marks 1 1 m) := Own.row h
theorem vints {w : World} {base : Nat} {v : Value} {L : List Int} (h : w.ownsRow base 2 1 v L.length (ints L)) : VOwn 1 cvI w base v L := vownI h
theorem watch_len (a : Al) (l : List Tk) : (watch a l).length ≤ l.length := by
  unfold watch
  split
  · rw [toldK_len]; exact Nat.le_refl _
  · simp
end Go.Proofs.Ytdjnnhdeijnhgab
namespace Go.Proofs.Ytdjnnhdeijnhgab.Rn
open Go Go.Conc Va Go.RowKit
set_option linter.all false
set_option maxRecDepth 20000

theorem MkI.hb {w w' : World} {base m : Nat} {v : Value} (h : MkI w base v m) (k : HB w.heap.size w w') : MkI w' base v m := _root_.Go.Proofs.Ytdjnnhdeijnhgab.MkI.below (w := { w with tape := w'.tape, os := w'.os, output := w'.output }) h k.below
theorem VOwnI.hb {w w' : World} {b : Nat} {v : Value} {l : List Int} (h : VOwn 1 cvI w b v l) (k : HB w.heap.size w w') : VOwn 1 cvI w' b v l := _root_.Go.Proofs.Ytdjnnhdeijnhgab.VOwn.below (w := { w with tape := w'.tape, os := w'.os, output := w'.output }) h k.below
section
variable {wl : World} {v u : Value} {l : List Tk} {L : List Int}
theorem c_al (a : Al) (T : Tape) : Calls Try.prog 8 #[aA a] { wl with tape := T, drawn := 0 } fun e w => ∃ v', e = .returned v' ∧ v' = aA a ∧ HB wl.heap.size wl w :=
  (toal_any a { wl with tape := T, drawn := 0 }).mono fun e w ⟨q1, q2⟩ => ⟨_, q1, rfl, HB.of q2⟩
theorem c_markW {base : Nat} {wx : World} (hx : VOwn 3 cvTk wx base v l) (h : VOwn 3 cvTk wl base v l) (hn : l.length ≤ 1048576) (T : Tape) : Calls Try.prog 13 #[v, .int .i64 1] { wl with tape := T, drawn := 0 } fun e w => ∃ v', e = .returned v' ∧ v' = .int .i64 (1 + 3 * (l.length : Int)) ∧ HB base wl w ∧ ∀ b2 v2 l2, wx.heap.size ≤ b2 → VOwn 1 cvI wl b2 v2 l2 → VOwn 1 cvI w b2 v2 l2 :=
  (marktk_any v l base 1 { wl with tape := T, drawn := 0 } h hn (by omega) (by omega)).mono fun e w ⟨q1, q2, q3, q4⟩ => ⟨_, q1, rfl, HB.of (VOwn.mark_below (w := { wl with tape := T, drawn := 0 }) h q3 q4 (Below.refl _ _) (Nat.le_refl _)), fun b2 v2 l2 hb h2 => VOwn.mark_own (w := { wl with tape := T, drawn := 0 }) hx hb q3 q4 h2⟩
theorem c_specW (a : Al) (h : VRw 3 cvTk wl v l) (hn : l.length ≤ 1048576) (T : Tape) : Calls Try.prog 7 #[aA a, v] { wl with tape := T, drawn := 0 } fun e w => ∃ v', e = .returned v' ∧ VOwn 1 cvI w wl.heap.size v' (watch a l) ∧ HB wl.heap.size wl w :=
  (swatch_any a v l { wl with tape := T, drawn := 0 } h hn).mono fun e w ⟨v', q1, q2, q3⟩ => ⟨v', q1, vints q2, HB.of q3⟩
theorem c_eqI (h : VRw 1 cvI wl v L) (h' : VRw 1 cvI wl u L) (hn : L.length ≤ 1048576) (T : Tape) : Calls Try.prog 11 #[v, u] { wl with tape := T, drawn := 0 } fun e w => ∃ v', e = .returned v' ∧ v' = .bool true ∧ HB wl.heap.size wl w :=
  (veqints_any v u L { wl with tape := T, drawn := 0 } h h' hn).mono fun e w ⟨q1, q2⟩ => ⟨_, q1, rfl, HB.of q2⟩
theorem c_markI {base : Nat} (h : VOwn 1 cvI wl base v L) (hn : L.length ≤ 1048576) (T : Tape) : Calls Try.prog 14 #[v, .int .i64 1] { wl with tape := T, drawn := 0 } fun e w => ∃ v', e = .returned v' ∧ v' = .int .i64 (1 + (L.length : Int)) ∧ MkI w base v L.length ∧ HB base wl w :=
  (vmarkint_any v L base 1 { wl with tape := T, drawn := 0 } h hn (by omega) (by omega)).mono fun e w ⟨q1, q2, q3, q4⟩ => ⟨_, q1, rfl, q2, HB.of (VOwn.mark_below (w := { wl with tape := T, drawn := 0 }) h q3 q4 (Below.refl _ _) (Nat.le_refl _))⟩
theorem c_heldI {m base : Nat} (h : MkI wl base v m) (hm : m ≤ 1048576) (T : Tape) : Calls Try.prog 15 #[v, .int .i64 1] { wl with tape := T, drawn := 0 } fun e w => ∃ v', e = .returned v' ∧ v' = .int .i64 (1 + (m : Int)) ∧ w.heap = wl.heap :=
  (heldint_any v 1 m { wl with tape := T, drawn := 0 } h.row hm (by omega) (by omega)).mono fun e w ⟨q1, q2⟩ => ⟨_, q1, rfl, by rw [q2]⟩
end
theorem load_al {w₁ : World} {bt : Nat} {x : Al} (h : w₁.rangeAt bt 0 [.int .i64 x.hi, .int .i64 x.lo, .int .i64 x.sl, .int .i64 x.dl]) {o : Oper} {a : Act} {t : Nat} (hy : a.eval (.tmp t) = .pointer (some ⟨bt, 0, none⟩)) (ho : o.op = .load 23 (.tmp t)) :
    (execOp a.eval o).run Try.prog w₁ = .ok (.value (aA x)) w₁ ∧ (execOp a.eval o).events Try.prog w₁ #[] = #[⟨.cell ⟨bt, 0, none⟩, false, false⟩, ⟨.cell ⟨bt, 1, none⟩, false, false⟩, ⟨.cell ⟨bt, 2, none⟩, false, false⟩, ⟨.cell ⟨bt, 3, none⟩, false, false⟩] := by
  have hl := run_loadVar_mid (P := Try.prog) w₁ bt 0 23 [.int .i64 x.hi, .int .i64 x.lo, .int .i64 x.sl, .int .i64 x.dl] _ h Try.underlying23 rfl (by kernel_rfl)
  have c0 : w₁.cell? ⟨bt, 0, none⟩ = some (.int .i64 x.hi) := h 0 _ rfl
  have c1 : w₁.cell? ⟨bt, 1, none⟩ = some (.int .i64 x.lo) := by simpa using h 1 _ rfl
  have c2 : w₁.cell? ⟨bt, 2, none⟩ = some (.int .i64 x.sl) := by simpa using h 2 _ rfl
  have c3 : w₁.cell? ⟨bt, 3, none⟩ = some (.int .i64 x.dl) := by simpa using h 3 _ rfl
  constructor
  · unfold execOp
    simp only [ho, hy, Instr.loadAt, Instr.sureAddr, Sem.run_bind, Sem.run_pure, Result.andThen_ok, hl]
    rfl
  · simp only [Act.eval, Array.getD_eq_getD_getElem?] at hy
    unfold execOp
    simp only [ho]
    simp [go_sem, hy, c0, c1, c2, c3]
section
variable {b : Frame} {a : Act} {ops : Array Oper} {i d n : Nat} {rest : List Nat} {kk : List Item} {cs : List Frame} {wl : World} {Q : Goroutine → World → Prop} {vs : List (Nat × Value)}
/-- An alarm is taken out of its box. -/
theorem K.loadA {t : Nat} {g : Option (Nat × Bool)} {K : Nat} {x : Al} (ho : ∃ o, ops[i]? = some o ∧ o.dst = some d ∧ o.guard = g ∧ o.op = .load 23 (.tmp t)) (hb : b.kind ≠ .early) (h : LA n a vs) (hd : d < n) (hw : ∀ o : Oper, o.guard = g → Region.wanted o (yielded ops a.tmps) = true) (hx : vs.lookup t = some (.pointer (some ⟨K, 0, none⟩))) (hK : wl.heap[K]? = some (.cells #[.int .i64 x.hi, .int .i64 x.lo, .int .i64 x.sl, .int .i64 x.dl] 23 (0, 0)))
    (k : ∀ a', LA n a' ((d, aA x) :: vs) → Kp Try.prog (G (b.at a' (.inRegion ops rest :: kk)) cs) wl Q) : Kp Try.prog (G (b.at a (.inRegion ops (i :: rest) :: kk)) cs) wl Q := by
  obtain ⟨o, h1, h2, h3, h4⟩ := ho
  have hy := h.get t _ hx
  obtain ⟨⟨q0, q1, q2, q3⟩, -⟩ := at_four hK
  refine Kp.own (fr' := b.at (a.put (some d) (aA x)) (.inRegion ops rest :: kk)) (cs' := cs) (fun w hcell => ?_) (k _ (h.put hd (aA x)))
  have hr4 : w.rangeAt K 0 [.int .i64 x.hi, .int .i64 x.lo, .int .i64 x.sl, .int .i64 x.dl] := by
    intro j u hu
    match j, hu with
    | 0, hu => cases hu; exact hcell _ _ q0
    | 1, hu => cases hu; exact hcell _ _ q1
    | 2, hu => cases hu; exact hcell _ _ q2
    | 3, hu => cases hu; exact hcell _ _ q3
  obtain ⟨hr, he⟩ := load_al hr4 hy h4
  refine ⟨listed Try.prog b.fn a o w, ?_, fun e he2 => ?_⟩
  · rw [stepG_value h1 (hw o h3) hb hr, h2]
  · have h5 := seen_mem he2
    rw [he] at h5
    simp only [List.mem_toArray, List.mem_cons, List.not_mem_nil, or_false] at h5
    rcases h5 with rfl | rfl | rfl | rfl <;> exact ⟨_, rfl, ⟨_, _, _, hK⟩⟩
end
end Go.Proofs.Ytdjnnhdeijnhgab.Rn
