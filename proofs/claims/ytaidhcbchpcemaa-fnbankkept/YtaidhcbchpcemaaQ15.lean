/-
  Right banks: the program and the specification.
-/
import Derived.Test.YtaidhcbchpcemaaQ14
namespace Go.Proofs.Ytaidhcbchpcemaa
open Go.RowKit Va Bl
set_option linter.all false

set_option maxRecDepth 20000 in
set_option maxHeartbeats 8000000 in
theorem sbank_any (ao : Option Addr) (n cap : Nat) (l : List Ut) (w : World) (h : URw w (.slice ao n cap) l) (hn : l.length ≤ 1048576) (ht : ∀ x ∈ l, x.ant.length ≤ 1048576) :
    Calls Try.prog 16 #[.slice ao n cap] w fun e w' => e = .returned (.bool (bankB l)) ∧ Below w.heap.size w w' := by
  obtain rfl := h.len
  have HR := hidden h
  have HT := hidden ht
  clear h ht
  unfold bankB
  by_cases g1 : (300 : Int) < (l.length : Int)
  · have HY : Hid (decide (l.length ≤ 300) = false) := by rw [Hid]; simp; omega
    go_enter Try.func16, Try.ntmps16
    go_wp2_with fail
    go_ret
    exact ⟨ret_boolQ (by rw [HY.out]; rfl), Below.refl _ _⟩
  have HZ : Hid (decide (l.length ≤ 300) = true) := by rw [Hid]; simp; omega
  go_enter Try.func16, Try.ntmps16
  go_wp2_with fail
  go_loopw [3] (fun iv wr => ∃ i : Nat, i ≤ l.length ∧ iv = .int .i64 i ∧ Hid (RTo unitB Ut.id l i) ∧ Below w.heap.size w wr) (fun iv _ => l.length - (intOf iv).toNat)
  case atStart => exact ⟨0, Nat.zero_le _, rfl, RTo.zero _, Below.refl _ _⟩
  case round =>
    obtain ⟨i, hi, rfl, hok, hb⟩ := hrel
    by_cases hlt : i < l.length
    · have hlti : (i : Int) < (l.length : Int) := by omega
      obtain ⟨x, hx⟩ := some_of l i hlt
      obtain ⟨g, off, ta, tc, rfl, hg, hrow, c0, c1, c2, c3, c4, c5⟩ := (HR.out.below hb).at hx
      have hcs := HR.out.below hb
      obtain ⟨y, hyt⟩ : ∃ y : Int, y = keyAt Ut.id l (i - 1) := ⟨_, rfl⟩
      have hy0 : 0 < i → wr.cell? ⟨g, off + (i - 1) * 6, none⟩ = some (.int .i64 y) := fun q => by
        obtain ⟨z, hz⟩ := some_of l (i - 1) (by omega)
        obtain ⟨g', off', ta', tc', he, -, -, d0, -⟩ := hcs.at hz
        obtain ⟨rfl, rfl⟩ : g = g' ∧ off = off' := by simpa using he
        rw [hyt, keyAt_get hz]
        exact d0
      have hyz : Hid (∀ z, 0 < i → l[i - 1]? = some z → y = z.id) := fun z _ hz => by rw [hyt, keyAt_get hz]
      have HX := hidden hx
      have HY1 := hidden hy0
      have b1 := hb
      have HK := hidden (fun W (hW : Below wr.heap.size wr W) => sunit_any x ta x.ant.length tc W (hrow.below hW) (HT.out x (List.mem_of_getElem? hx)))
      have C0 := hidden c0
      have C1 := hidden c1
      have C2 := hidden c2
      have C3 := hidden c3
      have C4 := hidden c4
      have C5 := hidden c5
      clear hx hyt hy0 hrow hcs c0 c1 c2 c3 c4 c5
      go_upto_region 6 with fail
      refine regBk6 (x := x) (y := y) rfl rfl rfl hlt (by omega) hg HY1.out C0.out C1.out C2.out C3.out C4.out C5.out HK.out ?_
      intro b' w3 hf hb3 hv
      rw [layBk6 hf, hv]
      clear hv hf HY1 HK C0 C1 C2 C3 C4 C5
      generalize Rg.out (Rg.opsOf Try.f16 6) b' 0 = y0
      generalize Rg.out (Rg.opsOf Try.f16 6) b' 1 = y1
      generalize Rg.out (Rg.opsOf Try.f16 6) b' 2 = y2
      generalize Rg.out (Rg.opsOf Try.f16 6) b' 3 = y3
      generalize Rg.out (Rg.opsOf Try.f16 6) b' 4 = y4
      generalize Rg.out (Rg.opsOf Try.f16 6) b' 5 = y5
      generalize Rg.out (Rg.opsOf Try.f16 6) b' 6 = y6
      generalize Rg.out (Rg.opsOf Try.f16 6) b' 7 = y7
      generalize Rg.out (Rg.opsOf Try.f16 6) b' 8 = y8
      generalize Rg.out (Rg.opsOf Try.f16 6) b' 9 = y9
      generalize Rg.out (Rg.opsOf Try.f16 6) b' 10 = y10
      generalize Rg.out (Rg.opsOf Try.f16 6) b' 11 = y11
      generalize Rg.out (Rg.opsOf Try.f16 6) b' 12 = y12
      generalize Rg.out (Rg.opsOf Try.f16 6) b' 13 = y13
      generalize Rg.out (Rg.opsOf Try.f16 6) b' 14 = y14
      generalize Rg.out (Rg.opsOf Try.f16 6) b' 15 = y15
      generalize Rg.out (Rg.opsOf Try.f16 6) b' 16 = y16
      generalize Rg.out (Rg.opsOf Try.f16 6) b' 17 = y17
      generalize Rg.out (Rg.opsOf Try.f16 6) b' 18 = y18
      generalize Rg.out (Rg.opsOf Try.f16 6) b' 19 = y19
      generalize Rg.out (Rg.opsOf Try.f16 6) b' 20 = y20
      generalize Rg.out (Rg.opsOf Try.f16 6) b' 21 = y21
      generalize Rg.out (Rg.opsOf Try.f16 6) b' 22 = y22
      have HB3 := hidden (b1.trans (hb3.mono b1.size))
      clear hb3 hb b1
      generalize hBq : ((!(unitB x)) || ((decide ((0 : Int) < (i : Int))) && (decide (x.id ≤ y)))) = Bq at *
      go_frame
      cases Bq with
      | true =>
        have HY : Hid (risB unitB Ut.id l = false) := nx_bad HX.out hyz.out hBq
        clear hBq
        go_wp2_with fail
        go_ret
        exact ⟨ret_boolQ (by rw [HY.out, HZ.out]; rfl), HB3.out⟩
      | false =>
        have HN : Hid (RTo unitB Ut.id l (i + 1)) := nx_good hok.out HX.out hyz.out hBq
        clear hBq
        go_wp2_with fail
        go_roundw
        case rel => exact ⟨i + 1, by omega, rfl, HN, HB3.out⟩
        case measure => simp [intOf]; omega
    · have hlti : ¬ (i : Int) < (l.length : Int) := by omega
      have hil : i = l.length := by omega
      subst hil
      have HY : Hid (risB unitB Ut.id l = true) := ris_true hok.out
      go_wp2_with fail
      go_ret
      exact ⟨ret_boolQ (by rw [HY.out, HZ.out]; rfl), hb⟩

set_option maxRecDepth 20000 in
set_option maxHeartbeats 8000000 in
theorem ibank_any (ao : Option Addr) (n cap : Nat) (l : List Ut) (w : World) (h : URw w (.slice ao n cap) l) (hn : l.length ≤ 1048576) (ht : ∀ x ∈ l, x.ant.length ≤ 1048576) :
    Calls Try.prog 27 #[.slice ao n cap] w fun e w' => e = .returned (.bool (bankB l)) ∧ Below w.heap.size w w' := by
  obtain rfl := h.len
  have HR := hidden h
  have HT := hidden ht
  clear h ht
  unfold bankB
  by_cases g1 : (300 : Int) < (l.length : Int)
  · have HY : Hid (decide (l.length ≤ 300) = false) := by rw [Hid]; simp; omega
    go_enter Try.func27, Try.ntmps27
    go_wp2_with fail
    go_ret
    exact ⟨ret_boolQ (by rw [HY.out]; rfl), Below.refl _ _⟩
  have HZ : Hid (decide (l.length ≤ 300) = true) := by rw [Hid]; simp; omega
  go_enter Try.func27, Try.ntmps27
  go_wp2_with fail
  go_loopw [3, 4, 10] (fun _ _ iv wr => ∃ i : Nat, i ≤ l.length ∧ iv = .int .i64 i ∧ Hid (RTo unitB Ut.id l i) ∧ Below w.heap.size w wr) (fun _ _ iv _ => l.length - (intOf iv).toNat)
  case atStart => exact ⟨0, Nat.zero_le _, rfl, RTo.zero _, Below.refl _ _⟩
  case round =>
    obtain ⟨i, hi, rfl, hok, hb⟩ := hrel
    by_cases hlt : i < l.length
    · have hlti : (i : Int) < (l.length : Int) := by omega
      obtain ⟨x, hx⟩ := some_of l i hlt
      obtain ⟨g, off, ta, tc, rfl, hg, hrow, c0, c1, c2, c3, c4, c5⟩ := (HR.out.below hb).at hx
      have hcs := HR.out.below hb
      obtain ⟨y, hyt⟩ : ∃ y : Int, y = keyAt Ut.id l (i - 1) := ⟨_, rfl⟩
      have hy0 : 0 < i → wr.cell? ⟨g, off + (i - 1) * 6, none⟩ = some (.int .i64 y) := fun q => by
        obtain ⟨z, hz⟩ := some_of l (i - 1) (by omega)
        obtain ⟨g', off', ta', tc', he, -, -, d0, -⟩ := hcs.at hz
        obtain ⟨rfl, rfl⟩ : g = g' ∧ off = off' := by simpa using he
        rw [hyt, keyAt_get hz]
        exact d0
      have hyz : Hid (∀ z, 0 < i → l[i - 1]? = some z → y = z.id) := fun z _ hz => by rw [hyt, keyAt_get hz]
      have HX := hidden hx
      have hPX := PB.new wr #[.int .i64 x.id, .int .i64 x.grp, .slice ta x.ant.length tc, .int .i64 x.til, .int .i64 x.st, .int .i64 x.fr] 37
      have bx : Below wr.heap.size wr (wr.alloc (.cells #[.int .i64 x.id, .int .i64 x.grp, .slice ta x.ant.length tc, .int .i64 x.til, .int .i64 x.st, .int .i64 x.fr] 37)) := (Below.refl _ _).alloc (Nat.le_refl _) _
      have HY1 : Hid (0 < i → (wr.alloc (.cells #[.int .i64 x.id, .int .i64 x.grp, .slice ta x.ant.length tc, .int .i64 x.til, .int .i64 x.st, .int .i64 x.fr] 37)).cell? ⟨g, off + (i - 1) * 6, none⟩ = some (.int .i64 y)) := fun q => (bx.cell (p := ⟨g, off + (i - 1) * 6, none⟩) hg).trans (hy0 q)
      have hg1 := Nat.lt_of_lt_of_le hg bx.size
      have b1 := hb.trans (bx.mono hb.size)
      have HK := hidden (fun W (hW : Below (wr.alloc (.cells #[.int .i64 x.id, .int .i64 x.grp, .slice ta x.ant.length tc, .int .i64 x.til, .int .i64 x.st, .int .i64 x.fr] 37)).heap.size (wr.alloc (.cells #[.int .i64 x.id, .int .i64 x.grp, .slice ta x.ant.length tc, .int .i64 x.til, .int .i64 x.st, .int .i64 x.fr] 37)) W) => iright_any x ta x.ant.length tc W (hrow.below (onto bx hW)) (HT.out x (List.mem_of_getElem? hx)))
      have HPX := hidden hPX
      clear hx hyt hy0 bx hPX hrow hcs
      go_upto_region 6 with fail
      refine regBi6 (x := x) (y := y) rfl rfl rfl rfl HPX.out hlt (by omega) hg1 HY1.out HK.out ?_
      intro b' w3 hf hb3 hv
      rw [layBi6 hf, hv]
      clear hv hf HPX HY1 HK c0 c1 c2 c3 c4 c5
      generalize Rg.out (Rg.opsOf Try.f27 6) b' 0 = y0
      generalize Rg.out (Rg.opsOf Try.f27 6) b' 1 = y1
      generalize Rg.out (Rg.opsOf Try.f27 6) b' 2 = y2
      generalize Rg.out (Rg.opsOf Try.f27 6) b' 3 = y3
      generalize Rg.out (Rg.opsOf Try.f27 6) b' 4 = y4
      generalize Rg.out (Rg.opsOf Try.f27 6) b' 5 = y5
      generalize Rg.out (Rg.opsOf Try.f27 6) b' 6 = y6
      generalize Rg.out (Rg.opsOf Try.f27 6) b' 7 = y7
      generalize Rg.out (Rg.opsOf Try.f27 6) b' 8 = y8
      generalize Rg.out (Rg.opsOf Try.f27 6) b' 9 = y9
      generalize Rg.out (Rg.opsOf Try.f27 6) b' 10 = y10
      generalize Rg.out (Rg.opsOf Try.f27 6) b' 11 = y11
      generalize Rg.out (Rg.opsOf Try.f27 6) b' 12 = y12
      generalize Rg.out (Rg.opsOf Try.f27 6) b' 13 = y13
      generalize Rg.out (Rg.opsOf Try.f27 6) b' 14 = y14
      generalize Rg.out (Rg.opsOf Try.f27 6) b' 15 = y15
      generalize Rg.out (Rg.opsOf Try.f27 6) b' 16 = y16
      have HB3 := hidden (b1.trans (hb3.mono b1.size))
      clear hb3 hb b1
      generalize hBq : ((!(unitB x)) || ((decide ((0 : Int) < (i : Int))) && (decide (x.id ≤ y)))) = Bq at *
      go_frame
      cases Bq with
      | true =>
        have HY : Hid (risB unitB Ut.id l = false) := nx_bad HX.out hyz.out hBq
        clear hBq
        go_wp2_with fail
        go_ret
        exact ⟨ret_boolQ (by rw [HY.out, HZ.out]; rfl), HB3.out⟩
      | false =>
        have HN : Hid (RTo unitB Ut.id l (i + 1)) := nx_good hok.out HX.out hyz.out hBq
        clear hBq
        go_wp2_with fail
        go_roundw
        case rel => exact ⟨i + 1, by omega, rfl, HN, HB3.out⟩
        case measure => simp [intOf]; omega
    · have hlti : ¬ (i : Int) < (l.length : Int) := by omega
      have hil : i = l.length := by omega
      subst hil
      have HY : Hid (risB unitB Ut.id l = true) := ris_true hok.out
      go_wp2_with fail
      go_ret
      exact ⟨ret_boolQ (by rw [HY.out, HZ.out]; rfl), hb⟩

end Go.Proofs.Ytaidhcbchpcemaa
