/-
  Merged: Q15 Q23.
-/
import Derived.Test.YtgcpiinmcbdkmaaMh7
import Derived.Test.YtgcpiinmcbdkmaaMh20
namespace Go.Proofs.Ytgcpiinmcbdkmaa
open Go.RowKit Va Bl
set_option linter.all false
set_option maxRecDepth 20000 in
set_option maxHeartbeats 8000000 in
theorem sbank_any (ao : Option Addr) (n cap : Nat) (l : List Ut) (w : World) (h : URw w (.slice ao n cap) l) (hn : l.length ≤ 1048576) (ht : ∀ x ∈ l, x.ant.length ≤ 1048576) :
    Calls Try.prog 49 #[.slice ao n cap] w fun e w' => e = .returned (.bool (bankB l)) ∧ Below w.heap.size w w' := by
  obtain rfl := h.len
  have HR := hidden h
  have HT := hidden ht
  clear h ht
  unfold bankB
  by_cases g1 : (300 : Int) < (l.length : Int)
  · have HY : Hid (decide (l.length ≤ 300) = false) := by rw [Hid]; simp; omega
    go_enter Try.func49, Try.ntmps49
    go_wp2_with fail
    go_ret
    exact ⟨ret_boolQ (by rw [HY.out]; rfl), Below.refl _ _⟩
  have HZ : Hid (decide (l.length ≤ 300) = true) := by rw [Hid]; simp; omega
  go_enter Try.func49, Try.ntmps49
  go_wp2_with fail
  go_loopw [3] (fun iv wr => ∃ i : Nat, i ≤ l.length ∧ iv = .int .i64 i ∧ Hid (RTo unitB Ut.id l i) ∧ Below w.heap.size w wr) (fun iv _ => l.length - (intOf iv).toNat)
  case atStart => exact ⟨0, Nat.zero_le _, rfl, RTo.zero _, Below.refl _ _⟩
  case round =>
    obtain ⟨i, hi, rfl, hok, hb⟩ := hrel
    by_cases hlt : i < l.length
    · have hlti : (i : Int) < (l.length : Int) := by omega
      obtain ⟨x, hx⟩ := some_of l i hlt
      obtain ⟨g, off, ta, tc, rfl, hg, hrow, c0, c1, c2, c3, c4, c5⟩ := (HR.out.below hb).at hx
      have hcs := HR.out.below hb
      obtain ⟨y, hyt⟩ : ∃ y : Int, y = keyAt Ut.id l (i - 1) := ⟨_, rfl⟩
      have hy0 : 0 < i → wr.cell? ⟨g, off + (i - 1) * 6, none⟩ = some (.int .i64 y) := fun q => by
        obtain ⟨z, hz⟩ := some_of l (i - 1) (by omega)
        obtain ⟨g', off', ta', tc', he, -, -, d0, -⟩ := hcs.at hz
        obtain ⟨rfl, rfl⟩ : g = g' ∧ off = off' := by simpa using he
        rw [hyt, keyAt_get hz]
        exact d0
      have hyz : Hid (∀ z, 0 < i → l[i - 1]? = some z → y = z.id) := fun z _ hz => by rw [hyt, keyAt_get hz]
      have HX := hidden hx
      have HY1 := hidden hy0
      have b1 := hb
      have HK := hidden (fun W (hW : Below wr.heap.size wr W) => sunit_any x ta x.ant.length tc W (hrow.below hW) (HT.out x (List.mem_of_getElem? hx)))
      have C0 := hidden c0
      have C1 := hidden c1
      have C2 := hidden c2
      have C3 := hidden c3
      have C4 := hidden c4
      have C5 := hidden c5
      clear hx hyt hy0 hrow hcs c0 c1 c2 c3 c4 c5
      go_upto_region 6 with fail
      refine regBk6 (x := x) (y := y) rfl rfl rfl hlt (by omega) hg HY1.out C0.out C1.out C2.out C3.out C4.out C5.out HK.out ?_
      intro b' w3 hf hb3 hv
      rw [layBk6 hf, hv]
      clear hv hf HY1 HK C0 C1 C2 C3 C4 C5
      generalize Rg.out (Rg.opsOf Try.f49 6) b' 0 = y0
      generalize Rg.out (Rg.opsOf Try.f49 6) b' 1 = y1
      generalize Rg.out (Rg.opsOf Try.f49 6) b' 2 = y2
      generalize Rg.out (Rg.opsOf Try.f49 6) b' 3 = y3
      generalize Rg.out (Rg.opsOf Try.f49 6) b' 4 = y4
      generalize Rg.out (Rg.opsOf Try.f49 6) b' 5 = y5
      generalize Rg.out (Rg.opsOf Try.f49 6) b' 6 = y6
      generalize Rg.out (Rg.opsOf Try.f49 6) b' 7 = y7
      generalize Rg.out (Rg.opsOf Try.f49 6) b' 8 = y8
      generalize Rg.out (Rg.opsOf Try.f49 6) b' 9 = y9
      generalize Rg.out (Rg.opsOf Try.f49 6) b' 10 = y10
      generalize Rg.out (Rg.opsOf Try.f49 6) b' 11 = y11
      generalize Rg.out (Rg.opsOf Try.f49 6) b' 12 = y12
      generalize Rg.out (Rg.opsOf Try.f49 6) b' 13 = y13
      generalize Rg.out (Rg.opsOf Try.f49 6) b' 14 = y14
      generalize Rg.out (Rg.opsOf Try.f49 6) b' 15 = y15
      generalize Rg.out (Rg.opsOf Try.f49 6) b' 16 = y16
      generalize Rg.out (Rg.opsOf Try.f49 6) b' 17 = y17
      generalize Rg.out (Rg.opsOf Try.f49 6) b' 18 = y18
      generalize Rg.out (Rg.opsOf Try.f49 6) b' 19 = y19
      generalize Rg.out (Rg.opsOf Try.f49 6) b' 20 = y20
      generalize Rg.out (Rg.opsOf Try.f49 6) b' 21 = y21
      generalize Rg.out (Rg.opsOf Try.f49 6) b' 22 = y22
      have HB3 := hidden (b1.trans (hb3.mono b1.size))
      clear hb3 hb b1
      generalize hBq : ((!(unitB x)) || ((decide ((0 : Int) < (i : Int))) && (decide (x.id ≤ y)))) = Bq at *
      go_frame
      cases Bq with
      | true =>
        have HY : Hid (risB unitB Ut.id l = false) := nx_bad HX.out hyz.out hBq
        clear hBq
        go_wp2_with fail
        go_ret
        exact ⟨ret_boolQ (by rw [HY.out, HZ.out]; rfl), HB3.out⟩
      | false =>
        have HN : Hid (RTo unitB Ut.id l (i + 1)) := nx_good hok.out HX.out hyz.out hBq
        clear hBq
        go_wp2_with fail
        go_roundw
        case rel => exact ⟨i + 1, by omega, rfl, HN, HB3.out⟩
        case measure => simp [intOf]; omega
    · have hlti : ¬ (i : Int) < (l.length : Int) := by omega
      have hil : i = l.length := by omega
      subst hil
      have HY : Hid (risB unitB Ut.id l = true) := ris_true hok.out
      go_wp2_with fail
      go_ret
      exact ⟨ret_boolQ (by rw [HY.out, HZ.out]; rfl), hb⟩
set_option maxRecDepth 20000 in
set_option maxHeartbeats 8000000 in
theorem ibank_any (ao : Option Addr) (n cap : Nat) (l : List Ut) (w : World) (h : URw w (.slice ao n cap) l) (hn : l.length ≤ 1048576) (ht : ∀ x ∈ l, x.ant.length ≤ 1048576) :
    Calls Try.prog 41 #[.slice ao n cap] w fun e w' => e = .returned (.bool (bankB l)) ∧ Below w.heap.size w w' := by
  obtain rfl := h.len
  have HR := hidden h
  have HT := hidden ht
  clear h ht
  unfold bankB
  by_cases g1 : (300 : Int) < (l.length : Int)
  · have HY : Hid (decide (l.length ≤ 300) = false) := by rw [Hid]; simp; omega
    go_enter Try.func41, Try.ntmps41
    go_wp2_with fail
    go_ret
    exact ⟨ret_boolQ (by rw [HY.out]; rfl), Below.refl _ _⟩
  have HZ : Hid (decide (l.length ≤ 300) = true) := by rw [Hid]; simp; omega
  go_enter Try.func41, Try.ntmps41
  go_wp2_with fail
  go_loopw [3, 4, 10] (fun _ _ iv wr => ∃ i : Nat, i ≤ l.length ∧ iv = .int .i64 i ∧ Hid (RTo unitB Ut.id l i) ∧ Below w.heap.size w wr) (fun _ _ iv _ => l.length - (intOf iv).toNat)
  case atStart => exact ⟨0, Nat.zero_le _, rfl, RTo.zero _, Below.refl _ _⟩
  case round =>
    obtain ⟨i, hi, rfl, hok, hb⟩ := hrel
    by_cases hlt : i < l.length
    · have hlti : (i : Int) < (l.length : Int) := by omega
      obtain ⟨x, hx⟩ := some_of l i hlt
      obtain ⟨g, off, ta, tc, rfl, hg, hrow, c0, c1, c2, c3, c4, c5⟩ := (HR.out.below hb).at hx
      have hcs := HR.out.below hb
      obtain ⟨y, hyt⟩ : ∃ y : Int, y = keyAt Ut.id l (i - 1) := ⟨_, rfl⟩
      have hy0 : 0 < i → wr.cell? ⟨g, off + (i - 1) * 6, none⟩ = some (.int .i64 y) := fun q => by
        obtain ⟨z, hz⟩ := some_of l (i - 1) (by omega)
        obtain ⟨g', off', ta', tc', he, -, -, d0, -⟩ := hcs.at hz
        obtain ⟨rfl, rfl⟩ : g = g' ∧ off = off' := by simpa using he
        rw [hyt, keyAt_get hz]
        exact d0
      have hyz : Hid (∀ z, 0 < i → l[i - 1]? = some z → y = z.id) := fun z _ hz => by rw [hyt, keyAt_get hz]
      have HX := hidden hx
      have hPX := PB.new wr #[.int .i64 x.id, .int .i64 x.grp, .slice ta x.ant.length tc, .int .i64 x.til, .int .i64 x.st, .int .i64 x.fr] 81
      have bx : Below wr.heap.size wr (wr.alloc (.cells #[.int .i64 x.id, .int .i64 x.grp, .slice ta x.ant.length tc, .int .i64 x.til, .int .i64 x.st, .int .i64 x.fr] 81)) := (Below.refl _ _).alloc (Nat.le_refl _) _
      have HY1 : Hid (0 < i → (wr.alloc (.cells #[.int .i64 x.id, .int .i64 x.grp, .slice ta x.ant.length tc, .int .i64 x.til, .int .i64 x.st, .int .i64 x.fr] 81)).cell? ⟨g, off + (i - 1) * 6, none⟩ = some (.int .i64 y)) := fun q => (bx.cell (p := ⟨g, off + (i - 1) * 6, none⟩) hg).trans (hy0 q)
      have hg1 := Nat.lt_of_lt_of_le hg bx.size
      have b1 := hb.trans (bx.mono hb.size)
      have HK := hidden (fun W (hW : Below (wr.alloc (.cells #[.int .i64 x.id, .int .i64 x.grp, .slice ta x.ant.length tc, .int .i64 x.til, .int .i64 x.st, .int .i64 x.fr] 81)).heap.size (wr.alloc (.cells #[.int .i64 x.id, .int .i64 x.grp, .slice ta x.ant.length tc, .int .i64 x.til, .int .i64 x.st, .int .i64 x.fr] 81)) W) => iright_any x ta x.ant.length tc W (hrow.below (onto bx hW)) (HT.out x (List.mem_of_getElem? hx)))
      have HPX := hidden hPX
      clear hx hyt hy0 bx hPX hrow hcs
      go_upto_region 6 with fail
      refine regBi6 (x := x) (y := y) rfl rfl rfl rfl HPX.out hlt (by omega) hg1 HY1.out HK.out ?_
      intro b' w3 hf hb3 hv
      rw [layBi6 hf, hv]
      clear hv hf HPX HY1 HK c0 c1 c2 c3 c4 c5
      generalize Rg.out (Rg.opsOf Try.f41 6) b' 0 = y0
      generalize Rg.out (Rg.opsOf Try.f41 6) b' 1 = y1
      generalize Rg.out (Rg.opsOf Try.f41 6) b' 2 = y2
      generalize Rg.out (Rg.opsOf Try.f41 6) b' 3 = y3
      generalize Rg.out (Rg.opsOf Try.f41 6) b' 4 = y4
      generalize Rg.out (Rg.opsOf Try.f41 6) b' 5 = y5
      generalize Rg.out (Rg.opsOf Try.f41 6) b' 6 = y6
      generalize Rg.out (Rg.opsOf Try.f41 6) b' 7 = y7
      generalize Rg.out (Rg.opsOf Try.f41 6) b' 8 = y8
      generalize Rg.out (Rg.opsOf Try.f41 6) b' 9 = y9
      generalize Rg.out (Rg.opsOf Try.f41 6) b' 10 = y10
      generalize Rg.out (Rg.opsOf Try.f41 6) b' 11 = y11
      generalize Rg.out (Rg.opsOf Try.f41 6) b' 12 = y12
      generalize Rg.out (Rg.opsOf Try.f41 6) b' 13 = y13
      generalize Rg.out (Rg.opsOf Try.f41 6) b' 14 = y14
      generalize Rg.out (Rg.opsOf Try.f41 6) b' 15 = y15
      generalize Rg.out (Rg.opsOf Try.f41 6) b' 16 = y16
      have HB3 := hidden (b1.trans (hb3.mono b1.size))
      clear hb3 hb b1
      generalize hBq : ((!(unitB x)) || ((decide ((0 : Int) < (i : Int))) && (decide (x.id ≤ y)))) = Bq at *
      go_frame
      cases Bq with
      | true =>
        have HY : Hid (risB unitB Ut.id l = false) := nx_bad HX.out hyz.out hBq
        clear hBq
        go_wp2_with fail
        go_ret
        exact ⟨ret_boolQ (by rw [HY.out, HZ.out]; rfl), HB3.out⟩
      | false =>
        have HN : Hid (RTo unitB Ut.id l (i + 1)) := nx_good hok.out HX.out hyz.out hBq
        clear hBq
        go_wp2_with fail
        go_roundw
        case rel => exact ⟨i + 1, by omega, rfl, HN, HB3.out⟩
        case measure => simp [intOf]; omega
    · have hlti : ¬ (i : Int) < (l.length : Int) := by omega
      have hil : i = l.length := by omega
      subst hil
      have HY : Hid (risB unitB Ut.id l = true) := ris_true hok.out
      go_wp2_with fail
      go_ret
      exact ⟨ret_boolQ (by rw [HY.out, HZ.out]; rfl), hb⟩
end Go.Proofs.Ytgcpiinmcbdkmaa

namespace Go.Proofs.Ytgcpiinmcbdkmaa
open Go.RowKit Va Bl
set_option linter.all false
theorem oneI (z : Int) : ∀ u ∈ [Value.int .i64 z], u.oneCell' = true := by
  intro u hu
  obtain rfl := List.mem_singleton.1 hu
  rfl
theorem cell_oneQ {w : World} {g : Nat} (hg : g = w.heap.size) (a : Value) (t : TypeId) : ∀ (j : Nat) (u : Value), [a][j]? = some u → (w.alloc (.cells #[a] t)).cell? ((⟨g, 0, none⟩ : Addr).add j) = some u := by subst hg; exact cell_oneW w a t
theorem oneF (T : TypeId) (v : Value) : ∀ u ∈ [Value.iface T v], u.oneCell' = true := by
  intro u hu
  obtain rfl := List.mem_singleton.1 hu
  rfl
def intsV (l : List Int) : List Value := l.map fun z => Value.int .i64 z
theorem intsV_app (l : List Int) (x : Int) : intsV (l ++ [x]) = intsV l ++ [.int .i64 x] := by simp [intsV]
theorem infoB : (Try.prog.info? 78).map (fun i => (i.zero, i.size, i.bytes)) = some (some .nilIface, 1, 16) := by kernel_rfl
theorem cell6U (w : World) (p : Ut × Value) (t : TypeId) : ∀ (j : Nat) (u : Value), (cells6 p)[j]? = some u → (w.alloc (.cells #[.int .i64 p.1.id, .int .i64 p.1.grp, p.2, .int .i64 p.1.til, .int .i64 p.1.st, .int .i64 p.1.fr] t)).cell? ((⟨w.heap.size, 0, none⟩ : Addr).add j) = some u := fun j u hu => by
  have e0 : (w.alloc (Obj.cells #[.int .i64 p.1.id, .int .i64 p.1.grp, p.2, .int .i64 p.1.til, .int .i64 p.1.st, .int .i64 p.1.fr] t)).heap[w.heap.size]? = some (Obj.cells #[.int .i64 p.1.id, .int .i64 p.1.grp, p.2, .int .i64 p.1.til, .int .i64 p.1.st, .int .i64 p.1.fr] t) := heap_alloc_new _ _
  rw [Addr.add_lit, Nat.zero_add]
  simp only [World.cell?, e0]
  rw [← hu, ← Array.getElem?_toList]
  rfl
theorem oneU (x : Ut) (a : Option Addr) (n c : Nat) : ∀ u ∈ cells6 (x, .slice a n c), u.oneCell' = true := by
  intro u hu
  simp only [cells6, List.mem_cons, List.not_mem_nil, or_false] at hu
  rcases hu with rfl | rfl | rfl | rfl | rfl | rfl <;> rfl
theorem own_six {w : World} {base : Nat} {v : Value} {M : List (Ut × Value)} (h : w.ownsRow base 81 6 v M.length (cellsU M)) {i : Nat} {p : Ut × Value} (hp : M[i]? = some p) :
    ∃ g c, v = .slice (some ⟨g, 0, none⟩) M.length c ∧ base ≤ g ∧ g < w.heap.size ∧ M.length ≤ c ∧ w.cell? ⟨g, i * 6, none⟩ = some (.int .i64 p.1.id) ∧ w.cell? ⟨g, i * 6 + 1, none⟩ = some (.int .i64 p.1.grp) ∧ w.cell? ⟨g, i * 6 + 2, none⟩ = some p.2 ∧ w.cell? ⟨g, i * 6 + 3, none⟩ = some (.int .i64 p.1.til) ∧ w.cell? ⟨g, i * 6 + 4, none⟩ = some (.int .i64 p.1.st) ∧ w.cell? ⟨g, i * 6 + 5, none⟩ = some (.int .i64 p.1.fr) := by
  have H := fun k (hk : k < 6) => cellsU_get M i p k hp hk
  obtain ⟨g, c, rfl, h1, h2, h3, c0⟩ := ownQ_cell h (cellsU_len M) (H 0 (by omega))
  have C : ∀ k u, (cellsU M)[i * 6 + k]? = some u → w.cell? ⟨g, i * 6 + k, none⟩ = some u := fun k u hu => by
    obtain ⟨g', c', he, -, -, -, hc⟩ := ownQ_cell h (cellsU_len M) hu
    simp only [Value.slice.injEq, Option.some.injEq, Addr.mk.injEq, and_true, true_and] at he
    rw [← he.1] at hc
    exact hc
  exact ⟨g, c, rfl, h1, h2, h3, c0, C 1 _ (H 1 (by omega)), C 2 _ (H 2 (by omega)), C 3 _ (H 3 (by omega)), C 4 _ (H 4 (by omega)), C 5 _ (H 5 (by omega))⟩
theorem own_at {w : World} {base : Nat} {v : Value} {L : List (Ut × Value)} (h : w.ownsRow base 78 1 v L.length (L.map aI)) {i : Nat} {p : Ut × Value} (hp : L[i]? = some p) :
    ∃ g c, v = .slice (some ⟨g, 0, none⟩) L.length c ∧ base ≤ g ∧ g < w.heap.size ∧ L.length ≤ c ∧ w.cell? ⟨g, i, none⟩ = some (aI p) :=
  ownQ_cell h (by simp) (by rw [List.getElem?_map, hp]; rfl)
theorem take_snocU {α : Type} {l : List α} {i : Nat} {x : α} (h : l[i]? = some x) : l.take (i + 1) = l.take i ++ [x] := by rw [List.take_add_one, h]; rfl
theorem map_take {α β : Type} {f : α → β} {L : List α} {l : List β} {x : β} {i : Nat} (h : L.map f = l) (hx : l[i]? = some x) : ∃ p, L[i]? = some p ∧ f p = x := by
  rw [← h, List.getElem?_map] at hx
  obtain ⟨p, hp, he⟩ := Option.map_eq_some_iff.1 hx
  exact ⟨p, hp, he⟩
set_option maxRecDepth 20000 in
set_option maxHeartbeats 4000000 in
theorem idsof_any (v : Value) (M : List (Ut × Value)) (b : Nat) (w : World) (h : w.ownsRow b 81 6 v M.length (cellsU M)) (hs : ∀ p ∈ M, ∃ a n c, p.2 = .slice a n c) (hn : M.length ≤ 1048576) :
    Calls Try.prog 48 #[v] w fun e w' => ∃ ad c, e = .returned (.slice ad M.length c) ∧ w'.ownsRow w.heap.size 2 1 (.slice ad M.length c) M.length (intsV (M.map fun p => p.1.id)) ∧ Below w.heap.size w w' := by
  obtain ⟨av, cv, rfl⟩ := ownW_slice h
  have HH := hidden h
  have HS := hidden hs
  clear h hs
  obtain ⟨i0, hi0, hz0, hz1, hz2⟩ := info_partsW infoW64
  have ho0 := ownW_new w 2 1
  have hb0 : Below w.heap.size w (w.alloc (.cells #[] 2)) := by repeat (first | exact Below.refl _ _ | assumption | refine st_drew ?_ | refine st_drewN ?_ _ | refine Below.setCell ?_ (by first | omega | (simp; done) | (simp; omega)) _ | refine Below.alloc ?_ (by first | omega | (simp; done) | (simp; omega)) _)
  go_enter Try.func48, Try.ntmps48
  go_wp2_with fail
  go_loopw [3, 5, 9] (fun sv _ iv wr => ∃ i : Nat, i ≤ M.length ∧ iv = .int .i64 i ∧ (∃ ad c, sv = .slice ad i c ∧ wr.ownsRow w.heap.size 2 1 (.slice ad i c) i (intsV ((M.take i).map fun p => p.1.id))) ∧ Below w.heap.size w wr) (fun _ _ iv _ => M.length - (intOf iv).toNat)
  case atStart => exact ⟨0, Nat.zero_le _, rfl, ⟨_, _, rfl, ho0⟩, hb0⟩
  case round =>
    clear ho0 hb0
    obtain ⟨i, hi, rfl, ⟨ad, c, rfl, ho⟩, hb⟩ := hrel
    have hsz := hb.size
    by_cases hlt : i < M.length
    · have hlti : (i : Int) < (M.length : Int) := by omega
      obtain ⟨⟨x, tv⟩, hx⟩ := some_of M i hlt
      obtain ⟨ta, tn, tc, rfl⟩ := HS.out _ (List.mem_of_getElem? hx)
      obtain ⟨g, c9, he, -, hg, -, u0, u1, u2, u3, u4, u5⟩ := own_six (ownW_below HH.out hb) hx
      simp only [Value.slice.injEq, true_and] at he
      obtain ⟨rfl, rfl⟩ := he
      have HN := hidden (take_snocU hx)
      have HO := hidden ho
      clear hx ho
      dsimp only at u0 u1 u2 u3 u4 u5
      go_wp2_with (at_builtin; refine wpList_append_own _ rfl (.tmp 13) (.tmp 16) 25 rfl w.heap.size 2 i0 (.int .i64 0) 1 8 Try.underlying25 hi0 hz0 hz1 hz2 rfl (by decide) _ i (intsV ((M.take i).map fun p => p.1.id)) rfl ((HO.out.alloc _).alloc _) ⟨wr.heap.size + 1, 0, none⟩ 1 1 [.int .i64 x.id] rfl rfl (cell_oneQ (by simp) _ _) (oneI _) (by unfold maxLen; omega) (by omega) (by simp; omega) ?_; intro v4 w4 ho4 hg4 hnn4; have hO4 := hidden ho4; obtain ⟨ad4, c4, rfl⟩ := ownW_slice ho4)
      have b4 := grownQ (show Below w.heap.size w ((wr.alloc (.cells #[.int .i64 x.id, .int .i64 x.grp, .slice ta tn tc, .int .i64 x.til, .int .i64 x.st, .int .i64 x.fr] 81)).alloc (.cells #[.int .i64 x.id] 2)) from by repeat (first | exact Below.refl _ _ | assumption | refine st_drew ?_ | refine st_drewN ?_ _ | refine Below.setCell ?_ (by first | omega | (simp; done) | (simp; omega)) _ | refine Below.alloc ?_ (by first | omega | (simp; done) | (simp; omega)) _)) (by simp; omega) hg4 (fun k hk => (ownW_lt HO.out k hk).1)
      go_roundw
      case rel => exact ⟨i + 1, by omega, rfl, ⟨ad4, c4, rfl, by rw [HN.out, List.map_append, List.map_singleton, intsV_app]; exact hO4.out⟩, b4⟩
      case measure => simp [intOf]; omega
    · have hlti : ¬ (i : Int) < (M.length : Int) := by omega
      have hil : i = M.length := by omega
      subst hil
      go_wp2_with fail
      go_ret
      exact ⟨ad, c, rfl, by rw [List.take_length] at ho; exact ho, hb⟩
set_option maxRecDepth 20000 in
set_option maxHeartbeats 4000000 in
theorem bankof_any (ao : Option Addr) (n cap : Nat) (l : List Ut) (w : World) (h : URw w (.slice ao n cap) l) (hn : l.length ≤ 300) (ht : ∀ x ∈ l, x.ant.length ≤ 1048576) :
    Calls Try.prog 44 #[.slice ao n cap] w fun e w' => ∃ (L : List (Ut × Value)) (ad : Option Addr) (c : Nat), e = .returned (.slice ad L.length c) ∧ L.map Prod.fst = l ∧ w'.ownsRow w.heap.size 78 1 (.slice ad L.length c) L.length (L.map aI) ∧ Antis w' w.heap.size L ∧ Below w.heap.size w w' := by
  obtain rfl := h.len
  have HH := hidden h
  have HT := hidden ht
  clear h ht
  obtain ⟨i0, hi0, hz0, hz1, hz2⟩ := info_partsW infoB
  go_enter Try.func44, Try.ntmps44
  go_wp2_with (refine wpList_make_own _ rfl (.const (.int .i64 0)) (.tmp 7) 75 rfl w.heap.size 78 i0 .nilIface 1 Try.underlying75 hi0 hz0 hz1 .i64 .i64 _ l.length rfl rfl rfl (by rw [hz2]; omega) (by unfold maxLen; omega) (Nat.le_refl _) ?_; intro w1 ho1 hg1)
  have b1 : Below w.heap.size w w1 := (Below.refl _ w).grown hg1 (Nat.le_refl _) (by simp)
  clear hg1
  go_wp2_with fail
  go_loopw [3, 5, 11] (fun sv _ iv wr => ∃ (L : List (Ut × Value)), L.length ≤ l.length ∧ iv = .int .i64 L.length ∧ Hid (L.map Prod.fst = l.take L.length) ∧ (∃ ad c, sv = .slice ad L.length c ∧ wr.ownsRow w.heap.size 78 1 (.slice ad L.length c) L.length (L.map aI)) ∧ Antis wr w.heap.size L ∧ Below w.heap.size w wr) (fun _ _ iv _ => l.length - (intOf iv).toNat)
  case atStart => exact ⟨[], Nat.zero_le _, rfl, rfl, ⟨_, _, rfl, ho1⟩, Antis.nil _ _, b1⟩
  case round =>
    clear ho1 b1
    obtain ⟨L, hi, rfl, HL, ⟨ad, c, rfl, ho⟩, hT, hb⟩ := hrel
    have hsz := hb.size
    by_cases hlt : L.length < l.length
    · have hlti : (L.length : Int) < (l.length : Int) := by omega
      obtain ⟨x, hx⟩ := some_of l L.length hlt
      obtain ⟨g, off, ta, tc, rfl, hg, hrow, c0, c1, c2, c3, c4, c5⟩ := (HH.out.below hb).at hx
      have hxt := HT.out x (List.mem_of_getElem? hx)
      have hK := fun W hW => anewU_any x ta x.ant.length tc W hW hxt
      have hJ := fun a c W => instate_any x a x.ant.length c W
      unfold aI aU at hK hJ
      dsimp only at hJ
      have HR := hidden (fun W (hW : Below wr.heap.size wr W) => hrow.below hW)
      have HN := hidden (take_snocU hx)
      have HTm := hidden hT
      have HO := hidden ho
      clear hx hrow hT ho
      go_wp2_with (first
        | (go_at_call 82; refine (hK _ (HR.out _ (by repeat (first | exact Below.refl _ _ | assumption | refine st_drew ?_ | refine st_drewN ?_ _ | refine Below.setCell ?_ (by first | omega | (simp; done) | (simp; omega)) _ | refine Below.alloc ?_ (by first | omega | (simp; done) | (simp; omega)) _)))).mono ?_; rintro e w2 ⟨a2, k2, rfl, ho2, hb2⟩; have bD := onto (show Below wr.heap.size wr _ from by repeat (first | exact Below.refl _ _ | assumption | refine st_drew ?_ | refine st_drewN ?_ _ | refine Below.setCell ?_ (by first | omega | (simp; done) | (simp; omega)) _ | refine Below.alloc ?_ (by first | omega | (simp; done) | (simp; omega)) _)) hb2; have bA := onto hb bD; have z2 := bD.size; have zz := bA.size; have T2 := hidden ho2; have O2 := hidden (ownW_below HO.out bD); have M2 := hidden (HTm.out.below bD); have z3 := hb2.size; simp only [World.size_alloc] at z3; clear ho2 hb2)
        | (go_at_call 83; refine (hJ _ _ _).mono ?_; rintro e w3 ⟨rfl, hb3⟩; have bE := onto bA hb3; have T3 := hidden (ownW_below T2.out hb3); have O3 := hidden (ownW_below O2.out hb3); have M3 := hidden (M2.out.below hb3); have z5 := hb3.size; clear hb3)
        | (at_builtin; refine wpList_append_own _ rfl (.tmp 15) (.tmp 19) 75 rfl w.heap.size 78 i0 .nilIface 1 16 Try.underlying75 hi0 hz0 hz1 hz2 rfl (by decide) _ L.length (L.map aI) rfl (O3.out.alloc _) ⟨w3.heap.size, 0, none⟩ 1 1 [.iface (ifT x.st) (.agg #[.int .i64 x.id, .int .i64 x.grp, .slice a2 x.ant.length k2, .int .i64 x.til, .int .i64 x.st, .int .i64 x.fr])] rfl rfl (cell_oneW _ _ _) (oneF _ _) (by unfold maxLen; omega) (by omega) (by simp; omega) ?_; intro v4 w4 ho4 hg4 hnn4; have hO4 := hidden ho4; obtain ⟨ad4, c4, rfl⟩ := ownW_slice ho4))
      have b4 := grownQ (show Below w.heap.size w (w3.alloc (.cells #[.iface (ifT x.st) (.agg #[.int .i64 x.id, .int .i64 x.grp, .slice a2 x.ant.length k2, .int .i64 x.til, .int .i64 x.st, .int .i64 x.fr])] 78)) from by repeat (first | exact Below.refl _ _ | assumption | refine st_drew ?_ | refine st_drewN ?_ _ | refine Below.setCell ?_ (by first | omega | (simp; done) | (simp; omega)) _ | refine Below.alloc ?_ (by first | omega | (simp; done) | (simp; omega)) _)) (by simp; omega) hg4 (fun k hk => (ownW_lt HO.out k hk).1)
      have T4 := ((M3.out.below (show Below w3.heap.size w3 (w3.alloc (.cells #[.iface (ifT x.st) (.agg #[.int .i64 x.id, .int .i64 x.grp, .slice a2 x.ant.length k2, .int .i64 x.til, .int .i64 x.st, .int .i64 x.fr])] 78)) from by repeat (first | exact Below.refl _ _ | assumption | refine st_drew ?_ | refine st_drewN ?_ _ | refine Below.setCell ?_ (by first | omega | (simp; done) | (simp; omega)) _ | refine Below.alloc ?_ (by first | omega | (simp; done) | (simp; omega)) _))).snoc (p := (x, .slice a2 x.ant.length k2)) (ownW_below T3.out (by repeat (first | exact Below.refl _ _ | assumption | refine st_drew ?_ | refine st_drewN ?_ _ | refine Below.setCell ?_ (by first | omega | (simp; done) | (simp; omega)) _ | refine Below.alloc ?_ (by first | omega | (simp; done) | (simp; omega)) _))) (by simp only [World.size_alloc]; omega) (fun q hq k hk => by have := (HTm.out.lt q hq k hk).2; simp only [World.size_alloc]; omega)).grown (by decide) (O3.out.alloc _) hg4
      have HF : Hid ((L ++ [(x, Value.slice a2 x.ant.length k2)]).map Prod.fst = l.take (L ++ [(x, Value.slice a2 x.ant.length k2)]).length) := by rw [Hid, List.map_append, HL.out, List.length_append]; exact HN.out.symm
      go_roundw
      case rel => exact ⟨L ++ [(x, .slice a2 x.ant.length k2)], by rw [List.length_append]; simp; omega, by rw [List.length_append]; rfl, HF, ⟨ad4, c4, by rw [List.length_append]; rfl, by rw [List.map_append, List.length_append]; exact hO4.out⟩, T4, b4⟩
      case measure => simp [intOf]; omega
    · have hlti : ¬ (L.length : Int) < (l.length : Int) := by omega
      have hil : L.length = l.length := by omega
      have HF : Hid (L.map Prod.fst = l) := by rw [Hid, HL.out, hil, List.take_length]
      clear hil
      go_wp2_with fail
      go_ret
      exact ⟨L, _, _, rfl, HF.out, ho, hT, hb⟩
end Go.Proofs.Ytgcpiinmcbdkmaa
