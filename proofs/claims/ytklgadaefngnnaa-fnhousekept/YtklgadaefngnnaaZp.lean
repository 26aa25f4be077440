/-
  A house and a move drawn of bytes: the walk.
-/
import Derived.Test.YtklgadaefngnnaaZo
namespace Go.Proofs.Ytklgadaefngnnaa
open Go.RowKit Hm
set_option linter.all false

theorem dD_0 : Rg.dstAt (Rg.opsOf Try.f9 3) 0 = some 14 := by kernel_rfl
theorem dD_1 : Rg.dstAt (Rg.opsOf Try.f9 3) 1 = some 15 := by kernel_rfl
theorem dD_2 : Rg.dstAt (Rg.opsOf Try.f9 3) 2 = some 16 := by kernel_rfl
theorem dD_3 : Rg.dstAt (Rg.opsOf Try.f9 3) 3 = some 17 := by kernel_rfl
theorem dD_4 : Rg.dstAt (Rg.opsOf Try.f9 3) 4 = some 18 := by kernel_rfl
theorem dD_5 : Rg.dstAt (Rg.opsOf Try.f9 3) 5 = some 19 := by kernel_rfl
theorem dD_6 : Rg.dstAt (Rg.opsOf Try.f9 3) 6 = some 20 := by kernel_rfl
theorem dD_7 : Rg.dstAt (Rg.opsOf Try.f9 3) 7 = none := by kernel_rfl
theorem dD_8 : Rg.dstAt (Rg.opsOf Try.f9 3) 8 = none := by kernel_rfl
theorem layD {a b : Act} (hf : Rg.Fr (Rg.opsOf Try.f9 3) a b) : b = (((((((a.put (some 14) (Rg.out (Rg.opsOf Try.f9 3) b 0)).put (some 15) (Rg.out (Rg.opsOf Try.f9 3) b 1)).put (some 16) (Rg.out (Rg.opsOf Try.f9 3) b 2)).put (some 17) (Rg.out (Rg.opsOf Try.f9 3) b 3)).put (some 18) (Rg.out (Rg.opsOf Try.f9 3) b 4)).put (some 19) (Rg.out (Rg.opsOf Try.f9 3) b 5)).put (some 20) (Rg.out (Rg.opsOf Try.f9 3) b 6)) := by
  have h := hf.chain
  rw [sizesD, show List.range 9 = [0, 1, 2, 3, 4, 5, 6, 7, 8] from by decide] at h
  simp only [List.foldl_cons, List.foldl_nil, dD_0, dD_1, dD_2, dD_3, dD_4, dD_5, dD_6, dD_7, dD_8, Act.put_none] at h
  exact h
theorem own_kx {g R : Nat} {w w' : World} {b e s n : Nat} {v : Value} {xs : List Value} (h : w.ownsRow b e s v n xs) (hk : KX g R w w') (hg : g < b) (hR : R < b) : w'.ownsRow b e s v n xs := by
  obtain ⟨q, ⟨q1, q2⟩ | ⟨G, c, cur, rfl, hG, hh, r⟩⟩ := h
  · exact ⟨q, Or.inl ⟨q1, q2⟩⟩
  · exact ⟨q, Or.inr ⟨G, c, cur, rfl, hG, (hk.block G (Array.getElem?_eq_some_iff.1 hh).1 (by omega) (by omega)).trans hh, r⟩⟩
theorem own_row {w : World} {b e s n M : Nat} {v : Value} {xs : List Value} {r : Array Value} (h : w.ownsRow b e s v n xs) (hM : M < b) : (w.setRow M r).ownsRow b e s v n xs := by
  obtain ⟨q, ⟨q1, q2⟩ | ⟨G, c, cur, rfl, hG, hh, rr⟩⟩ := h
  · exact ⟨q, Or.inl ⟨q1, q2⟩⟩
  · exact ⟨q, Or.inr ⟨G, c, cur, rfl, hG, (setRow_other _ _ _ _ (by omega)).trans hh, rr⟩⟩
set_option maxRecDepth 20000 in
set_option maxHeartbeats 8000000 in
theorem dhd_any (ao : Option Addr) (cap : Nat) (bs : List Int) (w : World) (hb : Bytes w w.heap.size ao bs) (hl : bs.length ≤ 1048576) :
    Calls Try.prog 9 #[.slice ao bs.length cap] w fun e w' => ∃ vb vs B S m, e = .returned (.tuple #[.agg #[vb, vs], aM m]) ∧ HRw w' vb vs B S ∧ B.length = 7 ∧ S.length ≤ 1001 ∧ Below w.heap.size w w' := by
  have bA : Below w.heap.size w ((w.alloc (.cells #[.slice none 0 0, .slice none 0 0] 27)).alloc (.cells #[.int .i64 0, .int .i64 0, .int .i64 0, .int .i64 0, .int .i64 0, .int .i64 0] 29)) := ((Below.refl _ w).alloc (Nat.le_refl _) _).alloc (by simp) _
  have hRA : ((w.alloc (.cells #[.slice none 0 0, .slice none 0 0] 27)).alloc (.cells #[.int .i64 0, .int .i64 0, .int .i64 0, .int .i64 0, .int .i64 0, .int .i64 0] 29)).heap[w.heap.size]? = some (.cells #[.slice none 0 0, .slice none 0 0] 27 (0, 0)) := (((Below.refl (w.heap.size + 1) (w.alloc (.cells #[.slice none 0 0, .slice none 0 0] 27))).alloc (by simp) _).block w.heap.size (by omega)).trans (heap_alloc_new _ _)
  have hMA : ((w.alloc (.cells #[.slice none 0 0, .slice none 0 0] 27)).alloc (.cells #[.int .i64 0, .int .i64 0, .int .i64 0, .int .i64 0, .int .i64 0, .int .i64 0] 29)).heap[w.heap.size + 1]? = some (.cells #[.int .i64 0, .int .i64 0, .int .i64 0, .int .i64 0, .int .i64 0, .int .i64 0] 29 (0, 0)) := by
    have := heap_alloc_new (w.alloc (.cells #[.slice none 0 0, .slice none 0 0] 27)) (.cells #[.int .i64 0, .int .i64 0, .int .i64 0, .int .i64 0, .int .i64 0, .int .i64 0] 29)
    simpa using this
  have hzA : ((w.alloc (.cells #[.slice none 0 0, .slice none 0 0] 27)).alloc (.cells #[.int .i64 0, .int .i64 0, .int .i64 0, .int .i64 0, .int .i64 0, .int .i64 0] 29)).heap.size = w.heap.size + 2 := by simp
  go_enter Try.func9, Try.ntmps9
  go_wp2_with fail
  generalize (w.alloc (.cells #[.slice none 0 0, .slice none 0 0] 27)).alloc (.cells #[.int .i64 0, .int .i64 0, .int .i64 0, .int .i64 0, .int .i64 0, .int .i64 0] 29) = wA at *
  refine (new_any ao cap bs _ (bytes_up hb bA) hl).mono ?_
  rintro e w1 ⟨rfl, hc1, hb1⟩
  have HZA := hidden hzA
  have hR1 := (hb1.block w.heap.size (by omega)).trans hRA
  have hM1 := (hb1.block (w.heap.size + 1) (by omega)).trans hMA
  have b1 : Below w.heap.size w w1 := bA.trans (hb1.mono (by omega))
  have hg2 : w.heap.size + 2 ≤ wA.heap.size := by omega
  have HBY1 : Hid (Bytes w1 w.heap.size ao bs) := hb.below b1
  clear hzA hRA hMA bA hb1 hb
  generalize wA.heap.size = g at *
  go_wp2_with fail
  refine (dany_any g ao cap bs _ hc1).mono ?_
  rintro e w2 ⟨vb, vs, B, S, t, rfl, hn2, hB, hS, ht0, ht1, hc2, hk2⟩
  have hg1 := hc1.1
  have hR2 := (hk2.block w.heap.size (Array.getElem?_eq_some_iff.1 hR1).1 (by omega)).trans hR1
  have hM2 := (hk2.block (w.heap.size + 1) (Array.getElem?_eq_some_iff.1 hM1).1 (by omega)).trans hM1
  have b2 : Below w.heap.size w w2 := b1.trans ((hk2.below (B := w.heap.size) (by omega) (by omega)))
  obtain ⟨a1, c1, a2, c2, rfl, rfl⟩ := hn2.form
  have HB := hidden hB
  have HS := hidden hS
  have hs2 := hk2.size
  have hn3 := hn2.below ((Below.refl _ w2).alloc (Nat.le_refl _) (.cells #[.slice a1 B.length c1, .slice a2 S.length c2] 27))
  have hc3 := hc2.below ((Below.refl _ w2).alloc hc2.1 (.cells #[.slice a1 B.length c1, .slice a2 S.length c2] 27))
  have b3 := b2.alloc b2.size (.cells #[.slice a1 B.length c1, .slice a2 S.length c2] 27)
  have hR3 := (((Below.refl w2.heap.size w2).alloc (Nat.le_refl _) (.cells #[.slice a1 B.length c1, .slice a2 S.length c2] 27)).block w.heap.size (Array.getElem?_eq_some_iff.1 hR2).1).trans hR2
  have hM3 := (((Below.refl w2.heap.size w2).alloc (Nat.le_refl _) (.cells #[.slice a1 B.length c1, .slice a2 S.length c2] 27)).block (w.heap.size + 1) (Array.getElem?_eq_some_iff.1 hM2).1).trans hM2
  have hX3 := heap_alloc_new w2 (.cells #[.slice a1 B.length c1, .slice a2 S.length c2] 27)
  have hMl := (Array.getElem?_eq_some_iff.1 hM2).1
  have hg2l := hc2.1
  have hbase : g < w1.heap.size := hg1
  have HBY3 : Hid (Bytes (w2.alloc (.cells #[.slice a1 B.length c1, .slice a2 S.length c2] 27)) w.heap.size ao bs) := (HBY1.out.below (hk2.below (B := w.heap.size) (by omega) (by omega))).below ((Below.refl _ w2).alloc (by omega) _)
  clear hn2 hB hS hc1 hc2 hk2 hR1 hM1 hR2 hM2 b1 b2
  have hzX : w2.heap.size < (w2.alloc (.cells #[.slice a1 B.length c1, .slice a2 S.length c2] 27)).heap.size := by simp
  generalize hWW : w2.alloc (.cells #[.slice a1 B.length c1, .slice a2 S.length c2] 27) = w3 at *
  generalize hXX : w2.heap.size = X at *
  go_upto_region 3 with fail
  clear hWW hXX
  refine regD (g := g) (R := w.heap.size) (M := w.heap.size + 1) (X := X) (t := t) (cap := cap) (bs := bs) (ao := ao) rfl rfl rfl rfl rfl rfl hc3 HBY3.out (by omega) ht0 ht1 (by omega) (by omega) (by omega) (by omega) (by omega) hR3 hM3 hX3 ?_
  intro b' W m hf hKX hRW
  have hMW := (hKX.block (w.heap.size + 1) (Array.getElem?_eq_some_iff.1 hM3).1 (by omega) (by omega)).trans hM3
  have hnW : HNew (W.setRow (w.heap.size + 1) #[.int .i64 m.kind, .int .i64 m.person, .int .i64 m.sex, .int .i64 m.need, .int .i64 m.bed, .int .i64 m.time]) w1.heap.size (.slice a1 B.length c1) (.slice a2 S.length c2) B S := ⟨own_row (own_kx hn3.1 hKX hbase (by omega)) (by omega), own_row (own_kx hn3.2 hKX hbase (by omega)) (by omega)⟩
  have hRF : (W.setRow (w.heap.size + 1) #[.int .i64 m.kind, .int .i64 m.person, .int .i64 m.sex, .int .i64 m.need, .int .i64 m.bed, .int .i64 m.time]).heap[w.heap.size]? = some (.cells #[.slice a1 B.length c1, .slice a2 S.length c2] 27 (0, 0)) := (setRow_other _ _ _ _ (by omega)).trans hRW
  have hMF : (W.setRow (w.heap.size + 1) #[.int .i64 m.kind, .int .i64 m.person, .int .i64 m.sex, .int .i64 m.need, .int .i64 m.bed, .int .i64 m.time]).heap[w.heap.size + 1]? = some (.cells #[.int .i64 m.kind, .int .i64 m.person, .int .i64 m.sex, .int .i64 m.need, .int .i64 m.bed, .int .i64 m.time] 29 (0, 0)) := setRow_heap _ _ _ _ _ _ hMW
  have bF : Below w.heap.size w (W.setRow (w.heap.size + 1) #[.int .i64 m.kind, .int .i64 m.person, .int .i64 m.sex, .int .i64 m.need, .int .i64 m.bed, .int .i64 m.time]) := ⟨hKX.os.trans b3.os, hKX.tape.trans b3.tape, hKX.output.trans b3.output, by have h1 := hKX.size; have h2 := b3.size; simp; omega, fun b hb => (setRow_other _ _ _ _ (by omega)).trans ((hKX.block b (by have := b3.size; omega) (by omega) (by omega)).trans (b3.block b hb))⟩
  rw [layD hf]
  generalize Rg.out (Rg.opsOf Try.f9 3) b' 0 = q0
  generalize Rg.out (Rg.opsOf Try.f9 3) b' 1 = q1
  generalize Rg.out (Rg.opsOf Try.f9 3) b' 2 = q2
  generalize Rg.out (Rg.opsOf Try.f9 3) b' 3 = q3
  generalize Rg.out (Rg.opsOf Try.f9 3) b' 4 = q4
  generalize Rg.out (Rg.opsOf Try.f9 3) b' 5 = q5
  generalize Rg.out (Rg.opsOf Try.f9 3) b' 6 = q6
  go_frame
  obtain ⟨r0, r1, -, -⟩ := two_ofH hRF
  obtain ⟨⟨m0, m1, m2, m3, m4, m5⟩, -⟩ := six_ofH hMF
  go_wp2_with fail
  exact bodyPost_ret (v := .tuple #[.agg #[.slice a1 B.length c1, .slice a2 S.length c2], aM m]) (by simp [results, Try.results9, go_sem, r0, r1, m0, m1, m2, m3, m4, m5, aM]) rfl ⟨_, _, B, S, m, rfl, hnW.own.row, HB.out, HS.out, bF⟩
end Go.Proofs.Ytklgadaefngnnaa
