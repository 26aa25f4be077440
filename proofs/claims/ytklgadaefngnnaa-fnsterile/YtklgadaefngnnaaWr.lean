/-
  The uses that the program finds; CycleOf.
-/
import Derived.Test.YtklgadaefngnnaaWq
import Derived.Test.YtklgadaefngnnaaWk
namespace Go.Proofs.Ytklgadaefngnnaa
open Go.RowKit Va Wa Go.Maps
set_option linter.unusedVariables false

def csU (x : Us) (k : Nat) : Int := match k with | 0 => x.at' | 1 => x.cyc | _ => x.per
theorem cellsU (L : List Us) (x : Us) : cellsL 3 csU (L ++ [x]) = cellsL 3 csU L ++ [.int .i64 x.at', .int .i64 x.cyc, .int .i64 x.per] := by
  unfold cellsL
  rw [List.flatMap_append]
  rfl
theorem use_cells {w : World} {ao : Option Addr} {n cap : Nat} {l : List Us} {k : Nat} {s : Us} (h : Rw 3 csU w (.slice ao n cap) l) (hk : l[k]? = some s) :
    ∃ g off, ao = some ⟨g, off, none⟩ ∧ g < w.heap.size ∧ w.cell? ⟨g, off + k * 3, none⟩ = some (.int .i64 s.at') ∧ w.cell? ⟨g, off + k * 3 + 1, none⟩ = some (.int .i64 s.cyc) ∧ w.cell? ⟨g, off + k * 3 + 2, none⟩ = some (.int .i64 s.per) := by
  obtain ⟨g, off, h1, h2, h3⟩ := h.at hk
  exact ⟨g, off, h1, h2, h3 0 (by omega), h3 1 (by omega), h3 2 (by omega)⟩
theorem infoUse : (Try.prog.info? 105).map (fun i => (i.zero, i.size, i.bytes)) = some (some (.agg #[.int .i64 0, .int .i64 0, .int .i64 0]), 3, 24) := by kernel_rfl
theorem cell_threeW (w : World) (a b c : Value) (t : TypeId) : ∀ (j : Nat) (u : Value), [a, b, c][j]? = some u → (w.alloc (.cells #[a, b, c] t)).cell? ((⟨w.heap.size, 0, none⟩ : Addr).add j) = some u := fun j u hu => by
  have e0 : (w.alloc (Obj.cells #[a, b, c] t)).heap[w.heap.size]? = some (Obj.cells #[a, b, c] t) := (MapKept.heap_alloc w _).1
  rw [Addr.add_lit, Nat.zero_add]
  simp only [World.cell?, e0]
  simpa using hu
theorem three_oneW (a b c : Int) : ∀ u ∈ [Value.int .i64 a, .int .i64 b, .int .i64 c], u.oneCell' = true := by
  intro u hu
  simp only [List.mem_cons, List.not_mem_nil, or_false] at hu
  rcases hu with rfl | rfl | rfl <;> rfl
theorem box_tf {w w2 : World} {base : Nat} {a b c d : Value} (h : Tf base (w.alloc (.cells #[a, b, c, d] 58)) w2) : w2.cell? ⟨w.heap.size, 0, none⟩ = some a ∧ w2.cell? ⟨w.heap.size, 1, none⟩ = some b ∧ w2.cell? ⟨w.heap.size, 2, none⟩ = some c ∧ w2.cell? ⟨w.heap.size, 3, none⟩ = some d := by
  have e0 : (w.alloc (Obj.cells #[a, b, c, d] 58)).heap[w.heap.size]? = some (Obj.cells #[a, b, c, d] 58 (0, 0)) := (MapKept.heap_alloc w _).1
  have e1 := (h.cells _ _ _ _ e0 (by decide)).trans e0
  refine ⟨?_, ?_, ?_, ?_⟩ <;> simp [World.cell?, e1]
theorem rAt_succ {l : List Stp} {i : Nat} {x : Stp} (hx : l[i]? = some x) : rAt l (i + 1) = nxt (rAt l i) x := rm_take hx

set_option maxRecDepth 20000 in
set_option maxHeartbeats 4000000 in
theorem iuses_any (ao : Option Addr) (n cap : Nat) (l : List Stp) (w : World) (h : Rw 4 csT w (.slice ao n cap) l) (hn : l.length ≤ 1048576) :
    Calls Try.prog 68 #[.slice ao n cap] w fun e w' => ∃ ad c, e = .returned (.slice ad (uses l).length c) ∧ w'.ownsRow w.heap.size 105 3 (.slice ad (uses l).length c) (uses l).length (cellsL 3 csU (uses l)) ∧ Below w.heap.size w w' := by
  obtain rfl := h.len
  have k1 := fun W hW => isteps_any ao l.length cap l W hW hn
  have HH := hidden h
  have HW := hidden (fun W (hW : Below w.heap.size w W) => h.below hW)
  obtain ⟨i0, hi0, hv0, hv1, hv2⟩ := info_partsW infoUse
  clear h
  cases hs : ssB l with
  | false =>
    rw [hs] at k1
    have HN : Hid (uses l = []) := by rw [Hid, uses, hs]; rfl
    clear hs
    go_enter Try.func68, Try.ntmps68
    go_wp2_with (go_at_call 65; refine (k1 _ (HW.out _ (by repeat (first | exact Below.refl _ _ | assumption | refine st_drew ?_ | refine st_drewN ?_ _ | refine Below.setCell ?_ (by first | omega | (simp; done) | (simp; omega)) _ | refine Below.alloc ?_ (by first | omega | (simp; done) | (simp; omega)) _)))).mono ?_; rintro e w1 ⟨rfl, hb1⟩; have hq1 := ownW_below (ownW_new w 105 3) hb1; have bA := onto (show Below w.heap.size w _ from by repeat (first | exact Below.refl _ _ | assumption | refine st_drew ?_ | refine st_drewN ?_ _ | refine Below.setCell ?_ (by first | omega | (simp; done) | (simp; omega)) _ | refine Below.alloc ?_ (by first | omega | (simp; done) | (simp; omega)) _)) hb1)
    go_ret
    rw [HN.out]
    exact ⟨_, _, rfl, hq1, bA⟩
  | true =>
  rw [hs] at k1
  have hok := of_ssB hs
  have hl2 := hok.1
  have HOK := hidden hok
  have HN : Hid (uses l = usesTo l l.length) := by rw [Hid, uses, hs]; rfl
  clear hs hok
  obtain ⟨Z, hZ, hZs, hZ1, hZc⟩ := zroom
  have hbd := built_room hZ
  obtain ⟨hz1, hz2⟩ := zero_of_info hZ
  have hst := fun W => run_storeCells_new (P := Try.prog) W 97 Z Z (by rw [hz2, hZs]) rfl hZ1
  have hsz := sizeRoom
  have HZ := hidden (fun W (hW : w.heap.size ≤ W.heap.size) => room_new hZs hZc W w.heap.size hW)
  clear hZ hz2 hZ1 hZc
  go_enter Try.func68, Try.ntmps68
  go_wp2_with (go_at_call 65; refine (k1 _ (HW.out _ (by repeat (first | exact Below.refl _ _ | assumption | refine st_drew ?_ | refine st_drewN ?_ _ | refine Below.setCell ?_ (by first | omega | (simp; done) | (simp; omega)) _ | refine Below.alloc ?_ (by first | omega | (simp; done) | (simp; omega)) _)))).mono ?_; rintro e w1 ⟨rfl, hb1⟩; have hq1 := ownW_below (ownW_new w 105 3) hb1; have bA := onto (show Below w.heap.size w _ from by repeat (first | exact Below.refl _ _ | assumption | refine st_drew ?_ | refine st_drewN ?_ _ | refine Below.setCell ?_ (by first | omega | (simp; done) | (simp; omega)) _ | refine Below.alloc ?_ (by first | omega | (simp; done) | (simp; omega)) _)) hb1; clear hb1)
  go_loopw [3, 17] (fun sv iv wr => ∃ (i : Nat) (U : List Us), i ≤ l.length ∧ iv = .int .i64 i ∧ Hid (U = usesTo l i) ∧ (∃ ad c, sv = .slice ad U.length c ∧ wr.ownsRow w.heap.size 105 3 (.slice ad U.length c) U.length (cellsL 3 csU U)) ∧ Room wr w.heap.size w1.heap.size i (rAt l i) ∧ Below w.heap.size w wr) (fun _ iv _ => l.length - (intOf iv).toNat)
  case atStart =>
    have hsz1 := bA.size
    exact ⟨0, [], Nat.zero_le _, rfl, rfl, ⟨_, _, rfl, ownW_below hq1 (by repeat (first | exact Below.refl _ _ | refine st_drew ?_ | refine st_drewN ?_ _ | refine Below.setCell ?_ (by first | omega | (simp; done) | (simp; omega)) _ | refine Below.alloc ?_ (by first | omega | (simp; done) | (simp; omega)) _))⟩, HZ.out w1 hsz1, bA.alloc hsz1 _⟩
  case round =>
    clear hq1 hbd hz1 hst HZ k1 hZs hsz
    have hsz1 := bA.size
    clear bA
    obtain ⟨i, U, hi, rfl, HU, ⟨ad, c, rfl, ho⟩, hR, hb⟩ := hrel
    have hszr := hb.size
    have hUl : U.length ≤ i := by rw [HU.out]; exact usesTo_len l i
    by_cases hlt : i < l.length
    · have hlti : (i : Int) < (l.length : Int) := by omega
      obtain ⟨x, hx⟩ := some_of l i hlt
      obtain ⟨g, off, rfl, hg, c0, c1, c2, c3⟩ := step_cells (HH.out.below hb) hx
      have hxo := HOK.out.2 x (List.mem_of_getElem? hx)
      have hM := hidden (rAt_succ hx)
      have k2 := fun W hW => ido_any w.heap.size w1.heap.size i (rAt l i) x hxo W hW (by omega)
      have HRW := hidden (fun W (hW : Below wr.heap.size wr W) => hR.below hW)
      have HO := hidden (fun W (hW : Below wr.heap.size wr W) => ownW_below ho hW)
      have HY := hidden (fun h => usesTo_yes hx h)
      have HZn := hidden (fun h => usesTo_no hx h)
      obtain ⟨kk, tI, cI, p⟩ := x
      obtain ⟨⟨t0, t1⟩, -, -, -⟩ := hxo
      simp only at t0 t1 c0 c1 c2 c3
      obtain ⟨t, rfl⟩ : ∃ t' : Nat, tI = (t' : Int) := ⟨tI.toNat, by omega⟩
      have htl : t < 1000 := by omega
      have hti : (t : Int) < 1000 := by omega
      obtain ⟨cc, r0, r1⟩ := hR.cellCy htl
      have hgl := hR.lt.2
      unfold aT at k2
      simp only at k2
      clear hx hR ho t0 t1
      by_cases hu : isUse (rAt l i) ⟨kk, t, cI, p⟩
      · have hu1 : kk = 5 := hu.1
        have hu2 : (rAt l i).st t = 3 := by have := hu.2; simpa using this
        subst hu1
        have e0 : codeS (rAt l i) ⟨5, t, cI, p⟩ = 0 := by simp [codeS, hu2]
        rw [e0] at k2
        have hcc : cc = (rAt l i).cy t := r1 (Or.inr hu2)
        have HQ : Hid (usesTo l (i + 1) = U ++ [⟨i, cc, p⟩]) := by rw [Hid, HY.out hu, HU.out, hcc]; simp
        generalize nxt (rAt l i) _ = N at *
        clear e0 hu hu2 hcc r1
        go_wp2_with (first
          | (go_at_call 66; refine (k2 _ (HRW.out _ (by repeat (first | exact Below.refl _ _ | assumption | refine st_drew ?_ | refine st_drewN ?_ _ | refine Below.setCell ?_ (by first | omega | (simp; done) | (simp; omega)) _ | refine Below.alloc ?_ (by first | omega | (simp; done) | (simp; omega)) _)))).mono ?_; rintro e w2 ⟨rfl, hr2, ht2⟩; have ho2 := hidden (ownW_tf (HO.out _ (by repeat (first | exact Below.refl _ _ | assumption | refine st_drew ?_ | refine st_drewN ?_ _ | refine Below.setCell ?_ (by first | omega | (simp; done) | (simp; omega)) _ | refine Below.alloc ?_ (by first | omega | (simp; done) | (simp; omega)) _))) ht2 (by decide)); have hB := box_tf (w := wr) ht2; have b2 := Tf.onto (show Below w.heap.size w _ from by repeat (first | exact Below.refl _ _ | assumption | refine st_drew ?_ | refine st_drewN ?_ _ | refine Below.setCell ?_ (by first | omega | (simp; done) | (simp; omega)) _ | refine Below.alloc ?_ (by first | omega | (simp; done) | (simp; omega)) _)) ht2; have hs2 := b2.size; obtain ⟨y0, y1, y2, y3⟩ := hB; clear ht2 k2)
          | (at_builtin; refine wpList_append_own _ rfl (.tmp 37) (.tmp 43) 102 rfl w.heap.size 105 i0 (.agg #[.int .i64 0, .int .i64 0, .int .i64 0]) 3 24 Try.underlying102 hi0 hv0 hv1 hv2 rfl (by decide) _ U.length (cellsL 3 csU U) rfl (ho2.out.alloc _) ⟨w2.heap.size, 0, none⟩ 1 1 [.int .i64 i, .int .i64 cc, .int .i64 p] rfl rfl (cell_threeW _ _ _ _ _) (three_oneW _ _ _) (by unfold maxLen; omega) (by omega) (by simp; omega) ?_; intro v5 w5 ho5 hg5 hn5; obtain ⟨ad5, c5, rfl⟩ := ownW_slice ho5))
        have hR5 := (hr2.below (show Below w2.heap.size w2 _ from by repeat (first | exact Below.refl _ _ | refine st_drew ?_ | refine st_drewN ?_ _ | refine Below.setCell ?_ (by first | omega | (simp; done) | (simp; omega)) _ | refine Below.alloc ?_ (by first | omega | (simp; done) | (simp; omega)) _))).grown (ho2.out.alloc (.cells #[.int .i64 i, .int .i64 cc, .int .i64 p] 105)) (by decide) hg5
        have b5 := (show Below w.heap.size w _ from by repeat (first | exact Below.refl _ _ | assumption | refine st_drew ?_ | refine st_drewN ?_ _ | refine Below.setCell ?_ (by first | omega | (simp; done) | (simp; omega)) _ | refine Below.alloc ?_ (by first | omega | (simp; done) | (simp; omega)) _)).grown hg5 (by simp; omega) (fun k hk => (ownW_lt ho2.out k hk).1)
        go_roundw
        case rel => exact ⟨i + 1, U ++ [(⟨i, cc, p⟩ : Us)], by omega, rfl, HQ.out.symm, ⟨_, _, by rw [List.length_append]; rfl, by rw [List.length_append, cellsU]; exact ho5⟩, by rw [hM.out]; exact hR5, b5⟩
        case measure => simp [intOf]; omega
      · have HQ : Hid (usesTo l (i + 1) = U) := by rw [Hid, HZn.out hu, HU.out]
        by_cases hk5 : kk = 5
        · subst hk5
          have hu2 : ¬ (rAt l i).st t = 3 := fun e => hu ⟨rfl, by simpa using e⟩
          have e0 : codeS (rAt l i) ⟨5, t, cI, p⟩ = 4 := by simp [codeS, hu2]
          rw [e0] at k2
          generalize nxt (rAt l i) _ = N at *
          clear e0 hu hu2 r1
          go_wp2_with (go_at_call 66; refine (k2 _ (HRW.out _ (by repeat (first | exact Below.refl _ _ | assumption | refine st_drew ?_ | refine st_drewN ?_ _ | refine Below.setCell ?_ (by first | omega | (simp; done) | (simp; omega)) _ | refine Below.alloc ?_ (by first | omega | (simp; done) | (simp; omega)) _)))).mono ?_; rintro e w2 ⟨rfl, hr2, ht2⟩; have ho2 := hidden (ownW_tf (HO.out _ (by repeat (first | exact Below.refl _ _ | assumption | refine st_drew ?_ | refine st_drewN ?_ _ | refine Below.setCell ?_ (by first | omega | (simp; done) | (simp; omega)) _ | refine Below.alloc ?_ (by first | omega | (simp; done) | (simp; omega)) _))) ht2 (by decide)); have hB := box_tf (w := wr) ht2; have b2 := Tf.onto (show Below w.heap.size w _ from by repeat (first | exact Below.refl _ _ | assumption | refine st_drew ?_ | refine st_drewN ?_ _ | refine Below.setCell ?_ (by first | omega | (simp; done) | (simp; omega)) _ | refine Below.alloc ?_ (by first | omega | (simp; done) | (simp; omega)) _)) ht2; obtain ⟨y0, y1, y2, y3⟩ := hB; clear ht2 k2)
          go_roundw
          case rel => exact ⟨i + 1, U, by omega, rfl, HQ.out.symm, ⟨_, _, rfl, ho2.out⟩, by rw [hM.out]; exact hr2, b2⟩
          case measure => simp [intOf]; omega
        · have q5 : (kk == 5) = false := by simp [hk5]
          generalize codeS (rAt l i) _ = C at *
          generalize nxt (rAt l i) _ = N at *
          clear hu r1 hk5
          go_wp2_with (go_at_call 66; refine (k2 _ (HRW.out _ (by repeat (first | exact Below.refl _ _ | assumption | refine st_drew ?_ | refine st_drewN ?_ _ | refine Below.setCell ?_ (by first | omega | (simp; done) | (simp; omega)) _ | refine Below.alloc ?_ (by first | omega | (simp; done) | (simp; omega)) _)))).mono ?_; rintro e w2 ⟨rfl, hr2, ht2⟩; have ho2 := hidden (ownW_tf (HO.out _ (by repeat (first | exact Below.refl _ _ | assumption | refine st_drew ?_ | refine st_drewN ?_ _ | refine Below.setCell ?_ (by first | omega | (simp; done) | (simp; omega)) _ | refine Below.alloc ?_ (by first | omega | (simp; done) | (simp; omega)) _))) ht2 (by decide)); have hB := box_tf (w := wr) ht2; have b2 := Tf.onto (show Below w.heap.size w _ from by repeat (first | exact Below.refl _ _ | assumption | refine st_drew ?_ | refine st_drewN ?_ _ | refine Below.setCell ?_ (by first | omega | (simp; done) | (simp; omega)) _ | refine Below.alloc ?_ (by first | omega | (simp; done) | (simp; omega)) _)) ht2; obtain ⟨y0, y1, y2, y3⟩ := hB; clear ht2 k2)
          go_roundw
          case rel => exact ⟨i + 1, U, by omega, rfl, HQ.out.symm, ⟨_, _, rfl, ho2.out⟩, by rw [hM.out]; exact hr2, b2⟩
          case measure => simp [intOf]; omega
    · have hlti : ¬ (i : Int) < (l.length : Int) := by omega
      have hin : i = l.length := by omega
      subst hin
      have HF : Hid (U = uses l) := by rw [Hid, HU.out, HN.out]
      rw [HF.out] at ho ⊢
      clear hR
      go_wp2_with fail
      go_ret
      exact ⟨_, _, rfl, ho, hb⟩
end Go.Proofs.Ytklgadaefngnnaa
