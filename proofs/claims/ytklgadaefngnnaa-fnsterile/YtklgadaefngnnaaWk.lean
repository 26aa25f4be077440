/-
  What the program's TrayDo and TrayState answer.
-/
import Derived.Test.YtklgadaefngnnaaWj
import Derived.Laws.AppendOwn
import Derived.Laws.OwnMore
namespace Go.Proofs.Ytklgadaefngnnaa
open Go.RowKit Va Wa Go.Maps
set_option linter.unusedVariables false

theorem ownW_new (w : World) (t : TypeId) (s : Nat) : (w.alloc (.cells #[] t)).ownsRow w.heap.size t s (.slice (some ⟨w.heap.size, 0, none⟩) 0 0) 0 [] :=
  ⟨by simp, .inr ⟨w.heap.size, 0, #[], rfl, Nat.le_refl _, (MapKept.heap_alloc w _).1, Nat.le_refl _, Nat.zero_le _, by simp, by simp⟩⟩
theorem ownW_lt {w : World} {b e s n : Nat} {v : Value} {xs : List Value} (h : w.ownsRow b e s v n xs) : ∀ k, v.ownBlock = some k → b ≤ k ∧ k < w.heap.size := by
  obtain ⟨_, ⟨rfl, _⟩ | ⟨g, cap, cur, rfl, hb, hh, _⟩⟩ := h
  · intro k hk; cases hk
  · intro k hk
    obtain rfl : g = k := by simpa [Value.ownBlock] using hk
    exact ⟨hb, (Array.getElem?_eq_some_iff.1 hh).1⟩
theorem ownW_slice {w : World} {b e s n : Nat} {v : Value} {xs : List Value} (h : w.ownsRow b e s v n xs) : ∃ ad c, v = .slice ad n c := by
  obtain ⟨_, ⟨rfl, rfl⟩ | ⟨g, cap, cur, rfl, _⟩⟩ := h
  · exact ⟨_, _, rfl⟩
  · exact ⟨_, _, rfl⟩
theorem ownW_below {w w' : World} {b e s n : Nat} {v : Value} {xs : List Value} (h : w.ownsRow b e s v n xs) (hb : Below w.heap.size w w') : w'.ownsRow b e s v n xs := by
  obtain ⟨q, ⟨q1, q2⟩ | ⟨g, c, cur, rfl, hg, hh, r⟩⟩ := h
  · exact ⟨q, Or.inl ⟨q1, q2⟩⟩
  · exact ⟨q, Or.inr ⟨g, c, cur, rfl, hg, (hb.block g (Array.getElem?_eq_some_iff.1 hh).1).trans hh, r⟩⟩
theorem ownW_tf {w w' : World} {base b e s n : Nat} {v : Value} {xs : List Value} (h : w.ownsRow b e s v n xs) (hb : Tf base w w') (he : e ≠ 97) : w'.ownsRow b e s v n xs := by
  obtain ⟨q, ⟨q1, q2⟩ | ⟨g, c, cur, rfl, hg, hh, r⟩⟩ := h
  · exact ⟨q, Or.inl ⟨q1, q2⟩⟩
  · exact ⟨q, Or.inr ⟨g, c, cur, rfl, hg, (hb.cells g _ _ _ hh he).trans hh, r⟩⟩
theorem cell_oneW (w : World) (a : Value) (t : TypeId) : ∀ (j : Nat) (u : Value), [a][j]? = some u → (w.alloc (.cells #[a] t)).cell? ((⟨w.heap.size, 0, none⟩ : Addr).add j) = some u := fun j u hu => by
  have e0 : (w.alloc (Obj.cells #[a] t)).heap[w.heap.size]? = some (Obj.cells #[a] t) := (MapKept.heap_alloc w _).1
  rw [Addr.add_lit, Nat.zero_add]
  simp only [World.cell?, e0]
  simpa using hu
theorem info_partsW {P : Program} {t : TypeId} {z : Value} {n b : Nat} (h : (P.info? t).map (fun i => (i.zero, i.size, i.bytes)) = some (some z, n, b)) : ∃ i, P.info? t = some i ∧ i.zero = some z ∧ i.size = n ∧ i.bytes = b := by
  obtain ⟨i, h1, h2⟩ := Option.map_eq_some_iff.1 h
  simp only [Prod.mk.injEq] at h2
  exact ⟨i, h1, h2.1, h2.2.1, h2.2.2⟩
theorem infoW64 : (Try.prog.info? 2).map (fun i => (i.zero, i.size, i.bytes)) = some (some (.int .i64 0), 1, 8) := by kernel_rfl
theorem Tf.onto {base : Nat} {w0 w w' : World} (h : Below base w0 w) (h2 : Tf base w w') : Below base w0 w' :=
  ⟨h2.os.trans h.os, h2.tape.trans h.tape, h2.output.trans h.output, Nat.le_trans h.size h2.size, fun b hb => (h2.block b hb).trans (h.block b hb)⟩
theorem codes_take {l : List Stp} {i : Nat} {x : Stp} (hx : l[i]? = some x) : codesF rm0 (l.take (i + 1)) = codesF rm0 (l.take i) ++ [codeS (rmF rm0 (l.take i)) x] := by rw [take_snocW hx, codesF_snoc]
theorem bys_take {l : List Stp} {i : Nat} {x : Stp} (hx : l[i]? = some x) : bysF rm0 (l.take (i + 1)) = bysF rm0 (l.take i) ++ [byS (rmF rm0 (l.take i)) x] := by rw [take_snocW hx, bysF_snoc]
theorem rm_take {l : List Stp} {i : Nat} {x : Stp} (hx : l[i]? = some x) : rmF rm0 (l.take (i + 1)) = nxt (rmF rm0 (l.take i)) x := by rw [take_snocW hx, rmF_snoc]
theorem sizeRoom (w : World) : (sizeOf 97).run Try.prog w = .ok 4000 w := by
  obtain ⟨i, h1, h2⟩ := Option.map_eq_some_iff.1 zroomD
  simp [sizeOf, typeInfo, h1, h2]

set_option maxRecDepth 20000 in
set_option maxHeartbeats 4000000 in
theorem itraydo_any (ao : Option Addr) (n cap : Nat) (l : List Stp) (w : World) (h : Rw 4 csT w (.slice ao n cap) l) (hn : l.length ≤ 1048576) :
    Calls Try.prog 24 #[.slice ao n cap] w fun e w' => ∃ v, e = .returned v ∧ w'.ownsRow w.heap.size 2 1 v (trayDo l).length ((trayDo l).map fun z => Value.int .i64 z) ∧ Below w.heap.size w w' := by
  obtain rfl := h.len
  have k1 := fun W hW => isteps_any ao l.length cap l W hW hn
  have HH := hidden h
  have HW := hidden (fun W (hW : Below w.heap.size w W) => h.below hW)
  obtain ⟨i0, hi0, hv0, hv1, hv2⟩ := info_partsW infoW64
  clear h
  cases hs : ssB l with
  | false =>
    rw [hs] at k1
    have HN : Hid (trayDo l = []) := by rw [Hid, trayDo, hs]; rfl
    clear hs
    go_enter Try.func24, Try.ntmps24
    go_wp2_with (go_at_call 65; refine (k1 _ (HW.out _ (by repeat (first | exact Below.refl _ _ | assumption | refine st_drew ?_ | refine st_drewN ?_ _ | refine Below.setCell ?_ (by first | omega | (simp; done) | (simp; omega)) _ | refine Below.alloc ?_ (by first | omega | (simp; done) | (simp; omega)) _)))).mono ?_; rintro e w1 ⟨rfl, hb1⟩; have hq1 := ownW_below (ownW_new w 2 1) hb1; have bA := onto (show Below w.heap.size w _ from by repeat (first | exact Below.refl _ _ | assumption | refine st_drew ?_ | refine st_drewN ?_ _ | refine Below.setCell ?_ (by first | omega | (simp; done) | (simp; omega)) _ | refine Below.alloc ?_ (by first | omega | (simp; done) | (simp; omega)) _)) hb1)
    go_ret
    rw [HN.out]
    exact ⟨_, rfl, hq1, bA⟩
  | true =>
  rw [hs] at k1
  have hok := of_ssB hs
  have hl2 := hok.1
  have HOK := hidden hok
  have HN : Hid (trayDo l = codesF rm0 l) := by rw [Hid, trayDo, hs]; rfl
  clear hs hok
  obtain ⟨Z, hZ, hZs, hZ1, hZc⟩ := zroom
  have hbd := built_room hZ
  obtain ⟨hz1, hz2⟩ := zero_of_info hZ
  have hst := fun W => run_storeCells_new (P := Try.prog) W 97 Z Z (by rw [hz2, hZs]) rfl hZ1
  have hsz := sizeRoom
  have HZ := hidden (fun W (hW : w.heap.size ≤ W.heap.size) => room_new hZs hZc W w.heap.size hW)
  clear hZ hz2 hZ1 hZc
  go_enter Try.func24, Try.ntmps24
  go_wp2_with (go_at_call 65; refine (k1 _ (HW.out _ (by repeat (first | exact Below.refl _ _ | assumption | refine st_drew ?_ | refine st_drewN ?_ _ | refine Below.setCell ?_ (by first | omega | (simp; done) | (simp; omega)) _ | refine Below.alloc ?_ (by first | omega | (simp; done) | (simp; omega)) _)))).mono ?_; rintro e w1 ⟨rfl, hb1⟩; have hq1 := ownW_below (ownW_new w 2 1) hb1; have bA := onto (show Below w.heap.size w _ from by repeat (first | exact Below.refl _ _ | assumption | refine st_drew ?_ | refine st_drewN ?_ _ | refine Below.setCell ?_ (by first | omega | (simp; done) | (simp; omega)) _ | refine Below.alloc ?_ (by first | omega | (simp; done) | (simp; omega)) _)) hb1; clear hb1)
  go_loopw [3, 15] (fun sv iv wr => ∃ i : Nat, i ≤ l.length ∧ iv = .int .i64 i ∧ (∃ ad c, sv = .slice ad i c ∧ wr.ownsRow w.heap.size 2 1 (.slice ad i c) i ((codesF rm0 (l.take i)).map fun z => Value.int .i64 z)) ∧ Room wr w.heap.size w1.heap.size i (rmF rm0 (l.take i)) ∧ Below w.heap.size w wr) (fun _ iv _ => l.length - (intOf iv).toNat)
  case atStart =>
    have hsz1 := bA.size
    exact ⟨0, Nat.zero_le _, rfl, ⟨_, _, rfl, ownW_below hq1 (by repeat (first | exact Below.refl _ _ | refine st_drew ?_ | refine st_drewN ?_ _ | refine Below.setCell ?_ (by first | omega | (simp; done) | (simp; omega)) _ | refine Below.alloc ?_ (by first | omega | (simp; done) | (simp; omega)) _))⟩, HZ.out w1 hsz1, bA.alloc hsz1 _⟩
  case round =>
    clear hq1 hbd hz1 hst HZ k1 hZs hsz
    have hsz1 := bA.size
    clear bA
    obtain ⟨i, hi, rfl, ⟨ad, c, rfl, ho⟩, hR, hb⟩ := hrel
    have hszr := hb.size
    by_cases hlt : i < l.length
    · have hlti : (i : Int) < (l.length : Int) := by omega
      obtain ⟨x, hx⟩ := some_of l i hlt
      obtain ⟨g, off, rfl, hg, c0, c1, c2, c3⟩ := step_cells (HH.out.below hb) hx
      have hxo := HOK.out.2 x (List.mem_of_getElem? hx)
      have hC := hidden (codes_take hx)
      have hM := hidden (rm_take hx)
      have k2 := fun W hW => ido_any w.heap.size w1.heap.size i (rmF rm0 (l.take i)) x hxo W hW (by omega)
      have HRW := hidden (fun W (hW : Below wr.heap.size wr W) => hR.below hW)
      have HO := hidden (fun W (hW : Below wr.heap.size wr W) => ownW_below ho hW)
      generalize codeS (rmF rm0 (l.take i)) x = C at *
      generalize nxt (rmF rm0 (l.take i)) x = N at *
      unfold aT at k2
      clear hx hxo hR ho
      go_wp2_with (first
        | (go_at_call 66; refine (k2 _ (HRW.out _ (by repeat (first | exact Below.refl _ _ | assumption | refine st_drew ?_ | refine st_drewN ?_ _ | refine Below.setCell ?_ (by first | omega | (simp; done) | (simp; omega)) _ | refine Below.alloc ?_ (by first | omega | (simp; done) | (simp; omega)) _)))).mono ?_; rintro e w2 ⟨rfl, hr2, ht2⟩; have ho2 := hidden (ownW_tf (HO.out _ (by repeat (first | exact Below.refl _ _ | assumption | refine st_drew ?_ | refine st_drewN ?_ _ | refine Below.setCell ?_ (by first | omega | (simp; done) | (simp; omega)) _ | refine Below.alloc ?_ (by first | omega | (simp; done) | (simp; omega)) _))) ht2 (by decide)); have b2 := Tf.onto (show Below w.heap.size w _ from by repeat (first | exact Below.refl _ _ | assumption | refine st_drew ?_ | refine st_drewN ?_ _ | refine Below.setCell ?_ (by first | omega | (simp; done) | (simp; omega)) _ | refine Below.alloc ?_ (by first | omega | (simp; done) | (simp; omega)) _)) ht2; have hs2 := b2.size; clear ht2 k2)
        | (at_builtin; refine wpList_append_own _ rfl (.tmp 19) (.tmp 22) 40 rfl w.heap.size 2 i0 (.int .i64 0) 1 8 Try.underlying40 hi0 hv0 hv1 hv2 rfl (by decide) _ i ((codesF rm0 (l.take i)).map fun z => Value.int .i64 z) rfl (ho2.out.alloc _) ⟨w2.heap.size, 0, none⟩ 1 1 [.int .i64 C] rfl rfl (cell_oneW _ _ _) (by simp [Value.oneCell']) (by unfold maxLen; omega) (by omega) (by simp; omega) ?_; intro v5 w5 ho5 hg5 hn5; obtain ⟨ad5, c5, rfl⟩ := ownW_slice ho5))
      have hR5 := (hr2.below (show Below w2.heap.size w2 _ from by repeat (first | exact Below.refl _ _ | refine st_drew ?_ | refine st_drewN ?_ _ | refine Below.setCell ?_ (by first | omega | (simp; done) | (simp; omega)) _ | refine Below.alloc ?_ (by first | omega | (simp; done) | (simp; omega)) _))).grown (ho2.out.alloc (.cells #[.int .i64 C] 2)) (by decide) hg5
      have b5 := (show Below w.heap.size w _ from by repeat (first | exact Below.refl _ _ | assumption | refine st_drew ?_ | refine st_drewN ?_ _ | refine Below.setCell ?_ (by first | omega | (simp; done) | (simp; omega)) _ | refine Below.alloc ?_ (by first | omega | (simp; done) | (simp; omega)) _)).grown hg5 (by simp; omega) (fun k hk => (ownW_lt ho2.out k hk).1)
      go_roundw
      case rel => exact ⟨i + 1, by omega, rfl, ⟨_, _, rfl, by rw [hC.out, List.map_append]; exact ho5⟩, by rw [hM.out]; exact hR5, b5⟩
      case measure => simp [intOf]; omega
    · have hlti : ¬ (i : Int) < (l.length : Int) := by omega
      have hin : i = l.length := by omega
      subst hin
      have HF : Hid (codesF rm0 (l.take l.length) = trayDo l) := by rw [Hid, List.take_length, HN.out]
      have HL : Hid ((trayDo l).length = l.length) := by rw [Hid, HN.out, codesF_len]
      rw [HF.out] at ho
      clear hR
      go_wp2_with fail
      go_ret
      exact ⟨_, rfl, by rw [HL.out]; exact ho, hb⟩
end Go.Proofs.Ytklgadaefngnnaa
