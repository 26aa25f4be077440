/-
  Banks copied, as the specification does.
-/
import Derived.Test.YtaidhcbchpcemaaQ31
namespace Go.Proofs.Ytaidhcbchpcemaa
open Go.RowKit Va Bl
set_option linter.all false

theorem Antis.grownB {w w' : World} {base g : Nat} {L : List (Ut × Value)} (h : Antis w base L) (hg : w.grownBy w' (some g)) (hl : ∀ p ∈ L, ∀ k, p.2.ownBlock = some k → k ≠ g) : Antis w' base L :=
  ⟨fun p hp => ownQ_grown (h.1 p hp) hg (fun k hk e => hl p hp k hk (Option.some.inj e).symm), h.2⟩

set_option maxRecDepth 20000 in
set_option maxHeartbeats 8000000 in
theorem scopyU_any (ao : Option Addr) (n cap : Nat) (l : List Ut) (w : World) (h : URw w (.slice ao n cap) l) (hn : l.length ≤ 300) (ht : ∀ x ∈ l, x.ant.length ≤ 1048576) :
    Calls Try.prog 40 #[.slice ao n cap] w fun e w' => ∃ (L : List (Ut × Value)) (ad : Option Addr) (c : Nat), e = .returned (.slice ad L.length c) ∧ L.map Prod.fst = l ∧ w'.ownsRow w.heap.size 37 6 (.slice ad L.length c) L.length (cellsU L) ∧ Antis w' w.heap.size L ∧ Below w.heap.size w w' := by
  obtain rfl := h.len
  have HH := hidden h
  have HT := hidden ht
  clear h ht
  obtain ⟨j0, hj0, hy0, hy1, hy2⟩ := info_partsW infoUq
  have ho0 := ownW_new w 37 6
  have hb0 : Below w.heap.size w (w.alloc (.cells #[] 37)) := by repeat (first | exact Below.refl _ _ | assumption | refine st_drew ?_ | refine st_drewN ?_ _ | refine Below.setCell ?_ (by first | omega | (simp; done) | (simp; omega)) _ | refine Below.alloc ?_ (by first | omega | (simp; done) | (simp; omega)) _)
  go_enter Try.func40, Try.ntmps40
  go_wp2_with fail
  go_loopw [3, 4, 5] (fun sv iv _ wr => ∃ (M : List (Ut × Value)), M.length ≤ l.length ∧ iv = .int .i64 M.length ∧ Hid (M.map Prod.fst = l.take M.length) ∧ (∃ ad c, sv = .slice ad M.length c ∧ wr.ownsRow w.heap.size 37 6 (.slice ad M.length c) M.length (cellsU M)) ∧ Antis wr w.heap.size M ∧ Below w.heap.size w wr) (fun _ iv _ _ => l.length - (intOf iv).toNat)
  case atStart => exact ⟨[], Nat.zero_le _, rfl, rfl, ⟨_, _, rfl, ho0⟩, Antis.nil _ _, hb0⟩
  case round =>
    clear ho0 hb0
    obtain ⟨M, hi, rfl, HL, ⟨ad, c, rfl, ho⟩, hT, hb⟩ := hrel
    have hsz := hb.size
    by_cases hlt : M.length < l.length
    · have hlti : (M.length : Int) < (l.length : Int) := by omega
      obtain ⟨x, hx⟩ := some_of l M.length hlt
      obtain ⟨g, off, ta, tc, rfl, hg, hrow, c0, c1, c2, c3, c4, c5⟩ := (HH.out.below hb).at hx
      have hxt := HT.out x (List.mem_of_getElem? hx)
      have HN := hidden (take_snocU hx)
      have HTm := hidden hT
      have HO := hidden ho
      have HR := hidden hrow
      clear hx hT ho hrow
      go_upto_region 6 with fail
      have PX := hidden ((PB.new wr #[.int .i64 x.id, .int .i64 x.grp, .slice ta x.ant.length tc, .int .i64 x.til, .int .i64 x.st, .int .i64 x.fr] 37).alloc (.cells #[] 2))
      have bx : Below wr.heap.size wr (wr.alloc (.cells #[.int .i64 x.id, .int .i64 x.grp, .slice ta x.ant.length tc, .int .i64 x.til, .int .i64 x.st, .int .i64 x.fr] 37)) := by repeat (first | exact Below.refl _ _ | assumption | refine st_drew ?_ | refine st_drewN ?_ _ | refine Below.setCell ?_ (by first | omega | (simp; done) | (simp; omega)) _ | refine Below.alloc ?_ (by first | omega | (simp; done) | (simp; omega)) _)
      have hzA : (wr.alloc (.cells #[.int .i64 x.id, .int .i64 x.grp, .slice ta x.ant.length tc, .int .i64 x.til, .int .i64 x.st, .int .i64 x.fr] 37)).heap.size = wr.heap.size + 1 := by simp
      have PY := hidden (PB.new wr #[.int .i64 x.id, .int .i64 x.grp, .slice ta x.ant.length tc, .int .i64 x.til, .int .i64 x.st, .int .i64 x.fr] 37)
      generalize wr.alloc (.cells #[.int .i64 x.id, .int .i64 x.grp, .slice ta x.ant.length tc, .int .i64 x.til, .int .i64 x.st, .int .i64 x.fr] 37) = wA at *
      have HZA := hidden hzA
      obtain ⟨r0, r1, r2, r3, r4, r5⟩ := PX.out.six
      have HR2 := hidden ((HR.out.below bx).below (show Below wA.heap.size wA (wA.alloc (.cells #[] 2)) from by repeat (first | exact Below.refl _ _ | assumption | refine st_drew ?_ | refine st_drewN ?_ _ | refine Below.setCell ?_ (by first | omega | (simp; done) | (simp; omega)) _ | refine Below.alloc ?_ (by first | omega | (simp; done) | (simp; omega)) _)))
      have O1 := hidden ((ownW_below HO.out bx).alloc (.cells #[] 2))
      have A1 := hidden ((HTm.out.below bx).below (show Below wA.heap.size wA (wA.alloc (.cells #[] 2)) from by repeat (first | exact Below.refl _ _ | assumption | refine st_drew ?_ | refine st_drewN ?_ _ | refine Below.setCell ?_ (by first | omega | (simp; done) | (simp; omega)) _ | refine Below.alloc ?_ (by first | omega | (simp; done) | (simp; omega)) _)))
      have b1 := hidden (onto hb (onto bx (show Below wA.heap.size wA (wA.alloc (.cells #[] 2)) from by repeat (first | exact Below.refl _ _ | assumption | refine st_drew ?_ | refine st_drewN ?_ _ | refine Below.setCell ?_ (by first | omega | (simp; done) | (simp; omega)) _ | refine Below.alloc ?_ (by first | omega | (simp; done) | (simp; omega)) _))))
      have L1 := hidden (fun k hk => (ownW_lt HO.out k hk).2)
      have L2 := hidden (fun p hp k hk => (HTm.out.lt p hp k hk).2)
      clear hzA c0 c1 c2 c3 c4 c5 bx PY HR
      go_upto_region 7 with (at_builtin; refine wpList_newQ rfl (.tmp 17) (.tmp 19) rfl wA.heap.size rfl (PB.new wA #[] 2) ta x.ant.length tc x.ant rfl HR2.out hxt ?_; intro v4 w4 ho4 hg4; have hO4 := hidden ho4; obtain ⟨a4, c4, rfl⟩ := ownW_slice ho4; have T1 := hidden (PX.out.grownQ hg4 (fun k hk => by have := Option.some.inj hk; have := HZA.out; omega)); have O2 := hidden (ownQ_grown O1.out hg4 (fun k hk e => by have := Option.some.inj e; have := L1.out k hk; have := HZA.out; omega)); have A2 := hidden (A1.out.grownB hg4 (fun p hp k hk => by have := L2.out p hp k hk; have := HZA.out; omega)); have b4 := hidden (b1.out.grown hg4 (by simp; have := HZA.out; omega) (fun k hk => by have := Option.some.inj hk; have := HZA.out; omega)); have z4 := T1.out.lt; obtain ⟨p0, p1, p2, p3, p4, p5⟩ := T1.out.six; obtain ⟨f0, f1, f2, f3, f4, f5, -⟩ := T1.out.cold; clear ho4 hg4 r0 r1 r2 r3 r4 r5)
      have zl := hidden (fun k (hk : (Value.slice a4 x.ant.length c4).ownBlock = some k) => ownW_lt hO4.out k hk)
      have T5 := hidden (T1.out.put 2 (.slice a4 x.ant.length c4) (vs' := #[.int .i64 x.id, .int .i64 x.grp, .slice a4 x.ant.length c4, .int .i64 x.til, .int .i64 x.st, .int .i64 x.fr]) rfl)
      have N5 := hidden (ownQ_set (b := wr.heap.size) (o := 2) hO4.out (fun k hk => by have := (zl.out k hk).1; have := HZA.out; omega) (.slice a4 x.ant.length c4))
      have O5 := hidden (ownQ_set (b := wr.heap.size) (o := 2) O2.out (fun k hk => by have := L1.out k hk; omega) (.slice a4 x.ant.length c4))
      have A5 := hidden (A2.out.set (b := wr.heap.size) (o := 2) (fun p hp k hk => by have := L2.out p hp k hk; omega) (.slice a4 x.ant.length c4))
      have b5 := hidden (b4.out.setCell (p := ⟨wr.heap.size, 2, none⟩) hsz (.slice a4 x.ant.length c4))
      clear p0 p1 p2 p3 p4 p5 f0 f1 f2 f3 f4 f5 hO4 O2 A2 b4 T1
      generalize w4.setCell ⟨wr.heap.size, 2, none⟩ (.slice a4 x.ant.length c4) = w5 at *
      obtain ⟨p0, p1, p2, p3, p4, p5⟩ := T5.out.six
      have z5 := T5.out.lt
      have B5 := b5.out
      go_wp2_with (at_builtin; refine wpList_append_own _ rfl (.tmp 22) (.tmp 24) 25 rfl w.heap.size 37 j0 (.agg #[.int .i64 0, .int .i64 0, .slice none 0 0, .int .i64 0, .int .i64 0, .int .i64 0]) 6 64 Try.underlying25 hj0 hy0 hy1 hy2 rfl (by decide) _ M.length (cellsU M) rfl (O5.out.alloc _) ⟨w5.heap.size, 0, none⟩ 1 1 (cells6 (x, Value.slice a4 x.ant.length c4)) rfl rfl (cell6U _ (x, Value.slice a4 x.ant.length c4) _) (oneU _ _ _ _) (by unfold maxLen; omega) (by omega) (by simp; omega) ?_; intro v4 w4 ho4 hg4 hnn4; have hO4 := hidden ho4; obtain ⟨ad6, c6, rfl⟩ := ownW_slice ho4)
      have hB5 := b5.out.size
      have b6 := grownQ (show Below w.heap.size w (w5.alloc (.cells #[.int .i64 x.id, .int .i64 x.grp, .slice a4 x.ant.length c4, .int .i64 x.til, .int .i64 x.st, .int .i64 x.fr] 37)) from by repeat (first | exact Below.refl _ _ | assumption | refine st_drew ?_ | refine st_drewN ?_ _ | refine Below.setCell ?_ (by first | omega | (simp; done) | (simp; omega)) _ | refine Below.alloc ?_ (by first | omega | (simp; done) | (simp; omega)) _)) (by simp; omega) hg4 (fun k hk => (ownW_lt HO.out k hk).1)
      have T6 := ((A5.out.below (show Below w5.heap.size w5 (w5.alloc (.cells #[.int .i64 x.id, .int .i64 x.grp, .slice a4 x.ant.length c4, .int .i64 x.til, .int .i64 x.st, .int .i64 x.fr] 37)) from by repeat (first | exact Below.refl _ _ | assumption | refine st_drew ?_ | refine st_drewN ?_ _ | refine Below.setCell ?_ (by first | omega | (simp; done) | (simp; omega)) _ | refine Below.alloc ?_ (by first | omega | (simp; done) | (simp; omega)) _))).snoc (p := (x, .slice a4 x.ant.length c4)) (ownW_below N5.out (by repeat (first | exact Below.refl _ _ | assumption | refine st_drew ?_ | refine st_drewN ?_ _ | refine Below.setCell ?_ (by first | omega | (simp; done) | (simp; omega)) _ | refine Below.alloc ?_ (by first | omega | (simp; done) | (simp; omega)) _))) (by have := HZA.out; omega) (fun q hq k hk => by have := L2.out q hq k hk; have := HZA.out; omega)).grown (by decide) (O5.out.alloc _) hg4
      have HF : Hid ((M ++ [(x, Value.slice a4 x.ant.length c4)]).map Prod.fst = l.take (M ++ [(x, Value.slice a4 x.ant.length c4)]).length) := by rw [Hid, List.map_append, HL.out, List.length_append]; exact HN.out.symm
      go_roundw
      case rel => exact ⟨M ++ [(x, .slice a4 x.ant.length c4)], by rw [List.length_append]; simp; omega, by rw [List.length_append]; rfl, HF, ⟨ad6, c6, by rw [List.length_append]; rfl, by rw [cellsU_app, List.length_append]; exact hO4.out⟩, T6, b6⟩
      case measure => simp [intOf]; omega
    · have hlti : ¬ (M.length : Int) < (l.length : Int) := by omega
      have hil : M.length = l.length := by omega
      have HF : Hid (M.map Prod.fst = l) := by rw [Hid, HL.out, hil, List.take_length]
      clear hil
      go_wp2_with fail
      go_ret
      exact ⟨M, _, _, rfl, HF.out, ho, hT, hb⟩

end Go.Proofs.Ytaidhcbchpcemaa
