/-
  Fold: the program's, whole.
-/
import Derived.Test.YtbabknhccapaoaaM29
import Derived.Test.YtbabknhccapaoaaM2f
namespace Go.Proofs.Ytbabknhccapaoaa
open Go.RowKit Va Mg Go.Maps
set_option linter.all false

theorem fldV (x : Lt) (w : World) : (Instr.field 29 (.agg #[.int .i64 x.f, .int .i64 x.s, .int .i64 x.c, .int .i64 x.k, .int .i64 x.v]) 4).run Try.prog w = .ok (.int .i64 x.v) w := by kernel_rfl
theorem infoFact : (Try.prog.info? 31).map (fun i => (i.zero, i.size, i.bytes)) = some (some (.agg #[.int .i64 0, .int .i64 0]), 2, 16) := by kernel_rfl
theorem cell_twoM (w : World) (a b : Value) (t : TypeId) : ∀ (j : Nat) (u : Value), [a, b][j]? = some u → (w.alloc (.cells #[a, b] t)).cell? ((⟨w.heap.size, 0, none⟩ : Addr).add j) = some u := fun j u hu => by
  have e0 : (w.alloc (Obj.cells #[a, b] t)).heap[w.heap.size]? = some (Obj.cells #[a, b] t) := (MapKept.heap_alloc w _).1
  rw [Addr.add_lit, Nat.zero_add]
  simp only [World.cell?, e0]
  simpa using hu
theorem map_apart {w : World} {B n : Nat} {I : List Lt} (h : TelM w B n I) {b e s m : Nat} {v : Value} {xs : List Value} (ho : w.ownsRow b e s v m xs) : v.ownBlock ≠ some B := by
  obtain ⟨D, ⟨es, ck, q1, -⟩, -⟩ := h
  obtain ⟨_, ⟨rfl, _⟩ | ⟨g, cap, cur, rfl, _, hg, _⟩⟩ := ho
  · intro q; cases q
  · intro q
    have : g = B := by simpa [Value.ownBlock] using q
    subst this
    rw [q1] at hg
    cases hg

set_option maxRecDepth 20000 in
set_option maxHeartbeats 8000000 in
theorem ifold_any (ao : Option Addr) (n cap : Nat) (l : List Lt) (w : World) (h : VRw 5 cvLt w (.slice ao n cap) l) (hn : l.length ≤ 1048576) (hwf : ∀ x ∈ l, WfL x) :
    Calls Try.prog 7 #[.slice ao n cap] w fun e w' => ∃ v', e = .returned v' ∧ VOwn 2 cvFc w' w.heap.size v' (fold l) ∧ Below w.heap.size w w' := by
  obtain rfl := h.len
  have HV : Hid (fold l = if l.length ≤ 1000 then factsTo (inL l) 100 else []) := rfl
  generalize fold l = M at *
  obtain ⟨i0, hi0, hv0, hv1, hv2⟩ := info_partsW infoFact
  by_cases g1 : (1000 : Int) < (l.length : Int)
  · have HE : Hid (M = []) := by rw [Hid, HV.out, if_neg (by omega)]
    clear HV h hwf
    go_enter Try.func7, Try.ntmps7
    go_wp2_with fail
    go_ret
    rw [HE.out]
    exact ⟨_, rfl, VOwn.nil _ _ _ _, by repeat (first | exact Below.refl _ _ | assumption | refine st_drew ?_ | refine st_drewN ?_ _ | refine Below.setCell ?_ (by first | omega | (simp; done) | (simp; omega)) _ | refine Below.alloc ?_ (by first | omega | (simp; done) | (simp; omega)) _)⟩
  have hl : l.length ≤ 1000 := by omega
  have hI := inL_ok l
  have HE : Hid (M = (keysTo (inL l) 100).map (fct (inL l))) := by rw [Hid, HV.out, if_pos hl, facts_keys]
  have HO0 := hidden (ownW_new w 31 2)
  have HB0 : Hid (Below w.heap.size w (w.alloc (.cells #[] 31))) := (Below.refl _ _).alloc (Nat.le_refl _) _
  have k1 := icount_any ao l.length cap l (w.alloc (.cells #[] 31)) (h.below HB0.out) hl hwf
  have hz0 : w.heap.size < (w.alloc (.cells #[] 31)).heap.size := by simp
  have HI := hidden hI
  have k3 := fun mb W => keysK_any mb W
  clear HV h hwf
  generalize inL l = I at *
  have k2 := fun B W (hW : CM W B l.length I) => itelling_any B l.length I W hW hI hl
  have k4 := fun B Q W (hW : TelM W B l.length I) hb hQ => sortedK_any B l.length Q I W hW hI hl hb hQ
  have HK := hidden (fun x => keys_mem I x 100)
  have HKI := hidden (keys_incr I 100)
  have hRl : (keysTo I 100).length ≤ 100 := by have := facts_len I 100; rw [facts_keys, List.length_map] at this; exact this
  clear hI
  generalize keysTo I 100 = R at *
  generalize hWA : w.alloc (.cells #[] 31) = WA at *
  go_enter Try.func7, Try.ntmps7
  go_wp2_with (first | (go_at_call 20; (with_reducible refine k1.mono ?_); rintro e w1 ⟨rfl, hc1, hb1⟩; have HC1 := hidden hc1; have B1 := hidden (ontoC HB0.out hb1); have O1 := hidden (ownW_below HO0.out hb1); clear hc1) | (go_at_call 19; (with_reducible refine (k2 _ _ HC1.out).mono ?_); rintro e w2 ⟨rfl, ht2, hb2⟩; have HT2 := hidden ht2; have B2 := hidden (ontoC B1.out hb2); have O2 := hidden (ownW_below O1.out hb2); clear ht2) | (go_at_call 22; (with_reducible refine (k3 _ _).mono ?_); rintro e w3 ⟨rfl, rfl⟩; have hbx : Below w2.heap.size w2 (w2.alloc (.cells #[.map (some w1.heap.size)] 49)) := (Below.refl _ _).alloc (Nat.le_refl _) _; have HT3 := hidden (HT2.out.keep (hbx.block _ HT2.out.lt)); have c3 : (w2.alloc (.cells #[.map (some w1.heap.size)] 49)).cell? ⟨w2.heap.size, 0, none⟩ = some (.map (some w1.heap.size)) := (PB.new w2 #[.map (some w1.heap.size)] 49).cell 0; have B3 := hidden (ontoC B2.out hbx); have O3 := hidden (ownW_below O2.out hbx); have q3 : w2.heap.size < (w2.alloc (.cells #[.map (some w1.heap.size)] 49)).heap.size := by simp) | (go_at_call 21; (with_reducible refine (k4 _ _ _ HT3.out c3 q3).mono ?_); rintro e w4 ⟨ad, c, rfl, ho4, hb4⟩))
  have HT4 := hidden (HT3.out.keep (hb4.block _ HT3.out.lt))
  have HK4 := hidden ho4
  have B4 := hidden (ontoC B3.out hb4)
  have O4 := hidden (ownW_below O3.out hb4)
  generalize (w2.alloc (.cells #[.map (some w1.heap.size)] 49)).heap.size = BK at *
  generalize w1.heap.size = BT at *
  clear k1 k2 k3 k4 HC1 B1 O1 HT2 B2 O2 hbx HT3 c3 B3 O3 q3 ho4 hb4 hb1 hb2 hz0 HO0 HB0
  go_loopw [3, 6, 19] (fun mv _ iv wr => ∃ (i : Nat) (L : List Fc), i ≤ R.length ∧ iv = .int .i64 i ∧ Hid (L = (R.take i).map (fct I)) ∧ (∃ ad2 c2, mv = .slice ad2 L.length c2 ∧ wr.ownsRow w.heap.size 31 2 (.slice ad2 L.length c2) L.length (vcellsL 2 cvFc L)) ∧ Hid (wr.ownsRow BK 2 1 (.slice ad R.length c) R.length (R.map fun z => Value.int .i64 z)) ∧ Hid (TelM wr BT l.length I) ∧ Below w.heap.size w wr) (fun _ _ iv _ => R.length - ivN iv)
  case atStart => exact ⟨0, [], Nat.zero_le _, rfl, rfl, ⟨_, _, rfl, O4.out⟩, HK4, HT4, B4.out⟩
  case round =>
    clear O4 HK4 HT4 B4
    obtain ⟨i, L, hi, rfl, HL, ⟨ad2, c2, rfl, ho⟩, HKr, HTr, hb⟩ := hrel
    have hLl : L.length = i := by rw [HL.out, List.length_map, List.length_take]; omega
    have hLL := Nat.le_of_eq hLl
    have hsz := hb.size
    clear hLl
    by_cases hlt : i < R.length
    · have hlti : (i : Int) < (R.length : Int) := by omega
      obtain ⟨k, hk⟩ := some_of R i hlt
      obtain ⟨gk, offk, rfl, hgk, ck⟩ := vint_cell (vownI HKr.out).row hk
      obtain ⟨kb0, kb1, kb2⟩ := (HK.out k).1 (List.mem_of_getElem? hk)
      obtain ⟨x, hx⟩ := Option.isSome_iff_exists.1 kb2
      have hrun := HTr.out.look (Wi.of (by omega) (by push_cast at kb1; omega)) hx
      unfold aLt at hrun
      have hfld := fldV x
      have HQ : Hid (L ++ [⟨k, x.v⟩] = (R.take (i + 1)).map (fct I)) := by
        rw [Hid, takeM hk, List.map_append, ← HL.out]
        simp [fct, hx]
      have hO := hidden ho
      clear hk kb0 kb1 kb2 hx ho HL
      go_wp2_with (at_builtin; refine wpList_append_own _ rfl (.tmp 23) (.tmp 30) 26 rfl w.heap.size 31 i0 (.agg #[.int .i64 0, .int .i64 0]) 2 16 Try.underlying26 hi0 hv0 hv1 hv2 rfl (by decide) _ L.length (vcellsL 2 cvFc L) rfl (hO.out.alloc _) ⟨wr.heap.size, 0, none⟩ 1 1 [.int .i64 k, .int .i64 x.v] rfl rfl (cell_twoM _ _ _ _) (by simp [Value.oneCell']) (by unfold maxLen; omega) (by omega) (by simp; omega) ?_; intro v5 w5 ho5 hg5 hn5; obtain ⟨ad5, c5, rfl⟩ := ownW_slice ho5)
      have ba : Below wr.heap.size wr (wr.alloc (.cells #[.int .i64 k, .int .i64 x.v] 31)) := (Below.refl _ _).alloc (Nat.le_refl _) _
      have b5 := (hb.alloc hsz (.cells #[.int .i64 k, .int .i64 x.v] 31)).grown hg5 (by simp; omega) (fun j hj => (ownW_lt hO.out j hj).1)
      have HK1 := hidden (HKr.out.alloc (.cells #[.int .i64 k, .int .i64 x.v] 31))
      have HK5 := hidden (ownY_grown HK1.out hg5 (fun j hj e => ownY_apart HKr.out hO.out (by decide) j hj e))
      have HT1 := hidden (HTr.out.keep (ba.block _ HTr.out.lt))
      have HT5 := hidden (HT1.out.keep (hg5.block _ HT1.out.lt (fun e => map_apart HTr.out hO.out e.symm)))
      go_roundw
      case rel => exact ⟨i + 1, L ++ [⟨k, x.v⟩], by omega, rfl, HQ, ⟨_, _, by rw [List.length_append]; rfl, by rw [List.length_append, vcellsL_app]; exact ho5⟩, HK5, HT5, b5⟩
      case measure => simp [ivN]; omega
    · have hlti : ¬ (i : Int) < (R.length : Int) := by omega
      have HQ : Hid (L = M) := by rw [Hid, HE.out, HL.out, List.take_of_length_le (by omega)]
      have hO := hidden ho
      clear HL ho
      go_wp2_with fail
      go_ret
      rw [← HQ.out]
      exact ⟨_, rfl, vown_of rfl hO.out, hb⟩
end Go.Proofs.Ytbabknhccapaoaa
