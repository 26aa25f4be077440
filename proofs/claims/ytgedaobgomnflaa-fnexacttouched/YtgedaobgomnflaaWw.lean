/-
  What the specification's Touched and CyclesOn answer.
-/
import Derived.Test.YtgedaobgomnflaaWu
import Derived.Test.YtgedaobgomnflaaWv
namespace Go.Proofs.Ytgedaobgomnflaa
open Go.RowKit Va Wa Go.Maps
set_option linter.unusedVariables false

set_option maxRecDepth 20000 in
set_option maxHeartbeats 4000000 in
theorem smarked_any (E : Nat) (f : Nat → Bool) (w : World) (h : Th w E 4 (fun t => .bool (f t))) :
    Calls Try.prog 64 #[.slice (some ⟨E, 0, none⟩) 1000 1000] w fun e w' => ∃ ad c, e = .returned (.slice ad (mkd f 1000).length c) ∧ w'.ownsRow w.heap.size 2 1 (.slice ad (mkd f 1000).length c) (mkd f 1000).length ((mkd f 1000).map fun z => Value.int .i64 z) ∧ Below w.heap.size w w' := by
  have HH := hidden h
  have hEl := h.lt
  obtain ⟨i0, hi0, hv0, hv1, hv2⟩ := info_partsW infoW64
  clear h
  go_enter Try.func64, Try.ntmps64
  go_wp2_with fail
  go_loopw [3, 4] (fun sv iv wr => ∃ (i : Nat) (L : List Int), i ≤ 1000 ∧ iv = .int .i64 i ∧ Hid (L = mkd f i) ∧ (∃ ad c, sv = .slice ad L.length c ∧ wr.ownsRow w.heap.size 2 1 (.slice ad L.length c) L.length (L.map fun z => Value.int .i64 z)) ∧ Below w.heap.size w wr) (fun _ iv _ => 1000 - (intOf iv).toNat)
  case atStart => exact ⟨0, [], by omega, rfl, rfl, ⟨_, _, rfl, ownW_new w 2 1⟩, by repeat (first | exact Below.refl _ _ | assumption | refine st_drew ?_ | refine st_drewN ?_ _ | refine Below.setCell ?_ (by first | omega | (simp; done) | (simp; omega)) _ | refine Below.alloc ?_ (by first | omega | (simp; done) | (simp; omega)) _)⟩
  case round =>
    obtain ⟨i, L, hi, rfl, HL, ⟨ad, c, rfl, ho⟩, hb⟩ := hrel
    have hsz := hb.size
    have hLl : L.length ≤ i := by rw [HL.out]; exact mkd_len f i
    by_cases hlt : i < 1000
    · have hlti : (i : Int) < 1000 := by omega
      have c0 := (hb.cell (p := ⟨E, i, none⟩) hEl).trans (HH.out.cell hlt)
      try simp only at c0
      have hO := hidden ho
      cases q : f i with
      | false =>
        rw [q] at c0
        have HQ : Hid (L = mkd f (i + 1)) := by rw [Hid, mkd_no q]; exact HL.out
        clear q ho HL
        go_wp2_with fail
        go_roundw
        case rel => exact ⟨i + 1, L, by omega, rfl, HQ, ⟨_, _, rfl, hO.out⟩, hb⟩
        case measure => simp [intOf]; omega
      | true =>
        rw [q] at c0
        have HQ : Hid (L ++ [(i : Int)] = mkd f (i + 1)) := by rw [Hid, mkd_yes q, HL.out]
        clear q ho HL
        go_wp2_with (at_builtin; refine wpList_append_own _ rfl (.tmp 16) (.tmp 18) 23 rfl w.heap.size 2 i0 (.int .i64 0) 1 8 Try.underlying23 hi0 hv0 hv1 hv2 rfl (by decide) _ L.length (L.map fun z => Value.int .i64 z) rfl (hO.out.alloc _) ⟨wr.heap.size, 0, none⟩ 1 1 [.int .i64 i] rfl rfl (cell_oneW _ _ _) (by simp [Value.oneCell']) (by unfold maxLen; omega) (by omega) (by simp; omega) ?_; intro v5 w5 ho5 hg5 hn5; obtain ⟨ad5, c5, rfl⟩ := ownW_slice ho5)
        have b5 := (show Below w.heap.size w _ from by repeat (first | exact Below.refl _ _ | assumption | refine st_drew ?_ | refine st_drewN ?_ _ | refine Below.setCell ?_ (by first | omega | (simp; done) | (simp; omega)) _ | refine Below.alloc ?_ (by first | omega | (simp; done) | (simp; omega)) _)).grown hg5 (by simp; omega) (fun k hk => (ownW_lt hO.out k hk).1)
        go_roundw
        case rel => exact ⟨i + 1, L ++ [(i : Int)], by omega, rfl, HQ, ⟨_, _, by rw [List.length_append]; rfl, by rw [List.length_append, List.map_append]; exact ho5⟩, b5⟩
        case measure => simp [intOf]; omega
    · have hlti : ¬ (i : Int) < 1000 := by omega
      have hin : i = 1000 := by omega
      subst hin
      rw [HL.out] at ho ⊢
      go_wp2_with fail
      go_ret
      exact ⟨_, _, rfl, ho, hb⟩
theorem touched_no {l : List Stp} {c : Int} (h : ¬ (ssB l = true ∧ 0 ≤ c ∧ c ≤ 999)) : touched l c = mkd (fun _ => false) 1000 := by
  unfold touched; rw [if_neg h]; simp [mkd]
theorem cyclesOn_no {l : List Stp} {c : Int} (h : ¬ (ssB l = true ∧ 0 ≤ c ∧ c ≤ 999)) : cyclesOn l c = mkd (fun _ => false) 1000 := by
  unfold cyclesOn; rw [if_neg h]; simp [mkd]
theorem th_new {Z : Array Value} {v : Value} (hs : Z.size = 1000) (hz : ∀ t, t < 1000 → Z[t]? = some v) (w : World) (e : TypeId) : Th (w.alloc (.cells Z e)) w.heap.size e (fun _ => v) := ⟨Z, (MapKept.heap_alloc w _).1, hs, hz⟩
/-- What stays while the marks are set. -/
theorem told_four {w : World} {a b c d : Value} (t : TypeId) : ((w.alloc (.cells #[a, b, c, d] t)).cell? ⟨w.heap.size, 0, none⟩ = some a) ∧ ((w.alloc (.cells #[a, b, c, d] t)).cell? ⟨w.heap.size, 1, none⟩ = some b) := by
  have e0 : (w.alloc (Obj.cells #[a, b, c, d] t)).heap[w.heap.size]? = some (Obj.cells #[a, b, c, d] t) := (MapKept.heap_alloc w _).1
  exact ⟨by simp only [World.cell?, e0]; rfl, by simp only [World.cell?, e0]; rfl⟩


set_option maxRecDepth 20000 in
set_option maxHeartbeats 4000000 in
theorem stouched_any (ao : Option Addr) (n cap : Nat) (l : List Stp) (a : Int) (w : World) (h : Rw 4 csT w (.slice ao n cap) l) (hn : l.length ≤ 1048576) :
    Calls Try.prog 33 #[.slice ao n cap, .int .i64 a] w fun e w' => ∃ v, e = .returned v ∧ w'.ownsRow w.heap.size 2 1 v (touched l a).length ((touched l a).map fun z => Value.int .i64 z) ∧ Below w.heap.size w w' := by
  obtain rfl := h.len
  have k1 := fun W hW => ssteps_any ao l.length cap l W hW hn
  have k0 := lin_any a 0 999
  rw [show rng a 0 999 = prs a from rfl] at k0
  have HH := hidden h
  have HW := hidden (fun W (hW : Below w.heap.size w W) => h.below hW)
  obtain ⟨ZB, zb1, zb2, hmb⟩ := mk_bools
  have HT0 := hidden (th_new zb1 zb2 w 4)
  have HM := hidden (fun f W hW => smarked_any w.heap.size f W hW)
  clear h zb1 zb2
  cases hs : ssB l with
  | false =>
    rw [hs] at k1
    have HN : Hid (touched l a = mkd (fun _ => false) 1000) := touched_no (fun z => by rw [hs] at z; cases z.1)
    clear hs
    go_enter Try.func33, Try.ntmps33
    go_wp2_with (first | (go_at_call 56; refine (k1 _ (HW.out _ (by repeat (first | exact Below.refl _ _ | assumption | refine st_drew ?_ | refine st_drewN ?_ _ | refine Below.setCell ?_ (by first | omega | (simp; done) | (simp; omega)) _ | refine Below.alloc ?_ (by first | omega | (simp; done) | (simp; omega)) _)))).mono ?_; rintro e w1 ⟨rfl, hb1⟩; have hT1 := hidden (HT0.out.keep (hb1.block _ (by simp))); have b1 := onto (show Below w.heap.size w _ from by repeat (first | exact Below.refl _ _ | assumption | refine st_drew ?_ | refine st_drewN ?_ _ | refine Below.setCell ?_ (by first | omega | (simp; done) | (simp; omega)) _ | refine Below.alloc ?_ (by first | omega | (simp; done) | (simp; omega)) _)) hb1; clear hb1) | (go_at_call 64; refine (HM.out _ _ hT1.out).mono ?_; rintro e w3 ⟨ad, c, rfl, ho3, hb3⟩))
    go_ret
    rw [HN.out]
    exact ⟨_, rfl, ownW_base ho3 b1.size, onto b1 hb3⟩
  | true =>
  rw [hs] at k1
  cases ht : prs a with
  | false =>
    rw [ht] at k0
    have HN : Hid (touched l a = mkd (fun _ => false) 1000) := touched_no (fun z => prs_f ht z.2)
    clear hs ht
    go_enter Try.func33, Try.ntmps33
    go_wp2_with (first | (go_at_call 56; refine (k1 _ (HW.out _ (by repeat (first | exact Below.refl _ _ | assumption | refine st_drew ?_ | refine st_drewN ?_ _ | refine Below.setCell ?_ (by first | omega | (simp; done) | (simp; omega)) _ | refine Below.alloc ?_ (by first | omega | (simp; done) | (simp; omega)) _)))).mono ?_; rintro e w1 ⟨rfl, hb1⟩; have hT1 := hidden (HT0.out.keep (hb1.block _ (by simp))); have b1 := onto (show Below w.heap.size w _ from by repeat (first | exact Below.refl _ _ | assumption | refine st_drew ?_ | refine st_drewN ?_ _ | refine Below.setCell ?_ (by first | omega | (simp; done) | (simp; omega)) _ | refine Below.alloc ?_ (by first | omega | (simp; done) | (simp; omega)) _)) hb1; clear hb1) | (go_at_call 40; refine (k0 _).mono ?_; rintro e w2 ⟨rfl, rfl⟩) | (go_at_call 64; refine (HM.out _ _ hT1.out).mono ?_; rintro e w3 ⟨ad, c, rfl, ho3, hb3⟩))
    go_ret
    rw [HN.out]
    exact ⟨_, rfl, ownW_base ho3 b1.size, onto b1 hb3⟩
  | true =>
  have htb := prs_iff.1 ht
  rw [ht] at k0
  have hok := of_ssB hs
  have hl2 := hok.1
  have HOK := hidden hok
  have HN : Hid (touched l a = mkd (tch l a l.length) 1000) := by rw [Hid, touched, if_pos ⟨hs, htb⟩]
  have k2 := fun W hW => srun_any ao l.length cap l W hW hok
  clear hs hok ht
  go_enter Try.func33, Try.ntmps33
  go_wp2_with (first | (go_at_call 56; refine (k1 _ (HW.out _ (by repeat (first | exact Below.refl _ _ | assumption | refine st_drew ?_ | refine st_drewN ?_ _ | refine Below.setCell ?_ (by first | omega | (simp; done) | (simp; omega)) _ | refine Below.alloc ?_ (by first | omega | (simp; done) | (simp; omega)) _)))).mono ?_; rintro e w1 ⟨rfl, hb1⟩; have hT1 := hidden (HT0.out.keep (hb1.block _ (by simp))); have b1 := onto (show Below w.heap.size w _ from by repeat (first | exact Below.refl _ _ | assumption | refine st_drew ?_ | refine st_drewN ?_ _ | refine Below.setCell ?_ (by first | omega | (simp; done) | (simp; omega)) _ | refine Below.alloc ?_ (by first | omega | (simp; done) | (simp; omega)) _)) hb1; clear hb1) | (go_at_call 40; refine (k0 _).mono ?_; rintro e w2 ⟨rfl, rfl⟩) | (go_at_call 57; refine (k2 _ (HW.out _ b1)).mono ?_; rintro e w3 ⟨cv, bv, S, C, rfl, ho1, ho2, hT, hb3⟩; obtain ⟨ca, cc, rfl⟩ := ownW_slice ho1; obtain ⟨ba, bc, rfl⟩ := ownW_slice ho2; have HB := hidden ho2; have hT3 := hidden (hT1.out.keep (hb3.block _ hT1.out.lt)); have b3 := onto b1 hb3; have z3 := hb3.size; clear ho1 ho2 hT hb3))
  go_loopw [7] (fun iv wr => ∃ i : Nat, i ≤ l.length ∧ iv = .int .i64 i ∧ Th wr w.heap.size 4 (fun t => .bool (tch l a i t)) ∧ Sx (fun k => k = w.heap.size) (w3.alloc (.cells #[.slice ca l.length cc, .slice ba l.length bc, .slice (some ⟨S, 0, none⟩) 1000 1000, .slice (some ⟨C, 0, none⟩) 1000 1000] 71)) wr) (fun iv _ => l.length - (intOf iv).toNat)
  case atStart => exact ⟨0, Nat.zero_le _, rfl, (hT3.out.keep (((Below.refl _ w3).alloc (Nat.le_refl _) _).block _ hT3.out.lt)).eq (fun t _ => by simp [tch]), Sx.refl _ _⟩
  case round =>
    obtain ⟨i, hi, rfl, hTi, hX⟩ := hrel
    have hbW : Below w.heap.size w (w3.alloc (.cells #[.slice ca l.length cc, .slice ba l.length bc, .slice (some ⟨S, 0, none⟩) 1000 1000, .slice (some ⟨C, 0, none⟩) 1000 1000] 71)) := b3.alloc b3.size _
    have hbr := hX.below hbW (fun b q => by omega) (by simp; have := b3.size; omega)
    have hz1 := b1.size
    have hwl := hT1.out.lt
    by_cases hlt : i < l.length
    · have hlti : (i : Int) < (l.length : Int) := by omega
      obtain ⟨x, hx⟩ := some_of l i hlt
      obtain ⟨g, off, rfl, hg, c0, c1, c2, c3⟩ := step_cells (HH.out.below hbr) hx
      obtain ⟨b, hbb, hb0, hb1⟩ := bys_bd HOK.out hx
      have hxo := HOK.out.2 x (List.mem_of_getElem? hx)
      obtain ⟨gb, rfl, hgl, hcl⟩ := ownW_some HB.out (by omega)
      have e0 := hcl i _ (by rw [List.getElem?_map, hbb]; rfl)
      rw [Addr.add_lit, Nat.zero_add] at e0
      have hgb := (ownW_lt HB.out gb rfl)
      have e1 : wr.cell? ⟨gb, i, none⟩ = some (.int .i64 b) := (World.cell?_of_block (a := ⟨gb, i, none⟩) (hX.block gb (by simp; omega) (fun q => by omega))).trans ((old_cell hgl _ _).trans e0)
      have e2 : wr.cell? ⟨w3.heap.size, 1, none⟩ = some (.slice (some ⟨gb, 0, none⟩) l.length bc) := (World.cell?_of_block (a := ⟨w3.heap.size, 1, none⟩) (hX.block w3.heap.size (by simp) (fun q => by omega))).trans (told_four _).2
      have f0 := hTi.fro
      have hTl := hTi.lt
      obtain ⟨p, hp⟩ : ∃ p : Nat, x.per = (p : Int) := ⟨x.per.toNat, by have := hxo.2.2.1.1; omega⟩
      have hpl : p < 1000 := by have := hxo.2.2.1.2; omega
      have hpi : (p : Int) < 1000 := by omega
      rw [hp] at c3
      have s0 := hTi.cell hpl
      have f1 := f0 p
      try simp only at s0
      by_cases q : b = a
      · have HT2 := hidden ((hTi.set hpl (.bool true)).eq (g := fun t => .bool (tch l a (i + 1) t)) (fun t _ => by rw [tch_hit hx (by rw [hbb, q]) hp t]; simp only [upd]; split <;> rfl))
        have HX2 := hidden (hX.set rfl p (.bool true))
        rw [q] at e1
        clear q hx hbb hxo hcl e0 hTi hX f0 hp
        go_wp2_with fail
        go_roundw
        case rel => exact ⟨i + 1, by omega, rfl, HT2.out, HX2.out⟩
        case measure => simp [intOf]; omega
      · have HT2 := hidden (hTi.eq (g := fun t => .bool (tch l a (i + 1) t)) (fun t _ => by simp only [tch_miss hbb q t]))
        have HX2 := hidden hX
        have qb : (b == a) = false := by simp [q]
        clear q hx hbb hxo hcl e0 hTi hX f0 hp
        go_wp2_with fail
        go_roundw
        case rel => exact ⟨i + 1, by omega, rfl, HT2.out, HX2.out⟩
        case measure => simp [intOf]; omega
    · have hlti : ¬ (i : Int) < (l.length : Int) := by omega
      have hin : i = l.length := by omega
      subst hin
      have HTl := hidden hTi
      have hbs := hbr.size
      clear hTi hX
      go_wp2_with (go_at_call 64; refine (HM.out _ _ HTl.out).mono ?_; rintro e w4 ⟨ad, c, rfl, ho4, hb4⟩)
      go_ret
      rw [HN.out]
      exact ⟨_, rfl, ownW_base ho4 hbs, onto hbr hb4⟩

set_option maxRecDepth 20000 in
set_option maxHeartbeats 4000000 in
theorem scycleson_any (ao : Option Addr) (n cap : Nat) (l : List Stp) (a : Int) (w : World) (h : Rw 4 csT w (.slice ao n cap) l) (hn : l.length ≤ 1048576) :
    Calls Try.prog 35 #[.slice ao n cap, .int .i64 a] w fun e w' => ∃ v, e = .returned v ∧ w'.ownsRow w.heap.size 2 1 v (cyclesOn l a).length ((cyclesOn l a).map fun z => Value.int .i64 z) ∧ Below w.heap.size w w' := by
  obtain rfl := h.len
  have k1 := fun W hW => ssteps_any ao l.length cap l W hW hn
  have k0 := lin_any a 0 999
  rw [show rng a 0 999 = prs a from rfl] at k0
  have HH := hidden h
  have HW := hidden (fun W (hW : Below w.heap.size w W) => h.below hW)
  obtain ⟨ZB, zb1, zb2, hmb⟩ := mk_bools
  have HT0 := hidden (th_new zb1 zb2 w 4)
  have HM := hidden (fun f W hW => smarked_any w.heap.size f W hW)
  clear h zb1 zb2
  cases hs : ssB l with
  | false =>
    rw [hs] at k1
    have HN : Hid (cyclesOn l a = mkd (fun _ => false) 1000) := cyclesOn_no (fun z => by rw [hs] at z; cases z.1)
    clear hs
    go_enter Try.func35, Try.ntmps35
    go_wp2_with (first | (go_at_call 56; refine (k1 _ (HW.out _ (by repeat (first | exact Below.refl _ _ | assumption | refine st_drew ?_ | refine st_drewN ?_ _ | refine Below.setCell ?_ (by first | omega | (simp; done) | (simp; omega)) _ | refine Below.alloc ?_ (by first | omega | (simp; done) | (simp; omega)) _)))).mono ?_; rintro e w1 ⟨rfl, hb1⟩; have hT1 := hidden (HT0.out.keep (hb1.block _ (by simp))); have b1 := onto (show Below w.heap.size w _ from by repeat (first | exact Below.refl _ _ | assumption | refine st_drew ?_ | refine st_drewN ?_ _ | refine Below.setCell ?_ (by first | omega | (simp; done) | (simp; omega)) _ | refine Below.alloc ?_ (by first | omega | (simp; done) | (simp; omega)) _)) hb1; clear hb1) | (go_at_call 64; refine (HM.out _ _ hT1.out).mono ?_; rintro e w3 ⟨ad, c, rfl, ho3, hb3⟩))
    go_ret
    rw [HN.out]
    exact ⟨_, rfl, ownW_base ho3 b1.size, onto b1 hb3⟩
  | true =>
  rw [hs] at k1
  cases ht : prs a with
  | false =>
    rw [ht] at k0
    have HN : Hid (cyclesOn l a = mkd (fun _ => false) 1000) := cyclesOn_no (fun z => prs_f ht z.2)
    clear hs ht
    go_enter Try.func35, Try.ntmps35
    go_wp2_with (first | (go_at_call 56; refine (k1 _ (HW.out _ (by repeat (first | exact Below.refl _ _ | assumption | refine st_drew ?_ | refine st_drewN ?_ _ | refine Below.setCell ?_ (by first | omega | (simp; done) | (simp; omega)) _ | refine Below.alloc ?_ (by first | omega | (simp; done) | (simp; omega)) _)))).mono ?_; rintro e w1 ⟨rfl, hb1⟩; have hT1 := hidden (HT0.out.keep (hb1.block _ (by simp))); have b1 := onto (show Below w.heap.size w _ from by repeat (first | exact Below.refl _ _ | assumption | refine st_drew ?_ | refine st_drewN ?_ _ | refine Below.setCell ?_ (by first | omega | (simp; done) | (simp; omega)) _ | refine Below.alloc ?_ (by first | omega | (simp; done) | (simp; omega)) _)) hb1; clear hb1) | (go_at_call 40; refine (k0 _).mono ?_; rintro e w2 ⟨rfl, rfl⟩) | (go_at_call 64; refine (HM.out _ _ hT1.out).mono ?_; rintro e w3 ⟨ad, c, rfl, ho3, hb3⟩))
    go_ret
    rw [HN.out]
    exact ⟨_, rfl, ownW_base ho3 b1.size, onto b1 hb3⟩
  | true =>
  have htb := prs_iff.1 ht
  rw [ht] at k0
  have hok := of_ssB hs
  have hl2 := hok.1
  have HOK := hidden hok
  have HN : Hid (cyclesOn l a = mkd (cyo l a l.length) 1000) := by rw [Hid, cyclesOn, if_pos ⟨hs, htb⟩]
  have k2 := fun W hW => srun_any ao l.length cap l W hW hok
  clear hs hok ht
  go_enter Try.func35, Try.ntmps35
  go_wp2_with (first | (go_at_call 56; refine (k1 _ (HW.out _ (by repeat (first | exact Below.refl _ _ | assumption | refine st_drew ?_ | refine st_drewN ?_ _ | refine Below.setCell ?_ (by first | omega | (simp; done) | (simp; omega)) _ | refine Below.alloc ?_ (by first | omega | (simp; done) | (simp; omega)) _)))).mono ?_; rintro e w1 ⟨rfl, hb1⟩; have hT1 := hidden (HT0.out.keep (hb1.block _ (by simp))); have b1 := onto (show Below w.heap.size w _ from by repeat (first | exact Below.refl _ _ | assumption | refine st_drew ?_ | refine st_drewN ?_ _ | refine Below.setCell ?_ (by first | omega | (simp; done) | (simp; omega)) _ | refine Below.alloc ?_ (by first | omega | (simp; done) | (simp; omega)) _)) hb1; clear hb1) | (go_at_call 40; refine (k0 _).mono ?_; rintro e w2 ⟨rfl, rfl⟩) | (go_at_call 57; refine (k2 _ (HW.out _ b1)).mono ?_; rintro e w3 ⟨cv, bv, S, C, rfl, ho1, ho2, hT, hb3⟩; obtain ⟨ca, cc, rfl⟩ := ownW_slice ho1; obtain ⟨ba, bc, rfl⟩ := ownW_slice ho2; have HB := hidden ho2; have hT3 := hidden (hT1.out.keep (hb3.block _ hT1.out.lt)); have b3 := onto b1 hb3; have z3 := hb3.size; clear ho1 ho2 hT hb3))
  go_loopw [7] (fun iv wr => ∃ i : Nat, i ≤ l.length ∧ iv = .int .i64 i ∧ Th wr w.heap.size 4 (fun t => .bool (cyo l a i t)) ∧ Sx (fun k => k = w.heap.size) (w3.alloc (.cells #[.slice ca l.length cc, .slice ba l.length bc, .slice (some ⟨S, 0, none⟩) 1000 1000, .slice (some ⟨C, 0, none⟩) 1000 1000] 71)) wr) (fun iv _ => l.length - (intOf iv).toNat)
  case atStart => exact ⟨0, Nat.zero_le _, rfl, (hT3.out.keep (((Below.refl _ w3).alloc (Nat.le_refl _) _).block _ hT3.out.lt)).eq (fun t _ => by simp [cyo]), Sx.refl _ _⟩
  case round =>
    obtain ⟨i, hi, rfl, hTi, hX⟩ := hrel
    have hbW : Below w.heap.size w (w3.alloc (.cells #[.slice ca l.length cc, .slice ba l.length bc, .slice (some ⟨S, 0, none⟩) 1000 1000, .slice (some ⟨C, 0, none⟩) 1000 1000] 71)) := b3.alloc b3.size _
    have hbr := hX.below hbW (fun b q => by omega) (by simp; have := b3.size; omega)
    have hz1 := b1.size
    have hwl := hT1.out.lt
    by_cases hlt : i < l.length
    · have hlti : (i : Int) < (l.length : Int) := by omega
      obtain ⟨x, hx⟩ := some_of l i hlt
      obtain ⟨g, off, rfl, hg, c0, c1, c2, c3⟩ := step_cells (HH.out.below hbr) hx
      obtain ⟨b, hbb, hb0, hb1⟩ := bys_bd HOK.out hx
      have hxo := HOK.out.2 x (List.mem_of_getElem? hx)
      obtain ⟨gb, rfl, hgl, hcl⟩ := ownW_some HB.out (by omega)
      have e0 := hcl i _ (by rw [List.getElem?_map, hbb]; rfl)
      rw [Addr.add_lit, Nat.zero_add] at e0
      have hgb := (ownW_lt HB.out gb rfl)
      have e1 : wr.cell? ⟨gb, i, none⟩ = some (.int .i64 b) := (World.cell?_of_block (a := ⟨gb, i, none⟩) (hX.block gb (by simp; omega) (fun q => by omega))).trans ((old_cell hgl _ _).trans e0)
      have e2 : wr.cell? ⟨w3.heap.size, 1, none⟩ = some (.slice (some ⟨gb, 0, none⟩) l.length bc) := (World.cell?_of_block (a := ⟨w3.heap.size, 1, none⟩) (hX.block w3.heap.size (by simp) (fun q => by omega))).trans (told_four _).2
      have f0 := hTi.fro
      have hTl := hTi.lt
      by_cases q0 : b < 0
      · have HT2 := hidden (hTi.eq (g := fun t => .bool (cyo l a (i + 1) t)) (fun t _ => by simp only [cyo_miss hx hbb (Or.inl q0) t]))
        have HX2 := hidden hX
        have qb : ¬ (0 : Int) ≤ b := by omega
        clear hx hbb hxo hcl e0 hTi hX f0
        go_wp2_with fail
        go_roundw
        case rel => exact ⟨i + 1, by omega, rfl, HT2.out, HX2.out⟩
        case measure => simp [intOf]; omega
      have q1 : (0 : Int) ≤ b := by omega
      by_cases q : x.per = a
      · obtain ⟨p, rfl⟩ : ∃ p : Nat, b = (p : Int) := ⟨b.toNat, by omega⟩
        have hpl : p < 1000 := by omega
        have hpi : (p : Int) < 1000 := by omega
        have s0 := hTi.cell hpl
        have f1 := f0 p
        try simp only at s0
        have HT2 := hidden ((hTi.set hpl (.bool true)).eq (g := fun t => .bool (cyo l a (i + 1) t)) (fun t _ => by rw [cyo_hit hx hbb q t]; simp only [upd]; split <;> rfl))
        have HX2 := hidden (hX.set rfl p (.bool true))
        rw [q] at c3
        clear q hx hbb hxo hcl e0 hTi hX f0
        go_wp2_with fail
        go_roundw
        case rel => exact ⟨i + 1, by omega, rfl, HT2.out, HX2.out⟩
        case measure => simp [intOf]; omega
      · have HT2 := hidden (hTi.eq (g := fun t => .bool (cyo l a (i + 1) t)) (fun t _ => by simp only [cyo_miss hx hbb (Or.inr q) t]))
        have HX2 := hidden hX
        have qb : (x.per == a) = false := by simp [q]
        clear q hx hbb hxo hcl e0 hTi hX f0
        generalize x.per = y at *
        go_wp2_with fail
        go_roundw
        case rel => exact ⟨i + 1, by omega, rfl, HT2.out, HX2.out⟩
        case measure => simp [intOf]; omega
    · have hlti : ¬ (i : Int) < (l.length : Int) := by omega
      have hin : i = l.length := by omega
      subst hin
      have HTl := hidden hTi
      have hbs := hbr.size
      clear hTi hX
      go_wp2_with (go_at_call 64; refine (HM.out _ _ HTl.out).mono ?_; rintro e w4 ⟨ad, c, rfl, ho4, hb4⟩)
      go_ret
      rw [HN.out]
      exact ⟨_, rfl, ownW_base ho4 hbs, onto hbr hb4⟩
end Go.Proofs.Ytgedaobgomnflaa
