/-
  Missing: the specification's.
-/
import Derived.Test.YtbabknhccapaoaaM3
import Derived.Test.YtbabknhccapaoaaGx
import Derived.OwnWalk
import Derived.Maps.AppendAt
namespace Go.Proofs.Ytbabknhccapaoaa
open Go.RowKit Va Mg Go.Maps
set_option linter.all false

theorem ontoS {w w1 w2 : World} (h1 : Below w.heap.size w w1) (h2 : Below w1.heap.size w1 w2) : Below w.heap.size w w2 := h1.trans (h2.mono h1.size)
/-- A table of N cells in a block of its own. -/
def Tn (N : Nat) (w : World) (S : Nat) (e : TypeId) (f : Nat → Value) : Prop := ∃ vs : Array Value, w.heap[S]? = some (Obj.cells vs e (0, 0)) ∧ vs.size = N ∧ ∀ t, t < N → vs[t]? = some (f t)
theorem Tn.lt {N : Nat} {w : World} {S : Nat} {e : TypeId} {f : Nat → Value} (h : Tn N w S e f) : S < w.heap.size := by
  obtain ⟨vs, h1, -⟩ := h; exact (Array.getElem?_eq_some_iff.1 h1).1
theorem Tn.cell {N : Nat} {w : World} {S : Nat} {e : TypeId} {f : Nat → Value} (h : Tn N w S e f) {t : Nat} (ht : t < N) : w.cell? ⟨S, t, none⟩ = some (f t) := by
  obtain ⟨vs, h1, h2, h3⟩ := h; simp only [World.cell?, h1]; exact h3 t ht
theorem Tn.fro {N : Nat} {w : World} {S : Nat} {e : TypeId} {f : Nat → Value} (h : Tn N w S e f) (j : Nat) : w.frozen? ⟨S, j, none⟩ = false := by
  obtain ⟨vs, h1, -⟩ := h; simp [World.frozen?, h1]
theorem Tn.keep {N : Nat} {w w' : World} {S : Nat} {e : TypeId} {f : Nat → Value} (h : Tn N w S e f) (hk : w'.heap[S]? = w.heap[S]?) : Tn N w' S e f := by
  obtain ⟨vs, h1, h2⟩ := h; exact ⟨vs, hk.trans h1, h2⟩
theorem Tn.below {N : Nat} {w w' : World} {S : Nat} {e : TypeId} {f : Nat → Value} (h : Tn N w S e f) (hb : Below w.heap.size w w') : Tn N w' S e f := h.keep (hb.block S h.lt)
theorem Tn.set {N : Nat} {w : World} {S : Nat} {e : TypeId} {f g : Nat → Value} (h : Tn N w S e f) {t : Nat} (ht : t < N) {v : Value} (h1 : g t = v) (h2 : ∀ s, s < N → s ≠ t → g s = f s) : Tn N (w.setCell ⟨S, t, none⟩ v) S e g := by
  obtain ⟨vs, q1, q2, q3⟩ := h
  have hP : PB w S vs e := q1
  refine ⟨_, hP.set t v, by simp [q2], fun s hs => ?_⟩
  rw [Array.getElem?_setIfInBounds]
  by_cases q : t = s
  · subst q; rw [if_pos rfl, if_pos (by omega), h1]
  · rw [if_neg q, h2 s hs (fun e => q e.symm)]; exact q3 s hs
theorem Tn.made {N : Nat} {w w' : World} {b : Nat} {e : TypeId} {z : Value} (h : w'.ownsRow b e 1 (.slice (some ⟨w.heap.size, 0, none⟩) N N) N (madeCells #[z] (N * 1)).toList) : Tn N w' w.heap.size e (fun _ => z) := by
  obtain ⟨h1, h2⟩ := h
  rcases h2 with ⟨h2, h3⟩ | ⟨g, cap, cur, h2, h3, h4, h5, h6, h7, h8⟩
  · cases h2
  · simp only [Value.slice.injEq, Option.some.injEq, Addr.mk.injEq, and_true, true_and] at h2
    obtain ⟨rfl, rfl⟩ := h2
    refine ⟨cur, h4, by omega, fun t ht => ?_⟩
    have e1 : (cur.toList.take (N * 1))[t]? = cur[t]? := by rw [List.getElem?_take, if_pos (by omega), Array.getElem?_toList]
    rw [← e1, h8]
    simp [madeCells, Nat.mod_one, show t < N from ht]
theorem Tn.apart {N : Nat} {w : World} {S : Nat} {e e2 : TypeId} {f : Nat → Value} (h : Tn N w S e f) {b s n : Nat} {v : Value} {xs : List Value} (ho : w.ownsRow b e2 s v n xs) (hne : e ≠ e2) : v.ownBlock ≠ some S := by
  obtain ⟨vs, q1, -⟩ := h
  obtain ⟨_, ⟨rfl, _⟩ | ⟨g, cap, cur, rfl, _, hg, _⟩⟩ := ho
  · intro q; cases q
  · intro q
    have : g = S := by simpa [Value.ownBlock] using q
    subst this
    rw [q1] at hg
    simp only [Option.some.injEq, Obj.cells.injEq] at hg
    exact hne hg.2.1
theorem infoB : (Try.prog.info? 4).map (fun i => (i.zero, i.size, i.bytes)) = some (some (.bool false), 1, 1) := by kernel_rfl
theorem dec_snoc (zs : List Int) (x : Int) (t : Nat) : decide ((t : Int) ∈ zs ++ [x]) = (decide ((t : Int) ∈ zs) || decide ((t : Int) = x)) := by
  rw [Bool.eq_iff_iff]; simp

set_option maxRecDepth 20000 in
set_option maxHeartbeats 8000000 in
theorem smissing_any (ao : Option Addr) (n cap : Nat) (l : List Lt) (f : Int) (w : World) (h : VRw 5 cvLt w (.slice ao n cap) l) (hn : l.length ≤ 1048576) :
    Calls Try.prog 11 #[.slice ao n cap, .int .i64 f] w fun e w' => ∃ v', e = .returned v' ∧ VOwn 1 cvI w' w.heap.size v' (missing l f) ∧ Below w.heap.size w w' := by
  obtain rfl := h.len
  have HR := hidden h
  have HV : Hid (missing l f = if l.length ≤ 1000 then missTo (came l f) (most (came l f)).toNat else []) := rfl
  generalize missing l f = M at *
  obtain ⟨i0, hi0, hv0, hv1, hv2⟩ := info_partsW infoW64
  obtain ⟨j0, hj0, hu0, hu1, hu2⟩ := info_partsW infoB
  have kf := lin_any f 0 19
  clear h
  by_cases g1 : (1000 : Int) < (l.length : Int)
  · have HE : Hid (M = []) := by rw [Hid, HV.out, if_neg (by omega)]
    clear HV
    go_enter Try.func11, Try.ntmps11
    go_wp2_with fail
    go_ret
    rw [HE.out]
    exact ⟨_, rfl, VOwn.nil _ _ _ _, by repeat (first | exact Below.refl _ _ | assumption | refine st_drew ?_ | refine st_drewN ?_ _ | refine Below.setCell ?_ (by first | omega | (simp; done) | (simp; omega)) _ | refine Below.alloc ?_ (by first | omega | (simp; done) | (simp; omega)) _)⟩
  have hl : l.length ≤ 1000 := by omega
  have HE : Hid (M = missTo (came l f) (most (came l f)).toNat) := by rw [Hid, HV.out, if_pos hl]
  clear HV
  cases hf : rng f 0 19 with
  | false =>
    rw [hf] at kf
    have HE2 : Hid (M = []) := by
      rw [Hid, HE.out, came_from (fun q => by rw [rng_iff.2 q] at hf; cases hf)]; rfl
    clear HE hf
    go_enter Try.func11, Try.ntmps11
    go_wp2_with (go_at_call 27; (with_reducible refine (kf _).mono ?_); rintro e w1 ⟨rfl, rfl⟩)
    go_ret
    rw [HE2.out]
    exact ⟨_, rfl, VOwn.nil _ _ _ _, by repeat (first | exact Below.refl _ _ | assumption | refine st_drew ?_ | refine st_drewN ?_ _ | refine Below.setCell ?_ (by first | omega | (simp; done) | (simp; omega)) _ | refine Below.alloc ?_ (by first | omega | (simp; done) | (simp; omega)) _)⟩
  | true =>
  rw [hf] at kf
  have HO0 := hidden (ownW_new w 2 1)
  have HB0 : Hid (Below w.heap.size w (w.alloc (.cells #[] 2))) := (Below.refl _ _).alloc (Nat.le_refl _) _
  have hw1 : (w.alloc (.cells #[] 2)).heap.size = w.heap.size + 1 := by simp
  have HW1 := hidden hw1
  have HW1' := hidden hw1
  clear hw1 hf
  generalize hWA : w.alloc (.cells #[] 2) = WA at *
  go_enter Try.func11, Try.ntmps11
  go_wp2_with (first | (go_at_call 27; (with_reducible refine (kf _).mono ?_); rintro e w1 ⟨rfl, rfl⟩) | (refine wpList_make_full _ rfl (.const (.int .i64 10000)) (.const (.int .i64 10000)) 62 rfl WA.heap.size 4 j0 (.bool false) 1 Try.underlying62 hj0 hu0 hu1 .i64 .i64 _ _ 10000 rfl rfl rfl rfl (by rw [hu2]; omega) (by unfold maxLen; omega) (Nat.le_refl _) ?_; intro w2 ho2 hg2))
  have HT2 := hidden (Tn.made ho2)
  have HB2 : Hid (Below (w.heap.size + 1) WA w2) := (Below.refl _ _).grown hg2 (by rw [HW1.out]; exact Nat.le_refl _) (fun k hk => by cases hk)
  clear ho2 hg2
  have hSz : w.heap.size + 1 ≤ WA.heap.size := by rw [HW1.out]; exact Nat.le_refl _
  generalize hS : WA.heap.size = S at *
  have HSS := hidden hS
  clear hS
  go_loopw [7, 8] (fun mv iv wr => ∃ i : Nat, i ≤ l.length ∧ iv = .int .i64 i ∧ mv = .int .i64 (most (came (l.take i) f)) ∧ Hid (Tn 10000 wr S 4 (fun t => .bool (decide ((t : Int) ∈ came (l.take i) f)))) ∧ Below (w.heap.size + 1) WA wr) (fun _ iv _ => l.length - (intOf iv).toNat)
  case atStart => exact ⟨0, Nat.zero_le _, rfl, rfl, HT2, HB2.out⟩
  case round =>
    clear HT2 HB2
    obtain ⟨i, hi, rfl, rfl, HT, hb⟩ := hrel
    have hsz := hb.size
    have hsz1 : w.heap.size + 1 ≤ wr.heap.size := by have := HSS.out; omega
    have hbw : Below w.heap.size w wr := HB0.out.trans (hb.mono (by omega))
    by_cases hlt : i < l.length
    · have hlti : (i : Int) < (l.length : Int) := by omega
      obtain ⟨x, hx⟩ := some_of l i hlt
      obtain ⟨g, off, rfl, hg0, hcs0⟩ := HR.out.at hx
      have hg : g < wr.heap.size := by omega
      have hcs := fun k hk => (hbw.cell (p := ⟨g, off + i * 5 + k, none⟩) hg0).trans (hcs0 k hk)
      clear hcs0
      have c0 : wr.cell? ⟨g, off + i * 5, none⟩ = some (.int .i64 x.f) := hcs 0 (by omega)
      have c1 : wr.cell? ⟨g, off + i * 5 + 1, none⟩ = some (.int .i64 x.s) := hcs 1 (by omega)
      have c2 : wr.cell? ⟨g, off + i * 5 + 2, none⟩ = some (.int .i64 x.c) := hcs 2 (by omega)
      have c3 : wr.cell? ⟨g, off + i * 5 + 3, none⟩ = some (.int .i64 x.k) := hcs 3 (by omega)
      have c4 : wr.cell? ⟨g, off + i * 5 + 4, none⟩ = some (.int .i64 x.v) := hcs 4 (by omega)
      have k := sletter_any x
      unfold aLt at k
      have HX := hidden hx
      clear hcs hx hbw
      cases hq : ltB x with
      | false =>
          rw [hq] at k
          have HC : Hid (came (l.take (i + 1)) f = came (l.take i) f) := came_no HX.out (by simp [ofB, hq])
          have HQ : Hid (Value.int .i64 (most (came (l.take i) f)) = .int .i64 (most (came (l.take (i + 1)) f))) := by rw [Hid, HC.out]
          clear hq
          go_wp2_with (go_at_call 23; (with_reducible refine (k _).mono ?_); rintro e w4 ⟨rfl, hb4⟩; have e0 := (hb4.cell (p := ⟨g, off + i * 5, none⟩) hg).trans c0; have e1 := (hb4.cell (p := ⟨g, off + i * 5 + 1, none⟩) hg).trans c1)
          go_roundw
          case rel => exact ⟨i + 1, by omega, rfl, HQ.out, by rw [HC.out]; exact HT.out.below hb4, hb.trans (hb4.mono hsz1)⟩
          case measure => simp [intOf]; omega
      | true =>
        rw [hq] at k
        by_cases hf : x.f = f
        · have HC : Hid (came (l.take (i + 1)) f = came (l.take i) f ++ [x.s]) := came_yes HX.out (by simp [ofB, hq, hf])
          have heq : (x.f == f) = true := by simp [hf]
          have hs := (ltB_iff.1 hq).2.1
          obtain ⟨sn, hsn⟩ : ∃ sn : Nat, x.s = sn := ⟨x.s.toNat, by omega⟩
          have hsn1 : sn < 10000 := by omega
          have HSN := hidden hsn
          have HFAR : Hid (∀ W : World, (W.setCell ⟨S, sn, none⟩ (.bool true)).cell? ⟨g, off + i * 5 + 1, none⟩ = W.cell? ⟨g, off + i * 5 + 1, none⟩) := fun W => by
            rw [World.cell?_setCell_other (h := by first | (simp; done) | (simp; omega) | (simp; intros; omega))]
          rw [hsn] at c1 k
          have km := smax_any (most (came (l.take i) f)) (sn : Int)
          have HQ : Hid ((if (sn : Int) < most (came (l.take i) f) then most (came (l.take i) f) else (sn : Int)) = most (came (l.take (i + 1)) f)) := by rw [Hid, HC.out, most_snoc, hsn]
          generalize (if (sn : Int) < most (came (l.take i) f) then most (came (l.take i) f) else (sn : Int)) = mn at *
          generalize most (came (l.take i) f) = m0 at *
          clear hq hf hs hsn
          go_wp2_with (first | (go_at_call 23; (with_reducible refine (k _).mono ?_); rintro e w4 ⟨rfl, hb4⟩; have e0 := (hb4.cell (p := ⟨g, off + i * 5, none⟩) hg).trans c0; have e1 := (hb4.cell (p := ⟨g, off + i * 5 + 1, none⟩) hg).trans c1; have b4 := hb4; have q4 := HT.out.below hb4; have d0 := q4.cell hsn1; have d1 := q4.fro sn; have e2 : (w4.setCell ⟨S, sn, none⟩ (.bool true)).cell? ⟨g, off + i * 5 + 1, none⟩ = some (.int .i64 (sn : Int)) := (HFAR.out w4).trans e1) | (go_at_call 28; (with_reducible refine (km _).mono ?_); rintro e w6 ⟨rfl, rfl⟩))
          go_roundw
          case rel =>
            refine ⟨i + 1, by omega, rfl, by rw [HQ.out], ?_, (hb.trans (hb4.mono hsz1)).setCell (by omega) _⟩
            refine (HT.out.below hb4).set hsn1 ?_ ?_
            · rw [HC.out, HSN.out, dec_snoc]; simp
            · intro s hs hne
              rw [HC.out, HSN.out, dec_snoc, show decide ((s : Int) = (sn : Int)) = false from decide_eq_false (by omega), Bool.or_false]
          case measure => simp [intOf]; omega
        · have HC : Hid (came (l.take (i + 1)) f = came (l.take i) f) := came_no HX.out (by simp [ofB, hf])
          have HQ : Hid (Value.int .i64 (most (came (l.take i) f)) = .int .i64 (most (came (l.take (i + 1)) f))) := by rw [Hid, HC.out]
          have heq : (x.f == f) = false := by simp [hf]
          clear hq hf
          go_wp2_with (go_at_call 23; (with_reducible refine (k _).mono ?_); rintro e w4 ⟨rfl, hb4⟩; have e0 := (hb4.cell (p := ⟨g, off + i * 5, none⟩) hg).trans c0; have e1 := (hb4.cell (p := ⟨g, off + i * 5 + 1, none⟩) hg).trans c1)
          go_roundw
          case rel => exact ⟨i + 1, by omega, rfl, HQ.out, by rw [HC.out]; exact HT.out.below hb4, hb.trans (hb4.mono hsz1)⟩
          case measure => simp [intOf]; omega
    · have hlti : ¬ (i : Int) < (l.length : Int) := by omega
      have hil : i = l.length := by omega
      rw [hil, List.take_length] at HT ⊢
      have hmb := most_bd l f
      have HO1 : Hid (wr.ownsRow w.heap.size 2 1 (.slice (some ⟨w.heap.size, 0, none⟩) 0 0) 0 []) := ownW_below HO0.out (by rw [HSS.out, HW1'.out]; exact hb)
      clear HO0 hil
      generalize came l f = zs at *
      generalize most zs = m at *
      go_wp2_with fail
      go_loopw [5, 9] (fun mv iv wr => ∃ (j : Nat) (N : List Int), (j : Int) ≤ max 0 m ∧ iv = .int .i64 j ∧ Hid (N = missTo zs j) ∧ (∃ ad c, mv = .slice ad N.length c ∧ wr.ownsRow w.heap.size 2 1 (.slice ad N.length c) N.length (N.map fun z => Value.int .i64 z)) ∧ Hid (Tn 10000 wr S 4 (fun t => .bool (decide ((t : Int) ∈ zs)))) ∧ Below w.heap.size w wr) (fun _ iv _ => m.toNat - (intOf iv).toNat)
      case atStart => exact ⟨0, [], by omega, rfl, rfl, ⟨_, _, rfl, HO1.out⟩, HT, hbw⟩
      case round =>
        clear HO1 HT hb hbw hsz hsz1
        obtain ⟨j, N, hj, rfl, HN, ⟨ad, c, rfl, ho⟩, HT, hb⟩ := hrel
        have hsz := hb.size
        have hNl : N.length ≤ j := by rw [HN.out]; exact miss_len zs j
        have hO := hidden ho
        clear ho
        by_cases hjm : (j : Int) < m
        · have d0 := HT.out.cell (t := j) (by omega)
          try simp only at d0
          by_cases hmem : (j : Int) ∈ zs
          · rw [decide_eq_true hmem] at d0
            have HQ : Hid (N = missTo zs (j + 1)) := by rw [Hid, miss_yes hmem]; exact HN.out
            clear hmem HN
            go_wp2_with fail
            go_roundw
            case rel => exact ⟨j + 1, N, by omega, rfl, HQ, ⟨_, _, rfl, hO.out⟩, HT, hb⟩
            case measure => simp [intOf]; omega
          · rw [decide_eq_false hmem] at d0
            have HQ : Hid (N ++ [(j : Int)] = missTo zs (j + 1)) := by rw [Hid, miss_no hmem, HN.out]
            clear hmem HN
            go_wp2_with (at_builtin; refine wpList_append_own_at _ rfl (.tmp 65) (.tmp 67) 33 rfl w.heap.size 2 i0 (.int .i64 0) 1 8 Try.underlying33 hi0 hv0 hv1 hv2 rfl (by decide) _ N.length (N.map fun z => Value.int .i64 z) rfl (hO.out.alloc _) ⟨wr.heap.size, 0, none⟩ 1 1 [.int .i64 (j : Int)] rfl rfl (cell_oneW _ _ _) (by simp [Value.oneCell']) (by unfold maxLen; omega) (by omega) (by simp; omega) ?_; intro v5 w5 ho5 hg5 hn5 hl5; obtain ⟨ad5, c5, rfl⟩ := ownW_slice ho5)
            have b5 := (hb.alloc (by omega) (.cells #[.int .i64 (j : Int)] 2)).grown hg5 (by simp; omega) (fun k hk => (ownW_lt hO.out k hk).1)
            have HT1 := hidden (HT.out.below ((Below.refl _ wr).alloc (Nat.le_refl _) (.cells #[.int .i64 (j : Int)] 2)))
            have HT5 := hidden (HT1.out.keep (hg5.block S HT1.out.lt (fun e => HT.out.apart hO.out (by decide) e.symm)))
            go_roundw
            case rel => exact ⟨j + 1, N ++ [(j : Int)], by omega, rfl, HQ, ⟨_, _, by rw [List.length_append]; rfl, by rw [List.length_append, List.map_append]; exact ho5⟩, HT5, b5⟩
            case measure => simp [intOf]; omega
        · have HQ : Hid (N = M) := by
            rw [Hid, HE.out, HN.out]
            rw [show m.toNat = j by omega]
          clear HN
          go_wp2_with fail
          go_ret
          rw [← HQ.out]
          exact ⟨_, rfl, vownI hO.out, hb⟩
end Go.Proofs.Ytbabknhccapaoaa
