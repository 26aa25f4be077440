/-
  Acts in a row: what the program's PumpPlay answers.
-/
import Derived.Test.YtamghmnibfbgaaaCh
import Derived.Test.YtamghmnibfbgaaaEa
import Derived.Laws.AppendOwn
import Derived.Laws.OwnMore
namespace Go.Proofs.Ytamghmnibfbgaaa
open Go.RowKit Va Ba Go.Maps
set_option linter.unusedVariables false

theorem ownW_new (w : World) (t : TypeId) (s : Nat) : (w.alloc (.cells #[] t)).ownsRow w.heap.size t s (.slice (some ⟨w.heap.size, 0, none⟩) 0 0) 0 [] :=
  ⟨by simp, .inr ⟨w.heap.size, 0, #[], rfl, Nat.le_refl _, (MapKept.heap_alloc w _).1, Nat.le_refl _, Nat.zero_le _, by simp, by simp⟩⟩
theorem ownW_lt {w : World} {b e s n : Nat} {v : Value} {xs : List Value} (h : w.ownsRow b e s v n xs) : ∀ k, v.ownBlock = some k → b ≤ k ∧ k < w.heap.size := by
  obtain ⟨_, ⟨rfl, _⟩ | ⟨g, cap, cur, rfl, hb, hh, _⟩⟩ := h
  · intro k hk; cases hk
  · intro k hk
    obtain rfl : g = k := by simpa [Value.ownBlock] using hk
    exact ⟨hb, (Array.getElem?_eq_some_iff.1 hh).1⟩
theorem ownW_slice {w : World} {b e s n : Nat} {v : Value} {xs : List Value} (h : w.ownsRow b e s v n xs) : ∃ ad c, v = .slice ad n c := by
  obtain ⟨_, ⟨rfl, rfl⟩ | ⟨g, cap, cur, rfl, _⟩⟩ := h
  · exact ⟨_, _, rfl⟩
  · exact ⟨_, _, rfl⟩
theorem ownW_below {w w' : World} {b e s n : Nat} {v : Value} {xs : List Value} (h : w.ownsRow b e s v n xs) (hb : Below w.heap.size w w') : w'.ownsRow b e s v n xs := by
  obtain ⟨q, ⟨q1, q2⟩ | ⟨g, c, cur, rfl, hg, hh, r⟩⟩ := h
  · exact ⟨q, Or.inl ⟨q1, q2⟩⟩
  · exact ⟨q, Or.inr ⟨g, c, cur, rfl, hg, (hb.block g (Array.getElem?_eq_some_iff.1 hh).1).trans hh, r⟩⟩
theorem cell_oneW (w : World) (a : Value) (t : TypeId) : ∀ (j : Nat) (u : Value), [a][j]? = some u → (w.alloc (.cells #[a] t)).cell? ((⟨w.heap.size, 0, none⟩ : Addr).add j) = some u := fun j u hu => by
  have e0 : (w.alloc (Obj.cells #[a] t)).heap[w.heap.size]? = some (Obj.cells #[a] t) := (MapKept.heap_alloc w _).1
  rw [Addr.add_lit, Nat.zero_add]
  simp only [World.cell?, e0]
  simpa using hu
theorem info_partsW {P : Program} {t : TypeId} {z : Value} {n b : Nat} (h : (P.info? t).map (fun i => (i.zero, i.size, i.bytes)) = some (some z, n, b)) : ∃ i, P.info? t = some i ∧ i.zero = some z ∧ i.size = n ∧ i.bytes = b := by
  obtain ⟨i, h1, h2⟩ := Option.map_eq_some_iff.1 h
  simp only [Prod.mk.injEq] at h2
  exact ⟨i, h1, h2.1, h2.2.1, h2.2.2⟩
theorem infoW64 : (Try.prog.info? 2).map (fun i => (i.zero, i.size, i.bytes)) = some (some (.int .i64 0), 1, 8) := by kernel_rfl
theorem ownW_base {w : World} {b b' e s n : Nat} {v : Value} {xs : List Value} (h : w.ownsRow b e s v n xs) (hb : b' ≤ b) : w.ownsRow b' e s v n xs := by
  obtain ⟨q, ⟨q1, q2⟩ | ⟨g, c, cur, rfl, hg, r⟩⟩ := h
  · exact ⟨q, Or.inl ⟨q1, q2⟩⟩
  · exact ⟨q, Or.inr ⟨g, c, cur, rfl, Nat.le_trans hb hg, r⟩⟩
theorem ownE_far {w : World} {base e s n : Nat} {v : Value} {xs : List Value} (h : w.ownsRow base e s v n xs) {b : Nat} (hb : ∀ k, v.ownBlock = some k → k ≠ b) (o : Nat) (u : Value) : (w.setCell ⟨b, o, none⟩ u).ownsRow base e s v n xs := by
  obtain ⟨q, ⟨q1, q2⟩ | ⟨g, c, cur, rfl, hg, hh, r⟩⟩ := h
  · exact ⟨q, Or.inl ⟨q1, q2⟩⟩
  · exact ⟨q, Or.inr ⟨g, c, cur, rfl, hg, by rw [Below.heap_setCell _ _ _ _ (by show g ≠ b; exact hb g rfl)]; exact hh, r⟩⟩
theorem PB.ne {W : World} {B : Nat} {vs : Array Value} {t : TypeId} (h : PB W B vs t) {b e s n : Nat} {v : Value} {xs : List Value} (ho : W.ownsRow b e s v n xs) (hne : t ≠ e) : ∀ k, v.ownBlock = some k → k ≠ B := by
  obtain ⟨_, ⟨rfl, _⟩ | ⟨g, cap, cur, rfl, hb, hh, _⟩⟩ := ho
  · intro k hk; cases hk
  · intro k hk
    obtain rfl : g = k := Option.some.inj hk
    intro e'
    subst e'
    unfold PB at h
    rw [h] at hh
    cases hh
    exact hne rfl
theorem PB.grown {W W' : World} {B : Nat} {vs : Array Value} {t : TypeId} {r : Option Nat} (h : PB W B vs t) (hg : W.grownBy W' r) (hr : ∀ k, r = some k → k ≠ B) : PB W' B vs t :=
  (hg.block B h.lt (fun e => hr B e.symm rfl)).trans h
theorem act_cell {w : World} {ao : Option Addr} {n cap : Nat} {l : List Ac} {k : Nat} {s : Ac} (h : Rw 2 csA w (.slice ao n cap) l) (hk : l[k]? = some s) :
    ∃ g off, ao = some ⟨g, off, none⟩ ∧ g < w.heap.size ∧ w.cell? ⟨g, off + k * 2, none⟩ = some (.int .i64 s.kind) ∧ w.cell? ⟨g, off + k * 2 + 1, none⟩ = some (.int .i64 s.n) := by
  obtain ⟨g, off, hao, hg, hcs⟩ := h.at hk
  exact ⟨g, off, hao, hg, hcs 0 (by omega), hcs 1 (by omega)⟩
theorem play_end {fn : Func} (hres : fn.results = #[.cell 6 27, .tmp 7]) {W : World} {tm : Array Value} {B : Nat} {q' : Pm} {v : Value} {Q : Ending → World → Prop} (hN : PB W B (cP q') 27) (h4 : tm.getD 6 undef = .pointer (some ⟨B, 0, none⟩)) (h5 : tm.getD 7 undef = v) (hQ : Q (.returned (.tuple #[aPm q', v])) W) :
    bodyPost Try.prog fn Q Exit.ret ⟨tm, []⟩ W := by
  refine bodyPost_ret (results_ct hres _ _ B 27 _ _ h4 hN Try.underlying27 rfl (by kernel_rfl)) rfl ?_
  rw [h5]
  exact hQ
theorem new_true {l : Lm} {lf : Int} (h : (Ba.new l lf).2 = true) : (Ba.new l lf).1 = newP l lf ∧ Right (newP l lf) := by
  unfold Ba.new at *
  split at h
  · rename_i hp
    rw [if_pos hp]
    exact ⟨rfl, right_iff.1 hp⟩
  · cases h
theorem codes_take {l : List Ac} {i : Nat} {x : Ac} (p : Pm) (hx : l[i]? = some x) : codes p (l.take (i + 1)) = codes p (l.take i) ++ [(Ba.step (play p (l.take i)) x).2] := by rw [take_snocW hx, codes_snoc]
theorem play_take {l : List Ac} {i : Nat} {x : Ac} (p : Pm) (hx : l[i]? = some x) : play p (l.take (i + 1)) = (Ba.step (play p (l.take i)) x).1 := by rw [take_snocW hx, play_snoc]

set_option maxRecDepth 20000 in
set_option maxHeartbeats 8000000 in
theorem iplay_any (l : Lm) (lf : Int) (ao : Option Addr) (n cap : Nat) (acs : List Ac) (w : World) (h : Rw 2 csA w (.slice ao n cap) acs) (hn : acs.length ≤ 1048576) :
    Calls Try.prog 18 #[aL l, .int .i64 lf, .slice ao n cap] w fun e w' => ∃ v, e = .returned (.tuple #[aPm (pplay l lf acs).1, v]) ∧ w'.ownsRow w.heap.size 2 1 v (pplay l lf acs).2.length ((pplay l lf acs).2.map fun z => Value.int .i64 z) ∧ Below w.heap.size w w' := by
  obtain rfl := h.len
  have hN := inew_any l lf
  have HW := hidden (fun W (hW : Below w.heap.size w W) => h.below hW)
  obtain ⟨i0, hi0, hv0, hv1, hv2⟩ := info_partsW infoW64
  have HV : Hid (pplay l lf acs = if (Ba.new l lf).2 = true ∧ acs.length ≤ 1000 then (play (newP l lf) acs, codes (newP l lf) acs) else (zeroP, [])) := rfl
  have HNT : Hid ((Ba.new l lf).2 = true → (Ba.new l lf).1 = newP l lf ∧ Right (newP l lf)) := new_true
  clear h
  generalize newP l lf = p0 at *
  generalize pplay l lf acs = R at *
  generalize Ba.new l lf = N at *
  obtain ⟨p1, b⟩ := N
  dsimp only at hN HV HNT
  unfold aPm at hN
  unfold aL at *
  go_enter Try.func18, Try.ntmps18
  go_upto_region 1 with fail
  have hL := (PB.new w #[.int .i64 l.sl, .int .i64 l.sh, .int .i64 l.hl, .int .i64 l.hh] 25).alloc (.cells #[.int .i64 0, .int .i64 0, .int .i64 0, .int .i64 0, .int .i64 0, .int .i64 0, .int .i64 0, .bool false, .int .i64 0, .int .i64 0] 27)
  have hZ := PB.new (w.alloc (.cells #[.int .i64 l.sl, .int .i64 l.sh, .int .i64 l.hl, .int .i64 l.hh] 25)) #[.int .i64 0, .int .i64 0, .int .i64 0, .int .i64 0, .int .i64 0, .int .i64 0, .int .i64 0, .bool false, .int .i64 0, .int .i64 0] 27
  have hb0 : Below w.heap.size w ((w.alloc (.cells #[.int .i64 l.sl, .int .i64 l.sh, .int .i64 l.hl, .int .i64 l.hh] 25)).alloc (.cells #[.int .i64 0, .int .i64 0, .int .i64 0, .int .i64 0, .int .i64 0, .int .i64 0, .int .i64 0, .bool false, .int .i64 0, .int .i64 0] 27)) := by repeat (first | exact Below.refl _ _ | assumption | refine st_drew ?_ | refine st_drewN ?_ _ | refine Below.setCell ?_ (by first | omega | (simp; done) | (simp; omega)) _ | refine Below.alloc ?_ (by first | omega | (simp; done) | (simp; omega)) _)
  simp only [World.size_alloc] at hL hZ
  generalize (w.alloc (.cells #[.int .i64 l.sl, .int .i64 l.sh, .int .i64 l.hl, .int .i64 l.hh] 25)).alloc (.cells #[.int .i64 0, .int .i64 0, .int .i64 0, .int .i64 0, .int .i64 0, .int .i64 0, .int .i64 0, .bool false, .int .i64 0, .int .i64 0] 27) = wA at *
  generalize Value.agg #[.int .i64 l.sl, .int .i64 l.sh, .int .i64 l.hl, .int .i64 l.hh] = av
  have hle : w.heap.size ≤ w.heap.size + 1 := by omega
  generalize w.heap.size + 1 = B1 at *
  have hO := ownW_base (ownW_new wA 2 1) hb0.size
  have hL1 := hL.alloc (.cells #[] 2)
  have hZ1 := hZ.alloc (.cells #[] 2)
  have hb1 : Below w.heap.size w (wA.alloc (.cells #[] 2)) := hb0.alloc hb0.size _
  clear hL hZ hb0
  go_upto_region 2 with fail
  generalize wA.alloc (.cells #[] 2) = wB at *
  generalize wA.heap.size = G at *
  obtain ⟨c0, c1, c2, c3⟩ := hL1.four
  have HO := hidden hO
  have HZ := hidden hZ1
  have HB := hidden hb1
  clear hL1 hO hZ1 hb1

  go_upto_region 3 with (with_reducible refine (hN _).mono ?_; rintro e w1 ⟨rfl, hb1⟩)
  have hP := PB.new w1 #[.int .i64 p1.lim.sl, .int .i64 p1.lim.sh, .int .i64 p1.lim.hl, .int .i64 p1.lim.hh, .int .i64 p1.rate, .int .i64 p1.asked, .int .i64 p1.st, .bool p1.door, .int .i64 p1.left, .int .i64 p1.given] 27
  have hO := ownW_below (ownW_below HO.out hb1) ((Below.refl _ w1).alloc (Nat.le_refl _) (.cells #[.int .i64 p1.lim.sl, .int .i64 p1.lim.sh, .int .i64 p1.lim.hl, .int .i64 p1.lim.hh, .int .i64 p1.rate, .int .i64 p1.asked, .int .i64 p1.st, .bool p1.door, .int .i64 p1.left, .int .i64 p1.given] 27))
  have hZ := (HZ.out.below hb1).alloc (.cells #[.int .i64 p1.lim.sl, .int .i64 p1.lim.sh, .int .i64 p1.lim.hl, .int .i64 p1.lim.hh, .int .i64 p1.rate, .int .i64 p1.asked, .int .i64 p1.st, .bool p1.door, .int .i64 p1.left, .int .i64 p1.given] 27)
  have hb2 : Below w.heap.size w (w1.alloc (.cells #[.int .i64 p1.lim.sl, .int .i64 p1.lim.sh, .int .i64 p1.lim.hl, .int .i64 p1.lim.hh, .int .i64 p1.rate, .int .i64 p1.asked, .int .i64 p1.st, .bool p1.door, .int .i64 p1.left, .int .i64 p1.given] 27)) := (onto HB.out hb1).alloc (onto HB.out hb1).size _
  have hPl : w.heap.size ≤ w1.heap.size := (onto HB.out hb1).size
  have hPZ : w1.heap.size ≠ B1 := Nat.ne_of_gt (HZ.out.below hb1).lt
  generalize w1.alloc (.cells #[.int .i64 p1.lim.sl, .int .i64 p1.lim.sh, .int .i64 p1.lim.hl, .int .i64 p1.lim.hh, .int .i64 p1.rate, .int .i64 p1.asked, .int .i64 p1.st, .bool p1.door, .int .i64 p1.left, .int .i64 p1.given] 27) = wC at *
  generalize w1.heap.size = P at *
  clear c0 c1 c2 c3 HO HZ HB hb1 hN
  by_cases hbt : b = true ∧ acs.length ≤ 1000
  · obtain ⟨rfl, hln⟩ := hbt
    have HR : Hid (R = (play p0 acs, codes p0 acs)) := by rw [Hid, HV.out, if_pos ⟨rfl, hln⟩]
    obtain ⟨rfl, hRt⟩ := HNT.out rfl
    have HRt := hidden hRt
    clear HV HNT hRt
    have hl1 : ¬ (1000 : Int) < (acs.length : Int) := by omega
    have HP := hidden hP
    have HO := hidden hO
    have HZ := hidden hZ
    have HB := hidden hb2
    clear hP hO hZ hb2
    go_wp2_with fail
    go_loopw [8, 32] (fun sv iv wr => ∃ i : Nat, i ≤ acs.length ∧ iv = .int .i64 i ∧ (∃ ad c, sv = .slice ad i c ∧ wr.ownsRow w.heap.size 2 1 (.slice ad i c) i ((codes p1 (acs.take i)).map fun z => Value.int .i64 z)) ∧ PB wr P (cP (play p1 (acs.take i))) 27 ∧ PB wr B1 #[.int .i64 0, .int .i64 0, .int .i64 0, .int .i64 0, .int .i64 0, .int .i64 0, .int .i64 0, .bool false, .int .i64 0, .int .i64 0] 27 ∧ Below w.heap.size w wr) (fun _ iv _ => acs.length - (intOf iv).toNat)
    case atStart => exact ⟨0, Nat.zero_le _, rfl, ⟨_, _, rfl, HO.out⟩, HP.out, HZ.out, HB.out⟩
    case round =>
      clear HP HO HZ HB
      obtain ⟨i, hi, rfl, ⟨ad, c, rfl, ho⟩, hP, hZ, hb⟩ := hrel
      have hszr := hb.size
      by_cases hlt : i < acs.length
      · have hlti : (i : Int) < (acs.length : Int) := by omega
        obtain ⟨x, hx⟩ := some_of acs i hlt
        obtain ⟨g, off, rfl, hg, x0, x1⟩ := act_cell (HW.out _ hb) hx
        have HC := hidden (codes_take p1 hx)
        have HM := hidden (play_take p1 hx)
        have hRi := right_play HRt.out (acs.take i)
        have k2 : ∀ w, Calls Try.prog 11 #[aPm (play p1 (acs.take i)), aAc x] w fun e w' => e = .returned (.tuple #[aPm (Ba.step (play p1 (acs.take i)) x).1, .int .i64 (Ba.step (play p1 (acs.take i)) x).2]) ∧ Below w.heap.size w w' := fun w => by
          have h := ipdo_any (play p1 (acs.take i)) x w
          rw [pdo, if_pos (right_iff.2 hRi)] at h
          exact h
        generalize Ba.step (play p1 (acs.take i)) x = S at *
        obtain ⟨q, co⟩ := S
        dsimp only at HC HM k2
        generalize play p1 (acs.take i) = p at *
        unfold aPm aAc at k2
        unfold cP at hP
        clear hx hRi
        have HP := hidden (hP.alloc (.cells #[.int .i64 x.kind, .int .i64 x.n] 29))
        have HZ := hidden (hZ.alloc (.cells #[.int .i64 x.kind, .int .i64 x.n] 29))
        have HX := hidden (PB.new wr #[.int .i64 x.kind, .int .i64 x.n] 29)
        have HO := hidden (ownW_below ho ((Below.refl _ wr).alloc (Nat.le_refl _) (.cells #[.int .i64 x.kind, .int .i64 x.n] 29)))
        have HB := hidden (hb.alloc hszr (.cells #[.int .i64 x.kind, .int .i64 x.n] 29))
        clear hP hZ ho hb
        go_upto_region 9 with fail
        generalize wr.alloc (.cells #[.int .i64 x.kind, .int .i64 x.n] 29) = wD at *
        generalize wr.heap.size = X at *
        clear x0 x1 hg
        obtain ⟨c0, c1, c2, c3, c4, c5, c6, c7, c8, c9⟩ := HP.out.ten
        obtain ⟨a0, a1⟩ := HX.out.two
        go_upto_region 10 with (with_reducible refine (k2 _).mono ?_; rintro e w2 ⟨rfl, hb2⟩; obtain ⟨d0, d1, d2, d3, d4, d5, d6, d7, d8, d9⟩ := (HP.out.below hb2).ten; obtain ⟨f0, f1, f2, f3, f4, f5, f6, f7, f8, f9⟩ := (HP.out.below hb2).cold)
        have HP2 := hidden (PB.fill' q (HP.out.below hb2))
        have HZ2 := hidden (HZ.out.below hb2)
        have HO2 := hidden (ownW_below HO.out hb2)
        have HB2 := hidden (onto HB.out hb2)
        have hOP := (HP.out.below hb2).ne HO2.out (by decide)
        have HZ3 : Hid (PB ((((((((((w2.setCell ⟨P, 0, none⟩ (.int .i64 q.lim.sl)).setCell ⟨P, 1, none⟩ (.int .i64 q.lim.sh)).setCell ⟨P, 2, none⟩ (.int .i64 q.lim.hl)).setCell ⟨P, 3, none⟩ (.int .i64 q.lim.hh)).setCell ⟨P, 4, none⟩ (.int .i64 q.rate)).setCell ⟨P, 5, none⟩ (.int .i64 q.asked)).setCell ⟨P, 6, none⟩ (.int .i64 q.st)).setCell ⟨P, 7, none⟩ (.bool q.door)).setCell ⟨P, 8, none⟩ (.int .i64 q.left)).setCell ⟨P, 9, none⟩ (.int .i64 q.given)) B1 #[.int .i64 0, .int .i64 0, .int .i64 0, .int .i64 0, .int .i64 0, .int .i64 0, .int .i64 0, .bool false, .int .i64 0, .int .i64 0] 27) := ((((((((((HZ2.out.far hPZ 0 (.int .i64 q.lim.sl)).far hPZ 1 (.int .i64 q.lim.sh)).far hPZ 2 (.int .i64 q.lim.hl)).far hPZ 3 (.int .i64 q.lim.hh)).far hPZ 4 (.int .i64 q.rate)).far hPZ 5 (.int .i64 q.asked)).far hPZ 6 (.int .i64 q.st)).far hPZ 7 (.bool q.door)).far hPZ 8 (.int .i64 q.left)).far hPZ 9 (.int .i64 q.given))
        have HO3 : Hid (((((((((((w2.setCell ⟨P, 0, none⟩ (.int .i64 q.lim.sl)).setCell ⟨P, 1, none⟩ (.int .i64 q.lim.sh)).setCell ⟨P, 2, none⟩ (.int .i64 q.lim.hl)).setCell ⟨P, 3, none⟩ (.int .i64 q.lim.hh)).setCell ⟨P, 4, none⟩ (.int .i64 q.rate)).setCell ⟨P, 5, none⟩ (.int .i64 q.asked)).setCell ⟨P, 6, none⟩ (.int .i64 q.st)).setCell ⟨P, 7, none⟩ (.bool q.door)).setCell ⟨P, 8, none⟩ (.int .i64 q.left)).setCell ⟨P, 9, none⟩ (.int .i64 q.given)).ownsRow w.heap.size 2 1 (.slice ad i c) i ((codes p1 (acs.take i)).map fun z => Value.int .i64 z)) := (ownE_far (ownE_far (ownE_far (ownE_far (ownE_far (ownE_far (ownE_far (ownE_far (ownE_far (ownE_far HO2.out hOP 0 (.int .i64 q.lim.sl)) hOP 1 (.int .i64 q.lim.sh)) hOP 2 (.int .i64 q.lim.hl)) hOP 3 (.int .i64 q.lim.hh)) hOP 4 (.int .i64 q.rate)) hOP 5 (.int .i64 q.asked)) hOP 6 (.int .i64 q.st)) hOP 7 (.bool q.door)) hOP 8 (.int .i64 q.left)) hOP 9 (.int .i64 q.given))
        have HB3 : Hid (Below w.heap.size w ((((((((((w2.setCell ⟨P, 0, none⟩ (.int .i64 q.lim.sl)).setCell ⟨P, 1, none⟩ (.int .i64 q.lim.sh)).setCell ⟨P, 2, none⟩ (.int .i64 q.lim.hl)).setCell ⟨P, 3, none⟩ (.int .i64 q.lim.hh)).setCell ⟨P, 4, none⟩ (.int .i64 q.rate)).setCell ⟨P, 5, none⟩ (.int .i64 q.asked)).setCell ⟨P, 6, none⟩ (.int .i64 q.st)).setCell ⟨P, 7, none⟩ (.bool q.door)).setCell ⟨P, 8, none⟩ (.int .i64 q.left)).setCell ⟨P, 9, none⟩ (.int .i64 q.given))) := ((((((((((HB2.out.setCell (p := ⟨P, 0, none⟩) hPl (.int .i64 q.lim.sl)).setCell (p := ⟨P, 1, none⟩) hPl (.int .i64 q.lim.sh)).setCell (p := ⟨P, 2, none⟩) hPl (.int .i64 q.lim.hl)).setCell (p := ⟨P, 3, none⟩) hPl (.int .i64 q.lim.hh)).setCell (p := ⟨P, 4, none⟩) hPl (.int .i64 q.rate)).setCell (p := ⟨P, 5, none⟩) hPl (.int .i64 q.asked)).setCell (p := ⟨P, 6, none⟩) hPl (.int .i64 q.st)).setCell (p := ⟨P, 7, none⟩) hPl (.bool q.door)).setCell (p := ⟨P, 8, none⟩) hPl (.int .i64 q.left)).setCell (p := ⟨P, 9, none⟩) hPl (.int .i64 q.given))
        generalize ((((((((((w2.setCell ⟨P, 0, none⟩ (.int .i64 q.lim.sl)).setCell ⟨P, 1, none⟩ (.int .i64 q.lim.sh)).setCell ⟨P, 2, none⟩ (.int .i64 q.lim.hl)).setCell ⟨P, 3, none⟩ (.int .i64 q.lim.hh)).setCell ⟨P, 4, none⟩ (.int .i64 q.rate)).setCell ⟨P, 5, none⟩ (.int .i64 q.asked)).setCell ⟨P, 6, none⟩ (.int .i64 q.st)).setCell ⟨P, 7, none⟩ (.bool q.door)).setCell ⟨P, 8, none⟩ (.int .i64 q.left)).setCell ⟨P, 9, none⟩ (.int .i64 q.given)) = w3 at *
        clear k2 c0 c1 c2 c3 c4 c5 c6 c7 c8 c9 d0 d1 d2 d3 d4 d5 d6 d7 d8 d9 f0 f1 f2 f3 f4 f5 f6 f7 f8 f9 a0 a1 hb2 HP HZ HO HB HX HZ2 HO2 HB2 hOP
        have hs3 := HB3.out.size
        go_wp2_with (at_builtin; refine wpList_append_own _ rfl (.tmp 42) (.tmp 44) 42 rfl w.heap.size 2 i0 (.int .i64 0) 1 8 Try.underlying42 hi0 hv0 hv1 hv2 rfl (by decide) _ i ((codes p1 (acs.take i)).map fun z => Value.int .i64 z) rfl (HO3.out.alloc _) ⟨w3.heap.size, 0, none⟩ 1 1 [.int .i64 co] rfl rfl (cell_oneW _ _ _) (by simp [Value.oneCell']) (by unfold maxLen; omega) (by omega) (by simp; omega) ?_; intro v5 w5 ho5 hg5 hn5; obtain ⟨ad5, c5, rfl⟩ := ownW_slice ho5)
        have hP5 := (HP2.out.alloc (.cells #[.int .i64 co] 2)).grown hg5 ((HP2.out).ne HO3.out (by decide))
        have hZ5 := (HZ3.out.alloc (.cells #[.int .i64 co] 2)).grown hg5 ((HZ3.out).ne HO3.out (by decide))
        have b5 := (HB3.out.alloc hs3 (.cells #[.int .i64 co] 2)).grown hg5 (by simp; omega) (fun k hk => (ownW_lt HO3.out k hk).1)
        go_roundw
        case rel => exact ⟨i + 1, by omega, rfl, ⟨_, _, rfl, by rw [HC.out, List.map_append]; exact ho5⟩, by rw [HM.out]; exact hP5, hZ5, b5⟩
        case measure => simp [intOf]; omega
      · have hlti : ¬ (i : Int) < (acs.length : Int) := by omega
        have hin : i = acs.length := by omega
        subst hin
        rw [List.take_length] at ho hP
        unfold cP at hP
        obtain ⟨c0, c1, c2, c3, c4, c5, c6, c7, c8, c9⟩ := hP.ten
        obtain ⟨z0, z1, z2, z3, z4, z5, z6, z7, z8, z9⟩ := hZ.ten
        obtain ⟨f0, f1, f2, f3, f4, f5, f6, f7, f8, f9⟩ := hZ.cold
        have HP := hidden hP
        have HZ := hidden hZ
        have HO := hidden ho
        have HB := hidden hb
        clear hP hZ ho hb
        have HLN : Hid ((codes p1 acs).length = acs.length) := codes_len acs p1
        generalize codes p1 acs = CS at *
        generalize play p1 acs = q at *
        go_wp2_with fail
        try simp only [Exit.inBlock, Exit.then]
        refine play_end (q' := q) (v := .slice ad acs.length c) Try.results18 (PB.fill' q HZ.out) rfl rfl ⟨.slice ad acs.length c, ?_, ?_, fill_below HB.out hle _ _ _ _ _ _ _ _ _ _⟩
        · rw [HR.out]
        · rw [HR.out]
          have hOZ := HZ.out.ne HO.out (by decide)
          rw [HLN.out]
          exact ownE_far (ownE_far (ownE_far (ownE_far (ownE_far (ownE_far (ownE_far (ownE_far (ownE_far (ownE_far HO.out hOZ _ _) hOZ _ _) hOZ _ _) hOZ _ _) hOZ _ _) hOZ _ _) hOZ _ _) hOZ _ _) hOZ _ _) hOZ _ _
  · have HR : Hid (R = (zeroP, [])) := by rw [Hid, HV.out, if_neg hbt]
    have hx : b = false ∨ (1000 : Int) < (acs.length : Int) := by
      cases b with
      | false => exact .inl rfl
      | true => right; have : ¬ acs.length ≤ 1000 := fun z => hbt ⟨rfl, z⟩; omega
    clear HV HNT hbt
    obtain ⟨z0, z1, z2, z3, z4, z5, z6, z7, z8, z9⟩ := hZ.ten
    obtain ⟨f0, f1, f2, f3, f4, f5, f6, f7, f8, f9⟩ := hZ.cold
    have HZ := hidden hZ
    have HO := hidden hO
    have HB := hidden hb2
    clear hP hZ hO hb2
    have hZf := hidden (PB.fill' zeroP HZ.out)
    have hOZ := hidden (HZ.out.ne HO.out (by decide))
    rcases hx with rfl | hx
    · go_wp2_with fail
      try simp only [Exit.inBlock, Exit.then]
      refine play_end (q' := zeroP) (v := .slice (some ⟨G, 0, none⟩) 0 0) Try.results18 hZf.out rfl rfl ⟨.slice (some ⟨G, 0, none⟩) 0 0, ?_, ?_, fill_below HB.out hle _ _ _ _ _ _ _ _ _ _⟩
      · rw [HR.out]
      · rw [HR.out]
        exact ownE_far (ownE_far (ownE_far (ownE_far (ownE_far (ownE_far (ownE_far (ownE_far (ownE_far (ownE_far HO.out hOZ.out _ _) hOZ.out _ _) hOZ.out _ _) hOZ.out _ _) hOZ.out _ _) hOZ.out _ _) hOZ.out _ _) hOZ.out _ _) hOZ.out _ _) hOZ.out _ _
    · cases b <;> go_wp2_with fail
      all_goals (try simp only [Exit.inBlock, Exit.then])
      all_goals refine play_end (q' := zeroP) (v := .slice (some ⟨G, 0, none⟩) 0 0) Try.results18 hZf.out rfl rfl ⟨.slice (some ⟨G, 0, none⟩) 0 0, ?_, ?_, fill_below HB.out hle _ _ _ _ _ _ _ _ _ _⟩
      all_goals rw [HR.out]
      all_goals exact ownE_far (ownE_far (ownE_far (ownE_far (ownE_far (ownE_far (ownE_far (ownE_far (ownE_far (ownE_far HO.out hOZ.out _ _) hOZ.out _ _) hOZ.out _ _) hOZ.out _ _) hOZ.out _ _) hOZ.out _ _) hOZ.out _ _) hOZ.out _ _) hOZ.out _ _) hOZ.out _ _
end Go.Proofs.Ytamghmnibfbgaaa
