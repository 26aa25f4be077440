/-
  Somebody more: the program's Enrol.
-/
import Derived.Test.YtoehnlbkgpjhmaaTr4
import Derived.Test.YtoehnlbkgpjhmaaTr13
import Derived.Laws.AppendOwn
import Derived.Deep.AppendSrc
namespace Go.Proofs.Ytoehnlbkgpjhmaa
open Go.RowKit Go.WideShapes Va Lb Tr Go.Maps
set_option linter.all false

/-- The trial with one more, and the arm. -/
def enr (x : Tl) : Tl × Int := if trialB x = true ∧ x.told ≤ 999 then (x.next, alloc x x.told.toNat) else (⟨0, 0, [], 0⟩, -1)
theorem enr_yes {x : Tl} (h : trialB x = true) (h2 : x.told ≤ 999) : enr x = (x.next, alloc x x.told.toNat) ∧ allocation x x.told = alloc x x.told.toNat ∧ 0 ≤ alloc x x.told.toNat := by
  have h3 := (trialB_iff.1 h).2.2.2.2.1
  refine ⟨by unfold enr; rw [if_pos ⟨h, h2⟩], by unfold allocation; rw [if_pos ⟨h, h3.1, h2⟩], (alloc_rng h _).1⟩
theorem enr_no {x : Tl} (h : ¬ (trialB x = true ∧ x.told ≤ 999)) : enr x = (⟨0, 0, [], 0⟩, -1) ∧ allocation x x.told = -1 := by
  refine ⟨by unfold enr; rw [if_neg h], by unfold allocation; rw [if_neg (fun hh => h ⟨hh.1, hh.2.2⟩)]⟩
theorem ints_one (l : List Int) : ∀ u ∈ l.map (fun z => Value.int .i64 z), u.oneCell' = true := by
  intro u hu
  obtain ⟨z, -, rfl⟩ := List.mem_map.1 hu
  simp [Value.oneCell']
theorem PB.grownT {W W' : World} {B : Nat} {vs : Array Value} {t : TypeId} {r : Option Nat} (h : PB W B vs t) (hg : W.grownBy W' r) (hr : ∀ k, r = some k → k ≠ B) : PB W' B vs t :=
  (hg.block B h.lt (fun e => hr B e.symm rfl)).trans h

theorem wpList_newT {ops : Array Oper} {rest : List Oper} {o : Oper} {a : Act} {w : World} {Q : Exit → Act → World → Prop} (hgd : o.guard = none) (s x : Operand)
    (ho : o.op = .call { callee := .builtin .append, args := #[s, x], argTypes := #[24, 24] }) (g : Nat) (hs : a.eval s = .slice (some ⟨g, 0, none⟩) 0 0) (hblk : w.heap[g]? = some (.cells #[] 2))
    (ao : Option Addr) (n cap : Nat) (l : List Int) (hx : a.eval x = .slice ao n cap) (hrow : VRw 1 cvI w (.slice ao n cap) l) (hn : l.length ≤ 1048576)
    (h : ∀ v' w', w'.ownsRow g 2 1 v' l.length (l.map fun z => Value.int .i64 z) → w.grownBy w' (some g) → wpList Try.prog ops Q rest (a.put o.dst v') w') : wpList Try.prog ops Q (o :: rest) a w := by
  obtain ⟨i0, hi, hz0, hz1, hz2⟩ := info_partsW infoW64
  have hlt := (Array.getElem?_eq_some_iff.1 hblk).1
  have hown : w.ownsRow g 2 1 (.slice (some ⟨g, 0, none⟩) 0 0) 0 [] := ⟨by simp, .inr ⟨g, 0, #[], rfl, Nat.le_refl _, hblk, Nat.le_refl _, Nat.zero_le _, by simp, by simp⟩⟩
  obtain rfl := hrow.len
  cases ao with
  | none =>
    have hl : l = [] := by
      obtain ⟨ao', cap', he, _, h2⟩ := hrow
      simp only [Value.slice.injEq, true_and] at he
      rcases h2 with h2 | ⟨b, off, h3, _⟩
      · exact List.eq_nil_of_length_eq_zero h2
      · rw [← he.1] at h3; cases h3
    subst hl
    refine wpList_plain hgd fun _ hK => ?_
    have hsrc : Src Try.prog i0.size 24 (.slice none ([] : List Int).length cap) 0 [] w := Src.ofNil w Try.underlying24 cap
    have hr := run_append_room_src (P := Try.prog) w 24 24 o.type 2 i0 Try.underlying24 hi g 0 0 0 _ 0 [] hsrc (Nat.le_refl _) (fun j hj => absurd hj (Nat.not_lt_zero _)) (fun j hj => absurd hj (Nat.not_lt_zero _))
    unfold Oper.wp execOp
    simp only [ho, resolve, invoke, builtin, Sem.run_bind, Sem.run_pure, Result.andThen_ok, List.map_toArray, List.map_cons, List.map_nil, hs, hx, hr]
    exact hK _ _ (h _ _ hown ⟨rfl, rfl, rfl, Nat.le_refl _, fun _ _ _ => rfl⟩)
  | some ad =>
    refine wpList_append_own w hgd s x 24 ho g 2 i0 (.int .i64 0) 1 8 Try.underlying24 hi hz0 hz1 hz2 rfl (by decide) _ 0 [] hs hown ad l.length cap (l.map fun z => Value.int .i64 z) hx (by simp) (fun j u hu => ?_) (ints_one _) (by unfold maxLen; omega) (by omega) (by omega) (fun v' w' h1 h2 _ => h v' w' (by simpa using h1) h2)
    rw [List.getElem?_map] at hu
    obtain ⟨z, hz, rfl⟩ := Option.map_eq_some_iff.1 hu
    obtain ⟨b, off, he, _, hc⟩ := vint_cell hrow hz
    obtain rfl := Option.some.inj he
    rw [Addr.add_lit]
    exact hc

set_option maxRecDepth 20000 in
set_option maxHeartbeats 8000000 in
theorem ienrol_any (x : Tl) (ta : Option Addr) (tn tc : Nat) (w : World) (h : VRw 1 cvI w (.slice ta tn tc) x.coins) (hn : x.coins.length ≤ 1048576) :
    Calls Try.prog 16 #[aT x (.slice ta tn tc)] w fun e w' => ∃ ad c, e = .returned (.tuple #[aT (enr x).1 (.slice ad (enr x).1.coins.length c), .int .i64 (enr x).2]) ∧ VOwn 1 cvI w' w.heap.size (.slice ad (enr x).1.coins.length c) (enr x).1.coins ∧ Below w.heap.size w w' := by
  obtain rfl := h.len
  have HAL := hidden (fun W hW => ialloc_any x ta x.coins.length tc x.told W hW hn)
  have P0 := hidden ((PB.new w #[.int .i64 x.arms, .int .i64 x.block, .slice ta x.coins.length tc, .int .i64 x.told] 26).alloc (.cells #[.int .i64 0, .int .i64 0, .slice none 0 0, .int .i64 0] 26))
  have P1 := hidden (PB.new (w.alloc (.cells #[.int .i64 x.arms, .int .i64 x.block, .slice ta x.coins.length tc, .int .i64 x.told] 26)) #[.int .i64 0, .int .i64 0, .slice none 0 0, .int .i64 0] 26)
  simp only [World.size_alloc] at P1
  have hbA : Below w.heap.size w ((w.alloc (.cells #[.int .i64 x.arms, .int .i64 x.block, .slice ta x.coins.length tc, .int .i64 x.told] 26)).alloc (.cells #[.int .i64 0, .int .i64 0, .slice none 0 0, .int .i64 0] 26)) := by repeat (first | exact Below.refl _ _ | assumption | refine st_drew ?_ | refine st_drewN ?_ _ | refine Below.setCell ?_ (by first | omega | (simp; done) | (simp; omega)) _ | refine Below.alloc ?_ (by first | omega | (simp; done) | (simp; omega)) _)
  have hsA : w.heap.size + 1 < ((w.alloc (.cells #[.int .i64 x.arms, .int .i64 x.block, .slice ta x.coins.length tc, .int .i64 x.told] 26)).alloc (.cells #[.int .i64 0, .int .i64 0, .slice none 0 0, .int .i64 0] 26)).heap.size := by simp
  have HH := hidden (h.below hbA)
  clear h
  unfold aT at *
  by_cases q : trialB x = true ∧ x.told ≤ 999
  case neg =>
    obtain ⟨e1, e2⟩ := enr_no q
    rw [e1]
    rw [e2] at HAL
    clear e1 e2 q
    go_enter Try.func16, Try.ntmps16
    go_upto_region 1 with fail
    generalize (w.alloc (.cells #[.int .i64 x.arms, .int .i64 x.block, .slice ta x.coins.length tc, .int .i64 x.told] 26)).alloc (.cells #[.int .i64 0, .int .i64 0, .slice none 0 0, .int .i64 0] 26) = wA at *
    obtain ⟨c0, c1, c2, c3⟩ := P0.out.four
    go_wp2_with (go_at_call 11; refine (HAL.out _ HH.out).mono ?_; rintro e w1 ⟨rfl, hb1⟩; have HB1 := hidden hb1; obtain ⟨p0, p1, p2, p3⟩ := (P1.out.below hb1).four; obtain ⟨f0, f1, f2, f3, -⟩ := (P1.out.below hb1).cold; clear hb1)
    have b0 := hbA.trans (HB1.out.mono hbA.size)
    have b4 := (((b0.setCell (p := ⟨w.heap.size + 1, 0, none⟩) (by show w.heap.size ≤ w.heap.size + 1; omega) (.int .i64 0)).setCell (p := ⟨w.heap.size + 1, 1, none⟩) (by show w.heap.size ≤ w.heap.size + 1; omega) (.int .i64 0)).setCell (p := ⟨w.heap.size + 1, 2, none⟩) (by show w.heap.size ≤ w.heap.size + 1; omega) (.slice none 0 0)).setCell (p := ⟨w.heap.size + 1, 3, none⟩) (by show w.heap.size ≤ w.heap.size + 1; omega) (.int .i64 0)
    obtain ⟨y0, y1, y2, y3⟩ := ((P1.out.below HB1.out).fill4 (.int .i64 0) (.int .i64 0) (.slice none 0 0) (.int .i64 0)).four
    exact bodyPost_ret (v := .tuple #[.agg #[.int .i64 0, .int .i64 0, .slice none 0 0, .int .i64 0], .int .i64 (-1)]) (by simp [results, Try.results16, go_sem, y0, y1, y2, y3]) rfl ⟨none, 0, rfl, VOwn.nil _ _ _ _, b4⟩
  obtain ⟨e1, e2, e3⟩ := enr_yes q.1 q.2
  rw [e1]
  rw [e2] at HAL
  have t9 := q.2
  have t0 := (trialB_iff.1 q.1).2.2.2.2.1.1
  clear e1 e2 q
  generalize alloc x x.told.toNat = A at *
  have hA : (A == -1) = false := by rw [beq_eq_false_iff_ne]; omega
  have hA2 : ¬ A = -1 := by omega
  show Calls _ _ _ _ (fun e w' => ∃ ad c, e = .returned (.tuple #[.agg #[.int .i64 x.arms, .int .i64 x.block, .slice ad x.coins.length c, .int .i64 (x.told + 1)], .int .i64 A]) ∧ VOwn 1 cvI w' w.heap.size (.slice ad x.coins.length c) x.coins ∧ Below w.heap.size w w')
  go_enter Try.func16, Try.ntmps16
  go_upto_region 1 with fail
  generalize (w.alloc (.cells #[.int .i64 x.arms, .int .i64 x.block, .slice ta x.coins.length tc, .int .i64 x.told] 26)).alloc (.cells #[.int .i64 0, .int .i64 0, .slice none 0 0, .int .i64 0] 26) = wA at *
  obtain ⟨c0, c1, c2, c3⟩ := P0.out.four
  go_upto_region 4 with (go_at_call 11; refine (HAL.out _ HH.out).mono ?_; rintro e w1 ⟨rfl, hb1⟩)
  clear c0 c1 c2 c3
  have hz1 := hb1.size
  have ba : Below w1.heap.size w1 (w1.alloc (.cells #[] 2)) := (Below.refl _ _).alloc (Nat.le_refl _) _
  have Q0 := hidden ((P0.out.below hb1).below ba)
  have Q1 := hidden ((P1.out.below hb1).below ba)
  have QN := hidden (PB.new w1 #[] 2)
  have HR := hidden ((HH.out.below hb1).below ba)
  have HBA := hidden ((hbA.trans (hb1.mono hbA.size)).trans (ba.mono (Nat.le_trans hbA.size hz1)))
  have hzs : w1.heap.size < (w1.alloc (.cells #[] 2)).heap.size := by simp
  generalize hW3 : w1.alloc (.cells #[] 2) = W3 at *
  obtain ⟨c0, c1, c2, c3⟩ := Q0.out.four
  clear P0 P1 HH HAL ba hb1 hbA
  go_wp2_with (at_builtin; refine wpList_newT rfl (.tmp 12) (.tmp 14) rfl w1.heap.size rfl QN.out ta x.coins.length tc x.coins rfl HR.out hn ?_; intro v4 w4 ho4 hg4; have hO4 := hidden (vownI (base := w1.heap.size) ho4); obtain ⟨ad4, c4, rfl⟩ := ownW_slice ho4; have T0 := hidden (Q0.out.grownT hg4 (fun k hk => by have := Option.some.inj hk; omega)); have T1 := hidden (Q1.out.grownT hg4 (fun k hk => by have := Option.some.inj hk; omega)); have b4 := hidden (HBA.out.grown hg4 (by have := HBA.out.size; omega) (fun k hk => by have := Option.some.inj hk; omega)); clear c0 c1 c2 c3; obtain ⟨p0, p1, p2, p3⟩ := T0.out.four; obtain ⟨f0, f1, f2, f3, -⟩ := T0.out.cold; obtain ⟨q0, q1, q2, q3⟩ := T1.out.four; obtain ⟨g0, g1, g2, g3, -⟩ := T1.out.cold; clear ho4 hg4)
  have o0 := hO4.out
  have d0 := b4.out
  have e0 := T1.out
  have o1 := own_farT o0 (b := w.heap.size) (by omega) 2 (.slice ad4 x.coins.length c4)
  have d1 := d0.setCell (p := ⟨w.heap.size, 2, none⟩) (by show w.heap.size ≤ w.heap.size; omega) (.slice ad4 x.coins.length c4)
  have e1 := e0.far (b := w.heap.size) (by omega) 2 (.slice ad4 x.coins.length c4)
  have o2 := own_farT o1 (b := w.heap.size) (by omega) 3 (.int .i64 (x.told + 1))
  have d2 := d1.setCell (p := ⟨w.heap.size, 3, none⟩) (by show w.heap.size ≤ w.heap.size; omega) (.int .i64 (x.told + 1))
  have e2 := e1.far (b := w.heap.size) (by omega) 3 (.int .i64 (x.told + 1))
  have o3 := own_farT o2 (b := w.heap.size + 1) (by omega) 0 (.int .i64 x.arms)
  have d3 := d2.setCell (p := ⟨w.heap.size + 1, 0, none⟩) (by show w.heap.size ≤ w.heap.size + 1; omega) (.int .i64 x.arms)
  have o4 := own_farT o3 (b := w.heap.size + 1) (by omega) 1 (.int .i64 x.block)
  have d4 := d3.setCell (p := ⟨w.heap.size + 1, 1, none⟩) (by show w.heap.size ≤ w.heap.size + 1; omega) (.int .i64 x.block)
  have o5 := own_farT o4 (b := w.heap.size + 1) (by omega) 2 (.slice ad4 x.coins.length c4)
  have d5 := d4.setCell (p := ⟨w.heap.size + 1, 2, none⟩) (by show w.heap.size ≤ w.heap.size + 1; omega) (.slice ad4 x.coins.length c4)
  have o6 := own_farT o5 (b := w.heap.size + 1) (by omega) 3 (.int .i64 (x.told + 1))
  have d6 := d5.setCell (p := ⟨w.heap.size + 1, 3, none⟩) (by show w.heap.size ≤ w.heap.size + 1; omega) (.int .i64 (x.told + 1))
  have e6 := e2.fill4 (.int .i64 x.arms) (.int .i64 x.block) (.slice ad4 x.coins.length c4) (.int .i64 (x.told + 1))
  obtain ⟨y0, y1, y2, y3⟩ := e6.four
  exact bodyPost_ret (v := .tuple #[.agg #[.int .i64 x.arms, .int .i64 x.block, .slice ad4 x.coins.length c4, .int .i64 (x.told + 1)], .int .i64 A]) (by clear o0 o1 o2 o3 o4 o5 o6; simp [results, Try.results16, go_sem, y0, y1, y2, y3]) rfl ⟨ad4, c4, rfl, o6.base_le (by omega), d6⟩
end Go.Proofs.Ytoehnlbkgpjhmaa
