/-
  Calls: the program's.
-/
import Derived.Test.YtecljmpojninfaaT12
namespace Go.Proofs.Ytecljmpojninfaa
open Go.RowKit Go.Shelf Va Lb
set_option linter.all false
attribute [local go_sem] Oper.semAt_some

theorem fold_len {α : Type} (f : Rs × List Int → α → Rs × List Int) (hf : ∀ s x, (f s x).2.length ≤ s.2.length + 1) : ∀ (l : List α) (s : Rs × List Int), (l.foldl f s).2.length ≤ s.2.length + l.length := by
  intro l
  induction l with
  | nil => intro s; simp
  | cons x l ih =>
    intro s
    rw [List.foldl_cons, List.length_cons]
    have a := ih (f s x)
    have b := hf s x
    omega
theorem cc_lenOf (lo hi : Int) (l : List (Nat × Rs)) : (ccOf lo hi l).2.length ≤ l.length := by
  have := fold_len (ccStep lo hi) (cc_len lo hi) l (⟨0, 0, false⟩, [])
  simpa [ccOf] using this
theorem dd_lenOf (m wi : Int) (l : List (Nat × Rs)) : (ddOf m wi l).2.length ≤ l.length := by
  have := fold_len (ddStep m wi) (dd_len m wi) l (⟨0, 0, false⟩, [])
  simpa [ddOf] using this
theorem PB.mid {W W5 : World} {B base n : Nat} {vs : Array Value} {t e : TypeId} {v : Value} {xs : List Value} {o : Obj} (h : PB W B vs t) (q2 : W.ownsRow base e 1 v n xs) (hn : t ≠ e) (hg : (W.alloc o).grownBy W5 v.ownBlock) : PB W5 B vs t :=
  (h.alloc o).own (base := 0) (size := 0) (n := 0) (e := 0) (xs := []) (own_ne (h.alloc o) (ownW_below q2 ((Below.refl _ W).alloc (Nat.le_refl _) o)) hn) hg

set_option maxRecDepth 100000 in
set_option maxHeartbeats 8000000 in
theorem icalls_in (F : Fence) (n : Nat) (hF : ∀ f, F.fn f) (hro : F.round = none) (hn : 4 ≤ n) (ao : Option Addr) (cap : Nat) (S : List Rs) (lo hi : Int) (w : World) (h : VRw 3 cvRs w (.slice ao S.length cap) S) (hl2 : S.length ≤ 1048576)
    (hR : ∀ W, VRw 3 cvRs W (.slice ao S.length cap) S → CallsIn F (n - 1) Try.prog 53 #[.slice ao S.length cap] W fun e w' => e = .returned (.bool true) ∧ Below W.heap.size W w') :
    CallsIn F n Try.prog 26 #[.slice ao S.length cap, .int .i64 lo, .int .i64 hi] w fun e W' => ∃ v', e = .returned v' ∧ VOwn 1 cvI W' w.heap.size v' (ccOf lo hi (knTo S S.length)).2 ∧ Below w.heap.size w W' := by
  have HH := hidden h
  have h1 : 1 ≤ n := by omega
  obtain ⟨i0, hi0, hv0, hv1, hv2⟩ := info_partsW infoW64
  have bA : Below w.heap.size w ((((w.alloc (.cells #[.int .i64 lo] 2)).alloc (.cells #[.int .i64 hi] 2)).alloc (.cells #[] 2)).alloc (.cells #[.slice (some ⟨w.heap.size + 1 + 1, 0, none⟩) 0 0] 24)) := by repeat (first | exact Below.refl _ _ | assumption | refine st_drew ?_ | refine st_drewN ?_ _ | refine Below.setCell ?_ (by first | omega | (simp; done) | (simp; omega)) _ | refine Below.alloc ?_ (by first | omega | (simp; done) | (simp; omega)) _)
  have hRa := hR _ (h.below bA)
  have P4 : PB ((((w.alloc (.cells #[.int .i64 lo] 2)).alloc (.cells #[.int .i64 hi] 2)).alloc (.cells #[] 2)).alloc (.cells #[.slice (some ⟨w.heap.size + 1 + 1, 0, none⟩) 0 0] 24)) w.heap.size #[.int .i64 lo] 2 := (((PB.new w _ _).alloc _).alloc _).alloc _
  have P5 : PB ((((w.alloc (.cells #[.int .i64 lo] 2)).alloc (.cells #[.int .i64 hi] 2)).alloc (.cells #[] 2)).alloc (.cells #[.slice (some ⟨w.heap.size + 1 + 1, 0, none⟩) 0 0] 24)) (w.heap.size + 1) #[.int .i64 hi] 2 := by
    have := ((PB.new (w.alloc (.cells #[.int .i64 lo] 2)) #[.int .i64 hi] 2).alloc (.cells #[] 2)).alloc (.cells #[.slice (some ⟨w.heap.size + 1 + 1, 0, none⟩) 0 0] 24)
    rw [World.size_alloc] at this; exact this
  have P7 : PB ((((w.alloc (.cells #[.int .i64 lo] 2)).alloc (.cells #[.int .i64 hi] 2)).alloc (.cells #[] 2)).alloc (.cells #[.slice (some ⟨w.heap.size + 1 + 1, 0, none⟩) 0 0] 24)) (w.heap.size + 1 + 1 + 1) #[.slice (some ⟨w.heap.size + 1 + 1, 0, none⟩) 0 0] 24 := by
    have := PB.new (((w.alloc (.cells #[.int .i64 lo] 2)).alloc (.cells #[.int .i64 hi] 2)).alloc (.cells #[] 2)) #[.slice (some ⟨w.heap.size + 1 + 1, 0, none⟩) 0 0] 24
    rw [World.size_alloc, World.size_alloc, World.size_alloc] at this; exact this
  have PO : ((((w.alloc (.cells #[.int .i64 lo] 2)).alloc (.cells #[.int .i64 hi] 2)).alloc (.cells #[] 2)).alloc (.cells #[.slice (some ⟨w.heap.size + 1 + 1, 0, none⟩) 0 0] 24)).ownsRow (w.heap.size + 1 + 1) 2 1 (.slice (some ⟨w.heap.size + 1 + 1, 0, none⟩) 0 0) 0 [] := by
    have := ownW_new ((w.alloc (.cells #[.int .i64 lo] 2)).alloc (.cells #[.int .i64 hi] 2)) 2 1
    rw [World.size_alloc, World.size_alloc] at this
    exact ownW_below this ((Below.refl _ _).alloc (Nat.le_refl _) _)
  have HRa := hidden hRa
  have HP := hidden (And.intro P4 (And.intro P5 (And.intro P7 (And.intro PO bA))))
  clear h hR hRa P4 P5 P7 PO bA
  refine callsIn_of_wp_marks Try.func26 rfl (hF _) ?_ hro
  simp only [Try.ntmps26, List.size_toArray, List.length_cons, List.length_nil, Nat.reduceAdd, Nat.reduceSub, Array.replicate_succ, Array.replicate_zero, List.push_toArray, List.append_toArray, List.nil_append, List.cons_append]
  gi_wp2_with (first | (gi_at_call 53; refine HRa.out.mono ?_; rintro e w1 ⟨rfl, hb1⟩) | (gi_at_call 54; refine (known_in F (n - 1) hF hro _ _ _ _).mono ?_; rintro e w' ⟨rfl, rfl⟩))
  have hbz := hb1
  obtain ⟨P4, P5, P7, PO, bA⟩ := HP.out
  have b1 := onto bA hb1
  have C1 : CI w w.heap.size (w.heap.size + 1) (w.heap.size + 1 + 1 + 1) w1.heap.size (w1.heap.size + 1) lo hi (.slice ao S.length cap) (⟨0, 0, false⟩, []) ((w1.alloc (.cells #[.int .i64 0, .int .i64 0, .bool false] 46)).alloc (.cells #[.slice ao S.length cap] 41)) := by
    refine ⟨((P4.below hb1).alloc _).alloc _, ((P5.below hb1).alloc _).alloc _, ⟨_, _, ((P7.below hb1).alloc _).alloc _, ownW_below (ownW_below (ownW_below PO hb1) ((Below.refl _ _).alloc (Nat.le_refl _) _)) ((Below.refl _ _).alloc (Nat.le_refl _) _)⟩, (PB.new w1 _ _).alloc _, ?_, (b1.alloc b1.size _).alloc (by simp; have := b1.size; omega) _⟩
    have := PB.new (w1.alloc (.cells #[.int .i64 0, .int .i64 0, .bool false] 46)) #[.slice ao S.length cap] 41
    rw [World.size_alloc] at this; exact this
  have hz1 := b1.size
  clear P4 P5 P7 PO bA HP HRa hb1 hbz
  obtain ⟨WR, hWR⟩ : ∃ WR, WR = (w1.alloc (.cells #[.int .i64 0, .int .i64 0, .bool false] 46)).alloc (.cells #[.slice ao S.length cap] 41) := ⟨_, rfl⟩
  rw [← hWR] at C1 ⊢
  have hzR : w.heap.size + 1 + 1 + 1 < WR.heap.size := C1.row.elim fun _ h => h.elim fun _ h => h.1.lt
  have hz8 : w.heap.size ≤ w1.heap.size := hz1
  clear hWR b1
  refine wpIn_rangeFunc_ownH hro h1 (gf := 69) (lb := #[.pointer (some ⟨w1.heap.size + 1, 0, none⟩)]) rfl (hF _) (enters_of Try.func69 (by kernel_rfl) rfl)
    (known_stops F (n - 1) hF hro (by omega) (w1.heap.size + 1) cap ao S hl2 w WR C1.below C1.bs HH.out) KpK.t (KpK.b (by omega)) (Below.refl _ _) (fun _ => rfl)
    (fun pre W => CI w w.heap.size (w.heap.size + 1) (w.heap.size + 1 + 1 + 1) w1.heap.size (w1.heap.size + 1) lo hi (.slice ao S.length cap) (ccOf lo hi pre) W)
    (fun c q W => False)
    (CI.from (by omega) (ccOf lo hi))
    (fun c => fun s W W' row hs _ _ => hs.elim)
    C1
    (fun x a' W => ∃ Bx, PB W Bx #[.int .i64 x.2.v, .int .i64 x.2.t, .bool x.2.k] 46 ∧ a' = { tmps := #[.slice ao S.length cap, .int .i64 lo, .int .i64 hi, undef, .pointer (some ⟨w.heap.size, 0, none⟩), .pointer (some ⟨w.heap.size + 1, 0, none⟩), .slice none 0 0, .pointer (some ⟨w.heap.size + 1 + 1 + 1, 0, none⟩), .pointer (some ⟨w1.heap.size, 0, none⟩), .int .i64 x.1, .pointer (some ⟨Bx, 0, none⟩), undef, undef, .slice (some ⟨w.heap.size + 1 + 1, 0, none⟩) 0 0, .slice ao S.length cap, .bool true, .bool false, undef, .agg #[.int .i64 0, .int .i64 0, .bool false], .slice ao S.length cap, .func (.func 69) #[] #[.pointer (some ⟨w1.heap.size + 1, 0, none⟩)], .int .i64 x.1, .agg #[.int .i64 x.2.v, .int .i64 x.2.t, .bool x.2.k], undef, undef, undef, undef, undef, undef, undef, undef, undef, undef, undef, undef, undef, undef, undef, undef, undef, undef, undef, undef, undef, undef, undef, undef, undef, undef, undef, undef, undef, undef, undef], defers := [] })
    (fun x a' => fun _ W W' row hs hg hr => by obtain ⟨Bx, q1, q2⟩ := hs; exact ⟨Bx, q1.kept hg (fun r e => (hr r e).2), q2⟩)
    ?assign ?body ?done ?stop
  case assign =>
    rintro l pre x W K hI hK
    unfold encR aRs
    have HI := hidden hI
    have HK := hidden hK
    clear hI hK C1
    gi_wp2
    exact HK.out _ _ ((KeepsOthers.alloc _ _).from _) (KpK.grow ((Below.refl _ W).alloc (Nat.le_refl _) _) HI.out.below.size) (HI.out.alloc _) ⟨W.heap.size, PB.new _ _ _, rfl⟩
  case body =>
    rintro l pre x a' W hl ⟨r, hr⟩ hI ⟨Bx, hx, rfl⟩ hlen
    have HS : Hid (ccOf lo hi (pre ++ [x]) = ccStep lo hi (ccOf lo hi pre) x) := ccOf_snoc lo hi pre x
    have hLl : (ccOf lo hi pre).2.length ≤ 1048576 := Nat.le_trans (cc_lenOf lo hi pre) (by omega)
    obtain ⟨xi, xv, xt, xk⟩ := x
    generalize ccOf lo hi pre = s at hI HS hLl
    obtain ⟨⟨cv, ct, ck⟩, L⟩ := s
    dsimp only at hI HS hLl hx
    dsimp only
    obtain ⟨ad, cc, q1, q2⟩ := hI.row
    dsimp only at q1 q2
    have d4 : W.cell? ⟨w.heap.size, 0, none⟩ = some (.int .i64 lo) := hI.b4.cell 0
    have d5 : W.cell? ⟨w.heap.size + 1, 0, none⟩ = some (.int .i64 hi) := hI.b5.cell 0
    obtain ⟨e0, e1, e2⟩ := hI.b8.three
    obtain ⟨x0, x1, x2⟩ := hx.three
    have d7 : W.cell? ⟨w.heap.size + 1 + 1 + 1, 0, none⟩ = some (.slice ad L.length cc) := q1.cell 0
    dsimp only at e0 e1 e2
    have HI := hidden hI
    have HX := hidden hx
    have HQ := hidden (And.intro q1 q2)
    have hbW := hI.below.size
    have hb7 := q1.lt
    clear hr hl hI hx q1 q2 C1 HH
    have nop : ccOf lo hi (pre ++ [(xi, ⟨xv, xt, xk⟩)]) = (⟨cv, ct, ck⟩, L) → (KeepsFrom WR.heap.size W W ∧ KpK w.heap.size (w1.heap.size + 1) W W ∧ CI w w.heap.size (w.heap.size + 1) (w.heap.size + 1 + 1 + 1) w1.heap.size (w1.heap.size + 1) lo hi (.slice ao S.length cap) (ccOf lo hi (pre ++ [(xi, ⟨xv, xt, xk⟩)])) W) := fun e => ⟨KeepsFrom.refl _ _, ⟨Below.refl _ _, fun _ _ q => q⟩, by rw [e]; exact HI.out⟩
    have NOP := hidden nop
    clear nop
    by_cases qf : ((decide (xv < lo) || decide (hi < xv)) && !(ck && decide (wrap64 (xt - ct) < 60))) = true
    · have HE : Hid (ccOf lo hi (pre ++ [(xi, ⟨xv, xt, xk⟩)]) = (⟨xv, xt, xk⟩, L ++ [(xi : Int)])) := by rw [Hid, HS.out]; unfold ccStep; rw [if_pos qf]
      simp only [Bool.and_eq_true, Bool.or_eq_true, decide_eq_true_eq, Bool.not_eq_true', Bool.and_eq_false_iff, decide_eq_false_iff_not] at qf
      obtain ⟨qv, qt⟩ := qf
      clear NOP HS
      have KIT := hidden (fun (W5 : World) (ad5 : Option Addr) (c5 : Nat) (ho5 : W5.ownsRow (w.heap.size + 1 + 1) 2 1 (.slice ad5 (L.length + 1) c5) (L.length + 1) ((L.map fun z => Value.int .i64 z) ++ [.int .i64 (xi : Int)])) (hg5 : (W.alloc (.cells #[.int .i64 (xi : Int)] 2)).grownBy W5 (Value.slice ad L.length cc).ownBlock) => HI.out.push (by omega) (by omega) (by omega) HQ.out.1 HQ.out.2 ho5 hg5)
      have HO1 := hidden (ownW_below HQ.out.2 ((Below.refl _ W).alloc (Nat.le_refl _) (.cells #[.int .i64 (xi : Int)] 2)))
      cases ck
      · by_cases qa : xv < lo
        · gi_wp2_with (gi_at_builtin; refine wpListIn_append_own _ rfl (.tmp 48) (.tmp 50) 24 rfl (w.heap.size + 1 + 1) 2 i0 (.int .i64 0) 1 8 Try.underlying24 hi0 hv0 hv1 hv2 rfl (by decide) (.slice ad L.length cc) L.length (L.map fun z => Value.int .i64 z) rfl HO1.out ⟨W.heap.size, 0, none⟩ 1 1 [.int .i64 (xi : Int)] rfl rfl (cell_oneW _ _ _) (by simp [Value.oneCell']) (by unfold maxLen; omega) (by omega) (by simp; omega) ?_; intro v5 w5 ho5 hg5 hn5; obtain ⟨ad5, c5, rfl⟩ := ownW_slice ho5; have hp7 := PB.mid HQ.out.1 HQ.out.2 (by decide) hg5; have hpx := PB.mid HX.out HQ.out.2 (by decide) hg5; have n7x := pb_ne hp7 hpx (by decide); have k7 : w5.cell? ⟨w.heap.size + 1 + 1 + 1, 0, none⟩ = some (.slice ad L.length cc) := hp7.cell 0; have f7 := hp7.frozen 0; have KT := hidden (KIT.out w5 ad5 c5 ho5 hg5); have hpx6 := hpx.far n7x 0 (.slice ad5 (L.length + 1) c5); obtain ⟨y0, y1, y2⟩ := hpx6.three; obtain ⟨z0, z1, z2⟩ := KT.out.1.b8.three; obtain ⟨u0, u1, u2, -⟩ := KT.out.1.b8.cold; dsimp only at z0 z1 z2; clear hpx6 hpx hp7 n7x ho5)
          obtain ⟨kt1, kt2, kt3⟩ := KT.out
          have nk := kt1.note_keeps ⟨xv, xt, xk⟩ (by omega)
          exact ⟨((kt3.trans nk.2).from _), kt2.t nk.1, by dsimp only; rw [HE.out]; exact kt1.note (by omega) ⟨xv, xt, xk⟩ (by omega)⟩
        · have qb : hi < xv := by omega
          gi_wp2_with (gi_at_builtin; refine wpListIn_append_own _ rfl (.tmp 48) (.tmp 50) 24 rfl (w.heap.size + 1 + 1) 2 i0 (.int .i64 0) 1 8 Try.underlying24 hi0 hv0 hv1 hv2 rfl (by decide) (.slice ad L.length cc) L.length (L.map fun z => Value.int .i64 z) rfl HO1.out ⟨W.heap.size, 0, none⟩ 1 1 [.int .i64 (xi : Int)] rfl rfl (cell_oneW _ _ _) (by simp [Value.oneCell']) (by unfold maxLen; omega) (by omega) (by simp; omega) ?_; intro v5 w5 ho5 hg5 hn5; obtain ⟨ad5, c5, rfl⟩ := ownW_slice ho5; have hp7 := PB.mid HQ.out.1 HQ.out.2 (by decide) hg5; have hpx := PB.mid HX.out HQ.out.2 (by decide) hg5; have n7x := pb_ne hp7 hpx (by decide); have k7 : w5.cell? ⟨w.heap.size + 1 + 1 + 1, 0, none⟩ = some (.slice ad L.length cc) := hp7.cell 0; have f7 := hp7.frozen 0; have KT := hidden (KIT.out w5 ad5 c5 ho5 hg5); have hpx6 := hpx.far n7x 0 (.slice ad5 (L.length + 1) c5); obtain ⟨y0, y1, y2⟩ := hpx6.three; obtain ⟨z0, z1, z2⟩ := KT.out.1.b8.three; obtain ⟨u0, u1, u2, -⟩ := KT.out.1.b8.cold; dsimp only at z0 z1 z2; clear hpx6 hpx hp7 n7x ho5)
          obtain ⟨kt1, kt2, kt3⟩ := KT.out
          have nk := kt1.note_keeps ⟨xv, xt, xk⟩ (by omega)
          exact ⟨((kt3.trans nk.2).from _), kt2.t nk.1, by dsimp only; rw [HE.out]; exact kt1.note (by omega) ⟨xv, xt, xk⟩ (by omega)⟩
      · have qw : ¬ wrap64 (xt - ct) < 60 := qt.resolve_left (fun z => by cases z)
        by_cases qa : xv < lo
        · gi_wp2_with (gi_at_builtin; refine wpListIn_append_own _ rfl (.tmp 48) (.tmp 50) 24 rfl (w.heap.size + 1 + 1) 2 i0 (.int .i64 0) 1 8 Try.underlying24 hi0 hv0 hv1 hv2 rfl (by decide) (.slice ad L.length cc) L.length (L.map fun z => Value.int .i64 z) rfl HO1.out ⟨W.heap.size, 0, none⟩ 1 1 [.int .i64 (xi : Int)] rfl rfl (cell_oneW _ _ _) (by simp [Value.oneCell']) (by unfold maxLen; omega) (by omega) (by simp; omega) ?_; intro v5 w5 ho5 hg5 hn5; obtain ⟨ad5, c5, rfl⟩ := ownW_slice ho5; have hp7 := PB.mid HQ.out.1 HQ.out.2 (by decide) hg5; have hpx := PB.mid HX.out HQ.out.2 (by decide) hg5; have n7x := pb_ne hp7 hpx (by decide); have k7 : w5.cell? ⟨w.heap.size + 1 + 1 + 1, 0, none⟩ = some (.slice ad L.length cc) := hp7.cell 0; have f7 := hp7.frozen 0; have KT := hidden (KIT.out w5 ad5 c5 ho5 hg5); have hpx6 := hpx.far n7x 0 (.slice ad5 (L.length + 1) c5); obtain ⟨y0, y1, y2⟩ := hpx6.three; obtain ⟨z0, z1, z2⟩ := KT.out.1.b8.three; obtain ⟨u0, u1, u2, -⟩ := KT.out.1.b8.cold; dsimp only at z0 z1 z2; clear hpx6 hpx hp7 n7x ho5)
          obtain ⟨kt1, kt2, kt3⟩ := KT.out
          have nk := kt1.note_keeps ⟨xv, xt, xk⟩ (by omega)
          exact ⟨((kt3.trans nk.2).from _), kt2.t nk.1, by dsimp only; rw [HE.out]; exact kt1.note (by omega) ⟨xv, xt, xk⟩ (by omega)⟩
        · have qb : hi < xv := by omega
          gi_wp2_with (gi_at_builtin; refine wpListIn_append_own _ rfl (.tmp 48) (.tmp 50) 24 rfl (w.heap.size + 1 + 1) 2 i0 (.int .i64 0) 1 8 Try.underlying24 hi0 hv0 hv1 hv2 rfl (by decide) (.slice ad L.length cc) L.length (L.map fun z => Value.int .i64 z) rfl HO1.out ⟨W.heap.size, 0, none⟩ 1 1 [.int .i64 (xi : Int)] rfl rfl (cell_oneW _ _ _) (by simp [Value.oneCell']) (by unfold maxLen; omega) (by omega) (by simp; omega) ?_; intro v5 w5 ho5 hg5 hn5; obtain ⟨ad5, c5, rfl⟩ := ownW_slice ho5; have hp7 := PB.mid HQ.out.1 HQ.out.2 (by decide) hg5; have hpx := PB.mid HX.out HQ.out.2 (by decide) hg5; have n7x := pb_ne hp7 hpx (by decide); have k7 : w5.cell? ⟨w.heap.size + 1 + 1 + 1, 0, none⟩ = some (.slice ad L.length cc) := hp7.cell 0; have f7 := hp7.frozen 0; have KT := hidden (KIT.out w5 ad5 c5 ho5 hg5); have hpx6 := hpx.far n7x 0 (.slice ad5 (L.length + 1) c5); obtain ⟨y0, y1, y2⟩ := hpx6.three; obtain ⟨z0, z1, z2⟩ := KT.out.1.b8.three; obtain ⟨u0, u1, u2, -⟩ := KT.out.1.b8.cold; dsimp only at z0 z1 z2; clear hpx6 hpx hp7 n7x ho5)
          obtain ⟨kt1, kt2, kt3⟩ := KT.out
          have nk := kt1.note_keeps ⟨xv, xt, xk⟩ (by omega)
          exact ⟨((kt3.trans nk.2).from _), kt2.t nk.1, by dsimp only; rw [HE.out]; exact kt1.note (by omega) ⟨xv, xt, xk⟩ (by omega)⟩
    · have HE : Hid (ccOf lo hi (pre ++ [(xi, ⟨xv, xt, xk⟩)]) = (⟨cv, ct, ck⟩, L)) := by rw [Hid, HS.out]; unfold ccStep; rw [if_neg qf]
      have N := hidden (NOP.out HE.out)
      clear NOP HS HE
      by_cases qa : xv < lo
      · have hq : ck = true ∧ wrap64 (xt - ct) < 60 := by
          simp only [Bool.and_eq_true, Bool.or_eq_true, decide_eq_true_eq, Bool.not_eq_true', Bool.and_eq_false_iff, decide_eq_false_iff_not] at qf
          cases ck with
          | false => exact absurd ⟨.inl qa, .inl rfl⟩ qf
          | true => exact ⟨rfl, Decidable.of_not_not (fun z => qf ⟨.inl qa, .inr z⟩)⟩
        obtain ⟨rfl, qw⟩ := hq
        clear qf
        gi_wp2
        exact N.out
      by_cases qb : hi < xv
      · have hq : ck = true ∧ wrap64 (xt - ct) < 60 := by
          simp only [Bool.and_eq_true, Bool.or_eq_true, decide_eq_true_eq, Bool.not_eq_true', Bool.and_eq_false_iff, decide_eq_false_iff_not] at qf
          cases ck with
          | false => exact absurd ⟨.inr qb, .inl rfl⟩ qf
          | true => exact ⟨rfl, Decidable.of_not_not (fun z => qf ⟨.inr qb, .inr z⟩)⟩
        obtain ⟨rfl, qw⟩ := hq
        clear qf
        gi_wp2
        exact N.out
      clear qf
      cases ck
      · gi_wp2
        exact N.out
      · by_cases qw : wrap64 (xt - ct) < 60
        · gi_wp2
          exact N.out
        · gi_wp2
          exact N.out
  case done =>
    rintro D ys W hD rfl hI hK
    obtain ⟨ad, cc, q1, q2⟩ := hI.row
    have d7 : W.cell? ⟨w.heap.size + 1 + 1 + 1, 0, none⟩ = some (.slice ad (ccOf lo hi (knTo S S.length)).2.length cc) := q1.cell 0
    have hI2 := hI.kept (grownBy_putObj' W D (.deferred none)) (fun r e => by cases e; exact ⟨by omega, _, hK, rfl⟩)
    have q3 := ownsRow_keptT q2 (grownBy_putObj' W D (.deferred none)) (fun r e => by cases e; exact ⟨_, hK, rfl⟩)
    have HI2 := hidden (And.intro hI2 (And.intro q3 hK))
    clear hI hI2 q1 q2 q3 C1 HH
    gi_wp2
    refine ⟨by simp, .inl ⟨_, _, rfl, run_takeDeferred HI2.out.2.2, ?_⟩⟩
    exact ⟨.slice ad (ccOf lo hi (knTo S S.length)).2.length cc, by simp [results, Try.results26, go_sem], _, rfl, vownI (ownW_base HI2.out.2.1 (Nat.le_succ_of_le (Nat.le_succ _))), HI2.out.1.below⟩
  case stop =>
    rintro D c q W hD _ hFalse hK
    exact hFalse.elim

theorem icalls_any (ao : Option Addr) (n cap : Nat) (l : List Rs) (lo hi : Int) (w : World) (h : VRw 3 cvRs w (.slice ao n cap) l) (hn : l.length ≤ 1048576) :
    Calls Try.prog 26 #[.slice ao n cap, .int .i64 lo, .int .i64 hi] w fun e w' => ∃ v', e = .returned v' ∧ VOwn 1 cvI w' w.heap.size v' (calls l lo hi) ∧ Below w.heap.size w w' := by
  obtain rfl := h.len
  by_cases g0 : ResOk l
  · have hV : calls l lo hi = (ccOf lo hi (knTo l l.length)).2 := by rw [cc_calls g0]; unfold calls; rw [if_pos g0]
    rw [hV]
    exact (callsIn_wide (n := 4)).1 (icalls_in Fence.wide 4 (fun _ => trivial) rfl (by omega) ao cap l lo hi w h hn (fun W hW => callsIn_wide.2 (by have := ires_any ao l.length cap l W hW hn; rw [decide_eq_true g0] at this; exact this)))
  · have HN : Hid (calls l lo hi = []) := by unfold calls; rw [if_neg g0]; rfl
    have bA : Below w.heap.size w ((((w.alloc (.cells #[.int .i64 lo] 2)).alloc (.cells #[.int .i64 hi] 2)).alloc (.cells #[] 2)).alloc (.cells #[.slice (some ⟨w.heap.size + 1 + 1, 0, none⟩) 0 0] 24)) := by repeat (first | exact Below.refl _ _ | assumption | refine st_drew ?_ | refine st_drewN ?_ _ | refine Below.setCell ?_ (by first | omega | (simp; done) | (simp; omega)) _ | refine Below.alloc ?_ (by first | omega | (simp; done) | (simp; omega)) _)
    have hK := ires_any ao l.length cap l _ (h.below bA) hn
    rw [decide_eq_false g0] at hK
    have P7 : PB ((((w.alloc (.cells #[.int .i64 lo] 2)).alloc (.cells #[.int .i64 hi] 2)).alloc (.cells #[] 2)).alloc (.cells #[.slice (some ⟨w.heap.size + 1 + 1, 0, none⟩) 0 0] 24)) (w.heap.size + 1 + 1 + 1) #[.slice (some ⟨w.heap.size + 1 + 1, 0, none⟩) 0 0] 24 := by
      have := PB.new (((w.alloc (.cells #[.int .i64 lo] 2)).alloc (.cells #[.int .i64 hi] 2)).alloc (.cells #[] 2)) #[.slice (some ⟨w.heap.size + 1 + 1, 0, none⟩) 0 0] 24
      rw [World.size_alloc, World.size_alloc, World.size_alloc] at this; exact this
    have HP := hidden (And.intro P7 bA)
    have HKK := hidden hK
    clear h g0 hK P7 bA
    go_enter Try.func26, Try.ntmps26
    go_wp2_with (go_at_call 53; refine HKK.out.mono ?_; rintro e w1 ⟨rfl, hb1⟩; have c7 := (HP.out.1.below hb1).cell 0)
    go_ret
    rw [HN.out]
    exact ⟨_, rfl, VOwn.nil _ _ _ _, onto HP.out.2 hb1⟩
end Go.Proofs.Ytecljmpojninfaa
