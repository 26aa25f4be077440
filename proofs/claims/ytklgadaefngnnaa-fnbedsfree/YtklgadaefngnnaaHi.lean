/-
  The program's look at the rules of a house.
-/
import Derived.Test.YtklgadaefngnnaaHg
namespace Go.Proofs.Ytklgadaefngnnaa
open Go.RowKit Hm
set_option linter.unusedVariables false

theorem infoSt : (Try.prog.info? 36).map (fun i => (i.zero, i.size, i.bytes)) = some (some (.agg #[.int .i64 0, .int .i64 0, .int .i64 0, .int .i64 0, .int .i64 0, .int .i64 0]), 6, 48) := by kernel_rfl
theorem own_below {w w' : World} {base e s n : Nat} {v : Value} {xs : List Value} (h : w.ownsRow base e s v n xs) (hb : Below w.heap.size w w') : w'.ownsRow base e s v n xs := by
  obtain ⟨q, ⟨q1, q2⟩ | ⟨g, c, cur, rfl, hg, hh, r⟩⟩ := h
  · exact ⟨q, Or.inl ⟨q1, q2⟩⟩
  · exact ⟨q, Or.inr ⟨g, c, cur, rfl, hg, (hb.block g (Array.getElem?_eq_some_iff.1 hh).1).trans hh, r⟩⟩
theorem own_lt {w : World} {b e s n : Nat} {v : Value} {xs : List Value} (h : w.ownsRow b e s v n xs) : ∀ k, v.ownBlock = some k → b ≤ k := by
  obtain ⟨_, ⟨rfl, _⟩ | ⟨g, cap, cur, rfl, hb, _⟩⟩ := h
  · intro k hk; cases hk
  · intro k hk; cases hk; exact hb
theorem own_slice {w : World} {b e s n : Nat} {v : Value} {xs : List Value} (h : w.ownsRow b e s v n xs) : ∃ ad c, v = .slice ad n c := by
  obtain ⟨_, ⟨rfl, rfl⟩ | ⟨g, cap, cur, rfl, _⟩⟩ := h
  · exact ⟨_, _, rfl⟩
  · exact ⟨_, _, rfl⟩
theorem cell_six_new (w : World) (a b c d e f : Value) (t : TypeId) : ∀ (j : Nat) (u : Value), [a, b, c, d, e, f][j]? = some u → (w.alloc (.cells #[a, b, c, d, e, f] t)).cell? ((⟨w.heap.size, 0, none⟩ : Addr).add j) = some u := fun j u hu => by
  have e0 := heap_alloc_new w (Obj.cells #[a, b, c, d, e, f] t)
  have e1 : (w.alloc (.cells #[a, b, c, d, e, f] t)).cell? ((⟨w.heap.size, 0, none⟩ : Addr).add j) = [a, b, c, d, e, f][j]? := by
    rw [Addr.add_lit, Nat.zero_add]
    simp only [World.cell?, e0]
    simp
  rw [e1, hu]
theorem six_one (a b c d e f : Int) : ∀ u ∈ [Value.int .i64 a, .int .i64 b, .int .i64 c, .int .i64 d, .int .i64 e, .int .i64 f], u.oneCell' = true := by
  intro u hu
  simp only [List.mem_cons, List.not_mem_nil, or_false] at hu
  rcases hu with rfl | rfl | rfl | rfl | rfl | rfl <;> rfl
theorem cells_stay (l : List St) (x : St) : cellsL 6 csS (l ++ [x]) = cellsL 6 csS l ++ [.int .i64 x.person, .int .i64 x.sex, .int .i64 x.need, .int .i64 x.bed, .int .i64 x.frm, .int .i64 x.til] := by
  rw [cellsL_app]; rfl
theorem heres_any {B : List Bd} {S : List St} {i : Nat} {x : St} : ((heres (S.take i)).any (fun y => clash B y x)) = true ↔ ∃ k y, k < i ∧ S[k]? = some y ∧ here y = true ∧ clash B y x = true := by
  rw [List.any_eq_true]
  constructor
  · rintro ⟨y, hy, hc⟩
    obtain ⟨k, h1, h2, h3⟩ := mem_heres.1 hy
    exact ⟨k, y, h1, h2, h3, hc⟩
  · rintro ⟨k, y, h1, h2, h3, h4⟩
    exact ⟨y, mem_heres.2 ⟨k, h1, h2, h3⟩, h4⟩

set_option maxRecDepth 20000 in
set_option maxHeartbeats 4000000 in
theorem irules_any (ao ao2 : Option Addr) (n cap m cap2 : Nat) (B : List Bd) (S : List St) (w : World) (h : HRw w (.slice ao n cap) (.slice ao2 m cap2) B S) (hn : B.length ≤ 200) (hm : S.length ≤ 1000) (hok : staysTo B.length S S.length) :
    Calls Try.prog 48 #[.agg #[.slice ao n cap, .slice ao2 m cap2]] w fun e w' => e = .returned (.bool (pB (rulesTo B S S.length))) ∧ Below w.heap.size w w' := by
  obtain ⟨hB, hS⟩ := h
  obtain rfl := hB.len
  obtain rfl := hS.len
  have HB := hidden hB
  have HS := hidden hS
  have HO := hidden hok
  clear hB hS hok
  obtain ⟨i0, hi, hz0, hz1, hz2⟩ := info_parts infoSt
  go_enter Try.func48, Try.ntmps48
  go_wp2_with (refine wpList_make_own _ rfl (.const (.int .i64 0)) (.tmp 8) 25 rfl (w.heap.size + 1) 36 i0 (.agg #[.int .i64 0, .int .i64 0, .int .i64 0, .int .i64 0, .int .i64 0, .int .i64 0]) 6 Try.underlying25 hi hz0 hz1 .i64 .i64 _ B.length rfl rfl rfl (by rw [hz2]; omega) (by unfold maxLen; omega) (by simp) ?_; intro w1 ho1 hg1; have b1 : Below (w.heap.size + 1) (w.alloc (.cells #[.slice ao B.length cap, .slice ao2 S.length cap2] 27)) w1 := (Below.refl _ _).grown hg1 (by simp) (by simp); have d0 : w1.cell? ⟨w.heap.size, 0, none⟩ = some (.slice ao B.length cap) := (b1.cell (p := ⟨w.heap.size, 0, none⟩) (Nat.lt_succ_self _)).trans (by simp); have d1 : w1.cell? ⟨w.heap.size, 1, none⟩ = some (.slice ao2 S.length cap2) := (b1.cell (p := ⟨w.heap.size, 1, none⟩) (Nat.lt_succ_self _)).trans (by simp))
  simp only [World.size_alloc] at ho1
  clear hg1
  go_loopw [3, 13] (fun tv iv wr => ∃ (i : Nat) (fl : List St), i ≤ S.length ∧ iv = .int .i64 i ∧ fl.length ≤ i ∧ (∃ ad c0, tv = .slice ad fl.length c0 ∧ wr.ownsRow (w.heap.size + 1) 36 6 (.slice ad fl.length c0) fl.length (cellsL 6 csS fl)) ∧ Below (w.heap.size + 1) (w.alloc (.cells #[.slice ao B.length cap, .slice ao2 S.length cap2] 27)) wr ∧ Hid (fl = heres (S.take i)) ∧ Hid (rulesTo B S i)) (fun _ iv _ => S.length - (intOf iv).toNat)
  case atStart => exact ⟨0, [], Nat.zero_le _, rfl, Nat.le_refl _, ⟨_, _, rfl, ho1⟩, b1, rfl, rulesTo_zero _ _⟩
  case round =>
    clear b1 d0 d1 ho1
    obtain ⟨i, fl, hil, rfl, hfl, ⟨ad, c0, rfl, ho⟩, hb, HF, HR⟩ := hrel
    have hsz := hb.size
    simp only [World.size_alloc] at hsz
    have d0 : wr.cell? ⟨w.heap.size, 0, none⟩ = some (.slice ao B.length cap) := (hb.cell (p := ⟨w.heap.size, 0, none⟩) (Nat.lt_succ_self _)).trans (by simp)
    have d1 : wr.cell? ⟨w.heap.size, 1, none⟩ = some (.slice ao2 S.length cap2) := (hb.cell (p := ⟨w.heap.size, 1, none⟩) (Nat.lt_succ_self _)).trans (by simp)
    have bw : Below w.heap.size w wr := ((Below.refl w.heap.size w).alloc (Nat.le_refl _) _).trans (hb.mono (Nat.le_succ _))
    by_cases hlt : i < S.length
    · have hlti : (i : Int) < (S.length : Int) := by omega
      obtain ⟨x, hx⟩ := some_at S i hlt
      obtain ⟨g, off, rfl, hg, c0', c1, c2, c3, c4, c5⟩ := stay_cells (HS.out.below bw) hx
      have HX := hidden hx
      have HT := hidden (take_snoc hx)
      have hfit := fit_of (HO.out i x hlt hx).1
      clear hx
      by_cases hto : x.til = -1
      · obtain ⟨k, b, hk, hbk⟩ := bed_nat hfit.1
        obtain ⟨g2, off2, rfl, hg2, e0, e1⟩ := bed_cells (HB.out.below bw) hbk
        have hklt : (k : Int) < (B.length : Int) := by have := get_lt hbk; omega
        have hD := idoes_any b.kind x.need
        have HK : Hid (kindAt B x.bed = b.kind) := by rw [Hid, hk]; exact kindAt_nat hbk
        have HBW := hidden (fun W (hW : Below w.heap.size w W) => HB.out.below hW)
        have HOW := hidden (fun W (hW : Below wr.heap.size wr W) => (own_of rfl (own_below ho hW)).row)
        have HFA : Hid (∀ y ∈ fl, fitS B.length y) := fun y hy => by
          rw [HF.out] at hy
          obtain ⟨k', h1, h2, h3⟩ := mem_heres.1 hy
          exact fit_of (HO.out k' y (by omega) h2).1
        have hC := hidden (fun W hW hT => clashes_any (some ⟨g2, off2, none⟩) (some ⟨g, off, none⟩) ad B.length cap S.length cap2 fl.length c0 B x fl W hW hT (by omega) hfit HFA.out)
        have HH : Hid (here x = true) := by unfold here Hid; simpa using hto
        have s0 : w.heap.size < wr.heap.size := by omega
        have s2 : w.heap.size < wr.heap.size + 1 := by omega
        have s3 : g2 < wr.heap.size + 1 := by omega
        unfold aS at hC
        rw [hk, hto] at hC
        rw [hk] at c3
        rw [hto] at c5
        have HTO := hidden hto
        clear hbk hfit HFA hto
        cases hd : does b.kind x.need with
        | false =>
          have hno : Hid (pB (rulesTo B S S.length) = false) := pB_false fun q => by have := (q i x hlt HX.out HH.out).1; rw [HK.out, hd] at this; cases this
          rw [hd] at hD
          have hQ := fun W => (hD W).mono (R' := fun e w' => e = .returned (.bool false) ∧ w' = W) (fun _ _ hh => ⟨hh.1, hh.2.symm⟩)
          go_wp2_with fail
          go_quiet ((go_at_call 86; exact Calls.quiet_of_same (hQ _)))
          all_goals go_wp2_with fail
          all_goals go_ret
          all_goals exact ⟨by rw [hno.out]; rfl, by repeat (first | exact Below.refl _ _ | assumption | refine st_drew ?_ | refine st_drewN ?_ _ | refine Below.setCell ?_ (by first | omega | (simp; done) | (simp; omega)) _ | refine Below.alloc ?_ (by first | omega | (simp; done) | (simp; omega)) _)⟩
        | true =>
          rw [hd] at hD
          cases hq : fl.any (fun y => clash B y x) with
          | true =>
            have hno : Hid (pB (rulesTo B S S.length) = false) := pB_false fun q => by
              rw [HF.out] at hq
              obtain ⟨k', y, h1, h2, h3, h4⟩ := heres_any.1 hq
              have := (q i x hlt HX.out HH.out).2 k' y h1 h2 h3
              rw [h4] at this; cases this
            rw [hq] at hC
            clear hq
            go_wp2_with fail
            first
            | go_region_held3 (fun w' => w'.cell? ⟨w.heap.size, 0, none⟩ = some (.slice (some ⟨g2, off2, none⟩) B.length cap) ∧ w'.cell? ⟨w.heap.size, 1, none⟩ = some (.slice (some ⟨g, off, none⟩) S.length cap2) ∧ w'.cell? ⟨wr.heap.size, 0, none⟩ = some (.int .i64 x.person) ∧ w'.cell? ⟨wr.heap.size, 1, none⟩ = some (.int .i64 x.sex) ∧ w'.cell? ⟨wr.heap.size, 2, none⟩ = some (.int .i64 x.need) ∧ w'.cell? ⟨wr.heap.size, 3, none⟩ = some (.int .i64 k) ∧ w'.cell? ⟨wr.heap.size, 4, none⟩ = some (.int .i64 x.frm) ∧ w'.cell? ⟨wr.heap.size, 5, none⟩ = some (.int .i64 (-1)) ∧ w'.cell? ⟨g2, off2 + k * 2 + 1, none⟩ = some (.int .i64 b.kind)) (go_keep) ((first | (go_at_call 86; refine (hD _).mono ?_; rintro e w3 ⟨rfl, rfl⟩) | (go_at_call 87; refine (hC.out _ (HBW.out _ (by repeat (first | exact Below.refl _ _ | assumption | refine st_drew ?_ | refine st_drewN ?_ _ | refine Below.setCell ?_ (by first | omega | (simp; done) | (simp; omega)) _ | refine Below.alloc ?_ (by first | omega | (simp; done) | (simp; omega)) _))) (HOW.out _ (by repeat (first | exact Below.refl _ _ | refine st_drew ?_ | refine st_drewN ?_ _ | refine Below.setCell ?_ (by first | omega | (simp; done) | (simp; omega)) _ | refine Below.alloc ?_ (by first | omega | (simp; done) | (simp; omega)) _)))).mono ?_; rintro e w3 ⟨rfl, hb3⟩; obtain ⟨hc3, hf3⟩ := bcell hb3; have bA := onto (show Below w.heap.size w _ from by repeat (first | exact Below.refl _ _ | assumption | refine st_drew ?_ | refine st_drewN ?_ _ | refine Below.setCell ?_ (by first | omega | (simp; done) | (simp; omega)) _ | refine Below.alloc ?_ (by first | omega | (simp; done) | (simp; omega)) _)) hb3)))
            | fail
            all_goals go_wp2_with fail
            all_goals go_ret
            all_goals exact ⟨by rw [hno.out]; rfl, bA⟩
          | false =>
            have HR2 : Hid (rulesTo B S (i + 1)) := rulesTo_succ HR.out HX.out (by rw [HK.out]; exact hd) fun k' y h1 h2 h3 => by
              cases he : clash B y x with
              | false => rfl
              | true => rw [HF.out, heres_any.2 ⟨k', y, h1, h2, h3, he⟩] at hq; cases hq
            have HF2 : Hid (fl ++ [x] = heres (S.take (i + 1))) := by rw [Hid, HT.out, heres_snoc, if_pos HH.out, HF.out]
            rw [hq] at hC
            clear hq HR HF
            go_wp2_with fail
            first
            | go_region_held3 (fun w' => w'.cell? ⟨w.heap.size, 0, none⟩ = some (.slice (some ⟨g2, off2, none⟩) B.length cap) ∧ w'.cell? ⟨w.heap.size, 1, none⟩ = some (.slice (some ⟨g, off, none⟩) S.length cap2) ∧ w'.cell? ⟨wr.heap.size, 0, none⟩ = some (.int .i64 x.person) ∧ w'.cell? ⟨wr.heap.size, 1, none⟩ = some (.int .i64 x.sex) ∧ w'.cell? ⟨wr.heap.size, 2, none⟩ = some (.int .i64 x.need) ∧ w'.cell? ⟨wr.heap.size, 3, none⟩ = some (.int .i64 k) ∧ w'.cell? ⟨wr.heap.size, 4, none⟩ = some (.int .i64 x.frm) ∧ w'.cell? ⟨wr.heap.size, 5, none⟩ = some (.int .i64 (-1)) ∧ w'.cell? ⟨g2, off2 + k * 2 + 1, none⟩ = some (.int .i64 b.kind)) (go_keep) ((first | (go_at_call 86; refine (hD _).mono ?_; rintro e w3 ⟨rfl, rfl⟩) | (go_at_call 87; refine (hC.out _ (HBW.out _ (by repeat (first | exact Below.refl _ _ | assumption | refine st_drew ?_ | refine st_drewN ?_ _ | refine Below.setCell ?_ (by first | omega | (simp; done) | (simp; omega)) _ | refine Below.alloc ?_ (by first | omega | (simp; done) | (simp; omega)) _))) (HOW.out _ (by repeat (first | exact Below.refl _ _ | refine st_drew ?_ | refine st_drewN ?_ _ | refine Below.setCell ?_ (by first | omega | (simp; done) | (simp; omega)) _ | refine Below.alloc ?_ (by first | omega | (simp; done) | (simp; omega)) _)))).mono ?_; rintro e w3 ⟨rfl, hb3⟩; obtain ⟨hc3, hf3⟩ := bcell hb3; have bA := onto (show Below w.heap.size w _ from by repeat (first | exact Below.refl _ _ | assumption | refine st_drew ?_ | refine st_drewN ?_ _ | refine Below.setCell ?_ (by first | omega | (simp; done) | (simp; omega)) _ | refine Below.alloc ?_ (by first | omega | (simp; done) | (simp; omega)) _)) hb3)))
            | fail
            all_goals have z3 := hb3.size
            all_goals simp only [World.size_alloc, World.size_drew] at z3
            all_goals have ho3 := own_below ho ((show Below wr.heap.size wr _ from by repeat (first | exact Below.refl _ _ | refine st_drew ?_ | refine st_drewN ?_ _ | refine Below.setCell ?_ (by first | omega | (simp; done) | (simp; omega)) _ | refine Below.alloc ?_ (by first | omega | (simp; done) | (simp; omega)) _)).trans (hb3.mono (by simp)))
            all_goals have b3 : Below (w.heap.size + 1) (w.alloc (.cells #[.slice (some ⟨g2, off2, none⟩) B.length cap, .slice (some ⟨g, off, none⟩) S.length cap2] 27)) w3 := (show Below (w.heap.size + 1) _ _ from by repeat (first | exact Below.refl _ _ | assumption | refine st_drew ?_ | refine st_drewN ?_ _ | refine Below.setCell ?_ (by first | omega | (simp; done) | (simp; omega)) _ | refine Below.alloc ?_ (by first | omega | (simp; done) | (simp; omega)) _)).trans (hb3.mono (by simp; omega))
            all_goals go_wp2_with (at_builtin; refine wpList_append_own _ rfl (.tmp 37) (.tmp 39) 25 rfl (w.heap.size + 1) 36 i0 (.agg #[.int .i64 0, .int .i64 0, .int .i64 0, .int .i64 0, .int .i64 0, .int .i64 0]) 6 48 Try.underlying25 hi hz0 hz1 hz2 rfl (by decide) _ fl.length (cellsL 6 csS fl) rfl (ho3.alloc _) ⟨w3.heap.size, 0, none⟩ 1 1 [.int .i64 x.person, .int .i64 x.sex, .int .i64 x.need, .int .i64 k, .int .i64 x.frm, .int .i64 (-1)] rfl rfl (cell_six_new _ _ _ _ _ _ _ _) (six_one _ _ _ _ _ _) (by unfold maxLen; omega) (by omega) (by simp; omega) ?_; intro v4 w4 ho4 hg4 hnn4; obtain ⟨ad4, c4', rfl⟩ := own_slice ho4)
            all_goals have b4 := (b3.alloc (by omega) _).grown hg4 (by simp; omega) (own_lt ho3)
            all_goals go_roundw
            all_goals first
              | (simp [intOf]; omega)
              | exact ⟨i + 1, fl ++ [x], by omega, rfl, by simp; omega, ⟨ad4, c4', by rw [List.length_append]; rfl, by rw [cells_stay, List.length_append, hk, HTO.out]; exact ho4⟩, b4, HF2, HR2⟩
      · have HF2 : Hid (fl = heres (S.take (i + 1))) := by rw [Hid, HT.out, heres_snoc, if_neg (by unfold here; simpa using hto)]; exact HF.out
        have HR2 : Hid (rulesTo B S (i + 1)) := rulesTo_skip HR.out HX.out (by unfold here; simpa using hto)
        clear HF HR HT
        go_wp2_with fail
        go_roundw
        case rel => exact ⟨i + 1, fl, by omega, rfl, by omega, ⟨_, _, rfl, ho.alloc _⟩, by repeat (first | exact Below.refl _ _ | assumption | refine st_drew ?_ | refine st_drewN ?_ _ | refine Below.setCell ?_ (by first | omega | (simp; done) | (simp; omega)) _ | refine Below.alloc ?_ (by first | omega | (simp; done) | (simp; omega)) _), HF2, HR2⟩
        case measure => simp [intOf]; omega
    · have hlti : ¬ (i : Int) < (S.length : Int) := by omega
      have hil2 : i = S.length := by omega
      subst hil2
      have hyes : Hid (pB (rulesTo B S S.length) = true) := pB_true HR.out
      go_wp2_with fail
      go_ret
      exact ⟨by rw [hyes.out]; rfl, bw⟩

end Go.Proofs.Ytklgadaefngnnaa
