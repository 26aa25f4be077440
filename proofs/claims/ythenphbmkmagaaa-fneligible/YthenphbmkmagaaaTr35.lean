/-
  Somebody who fits fits by each criterion alone, and one that cannot hold is told where it stands: the walk of the law.
-/
import Derived.Test.YthenphbmkmagaaaTr34
import Derived.Test.YthenphbmkmagaaaTr18
import Derived.Test.YthenphbmkmagaaaTr19
import Derived.Laws.AppendOwn
import Derived.Deep.AppendSrc
namespace Go.Proofs.Ythenphbmkmagaaa
open Go.RowKit Go.WideShapes Va Lb El Go.Maps
set_option linter.all false

/-- One element of a row, cut out of it. -/
theorem VRw.single {α : Type} {s : Nat} {cs : α → Nat → Value} {w : World} {b off n cap : Nat} {l : List α} {i : Nat} {x : α} (h : VRw s cs w (.slice (some ⟨b, off, none⟩) n cap) l) (hx : l[i]? = some x) (c : Nat) (hc : 1 ≤ c) : VRw s cs w (.slice (some ⟨b, off + i * s, none⟩) 1 c) [x] := by
  obtain ⟨b', off', he, hb, hk⟩ := h.at hx
  obtain ⟨rfl, rfl⟩ : b = b' ∧ off = off' := by simpa using he
  refine ⟨_, c, rfl, hc, Or.inr ⟨b, off + i * s, rfl, hb, fun j y hj k hk2 => ?_⟩⟩
  cases j with
  | zero =>
    obtain rfl : x = y := by simpa using hj
    have := hk k hk2
    rwa [Nat.zero_mul, Nat.add_zero]
  | succ j => simp at hj

theorem vcells_at {α : Type} {s : Nat} (hs : 0 < s) {cs : α → Nat → Value} {w : World} {ad : Addr} {n cap : Nat} {l : List α} (h : VRw s cs w (.slice (some ad) n cap) l) : ∀ (j : Nat) (u : Value), (vcellsL s cs l)[j]? = some u → w.cell? (ad.add j) = some u := by
  intro j u hu
  have hj : j < l.length * s := by have := (List.getElem?_eq_some_iff.1 hu).1; rwa [vcellsL_len] at this
  have hi : j / s < l.length := Nat.div_lt_of_lt_mul (by rwa [Nat.mul_comm])
  obtain ⟨x, hx⟩ := some_of l (j / s) hi
  obtain ⟨b, off, he, hb, hk⟩ := h.at hx
  obtain rfl := Option.some.inj he
  have e : j / s * s + j % s = j := by rw [Nat.mul_comm]; exact Nat.div_add_mod j s
  have h1 := hk (j % s) (Nat.mod_lt _ hs)
  have h2 := vcellsL_get (cs := cs) l (j / s) x hx (j % s) (Nat.mod_lt _ hs)
  rw [e, hu] at h2
  rw [Addr.add_lit, h2, ← h1, Nat.add_assoc, e]
theorem cr_one (l : List Cr) : ∀ u ∈ vcellsL 4 cvCr l, u.oneCell' = true := by
  intro u hu
  obtain ⟨x, -, hx⟩ := List.mem_flatMap.1 hu
  obtain ⟨k, hk, rfl⟩ := List.mem_map.1 hx
  have hk4 : k < 4 := by simpa using hk
  match k, hk4 with
  | 0, _ => rfl
  | 1, _ => rfl
  | 2, _ => rfl
  | 3, _ => rfl
theorem wpList_newCr {ops : Array Oper} {rest : List Oper} {o : Oper} {a : Act} {w : World} {Q : Exit → Act → World → Prop} (hgd : o.guard = none) (s x : Operand)
    (ho : o.op = .call { callee := .builtin .append, args := #[s, x], argTypes := #[26, 26] }) (g : Nat) (hs : a.eval s = .slice (some ⟨g, 0, none⟩) 0 0) (hblk : w.heap[g]? = some (.cells #[] 31))
    (ao : Option Addr) (n cap : Nat) (l : List Cr) (hx : a.eval x = .slice ao n cap) (hrow : VRw 4 cvCr w (.slice ao n cap) l) (hn : l.length ≤ 1048576)
    (h : ∀ v' w', w'.ownsRow g 31 4 v' l.length (vcellsL 4 cvCr l) → w.grownBy w' (some g) → wpList Try.prog ops Q rest (a.put o.dst v') w') : wpList Try.prog ops Q (o :: rest) a w := by
  obtain ⟨i0, hi, hz0, hz1, hz2⟩ := info_partsW infoCrE
  have hlt := (Array.getElem?_eq_some_iff.1 hblk).1
  have hown : w.ownsRow g 31 4 (.slice (some ⟨g, 0, none⟩) 0 0) 0 [] := ⟨by simp, .inr ⟨g, 0, #[], rfl, Nat.le_refl _, hblk, Nat.le_refl _, Nat.zero_le _, by simp, by simp⟩⟩
  obtain rfl := hrow.len
  cases ao with
  | none =>
    have hl : l = [] := by
      obtain ⟨ao', cap', he, _, h2⟩ := hrow
      simp only [Value.slice.injEq, true_and] at he
      rcases h2 with h2 | ⟨b, off, h3, _⟩
      · exact List.eq_nil_of_length_eq_zero h2
      · rw [← he.1] at h3; cases h3
    subst hl
    refine wpList_plain hgd fun _ hK => ?_
    have hsrc : Src Try.prog i0.size 26 (.slice none ([] : List Cr).length cap) 0 [] w := Src.ofNil w Try.underlying26 cap
    have hr := run_append_room_src (P := Try.prog) w 26 26 o.type 31 i0 Try.underlying26 hi g 0 0 0 _ 0 [] hsrc (Nat.le_refl _) (fun j hj => absurd hj (Nat.not_lt_zero _)) (fun j hj => absurd hj (Nat.not_lt_zero _))
    unfold Oper.wp execOp
    simp only [ho, resolve, invoke, builtin, Sem.run_bind, Sem.run_pure, Result.andThen_ok, List.map_toArray, List.map_cons, List.map_nil, hs, hx, hr]
    exact hK _ _ (h _ _ hown ⟨rfl, rfl, rfl, Nat.le_refl _, fun _ _ _ => rfl⟩)
  | some ad =>
    refine wpList_append_own w hgd s x 26 ho g 31 i0 (.agg #[.int .i64 0, .int .i64 0, .int .i64 0, .bool false]) 4 32 Try.underlying26 hi hz0 hz1 hz2 rfl (by decide) _ 0 [] hs hown ad l.length cap (vcellsL 4 cvCr l) hx (by rw [vcellsL_len]) (vcells_at (by omega) hrow) (cr_one l) (by unfold maxLen; omega) (by omega) (by omega) (fun v' w' h1 h2 _ => h v' w' (by simpa using h1) h2)
theorem own_fromE {W : World} {b s n : Nat} {t : TypeId} {v : Value} {xs : List Value} (h : W.ownsRow b t s v n xs) : ∀ j, v.ownBlock = some j → b ≤ j := by
  rcases h.2 with ⟨rfl, _⟩ | ⟨g, c, cur, rfl, h3, _⟩
  · intro j hj; cases hj
  · intro j hj; cases hj; exact h3
theorem row_never {w : World} {base : Nat} {v : Value} {C : List Cr} (h : w.ownsRow base 31 4 v (C.length + 1) (vcellsL 4 cvCr C ++ [.int .i64 0, .int .i64 1, .int .i64 0, .bool true])) : VRw 4 cvCr w v (C ++ [never]) := by
  have e : vcellsL 4 cvCr (C ++ [never]) = vcellsL 4 cvCr C ++ [.int .i64 0, .int .i64 1, .int .i64 0, .bool true] := by rw [vcellsL_app]; rfl
  rw [← e] at h
  exact (vown_of (by simp) h).row

set_option maxRecDepth 20000 in
set_option maxHeartbeats 16000000 in
theorem felig_walk (ao : Option Addr) (cap : Nat) (bs : List Int) (w : World) (hb : Bytes w w.heap.size ao bs) :
    Calls Try.prog 3 #[.slice ao bs.length cap] w fun e w' => e = .returned (.bool true) ∧ Below w.heap.size w w' := by
  have kb := big_any ao cap bs.length w
  by_cases hbig : (4096 : Int) < (bs.length : Int)
  · rw [decide_eq_true hbig] at kb
    clear hb
    go_enter Try.func3, Try.ntmps3
    go_wp2_with fail
    refine kb.mono ?_
    rintro e w1 ⟨rfl, hw1⟩
    subst hw1
    go_wp2_with fail
    go_ret
    exact ⟨rfl, Below.refl _ _⟩
  rw [decide_eq_false hbig] at kb
  have hl : bs.length ≤ 4096 := by omega
  have HD := hidden (delig_any ao cap bs w hb (by omega))
  clear hb hbig
  go_enter Try.func3, Try.ntmps3
  go_wp2_with fail
  refine kb.mono ?_
  rintro e w1 ⟨rfl, hw1⟩
  subst hw1
  clear kb
  go_wp2_with fail
  refine HD.out.mono ?_
  rintro e wD ⟨v1, v2, v3, V, K, C, rfl, h1, h2, h3, hv1, hv30, hk30, hc10, hbD⟩
  obtain ⟨a1, c1, rfl⟩ := h1.form
  obtain ⟨a2, c2, rfl⟩ := h2.form
  obtain ⟨a3, c3, rfl⟩ := h3.form
  have R1 := hidden h1
  have R2 := hidden h2
  have R3 := hidden h3
  have HBD := hidden hbD
  have hcap := h3.cap
  clear h1 h2 h3 hbD HD
  go_wp2_with fail
  refine (ieligible_any _ _ _ _ _ _ _ _ _ _ _ _ wD R1.out R2.out R3.out (by omega) (by omega) (by omega)).mono ?_
  rintro e w1 ⟨rfl, hb1⟩
  have S1 := hidden (R1.out.below hb1)
  have S2 := hidden (R2.out.below hb1)
  have S3 := hidden (R3.out.below hb1)
  have HB1 := hidden (HBD.out.trans (hb1.mono HBD.out.size))
  clear R1 R2 R3 HBD hb1
  go_wp2_with fail
  refine (seligible_any _ _ _ _ _ _ _ _ _ _ _ _ w1 S1.out S2.out S3.out (by omega) (by omega) (by omega)).mono ?_
  rintro e w2 ⟨rfl, hb2⟩
  have R1 := hidden (S1.out.below hb2)
  have R2 := hidden (S2.out.below hb2)
  have R3 := hidden (S3.out.below hb2)
  have HB2 := hidden (HB1.out.trans (hb2.mono HB1.out.size))
  clear S1 S2 S3 HB1 hb2
  have HN := hidden (fun h => eligible_nn (v := V) (k := K) (cs := C) h)
  have hr := eligible_rng V K C (by omega)
  generalize eligible V K C = N at *
  have hne : (N != N) = false := by simp
  by_cases hneg : N < 0
  · go_wp2_with fail
    go_ret
    exact ⟨rfl, HB2.out⟩
  obtain ⟨hask, hsc⟩ := HN.out hneg
  have HAsk := hidden hask
  have HSc := hidden hsc
  clear HN hask hsc
  by_cases hN0 : N = 0
  · subst hN0
    have HAll := hidden ((scan_zero V K C 0 (by omega)).1 HSc.out.symm)
    go_wp2_with fail
    go_loopw [7] (fun iv wr => ∃ i : Nat, i ≤ C.length ∧ iv = .int .i64 i ∧ Below w2.heap.size w2 wr) (fun iv _ => C.length - (intOf iv).toNat)
    case atStart => exact ⟨0, Nat.zero_le _, rfl, Below.refl _ _⟩
    case round =>
      obtain ⟨i, hi, rfl, hbr⟩ := hrel
      by_cases hti : i < C.length
      · have hlti : (i : Int) < (C.length : Int) := by omega
        obtain ⟨x, hx⟩ := some_of C i hti
        have he : Hid (eligible V K [x] = 0) := by rw [Hid, eligible_one HAsk.out (List.mem_of_getElem? hx), if_pos (HAll.out x (List.mem_of_getElem? hx))]
        obtain ⟨g, off, rfl, hg, -⟩ := (R3.out.below hbr).at hx
        have HO := hidden (VRw.single (R3.out.below hbr) hx (c3 - i) (by omega))
        have HI := hidden (fun W h1 h2 h3 => ieligible_any a1 V.length c1 V a2 K.length c2 K (some ⟨g, off + i * 4, none⟩) 1 (c3 - i) [x] W h1 h2 h3 (by omega) (by omega) (by simp))
        rw [he.out] at HI
        clear hx he
        go_wp2_with (go_at_call 9; refine (HI.out _ (R1.out.below hbr) (R2.out.below hbr) HO.out).mono ?_; rintro e w3 ⟨rfl, hb3⟩; have HB3 := hidden (hbr.trans (hb3.mono hbr.size)); clear hb3 hbr)
        go_roundw
        case rel => exact ⟨i + 1, by omega, rfl, HB3.out⟩
        case measure => simp [intOf]; omega
      · have hlti : ¬ (i : Int) < (C.length : Int) := by omega
        have hsz := hbr.size
        have HBR := hidden (HB2.out.trans (hbr.mono HB2.out.size))
        have T1 := hidden (R1.out.below hbr)
        have T2 := hidden (R2.out.below hbr)
        have T3 := hidden (R3.out.below hbr)
        have ba : Below wr.heap.size wr (wr.alloc (.cells #[] 31)) := (Below.refl _ _).alloc (Nat.le_refl _) _
        have U1 := hidden (T1.out.below ba)
        have U2 := hidden (T2.out.below ba)
        have U3 := hidden (T3.out.below ba)
        have QN := hidden (PB.new wr #[] 31)
        have HA := hidden ba
        clear hbr ba U1 U2
        obtain ⟨i3, hi3, hy3, hz3, hw3⟩ := info_partsW infoCrE
        have hgs : wr.heap.size < (wr.alloc (.cells #[] 31)).heap.size := by simp
        generalize hWA : wr.alloc (.cells #[] 31) = wA at *
        go_wp2_with (first
          | (at_builtin; refine wpList_newCr rfl (.tmp 54) (.tmp 55) rfl wr.heap.size rfl QN.out a3 C.length c3 C rfl U3.out (by omega) ?_; intro v4 w4 ho4 hg4; have HO4 := hidden ho4; have HB4 := hidden (HA.out.grown hg4 (by omega) (fun k hk => by have := Option.some.inj hk; omega)); have hw4 := hg4.size; have hw45 : wr.heap.size ≤ w4.heap.size := (by omega); clear ho4 hg4)
          | (at_builtin; refine wpList_append_own _ rfl (.tmp 56) (.tmp 58) 26 rfl wr.heap.size 31 i3 (.agg #[.int .i64 0, .int .i64 0, .int .i64 0, .bool false]) 4 32 Try.underlying26 hi3 hy3 hz3 hw3 rfl (by decide) _ C.length (vcellsL 4 cvCr C) rfl (HO4.out.alloc _) ⟨w4.heap.size, 0, none⟩ 1 1 [.int .i64 0, .int .i64 1, .int .i64 0, .bool true] rfl rfl (cell_fourD _ _ _ _ _ _) (by simp [Value.oneCell']) (by unfold maxLen; omega) (by omega) (by simp; omega) ?_; intro v5 w5 ho5 hg5 hn5; have HB5 := hidden ((HB4.out.alloc hw45 _).grown hg5 (by simp; omega) (own_fromE HO4.out)); have HR5 := hidden (row_never ho5); clear ho5 hg5 hn5))
        obtain ⟨a5, c5, rfl⟩ := HR5.out.form
        have em : Hid (eligible V K (C ++ [never]) = ((C.length + 1 : Nat) : Int)) := by rw [Hid, eligible_more HAsk.out hv1 (by omega), if_pos HSc.out.symm]; rfl
        have HI := hidden (ieligible_any _ _ _ _ _ _ _ _ _ _ _ _ w5 (T1.out.below HB5.out) (T2.out.below HB5.out) HR5.out (by omega) (by omega) (by simp; omega))
        rw [em.out] at HI
        have el : (C ++ [never]).length = C.length + 1 := by simp
        rw [el] at HI ⊢
        refine HI.out.mono ?_
        rintro e w6 ⟨rfl, hb6⟩
        have HF := hidden (HBR.out.trans ((HB5.out.trans (hb6.mono HB5.out.size)).mono HBR.out.size))
        clear hb6 HI el
        go_wp2_with fail
        go_ret
        exact ⟨rfl, HF.out⟩
  · obtain ⟨p, c, hp, hpc, hnot, hbef⟩ := scan_at V K C 0 (by omega) (fun e => hN0 (HSc.out.trans e))
    have hN : N = ((p + 1 : Nat) : Int) := by rw [HSc.out, hp]; omega
    have hpl : p < C.length := (List.getElem?_eq_some_iff.1 hpc).1
    have HPC := hidden hpc
    have HNot := hidden hnot
    have HBef := hidden hbef
    clear hp hpc hnot hbef hN0
    subst hN
    have hn0 : ¬ ((p + 1 : Nat) : Int) = 0 := by omega
    have hn0' : (((p + 1 : Nat) : Int) == 0) = false := by simp; omega
    have hm1 : ((p + 1 : Nat) : Int) - 1 = (p : Int) := by omega
    go_wp2_with fail
    go_loopw [7] (fun iv wr => ∃ i : Nat, i ≤ p ∧ iv = .int .i64 i ∧ Below w2.heap.size w2 wr) (fun iv _ => p - (intOf iv).toNat)
    case atStart => exact ⟨0, Nat.zero_le _, rfl, Below.refl _ _⟩
    case round =>
      obtain ⟨i, hi, rfl, hbr⟩ := hrel
      have hltC : (i : Int) < (C.length : Int) := by omega
      by_cases hti : i < p
      · have hlti : (i : Int) < (p : Int) := by omega
        have hlt2 : i < C.length := by omega
        obtain ⟨x, hx⟩ := some_of C i hlt2
        have he : Hid (eligible V K [x] = 0) := by rw [Hid, eligible_one HAsk.out (List.mem_of_getElem? hx), if_pos (HBef.out i x hti hx)]
        obtain ⟨g, off, rfl, hg, -⟩ := (R3.out.below hbr).at hx
        have HO := hidden (VRw.single (R3.out.below hbr) hx (c3 - i) (by omega))
        have HI := hidden (fun W h1 h2 h3 => ieligible_any a1 V.length c1 V a2 K.length c2 K (some ⟨g, off + i * 4, none⟩) 1 (c3 - i) [x] W h1 h2 h3 (by omega) (by omega) (by simp))
        rw [he.out] at HI
        clear hx he
        go_wp2_with (go_at_call 9; refine (HI.out _ (R1.out.below hbr) (R2.out.below hbr) HO.out).mono ?_; rintro e w3 ⟨rfl, hb3⟩; have HB3 := hidden (hbr.trans (hb3.mono hbr.size)); clear hb3 hbr)
        go_roundw
        case rel => exact ⟨i + 1, by omega, rfl, HB3.out⟩
        case measure => simp [intOf]; omega
      · have hlti : ¬ (i : Int) < (p : Int) := by omega
        have hsz := hbr.size
        have HBR := hidden (HB2.out.trans (hbr.mono HB2.out.size))
        have T1 := hidden (R1.out.below hbr)
        have T2 := hidden (R2.out.below hbr)
        have T3 := hidden (R3.out.below hbr)
        have ba : Below wr.heap.size wr (wr.alloc (.cells #[] 31)) := (Below.refl _ _).alloc (Nat.le_refl _) _
        have U1 := hidden (T1.out.below ba)
        have U2 := hidden (T2.out.below ba)
        have U3 := hidden (T3.out.below ba)
        have QN := hidden (PB.new wr #[] 31)
        have HA := hidden ba
        clear hbr ba U1 U2
        obtain ⟨i3, hi3, hy3, hz3, hw3⟩ := info_partsW infoCrE
        have hgs : wr.heap.size < (wr.alloc (.cells #[] 31)).heap.size := by simp
        generalize hWA : wr.alloc (.cells #[] 31) = wA at *
        go_wp2_with (first
          | (at_builtin; refine wpList_newCr rfl (.tmp 54) (.tmp 55) rfl wr.heap.size rfl QN.out a3 C.length c3 C rfl U3.out (by omega) ?_; intro v4 w4 ho4 hg4; have HO4 := hidden ho4; have HB4 := hidden (HA.out.grown hg4 (by omega) (fun k hk => by have := Option.some.inj hk; omega)); have hw4 := hg4.size; have hw45 : wr.heap.size ≤ w4.heap.size := (by omega); clear ho4 hg4)
          | (at_builtin; refine wpList_append_own _ rfl (.tmp 56) (.tmp 58) 26 rfl wr.heap.size 31 i3 (.agg #[.int .i64 0, .int .i64 0, .int .i64 0, .bool false]) 4 32 Try.underlying26 hi3 hy3 hz3 hw3 rfl (by decide) _ C.length (vcellsL 4 cvCr C) rfl (HO4.out.alloc _) ⟨w4.heap.size, 0, none⟩ 1 1 [.int .i64 0, .int .i64 1, .int .i64 0, .bool true] rfl rfl (cell_fourD _ _ _ _ _ _) (by simp [Value.oneCell']) (by unfold maxLen; omega) (by omega) (by simp; omega) ?_; intro v5 w5 ho5 hg5 hn5; have HB5 := hidden ((HB4.out.alloc hw45 _).grown hg5 (by simp; omega) (own_fromE HO4.out)); have HR5 := hidden (row_never ho5); clear ho5 hg5 hn5))
        obtain ⟨a5, c5, rfl⟩ := HR5.out.form
        have hs0 : ¬ scan V K C 0 = 0 := by rw [← HSc.out]; omega
        have em : Hid (eligible V K (C ++ [never]) = ((p + 1 : Nat) : Int)) := by rw [Hid, eligible_more HAsk.out hv1 (by omega), if_neg hs0]; exact HSc.out.symm
        have HI := hidden (ieligible_any _ _ _ _ _ _ _ _ _ _ _ _ w5 (T1.out.below HB5.out) (T2.out.below HB5.out) HR5.out (by omega) (by omega) (by simp; omega))
        rw [em.out] at HI
        have el : (C ++ [never]).length = C.length + 1 := by simp
        rw [el] at HI ⊢
        refine HI.out.mono ?_
        rintro e w6 ⟨rfl, hb6⟩
        have HB6 := hidden (HB5.out.trans (hb6.mono HB5.out.size))
        clear hb6 HI el hs0 em
        have he : Hid (eligible V K [c] = 1) := by rw [Hid, eligible_one HAsk.out (List.mem_of_getElem? HPC.out), if_neg (by rw [HNot.out]; simp)]
        obtain ⟨g, off, rfl, hg, -⟩ := (T3.out.below HB6.out).at HPC.out
        have HO := hidden (VRw.single (T3.out.below HB6.out) HPC.out (c3 - p) (by omega))
        have HI := hidden (fun W h1 h2 h3 => ieligible_any a1 V.length c1 V a2 K.length c2 K (some ⟨g, off + p * 4, none⟩) 1 (c3 - p) [c] W h1 h2 h3 (by omega) (by omega) (by simp))
        rw [he.out] at HI
        clear he
        have hee : (((p + 1 : Nat) : Int) == ((p + 1 : Nat) : Int)) = true := by simp
        go_wp2_with (go_at_call 9; refine (HI.out _ (T1.out.below HB6.out) (T2.out.below HB6.out) HO.out).mono ?_; rintro e w7 ⟨rfl, hb7⟩; have HF := hidden (HBR.out.trans ((HB6.out.trans (hb7.mono HB6.out.size)).mono HBR.out.size)); clear hb7)
        go_ret
        exact ⟨rfl, HF.out⟩

end Go.Proofs.Ythenphbmkmagaaa
