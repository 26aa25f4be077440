/-
  Merged: Pk4.
-/
import Derived.Test.YtgcpiinmcbdkmaaMh8
import Derived.Test.YtgcpiinmcbdkmaaMh4
import Derived.Deep.CutBlock
namespace Go.Proofs.Ytgcpiinmcbdkmaa
open Go.RowKit Va Bl Pq
set_option linter.all false
theorem some_ofK {α : Type} (l : List α) (i : Nat) (h : i < l.length) : ∃ x, l[i]? = some x := ⟨_, List.getElem?_eq_getElem h⟩
def cmpI (a b : Int) : Int := if a < b then -1 else if b < a then 1 else 0
def orL : List Int → Int
  | [] => 0
  | a :: l => if a = 0 then orL l else a
theorem orL_take (l : List Int) (i : Nat) (h : ∀ j d, j < i → l[j]? = some d → d = 0) : orL l = orL (l.drop i) := by
  induction i generalizing l with
  | zero => rfl
  | succ i ih =>
    cases l with
    | nil => rfl
    | cons a l =>
      have : a = 0 := h 0 a (by omega) rfl
      rw [List.drop_succ_cons, ← ih l (fun j d hj hd => h (j + 1) d (by omega) (by simpa using hd))]
      simp [orL, this]
set_option maxHeartbeats 400000 in
theorem inanM_any (a : Int) (w : World) : Calls Try.prog 132 #[.int .i64 a] w fun e w' => e = .returned (.bool false) ∧ w = w' := by
  go_enter Try.func132, Try.ntmps132
  go_wp2
  go_ret
  exact ⟨rfl, rfl⟩
set_option maxHeartbeats 1000000 in
theorem icmpM_any (a b : Int) (w : World) : Calls Try.prog 90 #[.int .i64 a, .int .i64 b] w fun e w' => e = .returned (.int .i64 (cmpI a b)) ∧ w' = w := by
  have n1 := inanM_any a
  have n2 := inanM_any b
  unfold cmpI
  by_cases h1 : a < b
  · rw [if_pos h1]
    go_enter Try.func90, Try.ntmps90
    go_wp2_with (with_reducible (first | refine (n1 _).mono ?_ | refine (n2 _).mono ?_); rintro e w1 ⟨rfl, rfl⟩)
    go_ret
    exact ⟨rfl, rfl⟩
  · rw [if_neg h1]
    by_cases h2 : b < a
    · rw [if_pos h2]
      go_enter Try.func90, Try.ntmps90
      go_wp2_with (with_reducible (first | refine (n1 _).mono ?_ | refine (n2 _).mono ?_); rintro e w1 ⟨rfl, rfl⟩)
      go_ret
      exact ⟨rfl, rfl⟩
    · rw [if_neg h2]
      go_enter Try.func90, Try.ntmps90
      go_wp2_with (with_reducible (first | refine (n1 _).mono ?_ | refine (n2 _).mono ?_); rintro e w1 ⟨rfl, rfl⟩)
      go_ret
      exact ⟨rfl, rfl⟩
set_option maxHeartbeats 400000 in
theorem inanI_any (a : Int) (w : World) : Calls Try.prog 131 #[.int .i64 a] w fun e w' => e = .returned (.bool false) ∧ w = w' := by
  go_enter Try.func131, Try.ntmps131
  go_wp2
  go_ret
  exact ⟨rfl, rfl⟩
set_option maxHeartbeats 1000000 in
theorem icmpI_any (a b : Int) (w : World) : Calls Try.prog 88 #[.int .i64 a, .int .i64 b] w fun e w' => e = .returned (.int .i64 (cmpI a b)) ∧ w' = w := by
  have n1 := inanI_any a
  have n2 := inanI_any b
  unfold cmpI
  by_cases h1 : a < b
  · rw [if_pos h1]
    go_enter Try.func88, Try.ntmps88
    go_wp2_with (with_reducible (first | refine (n1 _).mono ?_ | refine (n2 _).mono ?_); rintro e w1 ⟨rfl, rfl⟩)
    go_ret
    exact ⟨rfl, rfl⟩
  · rw [if_neg h1]
    by_cases h2 : b < a
    · rw [if_pos h2]
      go_enter Try.func88, Try.ntmps88
      go_wp2_with (with_reducible (first | refine (n1 _).mono ?_ | refine (n2 _).mono ?_); rintro e w1 ⟨rfl, rfl⟩)
      go_ret
      exact ⟨rfl, rfl⟩
    · rw [if_neg h2]
      go_enter Try.func88, Try.ntmps88
      go_wp2_with (with_reducible (first | refine (n1 _).mono ?_ | refine (n2 _).mono ?_); rintro e w1 ⟨rfl, rfl⟩)
      go_ret
      exact ⟨rfl, rfl⟩
set_option maxRecDepth 20000 in
set_option maxHeartbeats 2000000 in
theorem iorL_any (ds : List Int) (B : Nat) (w : World) (hl : ds.length ≤ 100) (hc : ∀ i d, ds[i]? = some d → w.cell? ⟨B, i, none⟩ = some (.int .i64 d)) : Calls Try.prog 87 #[.slice (some ⟨B, 0, none⟩) ds.length ds.length] w fun e w' => e = .returned (.int .i64 (orL ds)) ∧ w' = w := by
  have HC := hidden hc
  obtain ⟨R, hR⟩ : ∃ R, R = orL ds := ⟨_, rfl⟩
  have HR := hidden hR
  rw [← hR]
  clear hc hR
  go_enter Try.func87, Try.ntmps87
  go_wp2_with fail
  go_loopw [5, 8] (fun _ iv wr => wr = w ∧ ∃ i : Nat, i ≤ ds.length ∧ iv = .int .i64 i ∧ Hid (∀ j d, j < i → ds[j]? = some d → d = 0)) (fun _ iv _ => ds.length - (intOf iv).toNat)
  case atStart => exact ⟨rfl, 0, Nat.zero_le _, rfl, fun j d hj => absurd hj (Nat.not_lt_zero _)⟩
  case round =>
    obtain ⟨hw, i, hi, rfl, hok⟩ := hrel
    have hw' := hw.symm
    clear hw
    subst hw'
    by_cases hlt : i < ds.length
    · have hlti : (i : Int) < (ds.length : Int) := by omega
      obtain ⟨d, hd⟩ := some_ofK ds i hlt
      have c0 := HC.out i d hd
      have HD := hidden hd
      clear hd
      by_cases h0 : d = 0
      · have HQ : Hid (∀ j d, j < i + 1 → ds[j]? = some d → d = 0) := fun j d' hj hd' => by
          rcases Nat.lt_succ_iff_lt_or_eq.1 hj with q | rfl
          · exact hok.out j d' q hd'
          · rw [HD.out] at hd'; cases hd'; exact h0
        subst h0
        clear hok
        go_wp2_with fail
        go_roundw
        case rel => exact ⟨by first | rfl | trivial, i + 1, by omega, rfl, HQ⟩
        case measure => simp [intOf]; omega
      · have HV : Hid (R = d) := by
          rw [Hid, HR.out, orL_take ds i hok.out, List.drop_eq_getElem_cons hlt]
          have e : ds[i] = d := by have := HD.out; rw [List.getElem?_eq_getElem hlt] at this; exact Option.some.inj this
          rw [e]
          simp [orL, h0]
        have q0 : (d != 0) = true := by simpa using h0
        go_wp2_with fail
        go_ret
        exact ⟨by rw [HV.out]; first | done | rfl, rfl⟩
    · have hlti : ¬ (i : Int) < (ds.length : Int) := by omega
      have HV : Hid (R = 0) := by
        rw [Hid, HR.out, orL_take ds i hok.out, List.drop_eq_nil_of_le (by omega)]; rfl
      go_wp2_with fail
      go_ret
      exact ⟨by rw [HV.out]; first | done | rfl, rfl⟩
theorem and4 (g : Int) (h0 : 0 ≤ g) (h1 : g ≤ 7) : bits .and .i64 g 4 = if g < 4 then 0 else 4 := by
  rcases (show g = 0 ∨ g = 1 ∨ g = 2 ∨ g = 3 ∨ g = 4 ∨ g = 5 ∨ g = 6 ∨ g = 7 by omega) with rfl | rfl | rfl | rfl | rfl | rfl | rfl | rfl <;> rfl
set_option maxRecDepth 20000 in
set_option maxHeartbeats 4000000 in
theorem irank_any (n : Nd) (sv : Value) (x : UE) (w : World) (h0 : 0 ≤ x.1.grp) (h1 : x.1.grp ≤ 7) (g0 : 0 ≤ n.g) (g1 : n.g ≤ 7) :
    Calls Try.prog 89 #[.agg #[.int .i64 n.p, .int .i64 n.g, sv], .agg #[.int .i64 x.1.id, .int .i64 x.1.grp, x.2, .int .i64 x.1.til, .int .i64 x.1.st, .int .i64 x.1.fr]] w fun e w' => e = .returned (.int .i64 (rank x.1 n)) ∧ Below w.heap.size w w' := by
  have a1 := and4 _ h0 h1
  have a2 := and4 _ g0 g1
  obtain ⟨⟨id, grp, ant, til, st, fr⟩, xv⟩ := x
  obtain ⟨np, ng, nag⟩ := n
  unfold rank
  dsimp only at *
  by_cases e1 : grp = ng
  · subst e1
    rw [if_pos rfl]
    clear a1 a2
    go_enter Try.func89, Try.ntmps89
    go_wp2
    all_goals (go_ret; exact ⟨rfl, by repeat (first | exact Below.refl _ _ | assumption | refine st_drew ?_ | refine st_drewN ?_ _ | refine Below.setCell ?_ (by first | omega | (simp; done) | (simp; omega)) _ | refine Below.alloc ?_ (by first | omega | (simp; done) | (simp; omega)) _)⟩)
  · rw [if_neg e1]
    have q1 : (grp == ng) = false := by rw [beq_eq_false_iff_ne]; exact e1
    by_cases e2 : ng < 4
    · rw [if_neg (by omega)]
      rw [if_pos e2] at a2
      clear a1
      go_enter Try.func89, Try.ntmps89
      go_wp2
      all_goals (go_ret; exact ⟨rfl, by repeat (first | exact Below.refl _ _ | assumption | refine st_drew ?_ | refine st_drewN ?_ _ | refine Below.setCell ?_ (by first | omega | (simp; done) | (simp; omega)) _ | refine Below.alloc ?_ (by first | omega | (simp; done) | (simp; omega)) _)⟩)
    · rw [if_neg e2] at a2
      by_cases e3 : grp < 4
      · rw [if_pos ⟨e3, by omega⟩]
        rw [if_pos e3] at a1
        go_enter Try.func89, Try.ntmps89
        go_wp2
        all_goals (go_ret; exact ⟨rfl, by repeat (first | exact Below.refl _ _ | assumption | refine st_drew ?_ | refine st_drewN ?_ _ | refine Below.setCell ?_ (by first | omega | (simp; done) | (simp; omega)) _ | refine Below.alloc ?_ (by first | omega | (simp; done) | (simp; omega)) _)⟩)
      · rw [if_neg (by omega)]
        rw [if_neg e3] at a1
        go_enter Try.func89, Try.ntmps89
        go_wp2
        all_goals (go_ret; exact ⟨rfl, by repeat (first | exact Below.refl _ _ | assumption | refine st_drew ?_ | refine st_drewN ?_ _ | refine Below.setCell ?_ (by first | omega | (simp; done) | (simp; omega)) _ | refine Below.alloc ?_ (by first | omega | (simp; done) | (simp; omega)) _)⟩)
def FCu1 (BN BX BY : Nat) (n : Nd) (x y : UE) (sv : Value) (i9 : Nat) (v : Value) (w : World) : Prop :=
  match i9 with
  | 0 => v = .agg #[.int .i64 n.p, .int .i64 n.g, sv]
  | 1 => v = .agg #[.int .i64 x.1.id, .int .i64 x.1.grp, x.2, .int .i64 x.1.til, .int .i64 x.1.st, .int .i64 x.1.fr]
  | 2 => v = .int .i64 (rank x.1 n)
  | 3 => v = .agg #[.int .i64 n.p, .int .i64 n.g, sv]
  | 4 => v = .agg #[.int .i64 y.1.id, .int .i64 y.1.grp, y.2, .int .i64 y.1.til, .int .i64 y.1.st, .int .i64 y.1.fr]
  | 5 => v = .int .i64 (rank y.1 n)
  | 6 => v = .int .i64 (cmpI (rank x.1 n) (rank y.1 n))
  | 7 => v = .pointer (some ⟨BX, 3, none⟩)
  | 8 => v = .int .i64 x.1.til
  | 9 => v = .pointer (some ⟨BY, 3, none⟩)
  | 10 => v = .int .i64 y.1.til
  | 11 => v = .int .i64 (cmpI x.1.til y.1.til)
  | 12 => v = .pointer (some ⟨BX, 0, none⟩)
  | 13 => v = .int .i64 x.1.id
  | 14 => v = .pointer (some ⟨BY, 0, none⟩)
  | 15 => v = .int .i64 y.1.id
  | 16 => v = .int .i64 (cmpI x.1.id y.1.id)
  | 17 => ∃ T, v = .slice (some ⟨T, 0, none⟩) 3 3 ∧ PB w T #[.int .i64 (cmpI (rank x.1 n) (rank y.1 n)), .int .i64 (cmpI x.1.til y.1.til), .int .i64 (cmpI x.1.id y.1.id)] 3
  | 18 => v = .int .i64 (orL [cmpI (rank x.1 n) (rank y.1 n), cmpI x.1.til y.1.til, cmpI x.1.id y.1.id])
  | 19 => v = .int .i64 (orL [cmpI (rank x.1 n) (rank y.1 n), cmpI x.1.til y.1.til, cmpI x.1.id y.1.id])
  | _ => True
theorem sizeCu1 : (Rg.opsOf Try.f47 1).size = 20 := by kernel_rfl
set_option maxRecDepth 20000 in
set_option maxHeartbeats 8000000 in
theorem regCu1 {Q : Exit → Act → World → Prop} {a : Act} {w9 : World} {BN BX BY : Nat} {n : Nd} {x y : UE} {sv : Value} (ha : a.tmps.size = 26)
    (k3 : a.tmps[3]? = some (.pointer (some ⟨BN, 0, none⟩))) (k4 : a.tmps[4]? = some (.pointer (some ⟨BX, 0, none⟩))) (k5 : a.tmps[5]? = some (.pointer (some ⟨BY, 0, none⟩))) (hPN : PB w9 BN #[.int .i64 n.p, .int .i64 n.g, sv] 27) (hPX : PB w9 BX #[.int .i64 x.1.id, .int .i64 x.1.grp, x.2, .int .i64 x.1.til, .int .i64 x.1.st, .int .i64 x.1.fr] 81) (hPY : PB w9 BY #[.int .i64 y.1.id, .int .i64 y.1.grp, y.2, .int .i64 y.1.til, .int .i64 y.1.st, .int .i64 y.1.fr] 81) (HR : ∀ z : UE, z = x ∨ z = y → ∀ W, Calls Try.prog 89 #[.agg #[.int .i64 n.p, .int .i64 n.g, sv], .agg #[.int .i64 z.1.id, .int .i64 z.1.grp, z.2, .int .i64 z.1.til, .int .i64 z.1.st, .int .i64 z.1.fr]] W fun e w' => e = .returned (.int .i64 (rank z.1 n)) ∧ Below W.heap.size W w') (HC1 : ∀ a b W, Calls Try.prog 88 #[.int .i64 a, .int .i64 b] W fun e w' => e = .returned (.int .i64 (cmpI a b)) ∧ w' = W) (HC2 : ∀ a b W, Calls Try.prog 90 #[.int .i64 a, .int .i64 b] W fun e w' => e = .returned (.int .i64 (cmpI a b)) ∧ w' = W) (HO : ∀ T W, PB W T #[.int .i64 (cmpI (rank x.1 n) (rank y.1 n)), .int .i64 (cmpI x.1.til y.1.til), .int .i64 (cmpI x.1.id y.1.id)] 3 → Calls Try.prog 87 #[.slice (some ⟨T, 0, none⟩) 3 3] W fun e w' => e = .returned (.int .i64 (orL [cmpI (rank x.1 n) (rank y.1 n), cmpI x.1.til y.1.til, cmpI x.1.id y.1.id])) ∧ w' = W)
    (hend : ∀ b' w', Rg.Fr (Rg.opsOf Try.f47 1) a b' → Below w9.heap.size w9 w' → Rg.out (Rg.opsOf Try.f47 1) b' 19 = .int .i64 (orL [cmpI (rank x.1 n) (rank y.1 n), cmpI x.1.til y.1.til, cmpI x.1.id y.1.id]) → Q .normal b' w') :
    (Code.region 1 (Rg.opsOf Try.f47 1) true).wp Try.prog Q a w9 := by
  refine Rg.region_set3 (by kernel_rfl) (fun _ w' => Below w9.heap.size w9 w') (FCu1 BN BX BY n x y sv) (by rw [ha, sizeCu1]; kernel_rfl) (st_drew (Below.refl _ _)) ?_ ?_
  case refine_2 =>
    intro l b' w' hf hall hI hA
    rw [sizeCu1] at hA
    exact hend b' w' hf hI (hA 19 (by decide))
  case refine_1 =>
    clear hend
    have HS : ∀ {w w' : World}, Below w.heap.size w w' → ∀ k9 y9, FCu1 BN BX BY n x y sv k9 y9 w → FCu1 BN BX BY n x y sv k9 y9 w' := fun hb k9 y9 h => by
      unfold FCu1 at *
      split at h <;> first | exact h | (obtain ⟨T, h1, h2⟩ := h; exact ⟨T, h1, h2.below hb⟩)
    intro i' hi'
    rw [sizeCu1] at hi'
    rcases (show i' = 0 ∨ i' = 1 ∨ i' = 2 ∨ i' = 3 ∨ i' = 4 ∨ i' = 5 ∨ i' = 6 ∨ i' = 7 ∨ i' = 8 ∨ i' = 9 ∨ i' = 10 ∨ i' = 11 ∨ i' = 12 ∨ i' = 13 ∨ i' = 14 ∨ i' = 15 ∨ i' = 16 ∨ i' = 17 ∨ i' = 18 ∨ i' = 19 by omega) with rfl | rfl | rfl | rfl | rfl | rfl | rfl | rfl | rfl | rfl | rfl | rfl | rfl | rfl | rfl | rfl | rfl | rfl | rfl | rfl
    · intro ll bb w' hs hlf hN hO hf hI hA
      clear hi'
      have q3 := hf.kept (s := 3) (by rw [sizeCu1]; kernel_rfl) k3
      have e0 : w'.cell? ⟨BN, 0, none⟩ = some (.int .i64 n.p) := ((hPN).below hI).cell 0
      have e1 : w'.cell? ⟨BN, 1, none⟩ = some (.int .i64 n.g) := ((hPN).below hI).cell 1
      have e2 : w'.cell? ⟨BN, 2, none⟩ = some (sv) := ((hPN).below hI).cell 2
      exact Rg.op_value (o := ⟨some 7, Op.load 27 (Operand.tmp 3), _, _, _, _⟩) (x := .agg #[.int .i64 n.p, .int .i64 n.g, sv]) rfl rfl (by clear hA HS hN hO HR HC1 HC2 HO; simp only [execOp]; go_simp) ⟨_, rfl, (fun h => by cases h), rfl, hI, fun _ _ _ _ h => h⟩
    · intro ll bb w' hs hlf hN hO hf hI hA
      clear hi'
      have q4 := hf.kept (s := 4) (by rw [sizeCu1]; kernel_rfl) k4
      have e0 : w'.cell? ⟨BX, 0, none⟩ = some (.int .i64 x.1.id) := ((hPX).below hI).cell 0
      have e1 : w'.cell? ⟨BX, 1, none⟩ = some (.int .i64 x.1.grp) := ((hPX).below hI).cell 1
      have e2 : w'.cell? ⟨BX, 2, none⟩ = some (x.2) := ((hPX).below hI).cell 2
      have e3 : w'.cell? ⟨BX, 3, none⟩ = some (.int .i64 x.1.til) := ((hPX).below hI).cell 3
      have e4 : w'.cell? ⟨BX, 4, none⟩ = some (.int .i64 x.1.st) := ((hPX).below hI).cell 4
      have e5 : w'.cell? ⟨BX, 5, none⟩ = some (.int .i64 x.1.fr) := ((hPX).below hI).cell 5
      exact Rg.op_value (o := ⟨some 8, Op.load 81 (Operand.tmp 4), _, _, _, _⟩) (x := .agg #[.int .i64 x.1.id, .int .i64 x.1.grp, x.2, .int .i64 x.1.til, .int .i64 x.1.st, .int .i64 x.1.fr]) rfl rfl (by clear hA HS hN hO HR HC1 HC2 HO; simp only [execOp]; go_simp) ⟨_, rfl, (fun h => by cases h), rfl, hI, fun _ _ _ _ h => h⟩
    · intro ll bb w' hs hlf hN hO hf hI hA
      clear hi'
      have q7 : bb.tmps[7]? = some _ := hf.tmp (k := 0) rfl (by rw [ha]; decide) (hA 0 (by kernel_rfl))
      have q8 : bb.tmps[8]? = some _ := hf.tmp (k := 1) rfl (by rw [ha]; decide) (hA 1 (by kernel_rfl))
      refine Rg.op_call (o := ⟨some 9, Op.call { callee := Callee.value (Operand.func 89), args := #[(Operand.tmp 7), (Operand.tmp 8)], argTypes := _ }, _, _, _, _⟩) rfl rfl (by clear hA HS hN hO HR HC1 HC2 HO; simp only [execOp, resolve]; go_simp) (HR x (Or.inl rfl) w') ?_
      rintro e w2 ⟨rfl, hb2⟩
      exact ⟨_, rfl, _, rfl, (fun h => by cases h), rfl, onto hI hb2, fun k9 y9 _ _ h => HS hb2 k9 y9 h⟩
    · intro ll bb w' hs hlf hN hO hf hI hA
      clear hi'
      have q3 := hf.kept (s := 3) (by rw [sizeCu1]; kernel_rfl) k3
      have e0 : w'.cell? ⟨BN, 0, none⟩ = some (.int .i64 n.p) := ((hPN).below hI).cell 0
      have e1 : w'.cell? ⟨BN, 1, none⟩ = some (.int .i64 n.g) := ((hPN).below hI).cell 1
      have e2 : w'.cell? ⟨BN, 2, none⟩ = some (sv) := ((hPN).below hI).cell 2
      exact Rg.op_value (o := ⟨some 10, Op.load 27 (Operand.tmp 3), _, _, _, _⟩) (x := .agg #[.int .i64 n.p, .int .i64 n.g, sv]) rfl rfl (by clear hA HS hN hO HR HC1 HC2 HO; simp only [execOp]; go_simp) ⟨_, rfl, (fun h => by cases h), rfl, hI, fun _ _ _ _ h => h⟩
    · intro ll bb w' hs hlf hN hO hf hI hA
      clear hi'
      have q5 := hf.kept (s := 5) (by rw [sizeCu1]; kernel_rfl) k5
      have e0 : w'.cell? ⟨BY, 0, none⟩ = some (.int .i64 y.1.id) := ((hPY).below hI).cell 0
      have e1 : w'.cell? ⟨BY, 1, none⟩ = some (.int .i64 y.1.grp) := ((hPY).below hI).cell 1
      have e2 : w'.cell? ⟨BY, 2, none⟩ = some (y.2) := ((hPY).below hI).cell 2
      have e3 : w'.cell? ⟨BY, 3, none⟩ = some (.int .i64 y.1.til) := ((hPY).below hI).cell 3
      have e4 : w'.cell? ⟨BY, 4, none⟩ = some (.int .i64 y.1.st) := ((hPY).below hI).cell 4
      have e5 : w'.cell? ⟨BY, 5, none⟩ = some (.int .i64 y.1.fr) := ((hPY).below hI).cell 5
      exact Rg.op_value (o := ⟨some 11, Op.load 81 (Operand.tmp 5), _, _, _, _⟩) (x := .agg #[.int .i64 y.1.id, .int .i64 y.1.grp, y.2, .int .i64 y.1.til, .int .i64 y.1.st, .int .i64 y.1.fr]) rfl rfl (by clear hA HS hN hO HR HC1 HC2 HO; simp only [execOp]; go_simp) ⟨_, rfl, (fun h => by cases h), rfl, hI, fun _ _ _ _ h => h⟩
    · intro ll bb w' hs hlf hN hO hf hI hA
      clear hi'
      have q10 : bb.tmps[10]? = some _ := hf.tmp (k := 3) rfl (by rw [ha]; decide) (hA 3 (by kernel_rfl))
      have q11 : bb.tmps[11]? = some _ := hf.tmp (k := 4) rfl (by rw [ha]; decide) (hA 4 (by kernel_rfl))
      refine Rg.op_call (o := ⟨some 12, Op.call { callee := Callee.value (Operand.func 89), args := #[(Operand.tmp 10), (Operand.tmp 11)], argTypes := _ }, _, _, _, _⟩) rfl rfl (by clear hA HS hN hO HR HC1 HC2 HO; simp only [execOp, resolve]; go_simp) (HR y (Or.inr rfl) w') ?_
      rintro e w2 ⟨rfl, hb2⟩
      exact ⟨_, rfl, _, rfl, (fun h => by cases h), rfl, onto hI hb2, fun k9 y9 _ _ h => HS hb2 k9 y9 h⟩
    · intro ll bb w' hs hlf hN hO hf hI hA
      clear hi'
      have q9 : bb.tmps[9]? = some _ := hf.tmp (k := 2) rfl (by rw [ha]; decide) (hA 2 (by kernel_rfl))
      have q12 : bb.tmps[12]? = some _ := hf.tmp (k := 5) rfl (by rw [ha]; decide) (hA 5 (by kernel_rfl))
      refine Rg.op_call (o := ⟨some 13, Op.call { callee := Callee.value (Operand.func 88), args := #[(Operand.tmp 9), (Operand.tmp 12)], argTypes := _ }, _, _, _, _⟩) rfl rfl (by clear hA HS hN hO HR HC1 HC2 HO; simp only [execOp, resolve]; go_simp) (HC1 (rank x.1 n) (rank y.1 n) w') ?_
      rintro e w2 ⟨rfl, rfl⟩
      exact ⟨_, rfl, _, rfl, (fun h => by cases h), rfl, hI, fun _ _ _ _ h => h⟩
    · intro ll bb w' hs hlf hN hO hf hI hA
      clear hi'
      have q4 := hf.kept (s := 4) (by rw [sizeCu1]; kernel_rfl) k4
      exact Rg.op_value (o := ⟨some 14, Op.fieldAddr 81 (Operand.tmp 4) 3, _, _, _, _⟩) (x := .pointer (some ⟨BX, 3, none⟩)) rfl rfl (by clear hA HS hN hO HR HC1 HC2 HO; simp only [execOp]; go_simp) ⟨_, rfl, (fun h => by cases h), rfl, hI, fun _ _ _ _ h => h⟩
    · intro ll bb w' hs hlf hN hO hf hI hA
      clear hi'
      have q14 : bb.tmps[14]? = some _ := hf.tmp (k := 7) rfl (by rw [ha]; decide) (hA 7 (by kernel_rfl))
      have e0 : w'.cell? ⟨BX, 0, none⟩ = some (.int .i64 x.1.id) := ((hPX).below hI).cell 0
      have e1 : w'.cell? ⟨BX, 1, none⟩ = some (.int .i64 x.1.grp) := ((hPX).below hI).cell 1
      have e2 : w'.cell? ⟨BX, 2, none⟩ = some (x.2) := ((hPX).below hI).cell 2
      have e3 : w'.cell? ⟨BX, 3, none⟩ = some (.int .i64 x.1.til) := ((hPX).below hI).cell 3
      have e4 : w'.cell? ⟨BX, 4, none⟩ = some (.int .i64 x.1.st) := ((hPX).below hI).cell 4
      have e5 : w'.cell? ⟨BX, 5, none⟩ = some (.int .i64 x.1.fr) := ((hPX).below hI).cell 5
      exact Rg.op_value (o := ⟨some 15, Op.load 2 (Operand.tmp 14), _, _, _, _⟩) (x := .int .i64 x.1.til) rfl rfl (by clear hA HS hN hO HR HC1 HC2 HO; simp only [execOp]; go_simp) ⟨_, rfl, (fun h => by cases h), rfl, hI, fun _ _ _ _ h => h⟩
    · intro ll bb w' hs hlf hN hO hf hI hA
      clear hi'
      have q5 := hf.kept (s := 5) (by rw [sizeCu1]; kernel_rfl) k5
      exact Rg.op_value (o := ⟨some 16, Op.fieldAddr 81 (Operand.tmp 5) 3, _, _, _, _⟩) (x := .pointer (some ⟨BY, 3, none⟩)) rfl rfl (by clear hA HS hN hO HR HC1 HC2 HO; simp only [execOp]; go_simp) ⟨_, rfl, (fun h => by cases h), rfl, hI, fun _ _ _ _ h => h⟩
    · intro ll bb w' hs hlf hN hO hf hI hA
      clear hi'
      have q16 : bb.tmps[16]? = some _ := hf.tmp (k := 9) rfl (by rw [ha]; decide) (hA 9 (by kernel_rfl))
      have e0 : w'.cell? ⟨BY, 0, none⟩ = some (.int .i64 y.1.id) := ((hPY).below hI).cell 0
      have e1 : w'.cell? ⟨BY, 1, none⟩ = some (.int .i64 y.1.grp) := ((hPY).below hI).cell 1
      have e2 : w'.cell? ⟨BY, 2, none⟩ = some (y.2) := ((hPY).below hI).cell 2
      have e3 : w'.cell? ⟨BY, 3, none⟩ = some (.int .i64 y.1.til) := ((hPY).below hI).cell 3
      have e4 : w'.cell? ⟨BY, 4, none⟩ = some (.int .i64 y.1.st) := ((hPY).below hI).cell 4
      have e5 : w'.cell? ⟨BY, 5, none⟩ = some (.int .i64 y.1.fr) := ((hPY).below hI).cell 5
      exact Rg.op_value (o := ⟨some 17, Op.load 2 (Operand.tmp 16), _, _, _, _⟩) (x := .int .i64 y.1.til) rfl rfl (by clear hA HS hN hO HR HC1 HC2 HO; simp only [execOp]; go_simp) ⟨_, rfl, (fun h => by cases h), rfl, hI, fun _ _ _ _ h => h⟩
    · intro ll bb w' hs hlf hN hO hf hI hA
      clear hi'
      have q15 : bb.tmps[15]? = some _ := hf.tmp (k := 8) rfl (by rw [ha]; decide) (hA 8 (by kernel_rfl))
      have q17 : bb.tmps[17]? = some _ := hf.tmp (k := 10) rfl (by rw [ha]; decide) (hA 10 (by kernel_rfl))
      refine Rg.op_call (o := ⟨some 18, Op.call { callee := Callee.value (Operand.func 90), args := #[(Operand.tmp 15), (Operand.tmp 17)], argTypes := _ }, _, _, _, _⟩) rfl rfl (by clear hA HS hN hO HR HC1 HC2 HO; simp only [execOp, resolve]; go_simp) (HC2 x.1.til y.1.til w') ?_
      rintro e w2 ⟨rfl, rfl⟩
      exact ⟨_, rfl, _, rfl, (fun h => by cases h), rfl, hI, fun _ _ _ _ h => h⟩
    · intro ll bb w' hs hlf hN hO hf hI hA
      clear hi'
      have q4 := hf.kept (s := 4) (by rw [sizeCu1]; kernel_rfl) k4
      exact Rg.op_value (o := ⟨some 19, Op.fieldAddr 81 (Operand.tmp 4) 0, _, _, _, _⟩) (x := .pointer (some ⟨BX, 0, none⟩)) rfl rfl (by clear hA HS hN hO HR HC1 HC2 HO; simp only [execOp]; go_simp) ⟨_, rfl, (fun h => by cases h), rfl, hI, fun _ _ _ _ h => h⟩
    · intro ll bb w' hs hlf hN hO hf hI hA
      clear hi'
      have q19 : bb.tmps[19]? = some _ := hf.tmp (k := 12) rfl (by rw [ha]; decide) (hA 12 (by kernel_rfl))
      have e0 : w'.cell? ⟨BX, 0, none⟩ = some (.int .i64 x.1.id) := ((hPX).below hI).cell 0
      have e1 : w'.cell? ⟨BX, 1, none⟩ = some (.int .i64 x.1.grp) := ((hPX).below hI).cell 1
      have e2 : w'.cell? ⟨BX, 2, none⟩ = some (x.2) := ((hPX).below hI).cell 2
      have e3 : w'.cell? ⟨BX, 3, none⟩ = some (.int .i64 x.1.til) := ((hPX).below hI).cell 3
      have e4 : w'.cell? ⟨BX, 4, none⟩ = some (.int .i64 x.1.st) := ((hPX).below hI).cell 4
      have e5 : w'.cell? ⟨BX, 5, none⟩ = some (.int .i64 x.1.fr) := ((hPX).below hI).cell 5
      exact Rg.op_value (o := ⟨some 20, Op.load 2 (Operand.tmp 19), _, _, _, _⟩) (x := .int .i64 x.1.id) rfl rfl (by clear hA HS hN hO HR HC1 HC2 HO; simp only [execOp]; go_simp) ⟨_, rfl, (fun h => by cases h), rfl, hI, fun _ _ _ _ h => h⟩
    · intro ll bb w' hs hlf hN hO hf hI hA
      clear hi'
      have q5 := hf.kept (s := 5) (by rw [sizeCu1]; kernel_rfl) k5
      exact Rg.op_value (o := ⟨some 21, Op.fieldAddr 81 (Operand.tmp 5) 0, _, _, _, _⟩) (x := .pointer (some ⟨BY, 0, none⟩)) rfl rfl (by clear hA HS hN hO HR HC1 HC2 HO; simp only [execOp]; go_simp) ⟨_, rfl, (fun h => by cases h), rfl, hI, fun _ _ _ _ h => h⟩
    · intro ll bb w' hs hlf hN hO hf hI hA
      clear hi'
      have q21 : bb.tmps[21]? = some _ := hf.tmp (k := 14) rfl (by rw [ha]; decide) (hA 14 (by kernel_rfl))
      have e0 : w'.cell? ⟨BY, 0, none⟩ = some (.int .i64 y.1.id) := ((hPY).below hI).cell 0
      have e1 : w'.cell? ⟨BY, 1, none⟩ = some (.int .i64 y.1.grp) := ((hPY).below hI).cell 1
      have e2 : w'.cell? ⟨BY, 2, none⟩ = some (y.2) := ((hPY).below hI).cell 2
      have e3 : w'.cell? ⟨BY, 3, none⟩ = some (.int .i64 y.1.til) := ((hPY).below hI).cell 3
      have e4 : w'.cell? ⟨BY, 4, none⟩ = some (.int .i64 y.1.st) := ((hPY).below hI).cell 4
      have e5 : w'.cell? ⟨BY, 5, none⟩ = some (.int .i64 y.1.fr) := ((hPY).below hI).cell 5
      exact Rg.op_value (o := ⟨some 22, Op.load 2 (Operand.tmp 21), _, _, _, _⟩) (x := .int .i64 y.1.id) rfl rfl (by clear hA HS hN hO HR HC1 HC2 HO; simp only [execOp]; go_simp) ⟨_, rfl, (fun h => by cases h), rfl, hI, fun _ _ _ _ h => h⟩
    · intro ll bb w' hs hlf hN hO hf hI hA
      clear hi'
      have q20 : bb.tmps[20]? = some _ := hf.tmp (k := 13) rfl (by rw [ha]; decide) (hA 13 (by kernel_rfl))
      have q22 : bb.tmps[22]? = some _ := hf.tmp (k := 15) rfl (by rw [ha]; decide) (hA 15 (by kernel_rfl))
      refine Rg.op_call (o := ⟨some 23, Op.call { callee := Callee.value (Operand.func 90), args := #[(Operand.tmp 20), (Operand.tmp 22)], argTypes := _ }, _, _, _, _⟩) rfl rfl (by clear hA HS hN hO HR HC1 HC2 HO; simp only [execOp, resolve]; go_simp) (HC2 x.1.id y.1.id w') ?_
      rintro e w2 ⟨rfl, rfl⟩
      exact ⟨_, rfl, _, rfl, (fun h => by cases h), rfl, hI, fun _ _ _ _ h => h⟩
    · intro ll bb w' hs hlf hN hO hf hI hA
      clear hi'
      have q13 : bb.tmps[13]? = some _ := hf.tmp (k := 6) rfl (by rw [ha]; decide) (hA 6 (by kernel_rfl))
      have q18 : bb.tmps[18]? = some _ := hf.tmp (k := 11) rfl (by rw [ha]; decide) (hA 11 (by kernel_rfl))
      have q23 : bb.tmps[23]? = some _ := hf.tmp (k := 16) rfl (by rw [ha]; decide) (hA 16 (by kernel_rfl))
      have hal : Below w'.heap.size w' (w'.alloc (.cells #[.int .i64 (cmpI (rank x.1 n) (rank y.1 n)), .int .i64 (cmpI x.1.til y.1.til), .int .i64 (cmpI x.1.id y.1.id)] 3)) := (Below.refl _ _).alloc (Nat.le_refl _) _
      exact Rg.op_value (o := ⟨some 24, Op.buildSlice 169 3 #[(0, Operand.tmp 13), (1, Operand.tmp 18), (2, Operand.tmp 23)], _, _, _, _⟩) (x := .slice (some ⟨w'.heap.size, 0, none⟩) 3 3) (w' := w'.alloc (.cells #[.int .i64 (cmpI (rank x.1 n) (rank y.1 n)), .int .i64 (cmpI x.1.til y.1.til), .int .i64 (cmpI x.1.id y.1.id)] 3)) rfl rfl (by clear hA HS hN hO HR HC1 HC2 HO; simp only [execOp]; go_simp) ⟨_, rfl, (fun h => by cases h), ⟨w'.heap.size, rfl, PB.new w' _ _⟩, onto hI hal, fun k9 y9 _ _ h => HS hal k9 y9 h⟩
    · intro ll bb w' hs hlf hN hO hf hI hA
      clear hi'
      obtain ⟨T, h1, h2⟩ := hA 17 (by kernel_rfl)
      have q24 : bb.tmps[24]? = some (.slice (some ⟨T, 0, none⟩) 3 3) := hf.tmp (k := 17) rfl (by rw [ha]; decide) h1
      refine Rg.op_call (o := ⟨some 25, Op.call { callee := Callee.value (Operand.func 87), args := #[(Operand.tmp 24)], argTypes := _ }, _, _, _, _⟩) rfl rfl (by clear hA HS hN hO HR HC1 HC2 HO h1 h2; simp only [execOp, resolve]; go_simp) (HO T _ h2) ?_
      rintro e w2 ⟨rfl, rfl⟩
      exact ⟨_, rfl, _, rfl, (fun h => by cases h), rfl, hI, fun _ _ _ _ h => h⟩
    · intro ll bb w' hs hlf hN hO hf hI hA
      clear hi'
      have q25 : bb.tmps[25]? = some _ := hf.tmp (k := 18) rfl (by rw [ha]; decide) (hA 18 (by kernel_rfl))
      exact Rg.op_value (o := ⟨some 6, Op.assign (Operand.tmp 25), _, _, _, _⟩) (x := .int .i64 (orL [cmpI (rank x.1 n) (rank y.1 n), cmpI x.1.til y.1.til, cmpI x.1.id y.1.id])) rfl rfl (by clear hA HS hN hO HR HC1 HC2 HO; simp only [execOp]; go_simp) ⟨_, rfl, (fun h => by cases h), rfl, hI, fun _ _ _ _ h => h⟩
theorem dCu1_0 : Rg.dstAt (Rg.opsOf Try.f47 1) 0 = some 7 := by kernel_rfl
theorem dCu1_1 : Rg.dstAt (Rg.opsOf Try.f47 1) 1 = some 8 := by kernel_rfl
theorem dCu1_2 : Rg.dstAt (Rg.opsOf Try.f47 1) 2 = some 9 := by kernel_rfl
theorem dCu1_3 : Rg.dstAt (Rg.opsOf Try.f47 1) 3 = some 10 := by kernel_rfl
theorem dCu1_4 : Rg.dstAt (Rg.opsOf Try.f47 1) 4 = some 11 := by kernel_rfl
theorem dCu1_5 : Rg.dstAt (Rg.opsOf Try.f47 1) 5 = some 12 := by kernel_rfl
theorem dCu1_6 : Rg.dstAt (Rg.opsOf Try.f47 1) 6 = some 13 := by kernel_rfl
theorem dCu1_7 : Rg.dstAt (Rg.opsOf Try.f47 1) 7 = some 14 := by kernel_rfl
theorem dCu1_8 : Rg.dstAt (Rg.opsOf Try.f47 1) 8 = some 15 := by kernel_rfl
theorem dCu1_9 : Rg.dstAt (Rg.opsOf Try.f47 1) 9 = some 16 := by kernel_rfl
theorem dCu1_10 : Rg.dstAt (Rg.opsOf Try.f47 1) 10 = some 17 := by kernel_rfl
theorem dCu1_11 : Rg.dstAt (Rg.opsOf Try.f47 1) 11 = some 18 := by kernel_rfl
theorem dCu1_12 : Rg.dstAt (Rg.opsOf Try.f47 1) 12 = some 19 := by kernel_rfl
theorem dCu1_13 : Rg.dstAt (Rg.opsOf Try.f47 1) 13 = some 20 := by kernel_rfl
theorem dCu1_14 : Rg.dstAt (Rg.opsOf Try.f47 1) 14 = some 21 := by kernel_rfl
theorem dCu1_15 : Rg.dstAt (Rg.opsOf Try.f47 1) 15 = some 22 := by kernel_rfl
theorem dCu1_16 : Rg.dstAt (Rg.opsOf Try.f47 1) 16 = some 23 := by kernel_rfl
theorem dCu1_17 : Rg.dstAt (Rg.opsOf Try.f47 1) 17 = some 24 := by kernel_rfl
theorem dCu1_18 : Rg.dstAt (Rg.opsOf Try.f47 1) 18 = some 25 := by kernel_rfl
theorem dCu1_19 : Rg.dstAt (Rg.opsOf Try.f47 1) 19 = some 6 := by kernel_rfl
theorem layCu1 {a b : Act} (hf : Rg.Fr (Rg.opsOf Try.f47 1) a b) : b = ((((((((((((((((((((a.put (some 7) (Rg.out (Rg.opsOf Try.f47 1) b 0)).put (some 8) (Rg.out (Rg.opsOf Try.f47 1) b 1)).put (some 9) (Rg.out (Rg.opsOf Try.f47 1) b 2)).put (some 10) (Rg.out (Rg.opsOf Try.f47 1) b 3)).put (some 11) (Rg.out (Rg.opsOf Try.f47 1) b 4)).put (some 12) (Rg.out (Rg.opsOf Try.f47 1) b 5)).put (some 13) (Rg.out (Rg.opsOf Try.f47 1) b 6)).put (some 14) (Rg.out (Rg.opsOf Try.f47 1) b 7)).put (some 15) (Rg.out (Rg.opsOf Try.f47 1) b 8)).put (some 16) (Rg.out (Rg.opsOf Try.f47 1) b 9)).put (some 17) (Rg.out (Rg.opsOf Try.f47 1) b 10)).put (some 18) (Rg.out (Rg.opsOf Try.f47 1) b 11)).put (some 19) (Rg.out (Rg.opsOf Try.f47 1) b 12)).put (some 20) (Rg.out (Rg.opsOf Try.f47 1) b 13)).put (some 21) (Rg.out (Rg.opsOf Try.f47 1) b 14)).put (some 22) (Rg.out (Rg.opsOf Try.f47 1) b 15)).put (some 23) (Rg.out (Rg.opsOf Try.f47 1) b 16)).put (some 24) (Rg.out (Rg.opsOf Try.f47 1) b 17)).put (some 25) (Rg.out (Rg.opsOf Try.f47 1) b 18)).put (some 6) (Rg.out (Rg.opsOf Try.f47 1) b 19)) := by
  have h := hf.chain
  rw [sizeCu1, show List.range 20 = [0, 1, 2, 3, 4, 5, 6, 7, 8, 9, 10, 11, 12, 13, 14, 15, 16, 17, 18, 19] from by decide] at h
  simp only [List.foldl_cons, List.foldl_nil, dCu1_0, dCu1_1, dCu1_2, dCu1_3, dCu1_4, dCu1_5, dCu1_6, dCu1_7, dCu1_8, dCu1_9, dCu1_10, dCu1_11, dCu1_12, dCu1_13, dCu1_14, dCu1_15, dCu1_16, dCu1_17, dCu1_18, dCu1_19] at h
  exact h
def cmpU (n : Nd) (x y : UE) : Int := orL [cmpI (rank x.1 n) (rank y.1 n), cmpI x.1.til y.1.til, cmpI x.1.id y.1.id]
theorem cmpU_lt (n : Nd) (x y : UE) : cmpU n x y < 0 ↔ befB n x.1 y.1 = true := by
  unfold cmpU orL orL orL orL befB cmpI
  by_cases h1 : rank x.1 n = rank y.1 n
  · by_cases h2 : x.1.til = y.1.til
    · by_cases h3 : x.1.id < y.1.id
      · simp [h1, h2, h3]
      · by_cases h4 : y.1.id < x.1.id <;> simp [h1, h2, h3, h4]
    · by_cases h3 : x.1.til < y.1.til
      · simp [h1, h2, h3]
      · have h4 : y.1.til < x.1.til := by omega
        simp [h1, h2, h3, h4]
  · by_cases h3 : rank x.1 n < rank y.1 n
    · simp [h1, h3]
    · have h4 : rank y.1 n < rank x.1 n := by omega
      simp [h1, h3, h4]
set_option maxRecDepth 20000 in
set_option maxHeartbeats 4000000 in
theorem icompare_any (n : Nd) (sv : Value) (x y : UE) (w : World) (hx0 : 0 ≤ x.1.grp) (hx1 : x.1.grp ≤ 7) (hy0 : 0 ≤ y.1.grp) (hy1 : y.1.grp ≤ 7) (g0 : 0 ≤ n.g) (g1 : n.g ≤ 7) :
    Calls Try.prog 47 #[.agg #[.int .i64 n.p, .int .i64 n.g, sv], .agg #[.int .i64 x.1.id, .int .i64 x.1.grp, x.2, .int .i64 x.1.til, .int .i64 x.1.st, .int .i64 x.1.fr], .agg #[.int .i64 y.1.id, .int .i64 y.1.grp, y.2, .int .i64 y.1.til, .int .i64 y.1.st, .int .i64 y.1.fr]] w fun e w' => e = .returned (.int .i64 (cmpU n x y)) ∧ Below w.heap.size w w' := by
  have P0 := PB.new w #[.int .i64 n.p, .int .i64 n.g, sv] 27
  have P1 := PB.new (w.alloc (.cells #[.int .i64 n.p, .int .i64 n.g, sv] 27)) #[.int .i64 x.1.id, .int .i64 x.1.grp, x.2, .int .i64 x.1.til, .int .i64 x.1.st, .int .i64 x.1.fr] 81
  have P2 := PB.new ((w.alloc (.cells #[.int .i64 n.p, .int .i64 n.g, sv] 27)).alloc (.cells #[.int .i64 x.1.id, .int .i64 x.1.grp, x.2, .int .i64 x.1.til, .int .i64 x.1.st, .int .i64 x.1.fr] 81)) #[.int .i64 y.1.id, .int .i64 y.1.grp, y.2, .int .i64 y.1.til, .int .i64 y.1.st, .int .i64 y.1.fr] 81
  have Q0 := (P0.alloc (.cells #[.int .i64 x.1.id, .int .i64 x.1.grp, x.2, .int .i64 x.1.til, .int .i64 x.1.st, .int .i64 x.1.fr] 81)).alloc (.cells #[.int .i64 y.1.id, .int .i64 y.1.grp, y.2, .int .i64 y.1.til, .int .i64 y.1.st, .int .i64 y.1.fr] 81)
  have Q1 := P1.alloc (.cells #[.int .i64 y.1.id, .int .i64 y.1.grp, y.2, .int .i64 y.1.til, .int .i64 y.1.st, .int .i64 y.1.fr] 81)
  have hb : Below w.heap.size w (((w.alloc (.cells #[.int .i64 n.p, .int .i64 n.g, sv] 27)).alloc (.cells #[.int .i64 x.1.id, .int .i64 x.1.grp, x.2, .int .i64 x.1.til, .int .i64 x.1.st, .int .i64 x.1.fr] 81)).alloc (.cells #[.int .i64 y.1.id, .int .i64 y.1.grp, y.2, .int .i64 y.1.til, .int .i64 y.1.st, .int .i64 y.1.fr] 81)) := (((Below.refl _ _).alloc (Nat.le_refl _) _).alloc (by simp) _).alloc (by simp; omega) _
  simp only [World.size_alloc] at Q0 Q1 P2
  clear P0 P1
  go_enter Try.func47, Try.ntmps47
  go_upto_region 1 with fail
  generalize ((w.alloc (.cells #[.int .i64 n.p, .int .i64 n.g, sv] 27)).alloc (.cells #[.int .i64 x.1.id, .int .i64 x.1.grp, x.2, .int .i64 x.1.til, .int .i64 x.1.st, .int .i64 x.1.fr] 81)).alloc (.cells #[.int .i64 y.1.id, .int .i64 y.1.grp, y.2, .int .i64 y.1.til, .int .i64 y.1.st, .int .i64 y.1.fr] 81) = wA at *
  refine regCu1 (BN := w.heap.size) (BX := w.heap.size + 1) (BY := w.heap.size + 1 + 1) (n := n) (x := x) (y := y) (sv := sv) rfl rfl rfl rfl Q0 Q1 P2 (fun z hz W => ?_) (fun a b W => icmpI_any a b W) (fun a b W => icmpM_any a b W) (fun T W hW => iorL_any [cmpI (rank x.1 n) (rank y.1 n), cmpI x.1.til y.1.til, cmpI x.1.id y.1.id] T W (by simp) (fun i d hd => ?_)) ?_
  · rcases hz with rfl | rfl
    · exact irank_any n sv _ W hx0 hx1 g0 g1
    · exact irank_any n sv _ W hy0 hy1 g0 g1
  · have := hW.cell i
    rw [this]
    match i, hd with
    | 0, hd => exact congrArg (fun z => some (Value.int .i64 z)) (Option.some.inj hd)
    | 1, hd => exact congrArg (fun z => some (Value.int .i64 z)) (Option.some.inj hd)
    | 2, hd => exact congrArg (fun z => some (Value.int .i64 z)) (Option.some.inj hd)
    | i + 3, hd => simp at hd
  intro b' w' hf hI hv
  rw [layCu1 hf, hv]
  clear hv hf Q0 Q1 P2
  have hbe := hb.trans (hI.mono hb.size)
  generalize Rg.out (Rg.opsOf Try.f47 1) b' 0 = z0
  generalize Rg.out (Rg.opsOf Try.f47 1) b' 1 = z1
  generalize Rg.out (Rg.opsOf Try.f47 1) b' 2 = z2
  generalize Rg.out (Rg.opsOf Try.f47 1) b' 3 = z3
  generalize Rg.out (Rg.opsOf Try.f47 1) b' 4 = z4
  generalize Rg.out (Rg.opsOf Try.f47 1) b' 5 = z5
  generalize Rg.out (Rg.opsOf Try.f47 1) b' 6 = z6
  generalize Rg.out (Rg.opsOf Try.f47 1) b' 7 = z7
  generalize Rg.out (Rg.opsOf Try.f47 1) b' 8 = z8
  generalize Rg.out (Rg.opsOf Try.f47 1) b' 9 = z9
  generalize Rg.out (Rg.opsOf Try.f47 1) b' 10 = z10
  generalize Rg.out (Rg.opsOf Try.f47 1) b' 11 = z11
  generalize Rg.out (Rg.opsOf Try.f47 1) b' 12 = z12
  generalize Rg.out (Rg.opsOf Try.f47 1) b' 13 = z13
  generalize Rg.out (Rg.opsOf Try.f47 1) b' 14 = z14
  generalize Rg.out (Rg.opsOf Try.f47 1) b' 15 = z15
  generalize Rg.out (Rg.opsOf Try.f47 1) b' 16 = z16
  generalize Rg.out (Rg.opsOf Try.f47 1) b' 17 = z17
  generalize Rg.out (Rg.opsOf Try.f47 1) b' 18 = z18
  go_frame
  go_wp2_with fail
  go_ret
  exact ⟨rfl, hbe⟩
end Go.Proofs.Ytgcpiinmcbdkmaa
