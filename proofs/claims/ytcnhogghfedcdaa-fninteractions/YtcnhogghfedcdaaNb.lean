/-
  Right rules, right drugs, what a rule forbids: the program and the specification.
-/
import Derived.Test.YtcnhogghfedcdaaGm
import Derived.Test.YtcnhogghfedcdaaGq
import Derived.Test.YtcnhogghfedcdaaNa
namespace Go.Proofs.Ytcnhogghfedcdaa
open Go.RowKit Va Ga
set_option linter.unusedVariables false

theorem bit_at {s : Nat} (hs : s < 18446744073709551616) (k : Nat) : (bits BinOp.and IntKind.u64 ((s : Int) / 2 ^ k) 1 == 1) = s.testBit k := by
  have e1 : ((s : Int) / 2 ^ k) = ((s / 2 ^ k : Nat) : Int) := by simp
  have hl : s / 2 ^ k < 18446744073709551616 := Nat.lt_of_le_of_lt (Nat.div_le_self _ _) hs
  rw [e1, show (1 : Int) = ((1 : Nat) : Int) from rfl, bits_and_u64_nat _ _ hl (by omega), Nat.and_one_is_mod, Nat.testBit_eq_decide_div_mod_eq]
  rw [Bool.eq_iff_iff]
  simp
  omega

set_option maxRecDepth 20000 in
set_option maxHeartbeats 2000000 in
theorem iru_any (x : Ru) (w : World) : Calls Try.prog 59 #[aRu x] w fun e w' => e = .returned (.bool (ruB x)) ∧ Below w.heap.size w w' := by
  have k1 := iclass_any x.a
  have k2 := iclass_any x.b
  unfold ruB aRu
  generalize rng x.a 0 63 = t1 at *
  generalize rng x.b 0 63 = t2 at *
  rcases t1 with _ | _
  · go_enter Try.func59, Try.ntmps59
    go_wp2_with (with_reducible (first | refine (k1 _).mono ?_ | refine (k2 _).mono ?_); rintro e w1 ⟨rfl, rfl⟩)
    all_goals go_ret
    all_goals exact ⟨by simp, by repeat (first | exact Below.refl _ _ | assumption | refine st_drew ?_ | refine st_drewN ?_ _ | refine Below.setCell ?_ (by first | omega | (simp; done) | (simp; omega)) _ | refine Below.alloc ?_ (by first | omega | (simp; done) | (simp; omega)) _)⟩
  rcases t2 with _ | _
  · go_enter Try.func59, Try.ntmps59
    go_wp2_with (with_reducible (first | refine (k1 _).mono ?_ | refine (k2 _).mono ?_); rintro e w1 ⟨rfl, rfl⟩)
    all_goals go_ret
    all_goals exact ⟨by simp, by repeat (first | exact Below.refl _ _ | assumption | refine st_drew ?_ | refine st_drewN ?_ _ | refine Below.setCell ?_ (by first | omega | (simp; done) | (simp; omega)) _ | refine Below.alloc ?_ (by first | omega | (simp; done) | (simp; omega)) _)⟩
  unfold rng
  by_cases h1 : 1 ≤ x.g
  case neg =>
    go_enter Try.func59, Try.ntmps59
    go_wp2_with (with_reducible (first | refine (k1 _).mono ?_ | refine (k2 _).mono ?_); rintro e w1 ⟨rfl, rfl⟩)
    all_goals go_ret
    all_goals exact ⟨ret_boolG (by first | (simp; done) | (simp; omega) | (simp_all; done) | (simp_all; omega) | (rw [Bool.eq_iff_iff]; simp; omega) | (rw [Bool.eq_iff_iff]; simp_all; omega)), by repeat (first | exact Below.refl _ _ | assumption | refine st_drew ?_ | refine st_drewN ?_ _ | refine Below.setCell ?_ (by first | omega | (simp; done) | (simp; omega)) _ | refine Below.alloc ?_ (by first | omega | (simp; done) | (simp; omega)) _)⟩
  go_enter Try.func59, Try.ntmps59
  go_wp2_with (with_reducible (first | refine (k1 _).mono ?_ | refine (k2 _).mono ?_); rintro e w1 ⟨rfl, rfl⟩)
  all_goals go_ret
  all_goals exact ⟨ret_boolG (by first | (simp; done) | (simp; omega) | (simp_all; done) | (simp_all; omega) | (rw [Bool.eq_iff_iff]; simp; omega) | (rw [Bool.eq_iff_iff]; simp_all; omega)), by repeat (first | exact Below.refl _ _ | assumption | refine st_drew ?_ | refine st_drewN ?_ _ | refine Below.setCell ?_ (by first | omega | (simp; done) | (simp; omega)) _ | refine Below.alloc ?_ (by first | omega | (simp; done) | (simp; omega)) _)⟩

set_option maxRecDepth 20000 in
set_option maxHeartbeats 2000000 in
theorem sru_any (x : Ru) (w : World) : Calls Try.prog 41 #[aRu x] w fun e w' => e = .returned (.bool (ruB x)) ∧ Below w.heap.size w w' := by
  have k1 := lin_any x.a 0 63
  have k2 := lin_any x.b 0 63
  have k3 := lin_any x.g 1 3
  unfold ruB aRu
  generalize rng x.a 0 63 = t1 at *
  generalize rng x.b 0 63 = t2 at *
  generalize rng x.g 1 3 = t3 at *
  rcases t1 with _ | _
  · go_enter Try.func41, Try.ntmps41
    go_wp2_with (with_reducible (first | refine (k1 _).mono ?_ | refine (k2 _).mono ?_ | refine (k3 _).mono ?_); rintro e w1 ⟨rfl, rfl⟩)
    all_goals go_ret
    all_goals exact ⟨by simp, by repeat (first | exact Below.refl _ _ | assumption | refine st_drew ?_ | refine st_drewN ?_ _ | refine Below.setCell ?_ (by first | omega | (simp; done) | (simp; omega)) _ | refine Below.alloc ?_ (by first | omega | (simp; done) | (simp; omega)) _)⟩
  rcases t2 with _ | _
  · go_enter Try.func41, Try.ntmps41
    go_wp2_with (with_reducible (first | refine (k1 _).mono ?_ | refine (k2 _).mono ?_ | refine (k3 _).mono ?_); rintro e w1 ⟨rfl, rfl⟩)
    all_goals go_ret
    all_goals exact ⟨by simp, by repeat (first | exact Below.refl _ _ | assumption | refine st_drew ?_ | refine st_drewN ?_ _ | refine Below.setCell ?_ (by first | omega | (simp; done) | (simp; omega)) _ | refine Below.alloc ?_ (by first | omega | (simp; done) | (simp; omega)) _)⟩
  rcases t3 with _ | _
  · go_enter Try.func41, Try.ntmps41
    go_wp2_with (with_reducible (first | refine (k1 _).mono ?_ | refine (k2 _).mono ?_ | refine (k3 _).mono ?_); rintro e w1 ⟨rfl, rfl⟩)
    all_goals go_ret
    all_goals exact ⟨by simp, by repeat (first | exact Below.refl _ _ | assumption | refine st_drew ?_ | refine st_drewN ?_ _ | refine Below.setCell ?_ (by first | omega | (simp; done) | (simp; omega)) _ | refine Below.alloc ?_ (by first | omega | (simp; done) | (simp; omega)) _)⟩
  go_enter Try.func41, Try.ntmps41
  go_wp2_with (with_reducible (first | refine (k1 _).mono ?_ | refine (k2 _).mono ?_ | refine (k3 _).mono ?_); rintro e w1 ⟨rfl, rfl⟩)
  go_ret
  exact ⟨rfl, by repeat (first | exact Below.refl _ _ | assumption | refine st_drew ?_ | refine st_drewN ?_ _ | refine Below.setCell ?_ (by first | omega | (simp; done) | (simp; omega)) _ | refine Below.alloc ?_ (by first | omega | (simp; done) | (simp; omega)) _)⟩

set_option maxRecDepth 20000 in
set_option maxHeartbeats 2000000 in
theorem irus_any (ao : Option Addr) (n cap : Nat) (l : List Ru) (w : World) (h : Rw 3 csRu w (.slice ao n cap) l) (hn : l.length ≤ 1048576) :
    Calls Try.prog 38 #[.slice ao n cap] w fun e w' => e = .returned (.bool (rsB l)) ∧ Below w.heap.size w w' := by
  obtain rfl := h.len
  have HH := hidden h
  clear h
  unfold rsB
  by_cases h8 : (200 : Int) < (l.length : Int)
  · have hno : Hid (decide (l.length ≤ 200) = false) := by rw [Hid]; simp; omega
    go_enter Try.func38, Try.ntmps38
    go_wp2_with fail
    go_ret
    exact ⟨by rw [hno.out]; rfl, Below.refl _ _⟩
  have hyes0 : Hid (decide (l.length ≤ 200) = true) := by rw [Hid]; simp; omega
  go_enter Try.func38, Try.ntmps38
  go_wp2_with fail
  go_loopw [4, 10] (fun _ iv wr => ∃ i : Nat, i ≤ l.length ∧ iv = .int .i64 i ∧ Below w.heap.size w wr ∧ Hid (∀ j x, j < i → l[j]? = some x → ruB x = true)) (fun _ iv _ => l.length - (intOf iv).toNat)
  case atStart => exact ⟨0, Nat.zero_le _, rfl, Below.refl _ _, fun j x hj => absurd hj (Nat.not_lt_zero _)⟩
  case round =>
    obtain ⟨i, hi, rfl, hb, hok⟩ := hrel
    have hsz := hb.size
    by_cases hlt : i < l.length
    · have hlti : (i : Int) < (l.length : Int) := by omega
      obtain ⟨x, hx⟩ := some_of l i hlt
      obtain ⟨g, off, rfl, hg, hcs⟩ := (HH.out.below hb).at hx
      have c0 : wr.cell? ⟨g, off + i * 3, none⟩ = some (.int .i64 x.a) := hcs 0 (by omega)
      have c1 : wr.cell? ⟨g, off + i * 3 + 1, none⟩ = some (.int .i64 x.b) := hcs 1 (by omega)
      have c2 : wr.cell? ⟨g, off + i * 3 + 2, none⟩ = some (.int .i64 x.g) := hcs 2 (by omega)
      have HX := hidden hx
      have hK := iru_any x
      unfold aRu at hK
      cases hp : ruB x with
      | false =>
        rw [hp] at hK
        have hno : Hid (l.all ruB = false) := by rw [Hid, List.all_eq_false]; exact ⟨x, List.mem_of_getElem? HX.out, by rw [hp]; simp⟩
        clear hx hcs hok hp
        go_wp2_with (go_at_call 59; refine (hK _).mono ?_; rintro e w1 ⟨rfl, hb1⟩; have bA := onto (show Below w.heap.size w _ from by repeat (first | exact Below.refl _ _ | assumption | refine st_drew ?_ | refine st_drewN ?_ _ | refine Below.setCell ?_ (by first | omega | (simp; done) | (simp; omega)) _ | refine Below.alloc ?_ (by first | omega | (simp; done) | (simp; omega)) _)) hb1; clear hb1)
        go_ret
        exact ⟨by rw [hno.out]; simp, bA⟩
      | true =>
        rw [hp] at hK
        have hok2 : Hid (∀ j y, j < i + 1 → l[j]? = some y → ruB y = true) := fun j y hj hy => by
          rcases Nat.lt_succ_iff_lt_or_eq.1 hj with k | rfl
          · exact hok.out j y k hy
          · rw [HX.out] at hy; cases hy; exact hp
        clear hx hcs hok hp
        go_wp2_with (go_at_call 59; refine (hK _).mono ?_; rintro e w1 ⟨rfl, hb1⟩; have bA := onto (show Below w.heap.size w _ from by repeat (first | exact Below.refl _ _ | assumption | refine st_drew ?_ | refine st_drewN ?_ _ | refine Below.setCell ?_ (by first | omega | (simp; done) | (simp; omega)) _ | refine Below.alloc ?_ (by first | omega | (simp; done) | (simp; omega)) _)) hb1; clear hb1)
        go_roundw
        case rel => exact ⟨i + 1, by omega, rfl, bA, hok2⟩
        case measure => simp [intOf]; omega
    · have hlti : ¬ (i : Int) < (l.length : Int) := by omega
      have hil : i = l.length := by omega
      have hyes : Hid (l.all ruB = true) := by
        rw [Hid, List.all_eq_true]
        intro x hx
        obtain ⟨j, hj⟩ := List.getElem?_of_mem hx
        exact hok.out j x (by have := get_lt' hj; omega) hj
      go_wp2_with fail
      go_ret
      exact ⟨by rw [hyes.out, hyes0.out]; rfl, hb⟩

set_option maxRecDepth 5000 in
set_option maxHeartbeats 500000 in
theorem idrugs_any (ao : Option Addr) (n cap : Nat) (l : List Dg) (w : World) (h : DRw w (.slice ao n cap) l) (hn : l.length ≤ 1048576) (ht : ∀ x ∈ l, x.cls.length ≤ 1048576) :
    Calls Try.prog 37 #[.slice ao n cap] w fun e w' => e = .returned (.bool (dsB l)) ∧ Below w.heap.size w w' := by
  obtain rfl := h.len
  have HH := hidden h
  clear h
  unfold dsB
  by_cases h8 : (50 : Int) < (l.length : Int)
  · have hno : Hid (decide (l.length ≤ 50) = false) := by rw [Hid]; simp; omega
    go_enter Try.func37, Try.ntmps37
    go_wp2_with fail
    go_ret
    exact ⟨by rw [hno.out]; rfl, Below.refl _ _⟩
  have hyes0 : Hid (decide (l.length ≤ 50) = true) := by rw [Hid]; simp; omega
  go_enter Try.func37, Try.ntmps37
  go_wp2_with fail
  go_loopw [4, 10] (fun _ iv wr => ∃ i : Nat, i ≤ l.length ∧ iv = .int .i64 i ∧ Below w.heap.size w wr ∧ Hid (∀ j x, j < i → l[j]? = some x → drugB x = true)) (fun _ iv _ => l.length - (intOf iv).toNat)
  case atStart => exact ⟨0, Nat.zero_le _, rfl, Below.refl _ _, fun j x hj => absurd hj (Nat.not_lt_zero _)⟩
  case round =>
    obtain ⟨i, hi, rfl, hb, hok⟩ := hrel
    have hsz := hb.size
    by_cases hlt : i < l.length
    · have hlti : (i : Int) < (l.length : Int) := by omega
      obtain ⟨x, hx⟩ := some_of l i hlt
      obtain ⟨g, off, ta, tc, rfl, hg, hrow, c0, c1, c2, c3, c4, c5⟩ := (HH.out.below hb).at hx
      have HX := hidden hx
      have hK := fun W hW => idrugok_any x ta x.cls.length tc W hW (ht x (List.mem_of_getElem? hx))
      have HRW := hidden (fun W (hW : Below wr.heap.size wr W) => hrow.below hW)
      unfold aD at hK
      cases hp : drugB x with
      | false =>
        rw [hp] at hK
        have hno : Hid (l.all drugB = false) := by rw [Hid, List.all_eq_false]; exact ⟨x, List.mem_of_getElem? HX.out, by rw [hp]; simp⟩
        clear hx hrow hok hp
        go_wp2_with (go_at_call 27; refine (hK _ (HRW.out _ (by repeat (first | exact Below.refl _ _ | assumption | refine st_drew ?_ | refine st_drewN ?_ _ | refine Below.setCell ?_ (by first | omega | (simp; done) | (simp; omega)) _ | refine Below.alloc ?_ (by first | omega | (simp; done) | (simp; omega)) _)))).mono ?_; rintro e w1 ⟨rfl, hb1⟩; have bA := onto (show Below w.heap.size w _ from by repeat (first | exact Below.refl _ _ | assumption | refine st_drew ?_ | refine st_drewN ?_ _ | refine Below.setCell ?_ (by first | omega | (simp; done) | (simp; omega)) _ | refine Below.alloc ?_ (by first | omega | (simp; done) | (simp; omega)) _)) hb1; clear hb1)
        go_ret
        exact ⟨by rw [hno.out]; simp, bA⟩
      | true =>
        rw [hp] at hK
        have hok2 : Hid (∀ j y, j < i + 1 → l[j]? = some y → drugB y = true) := fun j y hj hy => by
          rcases Nat.lt_succ_iff_lt_or_eq.1 hj with k | rfl
          · exact hok.out j y k hy
          · rw [HX.out] at hy; cases hy; exact hp
        clear hx hrow hok hp
        go_wp2_with (go_at_call 27; refine (hK _ (HRW.out _ (by repeat (first | exact Below.refl _ _ | assumption | refine st_drew ?_ | refine st_drewN ?_ _ | refine Below.setCell ?_ (by first | omega | (simp; done) | (simp; omega)) _ | refine Below.alloc ?_ (by first | omega | (simp; done) | (simp; omega)) _)))).mono ?_; rintro e w1 ⟨rfl, hb1⟩; have bA := onto (show Below w.heap.size w _ from by repeat (first | exact Below.refl _ _ | assumption | refine st_drew ?_ | refine st_drewN ?_ _ | refine Below.setCell ?_ (by first | omega | (simp; done) | (simp; omega)) _ | refine Below.alloc ?_ (by first | omega | (simp; done) | (simp; omega)) _)) hb1; clear hb1)
        go_roundw
        case rel => exact ⟨i + 1, by omega, rfl, bA, hok2⟩
        case measure => simp [intOf]; omega
    · have hlti : ¬ (i : Int) < (l.length : Int) := by omega
      have hil : i = l.length := by omega
      have hyes : Hid (l.all drugB = true) := by
        rw [Hid, List.all_eq_true]
        intro x hx
        obtain ⟨j, hj⟩ := List.getElem?_of_mem hx
        exact hok.out j x (by have := get_lt' hj; omega) hj
      go_wp2_with fail
      go_ret
      exact ⟨by rw [hyes.out, hyes0.out]; rfl, hb⟩

set_option maxHeartbeats 1000000 in
theorem ihas_any (s k : Nat) (hs : s < 18446744073709551616) (hk : k < 64) (w : World) : Calls Try.prog 70 #[.int .u64 s, .int .i64 k] w fun e w' => e = .returned (.bool (s.testBit k)) ∧ w' = w := by
  go_enter Try.func70, Try.ntmps70
  go_wp2_with fail
  go_ret
  exact ⟨ret_boolG (bit_at hs k), rfl⟩

set_option maxRecDepth 20000 in
set_option maxHeartbeats 4000000 in
theorem iforb_any (r : Ru) (s u : Nat) (l m : List Int) (hr : ruB r = true) (hs : Bts s l) (hu : Bts u m) (w : World) :
    Calls Try.prog 61 #[aRu r, .int .u64 s, .int .u64 u] w fun e w' => e = .returned (.bool (rfit r l m)) ∧ Below w.heap.size w w' := by
  obtain ⟨ra, rb, rg⟩ := r
  simp only [ruB, Bool.and_eq_true, rng_iff] at hr
  obtain ⟨⟨a0, a1⟩, ⟨b0, b1⟩, -⟩ := hr
  obtain ⟨a, rfl⟩ := Int.eq_ofNat_of_zero_le a0
  obtain ⟨b, rfl⟩ := Int.eq_ofNat_of_zero_le b0
  have k1 := ihas_any s a hs.1 (by omega)
  have k2 := ihas_any u b hu.1 (by omega)
  have k3 := ihas_any s b hs.1 (by omega)
  have k4 := ihas_any u a hu.1 (by omega)
  have e : ∀ {q : Nat} {L : List Int} {c : Nat}, Bts q L → c < 64 → q.testBit c = hasB L (c : Int) := fun hb hc => by rw [hb.2]; simp [hc]
  rw [e hs (by omega)] at k1 k3
  rw [e hu (by omega)] at k2 k4
  unfold aRu rfit
  dsimp only
  generalize hasB l (a : Int) = t1 at *
  generalize hasB m (b : Int) = t2 at *
  generalize hasB l (b : Int) = t3 at *
  generalize hasB m (a : Int) = t4 at *
  clear e hs hu
  rcases t1 with _ | _ <;> rcases t2 with _ | _ <;> rcases t3 with _ | _ <;> rcases t4 with _ | _
  all_goals go_enter Try.func61, Try.ntmps61
  all_goals (go_wp2_with (with_reducible (first | refine (k1 _).mono ?_ | refine (k2 _).mono ?_ | refine (k3 _).mono ?_ | refine (k4 _).mono ?_); rintro e w1 ⟨rfl, rfl⟩))
  all_goals go_ret
  all_goals exact ⟨rfl, by repeat (first | exact Below.refl _ _ | assumption | refine st_drew ?_ | refine st_drewN ?_ _ | refine Below.setCell ?_ (by first | omega | (simp; done) | (simp; omega)) _ | refine Below.alloc ?_ (by first | omega | (simp; done) | (simp; omega)) _)⟩
end Go.Proofs.Ytcnhogghfedcdaa
