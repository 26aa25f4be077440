/-
  Merged: Q9 Q10 Q12.
-/
import Derived.Test.YtgcpiinmcbdkmaaMh2
import Derived.Test.YtgcpiinmcbdkmaaMh5
namespace Go.Proofs.Ytgcpiinmcbdkmaa
open Go.RowKit Va Bl
set_option linter.unusedVariables false
theorem ret_boolQ {a b : Bool} (h : a = b) : Ending.returned (.bool a) = .returned (.bool b) := by rw [h]
theorem fin8 {u : Int} (h : rng u 0 7 = true) : ∃ a : Fin 8, u = (a.val : Int) := by
  have := rng_iff.1 h
  exact ⟨⟨u.toNat, by omega⟩, by simp; omega⟩
theorem red_bits {u p : Int} (hu : rng u 0 7 = true) (hp : rng p 0 7 = true) : (bits BinOp.andNot IntKind.i64 u p == 0) = redB u p := by
  obtain ⟨a, rfl⟩ := fin8 hu
  obtain ⟨b, rfl⟩ := fin8 hp
  revert a b
  decide +kernel
set_option maxHeartbeats 400000 in
theorem igroup_any (x : Int) (w : World) : Calls Try.prog 80 #[.int .i64 x] w fun e w' => e = .returned (.bool (rng x 0 7)) ∧ w' = w := by
  unfold rng
  go_enter Try.func80, Try.ntmps80
  go_wp2
  all_goals (go_ret; exact ⟨ret_boolQ (by first | (simp; done) | (simp; omega) | (simp_all; done) | (simp_all; omega) | (rw [Bool.eq_iff_iff]; simp; omega) | (rw [Bool.eq_iff_iff]; simp_all; omega)), rfl⟩)
set_option maxHeartbeats 400000 in
theorem sgroup_any (x : Int) (w : World) : Calls Try.prog 93 #[.int .i64 x] w fun e w' => e = .returned (.bool (rng x 0 7)) ∧ w' = w := by
  have hK := lin_any x 0 7
  go_enter Try.func93, Try.ntmps93
  go_wp2_with (go_at_call 52; refine (hK _).mono ?_; rintro e w1 ⟨rfl, rfl⟩)
  all_goals (go_ret; exact ⟨rfl, rfl⟩)
set_option maxRecDepth 20000 in
set_option maxHeartbeats 1000000 in
theorem ired_any (u p : Int) (w : World) : Calls Try.prog 141 #[.int .i64 u, .int .i64 p] w fun e w' => e = .returned (.bool (redB u p)) ∧ w' = w := by
  have k1 := igroup_any u
  have k2 := igroup_any p
  cases hu : rng u 0 7 with
  | false =>
    rw [hu] at k1
    have hno : Hid (redB u p = false) := by rw [Hid, redB, hu]; rfl
    clear hu
    go_enter Try.func141, Try.ntmps141
    go_wp2_with (go_at_call 80; with_reducible (first | refine (k1 _).mono ?_ | refine (k2 _).mono ?_); rintro e w1 ⟨rfl, rfl⟩)
    go_ret
    exact ⟨ret_boolQ hno.out.symm, rfl⟩
  | true =>
    cases hp : rng p 0 7 with
    | false =>
      rw [hu] at k1
      rw [hp] at k2
      have hno : Hid (redB u p = false) := by rw [Hid, redB, hu, hp]; rfl
      clear hu hp
      go_enter Try.func141, Try.ntmps141
      go_wp2_with (go_at_call 80; with_reducible (first | refine (k1 _).mono ?_ | refine (k2 _).mono ?_); rintro e w1 ⟨rfl, rfl⟩)
      go_ret
      exact ⟨ret_boolQ hno.out.symm, rfl⟩
    | true =>
      have hb := hidden (red_bits hu hp)
      rw [hu] at k1
      rw [hp] at k2
      clear hu hp
      go_enter Try.func141, Try.ntmps141
      go_wp2_with (go_at_call 80; with_reducible (first | refine (k1 _).mono ?_ | refine (k2 _).mono ?_); rintro e w1 ⟨rfl, rfl⟩)
      go_ret
      exact ⟨ret_boolQ (by first | exact hb.out | (rw [← hb.out]; simp)), rfl⟩
end Go.Proofs.Ytgcpiinmcbdkmaa

namespace Go.Proofs.Ytgcpiinmcbdkmaa
open Go.RowKit Va Bl
set_option linter.unusedVariables false
theorem red_iff {u p : Int} (hu : rng u 0 7 = true) (hp : rng p 0 7 = true) : redB u p = true ↔ ∀ k ∈ ([1, 2, 4] : List Int), ¬ (u / k % 2 = 1 ∧ p / k % 2 = 0) := by
  obtain ⟨a, rfl⟩ := fin8 hu
  obtain ⟨b, rfl⟩ := fin8 hp
  revert a b
  decide +kernel
theorem red_no {u p k : Int} (hu : rng u 0 7 = true) (hp : rng p 0 7 = true) (hk : k ∈ ([1, 2, 4] : List Int)) (h1 : u / k % 2 = 1) (h2 : p / k % 2 = 0) : redB u p = false := by
  cases q : redB u p with
  | false => rfl
  | true => exact absurd ⟨h1, h2⟩ ((red_iff hu hp).1 q k hk)
def redTo (u p : Int) (l : List Int) : Prop := ∀ k ∈ l, ¬ (u / k % 2 = 1 ∧ p / k % 2 = 0)
theorem redTo_nil (u p : Int) : redTo u p [] := fun k hk => by cases hk
theorem redTo_snoc {u p k : Int} {l : List Int} (h : redTo u p l) (hk : ¬ (u / k % 2 = 1 ∧ p / k % 2 = 0)) : redTo u p (l ++ [k]) := fun j hj => by
  rcases List.mem_append.1 hj with q | q
  · exact h j q
  · rw [List.mem_singleton.1 q]; exact hk
set_option maxRecDepth 20000 in
set_option maxHeartbeats 2000000 in
theorem sred_any (u p : Int) (w : World) : Calls Try.prog 95 #[.int .i64 u, .int .i64 p] w fun e w' => e = .returned (.bool (redB u p)) ∧ w' = w := by
  have k1 := sgroup_any u
  have k2 := sgroup_any p
  cases hu : rng u 0 7 with
  | false =>
    rw [hu] at k1
    have hno : Hid (redB u p = false) := by rw [Hid, redB, hu]; rfl
    clear hu
    go_enter Try.func95, Try.ntmps95
    go_wp2_with (go_at_call 93; with_reducible (first | refine (k1 _).mono ?_ | refine (k2 _).mono ?_); rintro e w1 ⟨rfl, rfl⟩)
    go_ret
    exact ⟨ret_boolQ hno.out.symm, rfl⟩
  | true =>
    cases hp : rng p 0 7 with
    | false =>
      rw [hu] at k1
      rw [hp] at k2
      have hno : Hid (redB u p = false) := by rw [Hid, redB, hu, hp]; rfl
      clear hu hp
      go_enter Try.func95, Try.ntmps95
      go_wp2_with (go_at_call 93; with_reducible (first | refine (k1 _).mono ?_ | refine (k2 _).mono ?_); rintro e w1 ⟨rfl, rfl⟩)
      go_ret
      exact ⟨ret_boolQ hno.out.symm, rfl⟩
    | true =>
      have HU := hidden hu
      have HP := hidden hp
      have bu := rng_iff.1 hu
      have bp := rng_iff.1 hp
      rw [hu] at k1
      rw [hp] at k2
      clear hu hp
      go_enter Try.func95, Try.ntmps95
      go_wp2_with (go_at_call 93; with_reducible (first | refine (k1 _).mono ?_ | refine (k2 _).mono ?_); rintro e w1 ⟨rfl, hw1⟩; obtain rfl := hw1.symm; clear hw1)
      go_loopw [5] (fun kv wr => wr = w ∧ (kv = .int .i64 1 ∧ Hid (redTo u p []) ∨ kv = .int .i64 2 ∧ Hid (redTo u p [1]) ∨ kv = .int .i64 4 ∧ Hid (redTo u p [1, 2]) ∨ kv = .int .i64 8 ∧ Hid (redTo u p [1, 2, 4]))) (fun kv _ => (8 - intOf kv).toNat)
      case atStart => exact ⟨rfl, Or.inl ⟨rfl, redTo_nil _ _⟩⟩
      case round =>
        obtain ⟨rfl, hrel⟩ := hrel
        rcases hrel with ⟨rfl, hT⟩ | ⟨rfl, hT⟩ | ⟨rfl, hT⟩ | ⟨rfl, hT⟩
        · cases q1 : (u % 2 == 1) with
          | true =>
            have r1 : u % 2 = 1 := by simpa using q1
            cases q2 : (p % 2 == 0) with
            | true =>
              have r2 : p % 2 = 0 := by simpa using q2
              have hno : Hid (redB u p = false) := red_no HU.out HP.out (.head _) (by simpa using r1) (by simpa using r2)
              go_wp2_with fail
              go_ret
              exact ⟨ret_boolQ hno.out.symm, rfl⟩
            | false =>
              have r2 : ¬ p % 2 = 0 := by simpa using q2
              have hS : Hid (redTo u p [1]) := redTo_snoc (l := []) hT.out (fun h => r2 (by simpa using h.2))
              go_wp2_with fail
              go_roundw
              case rel => exact ⟨by trivial, Or.inr (Or.inl ⟨rfl, hS⟩)⟩
              case measure => simp [intOf]
          | false =>
            have r1 : ¬ u % 2 = 1 := by simpa using q1
            have hS : Hid (redTo u p [1]) := redTo_snoc (l := []) hT.out (fun h => r1 (by simpa using h.1))
            go_wp2_with fail
            go_roundw
            case rel => exact ⟨by trivial, Or.inr (Or.inl ⟨rfl, hS⟩)⟩
            case measure => simp [intOf]
        · cases q1 : (u / 2 % 2 == 1) with
          | true =>
            have r1 : u / 2 % 2 = 1 := by simpa using q1
            cases q2 : (p / 2 % 2 == 0) with
            | true =>
              have r2 : p / 2 % 2 = 0 := by simpa using q2
              have hno : Hid (redB u p = false) := red_no HU.out HP.out (.tail _ (.head _)) (by simpa using r1) (by simpa using r2)
              go_wp2_with fail
              go_ret
              exact ⟨ret_boolQ hno.out.symm, rfl⟩
            | false =>
              have r2 : ¬ p / 2 % 2 = 0 := by simpa using q2
              have hS : Hid (redTo u p [1, 2]) := redTo_snoc (l := [1]) hT.out (fun h => r2 (by simpa using h.2))
              go_wp2_with fail
              go_roundw
              case rel => exact ⟨by trivial, Or.inr (Or.inr (Or.inl ⟨rfl, hS⟩))⟩
              case measure => simp [intOf]
          | false =>
            have r1 : ¬ u / 2 % 2 = 1 := by simpa using q1
            have hS : Hid (redTo u p [1, 2]) := redTo_snoc (l := [1]) hT.out (fun h => r1 (by simpa using h.1))
            go_wp2_with fail
            go_roundw
            case rel => exact ⟨by trivial, Or.inr (Or.inr (Or.inl ⟨rfl, hS⟩))⟩
            case measure => simp [intOf]
        · cases q1 : (u / 4 % 2 == 1) with
          | true =>
            have r1 : u / 4 % 2 = 1 := by simpa using q1
            cases q2 : (p / 4 % 2 == 0) with
            | true =>
              have r2 : p / 4 % 2 = 0 := by simpa using q2
              have hno : Hid (redB u p = false) := red_no HU.out HP.out (.tail _ (.tail _ (.head _))) (by simpa using r1) (by simpa using r2)
              go_wp2_with fail
              go_ret
              exact ⟨ret_boolQ hno.out.symm, rfl⟩
            | false =>
              have r2 : ¬ p / 4 % 2 = 0 := by simpa using q2
              have hS : Hid (redTo u p [1, 2, 4]) := redTo_snoc (l := [1, 2]) hT.out (fun h => r2 (by simpa using h.2))
              go_wp2_with fail
              go_roundw
              case rel => exact ⟨by trivial, Or.inr (Or.inr (Or.inr (⟨rfl, hS⟩)))⟩
              case measure => simp [intOf]
          | false =>
            have r1 : ¬ u / 4 % 2 = 1 := by simpa using q1
            have hS : Hid (redTo u p [1, 2, 4]) := redTo_snoc (l := [1, 2]) hT.out (fun h => r1 (by simpa using h.1))
            go_wp2_with fail
            go_roundw
            case rel => exact ⟨by trivial, Or.inr (Or.inr (Or.inr (⟨rfl, hS⟩)))⟩
            case measure => simp [intOf]
        · have hyes : Hid (redB u p = true) := (red_iff HU.out HP.out).2 hT.out
          go_wp2_with fail
          go_ret
          exact ⟨ret_boolQ hyes.out.symm, rfl⟩
end Go.Proofs.Ytgcpiinmcbdkmaa

namespace Go.Proofs.Ytgcpiinmcbdkmaa
open Go.RowKit Va Bl
set_option linter.all false
theorem nx_bad {α : Type} {ok : α → Bool} {key : α → Int} {l : List α} {i : Nat} {x : α} {y : Int} (hx : l[i]? = some x) (hy : ∀ z, 0 < i → l[i - 1]? = some z → y = key z)
    (h : ((!(ok x)) || ((decide ((0 : Int) < (i : Int))) && (decide (key x ≤ y)))) = true) : risB ok key l = false := by
  cases q : ok x with
  | false => exact ris_no hx q
  | true =>
    rw [q] at h
    simp only [Bool.not_true, Bool.false_or, Bool.and_eq_true, decide_eq_true_eq] at h
    have hlt := get_lt' hx
    obtain ⟨z, hz⟩ : ∃ z, l[i - 1]? = some z := ⟨_, List.getElem?_eq_getElem (show i - 1 < l.length by omega)⟩
    exact ris_no2 hx (by omega) hz (by rw [← hy z (by omega) hz]; exact h.2)
theorem nx_good {α : Type} {ok : α → Bool} {key : α → Int} {l : List α} {i : Nat} {x : α} {y : Int} (ht : RTo ok key l i) (hx : l[i]? = some x) (hy : ∀ z, 0 < i → l[i - 1]? = some z → y = key z)
    (h : ((!(ok x)) || ((decide ((0 : Int) < (i : Int))) && (decide (key x ≤ y)))) = false) : RTo ok key l (i + 1) := by
  simp only [Bool.or_eq_false_iff, Bool.not_eq_false', Bool.and_eq_false_iff, decide_eq_false_iff_not] at h
  exact ht.succ hx h.1 (fun z h0 hz => by have := hy z h0 hz; rcases h.2 with q | q <;> omega)
def keyAt {α : Type} (key : α → Int) (l : List α) (i : Nat) : Int := ((l[i]?).map key).getD 0
theorem keyAt_get {α : Type} {key : α → Int} {l : List α} {i : Nat} {x : α} (h : l[i]? = some x) : keyAt key l i = key x := by simp [keyAt, h]
set_option maxRecDepth 20000 in
set_option maxHeartbeats 4000000 in
theorem iants_any (ao : Option Addr) (n cap : Nat) (l : List Int) (w : World) (h : IRw w (.slice ao n cap) l) (hn : l.length ≤ 1048576) :
    Calls Try.prog 81 #[.slice ao n cap] w fun e w' => e = .returned (.bool (antB l)) ∧ w' = w := by
  obtain rfl := h.len
  have HH := hidden h
  clear h
  unfold antB
  go_enter Try.func81, Try.ntmps81
  go_wp2_with fail
  go_loopw [3, 4, 7] (fun _ _ iv wr => ∃ i : Nat, i ≤ l.length ∧ iv = .int .i64 i ∧ wr = w ∧ Hid (RTo (fun x => rng x 0 19) (fun x => x) l i)) (fun _ _ iv _ => l.length - (intOf iv).toNat)
  case atStart => exact ⟨0, Nat.zero_le _, rfl, rfl, RTo.zero _⟩
  case round =>
    obtain ⟨i, hi, rfl, rfl, hok⟩ := hrel
    by_cases hlt : i < l.length
    · have hlti : (i : Int) < (l.length : Int) := by omega
      obtain ⟨x, hx⟩ := some_of l i hlt
      obtain ⟨g, off, rfl, hg, hc⟩ := HH.out.at hx
      have c0 := hc i x hx
      by_cases q1 : x < 0
      · have hno : Hid (risB (fun x => rng x 0 19) (fun x => x) l = false) := ris_no hx (by simp [rng]; omega)
        clear hx hc hok
        go_wp2_with fail
        go_ret
        exact ⟨ret_boolQ hno.out.symm, rfl⟩
      by_cases q2 : 19 < x
      · have hno : Hid (risB (fun x => rng x 0 19) (fun x => x) l = false) := ris_no hx (by simp [rng]; omega)
        clear hx hc hok
        go_wp2_with fail
        go_ret
        exact ⟨ret_boolQ hno.out.symm, rfl⟩
      have hp : Hid (rng x 0 19 = true) := by rw [Hid, rng_iff]; omega
      by_cases h0 : (0 : Int) < (i : Int)
      · obtain ⟨y, hy⟩ := some_of l (i - 1) (by omega)
        have c1 := hc (i - 1) y hy
        have i1 : ((i : Int) - 1).toNat = i - 1 := by omega
        have i2 : (0 : Int) ≤ (i : Int) - 1 := by omega
        have i3 : (i : Int) - 1 < (l.length : Int) := by omega
        by_cases hxy : x ≤ y
        · have hno : Hid (risB (fun x => rng x 0 19) (fun x => x) l = false) := ris_no2 hx (by omega) hy hxy
          clear hx hc hok hy
          go_wp2_with fail
          go_ret
          exact ⟨ret_boolQ hno.out.symm, rfl⟩
        · have hok2 : Hid (RTo (fun x => rng x 0 19) (fun x => x) l (i + 1)) := RTo.succ hok.out hx hp.out (fun z _ hz => by rw [hy] at hz; cases hz; omega)
          clear hx hc hok hy
          go_wp2_with fail
          go_roundw
          case rel => exact ⟨i + 1, by omega, rfl, by simp, hok2⟩
          case measure => simp [intOf]; omega
      · have hok2 : Hid (RTo (fun x => rng x 0 19) (fun x => x) l (i + 1)) := RTo.succ hok.out hx hp.out (fun z hz _ => by omega)
        clear hx hc hok
        go_wp2_with fail
        go_roundw
        case rel => exact ⟨i + 1, by omega, rfl, by simp, hok2⟩
        case measure => simp [intOf]; omega
    · have hlti : ¬ (i : Int) < (l.length : Int) := by omega
      have hil : i = l.length := by omega
      subst hil
      have hyes : Hid (risB (fun x => rng x 0 19) (fun x => x) l = true) := ris_true hok.out
      go_wp2_with fail
      go_ret
      exact ⟨ret_boolQ hyes.out.symm, rfl⟩
set_option maxRecDepth 20000 in
set_option maxHeartbeats 8000000 in
theorem sants_any (ao : Option Addr) (n cap : Nat) (l : List Int) (w : World) (h : IRw w (.slice ao n cap) l) (hn : l.length ≤ 1048576) :
    Calls Try.prog 94 #[.slice ao n cap] w fun e w' => e = .returned (.bool (antB l)) ∧ Below w.heap.size w w' := by
  obtain rfl := h.len
  have HR := hidden h
  clear h
  unfold antB
  go_enter Try.func94, Try.ntmps94
  go_wp2_with fail
  go_loopw [3] (fun iv wr => ∃ i : Nat, i ≤ l.length ∧ iv = .int .i64 i ∧ Hid (RTo (fun x => rng x 0 19) (fun x => x) l i) ∧ Below w.heap.size w wr) (fun iv _ => l.length - (intOf iv).toNat)
  case atStart => exact ⟨0, Nat.zero_le _, rfl, RTo.zero _, Below.refl _ _⟩
  case round =>
    obtain ⟨i, hi, rfl, hok, hb⟩ := hrel
    by_cases hlt : i < l.length
    · have hlti : (i : Int) < (l.length : Int) := by omega
      obtain ⟨x, hx⟩ := some_of l i hlt
      obtain ⟨g, off, rfl, hg, hcs⟩ := (HR.out.below hb).at hx
      have c0 := hidden (hcs i x hx)
      obtain ⟨y, hyt⟩ : ∃ y : Int, y = keyAt (fun x => x) l (i - 1) := ⟨_, rfl⟩
      have hy0 : Hid (0 < i → wr.cell? ⟨g, off + (i - 1), none⟩ = some (.int .i64 y)) := fun q => by
        obtain ⟨z, hz⟩ := some_of l (i - 1) (by omega)
        rw [hyt, keyAt_get hz]
        exact hcs (i - 1) z hz
      have hyz : Hid (∀ z, 0 < i → l[i - 1]? = some z → y = z) := fun z _ hz => by rw [hyt, keyAt_get hz]
      have HX := hidden hx
      have hK := fun W => (lin_any x 0 19 W).mono (fun e w' (h : _ ∧ _) => (⟨h.1, h.2.symm⟩ : _ ∧ w' = W))
      clear hx hcs hyt
      go_upto_region 4 with fail
      refine regAn4 (x := x) (y := y) rfl rfl rfl hlt (by omega) hg c0.out hy0.out hK ?_
      intro b' w3 hf hb3 hv
      rw [layAn4 hf, hv]
      clear hv hf c0 hy0 hK
      generalize Rg.out (Rg.opsOf Try.f94 4) b' 0 = y0
      generalize Rg.out (Rg.opsOf Try.f94 4) b' 1 = y1
      generalize Rg.out (Rg.opsOf Try.f94 4) b' 2 = y2
      generalize Rg.out (Rg.opsOf Try.f94 4) b' 3 = y3
      generalize Rg.out (Rg.opsOf Try.f94 4) b' 4 = y4
      generalize Rg.out (Rg.opsOf Try.f94 4) b' 5 = y5
      generalize Rg.out (Rg.opsOf Try.f94 4) b' 6 = y6
      generalize Rg.out (Rg.opsOf Try.f94 4) b' 7 = y7
      generalize Rg.out (Rg.opsOf Try.f94 4) b' 8 = y8
      generalize Rg.out (Rg.opsOf Try.f94 4) b' 9 = y9
      generalize Rg.out (Rg.opsOf Try.f94 4) b' 10 = y10
      generalize Rg.out (Rg.opsOf Try.f94 4) b' 11 = y11
      generalize Rg.out (Rg.opsOf Try.f94 4) b' 12 = y12
      generalize Rg.out (Rg.opsOf Try.f94 4) b' 13 = y13
      generalize Rg.out (Rg.opsOf Try.f94 4) b' 14 = y14
      generalize Rg.out (Rg.opsOf Try.f94 4) b' 15 = y15
      generalize Rg.out (Rg.opsOf Try.f94 4) b' 16 = y16
      generalize Rg.out (Rg.opsOf Try.f94 4) b' 17 = y17
      generalize Rg.out (Rg.opsOf Try.f94 4) b' 18 = y18
      generalize Rg.out (Rg.opsOf Try.f94 4) b' 19 = y19
      generalize Rg.out (Rg.opsOf Try.f94 4) b' 20 = y20
      have HB3 := hidden (hb.trans (hb3.mono hb.size))
      clear hb3 hb
      generalize hBq : ((!(rng x 0 19)) || ((decide ((0 : Int) < (i : Int))) && (decide (x ≤ y)))) = Bq at *
      go_frame
      cases Bq with
      | true =>
        have HY : Hid (risB (fun x => rng x 0 19) (fun x => x) l = false) := nx_bad (key := fun x => x) HX.out hyz.out hBq
        clear hBq
        go_wp2_with fail
        go_ret
        exact ⟨ret_boolQ HY.out.symm, HB3.out⟩
      | false =>
        have HN : Hid (RTo (fun x => rng x 0 19) (fun x => x) l (i + 1)) := nx_good (key := fun x => x) hok.out HX.out hyz.out hBq
        clear hBq
        go_wp2_with fail
        go_roundw
        case rel => exact ⟨i + 1, by omega, rfl, HN, HB3.out⟩
        case measure => simp [intOf]; omega
    · have hlti : ¬ (i : Int) < (l.length : Int) := by omega
      have hil : i = l.length := by omega
      subst hil
      have HY : Hid (risB (fun x => rng x 0 19) (fun x => x) l = true) := ris_true hok.out
      go_wp2_with fail
      go_ret
      exact ⟨ret_boolQ HY.out.symm, hb⟩
set_option maxHeartbeats 400000 in
theorem iunit_any (x : Int) (w : World) : Calls Try.prog 118 #[.int .i64 x] w fun e w' => e = .returned (.bool (rng x 1 1000000)) ∧ w' = w := by
  unfold rng
  go_enter Try.func118, Try.ntmps118
  go_wp2
  all_goals (go_ret; exact ⟨ret_boolQ (by first | (simp; done) | (simp; omega) | (simp_all; done) | (simp_all; omega) | (rw [Bool.eq_iff_iff]; simp; omega) | (rw [Bool.eq_iff_iff]; simp_all; omega)), rfl⟩)
set_option maxHeartbeats 400000 in
theorem itime_any (x : Int) (w : World) : Calls Try.prog 43 #[.int .i64 x] w fun e w' => e = .returned (.bool (tmv x)) ∧ w' = w := by
  unfold tmv
  go_enter Try.func43, Try.ntmps43
  go_wp2
  all_goals (go_ret; exact ⟨ret_boolQ (by first | (simp; done) | (simp; omega) | (simp_all; done) | (simp_all; omega) | (rw [Bool.eq_iff_iff]; simp; omega) | (rw [Bool.eq_iff_iff]; simp_all; omega)), rfl⟩)
set_option maxHeartbeats 400000 in
theorem stime_any (x : Int) (w : World) : Calls Try.prog 51 #[.int .i64 x] w fun e w' => e = .returned (.bool (tmv x)) ∧ w' = w := by
  have k := lin_any x 0 10000000
  go_enter Try.func51, Try.ntmps51
  go_wp2_with (go_at_call 52; refine (k _).mono ?_; rintro e w1 ⟨rfl, rfl⟩)
  go_ret
  exact ⟨rfl, rfl⟩
set_option maxHeartbeats 400000 in
theorem sper_any (x : Int) (w : World) : Calls Try.prog 92 #[.int .i64 x] w fun e w' => e = .returned (.bool (perB x)) ∧ w' = w := by
  have k := lin_any x 0 999
  go_enter Try.func92, Try.ntmps92
  go_wp2_with (go_at_call 52; refine (k _).mono ?_; rintro e w1 ⟨rfl, rfl⟩)
  go_ret
  exact ⟨rfl, rfl⟩
set_option maxHeartbeats 400000 in
theorem iper_any (x : Int) (w : World) : Calls Try.prog 79 #[.int .i64 x] w fun e w' => e = .returned (.bool (perB x)) ∧ w' = w := by
  unfold perB rng
  go_enter Try.func79, Try.ntmps79
  go_wp2
  all_goals (go_ret; exact ⟨ret_boolQ (by first | (simp; done) | (simp; omega) | (simp_all; done) | (simp_all; omega) | (rw [Bool.eq_iff_iff]; simp; omega) | (rw [Bool.eq_iff_iff]; simp_all; omega)), rfl⟩)
end Go.Proofs.Ytgcpiinmcbdkmaa
