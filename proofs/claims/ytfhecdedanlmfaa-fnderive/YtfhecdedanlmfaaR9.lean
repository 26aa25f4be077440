/-
  The specification: laws that are right.
-/
import Derived.Test.YtfhecdedanlmfaaR7
import Derived.Deep.RegionWith
namespace Go.Proofs.Ytfhecdedanlmfaa
open Go.RowKit Va Rc
set_option linter.all false

def bl (t x : Int) : Bool := decide (0 ≤ x) && decide (x < t)
theorem lawB_loops {x : Lw} (h1 : factB x.thn = true) (h2 : x.ifs.length ≤ 64) (h3 : x.nots.length ≤ 64) : lawB x = (x.ifs.all (bl x.thn) && x.nots.all (bl x.thn)) := by
  unfold lawB belowB
  rw [h1, decide_eq_true h2, decide_eq_true h3]
  rfl
theorem bl_in {t x : Int} : (decide (0 ≤ x) && decide (x ≤ t - 1)) = bl t x := by
  unfold bl
  congr 1
  rw [Bool.eq_iff_iff]
  simp
  omega

set_option maxRecDepth 20000 in
set_option maxHeartbeats 4000000 in
theorem slaw_any (x : Lw) (ta : Option Addr) (tn tc : Nat) (ua : Option Addr) (un uc : Nat) (w : World) (h1 : IRw w (.slice ta tn tc) x.ifs) (h2 : IRw w (.slice ua un uc) x.nots) (hn1 : x.ifs.length ≤ 1048576) (hn2 : x.nots.length ≤ 1048576) :
    Calls Try.prog 31 #[aL x (.slice ta tn tc) (.slice ua un uc)] w fun e w' => e = .returned (.bool (lawB x)) ∧ Below w.heap.size w w' := by
  obtain rfl := h1.len
  obtain rfl := h2.len
  have k0 := fun W => lin_any x.thn 0 63 W
  have k1 : ∀ y W, Calls Try.prog 30 #[.int .i64 y, .int .i64 0, .int .i64 (x.thn - 1)] W fun e w' => e = .returned (.bool (bl x.thn y)) ∧ W = w' := fun y W => by
    have := lin_any y 0 (x.thn - 1) W
    unfold rng at this
    rw [bl_in] at this
    exact this
  have HA := hidden (fun W (hW : Below w.heap.size w W) => h1.below hW)
  have HB := hidden (fun W (hW : Below w.heap.size w W) => h2.below hW)
  have P0 := hidden (PB.new w #[.slice ta x.ifs.length tc, .slice ua x.nots.length uc, .int .i64 x.thn] 31)
  have b0 : Below w.heap.size w (w.alloc (.cells #[.slice ta x.ifs.length tc, .slice ua x.nots.length uc, .int .i64 x.thn] 31)) := by repeat (first | exact Below.refl _ _ | assumption | refine st_drew ?_ | refine st_drewN ?_ _ | refine Below.setCell ?_ (by first | omega | (simp; done) | (simp; omega)) _ | refine Below.alloc ?_ (by first | omega | (simp; done) | (simp; omega)) _)
  have e0 : rng x.thn 0 63 = factB x.thn := by unfold rng factB; congr 1; rw [Bool.eq_iff_iff]; simp; omega
  rw [e0] at k0
  clear h1 h2 e0
  unfold aL
  cases hf : factB x.thn with
  | false =>
    have HF : Hid (lawB x = false) := by unfold lawB; rw [hf]; rfl
    rw [hf] at k0
    clear hf
    go_enter Try.func31, Try.ntmps31
    go_wp2_with (go_at_call 30; with_reducible refine (k0 _).mono ?_; rintro e w1 ⟨rfl, e1⟩; obtain rfl := e1)
    go_ret
    exact ⟨ret_boolQ HF.out.symm, by repeat (first | exact Below.refl _ _ | assumption | refine st_drew ?_ | refine st_drewN ?_ _ | refine Below.setCell ?_ (by first | omega | (simp; done) | (simp; omega)) _ | refine Below.alloc ?_ (by first | omega | (simp; done) | (simp; omega)) _)⟩
  | true =>
  have ht : 0 ≤ x.thn ∧ x.thn < 64 := by unfold factB at hf; simpa using hf
  have ht0 := ht.1
  have k1' : ∀ y W, Calls Try.prog 30 #[.int .i64 y, .int .i64 0, .int .i64 (IntKind.i64.wrap (x.thn - 1))] W fun e w' => e = .returned (.bool (bl x.thn y)) ∧ W = w' := fun y W => by rw [IntWalk.i64_in _ (by omega)]; exact k1 y W
  clear k1
  have ht1 := ht.2
  clear ht
  by_cases hq1 : (x.ifs.length : Int) > 64
  · have HF : Hid (lawB x = false) := by show lawB x = false; unfold lawB; rw [decide_eq_false (show ¬ x.ifs.length ≤ 64 by omega)]; simp
    rw [hf] at k0
    clear hf
    go_enter Try.func31, Try.ntmps31
    go_wp2_with (go_at_call 30; with_reducible refine (k0 _).mono ?_; rintro e w1 ⟨rfl, e1⟩; obtain rfl := e1)
    go_ret
    exact ⟨ret_boolQ HF.out.symm, by repeat (first | exact Below.refl _ _ | assumption | refine st_drew ?_ | refine st_drewN ?_ _ | refine Below.setCell ?_ (by first | omega | (simp; done) | (simp; omega)) _ | refine Below.alloc ?_ (by first | omega | (simp; done) | (simp; omega)) _)⟩
  by_cases hq2 : (x.nots.length : Int) > 64
  · have HF : Hid (lawB x = false) := by show lawB x = false; unfold lawB; rw [decide_eq_false (show ¬ x.nots.length ≤ 64 by omega)]; simp
    rw [hf] at k0
    clear hf
    go_enter Try.func31, Try.ntmps31
    go_wp2_with (go_at_call 30; with_reducible refine (k0 _).mono ?_; rintro e w1 ⟨rfl, e1⟩; obtain rfl := e1)
    go_ret
    exact ⟨ret_boolQ HF.out.symm, by repeat (first | exact Below.refl _ _ | assumption | refine st_drew ?_ | refine st_drewN ?_ _ | refine Below.setCell ?_ (by first | omega | (simp; done) | (simp; omega)) _ | refine Below.alloc ?_ (by first | omega | (simp; done) | (simp; omega)) _)⟩
  have HE := hidden (lawB_loops hf (by omega) (by omega))
  rw [hf] at k0
  clear hf
  go_enter Try.func31, Try.ntmps31
  go_wp2_with (go_at_call 30; with_reducible refine (k0 _).mono ?_; rintro e w1 ⟨rfl, e1⟩; obtain rfl := e1)
  go_loopw [3] (fun iv wr => ∃ i : Nat, i ≤ x.ifs.length ∧ iv = .int .i64 i ∧ Below w.heap.size w wr ∧ Hid (PB wr w.heap.size #[.slice ta x.ifs.length tc, .slice ua x.nots.length uc, .int .i64 x.thn] 31) ∧ Hid ((x.ifs.take i).all (bl x.thn) = true)) (fun iv _ => x.ifs.length - (intOf iv).toNat)
  case atStart => exact ⟨0, Nat.zero_le _, rfl, b0, P0, rfl⟩
  case round =>
    obtain ⟨i, hi, rfl, hb, hp, hok⟩ := hrel
    have hsz := hb.size
    obtain ⟨p0, p1, p2⟩ := hp.out.three
    by_cases hlt : i < x.ifs.length
    · have hlti : (i : Int) < (x.ifs.length : Int) := by omega
      obtain ⟨y, hy⟩ := some_of x.ifs i hlt
      obtain ⟨g, off, rfl, hg, hc⟩ := (HA.out _ hb).at hy
      have c0 := hc i y hy
      have HX := hidden hy
      have hK := k1' y
      clear hy hc
      cases hq : bl x.thn y with
      | true =>
        rw [hq] at hK
        have HN : Hid ((x.ifs.take (i + 1)).all (bl x.thn) = true) := all_takeQ hok.out HX.out hq
        clear hq
        go_wp2_with fail
        first | go_region_with (go_at_call 30; with_reducible refine (hK _).mono ?_; rintro e w1 ⟨rfl, e1⟩; obtain rfl := e1) | fail
        all_goals go_wp2_with fail
        all_goals go_roundw
        all_goals first
          | exact ⟨i + 1, by omega, rfl, by repeat (first | exact Below.refl _ _ | assumption | refine st_drew ?_ | refine st_drewN ?_ _ | refine Below.setCell ?_ (by first | omega | (simp; done) | (simp; omega)) _ | refine Below.alloc ?_ (by first | omega | (simp; done) | (simp; omega)) _), hp, HN⟩
          | (simp [intOf]; omega)
      | false =>
        rw [hq] at hK
        have HY : Hid (x.ifs.all (bl x.thn) = false) := all_falseQ HX.out hq
        clear hq
        go_wp2_with fail
        first | go_region_with (go_at_call 30; with_reducible refine (hK _).mono ?_; rintro e w1 ⟨rfl, e1⟩; obtain rfl := e1) | fail
        all_goals go_wp2_with fail
        all_goals go_ret
        all_goals exact ⟨ret_boolQ (by rw [HE.out, HY.out]; simp), by repeat (first | exact Below.refl _ _ | assumption | refine st_drew ?_ | refine st_drewN ?_ _ | refine Below.setCell ?_ (by first | omega | (simp; done) | (simp; omega)) _ | refine Below.alloc ?_ (by first | omega | (simp; done) | (simp; omega)) _)⟩
    · have hlti : ¬ (i : Int) < (x.ifs.length : Int) := by omega
      have hil : i = x.ifs.length := by omega
      have HQ3 : Hid (x.ifs.all (bl x.thn) = true) := by have := hok.out; rw [hil, List.take_length] at this; exact this
      clear hok hil hlt
      go_wp2_with fail
      clear p0 p1 p2
      have P1 := hp
      have bX := hb
      clear hp hb
      go_loopw [4] (fun iv wr => ∃ i : Nat, i ≤ x.nots.length ∧ iv = .int .i64 i ∧ Below w.heap.size w wr ∧ Hid (PB wr w.heap.size #[.slice ta x.ifs.length tc, .slice ua x.nots.length uc, .int .i64 x.thn] 31) ∧ Hid ((x.nots.take i).all (bl x.thn) = true)) (fun iv _ => x.nots.length - (intOf iv).toNat)
      case atStart => exact ⟨0, Nat.zero_le _, rfl, bX, P1, rfl⟩
      case round =>
        obtain ⟨i, hi, rfl, hb, hp, hok⟩ := hrel
        have hsz := hb.size
        obtain ⟨p0, p1, p2⟩ := hp.out.three
        by_cases hlt : i < x.nots.length
        · have hlti : (i : Int) < (x.nots.length : Int) := by omega
          obtain ⟨y, hy⟩ := some_of x.nots i hlt
          obtain ⟨g, off, rfl, hg, hc⟩ := (HB.out _ hb).at hy
          have c0 := hc i y hy
          have HX := hidden hy
          have hK := k1' y
          clear hy hc
          cases hq : bl x.thn y with
          | true =>
            rw [hq] at hK
            have HN : Hid ((x.nots.take (i + 1)).all (bl x.thn) = true) := all_takeQ hok.out HX.out hq
            clear hq
            go_wp2_with fail
            first | go_region_with (go_at_call 30; with_reducible refine (hK _).mono ?_; rintro e w1 ⟨rfl, e1⟩; obtain rfl := e1) | fail
            all_goals go_wp2_with fail
            all_goals go_roundw
            all_goals first
              | exact ⟨i + 1, by omega, rfl, by repeat (first | exact Below.refl _ _ | assumption | refine st_drew ?_ | refine st_drewN ?_ _ | refine Below.setCell ?_ (by first | omega | (simp; done) | (simp; omega)) _ | refine Below.alloc ?_ (by first | omega | (simp; done) | (simp; omega)) _), hp, HN⟩
              | (simp [intOf]; omega)
          | false =>
            rw [hq] at hK
            have HY : Hid (x.nots.all (bl x.thn) = false) := all_falseQ HX.out hq
            clear hq
            go_wp2_with fail
            first | go_region_with (go_at_call 30; with_reducible refine (hK _).mono ?_; rintro e w1 ⟨rfl, e1⟩; obtain rfl := e1) | fail
            all_goals go_wp2_with fail
            all_goals go_ret
            all_goals exact ⟨ret_boolQ (by rw [HE.out, HY.out]; simp), by repeat (first | exact Below.refl _ _ | assumption | refine st_drew ?_ | refine st_drewN ?_ _ | refine Below.setCell ?_ (by first | omega | (simp; done) | (simp; omega)) _ | refine Below.alloc ?_ (by first | omega | (simp; done) | (simp; omega)) _)⟩
        · have hlti : ¬ (i : Int) < (x.nots.length : Int) := by omega
          have hil : i = x.nots.length := by omega
          have HQ4 : Hid (x.nots.all (bl x.thn) = true) := by have := hok.out; rw [hil, List.take_length] at this; exact this
          clear hok hil hlt
          go_wp2_with fail
          go_ret
          exact ⟨ret_boolQ (by rw [HE.out, HQ3.out, HQ4.out]; rfl), by repeat (first | exact Below.refl _ _ | assumption | refine st_drew ?_ | refine st_drewN ?_ _ | refine Below.setCell ?_ (by first | omega | (simp; done) | (simp; omega)) _ | refine Below.alloc ?_ (by first | omega | (simp; done) | (simp; omega)) _)⟩
end Go.Proofs.Ytfhecdedanlmfaa
