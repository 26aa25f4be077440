/-
  The program: facts and laws that are right.
-/
import Derived.Test.YtfhecdedanlmfaaR3
namespace Go.Proofs.Ytfhecdedanlmfaa
open Go.RowKit Va Rc
set_option linter.all false

theorem lawP_eq (w : Lw) : (factB w.thn && factsB w.ifs && factsB w.nots && !(w.ifs.any fun x => decide (w.thn ≤ x)) && !(w.nots.any fun x => decide (w.thn ≤ x))) = lawB w := by
  rw [Bool.eq_iff_iff]
  unfold lawB factsB belowB factB
  simp only [Bool.and_eq_true, Bool.not_eq_true', List.any_eq_false, List.all_eq_true, decide_eq_true_eq]
  constructor
  · rintro ⟨⟨⟨⟨h1, h2, h3⟩, h4, h5⟩, h6⟩, h7⟩
    exact ⟨⟨h1, h2, h4⟩, fun x hx => ⟨(h3 x hx).1, by have := h6 x hx; omega⟩, fun x hx => ⟨(h5 x hx).1, by have := h7 x hx; omega⟩⟩
  · rintro ⟨⟨h1, h2, h4⟩, h6, h7⟩
    exact ⟨⟨⟨⟨h1, h2, fun x hx => ⟨(h6 x hx).1, by have := h6 x hx; omega⟩⟩, h4, fun x hx => ⟨(h7 x hx).1, by have := h7 x hx; omega⟩⟩, fun x hx => by have := h6 x hx; omega⟩, fun x hx => by have := h7 x hx; omega⟩

set_option maxRecDepth 20000 in
theorem ifact_any (x : Int) (w : World) : Calls Try.prog 21 #[.int .i64 x] w fun e w' => e = .returned (.bool (factB x)) ∧ w' = w := by
  unfold factB
  by_cases h0 : 0 ≤ x
  · by_cases h1 : x < 64
    · go_enter Try.func21, Try.ntmps21
      go_wp2
      go_ret
      exact ⟨ret_boolQ (by simp [h0, h1]), rfl⟩
    · go_enter Try.func21, Try.ntmps21
      go_wp2
      go_ret
      exact ⟨ret_boolQ (by simp [h0, h1]), rfl⟩
  · go_enter Try.func21, Try.ntmps21
    go_wp2
    go_ret
    exact ⟨ret_boolQ (by simp; omega), rfl⟩

set_option maxRecDepth 20000 in
theorem iabove_any (x : Lw) (tv uv : Value) (f : Int) (w : World) : Calls Try.prog 41 #[aL x tv uv, .int .i64 f] w fun e w' => e = .returned (.bool (decide (x.thn ≤ f))) ∧ Below w.heap.size w w' := by
  unfold aL
  go_enter Try.func41, Try.ntmps41
  go_wp2
  go_ret
  exact ⟨rfl, by repeat (first | exact Below.refl _ _ | assumption | refine st_drew ?_ | refine st_drewN ?_ _ | refine Below.setCell ?_ (by first | omega | (simp; done) | (simp; omega)) _ | refine Below.alloc ?_ (by first | omega | (simp; done) | (simp; omega)) _)⟩

set_option maxRecDepth 20000 in
set_option maxHeartbeats 1000000 in
theorem ifacts_any (ao : Option Addr) (n cap : Nat) (l : List Int) (w : World) (h : IRw w (.slice ao n cap) l) (hn : l.length ≤ 1048576) :
    Calls Try.prog 28 #[.slice ao n cap] w fun e w' => e = .returned (.bool (factsB l)) ∧ w' = w := by
  obtain rfl := h.len
  have HH := hidden h
  clear h
  by_cases hq : (l.length : Int) > 64
  · have HF : Hid (factsB l = false) := by unfold factsB; simp; intro h; omega
    go_enter Try.func28, Try.ntmps28
    go_wp2_with fail
    go_ret
    exact ⟨ret_boolQ HF.out.symm, rfl⟩
  have HG : Hid (factsB l = l.all factB) := by unfold factsB; rw [decide_eq_true (by omega)]; rfl
  go_enter Try.func28, Try.ntmps28
  go_wp2_with fail
  go_loopw [4, 10] (fun _ iv wr => ∃ i : Nat, i ≤ l.length ∧ iv = .int .i64 i ∧ wr = w ∧ Hid ((l.take i).all factB = true)) (fun _ iv _ => l.length - (intOf iv).toNat)
  case atStart => exact ⟨0, Nat.zero_le _, rfl, rfl, rfl⟩
  case round =>
    obtain ⟨i, hi, rfl, rfl, hok⟩ := hrel
    by_cases hlt : i < l.length
    · have hlti : (i : Int) < (l.length : Int) := by omega
      obtain ⟨y, hy⟩ := some_of l i hlt
      obtain ⟨g, off, rfl, hg, hc⟩ := HH.out.at hy
      have c0 := hc i y hy
      have HX := hidden hy
      have hK := fun W => ifact_any y W
      clear hy hc
      cases hp : factB y with
      | true =>
        rw [hp] at hK
        have HN : Hid ((l.take (i + 1)).all factB = true) := all_takeQ hok.out HX.out hp
        clear hp
        go_wp2_with (go_at_call 21; refine (hK _).mono ?_; rintro e w1 ⟨rfl, rfl⟩)
        go_roundw
        case rel => exact ⟨i + 1, by omega, rfl, by simp, HN⟩
        case measure => simp [intOf]; omega
      | false =>
        rw [hp] at hK
        have HY : Hid (l.all factB = false) := all_falseQ HX.out hp
        clear hp
        go_wp2_with (go_at_call 21; refine (hK _).mono ?_; rintro e w1 ⟨rfl, rfl⟩)
        go_ret
        exact ⟨ret_boolQ (by rw [HG.out, HY.out]), rfl⟩
    · have hlti : ¬ (i : Int) < (l.length : Int) := by omega
      have hil : i = l.length := by omega
      subst hil
      go_wp2_with fail
      go_ret
      exact ⟨ret_boolQ (by have := hok.out; rw [List.take_length] at this; rw [HG.out, this]), rfl⟩

set_option maxRecDepth 20000 in
set_option maxHeartbeats 4000000 in
theorem ilaw_any (x : Lw) (ta : Option Addr) (tn tc : Nat) (ua : Option Addr) (un uc : Nat) (w : World) (h1 : IRw w (.slice ta tn tc) x.ifs) (h2 : IRw w (.slice ua un uc) x.nots) (hn1 : x.ifs.length ≤ 1048576) (hn2 : x.nots.length ≤ 1048576) :
    Calls Try.prog 39 #[aL x (.slice ta tn tc) (.slice ua un uc)] w fun e w' => e = .returned (.bool (lawB x)) ∧ Below w.heap.size w w' := by
  have HL := hidden (lawP_eq x)
  have k0 := fun W => ifact_any x.thn W
  have k1 := fun W hW => ifacts_any ta tn tc x.ifs W hW hn1
  have k2 := fun W hW => ifacts_any ua un uc x.nots W hW hn2
  have k3 := fun W hW => icontfN_any (aL x (.slice ta tn tc) (.slice ua un uc)) (fun y => decide (x.thn ≤ y)) W ta tn tc x.ifs (fun y _ W' _ => iabove_any x _ _ y W') hW hn1
  have k4 := fun W hW => icontfN_any (aL x (.slice ta tn tc) (.slice ua un uc)) (fun y => decide (x.thn ≤ y)) W ua un uc x.nots (fun y _ W' _ => iabove_any x _ _ y W') hW hn2
  have HA := hidden (fun W (hW : Below w.heap.size w W) => h1.below hW)
  have HB := hidden (fun W (hW : Below w.heap.size w W) => h2.below hW)
  have P0 := hidden (PB.new w #[.slice ta tn tc, .slice ua un uc, .int .i64 x.thn] 31)
  clear h1 h2 hn1 hn2
  unfold aL at *
  generalize (x.ifs.any fun y => decide (x.thn ≤ y)) = b3 at *
  generalize (x.nots.any fun y => decide (x.thn ≤ y)) = b4 at *
  generalize factsB x.ifs = b1 at *
  generalize factsB x.nots = b2 at *
  generalize factB x.thn = b0 at *
  cases b0
  · go_enter Try.func39, Try.ntmps39
    go_wp2_with (first | (go_at_call 21; with_reducible refine (k0 _).mono ?_; rintro e w1 ⟨rfl, e1⟩; obtain rfl := e1))
    go_ret
    exact ⟨ret_boolQ (by rw [← HL.out]; simp), by repeat (first | exact Below.refl _ _ | assumption | refine st_drew ?_ | refine st_drewN ?_ _ | refine Below.setCell ?_ (by first | omega | (simp; done) | (simp; omega)) _ | refine Below.alloc ?_ (by first | omega | (simp; done) | (simp; omega)) _)⟩
  · skip
    cases b1
    · go_enter Try.func39, Try.ntmps39
      go_wp2_with (first | (go_at_call 21; with_reducible refine (k0 _).mono ?_; rintro e w1 ⟨rfl, e1⟩; obtain rfl := e1) | (go_at_call 28; with_reducible refine (k1 _ (HA.out _ (by repeat (first | exact Below.refl _ _ | assumption | refine st_drew ?_ | refine st_drewN ?_ _ | refine Below.setCell ?_ (by first | omega | (simp; done) | (simp; omega)) _ | refine Below.alloc ?_ (by first | omega | (simp; done) | (simp; omega)) _)))).mono ?_; rintro e w1 ⟨rfl, e1⟩; obtain rfl := e1))
      go_ret
      exact ⟨ret_boolQ (by rw [← HL.out]; simp), by repeat (first | exact Below.refl _ _ | assumption | refine st_drew ?_ | refine st_drewN ?_ _ | refine Below.setCell ?_ (by first | omega | (simp; done) | (simp; omega)) _ | refine Below.alloc ?_ (by first | omega | (simp; done) | (simp; omega)) _)⟩
    · skip
      cases b2
      · go_enter Try.func39, Try.ntmps39
        go_wp2_with (first | (go_at_call 21; with_reducible refine (k0 _).mono ?_; rintro e w1 ⟨rfl, e1⟩; obtain rfl := e1) | (go_at_call 28; with_reducible refine (k1 _ (HA.out _ (by repeat (first | exact Below.refl _ _ | assumption | refine st_drew ?_ | refine st_drewN ?_ _ | refine Below.setCell ?_ (by first | omega | (simp; done) | (simp; omega)) _ | refine Below.alloc ?_ (by first | omega | (simp; done) | (simp; omega)) _)))).mono ?_; rintro e w1 ⟨rfl, e1⟩; obtain rfl := e1) | (go_at_call 28; with_reducible refine (k2 _ (HB.out _ (by repeat (first | exact Below.refl _ _ | assumption | refine st_drew ?_ | refine st_drewN ?_ _ | refine Below.setCell ?_ (by first | omega | (simp; done) | (simp; omega)) _ | refine Below.alloc ?_ (by first | omega | (simp; done) | (simp; omega)) _)))).mono ?_; rintro e w1 ⟨rfl, e1⟩; obtain rfl := e1))
        go_ret
        exact ⟨ret_boolQ (by rw [← HL.out]; simp), by repeat (first | exact Below.refl _ _ | assumption | refine st_drew ?_ | refine st_drewN ?_ _ | refine Below.setCell ?_ (by first | omega | (simp; done) | (simp; omega)) _ | refine Below.alloc ?_ (by first | omega | (simp; done) | (simp; omega)) _)⟩
      · skip
        cases b3
        · skip
          cases b4
          · go_enter Try.func39, Try.ntmps39
            go_wp2_with (first | (go_at_call 21; with_reducible refine (k0 _).mono ?_; rintro e w1 ⟨rfl, e1⟩; obtain rfl := e1) | (go_at_call 28; with_reducible refine (k1 _ (HA.out _ (by repeat (first | exact Below.refl _ _ | assumption | refine st_drew ?_ | refine st_drewN ?_ _ | refine Below.setCell ?_ (by first | omega | (simp; done) | (simp; omega)) _ | refine Below.alloc ?_ (by first | omega | (simp; done) | (simp; omega)) _)))).mono ?_; rintro e w1 ⟨rfl, e1⟩; obtain rfl := e1) | (go_at_call 28; with_reducible refine (k2 _ (HB.out _ (by repeat (first | exact Below.refl _ _ | assumption | refine st_drew ?_ | refine st_drewN ?_ _ | refine Below.setCell ?_ (by first | omega | (simp; done) | (simp; omega)) _ | refine Below.alloc ?_ (by first | omega | (simp; done) | (simp; omega)) _)))).mono ?_; rintro e w1 ⟨rfl, e1⟩; obtain rfl := e1) | (go_at_call 36; with_reducible refine (k3 _ (HA.out _ (by repeat (first | exact Below.refl _ _ | assumption | refine st_drew ?_ | refine st_drewN ?_ _ | refine Below.setCell ?_ (by first | omega | (simp; done) | (simp; omega)) _ | refine Below.alloc ?_ (by first | omega | (simp; done) | (simp; omega)) _)))).mono ?_; rintro e w3 ⟨rfl, hb3⟩; obtain ⟨p0, p1, p2⟩ := (P0.out.below hb3).three; have bA := onto (show Below w.heap.size w _ from by repeat (first | exact Below.refl _ _ | assumption | refine st_drew ?_ | refine st_drewN ?_ _ | refine Below.setCell ?_ (by first | omega | (simp; done) | (simp; omega)) _ | refine Below.alloc ?_ (by first | omega | (simp; done) | (simp; omega)) _)) hb3; clear hb3) | (go_at_call 36; with_reducible refine (k4 _ (HB.out _ (by repeat (first | exact Below.refl _ _ | assumption | refine st_drew ?_ | refine st_drewN ?_ _ | refine Below.setCell ?_ (by first | omega | (simp; done) | (simp; omega)) _ | refine Below.alloc ?_ (by first | omega | (simp; done) | (simp; omega)) _)))).mono ?_; rintro e w4 ⟨rfl, hb4⟩; have bB := onto bA hb4; clear hb4))
            go_ret
            exact ⟨ret_boolQ (by rw [← HL.out]; simp), bB⟩
          · go_enter Try.func39, Try.ntmps39
            go_wp2_with (first | (go_at_call 21; with_reducible refine (k0 _).mono ?_; rintro e w1 ⟨rfl, e1⟩; obtain rfl := e1) | (go_at_call 28; with_reducible refine (k1 _ (HA.out _ (by repeat (first | exact Below.refl _ _ | assumption | refine st_drew ?_ | refine st_drewN ?_ _ | refine Below.setCell ?_ (by first | omega | (simp; done) | (simp; omega)) _ | refine Below.alloc ?_ (by first | omega | (simp; done) | (simp; omega)) _)))).mono ?_; rintro e w1 ⟨rfl, e1⟩; obtain rfl := e1) | (go_at_call 28; with_reducible refine (k2 _ (HB.out _ (by repeat (first | exact Below.refl _ _ | assumption | refine st_drew ?_ | refine st_drewN ?_ _ | refine Below.setCell ?_ (by first | omega | (simp; done) | (simp; omega)) _ | refine Below.alloc ?_ (by first | omega | (simp; done) | (simp; omega)) _)))).mono ?_; rintro e w1 ⟨rfl, e1⟩; obtain rfl := e1) | (go_at_call 36; with_reducible refine (k3 _ (HA.out _ (by repeat (first | exact Below.refl _ _ | assumption | refine st_drew ?_ | refine st_drewN ?_ _ | refine Below.setCell ?_ (by first | omega | (simp; done) | (simp; omega)) _ | refine Below.alloc ?_ (by first | omega | (simp; done) | (simp; omega)) _)))).mono ?_; rintro e w3 ⟨rfl, hb3⟩; obtain ⟨p0, p1, p2⟩ := (P0.out.below hb3).three; have bA := onto (show Below w.heap.size w _ from by repeat (first | exact Below.refl _ _ | assumption | refine st_drew ?_ | refine st_drewN ?_ _ | refine Below.setCell ?_ (by first | omega | (simp; done) | (simp; omega)) _ | refine Below.alloc ?_ (by first | omega | (simp; done) | (simp; omega)) _)) hb3; clear hb3) | (go_at_call 36; with_reducible refine (k4 _ (HB.out _ (by repeat (first | exact Below.refl _ _ | assumption | refine st_drew ?_ | refine st_drewN ?_ _ | refine Below.setCell ?_ (by first | omega | (simp; done) | (simp; omega)) _ | refine Below.alloc ?_ (by first | omega | (simp; done) | (simp; omega)) _)))).mono ?_; rintro e w4 ⟨rfl, hb4⟩; have bB := onto bA hb4; clear hb4))
            go_ret
            exact ⟨ret_boolQ (by rw [← HL.out]; simp), bB⟩
        · go_enter Try.func39, Try.ntmps39
          go_wp2_with (first | (go_at_call 21; with_reducible refine (k0 _).mono ?_; rintro e w1 ⟨rfl, e1⟩; obtain rfl := e1) | (go_at_call 28; with_reducible refine (k1 _ (HA.out _ (by repeat (first | exact Below.refl _ _ | assumption | refine st_drew ?_ | refine st_drewN ?_ _ | refine Below.setCell ?_ (by first | omega | (simp; done) | (simp; omega)) _ | refine Below.alloc ?_ (by first | omega | (simp; done) | (simp; omega)) _)))).mono ?_; rintro e w1 ⟨rfl, e1⟩; obtain rfl := e1) | (go_at_call 28; with_reducible refine (k2 _ (HB.out _ (by repeat (first | exact Below.refl _ _ | assumption | refine st_drew ?_ | refine st_drewN ?_ _ | refine Below.setCell ?_ (by first | omega | (simp; done) | (simp; omega)) _ | refine Below.alloc ?_ (by first | omega | (simp; done) | (simp; omega)) _)))).mono ?_; rintro e w1 ⟨rfl, e1⟩; obtain rfl := e1) | (go_at_call 36; with_reducible refine (k3 _ (HA.out _ (by repeat (first | exact Below.refl _ _ | assumption | refine st_drew ?_ | refine st_drewN ?_ _ | refine Below.setCell ?_ (by first | omega | (simp; done) | (simp; omega)) _ | refine Below.alloc ?_ (by first | omega | (simp; done) | (simp; omega)) _)))).mono ?_; rintro e w3 ⟨rfl, hb3⟩; obtain ⟨p0, p1, p2⟩ := (P0.out.below hb3).three; have bA := onto (show Below w.heap.size w _ from by repeat (first | exact Below.refl _ _ | assumption | refine st_drew ?_ | refine st_drewN ?_ _ | refine Below.setCell ?_ (by first | omega | (simp; done) | (simp; omega)) _ | refine Below.alloc ?_ (by first | omega | (simp; done) | (simp; omega)) _)) hb3; clear hb3))
          go_ret
          exact ⟨ret_boolQ (by rw [← HL.out]; simp), bA⟩

set_option maxRecDepth 20000 in
set_option maxHeartbeats 2000000 in
theorem ilaws_any (ao : Option Addr) (n cap : Nat) (l : List Lw) (w : World) (h : LRw w (.slice ao n cap) l) (hn : l.length ≤ 1048576) (ht : ∀ x ∈ l, x.ifs.length ≤ 1048576 ∧ x.nots.length ≤ 1048576) :
    Calls Try.prog 29 #[.slice ao n cap] w fun e w' => e = .returned (.bool (lawsB l)) ∧ Below w.heap.size w w' := by
  obtain rfl := h.len
  have HH := hidden h
  have HT := hidden ht
  clear h ht
  by_cases hq : (l.length : Int) > 200
  · have HF : Hid (lawsB l = false) := by unfold lawsB; simp; intro h; omega
    go_enter Try.func29, Try.ntmps29
    go_wp2_with fail
    go_ret
    exact ⟨ret_boolQ HF.out.symm, Below.refl _ _⟩
  have HG : Hid (lawsB l = l.all lawB) := by unfold lawsB; rw [decide_eq_true (by omega)]; rfl
  go_enter Try.func29, Try.ntmps29
  go_wp2_with fail
  go_loopw [4, 10] (fun _ iv wr => ∃ i : Nat, i ≤ l.length ∧ iv = .int .i64 i ∧ Below w.heap.size w wr ∧ Hid ((l.take i).all lawB = true)) (fun _ iv _ => l.length - (intOf iv).toNat)
  case atStart => exact ⟨0, Nat.zero_le _, rfl, Below.refl _ _, rfl⟩
  case round =>
    obtain ⟨i, hi, rfl, hb, hok⟩ := hrel
    have hsz := hb.size
    by_cases hlt : i < l.length
    · have hlti : (i : Int) < (l.length : Int) := by omega
      obtain ⟨y, hy⟩ := some_of l i hlt
      obtain ⟨g, off, ta, tc, ua, uc, rfl, hg, hr1, hr2, c0, c1, c2⟩ := (HH.out.below hb).at hy
      have hl2 := HT.out y (List.mem_of_getElem? hy)
      have HX := hidden hy
      have hK := fun W hW hW' => ilaw_any y ta y.ifs.length tc ua y.nots.length uc W hW hW' hl2.1 hl2.2
      have HA := hidden (fun W (hW : Below wr.heap.size wr W) => hr1.below hW)
      have HB := hidden (fun W (hW : Below wr.heap.size wr W) => hr2.below hW)
      unfold aL at hK
      clear hy hr1 hr2 hl2
      cases hp : lawB y with
      | true =>
        rw [hp] at hK
        have HN : Hid ((l.take (i + 1)).all lawB = true) := all_takeQ hok.out HX.out hp
        clear hp
        go_wp2_with (go_at_call 39; refine (hK _ (HA.out _ (by repeat (first | exact Below.refl _ _ | assumption | refine st_drew ?_ | refine st_drewN ?_ _ | refine Below.setCell ?_ (by first | omega | (simp; done) | (simp; omega)) _ | refine Below.alloc ?_ (by first | omega | (simp; done) | (simp; omega)) _))) (HB.out _ (by repeat (first | exact Below.refl _ _ | assumption | refine st_drew ?_ | refine st_drewN ?_ _ | refine Below.setCell ?_ (by first | omega | (simp; done) | (simp; omega)) _ | refine Below.alloc ?_ (by first | omega | (simp; done) | (simp; omega)) _)))).mono ?_; rintro e w1 ⟨rfl, hb1⟩; have bA := onto (show Below w.heap.size w _ from by repeat (first | exact Below.refl _ _ | assumption | refine st_drew ?_ | refine st_drewN ?_ _ | refine Below.setCell ?_ (by first | omega | (simp; done) | (simp; omega)) _ | refine Below.alloc ?_ (by first | omega | (simp; done) | (simp; omega)) _)) hb1; clear hb1)
        go_roundw
        case rel => exact ⟨i + 1, by omega, rfl, bA, HN⟩
        case measure => simp [intOf]; omega
      | false =>
        rw [hp] at hK
        have HY : Hid (l.all lawB = false) := all_falseQ HX.out hp
        clear hp
        go_wp2_with (go_at_call 39; refine (hK _ (HA.out _ (by repeat (first | exact Below.refl _ _ | assumption | refine st_drew ?_ | refine st_drewN ?_ _ | refine Below.setCell ?_ (by first | omega | (simp; done) | (simp; omega)) _ | refine Below.alloc ?_ (by first | omega | (simp; done) | (simp; omega)) _))) (HB.out _ (by repeat (first | exact Below.refl _ _ | assumption | refine st_drew ?_ | refine st_drewN ?_ _ | refine Below.setCell ?_ (by first | omega | (simp; done) | (simp; omega)) _ | refine Below.alloc ?_ (by first | omega | (simp; done) | (simp; omega)) _)))).mono ?_; rintro e w1 ⟨rfl, hb1⟩; have bA := onto (show Below w.heap.size w _ from by repeat (first | exact Below.refl _ _ | assumption | refine st_drew ?_ | refine st_drewN ?_ _ | refine Below.setCell ?_ (by first | omega | (simp; done) | (simp; omega)) _ | refine Below.alloc ?_ (by first | omega | (simp; done) | (simp; omega)) _)) hb1; clear hb1)
        go_ret
        exact ⟨ret_boolQ (by rw [HG.out, HY.out]), bA⟩
    · have hlti : ¬ (i : Int) < (l.length : Int) := by omega
      have hil : i = l.length := by omega
      subst hil
      go_wp2_with fail
      go_ret
      exact ⟨ret_boolQ (by have := hok.out; rw [List.take_length] at this; rw [HG.out, this]), hb⟩
end Go.Proofs.Ytfhecdedanlmfaa
