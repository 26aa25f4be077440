/-
  MakeNumber, the program's and the specification's: each returns the number's text.
-/
import Derived.Test.YtdnnenklkfkhcakDoorRows
import Derived.Test.YtdnnenklkfkhcakDoorShelf
import Derived.Test.YtdnnenklkfkhcakDoorNum
import Derived.Test.YtdnnenklkfkhcakDoorCd
import Derived.WalkKit
import Derived.WalkSpells
import Derived.WalkLawsBesides
import Derived.BigQuiet
import Derived.Deep.QuietTactic
namespace Go.Proofs.YtdnnenklkfkhcakDoor
open Go.RowKit Nb

/-- The text of n, or nothing. -/
def mkS (n : Int) : ByteArray := if 0 ≤ n ∧ n ≤ 999999999 then ⟨(mkL n.toNat).toArray⟩ else ⟨#[]⟩

theorem below_grow (w : World) (k : Nat) (os : Array Obj) : Below w.heap.size w (Sort.grow (w.drewN k) os) :=
  ⟨rfl, rfl, rfl, by simp [Sort.grow], fun j hj => by show (w.heap ++ os)[j]? = w.heap[j]?; rw [Array.getElem?_append_left hj]⟩
theorem onto {w W w2 : World} (hv : Below w.heap.size w W) (h : Below W.heap.size W w2) : Below w.heap.size w w2 := hv.trans (h.mono hv.size)
theorem below_drewN {w : World} (k : Nat) : Below w.heap.size w (w.drewN k) := ⟨rfl, rfl, rfl, Nat.le_refl _, fun _ _ => rfl⟩

set_option maxHeartbeats 1000000 in
theorem imk_in (n : Int) (w : World) (h0 : 0 ≤ n) (h1 : n ≤ 999999999) (htab : Lib.TabIs Tryd.prog w "internal/strconv.uint64pow10" .u64 Lib.pow10Tab) :
    Calls Tryd.prog 6 #[.int .i64 n] w fun e w' => e = .returned (.string ⟨(mkL n.toNat).toArray⟩) ∧ Below w.heap.size w w' := by
  obtain ⟨N, rfl⟩ := Int.eq_ofNat_of_zero_le h0
  have hit : Lib.itoa (N : Int) = Lib.decDigits N := by unfold Lib.itoa; rw [if_neg (by omega)]; rfl
  have hF := Tryd.strconv_FormatInt_10 (N : Int) (by omega) (by omega) w htab
  rw [hit] at hF
  have hp := rep_dec N (by omega)
  have hl := dec_len N (by omega)
  obtain ⟨c, hc⟩ : ∃ c : Nat, chk N = c := ⟨(chk N).toNat, by have := chk_range N (by omega); omega⟩
  have hc9 : c < 10 := by have := chk_range N (by omega); omega
  have HK : Hid ((⟨#[77, 82, 78]⟩ ++ ⟨(Lib.repeatL [48] (9 - (Lib.decDigits N).length)).toArray⟩ ++ ⟨(Lib.decDigits N).toArray⟩ ++ ⟨#[45]⟩ ++ ⟨(Lib.decDigits c).toArray⟩ : ByteArray) = ⟨(mkL N).toArray⟩) := by
    rw [Hid]
    unfold mkL
    rw [dec_small c hc9, hc, ← hp]
    apply ByteArray.ext
    simp
  clear hit hp
  generalize Lib.decDigits N = L at *
  obtain ⟨m, hm⟩ : ∃ m : Nat, 9 - L.length = m := ⟨_, rfl⟩
  have e : 9 - (L.length : Int) = (m : Int) := by omega
  have HE : Hid (9 - (L.length : Int) = (m : Int)) := e
  rw [hm] at HK
  have hm9 : m ≤ 9 := by omega
  have hR : ∀ w, Calls Tryd.prog 13 #[.string ⟨#[48]⟩, .int .i64 m] w fun e w' => e = .returned (.string ⟨(Lib.repeatL [48] m).toArray⟩) ∧ Below w.heap.size w w' := fun w =>
    Tryd.strings_Repeat ⟨#[48]⟩ m w (by omega) (by rw [show (⟨#[48]⟩ : ByteArray).size = 1 from rfl]; omega)
  clear hm e htab
  have hn1 : ¬ (N : Int) < 0 := by omega
  have hn2 : ¬ 999999999 < (N : Int) := by omega
  have hrl : (Lib.repeatL [48] m).length = m := by rw [Lib.repeatL_length]; simp
  have q1 : ¬ 9223372036854775807 < 3 + (Lib.repeatL [48] m).length := by omega
  have q2 : ¬ 9223372036854775807 < 3 + (Lib.repeatL [48] m).length + L.length := by omega
  have q3 : ¬ 9223372036854775807 < 3 + (Lib.repeatL [48] m).length + L.length + 1 := by omega
  have q4 : ¬ 9223372036854775807 < 3 + (Lib.repeatL [48] m).length + L.length + 1 + 1 := by omega
  have hC : ∀ w, Calls Tryd.prog 14 #[.int .i64 N] w fun e w' => e = .returned (.int .i64 c) ∧ ∃ k, w' = w.drewN k := fun w => by
    have := icheck_any N w
    rw [hc] at this
    exact this
  have hF2 : ∀ w, Calls Tryd.prog 12 #[.int .i64 c, .int .i64 10] w fun e w' => e = .returned (.string ⟨#[ch c]⟩) ∧ w' = w := fun w => by
    have := Tryd.strconv_FormatInt_10_small c (by omega) w
    rw [dec_small c hc9] at this
    exact this
  rw [dec_small c hc9] at HK
  clear hrl hc
  go_enter Tryd.func6, Tryd.ntmps6
  go_wp2_with fail
  refine hF.mono ?_
  rintro e w1 ⟨rfl, k1, os1, hw1⟩
  have b1 : Below w.heap.size w w1 := by rw [hw1]; exact below_grow w k1 os1
  clear hw1 hF
  go_wp2_with fail
  rw [HE.out]
  refine (hR _).mono ?_
  rintro e w2 ⟨rfl, hb2⟩
  have b2 := onto b1 hb2
  clear hb2 b1
  go_wp2_with fail
  refine (hC _).mono ?_
  rintro e w3 ⟨rfl, k3, hw3⟩
  have b3 : Below w.heap.size w w3 := by rw [hw3]; exact onto b2 (below_drewN k3)
  clear hw3 b2
  go_wp2_with fail
  refine (hF2 _).mono ?_
  rintro e w4 ⟨rfl, hw4⟩
  have hw5 := hw4.symm
  clear hw4
  subst hw5
  go_wp2
  go_ret
  exact ⟨congrArg (fun b => Ending.returned (Value.string b)) HK.out, b3⟩

set_option maxHeartbeats 400000 in
theorem imk_any (n : Int) (w : World) (htab : Lib.TabIs Tryd.prog w "internal/strconv.uint64pow10" .u64 Lib.pow10Tab) :
    Calls Tryd.prog 6 #[.int .i64 n] w fun e w' => e = .returned (.string (mkS n)) ∧ Below w.heap.size w w' := by
  by_cases h0 : n < 0
  · have HK : Hid (mkS n = ⟨#[]⟩) := by unfold mkS; rw [Hid, if_neg (by omega)]
    clear htab
    go_enter Tryd.func6, Tryd.ntmps6
    go_wp2
    go_ret
    exact ⟨congrArg (fun b => Ending.returned (Value.string b)) HK.out.symm, Below.refl _ _⟩
  by_cases h1 : 999999999 < n
  · have HK : Hid (mkS n = ⟨#[]⟩) := by unfold mkS; rw [Hid, if_neg (by omega)]
    clear htab
    go_enter Tryd.func6, Tryd.ntmps6
    go_wp2
    go_ret
    exact ⟨congrArg (fun b => Ending.returned (Value.string b)) HK.out.symm, Below.refl _ _⟩
  have e : mkS n = ⟨(mkL n.toNat).toArray⟩ := by unfold mkS; rw [if_pos (by omega)]
  rw [e]
  exact imk_in n w (by omega) (by omega) htab

/-- What is still to be written ahead of b. -/
def rest (x : Nat) (b : List UInt8) : List UInt8 := if b = [] then Lib.decDigits x else if x = 0 then b else Lib.decDigits x ++ b
theorem rest_step (x : Nat) (b : List UInt8) (h : b = [] ∨ 0 < x) : rest (x / 10) (ch (x % 10) :: b) = rest x b := by
  unfold rest
  rw [if_neg (by simp)]
  by_cases hb : b = []
  · subst hb
    rw [if_pos rfl]
    by_cases h1 : x < 10
    · have : x / 10 = 0 := by omega
      rw [if_pos this, dec_small x h1, Nat.mod_eq_of_lt h1]
    · have : ¬ x / 10 = 0 := by omega
      rw [if_neg this, dec_big x h1]
  · have hx : ¬ x = 0 := by rcases h with h | h; exact absurd h hb; omega
    rw [if_neg hb, if_neg hx]
    by_cases h1 : x < 10
    · have : x / 10 = 0 := by omega
      rw [if_pos this, dec_small x h1, Nat.mod_eq_of_lt h1]; rfl
    · have : ¬ x / 10 = 0 := by omega
      rw [if_neg this, dec_big x h1]; simp
theorem rest_len (x : Nat) (b : List UInt8) : b.length ≤ (rest x b).length := by
  unfold rest
  split
  · rename_i h; rw [h]; simp
  · split <;> simp

theorem conv1 (wr : World) (x : Nat) : Sem.run Tryd.prog (convert 37 9 (Value.slice (some { block := wr.heap.size, off := 0 }) 1 1)) (wr.alloc (Obj.cells #[Value.int IntKind.u8 (48 + (x : Int) % 10)] 5)) =
    .ok (.string ⟨#[ch (x % 10)]⟩) (wr.alloc (Obj.cells #[Value.int IntKind.u8 (48 + (x : Int) % 10)] 5)) := by
  refine run_convert_bytes_back (P := Tryd.prog) (wr.alloc (Obj.cells #[Value.int IntKind.u8 (48 + (x : Int) % 10)] 5)) 37 9 5 ⟨wr.heap.size, 0, none⟩ 1 [ch (x % 10)] Tryd.underlying37 Tryd.underlying5 Tryd.underlying9 ?_
  intro j hj
  have : j = 0 := by simpa using hj
  subst this
  have e : ((ch (x % 10)).toNat : Int) = 48 + (x : Int) % 10 := by rw [ch_toNat _ (by omega)]; omega
  show (wr.alloc _).cell? ⟨wr.heap.size, 0, none⟩ = some (Value.int .u8 ((ch (x % 10)).toNat : Int))
  rw [e]
  exact cell_one_new wr (Value.int .u8 (48 + (x : Int) % 10)) 5 0 _ rfl
theorem bytes_cons (c : UInt8) (b : List UInt8) : (⟨#[c]⟩ ++ ⟨b.toArray⟩ : ByteArray) = ⟨(c :: b).toArray⟩ := by
  apply ByteArray.ext; simp

set_option maxHeartbeats 1000000 in
theorem s2int_any (n : Nat) (w : World) (h : n < 1000000000) :
    Calls Tryd.prog 10 #[.int .i64 n] w fun e w' => e = .returned (.string ⟨(Lib.decDigits n).toArray⟩) ∧ Below w.heap.size w w' := by
  have hn1 : ¬ (n : Int) < 0 := by omega
  have hlen := dec_len n h
  go_enter Tryd.func10, Tryd.ntmps10
  go_wp2
  go_loopw [0, 3] (fun a c wr => Below w.heap.size w wr ∧ ∃ (x : Nat) (b : List UInt8), x ≤ n ∧ a = .int .i64 x ∧ c = .string ⟨b.toArray⟩ ∧ Hid (rest x b = Lib.decDigits n)) (fun a c _ => 2 * (intOf a).toNat + (match c with | .string b => 1 - b.size | _ => 0))
  case atStart => exact ⟨Below.refl _ _, n, [], Nat.le_refl _, rfl, rfl, rfl⟩
  case round =>
    obtain ⟨hb, x, b, hx, rfl, rfl, H⟩ := hrel
    have hbl : b.length ≤ 9 := by have := rest_len x b; rw [H.out] at this; omega
    have q1 : ¬ 9223372036854775807 < 1 + b.length := by omega
    have hcv := conv1 wr x
    cases b with
    | nil =>
      have HS : Hid (rest (x / 10) [ch (x % 10)] = Lib.decDigits n) := (rest_step x [] (Or.inl rfl)).trans H.out
      go_wp2
      go_roundw
      case rel => exact ⟨hb.alloc hb.size _, x / 10, [ch (x % 10)], by omega, rfl, by rw [show ({ data := #[] } : ByteArray) = ⟨([] : List UInt8).toArray⟩ from rfl, bytes_cons], HS⟩
      case measure =>
        rw [show ({ data := #[] } : ByteArray) = ⟨([] : List UInt8).toArray⟩ from rfl, bytes_cons]
        simp [intOf, ByteArray.size]; omega
    | cons c b =>
      by_cases hz : 0 < (x : Int)
      · have HS : Hid (rest (x / 10) (ch (x % 10) :: c :: b) = Lib.decDigits n) := (rest_step x (c :: b) (Or.inr (by omega))).trans H.out
        go_wp2
        go_roundw
        case rel => exact ⟨hb.alloc hb.size _, x / 10, ch (x % 10) :: c :: b, by omega, rfl, by rw [bytes_cons], HS⟩
        case measure =>
          rw [bytes_cons]
          simp [intOf, ByteArray.size]; omega
      · have HE : Hid (c :: b = Lib.decDigits n) := by
          have := H.out
          unfold rest at this
          rw [if_neg (by simp), if_pos (by omega)] at this
          exact this
        go_wp2
        go_ret
        exact ⟨congrArg (fun b => Ending.returned (Value.string ⟨List.toArray b⟩)) HE.out, hb⟩

set_option maxHeartbeats 400000 in
theorem lin_yes (n lo hi : Int) (w : World) (h0 : lo ≤ n) (h1 : n ≤ hi) :
    Calls Tryd.prog 9 #[.int .i64 n, .int .i64 lo, .int .i64 hi] w fun e w' => e = .returned (.bool true) ∧ w' = w := by
  go_enter Tryd.func9, Tryd.ntmps9
  go_wp2
  go_ret
  exact ⟨rfl, rfl⟩
set_option maxHeartbeats 400000 in
theorem lin_no (n lo hi : Int) (w : World) (h : n < lo ∨ hi < n) :
    Calls Tryd.prog 9 #[.int .i64 n, .int .i64 lo, .int .i64 hi] w fun e w' => e = .returned (.bool false) ∧ w' = w := by
  by_cases h0 : lo ≤ n
  · have h1 : ¬ n ≤ hi := by omega
    go_enter Tryd.func9, Tryd.ntmps9
    go_wp2
    go_ret
    exact ⟨rfl, rfl⟩
  · go_enter Tryd.func9, Tryd.ntmps9
    go_wp2
    go_ret
    exact ⟨rfl, rfl⟩

set_option maxHeartbeats 1000000 in
theorem smk_in (n : Int) (w : World) (h0 : 0 ≤ n) (h1 : n ≤ 999999999) :
    Calls Tryd.prog 5 #[.int .i64 n] w fun e w' => e = .returned (.string ⟨(mkL n.toNat).toArray⟩) ∧ Below w.heap.size w w' := by
  obtain ⟨N, rfl⟩ := Int.eq_ofNat_of_zero_le h0
  have hD := s2int_any N w (by omega)
  have hp := dec_pad 8 N (by omega)
  obtain ⟨c, hc⟩ : ∃ c : Nat, chk N = c := ⟨(chk N).toNat, by have := chk_range N (by omega); omega⟩
  have hc9 : c < 10 := by have := chk_range N (by omega); omega
  generalize Lib.decDigits N = L at *
  go_enter Tryd.func5, Tryd.ntmps5
  go_wp2_with fail
  refine (lin_yes _ _ _ _ (by omega) (by omega)).mono ?_
  rintro e w0 ⟨rfl, hw0⟩
  have hw0' := hw0.symm
  clear hw0
  subst hw0'
  go_wp2_with fail
  refine hD.mono ?_
  rintro e w1 ⟨rfl, b1⟩
  clear hD
  have hll := hp.1
  have hS := s2int_any c
  rw [dec_small c hc9] at hS
  have hC : ∀ w, Calls Tryd.prog 11 #[.int .i64 N] w fun e w' => e = .returned (.int .i64 c) ∧ ∃ k, w' = w.drewN k := fun w => by
    have := scheck_any N w
    rw [hc] at this
    exact this
  have hHc : Hid (chk (N : Int) = c) := hc
  have hHp : Hid (List.replicate (8 + 1 - L.length) 48 ++ L = pad 9 N) := hp.2
  clear hp hc
  go_wp2_with fail
  go_loop [3] (fun a => ∃ b : List UInt8, a = .string ⟨b.toArray⟩ ∧ b.length ≤ 9 ∧ Hid (List.replicate (9 - b.length) 48 ++ b = pad 9 N)) (fun a => match a with | .string b => 9 - b.size | _ => 0)
  case atStart => exact ⟨L, rfl, hll, hHp⟩
  case round =>
    obtain ⟨b, rfl, hb9, H⟩ := hrel
    by_cases hlt : (b.length : Int) < 9
    · have q1 : ¬ 9223372036854775807 < 1 + b.length := by omega
      have HS : Hid (List.replicate (9 - (48 :: b).length) 48 ++ 48 :: b = pad 9 N) := by
        have := H.out
        rw [show 9 - b.length = (9 - (48 :: b).length) + 1 by simp; omega, List.replicate_succ'] at this
        rw [Hid]; simpa using this
      go_wp2
      go_round
      case rel => exact ⟨48 :: b, by rw [bytes_cons], by simp; omega, HS⟩
      case measure =>
        rw [bytes_cons]
        simp [ByteArray.size]; omega
    · have HE : Hid (b = pad 9 N) := by
        have := H.out
        rw [show 9 - b.length = 0 by omega] at this
        exact this
      have q1 : ¬ 9223372036854775807 < 3 + b.length := by omega
      have q2 : ¬ 9223372036854775807 < 3 + b.length + 1 := by omega
      have q3 : ¬ 9223372036854775807 < 3 + b.length + 1 + 1 := by omega
      go_wp2_with fail
      refine (hC _).mono ?_
      rintro e w3 ⟨rfl, k3, hw3⟩
      have b3 : Below w.heap.size w w3 := by rw [hw3]; exact onto b1 (below_drewN k3)
      clear hw3
      go_wp2_with fail
      refine (hS _ (by omega)).mono ?_
      rintro e w4 ⟨rfl, hb4⟩
      have b4 := onto b3 hb4
      clear hb4 b3
      go_wp2
      go_ret
      refine ⟨congrArg (fun b => Ending.returned (Value.string b)) (?_ : (_ : ByteArray) = _), b4⟩
      unfold mkL
      rw [show ((N : Int)).toNat = N from rfl, hHc.out, ← HE.out]
      apply ByteArray.ext
      simp

set_option maxHeartbeats 400000 in
theorem smk_any (n : Int) (w : World) :
    Calls Tryd.prog 5 #[.int .i64 n] w fun e w' => e = .returned (.string (mkS n)) ∧ Below w.heap.size w w' := by
  by_cases h : 0 ≤ n ∧ n ≤ 999999999
  · have e : mkS n = ⟨(mkL n.toNat).toArray⟩ := by unfold mkS; rw [if_pos h]
    rw [e]
    exact smk_in n w h.1 h.2
  · have HK : Hid (mkS n = ⟨#[]⟩) := by unfold mkS; rw [Hid, if_neg h]
    have h2 : n < 0 ∨ 999999999 < n := by omega
    clear h
    go_enter Tryd.func5, Tryd.ntmps5
    go_wp2_with fail
    refine (lin_no _ _ _ _ h2).mono ?_
    rintro e w0 ⟨rfl, hw0⟩
    have hw0' := hw0.symm
    clear hw0
    subst hw0'
    go_wp2
    go_ret
    exact ⟨congrArg (fun b => Ending.returned (Value.string b)) HK.out.symm, Below.refl _ _⟩
end Go.Proofs.YtdnnenklkfkhcakDoor
