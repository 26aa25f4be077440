/-
  Merged: Rm26.
-/
import Derived.Test.YtgcpiinmcbdkmaaMw33
namespace Go.Proofs.Ytgcpiinmcbdkmaa
open Go.RowKit Va Ms
set_option linter.all false
theorem cellM {w w' : World} {a : Addr} {v : Value} (k : Below w.heap.size w w') (h : w.cell? a = some v) : w'.cell? a = some v := (gb_below (r := none) k).cell h (Option.some_ne_none _)
theorem own_getM {w : World} {b e s n G c j : Nat} {xs : List Value} {u : Value} (h : w.ownsRow b e s (.slice (some ⟨G, 0, none⟩) n c) n xs) (hu : xs[j]? = some u) : w.cell? ⟨G, j, none⟩ = some u := by
  have := World.ownsRow.cells (g := G) h rfl j u hu
  rwa [Addr.add_lit, Nat.zero_add] at this
theorem own_oneM (w : World) (d : Nat) : (w.alloc (.cells #[.int .u8 (d : Nat)] 5)).ownsRow w.heap.size 5 1 (.slice (some ⟨w.heap.size, 0, none⟩) 1 1) 1 (bytV [d]) :=
  ⟨rfl, Or.inr ⟨w.heap.size, 1, #[.int .u8 (d : Nat)], rfl, Nat.le_refl _, heap_alloc_new _ _, Nat.le_refl _, by unfold maxLen; omega, rfl, rfl⟩⟩
set_option maxRecDepth 20000 in
set_option maxHeartbeats 4000000 in
theorem mtext_any (k : Nat) (hk : 0 < k) (hk1 : k ≤ 1000000000) (w : World) : Calls Try.prog 114 #[.int .i64 (k : Int)] w fun e w' => e = .returned (.string (mkT k)) ∧ Below w.heap.size w w' := by
  have hk0 : ¬ (k : Int) ≤ 0 := by omega
  go_enter Try.func114, Try.ntmps114
  go_wp2_with fail
  go_loopw [0, 3] (fun kv ov wr => ∃ (j : Nat) (acc : ByteArray), kv = .int .i64 j ∧ ov = .string acc ∧ acc.size + j ≤ k ∧ Hid (digs k ⟨#[]⟩ = digs j acc) ∧ Below w.heap.size w wr) (fun kv _ _ => (intOf kv).toNat)
  case atStart => exact ⟨k, ⟨#[]⟩, rfl, rfl, Nat.le_of_eq (Nat.zero_add k), rfl, Below.refl _ _⟩
  case round =>
    obtain ⟨j, acc, rfl, rfl, hj, he, hb⟩ := hrel
    have hsz := hb.size
    by_cases hj0 : 0 < j
    · have hji : (0 : Int) < (j : Int) := by omega
      have HN : Hid (digs k ⟨#[]⟩ = digs (j / 10) (bsOf [48 + j % 10] ++ acc)) := he.out.trans (digs_step hj0 acc)
      have h1 : Int.tmod (j : Int) 10 = ((j % 10 : Nat) : Int) := by rw [Int.tmod_eq_emod_of_nonneg (by omega)]; omega
      have h3 : IntKind.i64.wrap (48 + ((j % 10 : Nat) : Int)) = ((48 + j % 10 : Nat) : Int) := by rw [IntKind.wrap_i64]; omega
      have h4 : IntKind.u8.wrap ((48 + j % 10 : Nat) : Int) = ((48 + j % 10 : Nat) : Int) := by rw [IntKind.wrap_u8]; omega
      have h5 : Int.tdiv (j : Int) 10 = ((j / 10 : Nat) : Int) := by rw [Int.tdiv_eq_ediv_of_nonneg (by omega)]; omega
      have hm : j / 10 < j := by omega
      have hcv := conv_own (own_oneM wr (48 + j % 10)) (fun x hx => by obtain rfl := List.mem_singleton.1 hx; omega)
      have hz1 : (bsOf [48 + j % 10]).size = 1 := rfl
      have hjk : (bsOf [48 + j % 10] ++ acc).size + j / 10 ≤ k := by rw [ByteArray.size_append]; omega
      have hz : ¬ 9223372036854775807 < (bsOf [48 + j % 10]).size + acc.size := by omega
      clear hz1
      generalize 48 + j % 10 = d at *
      generalize j % 10 = d1 at *
      generalize j / 10 = q at *
      clear he
      go_wp2_with fail
      exact ⟨⟨q, bsOf [d] ++ acc, rfl, rfl, hjk, HN, by repeat (first | exact Below.refl _ _ | assumption | refine st_drew ?_ | refine st_drewN ?_ _ | refine Below.setCell ?_ (by first | omega | (simp; done) | (simp; omega)) _ | refine Below.alloc ?_ (by first | omega | (simp; done) | (simp; omega)) _)⟩, by simp [intOf]; omega⟩
    · have hji : ¬ (0 : Int) < (j : Int) := by omega
      obtain rfl : j = 0 := by omega
      have HN : Hid (mkT k = ⟨#[109]⟩ ++ acc) := by show mkT k = _; rw [mkT, he.out, digs_zero]
      have hz : ¬ 9223372036854775807 < (⟨#[109]⟩ : ByteArray).size + acc.size := by have : (⟨#[109]⟩ : ByteArray).size = 1 := rfl; omega
      clear he
      go_wp2_with fail
      go_ret
      exact ⟨by rw [HN.out]; rfl, hb⟩
set_option maxRecDepth 20000 in
set_option maxHeartbeats 4000000 in
theorem mstr_any (ad : Option Addr) (n c : Nat) (fs : List ByteArray) (k B : Nat) (w : World) (h : w.ownsRow B 9 1 (.slice ad n c) n (strV fs)) (hl : fs.length = n) (hk : 0 < k) (hk1 : k + n ≤ 1000000) :
    Calls Try.prog 115 #[.slice ad n c, .int .i64 (k : Int)] w fun e w' => e = .returned (.int .i64 ((k + n : Nat) : Int)) ∧ w'.ownsRow B 9 1 (.slice ad n c) n (strV (mkF n k)) ∧ w.grownBy w' (Value.ownBlock (.slice ad n c)) := by
  have HO0 : Hid (w.ownsRow B 9 1 (.slice ad n c) n (strV (mkF 0 k ++ fs.drop 0))) := h
  have HL := hidden hl
  clear h hl
  go_enter Try.func115, Try.ntmps115
  go_wp2_with fail
  go_loopw [1, 5] (fun kv iv wr => ∃ i : Nat, i ≤ n ∧ kv = .int .i64 ((k + i : Nat) : Int) ∧ iv = .int .i64 i ∧ Hid (wr.ownsRow B 9 1 (.slice ad n c) n (strV (mkF i k ++ fs.drop i))) ∧ Hid (w.grownBy wr (Value.ownBlock (.slice ad n c)))) (fun _ iv _ => n - (intOf iv).toNat)
  case atStart => exact ⟨0, Nat.zero_le _, by simp, rfl, HO0, gb_refl _ _⟩
  case round =>
    clear HO0
    obtain ⟨i, hi, rfl, rfl, HO, HG⟩ := hrel
    by_cases hlt : i < n
    · have hlti : (i : Int) < (n : Int) := by omega
      have hi0 : (0 : Int) ≤ (i : Int) := by omega
      obtain ⟨G, rfl, hG⟩ := ownM_some HO.out (by omega)
      have km := fun W => mtext_any (k + i) (by omega) (by omega) W
      have hw1 : IntKind.i64.wrap (((k + i : Nat) : Int) + 1) = ((k + (i + 1) : Nat) : Int) := by rw [IntKind.wrap_i64]; omega
      have hw2 : IntKind.i64.wrap ((i : Int) + 1) = ((i + 1 : Nat) : Int) := by rw [IntKind.wrap_i64]; omega
      have HS := hidden (mkF_set (fs := fs) (i := i) (k := k) (by rw [HL.out]; exact hlt))
      generalize hkj : k + i = kj at *
      clear hkj
      go_wp2_with (go_at_call 114; refine (km _).mono ?_; rintro e w1 ⟨rfl, hb1⟩; have HO1 := hidden (own_keptM (r := none) HO.out (gb_below hb1) (fun _ _ e => by cases e)); have HG1 := hidden (gb_trans HG.out (gb_below hb1)); obtain ⟨⟨u0, hu0⟩, hf0, -⟩ := own_putM (u := undef) HO1.out (show i < n * 1 by omega); clear hb1)
      have HO2 := hidden ((own_putM (u := .string (mkT kj)) HO1.out (show i < n * 1 by omega)).2.2)
      rw [HS.out] at HO2
      exact ⟨⟨i + 1, by omega, rfl, rfl, HO2, gb_trans HG1.out (gb_set _ _ _ _)⟩, by simp [intOf]; omega⟩
    · have hlti : ¬ (i : Int) < (n : Int) := by omega
      obtain rfl : i = n := by omega
      have HE : Hid (strV (mkF i k ++ fs.drop i) = strV (mkF i k)) := by show strV _ = _; rw [List.drop_eq_nil_of_le (by rw [HL.out]; exact Nat.le_refl _), List.append_nil]
      go_wp2_with fail
      go_ret
      refine ⟨rfl, ?_, HG.out⟩
      rw [← HE.out]; exact HO.out
set_option maxRecDepth 20000 in
set_option maxHeartbeats 4000000 in
theorem hstr_any (ad : Option Addr) (n c k B : Nat) (w : World) (h : w.ownsRow B 9 1 (.slice ad n c) n (strV (mkF n k))) (hk : 0 < k) (hk1 : k + n ≤ 1000000) :
    Calls Try.prog 116 #[.slice ad n c, .int .i64 (k : Int)] w fun e w' => e = .returned (.int .i64 ((k + n : Nat) : Int)) ∧ Below w.heap.size w w' := by
  have HO := hidden h
  clear h
  go_enter Try.func116, Try.ntmps116
  go_wp2_with fail
  go_loopw [1, 5] (fun kv iv wr => ∃ i : Nat, i ≤ n ∧ kv = .int .i64 ((k + i : Nat) : Int) ∧ iv = .int .i64 i ∧ Below w.heap.size w wr) (fun _ iv _ => n - (intOf iv).toNat)
  case atStart => exact ⟨0, Nat.zero_le _, by simp, rfl, Below.refl _ _⟩
  case round =>
    obtain ⟨i, hi, rfl, rfl, hb⟩ := hrel
    have hsz := hb.size
    by_cases hlt : i < n
    · have hlti : (i : Int) < (n : Int) := by omega
      have hi0 : (0 : Int) ≤ (i : Int) := by omega
      obtain ⟨G, rfl, hG⟩ := ownM_some HO.out (by omega)
      have km := fun W => mtext_any (k + i) (by omega) (by omega) W
      have hw1 : IntKind.i64.wrap (((k + i : Nat) : Int) + 1) = ((k + (i + 1) : Nat) : Int) := by rw [IntKind.wrap_i64]; omega
      have hw2 : IntKind.i64.wrap ((i : Int) + 1) = ((i + 1 : Nat) : Int) := by rw [IntKind.wrap_i64]; omega
      have hc := cellM hb (own_getM HO.out (j := i) (u := .string (mkT (k + i))) (by unfold strV; rw [List.getElem?_map, mkF_get hlt]; rfl))
      generalize hkj : k + i = kj at *
      clear hkj
      go_wp2_with fail
      first | go_region_with (go_at_call 114; refine (km _).mono ?_; rintro e w1 ⟨rfl, hb1⟩; have hc1 := cellM hb1 hc; have bA := ontoT (show Below w.heap.size w _ from by repeat (first | exact Below.refl _ _ | assumption | refine st_drew ?_ | refine st_drewN ?_ _ | refine Below.setCell ?_ (by first | omega | (simp; done) | (simp; omega)) _ | refine Below.alloc ?_ (by first | omega | (simp; done) | (simp; omega)) _)) hb1; clear hb1) | fail
      all_goals go_wp2_with fail
      all_goals exact ⟨⟨i + 1, by omega, rfl, rfl, by repeat (first | exact Below.refl _ _ | assumption | refine st_drew ?_ | refine st_drewN ?_ _ | refine Below.setCell ?_ (by first | omega | (simp; done) | (simp; omega)) _ | refine Below.alloc ?_ (by first | omega | (simp; done) | (simp; omega)) _)⟩, by simp [intOf]; omega⟩
    · have hlti : ¬ (i : Int) < (n : Int) := by omega
      obtain rfl : i = n := by omega
      go_wp2_with fail
      go_ret
      exact ⟨rfl, hb⟩
end Go.Proofs.Ytgcpiinmcbdkmaa
