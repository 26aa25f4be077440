/-
  Merged: Rm28.
-/
import Derived.Test.YtgcpiinmcbdkmaaMw34
namespace Go.Proofs.Ytgcpiinmcbdkmaa
open Go.RowKit Va Ms
set_option linter.all false
structure Mid (B T : Nat) (w w' : World) : Prop where
  os : w'.os = w.os
  tape : w'.tape = w.tape
  output : w'.output = w.output
  size : w.heap.size ≤ w'.heap.size
  block : ∀ j, j < w.heap.size → j < B ∨ T ≤ j → w'.heap[j]? = w.heap[j]?
section
variable {B T : Nat} {a b c : World}
theorem Mid.refl (B T : Nat) (w : World) : Mid B T w w := ⟨rfl, rfl, rfl, Nat.le_refl _, fun _ _ _ => rfl⟩
theorem Mid.then (h : Mid B T a b) (k : Below b.heap.size b c) : Mid B T a c :=
  ⟨k.os.trans h.os, k.tape.trans h.tape, k.output.trans h.output, Nat.le_trans h.size k.size, fun j hj hq => (k.block j (Nat.lt_of_lt_of_le hj h.size)).trans (h.block j hj hq)⟩
theorem Mid.grown (h : Mid B T a b) {r : Option Nat} (g : b.grownBy c r) (hr : ∀ k, r = some k → B ≤ k ∧ k < T) : Mid B T a c :=
  ⟨g.os.trans h.os, g.tape.trans h.tape, g.output.trans h.output, Nat.le_trans h.size g.size, fun j hj hq => (g.block j (Nat.lt_of_lt_of_le hj h.size) (fun e => by have := hr j e.symm; omega)).trans (h.block j hj hq)⟩
theorem Mid.put (h : Mid B T a b) {G j : Nat} (h1 : B ≤ G) (h2 : G < T) (u : Value) : Mid B T a (b.setCell ⟨G, j, none⟩ u) := h.grown (gb_set b G j u) (fun k hk => by cases hk; exact ⟨h1, h2⟩)
theorem Mid.trans (h : Mid B T a b) (k : Mid B T b c) : Mid B T a c :=
  ⟨k.os.trans h.os, k.tape.trans h.tape, k.output.trans h.output, Nat.le_trans h.size k.size, fun j hj hq => (k.block j (Nat.lt_of_lt_of_le hj h.size) hq).trans (h.block j hj hq)⟩
theorem Mid.bel (h : Mid B T a b) (hB : B ≤ a.heap.size) : Below B a b := ⟨h.os, h.tape, h.output, h.size, fun k hk => h.block k (by omega) (Or.inl hk)⟩
theorem Mid.pb (h : Mid B T a b) {g t : Nat} {vs : Array Value} (k : PB a g vs t) (hq : g < B ∨ T ≤ g) : PB b g vs t := (h.block g k.lt hq).trans k
end
theorem tot_ge (L : List (Pt × Value)) : L.length ≤ tot L := by
  induction L with
  | nil => exact Nat.le_refl _
  | cons p L ih => simp only [List.length_cons, tot]; omega
theorem OwnP.row {w : World} {B n c : Nat} {ad : Option Addr} {L : List (Pt × Value)} (h : OwnP w B (.slice ad n c) L) : w.ownsRow B 106 2 (.slice ad n c) n (cellsP L) := by
  have e : L.length = n := by
    obtain ⟨a, c', e⟩ := ownW_slice h.parts
    cases e; rfl
  have := h.parts
  rwa [e] at this
set_option maxRecDepth 20000 in
set_option maxHeartbeats 8000000 in
theorem mpart_any (ad : Option Addr) (n c : Nat) (L : List (Pt × Value)) (k B T : Nat) (w : World) (h : OwnP w B (.slice ad n c) L) (hTp : ∀ j, (Value.slice ad n c).ownBlock = some j → j < T) (hTe : ∀ p ∈ L, ∀ j, p.2.ownBlock = some j → j < T) (hl : L.length = n) (hk : 0 < k) (hk1 : k + tot L ≤ 1000000) :
    Calls Try.prog 73 #[.slice ad n c, .int .i64 (k : Int)] w fun e w' => e = .returned (.int .i64 ((k + tot L : Nat) : Int)) ∧ OwnP w' B (.slice ad n c) (mkL L k) ∧ Mid B T w w' := by
  have HO0 : Hid (OwnP w B (.slice ad n c) (Mx L 0 k)) := by rw [Mx_zero]; exact h
  have HL := hidden hl
  clear h hl
  go_enter Try.func73, Try.ntmps73
  go_wp2_with fail
  go_loopw [1, 5] (fun kv iv wr => ∃ i : Nat, i ≤ n ∧ kv = .int .i64 ((k + tot (L.take i) : Nat) : Int) ∧ iv = .int .i64 i ∧ Hid (OwnP wr B (.slice ad n c) (Mx L i k)) ∧ Hid (Mid B T w wr)) (fun _ iv _ => n - (intOf iv).toNat)
  case atStart => exact ⟨0, Nat.zero_le _, by simp [tot], rfl, HO0, Mid.refl _ _ _⟩
  case round =>
    clear HO0
    obtain ⟨i, hi, rfl, rfl, HO, HB⟩ := hrel
    have hsz := HB.out.size
    by_cases hlt : i < n
    · have hlti : (i : Int) < (n : Int) := by omega
      have hi0 : (0 : Int) ≤ (i : Int) := by omega
      have hntot : n ≤ tot L := by rw [← HL.out]; exact tot_ge L
      obtain ⟨⟨⟨nm, fs⟩, fv⟩, hq⟩ := some_of L i (by rw [HL.out]; exact hlt)
      have hqm := Mx_get hq k
      have htot : tot (L.take (i + 1)) ≤ tot L := by have := tot_app (L.take (i + 1)) (L.drop (i + 1)); rw [List.take_append_drop] at this; omega
      have hst : tot (L.take (i + 1)) = tot (L.take i) + 1 + fs.length := tot_step hq
      have HS : Hid ((Mx L i k).set i (⟨mkT (k + tot (L.take i)), mkF fs.length (k + tot (L.take i) + 1)⟩, fv) = Mx L (i + 1) k) := Mx_set hq k
      obtain ⟨G, rfl, hG⟩ := ownM_some HO.out.row (by omega)
      have hfv : ∃ fa fc, fv = .slice fa fs.length fc := ownW_slice (HO.out.each _ (List.mem_of_getElem? hqm))
      obtain ⟨fa, fc, rfl⟩ := hfv
      have hGT := hTp G rfl
      have hFT := hidden (hTe _ (List.mem_of_getElem? hq))
      obtain ⟨kj, hkj⟩ : ∃ kj, kj = k + tot (L.take i) := ⟨_, rfl⟩
      rw [← hkj] at HS
      rw [← hkj]
      have hk0 : 0 < kj := by omega
      have hkb : kj + 1 + fs.length ≤ 1000000 := by omega
      have km := fun W => mtext_any kj hk0 (by omega) W
      have hw1 : IntKind.i64.wrap ((kj : Int) + 1) = ((kj + 1 : Nat) : Int) := by rw [IntKind.wrap_i64]; omega
      have hw2 : IntKind.i64.wrap ((i : Int) + 1) = ((i + 1 : Nat) : Int) := by rw [IntKind.wrap_i64]; omega
      have HE := hidden (show kj + 1 + fs.length = k + tot (L.take (i + 1)) by omega)
      have HQ := hidden hqm
      clear hq hqm htot hst hkj
      go_upto_region 5 with (go_at_call 114; refine (km _).mono ?_; rintro e w1 ⟨rfl, hb1⟩; have HO1 := hidden (HO.out.kept hb1); have HB1 := hidden (HB.out.then hb1); obtain ⟨⟨u0, hu0⟩, hf0, -⟩ := own_putM (u := undef) HO1.out.row (show i * 2 < n * 2 by omega); have hc1 := own_getM HO1.out.row (cellsP_get _ i _ HQ.out).2; clear hb1)
      have HO2 := hidden (HO1.out.name HQ.out (mkT kj))
      have HQ2 : Hid (((Mx L i k).set i (⟨mkT kj, fs⟩, .slice fa fs.length fc))[i]? = some (⟨mkT kj, fs⟩, .slice fa fs.length fc)) := by show _ = _; rw [List.getElem?_set_self (List.getElem?_eq_some_iff.1 HQ.out).1]
      have ks := mstr_any fa fs.length fc fs (kj + 1) B _ (HO2.out.each _ (List.mem_of_getElem? HQ2.out)) rfl (by omega) (by omega)
      have HB2 := hidden (HB1.out.put (j := i * 2) hG hGT (.string (mkT kj)))
      have hs2 : w.heap.size ≤ (w1.setCell ⟨G, i * 2, none⟩ (.string (mkT kj))).heap.size := HB2.out.size
      go_wp2_with (go_at_call 115; refine ks.mono ?_; rintro e w3 ⟨rfl, ho3, hg3⟩; have HO3 := hidden (HO2.out.fields HQ2.out hg3 (fs := mkF fs.length (kj + 1)) (by rw [mkF_len]; exact ho3)); have HB3 := hidden (HB2.out.grown hg3 (fun k hk => ⟨ownB_lt ho3 k hk, hFT.out k hk⟩)); clear ho3 hg3)
      rw [List.set_set, HS.out] at HO3
      exact ⟨⟨i + 1, by omega, by rw [← HE.out]; simp, rfl, HO3, HB3⟩, by simp [intOf]; omega⟩
    · have hlti : ¬ (i : Int) < (n : Int) := by omega
      obtain rfl : i = n := by omega
      have HE : Hid (L.take i = L) := by show L.take i = L; rw [← HL.out, List.take_length]
      have HM : Hid (Mx L i k = mkL L k) := by show Mx L i k = _; rw [← HL.out, Mx_all]
      rw [HE.out]
      go_wp2_with fail
      go_ret
      refine ⟨rfl, ?_, HB.out⟩
      rw [← HM.out]; exact HO.out
set_option maxRecDepth 20000 in
set_option maxHeartbeats 8000000 in
theorem hpart_any (ad : Option Addr) (n c : Nat) (L : List (Pt × Value)) (k B : Nat) (w : World) (h : OwnP w B (.slice ad n c) (mkL L k)) (hl : L.length = n) (hk : 0 < k) (hk1 : k + tot L ≤ 1000000) :
    Calls Try.prog 74 #[.slice ad n c, .int .i64 (k : Int)] w fun e w' => e = .returned (.int .i64 ((k + tot L : Nat) : Int)) ∧ Below w.heap.size w w' := by
  have HO := hidden h
  have HL := hidden hl
  clear h hl
  go_enter Try.func74, Try.ntmps74
  go_wp2_with fail
  go_loopw [1, 5] (fun kv iv wr => ∃ i : Nat, i ≤ n ∧ kv = .int .i64 ((k + tot (L.take i) : Nat) : Int) ∧ iv = .int .i64 i ∧ Below w.heap.size w wr) (fun _ iv _ => n - (intOf iv).toNat)
  case atStart => exact ⟨0, Nat.zero_le _, by simp [tot], rfl, Below.refl _ _⟩
  case round =>
    obtain ⟨i, hi, rfl, rfl, hb⟩ := hrel
    have hsz := hb.size
    by_cases hlt : i < n
    · have hlti : (i : Int) < (n : Int) := by omega
      have hi0 : (0 : Int) ≤ (i : Int) := by omega
      have hntot : n ≤ tot L := by rw [← HL.out]; exact tot_ge L
      obtain ⟨⟨⟨nm, fs⟩, fv⟩, hq⟩ := some_of L i (by rw [HL.out]; exact hlt)
      have hqm : (mkL L k)[i]? = some (⟨mkT (k + tot (L.take i)), mkF fs.length (k + tot (L.take i) + 1)⟩, fv) := mkL_get hq k
      have htot : tot (L.take (i + 1)) ≤ tot L := by have := tot_app (L.take (i + 1)) (L.drop (i + 1)); rw [List.take_append_drop] at this; omega
      have hst : tot (L.take (i + 1)) = tot (L.take i) + 1 + fs.length := tot_step hq
      obtain ⟨G, rfl, hG⟩ := ownM_some HO.out.row (by omega)
      have hfv : ∃ fa fc, fv = .slice fa (mkF fs.length (k + tot (L.take i) + 1)).length fc := ownW_slice (HO.out.each _ (List.mem_of_getElem? hqm))
      rw [mkF_len] at hfv
      obtain ⟨fa, fc, rfl⟩ := hfv
      obtain ⟨kj, hkj⟩ : ∃ kj, kj = k + tot (L.take i) := ⟨_, rfl⟩
      rw [← hkj] at hqm
      rw [← hkj]
      have hk0 : 0 < kj := by omega
      have hkb : kj + 1 + fs.length ≤ 1000000 := by omega
      have km := fun W => mtext_any kj hk0 (by omega) W
      have hw1 : IntKind.i64.wrap ((kj : Int) + 1) = ((kj + 1 : Nat) : Int) := by rw [IntKind.wrap_i64]; omega
      have hw2 : IntKind.i64.wrap ((i : Int) + 1) = ((i + 1 : Nat) : Int) := by rw [IntKind.wrap_i64]; omega
      have HE := hidden (show kj + 1 + fs.length = k + tot (L.take (i + 1)) by omega)
      have hng : ¬ (((kj + 1 + fs.length : Nat) : Int)) < 0 := by omega
      have HRW : Hid (w.ownsRow B 9 1 (.slice fa fs.length fc) fs.length (strV (mkF fs.length (kj + 1)))) := by have := HO.out.each _ (List.mem_of_getElem? hqm); simp only [mkF_len] at this; exact this
      have ks := fun W (h : Below w.heap.size w W) => hstr_any fa fs.length fc (kj + 1) B W (own_keptM (r := none) HRW.out (gb_below h) (fun _ _ e => by cases e)) (by omega) (by omega)
      obtain ⟨d0, d1⟩ := cellsP_get _ i _ hqm
      have c0 := cellM hb (own_getM HO.out.row d0)
      have c1 := cellM hb (own_getM HO.out.row d1)
      clear hq hqm htot hst hkj d0 d1
      go_wp2_with fail
      first | go_region_with (go_at_call 114; refine (km _).mono ?_; rintro e w1 ⟨rfl, hb1⟩; have e0 := cellM hb1 c0; have e1 := cellM hb1 c1; have bA := ontoT (show Below w.heap.size w _ from by repeat (first | exact Below.refl _ _ | assumption | refine st_drew ?_ | refine st_drewN ?_ _ | refine Below.setCell ?_ (by first | omega | (simp; done) | (simp; omega)) _ | refine Below.alloc ?_ (by first | omega | (simp; done) | (simp; omega)) _)) hb1; clear hb1) | fail
      all_goals go_wp2_with (go_at_call 116; refine (ks _ (by repeat (first | exact Below.refl _ _ | assumption | refine st_drew ?_ | refine st_drewN ?_ _ | refine Below.setCell ?_ (by first | omega | (simp; done) | (simp; omega)) _ | refine Below.alloc ?_ (by first | omega | (simp; done) | (simp; omega)) _))).mono ?_; rintro e w2 ⟨rfl, hb2⟩; have bB := ontoT (show Below w.heap.size w _ from by repeat (first | exact Below.refl _ _ | assumption | refine st_drew ?_ | refine st_drewN ?_ _ | refine Below.setCell ?_ (by first | omega | (simp; done) | (simp; omega)) _ | refine Below.alloc ?_ (by first | omega | (simp; done) | (simp; omega)) _)) hb2; clear hb2)
      all_goals exact ⟨⟨i + 1, by omega, by rw [← HE.out]; simp, rfl, by repeat (first | exact Below.refl _ _ | assumption | refine st_drew ?_ | refine st_drewN ?_ _ | refine Below.setCell ?_ (by first | omega | (simp; done) | (simp; omega)) _ | refine Below.alloc ?_ (by first | omega | (simp; done) | (simp; omega)) _)⟩, by simp [intOf]; omega⟩
    · have hlti : ¬ (i : Int) < (n : Int) := by omega
      obtain rfl : i = n := by omega
      have HE : Hid (L.take i = L) := by show L.take i = L; rw [← HL.out, List.take_length]
      rw [HE.out]
      go_wp2_with fail
      go_ret
      exact ⟨rfl, hb⟩
set_option maxRecDepth 20000 in
set_option maxHeartbeats 8000000 in
theorem mmess_any (ad : Option Addr) (n c : Nat) (L : List (Pt × Value)) (k B T : Nat) (w : World) (h : OwnP w B (.slice ad n c) L) (hTp : ∀ j, (Value.slice ad n c).ownBlock = some j → j < T) (hTe : ∀ p ∈ L, ∀ j, p.2.ownBlock = some j → j < T) (hl : L.length = n) (hk : 0 < k) (hk1 : k + tot L ≤ 1000000) :
    Calls Try.prog 34 #[.agg #[.slice ad n c], .int .i64 (k : Int)] w fun e w' => e = .returned (.int .i64 ((k + tot L : Nat) : Int)) ∧ OwnP w' B (.slice ad n c) (mkL L k) ∧ Mid B T w w' := by
  have HT := hidden (fun W (hW : Below w.heap.size w W) => mpart_any ad n c L k B T W (h.kept hW) hTp hTe hl hk hk1)
  clear h hTp hTe
  go_enter Try.func34, Try.ntmps34
  go_wp2_with (go_at_call 73; (with_reducible refine (HT.out _ (by repeat (first | exact Below.refl _ _ | assumption | refine st_drew ?_ | refine st_drewN ?_ _ | refine Below.setCell ?_ (by first | omega | (simp; done) | (simp; omega)) _ | refine Below.alloc ?_ (by first | omega | (simp; done) | (simp; omega)) _))).mono ?_); rintro e w1 ⟨rfl, ho1, hb1⟩; have HO1 := hidden ho1; have HB1 := hidden (Mid.trans ((Mid.refl B T w).then (by repeat (first | exact Below.refl _ _ | assumption | refine st_drew ?_ | refine st_drewN ?_ _ | refine Below.setCell ?_ (by first | omega | (simp; done) | (simp; omega)) _ | refine Below.alloc ?_ (by first | omega | (simp; done) | (simp; omega)) _))) hb1); clear ho1 hb1)
  go_ret
  exact ⟨rfl, HO1.out, HB1.out⟩
set_option maxRecDepth 20000 in
set_option maxHeartbeats 8000000 in
theorem hmess_any (ad : Option Addr) (n c : Nat) (L : List (Pt × Value)) (k B : Nat) (w : World) (h : OwnP w B (.slice ad n c) (mkL L k)) (hl : L.length = n) (hk : 0 < k) (hk1 : k + tot L ≤ 1000000) :
    Calls Try.prog 35 #[.agg #[.slice ad n c], .int .i64 (k : Int)] w fun e w' => e = .returned (.int .i64 ((k + tot L : Nat) : Int)) ∧ Below w.heap.size w w' := by
  have HT := hidden (fun W (hW : Below w.heap.size w W) => hpart_any ad n c L k B W (h.kept hW) hl hk hk1)
  have hng : ¬ (((k + tot L : Nat) : Int)) < 0 := by omega
  clear h
  go_enter Try.func35, Try.ntmps35
  go_wp2_with (go_at_call 74; (with_reducible refine (HT.out _ (by repeat (first | exact Below.refl _ _ | assumption | refine st_drew ?_ | refine st_drewN ?_ _ | refine Below.setCell ?_ (by first | omega | (simp; done) | (simp; omega)) _ | refine Below.alloc ?_ (by first | omega | (simp; done) | (simp; omega)) _))).mono ?_); rintro e w1 ⟨rfl, hb1⟩; have bA := ontoT (show Below w.heap.size w _ from by repeat (first | exact Below.refl _ _ | assumption | refine st_drew ?_ | refine st_drewN ?_ _ | refine Below.setCell ?_ (by first | omega | (simp; done) | (simp; omega)) _ | refine Below.alloc ?_ (by first | omega | (simp; done) | (simp; omega)) _)) hb1; clear hb1)
  go_ret
  exact ⟨rfl, by repeat (first | exact Below.refl _ _ | assumption | refine st_drew ?_ | refine st_drewN ?_ _ | refine Below.setCell ?_ (by first | omega | (simp; done) | (simp; omega)) _ | refine Below.alloc ?_ (by first | omega | (simp; done) | (simp; omega)) _)⟩
set_option maxRecDepth 20000 in
set_option maxHeartbeats 8000000 in
theorem eqmf_any (c a : Nat) (w : World) : Calls Try.prog 33 #[.agg #[.int .i64 (c : Nat), .int .i64 (a : Nat)], .agg #[.int .i64 (c : Nat), .int .i64 (a : Nat)]] w fun e w' => e = .returned (.bool true) ∧ Below w.heap.size w w' := by
  go_enter Try.func33, Try.ntmps33
  go_wp2_with fail
  all_goals first | done | (go_ret; exact ⟨rfl, by repeat (first | exact Below.refl _ _ | assumption | refine st_drew ?_ | refine st_drewN ?_ _ | refine Below.setCell ?_ (by first | omega | (simp; done) | (simp; omega)) _ | refine Below.alloc ?_ (by first | omega | (simp; done) | (simp; omega)) _)⟩)
end Go.Proofs.Ytgcpiinmcbdkmaa
