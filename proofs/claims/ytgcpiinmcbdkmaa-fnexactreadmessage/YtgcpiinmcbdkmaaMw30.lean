/-
  Merged: Rm19 Rm20.
-/
import Derived.Test.YtgcpiinmcbdkmaaMw29
namespace Go.Proofs.Ytgcpiinmcbdkmaa
open Go.RowKit Va Ms
set_option linter.all false
theorem here_stands {s : ByteArray} {p : Nat} {l : List Nat} (hl : ∀ b ∈ l, b < 256) (hp : p + l.length ≤ s.size) : ((s.extract p (p + l.length)).toList == (bsOf l).toList) = true ↔ Stands s p l := by
  have hdat : (s.extract p (p + l.length)).data.toList = (s.extract p s.size).data.toList.take l.length := by
    have hz : s.size = s.data.toList.length := (Array.length_toList (xs := s.data)).symm
    simp only [ByteArray.data_extract, Array.toList_extract, List.extract_eq_drop_take]
    rw [List.take_take]
    congr 1; omega
  rw [beq_iff_eq, ByteArray.toList_eq, ByteArray.toList_eq, ← stands_ext (by omega), ← prefix_stands hl]
  unfold Lib.hasPrefix
  rw [List.isPrefixOf_iff_prefix, List.prefix_iff_eq_take, hdat, show (bsOf l).data.toList.length = l.length from by rw [bsOf_list, List.length_map]]
  exact eq_comm
noncomputable def rdP (s : ByteArray) (p : Nat) : Nat × Nat := match rdE s p with | some q => q | none => (0, 0)
set_option maxRecDepth 20000 in
set_option maxHeartbeats 16000000 in
theorem sread_any (s : ByteArray) (hs : s.size ≤ 1048576) (p : Nat) (hp : p ≤ s.size) (w : World) : Calls Try.prog 68 #[.string s, .int .i64 (p : Int)] w fun e w' => e = .returned (.tuple #[.int .u8 ((rdP s p).1 : Nat), .int .i64 ((rdP s p).2 : Nat)]) ∧ Below w.heap.size w w' := by
  go_enter Try.func68, Try.ntmps68
  go_wp2_with fail
  go_loopw [6, 7] (fun iv _ wr => ∃ k : Nat, k ≤ 256 ∧ iv = .int .i64 k ∧ Hid (∀ y, y < k → ¬ EscAt s p y) ∧ Below w.heap.size w wr) (fun iv _ _ => 256 - (intOf iv).toNat)
  case atStart => exact ⟨0, Nat.zero_le _, rfl, fun y hy => absurd hy (by omega), Below.refl _ _⟩
  case round =>
    obtain ⟨k, hk, rfl, hne, hb⟩ := hrel
    have hsz := hb.size
    by_cases hk4 : k < 256
    · have hki : (k : Int) < 256 := by omega
      have hwk : IntKind.u8.wrap (k : Int) = (k : Int) := by rw [IntKind.wrap_u8]; omega
      have hwp : IntKind.i64.wrap ((k : Int) + 1) = ((k + 1 : Nat) : Int) := by rw [IntKind.wrap_i64]; omega
      have ks := fun W => sesc_any k hk4 W
      have hz := bs_size (escL k)
      have hl5 := esc_len5 k hk4
      have HS : Hid (p + (escL k).length ≤ s.size → (((s.extract p (p + (bsOf (escL k)).size)).toList == (bsOf (escL k)).toList) = true ↔ Stands s p (escL k))) := fun h => by rw [hz]; exact here_stands (esc_bytes k hk4) h
      generalize hE : bsOf (escL k) = E at *
      have hw2 : IntKind.i64.wrap ((p : Int) + (E.size : Int)) = ((p + E.size : Nat) : Int) := by rw [IntKind.wrap_i64]; omega
      have h00 : (0 : Int) ≤ (p : Int) := by omega
      have h01 : (p : Int) ≤ ((p + E.size : Nat) : Int) := by omega
      have HZ := hidden hz
      clear hE hz
      by_cases c1 : 1 < E.size
      · have c1i : (1 : Int) < (E.size : Int) := by omega
        by_cases c2 : p + E.size ≤ s.size
        · have c2i : ((p + E.size : Nat) : Int) ≤ (s.size : Int) := by omega
          cases hq : ((s.extract p (p + E.size)).toList == E.toList) with
          | true =>
            have HX : Hid (rdP s p = (k, E.size)) := by
              have hz := HZ.out
              have h1 : EscAt s p k := ⟨hk4, by omega, (HS.out (by omega)).1 hq⟩
              show rdP s p = _
              rw [rdP, rd_some h1, hz]
            clear HS c1 c2 hne hl5
            go_wp2_with (go_at_call 106; refine (ks _).mono ?_; rintro e w2 ⟨rfl, hb2⟩; have HB := hidden (onto hb hb2); clear hb2)
            go_ret2
            exact ⟨by rw [HX.out]; rfl, HB.out⟩
          | false =>
            have HN : Hid (∀ y, y < k + 1 → ¬ EscAt s p y) := fun y hy h => by
              have hz := HZ.out
              rcases Nat.lt_or_ge y k with q | q
              · exact hne.out y q h
              · obtain rfl : y = k := by omega
                have := (HS.out (by omega)).2 h.2.2
                rw [hq] at this; cases this
            clear HS c1 c2 hne hl5
            go_wp2_with (go_at_call 106; refine (ks _).mono ?_; rintro e w2 ⟨rfl, hb2⟩; have HB := hidden (onto hb hb2); clear hb2)
            go_roundw
            case rel => exact ⟨k + 1, by omega, by simp, HN, HB.out⟩
            case measure => simp [intOf]; omega
        · have c2i : ¬ ((p + E.size : Nat) : Int) ≤ (s.size : Int) := by omega
          have HN : Hid (∀ y, y < k + 1 → ¬ EscAt s p y) := fun y hy h => by
            have hz := HZ.out
            rcases Nat.lt_or_ge y k with q | q
            · exact hne.out y q h
            · obtain rfl : y = k := by omega
              have := h.2.2.1; omega
          clear HS c1 c2 hne hl5
          go_wp2_with (go_at_call 106; refine (ks _).mono ?_; rintro e w2 ⟨rfl, hb2⟩; have HB := hidden (onto hb hb2); clear hb2)
          go_roundw
          case rel => exact ⟨k + 1, by omega, by simp, HN, HB.out⟩
          case measure => simp [intOf]; omega
      · have c1i : ¬ (1 : Int) < (E.size : Int) := by omega
        have HN : Hid (∀ y, y < k + 1 → ¬ EscAt s p y) := fun y hy h => by
          have hz := HZ.out
          rcases Nat.lt_or_ge y k with q | q
          · exact hne.out y q h
          · obtain rfl : y = k := by omega
            have := h.2.1; omega
        clear HS c1 hne hl5
        go_wp2_with (go_at_call 106; refine (ks _).mono ?_; rintro e w2 ⟨rfl, hb2⟩; have HB := hidden (onto hb hb2); clear hb2)
        go_roundw
        case rel => exact ⟨k + 1, by omega, by simp, HN, HB.out⟩
        case measure => simp [intOf]; omega
    · have hki : ¬ (k : Int) < 256 := by omega
      have HX : Hid (rdP s p = (0, 0)) := by
        show rdP s p = _
        rw [rdP, rd_none (fun x hx => hne.out x (by have := hx.1; omega) hx)]
      clear hne
      go_wp2_with fail
      go_ret2
      exact ⟨by rw [HX.out]; rfl, hb⟩
end Go.Proofs.Ytgcpiinmcbdkmaa

namespace Go.Proofs.Ytgcpiinmcbdkmaa
open Go.RowKit Va Ms
set_option linter.all false
structure Two0 (w W : World) (A B : Nat) : Prop where
  pa : PB W A #[.slice none 0 0] 56
  pf : PB W B #[.int .i64 0, .int .i64 0] 58
  bel : Below w.heap.size w W
  ha : w.heap.size ≤ A
  hb : w.heap.size ≤ B
  ne : A ≠ B
theorem Two0.below {w W W' : World} {A B : Nat} (h : Two0 w W A B) (k : Below W.heap.size W W') : Two0 w W' A B := ⟨h.pa.below k, h.pf.below k, onto h.bel k, h.ha, h.hb, h.ne⟩
theorem bad_end {s : ByteArray} {w W : World} {A B : Nat} (h : Two0 w W A B) {c a : Nat} (hR : readO s = .bad c a) {ts : Array Value} (h2 : ts.getD 2 undef = .pointer (some ⟨A, 0, none⟩)) (h3 : ts.getD 3 undef = .pointer (some ⟨B, 0, none⟩)) :
    bodyPost Try.prog Try.f30 (fun e w' => ∃ mv c a, e = .returned (.tuple #[.agg #[mv], .agg #[.int .i64 (c : Nat), .int .i64 (a : Nat)]]) ∧ RdOut w.heap.size w' (readO s) mv c a ∧ Below w.heap.size w w') .ret ⟨ts, []⟩ (((W.setCell ⟨A, 0, none⟩ (.slice none 0 0)).setCell ⟨B, 0, none⟩ (.int .i64 (c : Nat))).setCell ⟨B, 1, none⟩ (.int .i64 (a : Nat))) := by
  have hAf := ((h.pa.put 0 (.slice none 0 0) (vs' := #[.slice none 0 0]) rfl).far h.ne.symm 0 (.int .i64 (c : Nat))).far h.ne.symm 1 (.int .i64 (a : Nat))
  have hBf := ((h.pf.far h.ne 0 (.slice none 0 0)).put 0 (.int .i64 (c : Nat)) (vs' := #[.int .i64 (c : Nat), .int .i64 0]) rfl).put 1 (.int .i64 (a : Nat)) (vs' := #[.int .i64 (c : Nat), .int .i64 (a : Nat)]) rfl
  refine bodyPost_ret (results_cc Try.results30 _ _ A B 56 58 _ _ _ _ h2 hAf Try.underlying56 rfl (by kernel_rfl) h3 hBf Try.underlying58 rfl (by kernel_rfl)) rfl ⟨_, c, a, rfl, ?_, ?_⟩
  · rw [hR]; exact ⟨rfl, rfl, rfl⟩
  · exact ((h.bel.setCell (p := ⟨A, 0, none⟩) h.ha _).setCell (p := ⟨B, 0, none⟩) h.hb _).setCell (p := ⟨B, 1, none⟩) h.hb _
set_option maxRecDepth 20000 in
set_option maxHeartbeats 16000000 in
theorem sbig_any (s : ByteArray) (hs : s.size ≤ 1048576) (hf : 20000 < s.size ∨ s.size = 0 ∨ nb s (s.size - 1) ≠ 13) (w : World) : Calls Try.prog 30 #[.string s] w (fun e w' => ∃ mv c a, e = .returned (.tuple #[.agg #[mv], .agg #[.int .i64 (c : Nat), .int .i64 (a : Nat)]]) ∧ RdOut w.heap.size w' (readO s) mv c a ∧ Below w.heap.size w w') := by
  have T0 : Two0 w ((w.alloc (.cells #[.slice none 0 0] 56)).alloc (.cells #[.int .i64 0, .int .i64 0] 58)) w.heap.size (w.heap.size + 1) :=
    ⟨(PB.new w #[.slice none 0 0] 56).alloc _, by have := PB.new (w.alloc (.cells #[.slice none 0 0] 56)) #[.int .i64 0, .int .i64 0] 58; rw [World.size_alloc] at this; exact this, by repeat (first | exact Below.refl _ _ | assumption | refine st_drew ?_ | refine st_drewN ?_ _ | refine Below.setCell ?_ (by first | omega | (simp; done) | (simp; omega)) _ | refine Below.alloc ?_ (by first | omega | (simp; done) | (simp; omega)) _), Nat.le_refl _, Nat.le_succ _, by omega⟩
  have HT := hidden T0
  go_enter Try.func30, Try.ntmps30
  go_upto_region 1 with fail
  generalize ((w.alloc (.cells #[.slice none 0 0] 56)).alloc (.cells #[.int .i64 0, .int .i64 0] 58)) = W1 at *
  have q0 := T0.pa.cell 0
  have f0 := T0.pa.frozen 0
  obtain ⟨y0, y1⟩ := T0.pf.two
  have g0 := T0.pf.frozen 0
  have g1 := T0.pf.frozen 1
  clear T0
  by_cases h1 : 20000 < s.size
  · have h1i : (20000 : Int) < (s.size : Int) := by omega
    have HR : Hid (readO s = .bad 1 0) := by show readO s = _; rw [readO, if_pos h1]
    clear h1 hf
    go_wp2_with fail
    exact bad_end HT.out HR.out rfl rfl
  · have h1i : ¬ (20000 : Int) < (s.size : Int) := by omega
    by_cases h2 : s.size = 0
    · have e2 : (((s.size : Nat) : Int) == 0) = true := by rw [beq_iff_eq]; omega
      have HR : Hid (readO s = .bad 2 s.size) := by show readO s = _; rw [readO, if_neg h1, if_pos (Or.inl h2)]
      clear h1 hf h2
      go_wp2_with fail
      exact bad_end HT.out HR.out rfl rfl
    · have e2 : (((s.size : Nat) : Int) == 0) = false := by rw [beq_eq_false_iff_ne]; omega
      have h3 : nb s (s.size - 1) ≠ 13 := by omega
      have e3 : (((nb s (s.size - 1) : Nat) : Int) != 13) = true := by rw [bne_iff_ne]; omega
      have hw1 : IntKind.i64.wrap ((s.size : Int) - 1) = ((s.size - 1 : Nat) : Int) := by rw [IntKind.wrap_i64]; omega
      have hx := idx_at s (s.size - 1) ((s.size - 1 : Nat) : Int) rfl (by omega)
      have HR : Hid (readO s = .bad 2 s.size) := by show readO s = _; rw [readO, if_neg h1, if_pos (Or.inr h3)]
      clear h1 hf h2 h3
      go_wp2_with fail
      exact bad_end HT.out HR.out rfl rfl
end Go.Proofs.Ytgcpiinmcbdkmaa
