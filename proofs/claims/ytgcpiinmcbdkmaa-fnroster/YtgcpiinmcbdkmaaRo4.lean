/-
  Who is ready, who comes first ahead.
-/
import Derived.Test.YtgcpiinmcbdkmaaRo3
namespace Go.Proofs.Ytgcpiinmcbdkmaa
open Go.RowKit Go.WideShapes Va Lb Go.Maps Sy Ro
set_option linter.all false

theorem ontoR {w w1 w2 : World} (h1 : Below w.heap.size w w1) (h2 : Below w1.heap.size w1 w2) : Below w.heap.size w w2 := h1.trans (h2.mono h1.size)
theorem own_someR {w : World} {b e n cc : Nat} {ca : Option Addr} {xs : List Value} (h : w.ownsRow b e 1 (.slice ca n cc) n xs) (hn : 0 < n) : ∃ g, ca = some ⟨g, 0, none⟩ ∧ b ≤ g := by
  obtain ⟨_, ⟨h1, _⟩ | ⟨g, cap, cur, h1, hb, hh, _⟩⟩ := h
  · cases h1; omega
  · cases h1; exact ⟨g, rfl, hb⟩
theorem SR.of_own {c : Nat} {w : World} {G b n : Nat} {l : List Int} (hn : n = l.length) (h : w.ownsRow b 2 1 (.slice (some ⟨G, 0, none⟩) n c) n (l.map fun z => Value.int .i64 z)) : SR c w G l := by
  subst hn; exact ownW_base h (Nat.zero_le _)
theorem own_blkR {w : World} {b e s n c G : Nat} {xs : List Value} (h : w.ownsRow b e s (.slice (some ⟨G, 0, none⟩) n c) n xs) : b ≤ G ∧ G < w.heap.size := ownW_lt h G rfl
theorem cell_overR (w : World) (o : Obj) (a : Value) (t : TypeId) : ∀ (j : Nat) (u : Value), [a][j]? = some u → ((w.alloc o).alloc (.cells #[a] t)).cell? ((⟨w.heap.size + 1, 0, none⟩ : Addr).add j) = some u := fun j u hu => by
  have := cell_oneW (w.alloc o) a t j u hu
  simpa using this

set_option maxRecDepth 20000 in
set_option maxHeartbeats 8000000 in
theorem ready_any (ws : List Wk) (H c0 : Nat) (run : Int) (w : World) (hl : ws.length ≤ 30) (h : WR w H ws) :
    Calls Try.prog 102 #[.slice (some ⟨H, 0, none⟩) ws.length c0, .int .i64 run] w fun e w' => ∃ G c, e = .returned (.slice (some ⟨G, 0, none⟩) (srtd ws run).length c) ∧ w'.ownsRow w.heap.size 2 1 (.slice (some ⟨G, 0, none⟩) (srtd ws run).length c) (srtd ws run).length ((srtd ws run).map fun z => Value.int .i64 z) ∧ Below w.heap.size w w' := by
  obtain ⟨i0, hi0, hv0, hv1, hv2⟩ := info_partsW infoW64
  have HH := hidden h
  have HS : Hid (∀ l, l.Perm (rdy ws run) → Srt (key ws) l → l = srtd ws run) := fun l h1 h2 => srtd_of h1 h2
  have hHl := h.1
  clear h
  generalize srtd ws run = S at *
  have HPB := hidden (PB.new w #[.slice (some ⟨H, 0, none⟩) ws.length c0] 92)
  have HO1 : Hid (((w.alloc (.cells #[.slice (some ⟨H, 0, none⟩) ws.length c0] 92)).alloc (.cells #[] 2)).ownsRow (w.heap.size + 1) 2 1 (.slice (some ⟨(w.alloc (.cells #[.slice (some ⟨H, 0, none⟩) ws.length c0] 92)).heap.size, 0, none⟩) 0 0) 0 []) := ownW_base (ownW_new (w.alloc (.cells #[.slice (some ⟨H, 0, none⟩) ws.length c0] 92)) 2 1) (by simp)
  have HB1 : Hid (Below (w.heap.size + 1) (w.alloc (.cells #[.slice (some ⟨H, 0, none⟩) ws.length c0] 92)) ((w.alloc (.cells #[.slice (some ⟨H, 0, none⟩) ws.length c0] 92)).alloc (.cells #[] 2))) := (Below.refl _ _).alloc (by simp) _
  have HB0 : Hid (Below w.heap.size w (w.alloc (.cells #[.slice (some ⟨H, 0, none⟩) ws.length c0] 92))) := (Below.refl _ _).alloc (Nat.le_refl _) _
  have hw1 : (w.alloc (.cells #[.slice (some ⟨H, 0, none⟩) ws.length c0] 92)).heap.size = w.heap.size + 1 := by simp
  have HW1 := hidden hw1
  have hc0 : (w.alloc (.cells #[.slice (some ⟨H, 0, none⟩) ws.length c0] 92)).cell? ⟨w.heap.size, 0, none⟩ = some (.slice (some ⟨H, 0, none⟩) ws.length c0) := HPB.out.cell 0
  clear hw1
  generalize hWA : w.alloc (.cells #[.slice (some ⟨H, 0, none⟩) ws.length c0] 92) = WA at *
  go_enter Try.func102, Try.ntmps102
  have hc1 : (WA.alloc (.cells #[] 2)).cell? ⟨w.heap.size, 0, none⟩ = some (.slice (some ⟨H, 0, none⟩) ws.length c0) := (HB1.out.cell (p := ⟨w.heap.size, 0, none⟩) (by simp)).trans hc0
  go_wp2_with fail
  go_loopw [5, 6, 7, 11] (fun cv _ _ iv wr => ∃ (i : Nat) (L : List Int) (G c : Nat), i ≤ ws.length ∧ iv = .int .i64 i ∧ Hid (L = rdyTo ws run i) ∧ cv = .slice (some ⟨G, 0, none⟩) L.length c ∧ Hid (wr.ownsRow (w.heap.size + 1) 2 1 (.slice (some ⟨G, 0, none⟩) L.length c) L.length (L.map fun z => Value.int .i64 z)) ∧ Below (w.heap.size + 1) WA wr) (fun _ _ _ iv _ => ws.length - (intOf iv).toNat)
  case atStart => exact ⟨0, [], _, _, Nat.zero_le _, rfl, rfl, rfl, HO1.out, HB1.out⟩
  case round =>
    clear HO1 HB1
    obtain ⟨i, L, G, c, hi, rfl, HL, rfl, ho, hb⟩ := hrel
    have hLl : L.length ≤ i := by rw [HL.out]; exact rdyTo_len ws run i
    have hsz := hb.size
    have hsz1 : w.heap.size + 1 ≤ wr.heap.size := by have := HW1.out; omega
    have hbw : Below w.heap.size w wr := HB0.out.trans (hb.mono (by omega))
    by_cases hlt : i < ws.length
    · have hlti : (i : Int) < (ws.length : Int) := by omega
      obtain ⟨c1, c2⟩ := (HH.out.below hbw).at hlt
      have hs := rdyTo_succ ws run i
      have HP := hidden (PB.new wr #[.int .i64 (ws.getD i (0, 0)).1, .int .i64 (ws.getD i (0, 0)).2] 95)
      have hbx : Below wr.heap.size wr (wr.alloc (.cells #[.int .i64 (ws.getD i (0, 0)).1, .int .i64 (ws.getD i (0, 0)).2] 95)) := (Below.refl _ _).alloc (Nat.le_refl _) _
      by_cases hr : (ws.getD i (0, 0)).2 < run
      · rw [if_pos hr, ← HL.out] at hs
        have HQ : Hid (L ++ [(i : Int)] = rdyTo ws run (i + 1)) := hs.symm
        clear hs
        generalize (ws.getD i (0, 0)).1 = y1 at *
        generalize (ws.getD i (0, 0)).2 = y2 at *
        go_wp2_with (at_builtin; refine wpList_append_own_at _ rfl (.tmp 20) (.tmp 22) 25 rfl (w.heap.size + 1) 2 i0 (.int .i64 0) 1 8 Try.underlying25 hi0 hv0 hv1 hv2 rfl (by decide) _ L.length (L.map fun z => Value.int .i64 z) rfl ((ownW_below ho.out hbx).alloc _) ⟨wr.heap.size + 1, 0, none⟩ 1 1 [.int .i64 (i : Int)] rfl rfl (cell_overR _ _ _ _) (by simp [Value.oneCell']) (by unfold maxLen; omega) (by omega) (by simp; omega) ?_; intro v5 w5 ho5 hg5 hn5 hl5; obtain ⟨ad5, c5, rfl⟩ := ownW_slice ho5; obtain ⟨G5, rfl, hG5⟩ := own_someR ho5 (Nat.succ_pos _))
        have b5 := ((hb.trans (hbx.mono hsz1)).alloc (by simp; omega) (.cells #[.int .i64 (i : Int)] 2)).grown hg5 (by simp; omega) (fun k hk => (ownW_lt ho.out k hk).1)
        go_roundw
        case rel => exact ⟨i + 1, L ++ [(i : Int)], G5, c5, by omega, rfl, HQ, by rw [List.length_append]; rfl, by show World.ownsRow _ _ _ _ _ _ _; rw [List.length_append, List.map_append]; exact ho5, b5⟩
        case measure => simp [intOf]; omega
      · rw [if_neg hr, ← HL.out, List.append_nil] at hs
        have HQ : Hid (L = rdyTo ws run (i + 1)) := hs.symm
        clear hs
        generalize (ws.getD i (0, 0)).1 = y1 at *
        generalize (ws.getD i (0, 0)).2 = y2 at *
        go_wp2_with fail
        go_roundw
        case rel => exact ⟨i + 1, L, G, c, by omega, rfl, HQ, rfl, ownW_below ho.out hbx, hb.trans (hbx.mono hsz1)⟩
        case measure => simp [intOf]; omega
    · have hlti : ¬ (i : Int) < (ws.length : Int) := by omega
      have hil : i = ws.length := by omega
      have HC : Hid (L = rdy ws run) := by have := HL.out; rw [hil] at this; exact this
      obtain ⟨hG1, hG2⟩ := own_blkR ho.out
      have hBl : wr.cell? ⟨w.heap.size, 0, none⟩ = some (.slice (some ⟨H, 0, none⟩) ws.length c0) := (hb.cell (p := ⟨w.heap.size, 0, none⟩) (by simp)).trans hc0
      have hLC := lessC_any ws H w.heap.size c0 G wr (by omega) (HH.out.below hbw) hBl (by omega) (by omega)
      have kr := stablesort_any (key ws) _ _ G c L.length L wr (SR.of_own rfl ho.out) rfl (by omega) (fun x hx => by
        rw [HC.out] at hx
        obtain ⟨p, h1, _, h3⟩ := mem_rdyTo.1 hx
        exact ⟨p, h1, h3⟩) (by rw [HC.out]; exact rdyTo_rising ws run ws.length) hLC
      have HM : Hid (∀ M, M.Perm L → Srt (key ws) M → M = S) := fun M h1 h2 => HS.out M (by rw [← HC.out]; exact h1) h2
      have hB := hidden (hbw)
      clear hLC HL HC ho hb hil hbw
      go_wp2_with (go_at_call 133; (with_reducible refine kr.mono ?_); rintro e wR ⟨rfl, M, hs2, hpm, hsm, hb2⟩; have HS2 := hidden hs2; have HPM := hidden hpm; have HSM := hidden hsm; clear hs2 hpm hsm)
      go_ret
      obtain rfl := HM.out M HPM.out HSM.out
      have hln := HPM.out.length_eq
      exact ⟨G, c, by rw [hln]; rfl, HS2.out.own (by omega), hB.out.trans (hb2.mono (by omega))⟩
end Go.Proofs.Ytgcpiinmcbdkmaa
