/-
  What the program does to the room: a step.
-/
import Derived.Test.YtklgadaefngnnaaWi
namespace Go.Proofs.Ytklgadaefngnnaa
open Go.RowKit Va Wa Go.Maps
set_option linter.unusedVariables false

set_option maxRecDepth 20000 in
set_option maxHeartbeats 4000000 in
theorem ido_any (base g K : Nat) (R : Rm) (s : Stp) (hs : StOk s) (w : World) (h : Room w base g K R) (hK : K < 100000) :
    Calls Try.prog 66 #[.pointer (some ⟨g, 0, none⟩), aT s] w fun e w' => e = .returned (.int .i64 (codeS R s)) ∧ Room w' base g (K + 1) (nxt R s) ∧ Tf base w w' := by
  obtain ⟨k, t, c, p⟩ := s
  obtain ⟨⟨t0, t1⟩, ⟨c0, c1⟩, -, hk⟩ := hs
  simp only at t0 t1 c0 c1 hk
  obtain ⟨t, rfl⟩ : ∃ t' : Nat, t = (t' : Int) := ⟨t.toNat, by omega⟩
  obtain ⟨c, rfl⟩ : ∃ c' : Nat, c = (c' : Int) := ⟨c.toNat, by omega⟩
  have ht : t < 1000 := by omega
  have hc : c < 1000 := by omega
  have hl := h.lt
  have HB := hidden (fun (W : World) (hW : Below w.heap.size w W) => h.below hW)
  have HT := hidden (fun (W : World) (hW : Below w.heap.size w W) => (Tf.of_below hW (by omega) : Tf base w W))
  clear t0 t1 c0 c1 h
  unfold aT
  simp only
  by_cases q1 : k = 1
  · subst q1
    have e1 : Hid (codeS R ⟨1, t, c, p⟩ = if R.st t = 2 then 1 else 0) := by simp [codeS, Hid]
    have e2 : Hid (nxt R ⟨1, t, c, p⟩ = if R.st t = 2 then R else ⟨upd R.st t 1, R.cy, R.ov⟩) := by simp [nxt, Hid]
    have HC := hidden (fun (W : World) (hW : Below w.heap.size w W) => iwash_any base g K t R W (HB.out W hW) ht)
    rw [← e1.out, ← e2.out] at HC
    clear hk e1 e2
    generalize codeS R _ = C at HC ⊢
    generalize nxt R _ = N at HC ⊢
    go_enter Try.func66, Try.ntmps66
    go_wp2_with (go_at_call 100; refine (HC.out _ (by repeat (first | exact Below.refl _ _ | assumption | refine st_drew ?_ | refine st_drewN ?_ _ | refine Below.setCell ?_ (by first | omega | (simp; done) | (simp; omega)) _ | refine Below.alloc ?_ (by first | omega | (simp; done) | (simp; omega)) _))).mono ?_; rintro e w1 ⟨rfl, hr1, ht1⟩)
    go_ret
    exact ⟨rfl, hr1.mono (Nat.le_succ _), (HT.out _ (by repeat (first | exact Below.refl _ _ | assumption | refine st_drew ?_ | refine st_drewN ?_ _ | refine Below.setCell ?_ (by first | omega | (simp; done) | (simp; omega)) _ | refine Below.alloc ?_ (by first | omega | (simp; done) | (simp; omega)) _))).trans ht1⟩
  by_cases q2 : k = 2
  · subst q2
    have e1 : Hid (codeS R ⟨2, t, c, p⟩ = if R.st t ≠ 1 then 2 else if R.ov c = true then 3 else 0) := by simp [codeS, Hid]
    have e2 : Hid (nxt R ⟨2, t, c, p⟩ = if R.st t ≠ 1 then R else if R.ov c = true then R else ⟨upd R.st t 2, upd R.cy t c, R.ov⟩) := by simp [nxt, Hid]
    have HC := hidden (fun (W : World) (hW : Below w.heap.size w W) => iload_any base g K t c R W (HB.out W hW) ht hc hK)
    rw [← e1.out, ← e2.out] at HC
    clear hk q1 e1 e2
    generalize codeS R _ = C at HC ⊢
    generalize nxt R _ = N at HC ⊢
    go_enter Try.func66, Try.ntmps66
    go_wp2_with (go_at_call 101; refine (HC.out _ (by repeat (first | exact Below.refl _ _ | assumption | refine st_drew ?_ | refine st_drewN ?_ _ | refine Below.setCell ?_ (by first | omega | (simp; done) | (simp; omega)) _ | refine Below.alloc ?_ (by first | omega | (simp; done) | (simp; omega)) _))).mono ?_; rintro e w1 ⟨rfl, hr1, ht1⟩)
    go_ret
    exact ⟨rfl, hr1, (HT.out _ (by repeat (first | exact Below.refl _ _ | assumption | refine st_drew ?_ | refine st_drewN ?_ _ | refine Below.setCell ?_ (by first | omega | (simp; done) | (simp; omega)) _ | refine Below.alloc ?_ (by first | omega | (simp; done) | (simp; omega)) _))).trans ht1⟩
  by_cases q3 : k = 3
  · subst q3
    have e1 : Hid (codeS R ⟨3, t, c, p⟩ = if anyC R c 1000 = true then 0 else 3) := by simp [codeS, Hid]
    have e2 : Hid (nxt R ⟨3, t, c, p⟩ = if anyC R c 1000 = true then ⟨ends R c 3 1000, R.cy, upd R.ov c true⟩ else R) := by simp [nxt, Hid]
    have HC := hidden (fun (W : World) (hW : Below w.heap.size w W) => iend_any base g K c 3 R W (HB.out W hW) hc (by omega))
    rw [← e1.out, ← e2.out] at HC
    clear hk q1 q2 e1 e2
    generalize codeS R _ = C at HC ⊢
    generalize nxt R _ = N at HC ⊢
    go_enter Try.func66, Try.ntmps66
    go_wp2_with (go_at_call 102; refine (HC.out _ (by repeat (first | exact Below.refl _ _ | assumption | refine st_drew ?_ | refine st_drewN ?_ _ | refine Below.setCell ?_ (by first | omega | (simp; done) | (simp; omega)) _ | refine Below.alloc ?_ (by first | omega | (simp; done) | (simp; omega)) _))).mono ?_; rintro e w1 ⟨rfl, hr1, ht1⟩)
    go_ret
    exact ⟨rfl, hr1.mono (Nat.le_succ _), (HT.out _ (by repeat (first | exact Below.refl _ _ | assumption | refine st_drew ?_ | refine st_drewN ?_ _ | refine Below.setCell ?_ (by first | omega | (simp; done) | (simp; omega)) _ | refine Below.alloc ?_ (by first | omega | (simp; done) | (simp; omega)) _))).trans ht1⟩
  by_cases q4 : k = 4
  · subst q4
    have e1 : Hid (codeS R ⟨4, t, c, p⟩ = if anyC R c 1000 = true then 0 else 3) := by simp [codeS, Hid]
    have e2 : Hid (nxt R ⟨4, t, c, p⟩ = if anyC R c 1000 = true then ⟨ends R c 0 1000, R.cy, upd R.ov c true⟩ else R) := by simp [nxt, Hid]
    have HC := hidden (fun (W : World) (hW : Below w.heap.size w W) => iend_any base g K c 0 R W (HB.out W hW) hc (by omega))
    rw [← e1.out, ← e2.out] at HC
    clear hk q1 q2 q3 e1 e2
    generalize codeS R _ = C at HC ⊢
    generalize nxt R _ = N at HC ⊢
    go_enter Try.func66, Try.ntmps66
    go_wp2_with (go_at_call 102; refine (HC.out _ (by repeat (first | exact Below.refl _ _ | assumption | refine st_drew ?_ | refine st_drewN ?_ _ | refine Below.setCell ?_ (by first | omega | (simp; done) | (simp; omega)) _ | refine Below.alloc ?_ (by first | omega | (simp; done) | (simp; omega)) _))).mono ?_; rintro e w1 ⟨rfl, hr1, ht1⟩)
    go_ret
    exact ⟨rfl, hr1.mono (Nat.le_succ _), (HT.out _ (by repeat (first | exact Below.refl _ _ | assumption | refine st_drew ?_ | refine st_drewN ?_ _ | refine Below.setCell ?_ (by first | omega | (simp; done) | (simp; omega)) _ | refine Below.alloc ?_ (by first | omega | (simp; done) | (simp; omega)) _))).trans ht1⟩
  by_cases q5 : k = 5
  · subst q5
    have e1 : Hid (codeS R ⟨5, t, c, p⟩ = if R.st t = 3 then 0 else 4) := by simp [codeS, Hid]
    have e2 : Hid (nxt R ⟨5, t, c, p⟩ = if R.st t = 3 then ⟨upd R.st t 0, R.cy, R.ov⟩ else R) := by simp [nxt, Hid]
    have HC := hidden (fun (W : World) (hW : Below w.heap.size w W) => isoil_any base g K t 4 R W (HB.out W hW) ht)
    rw [← e1.out, ← e2.out] at HC
    clear hk q1 q2 q3 q4 e1 e2
    generalize codeS R _ = C at HC ⊢
    generalize nxt R _ = N at HC ⊢
    go_enter Try.func66, Try.ntmps66
    go_wp2_with (go_at_call 103; refine (HC.out _ (by repeat (first | exact Below.refl _ _ | assumption | refine st_drew ?_ | refine st_drewN ?_ _ | refine Below.setCell ?_ (by first | omega | (simp; done) | (simp; omega)) _ | refine Below.alloc ?_ (by first | omega | (simp; done) | (simp; omega)) _))).mono ?_; rintro e w1 ⟨rfl, hr1, ht1⟩)
    go_ret
    exact ⟨rfl, hr1.mono (Nat.le_succ _), (HT.out _ (by repeat (first | exact Below.refl _ _ | assumption | refine st_drew ?_ | refine st_drewN ?_ _ | refine Below.setCell ?_ (by first | omega | (simp; done) | (simp; omega)) _ | refine Below.alloc ?_ (by first | omega | (simp; done) | (simp; omega)) _))).trans ht1⟩
  · obtain rfl : k = 6 := by omega
    have e1 : Hid (codeS R ⟨6, t, c, p⟩ = if R.st t = 3 then 0 else 5) := by simp [codeS, Hid]
    have e2 : Hid (nxt R ⟨6, t, c, p⟩ = if R.st t = 3 then ⟨upd R.st t 0, R.cy, R.ov⟩ else R) := by simp [nxt, Hid]
    have HC := hidden (fun (W : World) (hW : Below w.heap.size w W) => isoil_any base g K t 5 R W (HB.out W hW) ht)
    rw [← e1.out, ← e2.out] at HC
    clear hk q1 q2 q3 q4 q5 e1 e2
    generalize codeS R _ = C at HC ⊢
    generalize nxt R _ = N at HC ⊢
    go_enter Try.func66, Try.ntmps66
    go_wp2_with (go_at_call 103; refine (HC.out _ (by repeat (first | exact Below.refl _ _ | assumption | refine st_drew ?_ | refine st_drewN ?_ _ | refine Below.setCell ?_ (by first | omega | (simp; done) | (simp; omega)) _ | refine Below.alloc ?_ (by first | omega | (simp; done) | (simp; omega)) _))).mono ?_; rintro e w1 ⟨rfl, hr1, ht1⟩)
    go_ret
    exact ⟨rfl, hr1.mono (Nat.le_succ _), (HT.out _ (by repeat (first | exact Below.refl _ _ | assumption | refine st_drew ?_ | refine st_drewN ?_ _ | refine Below.setCell ?_ (by first | omega | (simp; done) | (simp; omega)) _ | refine Below.alloc ?_ (by first | omega | (simp; done) | (simp; omega)) _))).trans ht1⟩
end Go.Proofs.Ytklgadaefngnnaa
