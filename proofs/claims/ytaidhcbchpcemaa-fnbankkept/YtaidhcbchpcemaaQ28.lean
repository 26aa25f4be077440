/-
  A deed on a unit behind the interface.
-/
import Derived.Test.YtaidhcbchpcemaaQ27
namespace Go.Proofs.Ytaidhcbchpcemaa
open Go.RowKit Va Bl
set_option linter.all false

/-- The unit behind the deed, where the deed is for its state. -/
def onU (x : Ut) (n : Nd) (k : Int) : Ut := if fineB x n k = true then turnU x n k else x

set_option maxRecDepth 20000 in
set_option maxHeartbeats 8000000 in
theorem ion_any (x : Ut) (ta : Option Addr) (tn tc : Nat) (n : Nd) (na : Option Addr) (nn nc : Nat) (a : Da) (w : World) (h : IRw w (.slice ta tn tc) x.ant) (hn : x.ant.length ≤ 1048576) (h' : IRw w (.slice na nn nc) n.ag) (hn' : n.ag.length ≤ 1048576) (hk : 1 ≤ a.k ∧ a.k ≤ 4) :
    Calls Try.prog 68 #[aDo a, aI (x, .slice ta tn tc), aN n (.slice na nn nc)] w fun e w' => e = .returned (.tuple #[aI (onU x n a.k, .slice ta tn tc), .int .i64 (codeU x n a)]) ∧ Below w.heap.size w w' := by
  obtain ⟨ak, ai, at9⟩ := a
  dsimp only at hk
  have HTo := hidden (fun W => told_any x ta tn tc W)
  have HRf := hidden (fun W (hW : Below w.heap.size w W) => irefuse_any x ta tn tc n na nn nc at9 W (h.below hW) hn (h'.below hW) hn')
  have HK1 := hidden (fun W => ikept_any x ta tn tc n.p W)
  have HT1 := hidden (fun W => ithrown1_any x ta tn tc W)
  have HT2 := hidden (fun W => ithrown2_any x ta tn tc W)
  have HBk := hidden (fun W => iback_any x ta tn tc W)
  have HGv := hidden (fun W => igiven_any x ta tn tc W)
  have HIk := hidden (fun W => iiskept_any x ta tn tc n.p W)
  clear h h'
  unfold aDo aN aI aU at *
  dsimp only at *
  rcases (show ak = 1 ∨ ak = 2 ∨ ak = 3 ∨ ak = 4 by omega) with rfl | rfl | rfl | rfl
  · clear hk
    by_cases hst : x.st = 1
    · skip
      have HE : Hid (onU x n 1 = { x with st := 2, fr := n.p }) := by rw [Hid, onU]; simp [fineB, turnU, hst]
      have HC : Hid (codeU x n ⟨1, ai, at9⟩ = refuse x n at9) := by rw [Hid, codeU]; simp [fineB, refuse, hst]
      rw [HE.out, HC.out]
      have e1 : ifT x.st = 110 := by rw [hst]; rfl
      rw [e1]
      clear e1 HE HC hst
      have PD := hidden ((PB.new w #[.int .i64 1, .int .i64 ai, .int .i64 at9] 30).alloc (.cells #[.int .i64 n.p, .int .i64 n.g, .slice na nn nc] 28))
      have PN := hidden (PB.new (w.alloc (.cells #[.int .i64 1, .int .i64 ai, .int .i64 at9] 30)) #[.int .i64 n.p, .int .i64 n.g, .slice na nn nc] 28)
      have b0 : Below w.heap.size w ((w.alloc (.cells #[.int .i64 1, .int .i64 ai, .int .i64 at9] 30)).alloc (.cells #[.int .i64 n.p, .int .i64 n.g, .slice na nn nc] 28)) := by repeat (first | exact Below.refl _ _ | assumption | refine st_drew ?_ | refine st_drewN ?_ _ | refine Below.setCell ?_ (by first | omega | (simp; done) | (simp; omega)) _ | refine Below.alloc ?_ (by first | omega | (simp; done) | (simp; omega)) _)
      simp only [World.size_alloc] at PD PN
      have hA := as_keep1
      go_enter Try.func68, Try.ntmps68
      go_upto_region 5 with fail
      refine regOn5 (x := x) (n := n) (a9 := ⟨1, ai, at9⟩) rfl rfl rfl rfl rfl PD.out PN.out (fun W hW => HK1.out W) (fun W hW => HTo.out W) (fun W hW => HRf.out W (onto b0 hW)) ?_
      intro b' w3 hf hb3 hv1 hv2
      rw [layOn5 hf, hv1, hv2]
      clear hv1 hv2 hf
      generalize Rg.out (Rg.opsOf Try.f68 5) b' 0 = y0
      generalize Rg.out (Rg.opsOf Try.f68 5) b' 1 = y1
      generalize Rg.out (Rg.opsOf Try.f68 5) b' 2 = y2
      generalize Rg.out (Rg.opsOf Try.f68 5) b' 3 = y3
      generalize Rg.out (Rg.opsOf Try.f68 5) b' 4 = y4
      generalize Rg.out (Rg.opsOf Try.f68 5) b' 5 = y5
      generalize Rg.out (Rg.opsOf Try.f68 5) b' 6 = y6
      generalize Rg.out (Rg.opsOf Try.f68 5) b' 7 = y7
      generalize Rg.out (Rg.opsOf Try.f68 5) b' 8 = y8
      generalize Rg.out (Rg.opsOf Try.f68 5) b' 9 = y9
      have bF := onto b0 hb3
      clear hb3 b0
      go_frame
      go_wp2_with fail
      go_ret2
      exact ⟨rfl, bF⟩
    · skip
      have HE : Hid (onU x n 1 = x) := by rw [Hid, onU]; simp [fineB, turnU, hst]
      have HC : Hid (codeU x n ⟨1, ai, at9⟩ = 4) := by rw [Hid, codeU]; simp [fineB, refuse, hst]
      rw [HE.out, HC.out]
      clear HE HC
      have hA := as_keepN hst
      generalize ifT x.st = T9 at *
      go_enter Try.func68, Try.ntmps68
      go_wp2_with fail
      go_ret2
      exact ⟨rfl, by repeat (first | exact Below.refl _ _ | assumption | refine st_drew ?_ | refine st_drewN ?_ _ | refine Below.setCell ?_ (by first | omega | (simp; done) | (simp; omega)) _ | refine Below.alloc ?_ (by first | omega | (simp; done) | (simp; omega)) _)⟩
  · clear hk
    by_cases hst : x.st = 2
    · by_cases hfr : x.fr = n.p
      · skip
        have HE : Hid (onU x n 2 = { x with st := 1, fr := -1 }) := by rw [Hid, onU]; simp [fineB, turnU, hst, hfr]
        have HC : Hid (codeU x n ⟨2, ai, at9⟩ = 0) := by rw [Hid, codeU]; simp [fineB, refuse, hst, hfr]
        rw [HE.out, HC.out]
        have e1 : ifT x.st = 111 := by rw [hst]; rfl
        rw [e1]
        have hD : decide (x.fr = n.p) = true := by simp [hfr]
        rw [hD] at HIk
        clear e1 HE HC hst hfr hD
        have PD := hidden ((PB.new w #[.int .i64 2, .int .i64 ai, .int .i64 at9] 30).alloc (.cells #[.int .i64 n.p, .int .i64 n.g, .slice na nn nc] 28))
        have PN := hidden (PB.new (w.alloc (.cells #[.int .i64 2, .int .i64 ai, .int .i64 at9] 30)) #[.int .i64 n.p, .int .i64 n.g, .slice na nn nc] 28)
        have b0 : Below w.heap.size w ((w.alloc (.cells #[.int .i64 2, .int .i64 ai, .int .i64 at9] 30)).alloc (.cells #[.int .i64 n.p, .int .i64 n.g, .slice na nn nc] 28)) := by repeat (first | exact Below.refl _ _ | assumption | refine st_drew ?_ | refine st_drewN ?_ _ | refine Below.setCell ?_ (by first | omega | (simp; done) | (simp; omega)) _ | refine Below.alloc ?_ (by first | omega | (simp; done) | (simp; omega)) _)
        simp only [World.size_alloc] at PD PN
        have hA := as_giv2
        have hm1 := m_iskept
        have hm2 := m_back
        have j1 := HIk.out
        have j2 := HBk.out
        go_enter Try.func68, Try.ntmps68
        go_wp2_with (first | (go_at_call 129; refine (j1 _).mono ?_; rintro e w1 ⟨rfl, hb1⟩; have bA := onto b0 hb1; clear hb1) | (go_at_call 127; refine (j2 _).mono ?_; rintro e w2 ⟨rfl, hb2⟩; have bB := onto bA hb2; clear hb2))
        go_ret2
        exact ⟨rfl, bB⟩
      · skip
        have HE : Hid (onU x n 2 = x) := by rw [Hid, onU]; simp [fineB, turnU, hst, hfr]
        have HC : Hid (codeU x n ⟨2, ai, at9⟩ = 4) := by rw [Hid, codeU]; simp [fineB, refuse, hst, hfr]
        rw [HE.out, HC.out]
        have e1 : ifT x.st = 111 := by rw [hst]; rfl
        rw [e1]
        have hD : decide (x.fr = n.p) = false := by simp [hfr]
        rw [hD] at HIk
        clear e1 HE HC hst hfr hD
        have hA := as_giv2
        have hm1 := m_iskept
        have j1 := HIk.out
        have b0 : Below w.heap.size w ((w.alloc (.cells #[.int .i64 2, .int .i64 ai, .int .i64 at9] 30)).alloc (.cells #[.int .i64 n.p, .int .i64 n.g, .slice na nn nc] 28)) := by repeat (first | exact Below.refl _ _ | assumption | refine st_drew ?_ | refine st_drewN ?_ _ | refine Below.setCell ?_ (by first | omega | (simp; done) | (simp; omega)) _ | refine Below.alloc ?_ (by first | omega | (simp; done) | (simp; omega)) _)
        go_enter Try.func68, Try.ntmps68
        go_wp2_with (go_at_call 129; refine (j1 _).mono ?_; rintro e w1 ⟨rfl, hb1⟩; have bA := onto b0 hb1; clear hb1)
        go_ret2
        exact ⟨rfl, bA⟩
    · skip
      have HE : Hid (onU x n 2 = x) := by rw [Hid, onU]; simp [fineB, turnU, hst]
      have HC : Hid (codeU x n ⟨2, ai, at9⟩ = 4) := by rw [Hid, codeU]; simp [fineB, refuse, hst]
      rw [HE.out, HC.out]
      clear HE HC
      have hA := as_givN hst
      generalize ifT x.st = T9 at *
      go_enter Try.func68, Try.ntmps68
      go_wp2_with fail
      go_ret2
      exact ⟨rfl, by repeat (first | exact Below.refl _ _ | assumption | refine st_drew ?_ | refine st_drewN ?_ _ | refine Below.setCell ?_ (by first | omega | (simp; done) | (simp; omega)) _ | refine Below.alloc ?_ (by first | omega | (simp; done) | (simp; omega)) _)⟩
  · clear hk
    by_cases hst : x.st = 2
    · by_cases hfr : x.fr = n.p
      · skip
        have HE : Hid (onU x n 3 = { x with st := 3, fr := x.fr }) := by rw [Hid, onU]; simp [fineB, turnU, hst, hfr]
        have HC : Hid (codeU x n ⟨3, ai, at9⟩ = refuse x n at9) := by rw [Hid, codeU]; simp [fineB, refuse, hst, hfr]
        rw [HE.out, HC.out]
        have e1 : ifT x.st = 111 := by rw [hst]; rfl
        rw [e1]
        have hD : decide (x.fr = n.p) = true := by simp [hfr]
        rw [hD] at HIk
        clear e1 HE HC hst hfr hD
        have PD := hidden ((PB.new w #[.int .i64 3, .int .i64 ai, .int .i64 at9] 30).alloc (.cells #[.int .i64 n.p, .int .i64 n.g, .slice na nn nc] 28))
        have PN := hidden (PB.new (w.alloc (.cells #[.int .i64 3, .int .i64 ai, .int .i64 at9] 30)) #[.int .i64 n.p, .int .i64 n.g, .slice na nn nc] 28)
        have b0 : Below w.heap.size w ((w.alloc (.cells #[.int .i64 3, .int .i64 ai, .int .i64 at9] 30)).alloc (.cells #[.int .i64 n.p, .int .i64 n.g, .slice na nn nc] 28)) := by repeat (first | exact Below.refl _ _ | assumption | refine st_drew ?_ | refine st_drewN ?_ _ | refine Below.setCell ?_ (by first | omega | (simp; done) | (simp; omega)) _ | refine Below.alloc ?_ (by first | omega | (simp; done) | (simp; omega)) _)
        simp only [World.size_alloc] at PD PN
        have hA := as_giv2
        have hm1 := m_iskept
        have j1 := HIk.out
        go_enter Try.func68, Try.ntmps68
        go_upto_region 13 with (go_at_call 129; refine (j1 _).mono ?_; rintro e w1 ⟨rfl, hb1⟩; have PD1 := hidden (PD.out.below hb1); have PN1 := hidden (PN.out.below hb1); have bA := onto b0 hb1; clear hb1)
        refine regOn13 (x := x) (n := n) (a9 := ⟨3, ai, at9⟩) rfl rfl rfl rfl rfl PD1.out PN1.out (fun W hW => HGv.out W) (fun W hW => HTo.out W) (fun W hW => HRf.out W (onto bA hW)) ?_
        intro b' w3 hf hb3 hv1 hv2
        rw [layOn13 hf, hv1, hv2]
        clear hv1 hv2 hf
        generalize Rg.out (Rg.opsOf Try.f68 13) b' 0 = y0
        generalize Rg.out (Rg.opsOf Try.f68 13) b' 1 = y1
        generalize Rg.out (Rg.opsOf Try.f68 13) b' 2 = y2
        generalize Rg.out (Rg.opsOf Try.f68 13) b' 3 = y3
        generalize Rg.out (Rg.opsOf Try.f68 13) b' 4 = y4
        generalize Rg.out (Rg.opsOf Try.f68 13) b' 5 = y5
        generalize Rg.out (Rg.opsOf Try.f68 13) b' 6 = y6
        generalize Rg.out (Rg.opsOf Try.f68 13) b' 7 = y7
        have bF := onto bA hb3
        clear hb3 bA
        go_frame
        go_wp2_with fail
        go_ret2
        exact ⟨rfl, bF⟩
      · skip
        have HE : Hid (onU x n 3 = x) := by rw [Hid, onU]; simp [fineB, turnU, hst, hfr]
        have HC : Hid (codeU x n ⟨3, ai, at9⟩ = 4) := by rw [Hid, codeU]; simp [fineB, refuse, hst, hfr]
        rw [HE.out, HC.out]
        have e1 : ifT x.st = 111 := by rw [hst]; rfl
        rw [e1]
        have hD : decide (x.fr = n.p) = false := by simp [hfr]
        rw [hD] at HIk
        clear e1 HE HC hst hfr hD
        have hA := as_giv2
        have hm1 := m_iskept
        have j1 := HIk.out
        have b0 : Below w.heap.size w ((w.alloc (.cells #[.int .i64 3, .int .i64 ai, .int .i64 at9] 30)).alloc (.cells #[.int .i64 n.p, .int .i64 n.g, .slice na nn nc] 28)) := by repeat (first | exact Below.refl _ _ | assumption | refine st_drew ?_ | refine st_drewN ?_ _ | refine Below.setCell ?_ (by first | omega | (simp; done) | (simp; omega)) _ | refine Below.alloc ?_ (by first | omega | (simp; done) | (simp; omega)) _)
        go_enter Try.func68, Try.ntmps68
        go_wp2_with (go_at_call 129; refine (j1 _).mono ?_; rintro e w1 ⟨rfl, hb1⟩; have bA := onto b0 hb1; clear hb1)
        go_ret2
        exact ⟨rfl, bA⟩
    · skip
      have HE : Hid (onU x n 3 = x) := by rw [Hid, onU]; simp [fineB, turnU, hst]
      have HC : Hid (codeU x n ⟨3, ai, at9⟩ = 4) := by rw [Hid, codeU]; simp [fineB, refuse, hst]
      rw [HE.out, HC.out]
      clear HE HC
      have hA := as_givN hst
      generalize ifT x.st = T9 at *
      go_enter Try.func68, Try.ntmps68
      go_wp2_with fail
      go_ret2
      exact ⟨rfl, by repeat (first | exact Below.refl _ _ | assumption | refine st_drew ?_ | refine st_drewN ?_ _ | refine Below.setCell ?_ (by first | omega | (simp; done) | (simp; omega)) _ | refine Below.alloc ?_ (by first | omega | (simp; done) | (simp; omega)) _)⟩
  · clear hk
    by_cases hst : x.st = 1
    · skip
      have HE : Hid (onU x n 4 = { x with st := 4, fr := -1 }) := by rw [Hid, onU]; simp [fineB, turnU, hst]
      have HC : Hid (codeU x n ⟨4, ai, at9⟩ = 0) := by rw [Hid, codeU]; simp [fineB, refuse, hst]
      rw [HE.out, HC.out]
      have e1 : ifT x.st = 110 := by rw [hst]; rfl
      rw [e1]
      clear e1 HE HC hst
      have hA := as_thr1
      have hm1 := m_thr1
      have j1 := HT1.out
      have b0 : Below w.heap.size w ((w.alloc (.cells #[.int .i64 4, .int .i64 ai, .int .i64 at9] 30)).alloc (.cells #[.int .i64 n.p, .int .i64 n.g, .slice na nn nc] 28)) := by repeat (first | exact Below.refl _ _ | assumption | refine st_drew ?_ | refine st_drewN ?_ _ | refine Below.setCell ?_ (by first | omega | (simp; done) | (simp; omega)) _ | refine Below.alloc ?_ (by first | omega | (simp; done) | (simp; omega)) _)
      go_enter Try.func68, Try.ntmps68
      go_wp2_with (go_at_call 125; refine (j1 _).mono ?_; rintro e w1 ⟨rfl, hb1⟩; have bA := onto b0 hb1; clear hb1)
      go_ret2
      exact ⟨rfl, bA⟩
    by_cases hst2 : x.st = 2
    · clear hst
      have hst := hst2
      clear hst2
      have HE : Hid (onU x n 4 = { x with st := 4, fr := -1 }) := by rw [Hid, onU]; simp [fineB, turnU, hst]
      have HC : Hid (codeU x n ⟨4, ai, at9⟩ = 0) := by rw [Hid, codeU]; simp [fineB, refuse, hst]
      rw [HE.out, HC.out]
      have e1 : ifT x.st = 111 := by rw [hst]; rfl
      rw [e1]
      clear e1 HE HC hst
      have hA := as_thr2
      have hm1 := m_thr2
      have j1 := HT2.out
      have b0 : Below w.heap.size w ((w.alloc (.cells #[.int .i64 4, .int .i64 ai, .int .i64 at9] 30)).alloc (.cells #[.int .i64 n.p, .int .i64 n.g, .slice na nn nc] 28)) := by repeat (first | exact Below.refl _ _ | assumption | refine st_drew ?_ | refine st_drewN ?_ _ | refine Below.setCell ?_ (by first | omega | (simp; done) | (simp; omega)) _ | refine Below.alloc ?_ (by first | omega | (simp; done) | (simp; omega)) _)
      go_enter Try.func68, Try.ntmps68
      go_wp2_with (go_at_call 130; refine (j1 _).mono ?_; rintro e w1 ⟨rfl, hb1⟩; have bA := onto b0 hb1; clear hb1)
      go_ret2
      exact ⟨rfl, bA⟩
    · skip
      have HE : Hid (onU x n 4 = x) := by rw [Hid, onU]; simp [fineB, turnU, hst, hst2]
      have HC : Hid (codeU x n ⟨4, ai, at9⟩ = 4) := by rw [Hid, codeU]; simp [fineB, refuse, hst, hst2]
      rw [HE.out, HC.out]
      clear HE HC
      have hA := as_thrN hst hst2
      generalize ifT x.st = T9 at *
      go_enter Try.func68, Try.ntmps68
      go_wp2_with fail
      go_ret2
      exact ⟨rfl, by repeat (first | exact Below.refl _ _ | assumption | refine st_drew ?_ | refine st_drewN ?_ _ | refine Below.setCell ?_ (by first | omega | (simp; done) | (simp; omega)) _ | refine Below.alloc ?_ (by first | omega | (simp; done) | (simp; omega)) _)⟩

end Go.Proofs.Ytaidhcbchpcemaa
