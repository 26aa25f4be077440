/-
  Merged: Q28 Q29.
-/
import Derived.Test.YtgcpiinmcbdkmaaMh26
namespace Go.Proofs.Ytgcpiinmcbdkmaa
open Go.RowKit Va Bl
set_option linter.all false
def onU (x : Ut) (n : Nd) (k : Int) : Ut := if fineB x n k = true then turnU x n k else x
set_option maxRecDepth 20000 in
set_option maxHeartbeats 8000000 in
theorem ion_any (x : Ut) (ta : Option Addr) (tn tc : Nat) (n : Nd) (na : Option Addr) (nn nc : Nat) (a : Da) (w : World) (h : IRw w (.slice ta tn tc) x.ant) (hn : x.ant.length ≤ 1048576) (h' : IRw w (.slice na nn nc) n.ag) (hn' : n.ag.length ≤ 1048576) (hk : 1 ≤ a.k ∧ a.k ≤ 4) :
    Calls Try.prog 101 #[aDo a, aI (x, .slice ta tn tc), aN n (.slice na nn nc)] w fun e w' => e = .returned (.tuple #[aI (onU x n a.k, .slice ta tn tc), .int .i64 (codeU x n a)]) ∧ Below w.heap.size w w' := by
  obtain ⟨ak, ai, at9⟩ := a
  dsimp only at hk
  have HTo := hidden (fun W => told_any x ta tn tc W)
  have HRf := hidden (fun W (hW : Below w.heap.size w W) => irefuse_any x ta tn tc n na nn nc at9 W (h.below hW) hn (h'.below hW) hn')
  have HK1 := hidden (fun W => ikept_any x ta tn tc n.p W)
  have HT1 := hidden (fun W => ithrown1_any x ta tn tc W)
  have HT2 := hidden (fun W => ithrown2_any x ta tn tc W)
  have HBk := hidden (fun W => iback_any x ta tn tc W)
  have HGv := hidden (fun W => igiven_any x ta tn tc W)
  have HIk := hidden (fun W => iiskept_any x ta tn tc n.p W)
  clear h h'
  unfold aDo aN aI aU at *
  dsimp only at *
  rcases (show ak = 1 ∨ ak = 2 ∨ ak = 3 ∨ ak = 4 by omega) with rfl | rfl | rfl | rfl
  · clear hk
    by_cases hst : x.st = 1
    · skip
      have HE : Hid (onU x n 1 = { x with st := 2, fr := n.p }) := by rw [Hid, onU]; simp [fineB, turnU, hst]
      have HC : Hid (codeU x n ⟨1, ai, at9⟩ = refuse x n at9) := by rw [Hid, codeU]; simp [fineB, refuse, hst]
      rw [HE.out, HC.out]
      have e1 : ifT x.st = 153 := by rw [hst]; rfl
      rw [e1]
      clear e1 HE HC hst
      have PD := hidden ((PB.new w #[.int .i64 1, .int .i64 ai, .int .i64 at9] 35).alloc (.cells #[.int .i64 n.p, .int .i64 n.g, .slice na nn nc] 27))
      have PN := hidden (PB.new (w.alloc (.cells #[.int .i64 1, .int .i64 ai, .int .i64 at9] 35)) #[.int .i64 n.p, .int .i64 n.g, .slice na nn nc] 27)
      have b0 : Below w.heap.size w ((w.alloc (.cells #[.int .i64 1, .int .i64 ai, .int .i64 at9] 35)).alloc (.cells #[.int .i64 n.p, .int .i64 n.g, .slice na nn nc] 27)) := by repeat (first | exact Below.refl _ _ | assumption | refine st_drew ?_ | refine st_drewN ?_ _ | refine Below.setCell ?_ (by first | omega | (simp; done) | (simp; omega)) _ | refine Below.alloc ?_ (by first | omega | (simp; done) | (simp; omega)) _)
      simp only [World.size_alloc] at PD PN
      have hA := as_keep1
      go_enter Try.func101, Try.ntmps101
      go_upto_region 5 with fail
      refine regOn5 (x := x) (n := n) (a9 := ⟨1, ai, at9⟩) rfl rfl rfl rfl rfl PD.out PN.out (fun W hW => HK1.out W) (fun W hW => HTo.out W) (fun W hW => HRf.out W (onto b0 hW)) ?_
      intro b' w3 hf hb3 hv1 hv2
      rw [layOn5 hf, hv1, hv2]
      clear hv1 hv2 hf
      generalize Rg.out (Rg.opsOf Try.f101 5) b' 0 = y0
      generalize Rg.out (Rg.opsOf Try.f101 5) b' 1 = y1
      generalize Rg.out (Rg.opsOf Try.f101 5) b' 2 = y2
      generalize Rg.out (Rg.opsOf Try.f101 5) b' 3 = y3
      generalize Rg.out (Rg.opsOf Try.f101 5) b' 4 = y4
      generalize Rg.out (Rg.opsOf Try.f101 5) b' 5 = y5
      generalize Rg.out (Rg.opsOf Try.f101 5) b' 6 = y6
      generalize Rg.out (Rg.opsOf Try.f101 5) b' 7 = y7
      generalize Rg.out (Rg.opsOf Try.f101 5) b' 8 = y8
      generalize Rg.out (Rg.opsOf Try.f101 5) b' 9 = y9
      have bF := onto b0 hb3
      clear hb3 b0
      go_frame
      go_wp2_with fail
      go_ret2
      exact ⟨rfl, bF⟩
    · skip
      have HE : Hid (onU x n 1 = x) := by rw [Hid, onU]; simp [fineB, turnU, hst]
      have HC : Hid (codeU x n ⟨1, ai, at9⟩ = 4) := by rw [Hid, codeU]; simp [fineB, refuse, hst]
      rw [HE.out, HC.out]
      clear HE HC
      have hA := as_keepN hst
      generalize ifT x.st = T9 at *
      go_enter Try.func101, Try.ntmps101
      go_wp2_with fail
      go_ret2
      exact ⟨rfl, by repeat (first | exact Below.refl _ _ | assumption | refine st_drew ?_ | refine st_drewN ?_ _ | refine Below.setCell ?_ (by first | omega | (simp; done) | (simp; omega)) _ | refine Below.alloc ?_ (by first | omega | (simp; done) | (simp; omega)) _)⟩
  · clear hk
    by_cases hst : x.st = 2
    · by_cases hfr : x.fr = n.p
      · skip
        have HE : Hid (onU x n 2 = { x with st := 1, fr := -1 }) := by rw [Hid, onU]; simp [fineB, turnU, hst, hfr]
        have HC : Hid (codeU x n ⟨2, ai, at9⟩ = 0) := by rw [Hid, codeU]; simp [fineB, refuse, hst, hfr]
        rw [HE.out, HC.out]
        have e1 : ifT x.st = 154 := by rw [hst]; rfl
        rw [e1]
        have hD : decide (x.fr = n.p) = true := by simp [hfr]
        rw [hD] at HIk
        clear e1 HE HC hst hfr hD
        have PD := hidden ((PB.new w #[.int .i64 2, .int .i64 ai, .int .i64 at9] 35).alloc (.cells #[.int .i64 n.p, .int .i64 n.g, .slice na nn nc] 27))
        have PN := hidden (PB.new (w.alloc (.cells #[.int .i64 2, .int .i64 ai, .int .i64 at9] 35)) #[.int .i64 n.p, .int .i64 n.g, .slice na nn nc] 27)
        have b0 : Below w.heap.size w ((w.alloc (.cells #[.int .i64 2, .int .i64 ai, .int .i64 at9] 35)).alloc (.cells #[.int .i64 n.p, .int .i64 n.g, .slice na nn nc] 27)) := by repeat (first | exact Below.refl _ _ | assumption | refine st_drew ?_ | refine st_drewN ?_ _ | refine Below.setCell ?_ (by first | omega | (simp; done) | (simp; omega)) _ | refine Below.alloc ?_ (by first | omega | (simp; done) | (simp; omega)) _)
        simp only [World.size_alloc] at PD PN
        have hA := as_giv2
        have hm1 := m_iskept
        have hm2 := m_back
        have j1 := HIk.out
        have j2 := HBk.out
        go_enter Try.func101, Try.ntmps101
        go_wp2_with (first | (go_at_call 201; refine (j1 _).mono ?_; rintro e w1 ⟨rfl, hb1⟩; have bA := onto b0 hb1; clear hb1) | (go_at_call 199; refine (j2 _).mono ?_; rintro e w2 ⟨rfl, hb2⟩; have bB := onto bA hb2; clear hb2))
        go_ret2
        exact ⟨rfl, bB⟩
      · skip
        have HE : Hid (onU x n 2 = x) := by rw [Hid, onU]; simp [fineB, turnU, hst, hfr]
        have HC : Hid (codeU x n ⟨2, ai, at9⟩ = 4) := by rw [Hid, codeU]; simp [fineB, refuse, hst, hfr]
        rw [HE.out, HC.out]
        have e1 : ifT x.st = 154 := by rw [hst]; rfl
        rw [e1]
        have hD : decide (x.fr = n.p) = false := by simp [hfr]
        rw [hD] at HIk
        clear e1 HE HC hst hfr hD
        have hA := as_giv2
        have hm1 := m_iskept
        have j1 := HIk.out
        have b0 : Below w.heap.size w ((w.alloc (.cells #[.int .i64 2, .int .i64 ai, .int .i64 at9] 35)).alloc (.cells #[.int .i64 n.p, .int .i64 n.g, .slice na nn nc] 27)) := by repeat (first | exact Below.refl _ _ | assumption | refine st_drew ?_ | refine st_drewN ?_ _ | refine Below.setCell ?_ (by first | omega | (simp; done) | (simp; omega)) _ | refine Below.alloc ?_ (by first | omega | (simp; done) | (simp; omega)) _)
        go_enter Try.func101, Try.ntmps101
        go_wp2_with (go_at_call 201; refine (j1 _).mono ?_; rintro e w1 ⟨rfl, hb1⟩; have bA := onto b0 hb1; clear hb1)
        go_ret2
        exact ⟨rfl, bA⟩
    · skip
      have HE : Hid (onU x n 2 = x) := by rw [Hid, onU]; simp [fineB, turnU, hst]
      have HC : Hid (codeU x n ⟨2, ai, at9⟩ = 4) := by rw [Hid, codeU]; simp [fineB, refuse, hst]
      rw [HE.out, HC.out]
      clear HE HC
      have hA := as_givN hst
      generalize ifT x.st = T9 at *
      go_enter Try.func101, Try.ntmps101
      go_wp2_with fail
      go_ret2
      exact ⟨rfl, by repeat (first | exact Below.refl _ _ | assumption | refine st_drew ?_ | refine st_drewN ?_ _ | refine Below.setCell ?_ (by first | omega | (simp; done) | (simp; omega)) _ | refine Below.alloc ?_ (by first | omega | (simp; done) | (simp; omega)) _)⟩
  · clear hk
    by_cases hst : x.st = 2
    · by_cases hfr : x.fr = n.p
      · skip
        have HE : Hid (onU x n 3 = { x with st := 3, fr := x.fr }) := by rw [Hid, onU]; simp [fineB, turnU, hst, hfr]
        have HC : Hid (codeU x n ⟨3, ai, at9⟩ = refuse x n at9) := by rw [Hid, codeU]; simp [fineB, refuse, hst, hfr]
        rw [HE.out, HC.out]
        have e1 : ifT x.st = 154 := by rw [hst]; rfl
        rw [e1]
        have hD : decide (x.fr = n.p) = true := by simp [hfr]
        rw [hD] at HIk
        clear e1 HE HC hst hfr hD
        have PD := hidden ((PB.new w #[.int .i64 3, .int .i64 ai, .int .i64 at9] 35).alloc (.cells #[.int .i64 n.p, .int .i64 n.g, .slice na nn nc] 27))
        have PN := hidden (PB.new (w.alloc (.cells #[.int .i64 3, .int .i64 ai, .int .i64 at9] 35)) #[.int .i64 n.p, .int .i64 n.g, .slice na nn nc] 27)
        have b0 : Below w.heap.size w ((w.alloc (.cells #[.int .i64 3, .int .i64 ai, .int .i64 at9] 35)).alloc (.cells #[.int .i64 n.p, .int .i64 n.g, .slice na nn nc] 27)) := by repeat (first | exact Below.refl _ _ | assumption | refine st_drew ?_ | refine st_drewN ?_ _ | refine Below.setCell ?_ (by first | omega | (simp; done) | (simp; omega)) _ | refine Below.alloc ?_ (by first | omega | (simp; done) | (simp; omega)) _)
        simp only [World.size_alloc] at PD PN
        have hA := as_giv2
        have hm1 := m_iskept
        have j1 := HIk.out
        go_enter Try.func101, Try.ntmps101
        go_upto_region 13 with (go_at_call 201; refine (j1 _).mono ?_; rintro e w1 ⟨rfl, hb1⟩; have PD1 := hidden (PD.out.below hb1); have PN1 := hidden (PN.out.below hb1); have bA := onto b0 hb1; clear hb1)
        refine regOn13 (x := x) (n := n) (a9 := ⟨3, ai, at9⟩) rfl rfl rfl rfl rfl PD1.out PN1.out (fun W hW => HGv.out W) (fun W hW => HTo.out W) (fun W hW => HRf.out W (onto bA hW)) ?_
        intro b' w3 hf hb3 hv1 hv2
        rw [layOn13 hf, hv1, hv2]
        clear hv1 hv2 hf
        generalize Rg.out (Rg.opsOf Try.f101 13) b' 0 = y0
        generalize Rg.out (Rg.opsOf Try.f101 13) b' 1 = y1
        generalize Rg.out (Rg.opsOf Try.f101 13) b' 2 = y2
        generalize Rg.out (Rg.opsOf Try.f101 13) b' 3 = y3
        generalize Rg.out (Rg.opsOf Try.f101 13) b' 4 = y4
        generalize Rg.out (Rg.opsOf Try.f101 13) b' 5 = y5
        generalize Rg.out (Rg.opsOf Try.f101 13) b' 6 = y6
        generalize Rg.out (Rg.opsOf Try.f101 13) b' 7 = y7
        have bF := onto bA hb3
        clear hb3 bA
        go_frame
        go_wp2_with fail
        go_ret2
        exact ⟨rfl, bF⟩
      · skip
        have HE : Hid (onU x n 3 = x) := by rw [Hid, onU]; simp [fineB, turnU, hst, hfr]
        have HC : Hid (codeU x n ⟨3, ai, at9⟩ = 4) := by rw [Hid, codeU]; simp [fineB, refuse, hst, hfr]
        rw [HE.out, HC.out]
        have e1 : ifT x.st = 154 := by rw [hst]; rfl
        rw [e1]
        have hD : decide (x.fr = n.p) = false := by simp [hfr]
        rw [hD] at HIk
        clear e1 HE HC hst hfr hD
        have hA := as_giv2
        have hm1 := m_iskept
        have j1 := HIk.out
        have b0 : Below w.heap.size w ((w.alloc (.cells #[.int .i64 3, .int .i64 ai, .int .i64 at9] 35)).alloc (.cells #[.int .i64 n.p, .int .i64 n.g, .slice na nn nc] 27)) := by repeat (first | exact Below.refl _ _ | assumption | refine st_drew ?_ | refine st_drewN ?_ _ | refine Below.setCell ?_ (by first | omega | (simp; done) | (simp; omega)) _ | refine Below.alloc ?_ (by first | omega | (simp; done) | (simp; omega)) _)
        go_enter Try.func101, Try.ntmps101
        go_wp2_with (go_at_call 201; refine (j1 _).mono ?_; rintro e w1 ⟨rfl, hb1⟩; have bA := onto b0 hb1; clear hb1)
        go_ret2
        exact ⟨rfl, bA⟩
    · skip
      have HE : Hid (onU x n 3 = x) := by rw [Hid, onU]; simp [fineB, turnU, hst]
      have HC : Hid (codeU x n ⟨3, ai, at9⟩ = 4) := by rw [Hid, codeU]; simp [fineB, refuse, hst]
      rw [HE.out, HC.out]
      clear HE HC
      have hA := as_givN hst
      generalize ifT x.st = T9 at *
      go_enter Try.func101, Try.ntmps101
      go_wp2_with fail
      go_ret2
      exact ⟨rfl, by repeat (first | exact Below.refl _ _ | assumption | refine st_drew ?_ | refine st_drewN ?_ _ | refine Below.setCell ?_ (by first | omega | (simp; done) | (simp; omega)) _ | refine Below.alloc ?_ (by first | omega | (simp; done) | (simp; omega)) _)⟩
  · clear hk
    by_cases hst : x.st = 1
    · skip
      have HE : Hid (onU x n 4 = { x with st := 4, fr := -1 }) := by rw [Hid, onU]; simp [fineB, turnU, hst]
      have HC : Hid (codeU x n ⟨4, ai, at9⟩ = 0) := by rw [Hid, codeU]; simp [fineB, refuse, hst]
      rw [HE.out, HC.out]
      have e1 : ifT x.st = 153 := by rw [hst]; rfl
      rw [e1]
      clear e1 HE HC hst
      have hA := as_thr1
      have hm1 := m_thr1
      have j1 := HT1.out
      have b0 : Below w.heap.size w ((w.alloc (.cells #[.int .i64 4, .int .i64 ai, .int .i64 at9] 35)).alloc (.cells #[.int .i64 n.p, .int .i64 n.g, .slice na nn nc] 27)) := by repeat (first | exact Below.refl _ _ | assumption | refine st_drew ?_ | refine st_drewN ?_ _ | refine Below.setCell ?_ (by first | omega | (simp; done) | (simp; omega)) _ | refine Below.alloc ?_ (by first | omega | (simp; done) | (simp; omega)) _)
      go_enter Try.func101, Try.ntmps101
      go_wp2_with (go_at_call 197; refine (j1 _).mono ?_; rintro e w1 ⟨rfl, hb1⟩; have bA := onto b0 hb1; clear hb1)
      go_ret2
      exact ⟨rfl, bA⟩
    by_cases hst2 : x.st = 2
    · clear hst
      have hst := hst2
      clear hst2
      have HE : Hid (onU x n 4 = { x with st := 4, fr := -1 }) := by rw [Hid, onU]; simp [fineB, turnU, hst]
      have HC : Hid (codeU x n ⟨4, ai, at9⟩ = 0) := by rw [Hid, codeU]; simp [fineB, refuse, hst]
      rw [HE.out, HC.out]
      have e1 : ifT x.st = 154 := by rw [hst]; rfl
      rw [e1]
      clear e1 HE HC hst
      have hA := as_thr2
      have hm1 := m_thr2
      have j1 := HT2.out
      have b0 : Below w.heap.size w ((w.alloc (.cells #[.int .i64 4, .int .i64 ai, .int .i64 at9] 35)).alloc (.cells #[.int .i64 n.p, .int .i64 n.g, .slice na nn nc] 27)) := by repeat (first | exact Below.refl _ _ | assumption | refine st_drew ?_ | refine st_drewN ?_ _ | refine Below.setCell ?_ (by first | omega | (simp; done) | (simp; omega)) _ | refine Below.alloc ?_ (by first | omega | (simp; done) | (simp; omega)) _)
      go_enter Try.func101, Try.ntmps101
      go_wp2_with (go_at_call 202; refine (j1 _).mono ?_; rintro e w1 ⟨rfl, hb1⟩; have bA := onto b0 hb1; clear hb1)
      go_ret2
      exact ⟨rfl, bA⟩
    · skip
      have HE : Hid (onU x n 4 = x) := by rw [Hid, onU]; simp [fineB, turnU, hst, hst2]
      have HC : Hid (codeU x n ⟨4, ai, at9⟩ = 4) := by rw [Hid, codeU]; simp [fineB, refuse, hst, hst2]
      rw [HE.out, HC.out]
      clear HE HC
      have hA := as_thrN hst hst2
      generalize ifT x.st = T9 at *
      go_enter Try.func101, Try.ntmps101
      go_wp2_with fail
      go_ret2
      exact ⟨rfl, by repeat (first | exact Below.refl _ _ | assumption | refine st_drew ?_ | refine st_drewN ?_ _ | refine Below.setCell ?_ (by first | omega | (simp; done) | (simp; omega)) _ | refine Below.alloc ?_ (by first | omega | (simp; done) | (simp; omega)) _)⟩
end Go.Proofs.Ytgcpiinmcbdkmaa

namespace Go.Proofs.Ytgcpiinmcbdkmaa
open Go.RowKit Va Bl
set_option linter.all false
theorem place_hit {l : List Ut} {i : Nat} {x : Ut} {a : Int} (hx : l[i]? = some x) (h : x.id = a) (hno : ∀ j y, j < i → l[j]? = some y → ¬ y.id = a) : placeOf l a = some i := by
  unfold placeOf
  rw [List.findIdx?_eq_some_iff_getElem]
  have hi := get_lt' hx
  have e : l[i] = x := by have := List.getElem?_eq_getElem hi; rw [hx] at this; exact (Option.some.inj this).symm
  refine ⟨hi, by rw [e]; simpa using h, fun j hj => ?_⟩
  have hjl : j < l.length := by omega
  have := hno j l[j] hj (List.getElem?_eq_getElem hjl)
  simpa using this
theorem place_none {l : List Ut} {a : Int} (hno : ∀ j y, j < l.length → l[j]? = some y → ¬ y.id = a) : placeOf l a = none := by
  unfold placeOf
  rw [List.findIdx?_eq_none_iff]
  intro x hx
  obtain ⟨j, hj⟩ := List.getElem?_of_mem hx
  have := hno j x (get_lt' hj) hj
  simpa using this
theorem place_get {l : List Ut} {a : Int} {k : Nat} (h : placeOf l a = some k) : ∃ x, l[k]? = some x ∧ x.id = a := by
  unfold placeOf at h
  rw [List.findIdx?_eq_some_iff_getElem] at h
  obtain ⟨hk, h1, _⟩ := h
  exact ⟨l[k], List.getElem?_eq_getElem hk, by simpa using h1⟩
def plI (o : Option Nat) : Int := match o with
  | none => -1
  | some j => j
def codeOn (l : List Ut) (n : Nd) (a : Da) : Int :=
  if doingB a = true ∧ needB n = true then (match placeOf l a.id with
    | none => 3
    | some k => codeU (l.getD k default) n a) else 2
def doneL (l : List Ut) (n : Nd) (a : Da) : List Ut :=
  if codeOn l n a = 0 then (match placeOf l a.id with
    | none => l
    | some k => l.set k (turnU (l.getD k default) n a.k)) else l
theorem codeB_on {l : List Ut} {n : Nd} {a : Da} (h : bankB l = true) : codeB l n a = codeOn l n a ∧ bankDo l n a = doneL l n a := by
  have e : codeB l n a = codeOn l n a := by unfold codeB codeOn; rw [if_pos h]; cases placeOf l a.id <;> rfl
  refine ⟨e, ?_⟩
  unfold bankDo doneL
  rw [if_pos h, e]
  cases placeOf l a.id <;> rfl
theorem getD_at {l : List Ut} {k : Nat} {x : Ut} (h : l[k]? = some x) : l.getD k default = x := by rw [List.getD_eq_getElem?_getD, h]; rfl
theorem codeU_fine {x : Ut} {n : Nd} {a : Da} (h : codeU x n a = 0) : onU x n a.k = turnU x n a.k := by
  unfold onU
  cases hf : fineB x n a.k with
  | true => rw [if_pos rfl]
  | false => unfold codeU at h; rw [hf] at h; simp at h
theorem doing_k {a : Da} (h : doingB a = true) : 1 ≤ a.k ∧ a.k ≤ 4 := by
  unfold doingB at h
  simp only [Bool.and_eq_true, rng_iff] at h
  exact h.1
theorem ownQ_put {w : World} {base e s n G c : Nat} {xs : List Value} (h : w.ownsRow base e s (.slice (some ⟨G, 0, none⟩) n c) n xs) (j : Nat) (hj : j < n * s) (u : Value) : (w.setCell ⟨G, j, none⟩ u).ownsRow base e s (.slice (some ⟨G, 0, none⟩) n c) n (xs.set j u) := by
  obtain ⟨q, ⟨q1, q2⟩ | ⟨g, c', cur, q1, hg, hh, h5, h6, h7, h8⟩⟩ := h
  · cases q1
  · simp only [Value.slice.injEq, Option.some.injEq, Addr.mk.injEq, and_true, true_and] at q1
    obtain ⟨rfl, rfl⟩ := q1
    refine ⟨by rw [List.length_set]; exact q, Or.inr ⟨G, c, cur.setIfInBounds j u, rfl, hg, (PB.set (W := w) (B := G) hh j u), h5, h6, by simpa using h7, ?_⟩⟩
    rw [Array.toList_setIfInBounds, List.take_set, h8]
theorem ownQ_fro {w : World} {base e s n G c : Nat} {xs : List Value} (h : w.ownsRow base e s (.slice (some ⟨G, 0, none⟩) n c) n xs) (j : Nat) : w.frozen? ⟨G, j, none⟩ = false := by
  obtain ⟨_, ⟨h1, _⟩ | ⟨g, cap, cur, h1, hb, hg, hc, hm, hs, hx⟩⟩ := h
  · cases h1
  · simp only [Value.slice.injEq, Option.some.injEq, Addr.mk.injEq, and_true, true_and] at h1
    obtain ⟨rfl, rfl⟩ := h1
    simp only [World.frozen?, hg]
    rfl
theorem Antis.turn {w : World} {base : Nat} {L : List (Ut × Value)} {i : Nat} {x y : Ut} {tv : Value} (h : Antis w base L) (hp : L[i]? = some (x, tv)) (he : y.ant = x.ant) : Antis w base (L.set i (y, tv)) := by
  have hi := get_lt' hp
  refine ⟨fun p hp2 => ?_, ?_⟩
  · rcases List.mem_or_eq_of_mem_set hp2 with k | rfl
    · exact h.1 p k
    · have := h.1 (x, tv) (List.mem_of_getElem? hp)
      unfold AOwn at *
      simp only at *
      rw [he]; exact this
  · have e : (L.set i (y, tv)).map Prod.snd = L.map Prod.snd := by
      rw [List.map_set]
      refine List.ext_getElem? fun k => ?_
      rw [List.getElem?_set]
      split
      · rename_i hk
        subst hk
        rw [List.length_map, if_pos hi, List.getElem?_map, hp]; rfl
      · rfl
    have h2 : (L.map Prod.snd).Pairwise (fun a b => ∀ k, a.ownBlock = some k → b.ownBlock ≠ some k) := by rw [List.pairwise_map]; exact h.2
    rw [← e, List.pairwise_map] at h2
    exact h2
theorem Antis.base {w : World} {base b : Nat} {L : List (Ut × Value)} (h : Antis w base L) (hb : b ≤ base) : Antis w b L := ⟨fun p hp => ownW_base (h.1 p hp) hb, h.2⟩
theorem turn_ant (x : Ut) (n : Nd) (k : Int) : (turnU x n k).ant = x.ant := by
  unfold turnU
  split
  · rfl
  · split
    · rfl
    · split <;> rfl
theorem on_ant (x : Ut) (n : Nd) (k : Int) : (onU x n k).ant = x.ant := by
  unfold onU
  split
  · exact turn_ant x n k
  · rfl
end Go.Proofs.Ytgcpiinmcbdkmaa
