/-
  A heap kept in a slice: which of a place and the two below it comes first.
-/
import Derived.Test.YtcfghnffacdekabSd
import Derived.Deep.RegionHeld3
namespace Go.Proofs.Ytcfghnffacdekab
open Go.RowKit Va Vh
set_option linter.unusedVariables false

theorem rw_kp {α : Type} {s : Nat} {cs : α → Nat → Int} {w w' : World} {b : Nat} {ao : Option Addr} {n cap : Nat} {l : List α} (h : Rw s cs w (.slice ao n cap) l) (hk : Kp b w w') (hne : ∀ b' off, ao = some ⟨b', off, none⟩ → b' ≠ b) : Rw s cs w' (.slice ao n cap) l := by
  obtain ⟨ao', cap', e, hl, hh⟩ := h
  refine ⟨ao', cap', e, hl, ?_⟩
  rcases hh with q | ⟨b', o, q1, q2, q3⟩
  · exact Or.inl q
  · have ea : ao = ao' := by injection e
    refine Or.inr ⟨b', o, q1, Nat.lt_of_lt_of_le q2 hk.size, fun i x hx k hkk => ?_⟩
    rw [World.cell?_of_block (w := w) (hk.block b' q2 (hne b' o (ea.trans q1)))]
    exact q3 i x hx k hkk
abbrev fnS (ao : Option Addr) (n cq : Nat) (t : Int) : Value := .func (.func 64) #[.agg #[.slice ao n cq, .int .i64 t]] #[]
/-- A heap of places of a queue. -/
structure HS (W : World) (H gi cap : Nat) (l : List Int) (ao : Option Addr) (n cq : Nat) (q : List Wt) (t : Int) : Prop where
  hp : HP W H (fnS ao n cq t) gi cap l
  rq : Rw 3 csW W (.slice ao n cq) q
  nq : ∀ b off, ao = some ⟨b, off, none⟩ → b ≠ gi ∧ b ≠ H
  ok : QOk q
  tt : 0 ≤ t ∧ t ≤ 10000000
  pl : ∀ x ∈ l, x ∈ places q.length
theorem HS.below {W W' : World} {H gi cap : Nat} {l : List Int} {ao : Option Addr} {n cq : Nat} {q : List Wt} {t : Int} (h : HS W H gi cap l ao n cq q t) (hb : Below W.heap.size W W') : HS W' H gi cap l ao n cq q t :=
  ⟨h.hp.below hb, h.rq.below hb, h.nq, h.ok, h.tt, h.pl⟩
theorem HS.place {W : World} {H gi cap : Nat} {l : List Int} {ao : Option Addr} {n cq : Nat} {q : List Wt} {t : Int} (h : HS W H gi cap l ao n cq q t) {i : Nat} (hi : i < l.length) : ∃ k : Nat, k < q.length ∧ g l i = (k : Int) := mem_places.1 (h.pl _ (g_mem hi))
theorem HS.swp {W W' : World} {H gi cap : Nat} {l : List Int} {ao : Option Addr} {n cq : Nat} {q : List Wt} {t : Int} (h : HS W H gi cap l ao n cq q t) {a b : Nat} (ha : a < l.length) (hb : b < l.length) (hp : HP W' H (fnS ao n cq t) gi cap (Vh.swp l a b)) (hk : Kp gi W W') : HS W' H gi cap (Vh.swp l a b) ao n cq q t :=
  ⟨hp, rw_kp h.rq hk (fun b' off e => (h.nq b' off e).1), h.nq, h.ok, h.tt, fun x hx => h.pl x ((swp_perm ha hb).mem_iff.1 hx)⟩

set_option maxRecDepth 20000 in
set_option maxHeartbeats 4000000 in
theorem firstof_any (H gi cap : Nat) (l : List Int) (ao : Option Addr) (n cq : Nat) (q : List Wt) (t : Int) (a : Nat) (w : World) (h : HS w H gi cap l ao n cq q t) (ha : a ≤ 1000) (hl : l.length ≤ 1000) :
    Calls Try.prog 114 #[.pointer (some ⟨H, 0, none⟩), .int .i64 a] w fun e w' => e = .returned (.int .i64 (fo (bfW q t) l a : Nat)) ∧ Below w.heap.size w w' := by
  have HH := hidden h
  have F1 := hidden (show fo1 (bfW q t) l a = if 2 * a + 1 < l.length ∧ bfW q t (g l (2 * a + 1)) (g l a) = true then 2 * a + 1 else a from rfl)
  have F2 := hidden (show fo (bfW q t) l a = if 2 * a + 2 < l.length ∧ bfW q t (g l (2 * a + 2)) (g l (fo1 (bfW q t) l a)) = true then 2 * a + 2 else fo1 (bfW q t) l a from rfl)
  have FL : Hid (2 * a + 1 < l.length → fo1 (bfW q t) l a < l.length) := by rw [Hid, F1.out]; intro hq; split <;> omega
  clear h
  go_enter Try.func114, Try.ntmps114
  go_wp2_with fail
  go_loopw [5, 6] (fun fv bv wr => Below w.heap.size w wr ∧ ((bv = .int .i64 (2 * (a : Int) + 1) ∧ fv = .int .i64 a) ∨ (2 * a + 1 < l.length ∧ bv = .int .i64 (2 * (a : Int) + 2) ∧ fv = .int .i64 (fo1 (bfW q t) l a : Nat)) ∨ (2 * a + 2 < l.length ∧ bv = .int .i64 (2 * (a : Int) + 3) ∧ fv = .int .i64 (fo (bfW q t) l a : Nat)))) (fun _ bv _ => (2 * (a : Int) + 3 - intOf bv).toNat)
  case atStart => exact ⟨Below.refl _ _, Or.inl ⟨rfl, rfl⟩⟩
  case round =>
    obtain ⟨hb, hh⟩ := hrel
    have hs := HH.out.below hb
    have c0 := hs.hp.c0
    have c1 := hs.hp.c1
    rcases hh with ⟨rfl, rfl⟩ | ⟨hlt1, rfl, rfl⟩ | ⟨hlt2, rfl, rfl⟩
    · by_cases hin : 2 * a + 1 < l.length
      · obtain ⟨x0, x1⟩ := hs.hp.at (i := 2 * a + 1) hin
        obtain ⟨y0, y1⟩ := hs.hp.at (i := a) (show a < l.length by omega)
        obtain ⟨kx, hkx, ex⟩ := hs.place (i := 2 * a + 1) hin
        obtain ⟨ky, hky, ey⟩ := hs.place (i := a) (show a < l.length by omega)
        have SO := hidden (fun W (hW : Below wr.heap.size wr W) => sooner_any ao n cq q t kx ky W (hs.rq.below hW) hs.ok hs.tt hkx hky)
        have HV : Hid (fo1 (bfW q t) l a = if bfW q t (kx : Int) (ky : Int) = true then 2 * a + 1 else a) := by
          rw [Hid, F1.out, ex, ey]
          by_cases qq : bfW q t (kx : Int) (ky : Int) = true
          · rw [if_pos ⟨hin, qq⟩, if_pos qq]
          · rw [if_neg (fun e => qq e.2), if_neg qq]
        rw [ex] at x0
        rw [ey] at y0
        have q0 : 2 * (a : Int) + 1 ≤ 2 * (a : Int) + 2 := by omega
        have q1 : 2 * (a : Int) + 1 < (l.length : Int) := by omega
        have q2 : (0 : Int) ≤ 2 * (a : Int) + 1 := by omega
        have q3 : (2 * (a : Int) + 1).toNat = 2 * a + 1 := by omega
        have q4 : (((a : Nat)) : Int) < (l.length : Int) := by have := (show a < l.length by omega); omega
        have hHl := hs.hp.hlt
        have hGl := hs.hp.glt
        clear hs ex ey
        generalize bfW q t (kx : Int) (ky : Int) = tv at *
        rcases tv with _ | _
        · go_wp2_with fail
          go_region_held3 (fun w' => w'.cell? ⟨H, 0, none⟩ = some (.slice (some ⟨gi, 0, none⟩) l.length cap) ∧ w'.cell? ⟨H, 1, none⟩ = some (fnS ao n cq t) ∧ w'.cell? ⟨gi, 2 * a + 1, none⟩ = some (.int .i64 kx) ∧ w'.cell? ⟨gi, a, none⟩ = some (.int .i64 ky)) (go_keep) ((go_at_call 64; refine (SO.out _ (by repeat (first | exact Below.refl _ _ | refine st_drew ?_ | refine st_drewN ?_ _ | refine Below.setCell ?_ (by first | omega | (simp; done) | (simp; omega)) _ | refine Below.alloc ?_ (by first | omega | (simp; done) | (simp; omega)) _))).mono ?_; rintro e w1 ⟨rfl, hb1⟩; have bs := onto (show Below wr.heap.size wr _ from by repeat (first | exact Below.refl _ _ | refine st_drew ?_ | refine st_drewN ?_ _ | refine Below.setCell ?_ (by first | omega | (simp; done) | (simp; omega)) _ | refine Below.alloc ?_ (by first | omega | (simp; done) | (simp; omega)) _)) hb1; have k0 := (bs.cell (p := ⟨H, 0, none⟩) hHl).trans c0; have k1 := (bs.cell (p := ⟨H, 1, none⟩) hHl).trans c1; have k2 := (bs.cell (p := ⟨gi, 2 * a + 1, none⟩) hGl).trans x0; have k3 := (bs.cell (p := ⟨gi, a, none⟩) hGl).trans y0))
          all_goals go_wp2_with fail
          all_goals go_roundw
          all_goals first
            | (simp [intOf]; done)
            | (simp [intOf]; omega)
            | exact ⟨onto hb (by first | exact bs | exact st_drew bs), Or.inr (Or.inl ⟨hin, by first | rfl | (congr 1; done) | (congr 1; omega), by rw [HV.out]; first | rfl | (simp; done) | (simp; omega)⟩)⟩
        · go_wp2_with fail
          go_region_held3 (fun w' => w'.cell? ⟨H, 0, none⟩ = some (.slice (some ⟨gi, 0, none⟩) l.length cap) ∧ w'.cell? ⟨H, 1, none⟩ = some (fnS ao n cq t) ∧ w'.cell? ⟨gi, 2 * a + 1, none⟩ = some (.int .i64 kx) ∧ w'.cell? ⟨gi, a, none⟩ = some (.int .i64 ky)) (go_keep) ((go_at_call 64; refine (SO.out _ (by repeat (first | exact Below.refl _ _ | refine st_drew ?_ | refine st_drewN ?_ _ | refine Below.setCell ?_ (by first | omega | (simp; done) | (simp; omega)) _ | refine Below.alloc ?_ (by first | omega | (simp; done) | (simp; omega)) _))).mono ?_; rintro e w1 ⟨rfl, hb1⟩; have bs := onto (show Below wr.heap.size wr _ from by repeat (first | exact Below.refl _ _ | refine st_drew ?_ | refine st_drewN ?_ _ | refine Below.setCell ?_ (by first | omega | (simp; done) | (simp; omega)) _ | refine Below.alloc ?_ (by first | omega | (simp; done) | (simp; omega)) _)) hb1; have k0 := (bs.cell (p := ⟨H, 0, none⟩) hHl).trans c0; have k1 := (bs.cell (p := ⟨H, 1, none⟩) hHl).trans c1; have k2 := (bs.cell (p := ⟨gi, 2 * a + 1, none⟩) hGl).trans x0; have k3 := (bs.cell (p := ⟨gi, a, none⟩) hGl).trans y0))
          all_goals go_wp2_with fail
          all_goals go_roundw
          all_goals first
            | (simp [intOf]; done)
            | (simp [intOf]; omega)
            | exact ⟨onto hb (by first | exact bs | exact st_drew bs), Or.inr (Or.inl ⟨hin, by first | rfl | (congr 1; done) | (congr 1; omega), by rw [HV.out]; first | rfl | (simp; done) | (simp; omega)⟩)⟩
      · have hfo : Hid (fo (bfW q t) l a = a) := by rw [Hid, F2.out, if_neg (fun e => by omega), F1.out, if_neg (fun e => by omega)]
        have q1 : 2 * (a : Int) + 1 ≤ 2 * (a : Int) + 2 := by omega
        have q2 : ¬ 2 * (a : Int) + 1 < (l.length : Int) := by omega
        go_wp2_with fail
        go_ret
        exact ⟨by rw [hfo.out]; rfl, hb⟩
    · by_cases hin : 2 * a + 2 < l.length
      · obtain ⟨x0, x1⟩ := hs.hp.at (i := 2 * a + 2) hin
        obtain ⟨y0, y1⟩ := hs.hp.at (i := fo1 (bfW q t) l a) (FL.out (by omega))
        obtain ⟨kx, hkx, ex⟩ := hs.place (i := 2 * a + 2) hin
        obtain ⟨ky, hky, ey⟩ := hs.place (i := fo1 (bfW q t) l a) (FL.out (by omega))
        have SO := hidden (fun W (hW : Below wr.heap.size wr W) => sooner_any ao n cq q t kx ky W (hs.rq.below hW) hs.ok hs.tt hkx hky)
        have HV : Hid (fo (bfW q t) l a = if bfW q t (kx : Int) (ky : Int) = true then 2 * a + 2 else fo1 (bfW q t) l a) := by
          rw [Hid, F2.out, ex, ey]
          by_cases qq : bfW q t (kx : Int) (ky : Int) = true
          · rw [if_pos ⟨hin, qq⟩, if_pos qq]
          · rw [if_neg (fun e => qq e.2), if_neg qq]
        rw [ex] at x0
        rw [ey] at y0
        have q0 : 2 * (a : Int) + 2 ≤ 2 * (a : Int) + 2 := by omega
        have q1 : 2 * (a : Int) + 2 < (l.length : Int) := by omega
        have q2 : (0 : Int) ≤ 2 * (a : Int) + 2 := by omega
        have q3 : (2 * (a : Int) + 2).toNat = 2 * a + 2 := by omega
        have q4 : (((fo1 (bfW q t) l a : Nat)) : Int) < (l.length : Int) := by have := (FL.out (by omega)); omega
        have hHl := hs.hp.hlt
        have hGl := hs.hp.glt
        clear hs ex ey
        generalize bfW q t (kx : Int) (ky : Int) = tv at *
        generalize hfst : fo1 (bfW q t) l a = fst at *
        have HF := hidden hfst
        clear hfst
        rcases tv with _ | _
        · go_wp2_with fail
          go_region_held3 (fun w' => w'.cell? ⟨H, 0, none⟩ = some (.slice (some ⟨gi, 0, none⟩) l.length cap) ∧ w'.cell? ⟨H, 1, none⟩ = some (fnS ao n cq t) ∧ w'.cell? ⟨gi, 2 * a + 2, none⟩ = some (.int .i64 kx) ∧ w'.cell? ⟨gi, fst, none⟩ = some (.int .i64 ky)) (go_keep) ((go_at_call 64; refine (SO.out _ (by repeat (first | exact Below.refl _ _ | refine st_drew ?_ | refine st_drewN ?_ _ | refine Below.setCell ?_ (by first | omega | (simp; done) | (simp; omega)) _ | refine Below.alloc ?_ (by first | omega | (simp; done) | (simp; omega)) _))).mono ?_; rintro e w1 ⟨rfl, hb1⟩; have bs := onto (show Below wr.heap.size wr _ from by repeat (first | exact Below.refl _ _ | refine st_drew ?_ | refine st_drewN ?_ _ | refine Below.setCell ?_ (by first | omega | (simp; done) | (simp; omega)) _ | refine Below.alloc ?_ (by first | omega | (simp; done) | (simp; omega)) _)) hb1; have k0 := (bs.cell (p := ⟨H, 0, none⟩) hHl).trans c0; have k1 := (bs.cell (p := ⟨H, 1, none⟩) hHl).trans c1; have k2 := (bs.cell (p := ⟨gi, 2 * a + 2, none⟩) hGl).trans x0; have k3 := (bs.cell (p := ⟨gi, fst, none⟩) hGl).trans y0))
          all_goals go_wp2_with fail
          all_goals go_roundw
          all_goals first
            | (simp [intOf]; done)
            | (simp [intOf]; omega)
            | exact ⟨onto hb (by first | exact bs | exact st_drew bs), Or.inr (Or.inr ⟨hin, by first | rfl | (congr 1; done) | (congr 1; omega), by rw [HV.out]; first | rfl | (simp; done) | (simp; omega)⟩)⟩
        · go_wp2_with fail
          go_region_held3 (fun w' => w'.cell? ⟨H, 0, none⟩ = some (.slice (some ⟨gi, 0, none⟩) l.length cap) ∧ w'.cell? ⟨H, 1, none⟩ = some (fnS ao n cq t) ∧ w'.cell? ⟨gi, 2 * a + 2, none⟩ = some (.int .i64 kx) ∧ w'.cell? ⟨gi, fst, none⟩ = some (.int .i64 ky)) (go_keep) ((go_at_call 64; refine (SO.out _ (by repeat (first | exact Below.refl _ _ | refine st_drew ?_ | refine st_drewN ?_ _ | refine Below.setCell ?_ (by first | omega | (simp; done) | (simp; omega)) _ | refine Below.alloc ?_ (by first | omega | (simp; done) | (simp; omega)) _))).mono ?_; rintro e w1 ⟨rfl, hb1⟩; have bs := onto (show Below wr.heap.size wr _ from by repeat (first | exact Below.refl _ _ | refine st_drew ?_ | refine st_drewN ?_ _ | refine Below.setCell ?_ (by first | omega | (simp; done) | (simp; omega)) _ | refine Below.alloc ?_ (by first | omega | (simp; done) | (simp; omega)) _)) hb1; have k0 := (bs.cell (p := ⟨H, 0, none⟩) hHl).trans c0; have k1 := (bs.cell (p := ⟨H, 1, none⟩) hHl).trans c1; have k2 := (bs.cell (p := ⟨gi, 2 * a + 2, none⟩) hGl).trans x0; have k3 := (bs.cell (p := ⟨gi, fst, none⟩) hGl).trans y0))
          all_goals go_wp2_with fail
          all_goals go_roundw
          all_goals first
            | (simp [intOf]; done)
            | (simp [intOf]; omega)
            | exact ⟨onto hb (by first | exact bs | exact st_drew bs), Or.inr (Or.inr ⟨hin, by first | rfl | (congr 1; done) | (congr 1; omega), by rw [HV.out]; first | rfl | (simp; done) | (simp; omega)⟩)⟩
      · have hfo : Hid (fo (bfW q t) l a = fo1 (bfW q t) l a) := by rw [Hid, F2.out, if_neg (fun e => by omega)]
        have q2 : ¬ 2 * (a : Int) + 2 < (l.length : Int) := by omega
        go_wp2_with fail
        go_ret
        exact ⟨by rw [hfo.out]; rfl, hb⟩
    · have q1 : ¬ 2 * (a : Int) + 3 ≤ 2 * (a : Int) + 2 := by omega
      go_wp2_with fail
      go_ret
      exact ⟨rfl, hb⟩
end Go.Proofs.Ytcfghnffacdekab
