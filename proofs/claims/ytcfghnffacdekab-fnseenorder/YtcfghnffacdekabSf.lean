/-
  A heap kept in a slice: an item put in.
-/
import Derived.Test.YtcfghnffacdekabSe
import Derived.Maps.AppendAt
namespace Go.Proofs.Ytcfghnffacdekab
open Go.RowKit Va Vh
set_option linter.unusedVariables false

theorem infoI64 : (Try.prog.info? 2).map (fun i => (i.zero, i.size, i.bytes)) = some (some (.int .i64 0), 1, 8) := by kernel_rfl
/-- What a heap's functions leave: all but the heap and one other block as it was. -/
structure Fr (H : Nat) (ob : Option Nat) (w w' : World) : Prop where
  os : w'.os = w.os
  tape : w'.tape = w.tape
  output : w'.output = w.output
  size : w.heap.size ≤ w'.heap.size
  block : ∀ j, j < w.heap.size → j ≠ H → ob ≠ some j → w'.heap[j]? = w.heap[j]?
theorem Fr.trans {H : Nat} {ob : Option Nat} {x y z : World} (h : Fr H ob x y) (k : Fr H ob y z) : Fr H ob x z := ⟨k.os.trans h.os, k.tape.trans h.tape, k.output.trans h.output, Nat.le_trans h.size k.size, fun j hj h1 h2 => (k.block j (Nat.lt_of_lt_of_le hj h.size) h1 h2).trans (h.block j hj h1 h2)⟩
/-- A block that came new, or the old one, turned behind a frame. -/
theorem Fr.kp {H gi : Nat} {ob : Option Nat} {x y z : World} (h : Fr H ob x y) (hg : ob = some gi ∨ x.heap.size ≤ gi) (k : Kp gi y z) : Fr H ob x z :=
  ⟨k.os.trans h.os, k.tape.trans h.tape, k.output.trans h.output, Nat.le_trans h.size k.size, fun j hj h1 h2 => (k.block j (Nat.lt_of_lt_of_le hj h.size) (fun e => by subst e; rcases hg with q | q; exact h2 q; omega)).trans (h.block j hj h1 h2)⟩
theorem Fr.below {H : Nat} {ob : Option Nat} {x y z : World} (h : Fr H ob x y) (k : Below y.heap.size y z) : Fr H ob x z :=
  ⟨k.os.trans h.os, k.tape.trans h.tape, k.output.trans h.output, Nat.le_trans h.size k.size, fun j hj h1 h2 => (k.block j (Nat.lt_of_lt_of_le hj h.size)).trans (h.block j hj h1 h2)⟩
/-- A heap at block H whose items lie at v (nil at the first). -/
structure HV (W : World) (H : Nat) (f v : Value) (l : List Int) : Prop where
  c0 : W.cell? ⟨H, 0, none⟩ = some v
  c1 : W.cell? ⟨H, 1, none⟩ = some f
  f0 : W.frozen? ⟨H, 0, none⟩ = false
  own : W.ownsRow 0 2 1 v l.length (l.map fun z => Value.int .i64 z)
  ne : ∀ j, v.ownBlock = some j → j ≠ H
theorem HV.hlt {W : World} {H : Nat} {f v : Value} {l : List Int} (h : HV W H f v l) : H < W.heap.size := World.block_lt_of_cell? W _ h.c0
theorem hp_of_own {W : World} {H : Nat} {f v : Value} {l : List Int} (h : HV W H f v l) (hl : l ≠ []) : ∃ gi cap, v = .slice (some ⟨gi, 0, none⟩) l.length cap ∧ HP W H f gi cap l := by
  obtain ⟨q, ⟨q1, q2⟩ | ⟨gi, cap, cur, q1, q2, q3, q4, q5, q6, q7⟩⟩ := h.own
  · exact absurd (List.length_eq_zero_iff.1 q2) hl
  · refine ⟨gi, cap, q1, by rw [← q1]; exact h.c0, h.c1, h.f0, ⟨cur, q3, by omega, q4, fun i hi => ?_⟩, fun e => h.ne gi (by rw [q1]; rfl) e.symm⟩
    have e1 : (l.map fun z => Value.int .i64 z)[i]? = some (.int .i64 (g l i)) := by rw [List.getElem?_map, g_get hi]; rfl
    rw [← q7, List.getElem?_take, if_pos (by omega)] at e1
    simpa using e1
theorem hv_of_hp {W : World} {H gi cap : Nat} {f : Value} {l : List Int} (h : HP W H f gi cap l) (hc : cap ≤ maxLen) : HV W H f (.slice (some ⟨gi, 0, none⟩) l.length cap) l := by
  obtain ⟨cur, q1, q2, q3, q4⟩ := h.blk
  refine ⟨h.c0, h.c1, h.f0, ⟨by simp, Or.inr ⟨gi, cap, cur, rfl, Nat.zero_le _, q1, q3, hc, by omega, ?_⟩⟩, fun j hj => by cases hj; exact fun e => h.ne e.symm⟩
  apply List.ext_getElem?
  intro i
  rw [List.getElem?_take, List.getElem?_map]
  by_cases hi : i < l.length
  · rw [if_pos (by omega), g_get hi]
    have := q4 i hi
    simpa using this
  · rw [if_neg (by omega), List.getElem?_eq_none (by omega)]; rfl

theorem cell_oneS (w : World) (x : Value) (t : TypeId) : ∀ (j : Nat) (u : Value), [x][j]? = some u → (w.alloc (.cells #[x] t)).cell? ((⟨w.heap.size, 0, none⟩ : Addr).add j) = some u := fun j u hu => by
  have hj : j < 1 := (List.getElem?_eq_some_iff.1 hu).1
  obtain rfl : j = 0 := by omega
  have e := heap_alloc_new w (Obj.cells #[x] t)
  have e1 : (w.alloc (.cells #[x] t)).cell? ((⟨w.heap.size, 0, none⟩ : Addr).add 0) = [x][0]? := by
    rw [Addr.add_lit, Nat.zero_add]
    simp only [World.cell?, e]
    simp
  rw [e1, hu]
theorem own_sliceS {w : World} {b e s n : Nat} {v : Value} {xs : List Value} (h : w.ownsRow b e s v n xs) : ∃ ad c, v = .slice ad n c := by
  obtain ⟨_, ⟨rfl, rfl⟩ | ⟨g, cap, cur, rfl, _⟩⟩ := h
  · exact ⟨_, _, rfl⟩
  · exact ⟨_, _, rfl⟩
theorem own_setH {w : World} {b e s n : Nat} {v : Value} {xs : List Value} (h : w.ownsRow b e s v n xs) {H : Nat} (hne : ∀ j, v.ownBlock = some j → j ≠ H) (o : Nat) (u : Value) : (w.setCell ⟨H, o, none⟩ u).ownsRow b e s v n xs := by
  obtain ⟨q, ⟨q1, q2⟩ | ⟨g1, c, cur, rfl, hg1, hh, r⟩⟩ := h
  · exact ⟨q, Or.inl ⟨q1, q2⟩⟩
  · exact ⟨q, Or.inr ⟨g1, c, cur, rfl, hg1, (Below.heap_setCell _ _ _ _ (by simpa using hne g1 rfl)).trans hh, r⟩⟩
/-- Behind the append: the heap with one more item. -/
theorem pushed {w w1 : World} {H : Nat} {f v v1 : Value} {l : List Int} {k : Int} (h : HV w H f v l) (ho : w1.ownsRow 0 2 1 v1 (l.length + 1) ((l.map fun z => Value.int .i64 z) ++ [.int .i64 k])) (hg : (w.alloc (.cells #[.int .i64 k] 2)).grownBy w1 v.ownBlock) (hb : v1.ownBlock = v.ownBlock ∨ v1.ownBlock = some (w.alloc (.cells #[.int .i64 k] 2)).heap.size) :
    HV (w1.setCell ⟨H, 0, none⟩ v1) H f v1 (l ++ [k]) ∧ Fr H v.ownBlock w (w1.setCell ⟨H, 0, none⟩ v1) ∧ (w1.cell? ⟨H, 0, none⟩ = some v ∧ w1.frozen? ⟨H, 0, none⟩ = false) ∧ (∀ j, v1.ownBlock = some j → v.ownBlock = some j ∨ w.heap.size ≤ j) := by
  have hH := h.hlt
  have hne0 : v.ownBlock ≠ some H := fun e => h.ne H e rfl
  have eb : w1.heap[H]? = w.heap[H]? := by
    have e1 := hg.block H (by simp; omega) (fun e => hne0 e.symm)
    exact e1.trans (((Below.refl w.heap.size w).alloc (Nat.le_refl _) _).block H hH)
  have k0 : w1.cell? ⟨H, 0, none⟩ = some v := (World.cell?_of_block (w := w) eb).trans h.c0
  have k1 : w1.cell? ⟨H, 1, none⟩ = some f := (World.cell?_of_block (w := w) eb).trans h.c1
  have k2 : w1.frozen? ⟨H, 0, none⟩ = false := (World.frozen?_of_block (w := w) eb).trans h.f0
  have hne1 : ∀ j, v1.ownBlock = some j → j ≠ H := fun j hj => by
    rcases hb with q | q
    · rw [q] at hj; exact h.ne j hj
    · rw [q] at hj; simp at hj; omega
  refine ⟨⟨World.cell?_setCell_same _ _ _ k0, by rw [World.cell?_setCell_other (h := by simp)]; exact k1, by rw [World.frozen?_setCell]; exact k2, ?_, hne1⟩, ⟨hg.os, hg.tape, hg.output, ?_, fun j hj h1 h2 => ?_⟩, ⟨k0, k2⟩, fun j hj => ?_⟩
  · have := own_setH ho hne1 0 v1
    simpa using this
  · have := hg.size
    simp at this
    simp [World.setCell]
    omega
  · rw [Below.heap_setCell _ _ _ _ (by simpa using h1)]
    exact (hg.block j (by simp; omega) (fun e => h2 e.symm)).trans (((Below.refl w.heap.size w).alloc (Nat.le_refl _) _).block j hj)
  · rcases hb with q | q
    · rw [q] at hj; exact Or.inl hj
    · rw [q] at hj; simp at hj; exact Or.inr (by omega)

theorem rw_fr {α : Type} {s : Nat} {cs : α → Nat → Int} {w w' : World} {H : Nat} {ob : Option Nat} {ao : Option Addr} {n cap : Nat} {l : List α} (h : Rw s cs w (.slice ao n cap) l) (hk : Fr H ob w w') (hne : ∀ b' off, ao = some ⟨b', off, none⟩ → ob ≠ some b' ∧ b' ≠ H) : Rw s cs w' (.slice ao n cap) l := by
  obtain ⟨ao', cap', e, hl, hh⟩ := h
  refine ⟨ao', cap', e, hl, ?_⟩
  rcases hh with q | ⟨b', o, q1, q2, q3⟩
  · exact Or.inl q
  · have ea : ao = ao' := by injection e
    obtain ⟨n1, n2⟩ := hne b' o (ea.trans q1)
    refine Or.inr ⟨b', o, q1, Nat.lt_of_lt_of_le q2 hk.size, fun i x hx k hkk => ?_⟩
    rw [World.cell?_of_block (w := w) (hk.block b' q2 n2 n1)]
    exact q3 i x hx k hkk
theorem own_cap {W : World} {b e s n : Nat} {ao : Option Addr} {m c : Nat} {xs : List Value} (h : W.ownsRow b e s (.slice ao m c) n xs) : c ≤ maxLen := by
  obtain ⟨_, ⟨q1, _⟩ | ⟨g1, c1, cur, q1, _, _, _, q5, _⟩⟩ := h
  · injection q1 with _ _ e3; omega
  · injection q1 with _ _ e3; omega

set_option maxRecDepth 20000 in
set_option maxHeartbeats 8000000 in
theorem push_any (H : Nat) (v : Value) (l : List Int) (ao : Option Addr) (n cq : Nat) (q : List Wt) (t : Int) (k : Nat) (w : World) (h : HV w H (fnS ao n cq t) v l) (hrq : Rw 3 csW w (.slice ao n cq) q) (hnq : ∀ b off, ao = some ⟨b, off, none⟩ → v.ownBlock ≠ some b ∧ b ≠ H) (hok : QOk q) (htt : 0 ≤ t ∧ t ≤ 10000000) (hpl : ∀ x ∈ l, x ∈ places q.length) (hk : k < q.length) (hl : l.length ≤ 900) (hhp : Heap (bfW q t) l) :
    Calls Try.prog 65 #[.pointer (some ⟨H, 0, none⟩), .int .i64 k] w fun e w' => e = .returned (.tuple #[]) ∧ ∃ gi cap l', HS w' H gi cap l' ao n cq q t ∧ cap ≤ maxLen ∧ l'.Perm (l ++ [(k : Int)]) ∧ Heap (bfW q t) l' ∧ (v.ownBlock = some gi ∨ w.heap.size ≤ gi) ∧ Fr H v.ownBlock w w' := by
  have hH := h.hlt
  have c0 := h.c0
  have f0 := h.f0
  have HVV := hidden h
  obtain ⟨vao, vc, hv⟩ : ∃ vao vc, v = .slice vao l.length vc := by
    obtain ⟨_, ⟨q1, q2⟩ | ⟨g1, c, cur, q1, _⟩⟩ := h.own
    · exact ⟨none, 0, by rw [q1, q2]⟩
    · exact ⟨_, _, q1⟩
  subst hv
  have HW0 := hidden (h.own.alloc (.cells #[.int .i64 k] 2))
  obtain ⟨i0, hi0, hy0, hy1, hy2⟩ := info_parts infoI64
  clear h
  go_enter Try.func65, Try.ntmps65
  go_wp2_with (at_builtin; refine wpList_append_own_at _ rfl (.tmp 9) (.tmp 11) 40 rfl 0 2 i0 (.int .i64 0) 1 8 Try.underlying40 hi0 hy0 hy1 hy2 rfl (by decide) _ l.length (l.map fun z => Value.int .i64 z) rfl HW0.out ⟨w.heap.size, 0, none⟩ 1 1 [.int .i64 k] rfl rfl (cell_oneS _ _ _) (by simp [Value.oneCell']) (by unfold maxLen; omega) (by omega) (by simp) ?_; intro v1 w1 ho1 hg1 hn1 hb1; obtain ⟨hv1, hfr, ⟨k0, k1⟩, hob⟩ := pushed HVV.out ho1 hg1 hb1; obtain ⟨ad1, c1, rfl⟩ := own_sliceS ho1)
  obtain ⟨gi, cap, e1, hp1⟩ := hp_of_own hv1 (by simp)
  have hcap : cap ≤ maxLen := by have := own_cap hv1.own; injection e1 with _ _ e3; omega
  have hgi : (Value.slice vao l.length vc).ownBlock = some gi ∨ w.heap.size ≤ gi := hob gi (by rw [e1]; rfl)
  have hnq2 : ∀ b off, ao = some ⟨b, off, none⟩ → b ≠ gi ∧ b ≠ H := fun b off e => by
    obtain ⟨m1, m2⟩ := hnq b off e
    refine ⟨fun eq => ?_, m2⟩
    subst eq
    rcases hgi with z | z
    · exact m1 z
    · obtain ⟨xq, hxq⟩ := some_of q k hk
      obtain ⟨g', o', z1, z2, _⟩ := hrq.at hxq
      rw [e] at z1
      injection z1 with z3
      injection z3 with z4
      omega
  have hs1 : HS _ H gi cap (l ++ [(k : Int)]) ao n cq q t := ⟨hp1, rw_fr hrq hfr hnq, hnq2, hok, htt, fun x hx => by
    rcases List.mem_append.1 hx with z | z
    · exact hpl x z
    · rw [List.mem_singleton] at z; subst z; exact mem_places.2 ⟨k, hk, rfl⟩⟩
  have H1 := hidden hs1
  have HF := hidden hfr
  have HU := hidden (push_up hhp (k : Int))
  have HG := hidden hgi
  have HC := hidden hcap
  clear hs1 hfr hhp hgi hp1 hv1 hob hn1 hg1 ho1 hb1 k0 k1 hnq2 hnq hrq e1 hcap c0 f0 HVV HW0
  generalize (w1.setCell ⟨H, 0, none⟩ (.slice ad1 (l.length + 1) c1)) = W1 at *
  go_loopw [4] (fun av wr => ∃ (a : Nat) (l2 : List Int), av = .int .i64 a ∧ a < l2.length ∧ HS wr H gi cap l2 ao n cq q t ∧ Hid (Up (bfW q t) l2 a) ∧ Hid (l2.Perm (l ++ [(k : Int)])) ∧ Fr H (Value.slice vao l.length vc).ownBlock w wr) (fun av _ => (intOf av).toNat)
  case atStart => exact ⟨l.length, l ++ [(k : Int)], by first | rfl | (congr 1; omega) | (simp; done) | (simp; omega), by simp, H1.out, HU.out, List.Perm.refl _, HF.out⟩
  case round =>
    clear H1 HF HU
    obtain ⟨a, l2, rfl, hal, hs, hup, hperm, hfr⟩ := hrel
    have hlen : l2.length ≤ 1000 := by rw [hperm.out.length_eq]; simp; omega
    have c0 := hs.hp.c0
    have d1 := hs.hp.c1
    have hHl := hs.hp.hlt
    have hGl := hs.hp.glt
    have hai : (a : Int) < (l2.length : Int) := by omega
    by_cases ha0 : 0 < a
    · have ha0' : (0 : Int) < (a : Int) := by omega
      have hpl := par_lt ha0
      obtain ⟨x0, x1⟩ := hs.hp.at (i := a) hal
      obtain ⟨y0, y1⟩ := hs.hp.at (i := par a) (by omega)
      obtain ⟨kx, hkx, ex⟩ := hs.place (i := a) hal
      obtain ⟨ky, hky, ey⟩ := hs.place (i := par a) (by omega)
      have SOc := hidden (fun W (hW : Below wr.heap.size wr W) => sooner_any ao n cq q t kx ky W (hs.rq.below hW) hs.ok hs.tt hkx hky)
      have PAc := fun W => above_any a ha0 (by omega) W
      have hpi : ((par a : Nat) : Int) < (l2.length : Int) := by omega
      have HBV := hidden (show bfW q t (g l2 a) (g l2 (par a)) = bfW q t (kx : Int) (ky : Int) by rw [ex, ey])
      rw [ex] at x0
      rw [ey] at y0
      have HSW := hidden (fun W (hW : Below wr.heap.size wr W) => swap_any H gi cap (fnS ao n cq t) l2 a (par a) W (hs.hp.below hW) hal (by omega) hlen)
      have HS0 := hidden hs
      have HUS := hidden (fun hb => up_step (ord_W q t) hup.out ha0 hal hb)
      have HUE := hidden (fun hb => up_end hup.out (Or.inr hb))
      have HPL := hidden hpl
      clear hs hup ex ey hpl
      generalize hpa : par a = pa at *
      have HPA := hidden hpa
      clear hpa
      generalize bfW q t (kx : Int) (ky : Int) = tv at *
      rcases tv with _ | _
      · go_wp2_with fail
        go_region_held3 (fun w' => w'.cell? ⟨H, 0, none⟩ = some (.slice (some ⟨gi, 0, none⟩) l2.length cap) ∧ w'.cell? ⟨H, 1, none⟩ = some (fnS ao n cq t) ∧ w'.cell? ⟨gi, a, none⟩ = some (.int .i64 kx) ∧ w'.cell? ⟨gi, pa, none⟩ = some (.int .i64 ky)) (go_keep) (first | (go_at_call 112; refine (PAc _).mono ?_; rintro e wp ⟨rfl, rfl⟩) | (go_at_call 64; refine (SOc.out _ (by repeat (first | exact Below.refl _ _ | refine st_drew ?_ | refine st_drewN ?_ _ | refine Below.setCell ?_ (by first | omega | (simp; done) | (simp; omega)) _ | refine Below.alloc ?_ (by first | omega | (simp; done) | (simp; omega)) _))).mono ?_; rintro e w2 ⟨rfl, hb2⟩; have bs := onto (show Below wr.heap.size wr _ from by repeat (first | exact Below.refl _ _ | refine st_drew ?_ | refine st_drewN ?_ _ | refine Below.setCell ?_ (by first | omega | (simp; done) | (simp; omega)) _ | refine Below.alloc ?_ (by first | omega | (simp; done) | (simp; omega)) _)) hb2; have k0 := (bs.cell (p := ⟨H, 0, none⟩) hHl).trans c0; have k1 := (bs.cell (p := ⟨H, 1, none⟩) hHl).trans d1; have k2 := (bs.cell (p := ⟨gi, a, none⟩) hGl).trans x0; have k3 := (bs.cell (p := ⟨gi, pa, none⟩) hGl).trans y0))
        all_goals go_wp2_with fail
        all_goals go_end0
        all_goals exact ⟨rfl, gi, cap, l2, HS0.out.below (by first | exact bs | exact st_drew bs), HC.out, hperm.out, HUE.out HBV.out, HG.out, hfr.below (by first | exact bs | exact st_drew bs)⟩
      · go_wp2_with fail
        go_region_held3 (fun w' => w'.cell? ⟨H, 0, none⟩ = some (.slice (some ⟨gi, 0, none⟩) l2.length cap) ∧ w'.cell? ⟨H, 1, none⟩ = some (fnS ao n cq t) ∧ w'.cell? ⟨gi, a, none⟩ = some (.int .i64 kx) ∧ w'.cell? ⟨gi, pa, none⟩ = some (.int .i64 ky)) (go_keep) (first | (go_at_call 112; refine (PAc _).mono ?_; rintro e wp ⟨rfl, rfl⟩) | (go_at_call 64; refine (SOc.out _ (by repeat (first | exact Below.refl _ _ | refine st_drew ?_ | refine st_drewN ?_ _ | refine Below.setCell ?_ (by first | omega | (simp; done) | (simp; omega)) _ | refine Below.alloc ?_ (by first | omega | (simp; done) | (simp; omega)) _))).mono ?_; rintro e w2 ⟨rfl, hb2⟩; have bs := onto (show Below wr.heap.size wr _ from by repeat (first | exact Below.refl _ _ | refine st_drew ?_ | refine st_drewN ?_ _ | refine Below.setCell ?_ (by first | omega | (simp; done) | (simp; omega)) _ | refine Below.alloc ?_ (by first | omega | (simp; done) | (simp; omega)) _)) hb2; have k0 := (bs.cell (p := ⟨H, 0, none⟩) hHl).trans c0; have k1 := (bs.cell (p := ⟨H, 1, none⟩) hHl).trans d1; have k2 := (bs.cell (p := ⟨gi, a, none⟩) hGl).trans x0; have k3 := (bs.cell (p := ⟨gi, pa, none⟩) hGl).trans y0))
        all_goals go_wp2_with (first | (go_at_call 112; refine (PAc _).mono ?_; rintro e wp ⟨rfl, rfl⟩) | (go_at_call 113; refine (HSW.out _ (by first | exact bs | exact st_drew bs)).mono ?_; rintro e w3 ⟨rfl, hp3, hk3⟩))
        all_goals go_roundw
        all_goals first
          | exact ⟨pa, _, rfl, by rw [swp_len]; have := HPL.out; omega, (HS0.out.below (by first | exact bs | exact st_drew bs)).swp hal (by have := HPL.out; omega) hp3 hk3, HUS.out HBV.out, (swp_perm hal (by have := HPL.out; omega)).trans hperm.out, (hfr.below (by first | exact bs | exact st_drew bs)).kp HG.out hk3⟩
          | (have := HPL.out; simp [intOf]; omega)
    · have ha0' : decide ((0 : Int) < (a : Int)) = false := by simp; omega
      have ha00 : ¬ (0 : Int) < (a : Int) := by omega
      have HE := hidden (up_end hup.out (Or.inl (by omega)))
      go_wp2_with fail
      go_quiet (fail)
      all_goals go_wp2_with fail
      all_goals go_end0
      all_goals exact ⟨rfl, gi, cap, l2, hs.below (by repeat (first | exact Below.refl _ _ | refine st_drew ?_ | refine st_drewN ?_ _ | refine Below.setCell ?_ (by first | omega | (simp; done) | (simp; omega)) _ | refine Below.alloc ?_ (by first | omega | (simp; done) | (simp; omega)) _)), HC.out, hperm.out, HE.out, HG.out, hfr.below (by repeat (first | exact Below.refl _ _ | refine st_drew ?_ | refine st_drewN ?_ _ | refine Below.setCell ?_ (by first | omega | (simp; done) | (simp; omega)) _ | refine Below.alloc ?_ (by first | omega | (simp; done) | (simp; omega)) _))⟩
end Go.Proofs.Ytcfghnffacdekab
