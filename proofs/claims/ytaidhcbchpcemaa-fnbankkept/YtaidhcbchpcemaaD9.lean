/-
  A bank, a need and a deed, drawn.
-/
import Derived.Test.YtaidhcbchpcemaaD8b
import Derived.Test.YtaidhcbchpcemaaQ31
import Derived.Test.YtaidhcbchpcemaaBy
import Derived.Deep.RegionWith
namespace Go.Proofs.Ytaidhcbchpcemaa
open Go.RowKit Va Bl
set_option linter.all false

theorem bytes_upY {w w' : World} {ao : Option Addr} {bs : List Int} (h : Bytes w w.heap.size ao bs) (hb : Below w.heap.size w w') : Bytes w' w'.heap.size ao bs := by
  have h2 := h.below hb
  have hs := hb.size
  refine ⟨h2.1, ?_⟩
  rcases h2.2 with q | ⟨b, o, e, hl, hc⟩
  · exact Or.inl q
  · exact Or.inr ⟨b, o, e, by omega, hc⟩

/-- The boxes of the call beside a cursor at g. -/
structure DB (w W : World) (g : Nat) (ao : Option Addr) (cap : Nat) (bs : List Int) (R1 R2 V6 V8 : Nat) (r1 r2 v6 v8 : Array Value) (v nv : Value) (L : List (Ut × Value)) (ag : List Int) : Prop where
  cur : Cur W g ao cap bs
  de : DE w W (g + 1) v nv L ag
  p1 : PB W R1 r1 28
  p2 : PB W R2 r2 30
  p6 : PB W V6 v6 28
  p8 : PB W V8 v8 30
  o : w.heap.size ≤ R1 ∧ R1 < R2 ∧ R2 < g ∧ g < V6 ∧ V6 < V8
section
variable {w W W' : World} {g cap R1 R2 V6 V8 : Nat} {ao : Option Addr} {bs : List Int} {r1 r2 v6 v8 : Array Value} {v nv : Value} {L : List (Ut × Value)} {ag : List Int}
theorem DB.call (h : DB w W g ao cap bs R1 R2 V6 V8 r1 r2 v6 v8 v nv L ag) (hc : Cur W' g ao cap bs) (hk : Keep g W W') : DB w W' g ao cap bs R1 R2 V6 V8 r1 r2 v6 v8 v nv L ag := by
  have ho := h.o
  have hs := h.de.bel.size
  exact ⟨hc, ⟨h.de.bel.trans (hk.below (by omega) hs), ownK_keep h.de.own hk (by omega), fun p hp => ⟨ownK_keep (h.de.ant p hp).1 hk (by omega), (h.de.ant p hp).2⟩, ownK_keep h.de.nd hk (by omega)⟩, h.p1.keep hk (by omega), h.p2.keep hk (by omega), h.p6.keep hk (by omega), h.p8.keep hk (by omega), h.o⟩
theorem DB.alloc (h : DB w W g ao cap bs R1 R2 V6 V8 r1 r2 v6 v8 v nv L ag) (o : Obj) : DB w (W.alloc o) g ao cap bs R1 R2 V6 V8 r1 r2 v6 v8 v nv L ag := h.call (h.cur.alloc o) ((Keep.refl g W).alloc o)
theorem DB.put8 (h : DB w W g ao cap bs R1 R2 V6 V8 r1 r2 v6 v8 v nv L ag) (j : Nat) (u : Value) {vs' : Array Value} (e : v8.setIfInBounds j u = vs') : DB w (W.setCell ⟨V8, j, none⟩ u) g ao cap bs R1 R2 V6 V8 r1 r2 v6 vs' v nv L ag := by
  have ho := h.o
  exact ⟨h.cur.far (by omega) u, h.de.put h.p8 (by decide) (by decide) (by omega) j u, h.p1.far (by omega) j u, h.p2.far (by omega) j u, h.p6.far (by omega) j u, h.p8.put j u e, h.o⟩
theorem DB.put6 (h : DB w W g ao cap bs R1 R2 V6 V8 r1 r2 v6 v8 v nv L ag) (j : Nat) (u : Value) {vs' : Array Value} (e : v6.setIfInBounds j u = vs') : DB w (W.setCell ⟨V6, j, none⟩ u) g ao cap bs R1 R2 V6 V8 r1 r2 vs' v8 v nv L ag := by
  have ho := h.o
  exact ⟨h.cur.far (by omega) u, h.de.put h.p6 (by decide) (by decide) (by omega) j u, h.p1.far (by omega) j u, h.p2.far (by omega) j u, h.p6.put j u e, h.p8.far (by omega) j u, h.o⟩
end

set_option maxRecDepth 20000 in
set_option maxHeartbeats 16000000 in
theorem dbdo_any (ao : Option Addr) (cap : Nat) (bs : List Int) (w : World) (hb : Bytes w w.heap.size ao bs) (hl : bs.length ≤ 1048576) :
    Calls Try.prog 13 #[.slice ao bs.length cap] w fun e w' => ∃ (L : List (Ut × Value)) (ad : Option Addr) (c : Nat) (n : Nd) (na : Option Addr) (nc : Nat) (a : Da) (b : Nat), e = .returned (.tuple #[.slice ad L.length c, aN n (.slice na n.ag.length nc), aDo a]) ∧ L.length ≤ 301 ∧ n.ag.length ≤ 4 ∧ DE w w' b (.slice ad L.length c) (.slice na n.ag.length nc) L n.ag := by
  have hbA : Below w.heap.size w ((w.alloc (.cells #[.int .i64 0, .int .i64 0, .slice none 0 0] 28)).alloc (.cells #[.int .i64 0, .int .i64 0, .int .i64 0] 30)) := by repeat (first | exact Below.refl _ _ | assumption | refine st_drew ?_ | refine st_drewN ?_ _ | refine Below.setCell ?_ (by first | omega | (simp; done) | (simp; omega)) _ | refine Below.alloc ?_ (by first | omega | (simp; done) | (simp; omega)) _)
  have hby := bytes_upY hb hbA
  have hR1 := (PB.new w #[.int .i64 0, .int .i64 0, .slice none 0 0] 28).alloc (.cells #[.int .i64 0, .int .i64 0, .int .i64 0] 30)
  have hR2 := PB.new (w.alloc (.cells #[.int .i64 0, .int .i64 0, .slice none 0 0] 28)) #[.int .i64 0, .int .i64 0, .int .i64 0] 30
  simp only [World.size_alloc w] at hR2
  clear hb
  go_enter Try.func13, Try.ntmps13
  go_upto_region 1 with fail
  generalize (w.alloc (.cells #[.int .i64 0, .int .i64 0, .slice none 0 0] 28)).alloc (.cells #[.int .i64 0, .int .i64 0, .int .i64 0] 30) = wA at *
  have hB1 : w.heap.size < w.heap.size + 1 := by omega
  generalize w.heap.size + 1 = B1 at *
  go_wp2_with fail
  refine (new_any ao cap bs wA hby hl).mono ?_
  rintro e wN ⟨rfl, hcN, hbN⟩
  have hg2 : B1 < wA.heap.size := hR2.lt
  have hR1N := hR1.below hbN
  have hR2N := hR2.below hbN
  have hbW := onto hbA hbN
  clear hR1 hR2 hbA hbN hby
  generalize wA.heap.size = g at *
  have hgl := hcN.1
  go_wp2_with fail
  refine (dneed_any g ao cap bs _ hcN).mono ?_
  rintro e w1 ⟨n, na, nc, rfl, hn4, hi1⟩
  have hnd1 := ownW_base (b' := g + 1) hi1.own (by omega)
  have hP6 := PB.new w1 #[.int .i64 n.p, .int .i64 n.g, .slice na n.ag.length nc] 28
  have hK1 := hi1.keep.alloc (.cells #[.int .i64 n.p, .int .i64 n.g, .slice na n.ag.length nc] 28)
  have hc1 := hi1.cur.alloc (.cells #[.int .i64 n.p, .int .i64 n.g, .slice na n.ag.length nc] 28)
  have hnd := hnd1.alloc (.cells #[.int .i64 n.p, .int .i64 n.g, .slice na n.ag.length nc] 28)
  have hz1 := hi1.keep.size
  clear hi1 hnd1 hcN
  unfold aN
  go_upto_region 3 with fail
  generalize w1.alloc (.cells #[.int .i64 n.p, .int .i64 n.g, .slice na n.ag.length nc] 28) = w1' at *
  generalize w1.heap.size = V6 at *
  have hV6l := hP6.lt
  go_wp2_with fail
  refine (ldraw_any g ao cap bs _ hc1).mono ?_
  rintro e w2 ⟨L, ad, c, rfl, hL, hu2⟩
  go_upto_region 4 with fail
  refine regDb4 rfl rfl hu2.cur ?_
  intro b' w3 V8 a hf hc3 hk3 hv12 hVl hP8
  have hsz2 := hu2.keep.size
  have hd3 : DB w w3 g ao cap bs w.heap.size B1 V6 V8 #[.int .i64 0, .int .i64 0, .slice none 0 0] #[.int .i64 0, .int .i64 0, .int .i64 0] #[.int .i64 n.p, .int .i64 n.g, .slice na n.ag.length nc] #[.int .i64 0, .int .i64 0, .int .i64 0] (.slice ad L.length c) (.slice na n.ag.length nc) L n.ag := by
    have hu3 := hu2.call hc3 hk3
    have hK := hK1.trans hu3.keep
    have hK2 := hu3.keep
    exact ⟨hc3, ⟨hbW.trans (hK.below (by omega) hbW.size), ownW_base hu3.own (by omega), fun p hp => ⟨ownW_base (hu3.ant p hp).1 (by omega), (hu3.ant p hp).2⟩, ownK_keep hnd hK2 (by omega)⟩, hR1N.keep hK (by omega), hR2N.keep hK (by omega), hP6.keep hK2 (by omega), hP8, ⟨Nat.le_refl _, hB1, hg2, by omega, by omega⟩⟩
  have hd := ((hd3.put8 0 (.int .i64 a.k) (vs' := #[.int .i64 a.k, .int .i64 0, .int .i64 0]) (by simp)).put8 1 (.int .i64 a.id) (vs' := #[.int .i64 a.k, .int .i64 a.id, .int .i64 0]) (by simp)).put8 2 (.int .i64 a.t) (vs' := #[.int .i64 a.k, .int .i64 a.id, .int .i64 a.t]) (by simp)
  rw [layDb4 hf, hv12]
  clear hf hv12 hd3 hc3 hk3 hP8 hu2 hK1 hP6 hnd hc1 hR1N hR2N hbW hVl
  generalize Rg.out (Rg.opsOf Try.f13 4) b' 0 = y0
  generalize Rg.out (Rg.opsOf Try.f13 4) b' 1 = y1
  generalize Rg.out (Rg.opsOf Try.f13 4) b' 2 = y2
  generalize Rg.out (Rg.opsOf Try.f13 4) b' 3 = y3
  generalize Rg.out (Rg.opsOf Try.f13 4) b' 4 = y4
  generalize Rg.out (Rg.opsOf Try.f13 4) b' 5 = y5
  generalize Rg.out (Rg.opsOf Try.f13 4) b' 6 = y6
  generalize Rg.out (Rg.opsOf Try.f13 4) b' 7 = y7
  generalize Rg.out (Rg.opsOf Try.f13 4) b' 8 = y8
  generalize Rg.out (Rg.opsOf Try.f13 4) b' 9 = y9
  generalize Rg.out (Rg.opsOf Try.f13 4) b' 10 = y10
  generalize Rg.out (Rg.opsOf Try.f13 4) b' 11 = y11
  generalize (((w3.setCell ⟨V8, 0, none⟩ (.int .i64 a.k)).setCell ⟨V8, 1, none⟩ (.int .i64 a.id)).setCell ⟨V8, 2, none⟩ (.int .i64 a.t)) = w7 at *
  go_frame
  by_cases hL0 : 0 < L.length
  · have hLi : (0 : Int) < (L.length : Int) := by omega
    go_wp2_with fail
    refine (once_any g ao cap bs 8 _ hd.cur (by omega)).mono ?_
    rintro e w8 ⟨t8, rfl, hc8, hk8⟩
    have hd8 := hd.call hc8 hk8
    clear hc8 hk8 hd
    have hd := hd8
    clear hd8
    go_upto_if 35 with fail
    go_cut [] (fun wx => ∃ (n : Nd) (na : Option Addr) (nc : Nat) (a : Da), DB w wx g ao cap bs w.heap.size B1 V6 V8 #[.int .i64 0, .int .i64 0, .slice none 0 0] #[.int .i64 0, .int .i64 0, .int .i64 0] #[.int .i64 n.p, .int .i64 n.g, .slice na n.ag.length nc] #[.int .i64 a.k, .int .i64 a.id, .int .i64 a.t] (.slice ad L.length c) (.slice na n.ag.length nc) L n.ag ∧ n.ag.length ≤ 4)
    case first =>
      rcases t8 with _ | _
      · go_wp2_with fail
        refine (below_any g ao cap bs (L.length : Int) _ hd.cur (by omega)).mono ?_
        rintro e w9 ⟨y9, rfl, y90, y91, hc9, hk9⟩
        have hd9 := hd.call hc9 hk9
        clear hc9 hk9 hd
        obtain ⟨i, rfl⟩ := Int.eq_ofNat_of_zero_le y90
        have hiL : i < L.length := by omega
        obtain ⟨p, hp⟩ := some_of L i hiL
        obtain ⟨G, c9, hv9, hG1, hG2, hG3, u0, u1, u2, u3, u4, u5⟩ := own_six hd9.de.own hp
        simp only [Value.slice.injEq, true_and] at hv9
        obtain ⟨rfl, rfl⟩ := hv9
        obtain ⟨x, tv⟩ := p
        obtain ⟨ta, tc, htv⟩ : ∃ ta tc, tv = Value.slice ta x.ant.length tc := ownW_slice (hd9.de.ant _ (List.mem_of_getElem? hp)).1
        subst htv
        have P9 := hidden (PB.new w9 #[.int .i64 x.id, .int .i64 x.grp, .slice ta x.ant.length tc, .int .i64 x.til, .int .i64 x.st, .int .i64 x.fr] 37)
        have hdA := hidden (hd9.alloc (.cells #[.int .i64 x.id, .int .i64 x.grp, .slice ta x.ant.length tc, .int .i64 x.til, .int .i64 x.st, .int .i64 x.fr] 37))
        have h9c := hd9.cur.1
        clear hd9 hp
        go_upto_region 7 with fail
        generalize w9.alloc (.cells #[.int .i64 x.id, .int .i64 x.grp, .slice ta x.ant.length tc, .int .i64 x.til, .int .i64 x.st, .int .i64 x.fr] 37) = wA at *
        have h9g : w9.heap.size ≠ g := Nat.ne_of_gt h9c
        generalize w9.heap.size = V9 at *
        clear u0 u1 u2 u3 u4 u5
        obtain ⟨u0, u1, u2, u3, u4, u5⟩ := P9.out.six
        have o9 := hdA.out.o
        obtain ⟨e0, e1, e2⟩ := hdA.out.p8.three
        obtain ⟨f0, f1, f2, -⟩ := hdA.out.p8.cold
        have hdB := hidden (hdA.out.put8 1 (.int .i64 x.id) (vs' := #[.int .i64 a.k, .int .i64 x.id, .int .i64 a.t]) (by simp))
        have h98 : V9 ≠ V8 := by
          rintro rfl
          have e3 := P9.out.symm.trans hdA.out.p8
          simp at e3
        have P9b := hidden (P9.out.far h98.symm 1 (.int .i64 x.id))
        clear hdA P9
        go_upto_region 8 with fail
        generalize wA.setCell ⟨V8, 1, none⟩ (.int .i64 x.id) = wB at *
        clear u0 u1 u2 u3 u4 u5 e0 e1 e2 f0 f1 f2
        obtain ⟨u0, u1, u2, u3, u4, u5⟩ := P9b.out.six
        by_cases h2 : x.st = 2
        · rw [h2] at u4
          have H2 := hidden h2
          clear h2
          go_wp2_with fail
          refine (once_any g ao cap bs 4 _ hdB.out.cur (by omega)).mono ?_
          rintro e wC ⟨tC, rfl, hcC, hkC⟩
          have hdC := hdB.out.call hcC hkC
          have hgC : V9 ≠ g := h9g
          have P9c := P9b.out.keep hkC hgC
          clear hdB P9b hcC hkC u0 u1 u2 u3 u4 u5
          rcases tC with _ | _
          · have HDC := hidden (hdC.put6 0 (.int .i64 x.fr) (vs' := #[.int .i64 x.fr, .int .i64 n.g, .slice na n.ag.length nc]) (by simp))
            obtain ⟨u0, u1, u2, u3, u4, u5⟩ := P9c.six
            obtain ⟨e0, e1, e2⟩ := hdC.p6.three
            obtain ⟨f0, f1, f2, -⟩ := hdC.p6.cold
            clear hdC P9c
            go_wp2_with fail
            go_meet
            case rel => exact ⟨{ n with p := x.fr }, na, nc, { a with id := x.id }, HDC.out, hn4⟩
          · go_wp2_with fail
            go_meet
            case rel => exact ⟨n, na, nc, { a with id := x.id }, hdC, hn4⟩
        · have h2b : (x.st == 2) = false := by simpa using h2
          go_wp2_with fail
          go_meet
          case rel => exact ⟨n, na, nc, { a with id := x.id }, hdB.out, hn4⟩
      · go_wp2_with fail
        go_meet
        case rel => exact ⟨n, na, nc, a, hd, hn4⟩
    case rest =>
      clear hd hn4
      obtain ⟨n, na, nc, a, hd, hn4⟩ := hcut
      go_wp2_with fail
      refine (once_any g ao cap bs 20 _ hd.cur (by omega)).mono ?_
      rintro e w6 ⟨t6, rfl, hc6, hk6⟩
      have hd6 := hd.call hc6 hk6
      clear hd hc6 hk6
      have hd := hd6
      clear hd6
      go_upto_if 58 with fail
      go_cut [] (fun wx => ∃ (n : Nd) (na : Option Addr) (nc : Nat) (a : Da), DB w wx g ao cap bs w.heap.size B1 V6 V8 #[.int .i64 0, .int .i64 0, .slice none 0 0] #[.int .i64 0, .int .i64 0, .int .i64 0] #[.int .i64 n.p, .int .i64 n.g, .slice na n.ag.length nc] #[.int .i64 a.k, .int .i64 a.id, .int .i64 a.t] (.slice ad L.length c) (.slice na n.ag.length nc) L n.ag ∧ n.ag.length ≤ 4)
      case first =>
        rcases t6 with _ | _
        · go_wp2_with fail
          go_meet
          case rel => exact ⟨n, na, nc, a, hd, hn4⟩
        · go_wp2_with fail
          refine (below_any g ao cap bs 3 _ hd.cur (by omega)).mono ?_
          rintro e w9 ⟨y9, rfl, y90, y91, hc9, hk9⟩
          have hd9 := hd.call hc9 hk9
          clear hc9 hk9 hd
          have hd := hd9
          clear hd9
          rcases (show y9 = 0 ∨ y9 = 1 ∨ y9 = 2 by omega) with rfl | rfl | rfl
          · have HD := hidden hd
            clear hd
            go_wp2_with fail
            refine (from_any g ao cap bs 0 5 _ HD.out.cur (by omega) (by omega) (by omega)).mono ?_
            rintro e wA ⟨z, rfl, aA0, aA1, hcA, hkA⟩
            have hd8 := hidden ((HD.out.call hcA hkA).put8 0 (.int .i64 z) (vs' := #[.int .i64 z, .int .i64 a.id, .int .i64 a.t]) (by simp))
            obtain ⟨e0, e1, e2⟩ := (HD.out.call hcA hkA).p8.three
            obtain ⟨f0, f1, f2, -⟩ := (HD.out.call hcA hkA).p8.cold
            clear hcA hkA HD
            go_wp2_with fail
            go_meet
            case rel => exact ⟨n, na, nc, { a with k := z }, hd8.out, hn4⟩
          · have hT := hidden (Tb.new (g := g) (w := w9) [0, 1000000, 1000001] hd.cur.1)
            have HD := hidden (hd.alloc (.cells #[.int .i64 0, .int .i64 1000000, .int .i64 1000001] 2))
            clear hd
            go_wp2_with fail
            refine (below_any g ao cap bs 3 _ HD.out.cur (by omega)).mono ?_
            rintro e wA ⟨aA, rfl, aA0, aA1, hcA, hkA⟩
            obtain ⟨k, rfl⟩ := Int.eq_ofNat_of_zero_le aA0
            have hkl : k < 3 := by omega
            have hcell := (hT.out.keep hkA).at (k := k) hkl
            generalize hz : ([0, 1000000, 1000001] : List Int)[k] = z at hcell
            have hd8 := hidden ((HD.out.call hcA hkA).put8 1 (.int .i64 z) (vs' := #[.int .i64 a.k, .int .i64 z, .int .i64 a.t]) (by simp))
            obtain ⟨e0, e1, e2⟩ := (HD.out.call hcA hkA).p8.three
            obtain ⟨f0, f1, f2, -⟩ := (HD.out.call hcA hkA).p8.cold
            clear hz hT hcA hkA HD
            go_wp2_with fail
            go_meet
            case rel => exact ⟨n, na, nc, { a with id := z }, hd8.out, hn4⟩
          · have hT := hidden (Tb.new (g := g) (w := w9) [(-1), 10000000, 10000001] hd.cur.1)
            have HD := hidden (hd.alloc (.cells #[.int .i64 (-1), .int .i64 10000000, .int .i64 10000001] 2))
            clear hd
            go_wp2_with fail
            refine (below_any g ao cap bs 3 _ HD.out.cur (by omega)).mono ?_
            rintro e wA ⟨aA, rfl, aA0, aA1, hcA, hkA⟩
            obtain ⟨k, rfl⟩ := Int.eq_ofNat_of_zero_le aA0
            have hkl : k < 3 := by omega
            have hcell := (hT.out.keep hkA).at (k := k) hkl
            generalize hz : ([(-1), 10000000, 10000001] : List Int)[k] = z at hcell
            have hd8 := hidden ((HD.out.call hcA hkA).put8 2 (.int .i64 z) (vs' := #[.int .i64 a.k, .int .i64 a.id, .int .i64 z]) (by simp))
            obtain ⟨e0, e1, e2⟩ := (HD.out.call hcA hkA).p8.three
            obtain ⟨f0, f1, f2, -⟩ := (HD.out.call hcA hkA).p8.cold
            clear hz hT hcA hkA HD
            go_wp2_with fail
            go_meet
            case rel => exact ⟨n, na, nc, { a with t := z }, hd8.out, hn4⟩
      case rest =>
      clear hd hn4
      obtain ⟨n, na, nc, a, hd, hn4⟩ := hcut
      have ho := hd.o
      go_upto_region 18 with fail
      refine regDb18 rfl rfl rfl rfl rfl rfl hd.de hd.p1 hd.p2 hd.p6 hd.p8 (by omega) ?_
      clear hd
      intro b' wF hf hv3 hDE hF1 hF2
      rw [layDb18 hf, hv3]
      clear hf hv3
      generalize Rg.out (Rg.opsOf Try.f13 18) b' 0 = y0
      generalize Rg.out (Rg.opsOf Try.f13 18) b' 1 = y1
      generalize Rg.out (Rg.opsOf Try.f13 18) b' 2 = y2
      go_frame
      have HDE := hidden hDE
      obtain ⟨r0, r1, r2⟩ := hF1.three
      obtain ⟨m0, m1, m2⟩ := hF2.three
      clear hDE hF1 hF2
      go_wp2_with fail
      try simp only [Exit.inBlock, Exit.then]
      exact bodyPost_ret (v := .tuple #[.slice ad L.length c, aN n (.slice na n.ag.length nc), aDo a]) (by simp [results, Try.results13, go_sem, r0, r1, r2, m0, m1, m2, aN, aDo]) rfl ⟨L, ad, c, n, na, nc, a, g + 1, rfl, hL, hn4, HDE.out⟩
  · have hLi : ¬ (0 : Int) < (L.length : Int) := by omega
    go_upto_region 10 with fail
    go_wp2_with fail
    refine (once_any g ao cap bs 20 _ hd.cur (by omega)).mono ?_
    rintro e w6 ⟨t6, rfl, hc6, hk6⟩
    have hd6 := hd.call hc6 hk6
    clear hd hc6 hk6
    have hd := hd6
    clear hd6
    go_upto_if 58 with fail
    go_cut [] (fun wx => ∃ (n : Nd) (na : Option Addr) (nc : Nat) (a : Da), DB w wx g ao cap bs w.heap.size B1 V6 V8 #[.int .i64 0, .int .i64 0, .slice none 0 0] #[.int .i64 0, .int .i64 0, .int .i64 0] #[.int .i64 n.p, .int .i64 n.g, .slice na n.ag.length nc] #[.int .i64 a.k, .int .i64 a.id, .int .i64 a.t] (.slice ad L.length c) (.slice na n.ag.length nc) L n.ag ∧ n.ag.length ≤ 4)
    case first =>
      rcases t6 with _ | _
      · go_wp2_with fail
        go_meet
        case rel => exact ⟨n, na, nc, a, hd, hn4⟩
      · go_wp2_with fail
        refine (below_any g ao cap bs 3 _ hd.cur (by omega)).mono ?_
        rintro e w9 ⟨y9, rfl, y90, y91, hc9, hk9⟩
        have hd9 := hd.call hc9 hk9
        clear hc9 hk9 hd
        have hd := hd9
        clear hd9
        rcases (show y9 = 0 ∨ y9 = 1 ∨ y9 = 2 by omega) with rfl | rfl | rfl
        · have HD := hidden hd
          clear hd
          go_wp2_with fail
          refine (from_any g ao cap bs 0 5 _ HD.out.cur (by omega) (by omega) (by omega)).mono ?_
          rintro e wA ⟨z, rfl, aA0, aA1, hcA, hkA⟩
          have hd8 := hidden ((HD.out.call hcA hkA).put8 0 (.int .i64 z) (vs' := #[.int .i64 z, .int .i64 a.id, .int .i64 a.t]) (by simp))
          obtain ⟨e0, e1, e2⟩ := (HD.out.call hcA hkA).p8.three
          obtain ⟨f0, f1, f2, -⟩ := (HD.out.call hcA hkA).p8.cold
          clear hcA hkA HD
          go_wp2_with fail
          go_meet
          case rel => exact ⟨n, na, nc, { a with k := z }, hd8.out, hn4⟩
        · have hT := hidden (Tb.new (g := g) (w := w9) [0, 1000000, 1000001] hd.cur.1)
          have HD := hidden (hd.alloc (.cells #[.int .i64 0, .int .i64 1000000, .int .i64 1000001] 2))
          clear hd
          go_wp2_with fail
          refine (below_any g ao cap bs 3 _ HD.out.cur (by omega)).mono ?_
          rintro e wA ⟨aA, rfl, aA0, aA1, hcA, hkA⟩
          obtain ⟨k, rfl⟩ := Int.eq_ofNat_of_zero_le aA0
          have hkl : k < 3 := by omega
          have hcell := (hT.out.keep hkA).at (k := k) hkl
          generalize hz : ([0, 1000000, 1000001] : List Int)[k] = z at hcell
          have hd8 := hidden ((HD.out.call hcA hkA).put8 1 (.int .i64 z) (vs' := #[.int .i64 a.k, .int .i64 z, .int .i64 a.t]) (by simp))
          obtain ⟨e0, e1, e2⟩ := (HD.out.call hcA hkA).p8.three
          obtain ⟨f0, f1, f2, -⟩ := (HD.out.call hcA hkA).p8.cold
          clear hz hT hcA hkA HD
          go_wp2_with fail
          go_meet
          case rel => exact ⟨n, na, nc, { a with id := z }, hd8.out, hn4⟩
        · have hT := hidden (Tb.new (g := g) (w := w9) [(-1), 10000000, 10000001] hd.cur.1)
          have HD := hidden (hd.alloc (.cells #[.int .i64 (-1), .int .i64 10000000, .int .i64 10000001] 2))
          clear hd
          go_wp2_with fail
          refine (below_any g ao cap bs 3 _ HD.out.cur (by omega)).mono ?_
          rintro e wA ⟨aA, rfl, aA0, aA1, hcA, hkA⟩
          obtain ⟨k, rfl⟩ := Int.eq_ofNat_of_zero_le aA0
          have hkl : k < 3 := by omega
          have hcell := (hT.out.keep hkA).at (k := k) hkl
          generalize hz : ([(-1), 10000000, 10000001] : List Int)[k] = z at hcell
          have hd8 := hidden ((HD.out.call hcA hkA).put8 2 (.int .i64 z) (vs' := #[.int .i64 a.k, .int .i64 a.id, .int .i64 z]) (by simp))
          obtain ⟨e0, e1, e2⟩ := (HD.out.call hcA hkA).p8.three
          obtain ⟨f0, f1, f2, -⟩ := (HD.out.call hcA hkA).p8.cold
          clear hz hT hcA hkA HD
          go_wp2_with fail
          go_meet
          case rel => exact ⟨n, na, nc, { a with t := z }, hd8.out, hn4⟩
    case rest =>
    clear hd hn4
    obtain ⟨n, na, nc, a, hd, hn4⟩ := hcut
    have ho := hd.o
    go_upto_region 18 with fail
    refine regDb18 rfl rfl rfl rfl rfl rfl hd.de hd.p1 hd.p2 hd.p6 hd.p8 (by omega) ?_
    clear hd
    intro b' wF hf hv3 hDE hF1 hF2
    rw [layDb18 hf, hv3]
    clear hf hv3
    generalize Rg.out (Rg.opsOf Try.f13 18) b' 0 = y0
    generalize Rg.out (Rg.opsOf Try.f13 18) b' 1 = y1
    generalize Rg.out (Rg.opsOf Try.f13 18) b' 2 = y2
    go_frame
    have HDE := hidden hDE
    obtain ⟨r0, r1, r2⟩ := hF1.three
    obtain ⟨m0, m1, m2⟩ := hF2.three
    clear hDE hF1 hF2
    go_wp2_with fail
    try simp only [Exit.inBlock, Exit.then]
    exact bodyPost_ret (v := .tuple #[.slice ad L.length c, aN n (.slice na n.ag.length nc), aDo a]) (by simp [results, Try.results13, go_sem, r0, r1, r2, m0, m1, m2, aN, aDo]) rfl ⟨L, ad, c, n, na, nc, a, g + 1, rfl, hL, hn4, HDE.out⟩
end Go.Proofs.Ytaidhcbchpcemaa
