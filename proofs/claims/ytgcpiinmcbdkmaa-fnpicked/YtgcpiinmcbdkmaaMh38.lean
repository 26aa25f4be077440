/-
  Merged: By Pk22 Q32 Q33.
-/
import Derived.Test.YtgcpiinmcbdkmaaMh14
import Derived.ProofKit
import Derived.OpenShut
import Derived.ShutString
import Derived.ChangeOld
import Derived.Below
import Derived.Deep.Slices
import Derived.Test.YtgcpiinmcbdkmaaMh37
import Derived.Test.YtgcpiinmcbdkmaaMh4
import Derived.Deep.RegionWith
import Derived.BigRegion
namespace Go.Proofs.Ytgcpiinmcbdkmaa
open Go.RowKit
theorem bytes_of_read {H : Type} {enc : TypeId × Value → H} {P : Program} {W : World} {sp : Nat → Bool} {hd : Bool} {t e : TypeId} {ao : Option Addr} {len cap : Nat} {d : DataW H} {p : List MemPlace}
    (ht : P.underlying t = some (.slice e)) (he : P.underlying e = some (.int .u8)) (hc : P.cellsOf e = 1) (h : DataW.Trod enc P W 0 sp hd t (.slice ao len cap) d p) :
    ∃ bs : List Int, bs.length = len ∧ Bytes W W.heap.size ao bs := by
  obtain ⟨fuel, hf⟩ := h
  rcases Deep.open_slice1 ht hc hf with ⟨h1, _⟩ | ⟨a, l, c, m, n, V, D, Pl, h1, _, hl, _, hm, _, hx⟩
  · simp [Value.cells] at h1
    obtain ⟨rfl, rfl, rfl⟩ := h1
    exact ⟨[], rfl, by simp, Or.inl rfl⟩
  · simp [Value.cells] at h1
    obtain ⟨rfl, rfl, rfl⟩ := h1
    have hle : len ≤ m := by rw [hm]; split <;> omega
    have hV : ∀ i, i < len → ∃ x : Int, V i = .int .u8 x ∧ 0 ≤ x ∧ x ≤ 255 := by
      intro i hi
      obtain ⟨_, h2⟩ := hx i (by omega)
      cases n with
      | zero => simp [DataW.trod] at h2
      | succ n =>
        simp only [DataW.trod, he] at h2
        cases hv : V i with
        | int k b =>
          rw [hv] at h2
          by_cases q : k = .u8 ∧ (Lit.int .u8 b).wf = true
          · obtain ⟨rfl, q2⟩ := q
            refine ⟨b, rfl, ?_⟩
            have q3 : (decide (IntKind.u8.min ≤ b) && decide (b ≤ IntKind.u8.max)) = true := q2
            have e1 : IntKind.u8.min = 0 := by decide
            have e2 : IntKind.u8.max = 255 := by decide
            rw [e1, e2] at q3
            simpa using q3
          · simp [q] at h2
        | _ => rw [hv] at h2; simp at h2
    refine ⟨(List.range len).map (fun i => match V i with | .int _ b => b | _ => 0), by simp, ?_, ?_⟩
    · intro x hxm
      obtain ⟨i, hi, rfl⟩ := List.mem_map.1 hxm
      obtain ⟨y, hy, h0, h1⟩ := hV i (List.mem_range.1 hi)
      simp only [hy]
      exact ⟨h0, h1⟩
    · by_cases h0 : len = 0
      · exact Or.inl (by simp [h0])
      · obtain ⟨b, off, spot⟩ := a
        have hs := (hx 0 (by omega)).1
        have hspot : spot = none := by simpa [Addr.add] using World.cell?_spot hs
        subst hspot
        refine Or.inr ⟨b, off, rfl, World.block_lt_of_cell? W _ (by simpa [Addr.add] using hs), ?_⟩
        intro i hi
        have hi' : i < len := by simpa using hi
        have h2 := (hx i (by omega)).1
        obtain ⟨x, hxv, _⟩ := hV i hi'
        rw [hxv] at h2
        have h3 : W.cell? ⟨b, off + i, none⟩ = some (.int .u8 x) := by
          by_cases q : i = 0
          · subst q; simpa [Addr.add] using h2
          · simpa [Addr.add, q] using h2
        rw [h3]
        simp [hi', hxv]
end Go.Proofs.Ytgcpiinmcbdkmaa

namespace Go.Proofs.Ytgcpiinmcbdkmaa
open Go.RowKit Va Bl
set_option linter.all false
structure DE (w W : World) (b : Nat) (v nv : Value) (L : List (Ut × Value)) (ag : List Int) : Prop where
  bel : Below w.heap.size w W
  own : W.ownsRow b 81 6 v L.length (cellsU L)
  ant : ∀ p ∈ L, AOwn W b p ∧ p.1.ant.length ≤ 4
  nd : W.ownsRow b 2 1 nv ag.length (ag.map fun z => Value.int .i64 z)
theorem DE.put {w W : World} {b : Nat} {v nv : Value} {L : List (Ut × Value)} {ag : List Int} (h : DE w W b v nv L ag) {B : Nat} {vs : Array Value} {t : TypeId} (hP : PB W B vs t) (h1 : t ≠ 81) (h2 : t ≠ 2) (hB : w.heap.size ≤ B) (j : Nat) (u : Value) : DE w (W.setCell ⟨B, j, none⟩ u) b v nv L ag :=
  ⟨h.bel.setCell (p := ⟨B, j, none⟩) hB u, ownQ_set h.own (hP.neQ h.own h1) u, fun p hp => ⟨ownQ_set (h.ant p hp).1 (hP.neQ (h.ant p hp).1 h2) u, (h.ant p hp).2⟩, ownQ_set h.nd (hP.neQ h.nd h2) u⟩
theorem DE.drew {w W : World} {b : Nat} {v nv : Value} {L : List (Ut × Value)} {ag : List Int} (h : DE w W b v nv L ag) : DE w W.drew b v nv L ag := ⟨st_drew h.bel, h.own, h.ant, h.nd⟩
theorem PB.dr {W : World} {B : Nat} {vs : Array Value} {t : TypeId} (h : PB W B vs t) : PB W.drew B vs t := h.drewN 1
theorem DE.fill3 {w W : World} {b : Nat} {v nv : Value} {L : List (Ut × Value)} {ag : List Int} (h : DE w W b v nv L ag) {B : Nat} {v0 v1 v2 : Value} {t : TypeId} (hP : PB W B #[v0, v1, v2] t) (h1 : t ≠ 81) (h2 : t ≠ 2) (hB : w.heap.size ≤ B) (x0 x1 x2 : Value) : DE w (((W.setCell ⟨B, 0, none⟩ x0).setCell ⟨B, 1, none⟩ x1).setCell ⟨B, 2, none⟩ x2) b v nv L ag :=
  ((h.put hP h1 h2 hB 0 x0).put (hP.put 0 x0 rfl) h1 h2 hB 1 x1).put ((hP.put 0 x0 rfl).put 1 x1 rfl) h1 h2 hB 2 x2
theorem bytes_upP {w w' : World} {ao : Option Addr} {bs : List Int} (h : Bytes w w.heap.size ao bs) (hb : Below w.heap.size w w') : Bytes w' w'.heap.size ao bs := by
  have h2 := h.below hb
  have hs := hb.size
  refine ⟨h2.1, ?_⟩
  rcases h2.2 with q | ⟨b, o, e, hl, hc⟩
  · exact Or.inl q
  · exact Or.inr ⟨b, o, e, by omega, hc⟩
structure DQp (w W : World) (g : Nat) (ao : Option Addr) (cap : Nat) (bs : List Int) (R1 V6 : Nat) (r1 v6 : Array Value) (v nv : Value) (L : List (Ut × Value)) (ag : List Int) : Prop where
  cur : Cur W g ao cap bs
  de : DE w W (g + 1) v nv L ag
  p1 : PB W R1 r1 27
  p6 : PB W V6 v6 27
  o : w.heap.size ≤ R1 ∧ R1 < g ∧ g < V6
section
variable {w W W' : World} {g cap R1 V6 : Nat} {ao : Option Addr} {bs : List Int} {r1 v6 : Array Value} {v nv : Value} {L : List (Ut × Value)} {ag : List Int}
theorem DQp.call (h : DQp w W g ao cap bs R1 V6 r1 v6 v nv L ag) (hc : Cur W' g ao cap bs) (hk : Keep g W W') : DQp w W' g ao cap bs R1 V6 r1 v6 v nv L ag := by
  have ho := h.o
  have hs := h.de.bel.size
  exact ⟨hc, ⟨h.de.bel.trans (hk.below (by omega) hs), ownK_keep h.de.own hk (by omega), fun p hp => ⟨ownK_keep (h.de.ant p hp).1 hk (by omega), (h.de.ant p hp).2⟩, ownK_keep h.de.nd hk (by omega)⟩, h.p1.keep hk (by omega), h.p6.keep hk (by omega), h.o⟩
theorem DQp.alloc (h : DQp w W g ao cap bs R1 V6 r1 v6 v nv L ag) (o : Obj) : DQp w (W.alloc o) g ao cap bs R1 V6 r1 v6 v nv L ag := h.call (h.cur.alloc o) ((Keep.refl g W).alloc o)
end
set_option maxRecDepth 20000 in
set_option maxHeartbeats 16000000 in
theorem dpick_any (ao : Option Addr) (cap : Nat) (bs : List Int) (w : World) (hb : Bytes w w.heap.size ao bs) (hl : bs.length ≤ 1048576) :
    Calls Try.prog 9 #[.slice ao bs.length cap] w fun e w' => ∃ (L : List (Ut × Value)) (ad : Option Addr) (c : Nat) (n : Nd) (na : Option Addr) (nc : Nat) (t k : Int) (b : Nat), e = .returned (.tuple #[.slice ad L.length c, aN n (.slice na n.ag.length nc), .int .i64 t, .int .i64 k]) ∧ L.length ≤ 301 ∧ n.ag.length ≤ 4 ∧ DE w w' b (.slice ad L.length c) (.slice na n.ag.length nc) L n.ag := by
  have hbA : Below w.heap.size w (w.alloc (.cells #[.int .i64 0, .int .i64 0, .slice none 0 0] 27)) := by repeat (first | exact Below.refl _ _ | assumption | refine st_drew ?_ | refine st_drewN ?_ _ | refine Below.setCell ?_ (by first | omega | (simp; done) | (simp; omega)) _ | refine Below.alloc ?_ (by first | omega | (simp; done) | (simp; omega)) _)
  have hby := bytes_upP hb hbA
  have hR1 := PB.new w #[.int .i64 0, .int .i64 0, .slice none 0 0] 27
  clear hb
  go_enter Try.func9, Try.ntmps9
  go_upto_region 1 with fail
  generalize w.alloc (.cells #[.int .i64 0, .int .i64 0, .slice none 0 0] 27) = wA at *
  go_wp2_with fail
  refine (new_any ao cap bs wA hby hl).mono ?_
  rintro e wN ⟨rfl, hcN, hbN⟩
  have hg2 : w.heap.size < wA.heap.size := hR1.lt
  have hR1N := hR1.below hbN
  have hbW := onto hbA hbN
  clear hR1 hbA hbN hby
  generalize wA.heap.size = g at *
  have hgl := hcN.1
  go_wp2_with fail
  refine (dneed_any g ao cap bs _ hcN).mono ?_
  rintro e w1 ⟨n, na, nc, rfl, hn4, hi1⟩
  have hnd1 := ownW_base (b' := g + 1) hi1.own (by omega)
  have hP6 := PB.new w1 #[.int .i64 n.p, .int .i64 n.g, .slice na n.ag.length nc] 27
  have hK1 := hi1.keep.alloc (.cells #[.int .i64 n.p, .int .i64 n.g, .slice na n.ag.length nc] 27)
  have hc1 := hi1.cur.alloc (.cells #[.int .i64 n.p, .int .i64 n.g, .slice na n.ag.length nc] 27)
  have hnd := hnd1.alloc (.cells #[.int .i64 n.p, .int .i64 n.g, .slice na n.ag.length nc] 27)
  have hz1 := hi1.keep.size
  clear hi1 hnd1 hcN
  unfold aN
  go_upto_region 3 with fail
  generalize w1.alloc (.cells #[.int .i64 n.p, .int .i64 n.g, .slice na n.ag.length nc] 27) = w1' at *
  generalize w1.heap.size = V6 at *
  have hV6l := hP6.lt
  go_wp2_with fail
  refine (ldraw_any g ao cap bs _ hc1).mono ?_
  rintro e w2 ⟨L, ad, c, rfl, hL, hu2⟩
  have hsz2 := hu2.keep.size
  have hd : DQp w w2 g ao cap bs w.heap.size V6 #[.int .i64 0, .int .i64 0, .slice none 0 0] #[.int .i64 n.p, .int .i64 n.g, .slice na n.ag.length nc] (.slice ad L.length c) (.slice na n.ag.length nc) L n.ag := by
    have hK := hK1.trans hu2.keep
    have hK2 := hu2.keep
    exact ⟨hu2.cur, ⟨hbW.trans (hK.below (by omega) hbW.size), ownW_base hu2.own (by omega), fun p hp => ⟨ownW_base (hu2.ant p hp).1 (by omega), (hu2.ant p hp).2⟩, ownK_keep hnd hK2 (by omega)⟩, hR1N.keep hK (by omega), hP6.keep hK2 (by omega), ⟨Nat.le_refl _, hg2, by omega⟩⟩
  clear hK1 hP6 hnd hc1 hR1N hbW hu2
  go_wp2_with fail
  refine (below_any g ao cap bs 20 _ hd.cur (by omega)).mono ?_
  rintro e w3 ⟨y3, rfl, y30, y31, hc3, hk3⟩
  have hd3 := hd.call hc3 hk3
  clear hc3 hk3 hd
  go_wp2_with fail
  refine (below_any g ao cap bs 7 _ hd3.cur (by omega)).mono ?_
  rintro e w4 ⟨y4, rfl, y40, y41, hc4, hk4⟩
  have hd4 := hd3.call hc4 hk4
  clear hc4 hk4 hd3
  go_wp2_with fail
  refine (once_any g ao cap bs 20 _ hd4.cur (by omega)).mono ?_
  rintro e w5 ⟨t5, rfl, hc5, hk5⟩
  have hd := hd4.call hc5 hk5
  clear hc5 hk5 hd4
  rcases t5 with _ | _
  · skip
    have ho := hd.o
    obtain ⟨e0, e1, e2⟩ := hd.p6.three
    obtain ⟨f0, f1, f2⟩ := hd.p1.three
    obtain ⟨c0, c1, c2, -⟩ := hd.p1.cold
    have hne : w.heap.size ≠ V6 := by omega
    have HD := hidden hd
    clear hd
    go_wp2_with fail
    go_region
    all_goals go_wp2_with fail
    all_goals try simp only [Exit.inBlock, Exit.then]
    have HDE := (HD.out.de.fill3 HD.out.p1 (by decide) (by decide) (Nat.le_refl _) (.int .i64 n.p) (.int .i64 n.g) (.slice na n.ag.length nc)).drew
    have HF1 := (((HD.out.p1.put (vs' := #[.int .i64 n.p, .int .i64 0, .slice none 0 0]) 0 (.int .i64 n.p) (by simp)).put (vs' := #[.int .i64 n.p, .int .i64 n.g, .slice none 0 0]) 1 (.int .i64 n.g) (by simp)).put (vs' := #[.int .i64 n.p, .int .i64 n.g, .slice na n.ag.length nc]) 2 (.slice na n.ag.length nc) (by simp)).dr
    obtain ⟨r0, r1, r2⟩ := HF1.three
    exact bodyPost_ret (v := .tuple #[.slice ad L.length c, aN n (.slice na n.ag.length nc), .int .i64 (10 * y3), .int .i64 (y4)]) (by simp [results, Try.results9, go_sem, r0, r1, r2, aN]) rfl ⟨L, ad, c, n, na, nc, _, _, g + 1, rfl, hL, hn4, HDE⟩
  · have hT := hidden (Tb.new (g := g) (w := w5) [(-1), 10000000, 10000001] hd.cur.1)
    have HD := hidden (hd.alloc (.cells #[.int .i64 (-1), .int .i64 10000000, .int .i64 10000001] 2))
    clear hd
    go_wp2_with fail
    refine (below_any g ao cap bs 3 _ HD.out.cur (by omega)).mono ?_
    rintro e wB ⟨aA, rfl, aA0, aA1, hcA, hkA⟩
    obtain ⟨k, rfl⟩ := Int.eq_ofNat_of_zero_le aA0
    have hkl : k < 3 := by omega
    have hcell := (hT.out.keep hkA).at (k := k) hkl
    generalize hz : ([(-1), 10000000, 10000001] : List Int)[k] = z at hcell
    have hd6 := HD.out.call hcA hkA
    have hT2 := hidden (Tb.new (g := g) (w := wB) [(-1), 100, 101] hd6.cur.1)
    have HD6 := hidden (hd6.alloc (.cells #[.int .i64 (-1), .int .i64 100, .int .i64 101] 2))
    clear hz hT hcA hkA HD hd6
    go_wp2_with fail
    refine (below_any g ao cap bs 3 _ HD6.out.cur (by omega)).mono ?_
    rintro e wC ⟨aC, rfl, aC0, aC1, hcC, hkC⟩
    obtain ⟨k2, rfl⟩ := Int.eq_ofNat_of_zero_le aC0
    have hkl2 : k2 < 3 := by omega
    have hcell2 := (hT2.out.keep hkC).at (k := k2) hkl2
    generalize hz2 : ([(-1), 100, 101] : List Int)[k2] = z2 at hcell2
    have hd := HD6.out.call hcC hkC
    clear hz2 hT2 hcC hkC HD6 hcell
    have ho := hd.o
    obtain ⟨e0, e1, e2⟩ := hd.p6.three
    obtain ⟨f0, f1, f2⟩ := hd.p1.three
    obtain ⟨c0, c1, c2, -⟩ := hd.p1.cold
    have hne : w.heap.size ≠ V6 := by omega
    have HD := hidden hd
    clear hd
    go_wp2_with fail
    go_region
    all_goals go_wp2_with fail
    all_goals try simp only [Exit.inBlock, Exit.then]
    have HDE := (HD.out.de.fill3 HD.out.p1 (by decide) (by decide) (Nat.le_refl _) (.int .i64 n.p) (.int .i64 n.g) (.slice na n.ag.length nc)).drew
    have HF1 := (((HD.out.p1.put (vs' := #[.int .i64 n.p, .int .i64 0, .slice none 0 0]) 0 (.int .i64 n.p) (by simp)).put (vs' := #[.int .i64 n.p, .int .i64 n.g, .slice none 0 0]) 1 (.int .i64 n.g) (by simp)).put (vs' := #[.int .i64 n.p, .int .i64 n.g, .slice na n.ag.length nc]) 2 (.slice na n.ag.length nc) (by simp)).dr
    obtain ⟨r0, r1, r2⟩ := HF1.three
    exact bodyPost_ret (v := .tuple #[.slice ad L.length c, aN n (.slice na n.ag.length nc), .int .i64 (z), .int .i64 (z2)]) (by simp [results, Try.results9, go_sem, r0, r1, r2, aN]) rfl ⟨L, ad, c, n, na, nc, _, _, g + 1, rfl, hL, hn4, HDE⟩
end Go.Proofs.Ytgcpiinmcbdkmaa

namespace Go.Proofs.Ytgcpiinmcbdkmaa
open Go.RowKit Va Bl
set_option linter.all false
end Go.Proofs.Ytgcpiinmcbdkmaa

namespace Go.Proofs.Ytgcpiinmcbdkmaa
open Go.RowKit Va Bl
set_option linter.all false
end Go.Proofs.Ytgcpiinmcbdkmaa
