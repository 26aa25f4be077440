/-
  What may be given: the specification.
-/
import Derived.Test.YtcnhogghfedcdaaGf
import Derived.Test.YtcnhogghfedcdaaMc
import Derived.Test.YtcnhogghfedcdaaGw
import Derived.BigQuiet
import Derived.Deep.QuietTactic
namespace Go.Proofs.Ytcnhogghfedcdaa
open Go.RowKit Va Ga
set_option linter.unusedVariables false

set_option maxHeartbeats 1000000 in
theorem smax_any (a b : Int) (w : World) : Calls Try.prog 43 #[.int .i64 a, .int .i64 b] w fun e w' => e = .returned (.int .i64 (max a b)) ∧ w = w' := by
  go_enter Try.func43, Try.ntmps43
  go_wp2
  all_goals go_ret
  all_goals refine ⟨?_, rfl⟩
  all_goals first | (rw [Int.max_eq_left (by omega)]; rfl) | (rw [Int.max_eq_right (by omega)]; rfl)

theorem take_oneN {l : List Gv} {i : Nat} {y : Gv} (h : l[i]? = some y) : l.take (i + 1) = l.take i ++ [y] := by rw [List.take_add_one, h]; rfl
theorem ends_yes {x t : Int} {l : List Gv} {i : Nat} {y : Gv} (h : l[i]? = some y) (h1 : (y.d == x) = true) (h2 : rng y.t t (t + 1439) = true) : ends x t (l.take (i + 1)) = ends x t (l.take i) ++ [y.t] := by
  have e : win t (t + 1439) y = true := h2
  unfold ends mine
  rw [take_oneN h, List.filter_append, List.filter_append, List.map_append]
  simp [h1, e]
theorem ends_no {x t : Int} {l : List Gv} {i : Nat} {y : Gv} (h : l[i]? = some y) (h1 : (y.d == x) = false ∨ rng y.t t (t + 1439) = false) : ends x t (l.take (i + 1)) = ends x t (l.take i) := by
  unfold ends mine
  rw [take_oneN h, List.filter_append, List.filter_append, List.map_append]
  rcases h1 with h1 | h1
  · simp [h1]
  · have e : win t (t + 1439) y = false := h1
    by_cases hq : (y.d == x) = true
    · simp [hq, e]
    · simp [hq]
theorem day_yes {x a e : Int} {l : List Gv} {i : Nat} {y : Gv} (h : l[i]? = some y) (h1 : (y.d == x) = true) (h2 : rng y.t (e - 1439) e = true) : day x a (l.take (i + 1)) e = day x a (l.take i) e + y.n := by
  have q : win (e - 1439) e y = true := h2
  unfold day mine
  rw [take_oneN h, List.filter_append, List.filter_append]
  simp [h1, q, sumN]
  omega
theorem day_no {x a e : Int} {l : List Gv} {i : Nat} {y : Gv} (h : l[i]? = some y) (h1 : (y.d == x) = false ∨ rng y.t (e - 1439) e = false) : day x a (l.take (i + 1)) e = day x a (l.take i) e := by
  unfold day mine
  rw [take_oneN h, List.filter_append, List.filter_append]
  rcases h1 with h1 | h1
  · simp [h1]
  · have q : win (e - 1439) e y = false := h1
    by_cases hq : (y.d == x) = true
    · simp [hq, q]
    · simp [hq]
theorem ends_len (x t : Int) (l : List Gv) : (ends x t l).length ≤ l.length + 1 := by
  unfold ends mine
  simp only [List.length_cons, List.length_map]
  have a := List.length_filter_le (win t (t + 1439)) (l.filter fun g => g.d == x)
  have b := List.length_filter_le (fun g : Gv => g.d == x) l
  omega
theorem ends_in {x t : Int} {l : List Gv} {z : Int} (h : z ∈ ends x t l) : t ≤ z ∧ z ≤ t + 1439 := by
  unfold ends at h
  rcases List.mem_cons.1 h with rfl | h
  · omega
  · obtain ⟨g, hg, rfl⟩ := List.mem_map.1 h
    have := (List.mem_filter.1 hg).2
    simp [win] at this
    omega
theorem big_takeI {l : List Int} {i : Nat} {z : Int} (F : Int → Int) (h : l[i]? = some z) : big ((l.take (i + 1)).map F) = max (big ((l.take i).map F)) (F z) := by
  rw [show l.take (i + 1) = l.take i ++ [z] from by rw [List.take_add_one, h]; rfl, List.map_append]
  exact big_snoc _ _
theorem ownN_irw {w : World} {base : Nat} {v : Value} {L : List Int} (h : w.ownsRow base 2 1 v L.length (L.map fun z => Value.int .i64 z)) : IRw w v L := by
  rcases h.2 with ⟨h1, h2⟩ | ⟨b, c, cur, h2, h3, h4, h5, h6, h7, h8⟩
  · have : L = [] := List.length_eq_zero_iff.1 h2
    subst this
    exact ⟨none, 0, h1, Nat.le_refl _, Or.inl rfl⟩
  · refine ⟨_, c, h2, by omega, Or.inr ⟨b, 0, rfl, (Array.getElem?_eq_some_iff.1 h4).1, fun i x hx => ?_⟩⟩
    have hlt := get_lt' hx
    have e : (cur.toList.take (L.length * 1))[i]? = some (.int .i64 x) := by rw [h8, List.getElem?_map, hx]; rfl
    rw [List.getElem?_take, if_pos (by omega)] at e
    simp only [World.cell?, h4, Nat.zero_add]
    simpa using e
theorem ownW_blk {w : World} {b e s n : Nat} {v : Value} {xs : List Value} (h : w.ownsRow b e s v n xs) {k : Nat} (hk : v.ownBlock = some k) : b ≤ k := (ownW_lt h k hk).1
theorem ownW_one (w : World) (z : Int) : (w.alloc (.cells #[.int .i64 z] 2)).ownsRow w.heap.size 2 1 (.slice (some ⟨w.heap.size, 0, none⟩) 1 1) 1 [.int .i64 z] :=
  ⟨rfl, .inr ⟨w.heap.size, 1, #[.int .i64 z], rfl, Nat.le_refl _, heap_alloc_new w _, Nat.le_refl _, by unfold maxLen; omega, rfl, rfl⟩⟩

set_option maxRecDepth 20000 in
set_option maxHeartbeats 8000000 in
theorem smay_any (x : Dg) (ta : Option Addr) (n tc : Nat) (ao : Option Addr) (len cap : Nat) (G : List Gv) (t a : Int) (w : World) (h : IRw w (.slice ta n tc) x.cls) (hn : x.cls.length ≤ 1048576) (h' : Rw 3 csGv w (.slice ao len cap) G) (hl : G.length ≤ 1048576) :
    Calls Try.prog 19 #[aD x (.slice ta n tc), .slice ao len cap, .int .i64 t, .int .i64 a] w fun e w' => e = .returned (.tuple #[.bool (mayG x G t a).1, .int .i64 (mayG x G t a).2]) ∧ Below w.heap.size w w' := by
  obtain rfl := h'.len
  obtain ⟨i0, hi0, hv0, hv1, hv2⟩ := info_partsW infoW64
  have hb0 : Below w.heap.size w (w.alloc (.cells #[.int .i64 x.id, .slice ta n tc, .int .i64 x.pk, .int .i64 x.most, .int .i64 x.day, .int .i64 x.kid] 26)) := (Below.refl _ _).alloc (Nat.le_refl _) _
  have HPX := hidden (PB.new w #[.int .i64 x.id, .slice ta n tc, .int .i64 x.pk, .int .i64 x.most, .int .i64 x.day, .int .i64 x.kid] 26)
  have k1 := fun W hW => sdrugok_any x ta n tc W hW hn
  have k2 := stime_any t
  have k3 := lin_any a 1 1000000000
  have kmax := smax_any
  have HH := hidden (h.below hb0)
  have h2 := h'.below hb0
  have HL := hidden (fun W (hW : Below (w.alloc (.cells #[.int .i64 x.id, .slice ta n tc, .int .i64 x.pk, .int .i64 x.most, .int .i64 x.day, .int .i64 x.kid] 26)).heap.size (w.alloc (.cells #[.int .i64 x.id, .slice ta n tc, .int .i64 x.pk, .int .i64 x.most, .int .i64 x.day, .int .i64 x.kid] 26)) W) => h2.below hW)
  have HB := hidden hb0
  have HRT : Hid (rng t 0 10000000 = true → 0 ≤ t ∧ t ≤ 10000000) := rng_iff.1
  have HRA : Hid (rng a 1 1000000000 = true → 1 ≤ a ∧ a ≤ 1000000000) := rng_iff.1
  have HR0 : Hid ((drugB x && (decide (G.length ≤ 500) && (rng t 0 10000000 && rng a 1 1000000000))) = false → mayG x G t a = (false, 0)) := fun hh => by
    unfold mayG
    rw [if_neg]
    intro hq
    unfold okG gsB at hq
    simp only [Bool.and_eq_true] at hq
    rw [hq.1, hq.2.1.1, hq.2.2.1, hq.2.2.2] at hh
    cases hh
  have HRN : Hid (∀ y ∈ G, gvB y = false → mayG x G t a = (false, 0)) := fun y hy hh => by
    unfold mayG
    rw [if_neg]
    intro hq
    unfold okG gsB at hq
    simp only [Bool.and_eq_true, List.all_eq_true] at hq
    rw [hq.2.1.2 y hy] at hh
    cases hh
  have HR1 : Hid ((drugB x && (decide (G.length ≤ 500) && (rng t 0 10000000 && rng a 1 1000000000))) = true → (∀ y ∈ G, gvB y = true) → mayG x G t a = if big ((ends x.id t G).map (day x.id a G)) ≤ x.day then (true, 0) else (false, big ((ends x.id t G).map (day x.id a G)))) := fun hh hg => by
    unfold mayG
    rw [if_pos]
    · rfl
    · unfold okG gsB
      simp only [Bool.and_eq_true, List.all_eq_true] at hh ⊢
      exact ⟨hh.1, ⟨hh.2.1, hg⟩, hh.2.2⟩
  clear h h' h2 hb0
  unfold aD at *
  generalize mayG x G t a = R at *
  generalize drugB x = t1 at *
  generalize rng t 0 10000000 = t2 at *
  generalize rng a 1 1000000000 = t3 at *
  rcases t1 with _ | _
  · go_enter Try.func19, Try.ntmps19
    go_upto_region 1 with fail
    generalize w.alloc (.cells #[.int .i64 x.id, .slice ta n tc, .int .i64 x.pk, .int .i64 x.most, .int .i64 x.day, .int .i64 x.kid] 26) = wA at *
    obtain ⟨p0, p1, p2, p3, p4, p5⟩ := HPX.out.six
    go_wp2_with (first | (go_at_call 25; refine (k1 _ HH.out).mono ?_; rintro e w1 ⟨rfl, hb1⟩; have bA := hb1; clear hb1) | (with_reducible (first | refine (k2 _).mono ?_ | refine (k3 _).mono ?_); rintro e w2 ⟨rfl, rfl⟩) | fail)
    all_goals go_ret2
    all_goals exact ⟨by rw [HR0.out (by simp)]; rfl, onto HB.out (by first | exact bA | assumption)⟩
  by_cases h5 : (500 : Int) < (G.length : Int)
  · have hd5 : decide (G.length ≤ 500) = false := by simp; omega
    rw [hd5] at HR0
    go_enter Try.func19, Try.ntmps19
    go_upto_region 1 with fail
    generalize w.alloc (.cells #[.int .i64 x.id, .slice ta n tc, .int .i64 x.pk, .int .i64 x.most, .int .i64 x.day, .int .i64 x.kid] 26) = wA at *
    obtain ⟨p0, p1, p2, p3, p4, p5⟩ := HPX.out.six
    go_wp2_with (first | (go_at_call 25; refine (k1 _ HH.out).mono ?_; rintro e w1 ⟨rfl, hb1⟩; have bA := hb1; clear hb1) | (with_reducible (first | refine (k2 _).mono ?_ | refine (k3 _).mono ?_); rintro e w2 ⟨rfl, rfl⟩) | fail)
    all_goals go_ret2
    all_goals exact ⟨by rw [HR0.out (by simp)]; rfl, onto HB.out (by first | exact bA | assumption)⟩
  have hd5 : decide (G.length ≤ 500) = true := by simp; omega
  rw [hd5] at HR0 HR1
  clear hd5
  rcases t2 with _ | _
  · go_enter Try.func19, Try.ntmps19
    go_upto_region 1 with fail
    generalize w.alloc (.cells #[.int .i64 x.id, .slice ta n tc, .int .i64 x.pk, .int .i64 x.most, .int .i64 x.day, .int .i64 x.kid] 26) = wA at *
    obtain ⟨p0, p1, p2, p3, p4, p5⟩ := HPX.out.six
    go_wp2_with (first | (go_at_call 25; refine (k1 _ HH.out).mono ?_; rintro e w1 ⟨rfl, hb1⟩; have bA := hb1; clear hb1) | (with_reducible (first | refine (k2 _).mono ?_ | refine (k3 _).mono ?_); rintro e w2 ⟨rfl, rfl⟩) | fail)
    all_goals go_ret2
    all_goals exact ⟨by rw [HR0.out (by simp)]; rfl, onto HB.out (by first | exact bA | assumption)⟩
  rcases t3 with _ | _
  · go_enter Try.func19, Try.ntmps19
    go_upto_region 1 with fail
    generalize w.alloc (.cells #[.int .i64 x.id, .slice ta n tc, .int .i64 x.pk, .int .i64 x.most, .int .i64 x.day, .int .i64 x.kid] 26) = wA at *
    obtain ⟨p0, p1, p2, p3, p4, p5⟩ := HPX.out.six
    go_wp2_with (first | (go_at_call 25; refine (k1 _ HH.out).mono ?_; rintro e w1 ⟨rfl, hb1⟩; have bA := hb1; clear hb1) | (with_reducible (first | refine (k2 _).mono ?_ | refine (k3 _).mono ?_); rintro e w2 ⟨rfl, rfl⟩) | fail)
    all_goals go_ret2
    all_goals exact ⟨by rw [HR0.out (by simp)]; rfl, onto HB.out (by first | exact bA | assumption)⟩
  obtain ⟨t0, t1⟩ := HRT.out rfl
  obtain ⟨a0, a1⟩ := HRA.out rfl
  have HR2 := hidden (HR1.out rfl)
  clear HR0 HR1 HRT HRA
  go_enter Try.func19, Try.ntmps19
  go_upto_region 1 with fail
  generalize w.alloc (.cells #[.int .i64 x.id, .slice ta n tc, .int .i64 x.pk, .int .i64 x.most, .int .i64 x.day, .int .i64 x.kid] 26) = wA at *
  obtain ⟨p0, p1, p2, p3, p4, p5⟩ := HPX.out.six
  go_upto_region 3 with (first | (go_at_call 25; refine (k1 _ HH.out).mono ?_; rintro e w1 ⟨rfl, hb1⟩; have bA := hb1; clear hb1) | (with_reducible (first | refine (k2 _).mono ?_ | refine (k3 _).mono ?_); rintro e w2 ⟨rfl, rfl⟩) | fail)
  obtain ⟨w3, hw3, hb3⟩ : ∃ w3, w3 = _ ∧ Below wA.heap.size wA w3 := ⟨_, rfl, bA⟩
  subst hw3
  clear bA p0 p1 p2 p3 p4 p5 k1 k2 k3
  have ho0 := ownW_one w3 t
  have bx : Below w3.heap.size w3 (w3.alloc (.cells #[.int .i64 t] 2)) := (Below.refl _ _).alloc (Nat.le_refl _) _
  have HO0 := hidden (ownW_base ho0 (show wA.heap.size ≤ w3.heap.size from hb3.size))
  have HB0 := hidden (hb3.trans (bx.mono hb3.size))
  have hz3 := hb3.size
  clear ho0 bx hb3
  go_upto_region 4 with fail
  generalize w3.alloc (.cells #[.int .i64 t] 2) = w4 at *
  generalize w3.heap.size = B3 at *
  go_wp2_with fail
  go_loopw [10, 11] (fun ev iv wr => ∃ (i : Nat) (ad : Option Addr) (c : Nat) (E : List Int), i ≤ G.length ∧ iv = .int .i64 i ∧ ev = .slice ad E.length c ∧ Hid (wr.ownsRow wA.heap.size 2 1 (.slice ad E.length c) E.length (E.map fun z => Value.int .i64 z)) ∧ Hid (Below wA.heap.size wA wr) ∧ Hid (E = ends x.id t (G.take i)) ∧ Hid (∀ j y, j < i → G[j]? = some y → gvB y = true)) (fun _ iv _ => G.length - (intOf iv).toNat)
  case atStart => exact ⟨0, some ⟨B3, 0, none⟩, 1, [t], Nat.zero_le _, rfl, rfl, HO0, HB0, rfl, fun j y hj => absurd hj (Nat.not_lt_zero _)⟩
  case round =>
    clear HO0 HB0
    obtain ⟨i, ad, c, E, hi, rfl, rfl, ho, hb, hE, hok⟩ := hrel
    have hsz := hb.out.size
    by_cases hlt : i < G.length
    · have hlti : (i : Int) < (G.length : Int) := by omega
      obtain ⟨y, hy⟩ := some_of G i hlt
      have HY := hidden hy
      obtain ⟨g1, off1, hao, hg1, hcs⟩ := (HL.out _ hb.out).at hy
      subst hao
      have c0 : wr.cell? ⟨g1, off1 + i * 3, none⟩ = some (.int .i64 y.d) := hcs 0 (by omega)
      have c1 : wr.cell? ⟨g1, off1 + i * 3 + 1, none⟩ = some (.int .i64 y.t) := hcs 1 (by omega)
      have c2 : wr.cell? ⟨g1, off1 + i * 3 + 2, none⟩ = some (.int .i64 y.n) := hcs 2 (by omega)
      have kg := fun W => sgv_any y W
      unfold aGv at kg
      cases hp : gvB y with
      | false =>
        rw [hp] at kg
        have HR := hidden (HRN.out y (List.mem_of_getElem? HY.out) hp)
        clear hy hcs hok hp
        go_wp2_with fail
        refine (kg _).mono ?_
        rintro e w5 ⟨rfl, hb5⟩
        go_wp2_with fail
        go_ret2
        exact ⟨by rw [HR.out]; rfl, onto HB.out (hb.out.trans (hb5.mono hb.out.size))⟩
      | true =>
        rw [hp] at kg
        have hyr : 0 ≤ y.t ∧ y.t ≤ 10000000 := by
          simp only [gvB, Bool.and_eq_true, rng_iff] at hp
          exact hp.2.1
        have HOK2 : Hid (∀ j z, j < i + 1 → G[j]? = some z → gvB z = true) := fun j z hj hz => by
          rcases Nat.lt_succ_iff_lt_or_eq.1 hj with k | rfl
          · exact hok.out j z k hz
          · rw [HY.out] at hz; cases hz; exact hp
        clear hy hcs hok hp
        go_wp2_with fail
        refine (kg _).mono ?_
        rintro e w5 ⟨rfl, hb5⟩
        have HO5 := hidden (ownW_below ho.out hb5)
        have HB5 := hidden (hb.out.trans (hb5.mono hb.out.size))
        clear c0 c1 c2 ho hb5 hb kg
        obtain ⟨p0, p1, p2, p3, p4, p5⟩ := (HPX.out.below HB5.out).six
        obtain ⟨g2, off2, hao2, hg2, hcs2⟩ := (HL.out _ HB5.out).at HY.out
        obtain ⟨rfl, rfl⟩ : g1 = g2 ∧ off1 = off2 := by simpa using hao2
        have c0 : w5.cell? ⟨g1, off1 + i * 3, none⟩ = some (.int .i64 y.d) := hcs2 0 (by omega)
        have c1 : w5.cell? ⟨g1, off1 + i * 3 + 1, none⟩ = some (.int .i64 y.t) := hcs2 1 (by omega)
        have c2 : w5.cell? ⟨g1, off1 + i * 3 + 2, none⟩ = some (.int .i64 y.n) := hcs2 2 (by omega)
        clear hcs2 hao2
        have hEl : E.length ≤ 501 := by rw [hE.out]; have := ends_len x.id t (G.take i); rw [List.length_take] at this; omega
        have hK := fun W => (lin_any y.t t (t + 1439) W).mono (fun e w' (h : _ ∧ _) => (⟨h.1, h.2.symm⟩ : _ ∧ w' = W))
        cases hq : (y.d == x.id) with
        | false =>
          have HE2 : Hid (E = ends x.id t (G.take (i + 1))) := by rw [Hid, ends_no HY.out (Or.inl hq)]; exact hE.out
          clear hE
          go_wp2_with fail
          go_quiet ((go_at_call 34; exact Calls.quiet_of_same (hK _)))
          all_goals go_wp2_with fail
          all_goals go_roundw
          all_goals first
            | exact ⟨i + 1, ad, c, E, by omega, rfl, rfl, ownW_below HO5.out (by repeat (first | exact Below.refl _ _ | assumption | refine st_drew ?_ | refine st_drewN ?_ _ | refine Below.setCell ?_ (by first | omega | (simp; done) | (simp; omega)) _ | refine Below.alloc ?_ (by first | omega | (simp; done) | (simp; omega)) _)), HB5.out.trans (Below.mono (show Below w5.heap.size w5 _ from by repeat (first | exact Below.refl _ _ | assumption | refine st_drew ?_ | refine st_drewN ?_ _ | refine Below.setCell ?_ (by first | omega | (simp; done) | (simp; omega)) _ | refine Below.alloc ?_ (by first | omega | (simp; done) | (simp; omega)) _)) HB5.out.size), HE2, HOK2⟩
            | (simp [intOf]; omega)
        | true =>
          cases hw : rng y.t t (t + 1439) with
          | false =>
            rw [hw] at hK
            have HE2 : Hid (E = ends x.id t (G.take (i + 1))) := by rw [Hid, ends_no HY.out (Or.inr hw)]; exact hE.out
            clear hE hw
            go_wp2_with fail
            go_quiet ((go_at_call 34; exact Calls.quiet_of_same (hK _)))
            all_goals go_wp2_with fail
            all_goals go_roundw
            all_goals first
              | exact ⟨i + 1, ad, c, E, by omega, rfl, rfl, ownW_below HO5.out (by repeat (first | exact Below.refl _ _ | assumption | refine st_drew ?_ | refine st_drewN ?_ _ | refine Below.setCell ?_ (by first | omega | (simp; done) | (simp; omega)) _ | refine Below.alloc ?_ (by first | omega | (simp; done) | (simp; omega)) _)), HB5.out.trans (Below.mono (show Below w5.heap.size w5 _ from by repeat (first | exact Below.refl _ _ | assumption | refine st_drew ?_ | refine st_drewN ?_ _ | refine Below.setCell ?_ (by first | omega | (simp; done) | (simp; omega)) _ | refine Below.alloc ?_ (by first | omega | (simp; done) | (simp; omega)) _)) HB5.out.size), HE2, HOK2⟩
              | (simp [intOf]; omega)
          | true =>
            rw [hw] at hK
            have HE2 : Hid (E ++ [y.t] = ends x.id t (G.take (i + 1))) := by rw [Hid, ends_yes HY.out hq hw, hE.out]
            clear hE hw
            have hBs : wA.heap.size ≤ w5.heap.size := HB5.out.size
            go_wp2_with fail
            go_quiet ((go_at_call 34; exact Calls.quiet_of_same (hK _)))
            all_goals (go_wp2_with (at_builtin; refine wpList_append_own _ rfl (.tmp 67) (.tmp 73) 24 rfl wA.heap.size 2 i0 (.int .i64 0) 1 8 Try.underlying24 hi0 hv0 hv1 hv2 rfl (by decide) _ E.length (E.map fun z => Value.int .i64 z) rfl ((ownW_below HO5.out (show Below w5.heap.size w5 _ from by repeat (first | exact Below.refl _ _ | assumption | refine st_drew ?_ | refine st_drewN ?_ _ | refine Below.setCell ?_ (by first | omega | (simp; done) | (simp; omega)) _ | refine Below.alloc ?_ (by first | omega | (simp; done) | (simp; omega)) _))).alloc _) ⟨w5.heap.size, 0, none⟩ 1 1 [.int .i64 y.t] rfl rfl (cell_oneW _ _ _) (by simp [Value.oneCell']) (by unfold maxLen; omega) (by omega) (by simp; omega) ?_; intro v6 w6 ho6 hg6 hn6; obtain ⟨ad6, c6, rfl⟩ := ownW_slice ho6))
            all_goals (have b6 : Below wA.heap.size wA w6 := ((st_drewN HB5.out _).alloc HB5.out.size (.cells #[.int .i64 y.t] 2)).grown hg6 (by simp; omega) (fun k hk => ownW_blk HO5.out hk))
            all_goals go_roundw
            all_goals first
              | exact ⟨i + 1, ad6, c6, E ++ [y.t], by omega, rfl, by simp, by rw [Hid, List.length_append, List.map_append]; exact ho6, b6, HE2, HOK2⟩
              | (simp [intOf]; omega)
    · have hlti : ¬ (i : Int) < (G.length : Int) := by omega
      have hil : i = G.length := by omega
      have HEE : Hid (E = ends x.id t G) := by have := hE.out; rw [hil, List.take_length] at this; exact this
      have hall : ∀ y ∈ G, gvB y = true := fun y hy => by
        obtain ⟨j, hj⟩ := List.getElem?_of_mem hy
        exact hok.out j y (by have := get_lt' hj; omega) hj
      have HA := hidden hall
      have HRR := hidden (HR2.out hall)
      have HI := hidden (ownN_irw ho.out)
      have hEl : E.length ≤ 501 := by rw [HEE.out]; have := ends_len x.id t G; omega
      have HZ : Hid (∀ z ∈ E, t ≤ z ∧ z ≤ t + 1439) := fun z hz => by rw [HEE.out] at hz; exact ends_in hz
      clear hE hok hall ho HR2 HRN
      obtain ⟨w7, hw7⟩ : ∃ w7, w7 = wr := ⟨_, rfl⟩
      subst hw7
      go_wp2_with fail
      go_loopw [12, 13, 14, 15] (fun mv kv _ _ wo => ∃ (k : Nat) (M : Int), k ≤ E.length ∧ kv = .int .i64 k ∧ mv = .int .i64 M ∧ 0 ≤ M ∧ M ≤ 501000000000 ∧ Hid (Below w7.heap.size w7 wo) ∧ Hid (M = big ((E.take k).map (day x.id a G)))) (fun _ kv _ _ _ => E.length - (intOf kv).toNat)
      case atStart => exact ⟨0, 0, Nat.zero_le _, rfl, rfl, by omega, by omega, Below.refl _ _, rfl⟩
      case round =>
        obtain ⟨k, M, hk, rfl, rfl, hM0, hM1, hbo, hM⟩ := hrel
        by_cases hkl : k < E.length
        · have hkli : (k : Int) < (E.length : Int) := by omega
          obtain ⟨z, hz⟩ := some_of E k hkl
          obtain ⟨ge, offe, hade, hge, hce⟩ := HI.out.at hz
          subst hade
          have HCE := hidden (fun W (hW : Below w7.heap.size w7 W) => ((hW.cell (p := ⟨ge, offe + k, none⟩) hge).trans (hce k z hz)))
          obtain ⟨z0, z1⟩ := HZ.out z (List.mem_of_getElem? hz)
          have HM2 := hidden (big_takeI (day x.id a G) hz)
          clear hce hz
          obtain ⟨w8, hw8⟩ : ∃ w8, w8 = wr := ⟨_, rfl⟩
          subst hw8
          go_wp2_with fail
          go_loopw [14, 15] (fun sv iv wr => ∃ (i : Nat) (s : Int), i ≤ G.length ∧ iv = .int .i64 i ∧ sv = .int .i64 s ∧ 0 ≤ s ∧ s ≤ 1000000000 * ((i : Int) + 1) ∧ Hid (Below w7.heap.size w7 wr) ∧ Hid (s = day x.id a (G.take i) z)) (fun _ iv _ => G.length - (intOf iv).toNat)
          case atStart => exact ⟨0, a, Nat.zero_le _, rfl, rfl, by omega, by omega, hbo, by rw [Hid]; simp [day, mine, sumN]⟩
          case round =>
            clear hbo
            obtain ⟨i, s, hi, rfl, rfl, hs0, hs1, hbx, hs⟩ := hrel
            by_cases hlt2 : i < G.length
            · have hlt2i : (i : Int) < (G.length : Int) := by omega
              obtain ⟨y, hy⟩ := some_of G i hlt2
              have HBX := hidden (hb.out.trans (hbx.out.mono hb.out.size))
              obtain ⟨g1, off1, hao, hg1, hcs⟩ := (HL.out _ HBX.out).at hy
              subst hao
              have c0 : wr.cell? ⟨g1, off1 + i * 3, none⟩ = some (.int .i64 y.d) := hcs 0 (by omega)
              have c1 : wr.cell? ⟨g1, off1 + i * 3 + 1, none⟩ = some (.int .i64 y.t) := hcs 1 (by omega)
              have c2 : wr.cell? ⟨g1, off1 + i * 3 + 2, none⟩ = some (.int .i64 y.n) := hcs 2 (by omega)
              have c9 := HCE.out _ hbx.out
              obtain ⟨p0, p1, p2, p3, p4, p5⟩ := (HPX.out.below HBX.out).six
              have hyn : 1 ≤ y.n ∧ y.n ≤ 1000000000 := by
                have hp := HA.out y (List.mem_of_getElem? hy)
                simp only [gvB, Bool.and_eq_true, rng_iff] at hp
                exact hp.2.2
              have HY := hidden hy
              clear hy hcs
              have hK := fun W => (lin_any y.t (z - 1439) z W).mono (fun e w' (h : _ ∧ _) => (⟨h.1, h.2.symm⟩ : _ ∧ w' = W))
              cases hq : (y.d == x.id) with
              | false =>
                have HS2 : Hid (s = day x.id a (G.take (i + 1)) z) := by rw [Hid, day_no HY.out (Or.inl hq)]; exact hs.out
                clear hs
                go_wp2_with fail
                go_quiet ((go_at_call 34; exact Calls.quiet_of_same (hK _)))
                all_goals go_wp2_with fail
                all_goals go_roundw
                all_goals first
                  | exact ⟨i + 1, s, by omega, rfl, rfl, by omega, by omega, hbx.out.trans (Below.mono (show Below wr.heap.size wr _ from by repeat (first | exact Below.refl _ _ | assumption | refine st_drew ?_ | refine st_drewN ?_ _ | refine Below.setCell ?_ (by first | omega | (simp; done) | (simp; omega)) _ | refine Below.alloc ?_ (by first | omega | (simp; done) | (simp; omega)) _)) hbx.out.size), HS2⟩
                  | (simp [intOf]; omega)
              | true =>
                cases hw : rng y.t (z - 1439) z with
                | false =>
                  rw [hw] at hK
                  have HS2 : Hid (s = day x.id a (G.take (i + 1)) z) := by rw [Hid, day_no HY.out (Or.inr hw)]; exact hs.out
                  clear hs hw
                  go_wp2_with fail
                  go_quiet ((go_at_call 34; exact Calls.quiet_of_same (hK _)))
                  all_goals go_wp2_with fail
                  all_goals go_roundw
                  all_goals first
                    | exact ⟨i + 1, s, by omega, rfl, rfl, by omega, by omega, hbx.out.trans (Below.mono (show Below wr.heap.size wr _ from by repeat (first | exact Below.refl _ _ | assumption | refine st_drew ?_ | refine st_drewN ?_ _ | refine Below.setCell ?_ (by first | omega | (simp; done) | (simp; omega)) _ | refine Below.alloc ?_ (by first | omega | (simp; done) | (simp; omega)) _)) hbx.out.size), HS2⟩
                    | (simp [intOf]; omega)
                | true =>
                  rw [hw] at hK
                  have HS2 : Hid (s + y.n = day x.id a (G.take (i + 1)) z) := by rw [Hid, day_yes HY.out hq hw, hs.out]
                  clear hs hw
                  go_wp2_with fail
                  go_quiet ((go_at_call 34; exact Calls.quiet_of_same (hK _)))
                  all_goals go_wp2_with fail
                  all_goals go_roundw
                  all_goals first
                    | exact ⟨i + 1, s + y.n, by omega, rfl, rfl, by omega, by omega, hbx.out.trans (Below.mono (show Below wr.heap.size wr _ from by repeat (first | exact Below.refl _ _ | assumption | refine st_drew ?_ | refine st_drewN ?_ _ | refine Below.setCell ?_ (by first | omega | (simp; done) | (simp; omega)) _ | refine Below.alloc ?_ (by first | omega | (simp; done) | (simp; omega)) _)) hbx.out.size), HS2⟩
                    | (simp [intOf]; omega)
            · have hlt2i : ¬ (i : Int) < (G.length : Int) := by omega
              have hil2 : i = G.length := by omega
              have HS2 : Hid (max M s = big ((E.take (k + 1)).map (day x.id a G))) := by
                have := hs.out
                rw [hil2, List.take_length] at this
                rw [Hid, HM2.out, ← hM.out, this]
              clear hs HM2 hM
              go_wp2_with fail
              refine (kmax _ _ _).mono ?_
              rintro e w9 ⟨rfl, rfl⟩
              go_wp2_with fail
              go_roundw
              case rel => exact ⟨k + 1, max M s, by omega, rfl, rfl, by omega, by omega, hbx, HS2⟩
              case measure => simp [intOf]; omega
        · have hkli : ¬ (k : Int) < (E.length : Int) := by omega
          have hkl2 : k = E.length := by omega
          have HMM : Hid (M = big ((ends x.id t G).map (day x.id a G))) := by
            have := hM.out
            rw [hkl2, List.take_length, HEE.out] at this
            exact this
          have HBO := hidden (hb.out.trans (hbo.out.mono hb.out.size))
          obtain ⟨p0, p1, p2, p3, p4, p5⟩ := (HPX.out.below HBO.out).six
          have HRF : Hid (R = if M ≤ x.day then (true, 0) else (false, M)) := by rw [Hid, HRR.out, ← HMM.out]
          clear hM HRR HMM
          by_cases hle : M ≤ x.day
          · go_wp2_with fail
            go_ret2
            exact ⟨by rw [HRF.out, if_pos hle]; rfl, onto HB.out HBO.out⟩
          · go_wp2_with fail
            go_ret2
            exact ⟨by rw [HRF.out, if_neg (by omega)]; rfl, onto HB.out HBO.out⟩
end Go.Proofs.Ytcnhogghfedcdaa
