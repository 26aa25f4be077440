/-
  Merged: Pk17.
-/
import Derived.Test.YtgcpiinmcbdkmaaMh20
import Derived.Test.YtgcpiinmcbdkmaaMh24
import Derived.Test.YtgcpiinmcbdkmaaMh21
import Derived.Test.YtgcpiinmcbdkmaaMh25
import Derived.Test.YtgcpiinmcbdkmaaMh28
import Derived.Lib.MinMax
namespace Go.Proofs.Ytgcpiinmcbdkmaa
open Go.RowKit Va Bl Pq
set_option linter.all false
theorem own_cutK {w : World} {b e s G n c k : Nat} {xs : List Value} (h : w.ownsRow b e s (.slice (some ⟨G, 0, none⟩) n c) n xs) (hk : k ≤ n) : w.ownsRow b e s (.slice (some ⟨G, 0, none⟩) k c) k (xs.take (k * s)) := by
  obtain ⟨q, ⟨h1, _⟩ | ⟨g, cap, cur, h1, hb, hg, hc, hm, hs, ht⟩⟩ := h
  · cases h1
  · simp only [Value.slice.injEq, Option.some.injEq, Addr.mk.injEq, and_true, true_and] at h1
    obtain ⟨rfl, rfl⟩ := h1
    have hns : k * s ≤ n * s := Nat.mul_le_mul_right s hk
    refine ⟨by rw [List.length_take, q]; omega, .inr ⟨G, c, cur, rfl, hb, hg, Nat.le_trans hk hc, hm, hs, ?_⟩⟩
    rw [← ht, List.take_take, Nat.min_eq_left hns]
theorem cellsU_take (l : List UE) : ∀ k, (cellsU l).take (k * 6) = cellsU (l.take k) := by
  induction l with
  | nil => intro k; simp [cellsU]
  | cons p l ih =>
    intro k
    cases k with
    | zero => simp [cellsU]
    | succ k =>
      have hq : (cells6 p).length = 6 := rfl
      show (cells6 p ++ cellsU l).take ((k + 1) * 6) = cells6 p ++ cellsU (l.take k)
      rw [List.take_append, hq, show (k + 1) * 6 - 6 = k * 6 by omega, ih k, List.take_of_length_le (by rw [hq]; omega)]
def InU (M : List UE) (z : UE) : Prop := z ∈ M
theorem fine_in {M : List UE} (n : Nd) (h : Apt (M.map Prod.fst)) : Fine (ltU n) (InU M) M := by
  have hp : M.Pairwise (fun a b => a.1.id ≠ b.1.id) := (List.pairwise_map (R := fun a b : Ut => a.id ≠ b.id)).1 h
  refine ⟨⟨fun x y h1 h2 => bef_asymm h1 h2, fun x y z h1 h2 => bef_trans h1 h2, fun x y hx hy hne => ?_⟩, ?_, fun x hx => hx⟩
  · have hid : x.1.id ≠ y.1.id := by
      obtain ⟨i, hi⟩ := List.getElem?_of_mem hx
      obtain ⟨j, hj⟩ := List.getElem?_of_mem hy
      obtain ⟨p1, q1⟩ := List.getElem?_eq_some_iff.1 hi
      obtain ⟨p2, q2⟩ := List.getElem?_eq_some_iff.1 hj
      have H := List.pairwise_iff_getElem.1 hp
      rcases Nat.lt_trichotomy i j with c | c | c
      · have := H i j p1 p2 c; rwa [q1, q2] at this
      · subst c; exact absurd (q1.symm.trans q2) hne
      · have := H j i p2 p1 c; rw [q1, q2] at this; exact fun e => this e.symm
    by_cases c : befB n x.1 y.1 = true
    · exact Or.inl c
    · exact Or.inr (bef_tot hid c)
  · exact hp.imp (fun h e => h (by rw [e]))
theorem so_ord {n : Nd} {d : List UE} (h : SO (ltU n) 0 d.length d) : Ord n (d.map Prod.fst) := by
  refine ord_of_at fun i j hij hj => ?_
  rw [List.length_map] at hj
  have := h i j (Nat.zero_le _) hij hj
  have e : ∀ k, k < d.length → at' (d.map Prod.fst) k = (at' d k).1 := fun k hk => at_of (by rw [List.getElem?_map, at_some hk]; rfl)
  rw [e i (by omega), e j hj]
  exact this
theorem pick_no {l : List Ut} {n : Nd} {t c : Int} (h : pickB l n t c ≠ true) : pick l n t c = [] := by unfold pick; rw [if_neg h]
theorem pick_yes {l : List Ut} {n : Nd} {t c : Int} {M d : List UE} (h : pickB l n t c = true) (hM : M.map Prod.fst = l.filter (mayB n t)) (hp : d.Perm M) (ho : Ord n (d.map Prod.fst)) :
    (d.take c.toNat).map (fun p => p.1.id) = pick l n t c := by
  have hb : bankB l = true := by unfold pickB at h; simp only [Bool.and_eq_true] at h; exact h.1
  have hA := (bank_apt hb).filter (mayB n t)
  have e := ordL_eq hA (by rw [← hM]; exact hp.map Prod.fst) ho
  unfold pick
  rw [if_pos h, haveL, ← e, ← List.map_take, List.map_map]
  rfl
theorem pickB_iff {l : List Ut} {n : Nd} {t c : Int} : pickB l n t c = true ↔ bankB l = true ∧ needB n = true ∧ tmv t = true ∧ 0 ≤ c ∧ c ≤ 100 := by
  unfold pickB
  simp only [Bool.and_eq_true]
  rw [rng_iff]
set_option maxRecDepth 20000 in
set_option maxHeartbeats 8000000 in
theorem ipick_no (ao : Option Addr) (len cap : Nat) (l : List Ut) (n : Nd) (na : Option Addr) (nn nc : Nat) (t c : Int) (w : World) (h : URw w (.slice ao len cap) l) (hn : l.length ≤ 1048576) (ht : ∀ x ∈ l, x.ant.length ≤ 1048576) (h' : IRw w (.slice na nn nc) n.ag) (hn' : n.ag.length ≤ 1048576) (hno : pickB l n t c ≠ true) :
    Calls Try.prog 10 #[.slice ao len cap, aN n (.slice na nn nc), .int .i64 t, .int .i64 c] w fun e w' => ∃ (ad : Option Addr) (k : Nat), e = .returned (.slice ad (pick l n t c).length k) ∧ w'.ownsRow w.heap.size 2 1 (.slice ad (pick l n t c).length k) (pick l n t c).length (intsV (pick l n t c)) ∧ Below w.heap.size w w' := by
  obtain rfl := h.len
  have hK1 := hidden (fun W hW => ibank_any ao l.length cap l W hW hn ht)
  have hK2 := hidden (fun W hW => ineed_any n na nn nc W hW hn')
  have hK3 := hidden (itime_any t)
  have b0 : Below w.heap.size w (w.alloc (.cells #[.int .i64 n.p, .int .i64 n.g, .slice na nn nc] 27)) := by repeat (first | exact Below.refl _ _ | assumption | refine st_drew ?_ | refine st_drewN ?_ _ | refine Below.setCell ?_ (by first | omega | (simp; done) | (simp; omega)) _ | refine Below.alloc ?_ (by first | omega | (simp; done) | (simp; omega)) _)
  have PN := hidden (PB.new w #[.int .i64 n.p, .int .i64 n.g, .slice na nn nc] 27)
  have HH := hidden (fun W (hW : Below w.heap.size w W) => h.below hW)
  have HN := hidden (fun W (hW : Below w.heap.size w W) => h'.below hW)
  have HT := hidden ht
  have HAS := HN.out w (Below.refl _ _)
  clear h h' ht
  have HNO := hidden hno
  rw [Ne, pickB_iff] at hno
  by_cases g1 : bankB l = true
  · rw [g1] at hK1
    by_cases g2 : needB n = true
    · rw [g2] at hK2
      by_cases g3 : tmv t = true
      · rw [g3] at hK3
        by_cases g4 : c < 0
        · clear hno g1 g2 g3
          have HE := hidden (pick_no HNO.out)
          rw [HE.out]
          unfold aN at *
          go_enter Try.func10, Try.ntmps10
          go_wp2_with (first
            | (go_at_call 41; refine (hK1.out _ (HH.out _ b0)).mono ?_; rintro e w1 ⟨rfl, hb1⟩; have bA := onto b0 hb1; have PN1 := PN.out.below hb1; obtain ⟨p0, p1, p2⟩ := PN1.three; have z1 := bA.size; clear hb1)
            | (go_at_call 42; refine (hK2.out _ (HN.out _ bA)).mono ?_; rintro e w2 ⟨rfl, hb2⟩; have bB := onto bA hb2; have z2 := bB.size; clear hb2)
            | (go_at_call 43; (with_reducible refine (hK3.out _).mono ?_); rintro e w3 ⟨rfl, rfl⟩))
          go_ret
          exact ⟨_, _, rfl, ownW_base (ownW_new _ 2 1) (by omega), by repeat (first | exact Below.refl _ _ | assumption | refine st_drew ?_ | refine st_drewN ?_ _ | refine Below.setCell ?_ (by first | omega | (simp; done) | (simp; omega)) _ | refine Below.alloc ?_ (by first | omega | (simp; done) | (simp; omega)) _)⟩
        · have g5 : 100 < c := Int.not_le.1 (fun q => hno ⟨g1, g2, g3, by omega, q⟩)
          clear hno g1 g2 g3
          have HE := hidden (pick_no HNO.out)
          rw [HE.out]
          unfold aN at *
          go_enter Try.func10, Try.ntmps10
          go_wp2_with (first
            | (go_at_call 41; refine (hK1.out _ (HH.out _ b0)).mono ?_; rintro e w1 ⟨rfl, hb1⟩; have bA := onto b0 hb1; have PN1 := PN.out.below hb1; obtain ⟨p0, p1, p2⟩ := PN1.three; have z1 := bA.size; clear hb1)
            | (go_at_call 42; refine (hK2.out _ (HN.out _ bA)).mono ?_; rintro e w2 ⟨rfl, hb2⟩; have bB := onto bA hb2; have z2 := bB.size; clear hb2)
            | (go_at_call 43; (with_reducible refine (hK3.out _).mono ?_); rintro e w3 ⟨rfl, rfl⟩))
          go_ret
          exact ⟨_, _, rfl, ownW_base (ownW_new _ 2 1) (by omega), by repeat (first | exact Below.refl _ _ | assumption | refine st_drew ?_ | refine st_drewN ?_ _ | refine Below.setCell ?_ (by first | omega | (simp; done) | (simp; omega)) _ | refine Below.alloc ?_ (by first | omega | (simp; done) | (simp; omega)) _)⟩
      · rw [Bool.not_eq_true] at g3
        rw [g3] at hK3
        clear hno g1 g2 g3
        have HE := hidden (pick_no HNO.out)
        rw [HE.out]
        unfold aN at *
        go_enter Try.func10, Try.ntmps10
        go_wp2_with (first
          | (go_at_call 41; refine (hK1.out _ (HH.out _ b0)).mono ?_; rintro e w1 ⟨rfl, hb1⟩; have bA := onto b0 hb1; have PN1 := PN.out.below hb1; obtain ⟨p0, p1, p2⟩ := PN1.three; have z1 := bA.size; clear hb1)
          | (go_at_call 42; refine (hK2.out _ (HN.out _ bA)).mono ?_; rintro e w2 ⟨rfl, hb2⟩; have bB := onto bA hb2; have z2 := bB.size; clear hb2)
          | (go_at_call 43; (with_reducible refine (hK3.out _).mono ?_); rintro e w3 ⟨rfl, rfl⟩))
        go_ret
        exact ⟨_, _, rfl, ownW_base (ownW_new _ 2 1) (by omega), by repeat (first | exact Below.refl _ _ | assumption | refine st_drew ?_ | refine st_drewN ?_ _ | refine Below.setCell ?_ (by first | omega | (simp; done) | (simp; omega)) _ | refine Below.alloc ?_ (by first | omega | (simp; done) | (simp; omega)) _)⟩
    · rw [Bool.not_eq_true] at g2
      rw [g2] at hK2
      clear hno g1 g2
      have HE := hidden (pick_no HNO.out)
      rw [HE.out]
      unfold aN at *
      go_enter Try.func10, Try.ntmps10
      go_wp2_with (first
        | (go_at_call 41; refine (hK1.out _ (HH.out _ b0)).mono ?_; rintro e w1 ⟨rfl, hb1⟩; have bA := onto b0 hb1; have PN1 := PN.out.below hb1; obtain ⟨p0, p1, p2⟩ := PN1.three; have z1 := bA.size; clear hb1)
        | (go_at_call 42; refine (hK2.out _ (HN.out _ bA)).mono ?_; rintro e w2 ⟨rfl, hb2⟩; have bB := onto bA hb2; have z2 := bB.size; clear hb2)
        | (go_at_call 43; (with_reducible refine (hK3.out _).mono ?_); rintro e w3 ⟨rfl, rfl⟩))
      go_ret
      exact ⟨_, _, rfl, ownW_base (ownW_new _ 2 1) (by omega), by repeat (first | exact Below.refl _ _ | assumption | refine st_drew ?_ | refine st_drewN ?_ _ | refine Below.setCell ?_ (by first | omega | (simp; done) | (simp; omega)) _ | refine Below.alloc ?_ (by first | omega | (simp; done) | (simp; omega)) _)⟩
  · rw [Bool.not_eq_true] at g1
    rw [g1] at hK1
    clear hno g1
    have HE := hidden (pick_no HNO.out)
    rw [HE.out]
    unfold aN at *
    go_enter Try.func10, Try.ntmps10
    go_wp2_with (first
      | (go_at_call 41; refine (hK1.out _ (HH.out _ b0)).mono ?_; rintro e w1 ⟨rfl, hb1⟩; have bA := onto b0 hb1; have PN1 := PN.out.below hb1; obtain ⟨p0, p1, p2⟩ := PN1.three; have z1 := bA.size; clear hb1)
      | (go_at_call 42; refine (hK2.out _ (HN.out _ bA)).mono ?_; rintro e w2 ⟨rfl, hb2⟩; have bB := onto bA hb2; have z2 := bB.size; clear hb2)
      | (go_at_call 43; (with_reducible refine (hK3.out _).mono ?_); rintro e w3 ⟨rfl, rfl⟩))
    go_ret
    exact ⟨_, _, rfl, ownW_base (ownW_new _ 2 1) (by omega), by repeat (first | exact Below.refl _ _ | assumption | refine st_drew ?_ | refine st_drewN ?_ _ | refine Below.setCell ?_ (by first | omega | (simp; done) | (simp; omega)) _ | refine Below.alloc ?_ (by first | omega | (simp; done) | (simp; omega)) _)⟩
set_option maxRecDepth 20000 in
set_option maxHeartbeats 16000000 in
theorem ipick_yes (ao : Option Addr) (len cap : Nat) (l : List Ut) (n : Nd) (na : Option Addr) (nn nc : Nat) (t c : Int) (w : World) (h : URw w (.slice ao len cap) l) (hn : l.length ≤ 1048576) (ht : ∀ x ∈ l, x.ant.length ≤ 1048576) (h' : IRw w (.slice na nn nc) n.ag) (hn' : n.ag.length ≤ 1048576) (hyes : pickB l n t c = true) :
    Calls Try.prog 10 #[.slice ao len cap, aN n (.slice na nn nc), .int .i64 t, .int .i64 c] w fun e w' => ∃ (ad : Option Addr) (k : Nat), e = .returned (.slice ad (pick l n t c).length k) ∧ w'.ownsRow w.heap.size 2 1 (.slice ad (pick l n t c).length k) (pick l n t c).length (intsV (pick l n t c)) ∧ Below w.heap.size w w' := by
  obtain rfl := h.len
  have hK1 := hidden (fun W hW => ibank_any ao l.length cap l W hW hn ht)
  have hK2 := hidden (fun W hW => ineed_any n na nn nc W hW hn')
  have hK3 := hidden (itime_any t)
  have b0 : Below w.heap.size w (w.alloc (.cells #[.int .i64 n.p, .int .i64 n.g, .slice na nn nc] 27)) := by repeat (first | exact Below.refl _ _ | assumption | refine st_drew ?_ | refine st_drewN ?_ _ | refine Below.setCell ?_ (by first | omega | (simp; done) | (simp; omega)) _ | refine Below.alloc ?_ (by first | omega | (simp; done) | (simp; omega)) _)
  have PN := hidden (PB.new w #[.int .i64 n.p, .int .i64 n.g, .slice na nn nc] 27)
  have HH := hidden (fun W (hW : Below w.heap.size w W) => h.below hW)
  have HN := hidden (fun W (hW : Below w.heap.size w W) => h'.below hW)
  have HT := hidden ht
  have HAS := HN.out w (Below.refl _ _)
  clear h h' ht
  have HYES := hidden hyes
  obtain ⟨g1, g2, g3, g4, g5⟩ := pickB_iff.1 hyes
  rw [g1] at hK1
  rw [g2] at hK2
  rw [g3] at hK3
  have hl3 := bank_len g1
  have HB1 := hidden g1
  have HGN : Hid (0 ≤ n.g ∧ n.g ≤ 7) := by
    have := g2; unfold needB at this; simp only [Bool.and_eq_true, rng_iff] at this; exact this.2.1
  have HGU : Hid (∀ x ∈ l, 0 ≤ x.grp ∧ x.grp ≤ 7) := fun x hx => by
    have := g1; unfold bankB at this; rw [Bool.and_eq_true] at this
    have := ris_ok this.2 x hx; unfold unitB at this; simp only [Bool.and_eq_true, rng_iff] at this; exact this.2.1
  have g4' : ¬ c < 0 := by omega
  have g5' : ¬ 100 < c := by omega
  have hJ := fun W hW => bankof_any ao l.length cap l W hW hl3 HT.out
  have ho0 := fun W => ownW_new W 81 6
  obtain ⟨j0, hj0, hy0, hy1, hy2⟩ := info_partsW infoUq
  clear hyes g1 g2 g3
  unfold aN at *
  go_enter Try.func10, Try.ntmps10
  go_wp2_with (first
    | (go_at_call 41; refine (hK1.out _ (HH.out _ b0)).mono ?_; rintro e w1 ⟨rfl, hb1⟩; have bA := onto b0 hb1; have PN1 := hidden (PN.out.below hb1); obtain ⟨p0, p1, p2⟩ := PN1.out.three; have z1 := hb1.size; simp only [World.size_alloc] at z1; clear hb1)
    | (go_at_call 42; refine (hK2.out _ (HN.out _ bA)).mono ?_; rintro e w2 ⟨rfl, hb2⟩; have bB := onto bA hb2; have z2 := bB.size; have y2 := hb2.size; have PN2 := hidden (PN1.out.below hb2); have O2 := hidden (ho0 w2); clear hb2)
    | (go_at_call 43; (with_reducible refine (hK3.out _).mono ?_); rintro e w3 ⟨rfl, rfl⟩)
    | fail)
  have hJ4 := hJ _ (HH.out _ (show Below w.heap.size w (w3.alloc (.cells #[] 81)) from by repeat (first | exact Below.refl _ _ | assumption | refine st_drew ?_ | refine st_drewN ?_ _ | refine Below.setCell ?_ (by first | omega | (simp; done) | (simp; omega)) _ | refine Below.alloc ?_ (by first | omega | (simp; done) | (simp; omega)) _)))
  refine hJ4.mono ?_
  rintro e w4 ⟨L, ab, cb, rfl, hLl, hob, hAn, hb4⟩
  have z4 := hb4.size
  simp only [World.size_alloc] at z4
  have bD := onto (show Below w.heap.size w (w3.alloc (.cells #[] 81)) from by repeat (first | exact Below.refl _ _ | assumption | refine st_drew ?_ | refine st_drewN ?_ _ | refine Below.setCell ?_ (by first | omega | (simp; done) | (simp; omega)) _ | refine Below.alloc ?_ (by first | omega | (simp; done) | (simp; omega)) _)) hb4
  have HL4 := hidden (ownW_base (b' := w.heap.size + 1) hob (by simp only [World.size_alloc]; omega))
  have HA4 := hidden (hAn.base (b := w.heap.size + 1) (by simp only [World.size_alloc]; omega))
  have HM4 := hidden (ownW_below (ownW_base (b' := w.heap.size + 1) O2.out (by omega)) hb4)
  have PN4 := hidden ((PN2.out.below (show Below w3.heap.size w3 (w3.alloc (.cells #[] 81)) from by repeat (first | exact Below.refl _ _ | assumption | refine st_drew ?_ | refine st_drewN ?_ _ | refine Below.setCell ?_ (by first | omega | (simp; done) | (simp; omega)) _ | refine Below.alloc ?_ (by first | omega | (simp; done) | (simp; omega)) _))).below hb4)
  have hLn : L.length = l.length := by rw [← hLl, List.length_map]
  have HLN := hidden hLn
  have hLn3 : L.length ≤ 300 := by omega
  have HLl := hidden hLl
  clear hLn hLl hob hAn hb4 hJ4 hJ O2 PN2 bB bA b0 PN
  go_wp2_with fail
  go_loopw [9, 11, 38] (fun sv _ iv wr => ∃ i : Nat, i ≤ L.length ∧ iv = .int .i64 i ∧ (∃ (M : List UE) (G k : Nat), sv = .slice (some ⟨G, 0, none⟩) M.length k ∧ wr.ownsRow (w.heap.size + 1) 81 6 (.slice (some ⟨G, 0, none⟩) M.length k) M.length (cellsU M) ∧ Hid (M.map Prod.fst = (l.take i).filter (mayB n t)) ∧ M.length ≤ i ∧ Hid (∀ p ∈ M, p ∈ L)) ∧ Hid (wr.ownsRow (w.heap.size + 1) 78 1 (.slice ab L.length cb) L.length (L.map aI)) ∧ Hid (Antis wr (w.heap.size + 1) L) ∧ Hid (PB wr w.heap.size #[.int .i64 n.p, .int .i64 n.g, .slice na nn nc] 27) ∧ Below w.heap.size w wr) (fun _ _ iv _ => L.length - (intOf iv).toNat)
  case atStart => exact ⟨0, Nat.zero_le _, rfl, ⟨[], _, _, rfl, HM4.out, rfl, Nat.le_refl _, fun p hp => by cases hp⟩, HL4, HA4, PN4, bD⟩
  case round =>
    clear HL4 HA4 HM4 PN4 bD
    obtain ⟨i, hi, rfl, ⟨M, G, k, rfl, ho, HM, hMi, HMin⟩, HL, HA, PNr, hb⟩ := hrel
    have HO := hidden ho
    have hGw := hidden ((ownW_lt ho G rfl).1)
    have hsz := hb.size
    obtain ⟨p0, p1, p2⟩ := PNr.out.three
    clear ho
    by_cases hlt : i < L.length
    · have hlti : (i : Int) < (L.length : Int) := by omega
      obtain ⟨⟨x, tv⟩, hx⟩ := some_of L i hlt
      have hxm := List.mem_of_getElem? hx
      obtain ⟨ta, tc, htv⟩ := ownW_slice (HA.out.1 _ hxm)
      dsimp only at htv
      subst htv
      have hxl : l[i]? = some x := by rw [← HLl.out, List.getElem?_map, hx]; rfl
      have hxt := HT.out x (List.mem_of_getElem? hxl)
      have hK := imay_any x ta x.ant.length tc n na nn nc t wr (HA.out.irw _ hxm) hxt (HN.out _ hb) hn'
      obtain ⟨g, c9, he, -, hg, -, u0⟩ := own_at HL.out hx
      simp only [Value.slice.injEq, true_and] at he
      obtain ⟨rfl, rfl⟩ := he
      have HN1 := hidden (filt_snoc (f := mayB n t) hxl)
      have HXM := hidden hxm
      have k2 := fun W => told_any x ta x.ant.length tc W
      have hm := fun a b c d e s W => m_told x.st a b c d e s W
      unfold aI aU at u0 hK
      unfold aN at hK
      unfold aU at k2
      dsimp only at u0 hK
      clear hx hxl hxt hxm
      by_cases hmay : mayB n t x = true
      · rw [hmay] at hK
        have HF : Hid ((M ++ [(x, Value.slice ta x.ant.length tc)]).map Prod.fst = (l.take (i + 1)).filter (mayB n t)) := by rw [Hid, HN1.out, if_pos hmay, List.map_append, HM.out]; rfl
        have HMN : Hid (∀ p ∈ M ++ [(x, Value.slice ta x.ant.length tc)], p ∈ L) := fun p hp => by
          rcases List.mem_append.1 hp with hp | hp
          · exact HMin.out p hp
          · rw [List.mem_singleton.1 hp]; exact HXM.out
        clear hmay HN1 HXM
        go_wp2_with (first
          | (go_at_call 45; refine hK.mono ?_; rintro e w6 ⟨rfl, hb6⟩; have bB := onto hb hb6; have M6 := hidden (ownW_below HO.out hb6); have L6 := hidden (ownW_below HL.out hb6); have A6 := hidden (HA.out.below hb6); have P6 := hidden (PNr.out.below hb6); have z6 := bB.size; clear hb6)
          | (go_at_call 195; refine (k2 _).mono ?_; rintro e w5 ⟨rfl, hb5⟩; have bC := onto bB hb5; have O5 := hidden (ownW_below M6.out hb5); have L5 := hidden (ownW_below L6.out hb5); have A5 := hidden (A6.out.below hb5); have P5 := hidden (P6.out.below hb5); have z5 := bC.size; clear hb5)
          | (at_builtin; refine wpList_append_own _ rfl (.tmp 46) (.tmp 49) 24 rfl (w.heap.size + 1) 81 j0 (.agg #[.int .i64 0, .int .i64 0, .slice none 0 0, .int .i64 0, .int .i64 0, .int .i64 0]) 6 64 Try.underlying24 hj0 hy0 hy1 hy2 rfl (by decide) _ M.length (cellsU M) rfl (O5.out.alloc _) ⟨w5.heap.size, 0, none⟩ 1 1 (cells6 (x, Value.slice ta x.ant.length tc)) rfl rfl (cell6U _ (x, Value.slice ta x.ant.length tc) _) (oneU _ _ _ _) (by unfold maxLen; omega) (by omega) (by simp; omega) ?_; intro v4 w4 ho4 hg4 hnn4; have hO4 := hidden ho4; obtain ⟨ad4, c4, rfl⟩ := ownW_slice ho4))
        have bX : Below w5.heap.size w5 (w5.alloc (.cells #[.int .i64 x.id, .int .i64 x.grp, .slice ta x.ant.length tc, .int .i64 x.til, .int .i64 x.st, .int .i64 x.fr] 81)) := by repeat (first | exact Below.refl _ _ | assumption | refine st_drew ?_ | refine st_drewN ?_ _ | refine Below.setCell ?_ (by first | omega | (simp; done) | (simp; omega)) _ | refine Below.alloc ?_ (by first | omega | (simp; done) | (simp; omega)) _)
        have b4 := grownQ (show Below w.heap.size w (w5.alloc (.cells #[.int .i64 x.id, .int .i64 x.grp, .slice ta x.ant.length tc, .int .i64 x.til, .int .i64 x.st, .int .i64 x.fr] 81)) from by repeat (first | exact Below.refl _ _ | assumption | refine st_drew ?_ | refine st_drewN ?_ _ | refine Below.setCell ?_ (by first | omega | (simp; done) | (simp; omega)) _ | refine Below.alloc ?_ (by first | omega | (simp; done) | (simp; omega)) _)) (by simp; omega) hg4 (fun k hk => by have := (ownW_lt O5.out k hk).1; omega)
        have L4 := hidden (ownQ_grown (ownW_below L5.out bX) hg4 (fun k hk => ownQ_apart (ownW_below L5.out bX) (ownW_below O5.out bX) (by decide) k hk))
        have A4 := hidden ((A5.out.below bX).grown (by decide) (ownW_below O5.out bX) hg4)
        have P4 := hidden ((P5.out.below bX).grownQ hg4 (fun k hk => by have := (ownW_lt O5.out k hk).1; omega))
        obtain ⟨g4, c5, he4, -⟩ := own_six (M := M ++ [(x, Value.slice ta x.ant.length tc)]) (v := .slice ad4 (M.length + 1) c4) (by rw [cellsU_app, List.length_append]; exact hO4.out) (i := M.length) (p := (x, Value.slice ta x.ant.length tc)) (by simp)
        simp only [Value.slice.injEq, List.length_append, List.length_singleton, true_and] at he4
        obtain ⟨rfl, rfl⟩ := he4
        go_roundw
        case rel => exact ⟨i + 1, by omega, rfl, ⟨M ++ [(x, .slice ta x.ant.length tc)], g4, c4, by rw [List.length_append]; rfl, by rw [cellsU_app, List.length_append]; exact hO4.out, HF, by rw [List.length_append]; simp; omega, HMN⟩, L4, A4, P4, b4⟩
        case measure => simp [intOf]; omega
      · rw [Bool.not_eq_true] at hmay
        rw [hmay] at hK
        have HF : Hid (M.map Prod.fst = (l.take (i + 1)).filter (mayB n t)) := by rw [Hid, HN1.out, hmay, if_neg (by simp), List.append_nil, HM.out]
        clear hmay HN1 HXM
        go_wp2_with (first
          | (go_at_call 45; refine hK.mono ?_; rintro e w6 ⟨rfl, hb6⟩; have bB := onto hb hb6; have M6 := hidden (ownW_below HO.out hb6); have L6 := hidden (ownW_below HL.out hb6); have A6 := hidden (HA.out.below hb6); have P6 := hidden (PNr.out.below hb6); have z6 := bB.size; clear hb6)
          | fail)
        go_roundw
        case rel => exact ⟨i + 1, by omega, rfl, ⟨M, G, k, rfl, M6.out, HF, by omega, HMin⟩, L6, A6, P6, bB⟩
        case measure => simp [intOf]; omega
    · have hlti : ¬ (i : Int) < (L.length : Int) := by omega
      have hil : i = L.length := by omega
      subst hil
      have HMF : Hid (M.map Prod.fst = l.filter (mayB n t)) := by have := HM.out; rwa [HLN.out, List.take_length] at this
      have hML : ∀ p ∈ M, p ∈ L := HMin.out
      have hMl2 : ∀ p ∈ M, p.1 ∈ l := fun p hp => by rw [← HLl.out]; exact List.mem_map_of_mem (hML p hp)
      have hS := usortfunc_any n (.slice na nn nc) (InU M) G k M.length M wr (by omega) (fun x y hx hy W => icompare_any n (.slice na nn nc) x y W (HGU.out _ (hMl2 x hx)).1 (HGU.out _ (hMl2 x hx)).2 (HGU.out _ (hMl2 y hy)).1 (HGU.out _ (hMl2 y hy)).2 HGN.out.1 HGN.out.2) (fun z hz => by obtain ⟨a1, c1, hh⟩ := ownW_slice (HA.out.1 z (hML z hz)); exact ⟨_, _, _, hh⟩) (ownW_base HO.out (Nat.zero_le _)) rfl (fine_in n (by rw [HMF.out]; exact (bank_apt HB1.out).filter _))
      have HSL : Hid (∀ p ∈ M, ∃ a n c, p.2 = .slice a n c) := fun p hp => by obtain ⟨a1, c1, hh⟩ := ownW_slice (HA.out.1 p (hML p hp)); exact ⟨_, _, _, hh⟩
      obtain ⟨cn, rfl⟩ : ∃ cn : Nat, c = cn := ⟨c.toNat, by omega⟩
      have hMl : M.length ≤ 300 := by omega
      clear hML hMl2 HM hMi HMin HL HA hlt hlti hi HLl HLN HT HH
      go_wp2_with fail
      refine hS.mono ?_
      rintro e w5 ⟨rfl, d, hsd, hpo, hso, hb5'⟩
      have hb5 : Below w.heap.size w w5 := hb.trans (hb5'.mono (by have := hGw.out; omega))
      have HDL := hidden hpo.len
      have HPM := hidden hpo.1
      have hdk : d.length ≤ k := by obtain ⟨cur, -, hk9, -⟩ := SU.blk hsd; exact hk9
      have hMk : M.length ≤ k := by have := hpo.len; omega
      have HSD := hidden hsd
      unfold SU at HSD
      have HPK := hidden (pick_yes HYES.out HMF.out hpo.1 (so_ord (by rw [hpo.len]; exact hso)))
      rw [Int.toNat_natCast] at HPK
      clear hpo hso hsd hb5' hS hdk
      rcases Nat.lt_or_ge cn M.length with hcl | hcl
      · have hlen : Hid ((d.take cn).length = cn) := by have := HDL.out; rw [Hid, List.length_take]; omega
        have hPL : Hid (pick l n t cn = (d.take cn).map (fun p => p.1.id)) := HPK.out.symm
        have hmin : min (cn : Int) (M.length : Int) = cn := by omega
        have hck : cn ≤ k := by omega
        have HPK : Hid ((pick l n t cn).length = (d.take cn).length) := by rw [Hid, hPL.out, List.length_map]
        have hI := idsof_any (.slice (some ⟨G, 0, none⟩) (cn : Nat) k) (d.take cn) 0 w5 (by rw [hlen.out, ← cellsU_take]; exact own_cutK HSD.out (by have := HDL.out; omega)) (fun p hp => HSL.out p (HPM.out.mem_iff.1 (List.mem_of_mem_take hp))) (by rw [hlen.out]; omega)
        rw [hlen.out] at hI
        go_wp2_with fail
        refine hI.mono ?_
        rintro e w6 ⟨ad, c6, rfl, ho6, hb6⟩
        have b7 := onto hb5 hb6
        have O7 := hidden (ownW_base ho6 hb5.size)
        clear ho6 hb6 hI
        go_wp2_with fail
        go_ret
        exact ⟨ad, c6, by rw [HPK.out, hlen.out]; rfl, by rw [HPK.out, hlen.out, hPL.out]; exact O7.out, b7⟩
      · have hlen : Hid ((d.take M.length).length = M.length) := by have := HDL.out; rw [Hid, List.length_take]; omega
        have hPL : Hid (pick l n t cn = (d.take M.length).map (fun p => p.1.id)) := by have := HDL.out; rw [Hid, ← HPK.out, List.take_of_length_le (by omega), List.take_of_length_le (by omega)]
        have hmin : min (cn : Int) (M.length : Int) = M.length := by omega
        have HPK : Hid ((pick l n t cn).length = (d.take M.length).length) := by rw [Hid, hPL.out, List.length_map]
        have hI := idsof_any (.slice (some ⟨G, 0, none⟩) (M.length : Nat) k) (d.take M.length) 0 w5 (by rw [hlen.out, ← cellsU_take]; exact own_cutK HSD.out (by have := HDL.out; omega)) (fun p hp => HSL.out p (HPM.out.mem_iff.1 (List.mem_of_mem_take hp))) (by rw [hlen.out]; omega)
        rw [hlen.out] at hI
        go_wp2_with fail
        refine hI.mono ?_
        rintro e w6 ⟨ad, c6, rfl, ho6, hb6⟩
        have b7 := onto hb5 hb6
        have O7 := hidden (ownW_base ho6 hb5.size)
        clear ho6 hb6 hI
        go_wp2_with fail
        go_ret
        exact ⟨ad, c6, by rw [HPK.out, hlen.out]; rfl, by rw [HPK.out, hlen.out, hPL.out]; exact O7.out, b7⟩
end Go.Proofs.Ytgcpiinmcbdkmaa
