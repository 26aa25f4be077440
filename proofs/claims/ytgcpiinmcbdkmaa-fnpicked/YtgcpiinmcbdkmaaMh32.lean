/-
  Merged: Pk20.
-/
import Derived.Test.YtgcpiinmcbdkmaaMh29
import Derived.Test.YtgcpiinmcbdkmaaMh31
import Derived.Test.YtgcpiinmcbdkmaaMh25
import Derived.Test.YtgcpiinmcbdkmaaMh23
import Derived.Maps.AppendAt
namespace Go.Proofs.Ytgcpiinmcbdkmaa
open Go.RowKit Va Bl Pq
set_option linter.all false
set_option maxRecDepth 20000 in
set_option maxHeartbeats 8000000 in
theorem spick_no (ao : Option Addr) (len cap : Nat) (l : List Ut) (n : Nd) (na : Option Addr) (nn nc : Nat) (t c : Int) (w : World) (h : URw w (.slice ao len cap) l) (hn : l.length ≤ 1048576) (ht : ∀ x ∈ l, x.ant.length ≤ 1048576) (h' : IRw w (.slice na nn nc) n.ag) (hn' : n.ag.length ≤ 1048576) (hno : pickB l n t c ≠ true) :
    Calls Try.prog 12 #[.slice ao len cap, aN n (.slice na nn nc), .int .i64 t, .int .i64 c] w fun e w' => ∃ (ad : Option Addr) (k : Nat), e = .returned (.slice ad (pick l n t c).length k) ∧ w'.ownsRow w.heap.size 2 1 (.slice ad (pick l n t c).length k) (pick l n t c).length (intsV (pick l n t c)) ∧ Below w.heap.size w w' := by
  obtain rfl := h.len
  have hK1 := hidden (fun W hW => sbank_any ao l.length cap l W hW hn ht)
  have hK2 := hidden (fun W hW => sneed_any n na nn nc W hW hn')
  have hK3 := hidden (stime_any t)
  have hK4 := hidden (lin_any c 0 100)
  have b0 : Below w.heap.size w ((w.alloc (.cells #[.int .i64 n.p, .int .i64 n.g, .slice na nn nc] 27)).alloc (.cells #[] 2)) := by repeat (first | exact Below.refl _ _ | assumption | refine st_drew ?_ | refine st_drewN ?_ _ | refine Below.setCell ?_ (by first | omega | (simp; done) | (simp; omega)) _ | refine Below.alloc ?_ (by first | omega | (simp; done) | (simp; omega)) _)
  have PN := hidden ((PB.new w #[.int .i64 n.p, .int .i64 n.g, .slice na nn nc] 27).alloc (.cells #[] 2))
  have PO := hidden (PB.new (w.alloc (.cells #[.int .i64 n.p, .int .i64 n.g, .slice na nn nc] 27)) #[] 2)
  simp only [World.size_alloc] at PO
  have HH := hidden (fun W (hW : Below w.heap.size w W) => h.below hW)
  have HN := hidden (fun W (hW : Below w.heap.size w W) => h'.below hW)
  have HT := hidden ht
  clear h h' ht
  have HNO := hidden hno
  rw [Ne, pickB_iff] at hno
  by_cases g1 : bankB l = true
  · rw [g1] at hK1
    by_cases g2 : needB n = true
    · rw [g2] at hK2
      by_cases g3 : tmv t = true
      · rw [g3] at hK3
        have g4 : rng c 0 100 = false := by rw [← Bool.not_eq_true, rng_iff]; exact fun q => hno ⟨g1, g2, g3, q⟩
        rw [g4] at hK4
        clear hno g1 g2 g3 g4
        have HE := hidden (pick_no HNO.out)
        rw [HE.out]
        unfold aN at *
        go_enter Try.func12, Try.ntmps12
        go_wp2_with (first
          | (go_at_call 49; refine (hK1.out _ (HH.out _ b0)).mono ?_; rintro e w1 ⟨rfl, hb1⟩; have bA := onto b0 hb1; have PN1 := hidden (PN.out.below hb1); have PO1 := hidden (PO.out.below hb1); obtain ⟨p0, p1, p2⟩ := PN1.out.three; have z1 := hb1.size; simp only [World.size_alloc] at z1; clear hb1)
          | (go_at_call 50; refine (hK2.out _ (HN.out _ bA)).mono ?_; rintro e w2 ⟨rfl, hb2⟩; have bB := onto bA hb2; have z2 := hb2.size; have PN2 := hidden (PN1.out.below hb2); have PO2 := hidden (PO1.out.below hb2); have O2 := hidden (ownW_new w2 81 6); clear hb2)
          | (go_at_call 51; (with_reducible refine (hK3.out _).mono ?_); rintro e w3 ⟨rfl, h3⟩; obtain rfl := h3.symm; clear h3)
          | (go_at_call 52; (with_reducible refine (hK4.out _).mono ?_); rintro e w3 ⟨rfl, rfl⟩)
          | fail)
        go_ret
        exact ⟨_, _, rfl, ownW_base (own_none PO2.out) (by omega), bB⟩
      · rw [Bool.not_eq_true] at g3
        rw [g3] at hK3
        clear hno g1 g2 g3
        have HE := hidden (pick_no HNO.out)
        rw [HE.out]
        unfold aN at *
        go_enter Try.func12, Try.ntmps12
        go_wp2_with (first
          | (go_at_call 49; refine (hK1.out _ (HH.out _ b0)).mono ?_; rintro e w1 ⟨rfl, hb1⟩; have bA := onto b0 hb1; have PN1 := hidden (PN.out.below hb1); have PO1 := hidden (PO.out.below hb1); obtain ⟨p0, p1, p2⟩ := PN1.out.three; have z1 := hb1.size; simp only [World.size_alloc] at z1; clear hb1)
          | (go_at_call 50; refine (hK2.out _ (HN.out _ bA)).mono ?_; rintro e w2 ⟨rfl, hb2⟩; have bB := onto bA hb2; have z2 := hb2.size; have PN2 := hidden (PN1.out.below hb2); have PO2 := hidden (PO1.out.below hb2); have O2 := hidden (ownW_new w2 81 6); clear hb2)
          | (go_at_call 51; (with_reducible refine (hK3.out _).mono ?_); rintro e w3 ⟨rfl, h3⟩; obtain rfl := h3.symm; clear h3)
          | (go_at_call 52; (with_reducible refine (hK4.out _).mono ?_); rintro e w3 ⟨rfl, rfl⟩)
          | fail)
        go_ret
        exact ⟨_, _, rfl, ownW_base (own_none PO2.out) (by omega), bB⟩
    · rw [Bool.not_eq_true] at g2
      rw [g2] at hK2
      clear hno g1 g2
      have HE := hidden (pick_no HNO.out)
      rw [HE.out]
      unfold aN at *
      go_enter Try.func12, Try.ntmps12
      go_wp2_with (first
        | (go_at_call 49; refine (hK1.out _ (HH.out _ b0)).mono ?_; rintro e w1 ⟨rfl, hb1⟩; have bA := onto b0 hb1; have PN1 := hidden (PN.out.below hb1); have PO1 := hidden (PO.out.below hb1); obtain ⟨p0, p1, p2⟩ := PN1.out.three; have z1 := hb1.size; simp only [World.size_alloc] at z1; clear hb1)
        | (go_at_call 50; refine (hK2.out _ (HN.out _ bA)).mono ?_; rintro e w2 ⟨rfl, hb2⟩; have bB := onto bA hb2; have z2 := hb2.size; have PN2 := hidden (PN1.out.below hb2); have PO2 := hidden (PO1.out.below hb2); have O2 := hidden (ownW_new w2 81 6); clear hb2)
        | (go_at_call 51; (with_reducible refine (hK3.out _).mono ?_); rintro e w3 ⟨rfl, h3⟩; obtain rfl := h3.symm; clear h3)
        | (go_at_call 52; (with_reducible refine (hK4.out _).mono ?_); rintro e w3 ⟨rfl, rfl⟩)
        | fail)
      go_ret
      exact ⟨_, _, rfl, ownW_base (own_none PO2.out) (by omega), bB⟩
  · rw [Bool.not_eq_true] at g1
    rw [g1] at hK1
    clear hno g1
    have HE := hidden (pick_no HNO.out)
    rw [HE.out]
    unfold aN at *
    go_enter Try.func12, Try.ntmps12
    go_wp2_with (first
      | (go_at_call 49; refine (hK1.out _ (HH.out _ b0)).mono ?_; rintro e w1 ⟨rfl, hb1⟩; have bA := onto b0 hb1; have PN1 := hidden (PN.out.below hb1); have PO1 := hidden (PO.out.below hb1); obtain ⟨p0, p1, p2⟩ := PN1.out.three; have z1 := hb1.size; simp only [World.size_alloc] at z1; clear hb1)
      | (go_at_call 50; refine (hK2.out _ (HN.out _ bA)).mono ?_; rintro e w2 ⟨rfl, hb2⟩; have bB := onto bA hb2; have z2 := hb2.size; have PN2 := hidden (PN1.out.below hb2); have PO2 := hidden (PO1.out.below hb2); have O2 := hidden (ownW_new w2 81 6); clear hb2)
      | (go_at_call 51; (with_reducible refine (hK3.out _).mono ?_); rintro e w3 ⟨rfl, h3⟩; obtain rfl := h3.symm; clear h3)
      | (go_at_call 52; (with_reducible refine (hK4.out _).mono ?_); rintro e w3 ⟨rfl, rfl⟩)
      | fail)
    go_ret
    exact ⟨_, _, rfl, ownW_base (own_none PO1.out) (by omega), bA⟩
set_option maxRecDepth 20000 in
set_option maxHeartbeats 16000000 in
theorem spick_yes (ao : Option Addr) (len cap : Nat) (l : List Ut) (n : Nd) (na : Option Addr) (nn nc : Nat) (t c : Int) (w : World) (h : URw w (.slice ao len cap) l) (hn : l.length ≤ 1048576) (ht : ∀ x ∈ l, x.ant.length ≤ 1048576) (h' : IRw w (.slice na nn nc) n.ag) (hn' : n.ag.length ≤ 1048576) (hyes : pickB l n t c = true) :
    Calls Try.prog 12 #[.slice ao len cap, aN n (.slice na nn nc), .int .i64 t, .int .i64 c] w fun e w' => ∃ (ad : Option Addr) (k : Nat), e = .returned (.slice ad (pick l n t c).length k) ∧ w'.ownsRow w.heap.size 2 1 (.slice ad (pick l n t c).length k) (pick l n t c).length (intsV (pick l n t c)) ∧ Below w.heap.size w w' := by
  obtain rfl := h.len
  have hK1 := hidden (fun W hW => sbank_any ao l.length cap l W hW hn ht)
  have hK2 := hidden (fun W hW => sneed_any n na nn nc W hW hn')
  have hK3 := hidden (stime_any t)
  have hK4 := hidden (lin_any c 0 100)
  have b0 : Below w.heap.size w ((w.alloc (.cells #[.int .i64 n.p, .int .i64 n.g, .slice na nn nc] 27)).alloc (.cells #[] 2)) := by repeat (first | exact Below.refl _ _ | assumption | refine st_drew ?_ | refine st_drewN ?_ _ | refine Below.setCell ?_ (by first | omega | (simp; done) | (simp; omega)) _ | refine Below.alloc ?_ (by first | omega | (simp; done) | (simp; omega)) _)
  have PN := hidden ((PB.new w #[.int .i64 n.p, .int .i64 n.g, .slice na nn nc] 27).alloc (.cells #[] 2))
  have PO := hidden (PB.new (w.alloc (.cells #[.int .i64 n.p, .int .i64 n.g, .slice na nn nc] 27)) #[] 2)
  simp only [World.size_alloc] at PO
  have HH := hidden (fun W (hW : Below w.heap.size w W) => h.below hW)
  have HN := hidden (fun W (hW : Below w.heap.size w W) => h'.below hW)
  have HT := hidden ht
  clear h h' ht
  have HYES := hidden hyes
  obtain ⟨g1, g2, g3, g4, g5⟩ := pickB_iff.1 hyes
  have hrg : rng c 0 100 = true := by rw [rng_iff]; omega
  rw [g1] at hK1
  rw [g2] at hK2
  rw [g3] at hK3
  rw [hrg] at hK4
  have hl3 := bank_len g1
  have HB1 := hidden g1
  obtain ⟨j0, hj0, hy0, hy1, hy2⟩ := info_partsW infoUq
  clear hyes g1 g2 g3 hrg
  unfold aN at *
  go_enter Try.func12, Try.ntmps12
  go_wp2_with (first
    | (go_at_call 49; refine (hK1.out _ (HH.out _ b0)).mono ?_; rintro e w1 ⟨rfl, hb1⟩; have bA := onto b0 hb1; have PN1 := hidden (PN.out.below hb1); have PO1 := hidden (PO.out.below hb1); obtain ⟨p0, p1, p2⟩ := PN1.out.three; have z1 := hb1.size; simp only [World.size_alloc] at z1; clear hb1)
    | (go_at_call 50; refine (hK2.out _ (HN.out _ bA)).mono ?_; rintro e w2 ⟨rfl, hb2⟩; have bB := onto bA hb2; have z2 := hb2.size; have PN2 := hidden (PN1.out.below hb2); have PO2 := hidden (PO1.out.below hb2); have O2 := hidden (ownW_new w2 81 6); clear hb2)
    | (go_at_call 51; (with_reducible refine (hK3.out _).mono ?_); rintro e w3 ⟨rfl, h3⟩; obtain rfl := h3.symm; clear h3)
    | (go_at_call 52; (with_reducible refine (hK4.out _).mono ?_); rintro e w3 ⟨rfl, rfl⟩)
    | fail)
  go_loopw [10, 11, 12, 13] (fun sv iv _ _ wr => ∃ i : Nat, i ≤ l.length ∧ iv = .int .i64 i ∧ (∃ (M : List UE) (G k : Nat), sv = .slice (some ⟨G, 0, none⟩) M.length k ∧ Hid (wr.ownsRow (w.heap.size + 2) 81 6 (.slice (some ⟨G, 0, none⟩) M.length k) M.length (cellsU M)) ∧ Hid (Ord n (M.map Prod.fst)) ∧ Hid ((M.map Prod.fst).Perm ((l.take i).filter (mayB n t))) ∧ M.length ≤ i ∧ Hid (∀ p ∈ M, ∃ a n c, p.2 = .slice a n c)) ∧ Hid (PB wr w.heap.size #[.int .i64 n.p, .int .i64 n.g, .slice na nn nc] 27) ∧ Hid (PB wr (w.heap.size + 1) #[] 2) ∧ w.heap.size + 2 ≤ wr.heap.size ∧ Below w.heap.size w wr) (fun _ iv _ _ _ => l.length - (intOf iv).toNat)
  case atStart => exact ⟨0, Nat.zero_le _, rfl, ⟨[], _, _, rfl, ownW_base O2.out (by omega), List.Pairwise.nil, List.Perm.refl _, Nat.le_refl _, fun p hp => by cases hp⟩, PN2.out.alloc _, PO2.out.alloc _, by simp; omega, by repeat (first | exact Below.refl _ _ | assumption | refine st_drew ?_ | refine st_drewN ?_ _ | refine Below.setCell ?_ (by first | omega | (simp; done) | (simp; omega)) _ | refine Below.alloc ?_ (by first | omega | (simp; done) | (simp; omega)) _)⟩
  case round =>
    clear O2 PN2 PO2 bB bA b0 PN PO hK1 hK2 hK3 hK4 p0 p1 p2 PN1 PO1
    obtain ⟨i, hi, rfl, ⟨M, G, k, rfl, HO, HOr, HPm, hMi, HSl⟩, PNr, POr, hz, hb⟩ := hrel
    have hsz := hb.size
    by_cases hlt : i < l.length
    · have hlti : (i : Int) < (l.length : Int) := by omega
      obtain ⟨x, hx⟩ := some_of l i hlt
      obtain ⟨g, off, ta, tc, rfl, hg, hrow, c0, c1, c2, c3, c4, c5⟩ := (HH.out wr hb).at hx
      have hxt := HT.out x (List.mem_of_getElem? hx)
      have hF := fun W hW hW' => sfits_any x ta x.ant.length tc n na nn nc W hW hxt hW' hn'
      unfold aN aU at hF
      have HR := hidden (fun W (hW : Below wr.heap.size wr W) => hrow.below hW)
      have HX := hidden hx
      obtain ⟨d0, d1, d2⟩ := (PNr.out.alloc (.cells #[.int .i64 x.id, .int .i64 x.grp, .slice ta x.ant.length tc, .int .i64 x.til, .int .i64 x.st, .int .i64 x.fr] 81)).three
      clear hx hrow hxt
      by_cases q1 : x.st = 1
      · have hne : (x.st != 1) = false := by rw [q1]; rfl
        by_cases q2 : x.til < t
        · have HP1 : Hid ((M.map Prod.fst).Perm ((l.take (i + 1)).filter (mayB n t))) := by
            rw [Hid, filt_snoc HX.out, if_neg (by unfold mayB; rw [decide_eq_false (show ¬ t ≤ x.til by omega)]; simp), List.append_nil]; exact HPm.out
          clear HPm q1 HX
          go_wp2_with (first
            | (go_at_call 53; refine (hF _ (HR.out _ (by repeat (first | exact Below.refl _ _ | assumption | refine st_drew ?_ | refine st_drewN ?_ _ | refine Below.setCell ?_ (by first | omega | (simp; done) | (simp; omega)) _ | refine Below.alloc ?_ (by first | omega | (simp; done) | (simp; omega)) _))) (HN.out _ (onto hb (by repeat (first | exact Below.refl _ _ | assumption | refine st_drew ?_ | refine st_drewN ?_ _ | refine Below.setCell ?_ (by first | omega | (simp; done) | (simp; omega)) _ | refine Below.alloc ?_ (by first | omega | (simp; done) | (simp; omega)) _))))).mono ?_; rintro e w6 ⟨rfl, hb6⟩; have bC := onto (show Below wr.heap.size wr (wr.alloc (.cells #[.int .i64 x.id, .int .i64 x.grp, .slice ta x.ant.length tc, .int .i64 x.til, .int .i64 x.st, .int .i64 x.fr] 81)) from by repeat (first | exact Below.refl _ _ | assumption | refine st_drew ?_ | refine st_drewN ?_ _ | refine Below.setCell ?_ (by first | omega | (simp; done) | (simp; omega)) _ | refine Below.alloc ?_ (by first | omega | (simp; done) | (simp; omega)) _)) hb6; clear hb6)
            | fail)
          go_roundw
          case rel => exact ⟨i + 1, by omega, by simp, ⟨M, G, k, rfl, ownW_below HO.out (show Below wr.heap.size wr (wr.alloc (.cells #[.int .i64 x.id, .int .i64 x.grp, .slice ta x.ant.length tc, .int .i64 x.til, .int .i64 x.st, .int .i64 x.fr] 81)) from by repeat (first | exact Below.refl _ _ | assumption | refine st_drew ?_ | refine st_drewN ?_ _ | refine Below.setCell ?_ (by first | omega | (simp; done) | (simp; omega)) _ | refine Below.alloc ?_ (by first | omega | (simp; done) | (simp; omega)) _)), HOr, HP1, by omega, HSl⟩, PNr.out.below (show Below wr.heap.size wr (wr.alloc (.cells #[.int .i64 x.id, .int .i64 x.grp, .slice ta x.ant.length tc, .int .i64 x.til, .int .i64 x.st, .int .i64 x.fr] 81)) from by repeat (first | exact Below.refl _ _ | assumption | refine st_drew ?_ | refine st_drewN ?_ _ | refine Below.setCell ?_ (by first | omega | (simp; done) | (simp; omega)) _ | refine Below.alloc ?_ (by first | omega | (simp; done) | (simp; omega)) _)), POr.out.below (show Below wr.heap.size wr (wr.alloc (.cells #[.int .i64 x.id, .int .i64 x.grp, .slice ta x.ant.length tc, .int .i64 x.til, .int .i64 x.st, .int .i64 x.fr] 81)) from by repeat (first | exact Below.refl _ _ | assumption | refine st_drew ?_ | refine st_drewN ?_ _ | refine Below.setCell ?_ (by first | omega | (simp; done) | (simp; omega)) _ | refine Below.alloc ?_ (by first | omega | (simp; done) | (simp; omega)) _)), by have := ((show Below wr.heap.size wr (wr.alloc (.cells #[.int .i64 x.id, .int .i64 x.grp, .slice ta x.ant.length tc, .int .i64 x.til, .int .i64 x.st, .int .i64 x.fr] 81)) from by repeat (first | exact Below.refl _ _ | assumption | refine st_drew ?_ | refine st_drewN ?_ _ | refine Below.setCell ?_ (by first | omega | (simp; done) | (simp; omega)) _ | refine Below.alloc ?_ (by first | omega | (simp; done) | (simp; omega)) _))).size; omega, onto hb (show Below wr.heap.size wr (wr.alloc (.cells #[.int .i64 x.id, .int .i64 x.grp, .slice ta x.ant.length tc, .int .i64 x.til, .int .i64 x.st, .int .i64 x.fr] 81)) from by repeat (first | exact Below.refl _ _ | assumption | refine st_drew ?_ | refine st_drewN ?_ _ | refine Below.setCell ?_ (by first | omega | (simp; done) | (simp; omega)) _ | refine Below.alloc ?_ (by first | omega | (simp; done) | (simp; omega)) _))⟩
          case measure => simp [intOf]; omega
        · cases hq3 : fitsB x n with
          | false =>
            rw [hq3] at hF
            have HP1 : Hid ((M.map Prod.fst).Perm ((l.take (i + 1)).filter (mayB n t))) := by
              rw [Hid, filt_snoc HX.out, if_neg (by unfold mayB; rw [hq3]; simp), List.append_nil]; exact HPm.out
            clear HPm q1 hq3 HX
            go_wp2_with (first
              | (go_at_call 53; refine (hF _ (HR.out _ (by repeat (first | exact Below.refl _ _ | assumption | refine st_drew ?_ | refine st_drewN ?_ _ | refine Below.setCell ?_ (by first | omega | (simp; done) | (simp; omega)) _ | refine Below.alloc ?_ (by first | omega | (simp; done) | (simp; omega)) _))) (HN.out _ (onto hb (by repeat (first | exact Below.refl _ _ | assumption | refine st_drew ?_ | refine st_drewN ?_ _ | refine Below.setCell ?_ (by first | omega | (simp; done) | (simp; omega)) _ | refine Below.alloc ?_ (by first | omega | (simp; done) | (simp; omega)) _))))).mono ?_; rintro e w6 ⟨rfl, hb6⟩; have bC := onto (show Below wr.heap.size wr (wr.alloc (.cells #[.int .i64 x.id, .int .i64 x.grp, .slice ta x.ant.length tc, .int .i64 x.til, .int .i64 x.st, .int .i64 x.fr] 81)) from by repeat (first | exact Below.refl _ _ | assumption | refine st_drew ?_ | refine st_drewN ?_ _ | refine Below.setCell ?_ (by first | omega | (simp; done) | (simp; omega)) _ | refine Below.alloc ?_ (by first | omega | (simp; done) | (simp; omega)) _)) hb6; clear hb6)
              | fail)
            go_roundw
            case rel => exact ⟨i + 1, by omega, by simp, ⟨M, G, k, rfl, ownW_below HO.out bC, HOr, HP1, by omega, HSl⟩, PNr.out.below bC, POr.out.below bC, by have := (bC).size; omega, onto hb bC⟩
            case measure => simp [intOf]; omega
          | true =>
            rw [hq3] at hF
            have hm : Hid (mayB n t x = true) := by rw [Hid]; unfold mayB; rw [hq3, decide_eq_true q1, decide_eq_true (show t ≤ x.til by omega)]; rfl
            have hGr := (ownW_lt HO.out G rfl)
            clear q1 hq3
            go_wp2_with (first
              | (go_at_call 53; refine (hF _ (HR.out _ (by repeat (first | exact Below.refl _ _ | assumption | refine st_drew ?_ | refine st_drewN ?_ _ | refine Below.setCell ?_ (by first | omega | (simp; done) | (simp; omega)) _ | refine Below.alloc ?_ (by first | omega | (simp; done) | (simp; omega)) _))) (HN.out _ (onto hb (by repeat (first | exact Below.refl _ _ | assumption | refine st_drew ?_ | refine st_drewN ?_ _ | refine Below.setCell ?_ (by first | omega | (simp; done) | (simp; omega)) _ | refine Below.alloc ?_ (by first | omega | (simp; done) | (simp; omega)) _))))).mono ?_; rintro e w6 ⟨rfl, hb6⟩; have bC := onto (show Below wr.heap.size wr (wr.alloc (.cells #[.int .i64 x.id, .int .i64 x.grp, .slice ta x.ant.length tc, .int .i64 x.til, .int .i64 x.st, .int .i64 x.fr] 81)) from by repeat (first | exact Below.refl _ _ | assumption | refine st_drew ?_ | refine st_drewN ?_ _ | refine Below.setCell ?_ (by first | omega | (simp; done) | (simp; omega)) _ | refine Below.alloc ?_ (by first | omega | (simp; done) | (simp; omega)) _)) hb6; have z6 := bC.size; have bD := onto hb bC; have PX6 := hidden ((PB.new wr #[.int .i64 x.id, .int .i64 x.grp, .slice ta x.ant.length tc, .int .i64 x.til, .int .i64 x.st, .int .i64 x.fr] 81).below hb6); have PN6 := hidden (PNr.out.below bC); have PO6 := hidden (POr.out.below bC); have O6 := hidden (ownW_below HO.out bC); obtain ⟨x0, x1, x2, x3, x4, x5⟩ := PX6.out.six; have hz6 := hb6.size; simp only [World.size_alloc] at hz6; clear hb6)
              | (at_builtin; refine wpList_append_own_at _ rfl (.tmp 63) (.tmp 65) 24 rfl (w.heap.size + 2) 81 j0 (.agg #[.int .i64 0, .int .i64 0, .slice none 0 0, .int .i64 0, .int .i64 0, .int .i64 0]) 6 64 Try.underlying24 hj0 hy0 hy1 hy2 rfl (by decide) _ M.length (cellsU M) rfl (O6.out.alloc _) ⟨w6.heap.size, 0, none⟩ 1 1 (cells6 (x, Value.slice ta x.ant.length tc)) rfl rfl (cell6U _ (x, Value.slice ta x.ant.length tc) _) (oneU _ _ _ _) (by unfold maxLen; omega) (by omega) (by simp; omega) ?_; intro v4 w4 ho4 hg4 hnn4 hlo4; have hO4 := hidden ho4; obtain ⟨ad4, c4, rfl⟩ := ownW_slice ho4)
              | fail)
            have bX : Below w6.heap.size w6 (w6.alloc (.cells #[.int .i64 x.id, .int .i64 x.grp, .slice ta x.ant.length tc, .int .i64 x.til, .int .i64 x.st, .int .i64 x.fr] 81)) := by repeat (first | exact Below.refl _ _ | assumption | refine st_drew ?_ | refine st_drewN ?_ _ | refine Below.setCell ?_ (by first | omega | (simp; done) | (simp; omega)) _ | refine Below.alloc ?_ (by first | omega | (simp; done) | (simp; omega)) _)
            have hOw : ∀ k', (Value.slice (some ⟨G, 0, none⟩) M.length k).ownBlock = some k' → w.heap.size + 2 ≤ k' := fun k' hk => (ownW_lt O6.out k' hk).1
            have hGB : ∀ k', (Value.slice (some ⟨G, 0, none⟩) M.length k).ownBlock = some k' → k' = G := fun k' hk => (Option.some.inj hk).symm
            have b4 := grownQ (show Below w.heap.size w (w6.alloc (.cells #[.int .i64 x.id, .int .i64 x.grp, .slice ta x.ant.length tc, .int .i64 x.til, .int .i64 x.st, .int .i64 x.fr] 81)) from by repeat (first | exact Below.refl _ _ | assumption | refine st_drew ?_ | refine st_drewN ?_ _ | refine Below.setCell ?_ (by first | omega | (simp; done) | (simp; omega)) _ | refine Below.alloc ?_ (by first | omega | (simp; done) | (simp; omega)) _)) (by simp; omega) hg4 (fun k' hk => by have := hOw k' hk; omega)
            have PX4 := hidden ((PX6.out.below bX).grownQ hg4 (fun k' hk => by have := hGB k' hk; omega))
            have PN4 := hidden ((PN6.out.below bX).grownQ hg4 (fun k' hk => by have := hOw k' hk; omega))
            have PO4 := hidden ((PO6.out.below bX).grownQ hg4 (fun k' hk => by have := hOw k' hk; omega))
            have z4 := hg4.size
            simp only [World.size_alloc] at z4
            have hzw : w.heap.size + 2 ≤ w4.heap.size := by omega
            obtain ⟨g4, c5, he4, -⟩ := own_six (M := M ++ [(x, Value.slice ta x.ant.length tc)]) (v := .slice ad4 (M.length + 1) c4) (by rw [cellsU_app, List.length_append]; exact hO4.out) (i := M.length) (p := (x, Value.slice ta x.ant.length tc)) (by simp)
            simp only [Value.slice.injEq, List.length_append, List.length_singleton, true_and] at he4
            obtain ⟨rfl, rfl⟩ := he4
            have hg4b : w.heap.size + 2 ≤ g4 := (ownW_lt hO4.out g4 rfl).1
            have hg4x : g4 ≠ wr.heap.size := by
              rcases hlo4 with q | q
              · have q' : some g4 = some G := q
                have := Option.some.inj q'; omega
              · have q' : some g4 = some (w6.alloc (.cells #[.int .i64 x.id, .int .i64 x.grp, .slice ta x.ant.length tc, .int .i64 x.til, .int .i64 x.st, .int .i64 x.fr] 81)).heap.size := q
                have := Option.some.inj q'; simp only [World.size_alloc] at this; omega
            have HS4 : Hid (SU c4 w4 g4 (M ++ [(x, Value.slice ta x.ant.length tc)])) := by
              have := ownW_base hO4.out (Nat.zero_le _)
              rw [Hid]; unfold SU; rw [cellsU_app, List.length_append]; exact this
            have hMk : M.length ≤ 300 := by omega
            clear hO4 ho4 hg4 hnn4 hlo4 hOw hGB z4 z6 hz6 x0 x1 x2 x3 x4 x5 O6 PN6 PO6 PX6 bD bC bX hF d0 d1 d2 HO hGr
            go_wp2_with fail
            go_loopw [13] (fun jv ws => ∃ (j : Nat) (e : List UE), jv = .int .i64 j ∧ j ≤ M.length ∧ Hid (SU c4 ws g4 e) ∧ Hid (Gap M j e) ∧ Hid (∀ y ∈ M.drop j, befB n x y.1 = true) ∧ Hid (PB ws wr.heap.size #[.int .i64 x.id, .int .i64 x.grp, .slice ta x.ant.length tc, .int .i64 x.til, .int .i64 x.st, .int .i64 x.fr] 81) ∧ Hid (PB ws w.heap.size #[.int .i64 n.p, .int .i64 n.g, .slice na nn nc] 27) ∧ Hid (PB ws (w.heap.size + 1) #[] 2) ∧ w.heap.size + 2 ≤ ws.heap.size ∧ Below w.heap.size w ws) (fun jv _ => (intOf jv).toNat)
            case atStart => exact ⟨M.length, M ++ [(x, Value.slice ta x.ant.length tc)], rfl, Nat.le_refl _, HS4, Gap.start _ _, (fun y hy => by rw [List.drop_length] at hy; cases hy), PX4, PN4, PO4, hzw, b4⟩
            case round =>
              clear HS4 PX4 PN4 PO4 b4 hzw
              obtain ⟨j, e, rfl, hj, hs, hgap, hdr, PXs, PNs, POs, hzs, hbs⟩ := hrel
              rename World => ws
              have hGl := hs.out.lt
              have hel : e.length = M.length + 1 := hgap.out.len
              have hfill := hgap.out.fill hj (x, Value.slice ta x.ant.length tc)
              have HL2 : Hid ((e.set j (x, Value.slice ta x.ant.length tc)).length = M.length + 1) := by rw [Hid, List.length_set]; exact hel
              have HS2 : Hid (∀ p ∈ e.set j (x, Value.slice ta x.ant.length tc), ∃ a n c, p.2 = .slice a n c) := fun p hp => by
                rw [hfill] at hp
                rcases List.mem_append.1 hp with hp | hp
                · exact HSl.out p (List.mem_of_mem_take hp)
                · rcases List.mem_cons.1 hp with rfl | hp
                  · exact ⟨_, _, _, rfl⟩
                  · exact HSl.out p (List.mem_of_mem_drop hp)
              have HFIN : (j = 0 ∨ befB n x (at' M (j - 1)).1 ≠ true) → Hid (Hid (Ord n ((e.set j (x, Value.slice ta x.ant.length tc)).map Prod.fst)) ∧ Hid (((e.set j (x, Value.slice ta x.ant.length tc)).map Prod.fst).Perm ((l.take (i + 1)).filter (mayB n t)))) := fun q => by
                have := put_fine (tv := Value.slice ta x.ant.length tc) (bank_apt HB1.out) HX.out hm.out HOr.out HPm.out hj hdr.out q
                rw [Hid, Hid, Hid, hfill]; exact this
              clear hfill
              by_cases hz0 : 0 < j
              · have hw1 : IntKind.i64.wrap ((j : Int) - 1) = ((j - 1 : Nat) : Int) := by rw [IntKind.wrap_i64]; omega
                have hst : Hid (at' e (j - 1) = at' M (j - 1) ∧ Gap M (j - 1) (e.set j (at' e (j - 1)))) := by
                  obtain ⟨j', rfl⟩ : ∃ j', j = j' + 1 := ⟨j - 1, by omega⟩
                  exact hgap.out.step (by omega)
                have hup : befB n x (at' e (j - 1)).1 = true → Hid (∀ y ∈ M.drop (j - 1), befB n x y.1 = true) := fun q => by
                  rw [hst.out.1] at q
                  obtain ⟨j', rfl⟩ : ∃ j', j = j' + 1 := ⟨j - 1, by omega⟩
                  exact Gap.drop (P := fun y : UE => befB n x y.1 = true) hdr.out (by omega) q
                have hno : ¬ befB n x (at' e (j - 1)).1 = true → Hid (Hid (Ord n ((e.set j (x, Value.slice ta x.ant.length tc)).map Prod.fst)) ∧ Hid (((e.set j (x, Value.slice ta x.ant.length tc)).map Prod.fst).Perm ((l.take (i + 1)).filter (mayB n t)))) := fun q => HFIN (Or.inr (by rw [← hst.out.1]; exact q))
                obtain ⟨ya, yn, yc, hya⟩ : ∃ a n c, (at' e (j - 1)).2 = .slice a n c := by rw [hst.out.1]; exact HSl.out _ (at_mem (by omega))
                have hK2 := fun W => sbefore_any x ta x.ant.length tc (at' e (j - 1)).1 ya yn yc n na nn nc W
                rw [← hya] at hK2
                have HU := hidden hup
                have HNO := hidden hno
                have HG9 := hidden hst.out.2
                have HSW := hidden (fun W (hW : Below ws.heap.size ws W) => (hs.out.below hW).put (i := j) (by omega) (at' e (j - 1)))
                have HY := hidden (hs.out.at (i := j - 1) (by omega))
                have hYA := hidden hya
                clear hup hno hst HFIN hdr hgap hya
                generalize at' e (j - 1) = y at *
                go_upto_region 12 with fail
                refine regSp12 (BX := wr.heap.size) (BN := w.heap.size) (G := g4) (m := M.length + 1) (c := c4) (j := j) (x := x) (y := y) (n := n) (tv := .slice ta x.ant.length tc) (tn := .slice na nn nc) (r9 := befB n x y.1) rfl rfl rfl rfl rfl hGl PXs.out PNs.out (fun _ => HY.out) (fun _ => by omega) (by omega) (fun _ => hw1) hK2 ?_
                intro b' w9 hf hb9 hv
                rw [laySp12 hf, hv]
                clear hv hf hK2
                generalize Rg.out (Rg.opsOf Try.f12 12) b' 0 = y0
                generalize Rg.out (Rg.opsOf Try.f12 12) b' 1 = y1
                generalize Rg.out (Rg.opsOf Try.f12 12) b' 2 = y2
                generalize Rg.out (Rg.opsOf Try.f12 12) b' 3 = y3
                generalize Rg.out (Rg.opsOf Try.f12 12) b' 4 = y4
                generalize Rg.out (Rg.opsOf Try.f12 12) b' 5 = y5
                generalize Rg.out (Rg.opsOf Try.f12 12) b' 6 = y6
                generalize Rg.out (Rg.opsOf Try.f12 12) b' 7 = y7
                generalize Rg.out (Rg.opsOf Try.f12 12) b' 8 = y8
                generalize Rg.out (Rg.opsOf Try.f12 12) b' 9 = y9
                generalize Rg.out (Rg.opsOf Try.f12 12) b' 10 = y10
                have hg : decide ((0 : Int) < (j : Int)) = true := by simp; omega
                rw [hg, Bool.true_and]
                by_cases hr : befB n x y.1 = true
                · have HV := HU.out hr
                  rw [hr]
                  obtain ⟨p0, p1, p2, p3, p4, p5, p6, p7, p8, p9, p10, p11⟩ := (hs.out.below hb9).at (i := j) (by omega)
                  obtain ⟨q0, q1, q2, q3, q4, q5, q6, q7, q8, q9, q10, q11⟩ := HY.out.below hb9 hGl
                  have hij : (j : Int) < ((M.length : Int) + 1) := by omega
                  have hij2 : ((j - 1 : Nat) : Int) < ((M.length : Int) + 1) := by omega
                  have HR9 := hidden (HSW.out w9 hb9)
                  have HB9 := hidden (put6_below (onto hbs hb9) (show w.heap.size ≤ g4 by omega) y (o := j * 6))
                  have HPX := hidden ((PXs.out.below hb9).put6 hg4x y (o := j * 6))
                  have HPN := hidden ((PNs.out.below hb9).put6 (show g4 ≠ w.heap.size by omega) y (o := j * 6))
                  have HPO := hidden ((POs.out.below hb9).put6 (show g4 ≠ w.heap.size + 1 by omega) y (o := j * 6))
                  have hz9 := hb9.size
                  clear HU HNO HSW HY hs hbs hb9 PXs PNs POs HL2 HS2 hr hel
                  obtain ⟨yu, yv⟩ := y
                  have hy2 := hYA.out
                  dsimp only at hy2
                  subst hy2
                  dsimp only at q0 q1 q2 q3 q4 q5
                  go_frame
                  go_wp2_with fail
                  go_roundw
                  case rel => exact ⟨j - 1, e.set j (yu, .slice ya yn yc), by congr 1, by omega, HR9, HG9, HV, HPX, HPN, HPO, by have := HB9.out.size; first | omega | (simp; done) | (simp; omega), HB9.out⟩
                  case measure => simp [intOf]; omega
                · have HV := (HNO.out hr).out
                  rw [Bool.not_eq_true] at hr
                  rw [hr]
                  obtain ⟨p0, p1, p2, p3, p4, p5, p6, p7, p8, p9, p10, p11⟩ := (hs.out.below hb9).at (i := j) (by omega)
                  obtain ⟨x0, x1, x2, x3, x4, x5⟩ := (PXs.out.below hb9).six
                  have hij : (j : Int) < ((M.length : Int) + 1) := by omega
                  have HSX := hidden ((hs.out.below hb9).put (i := j) (by omega) (x, Value.slice ta x.ant.length tc))
                  have HB7 := hidden (put6_below (onto hbs hb9) (show w.heap.size ≤ g4 by omega) (x, Value.slice ta x.ant.length tc) (o := j * 6))
                  have HPN := hidden ((PNs.out.below hb9).put6 (show g4 ≠ w.heap.size by omega) (x, Value.slice ta x.ant.length tc) (o := j * 6))
                  have HPO := hidden ((POs.out.below hb9).put6 (show g4 ≠ w.heap.size + 1 by omega) (x, Value.slice ta x.ant.length tc) (o := j * 6))
                  have hz9 := (hb9).size
                  clear HU HNO HSW HY hs hbs hb9 PXs PNs POs hr hel HG9 hYA HOr HPm
                  go_frame
                  go_wp2_with fail
                  go_roundw
                  case rel => exact ⟨i + 1, by omega, by simp, ⟨e.set j (x, Value.slice ta x.ant.length tc), g4, c4, by rw [HL2.out], by have := own_at_base (b' := w.heap.size + 2) HSX.out hg4b; exact this, HV.1, HV.2, by rw [HL2.out]; omega, HS2⟩, HPN, HPO, by have := HB7.out.size; first | omega | (simp; done) | (simp; omega), HB7.out⟩
                  case measure => simp [intOf]; omega
              · have hjn : j = 0 := by omega
                have HV := (HFIN (Or.inl hjn)).out
                have hg : decide ((0 : Int) < (j : Int)) = false := by simp; omega
                have HJ := hidden hjn
                clear HFIN hgap hdr hjn
                go_upto_region 12 with fail
                refine regSp12 (BX := wr.heap.size) (BN := w.heap.size) (G := g4) (m := M.length + 1) (c := c4) (j := j) (x := x) (y := (x, Value.slice ta x.ant.length tc)) (n := n) (tv := .slice ta x.ant.length tc) (tn := .slice na nn nc) (r9 := befB n x x) rfl rfl rfl rfl rfl hGl PXs.out PNs.out (fun q => absurd q hz0) (fun q => absurd q hz0) (by omega) (fun q => absurd q hz0) (fun W => sbefore_any x ta x.ant.length tc x ta x.ant.length tc n na nn nc W) ?_
                intro b' w9 hf hb9 hv
                rw [laySp12 hf, hv]
                clear hv hf
                generalize Rg.out (Rg.opsOf Try.f12 12) b' 0 = y0
                generalize Rg.out (Rg.opsOf Try.f12 12) b' 1 = y1
                generalize Rg.out (Rg.opsOf Try.f12 12) b' 2 = y2
                generalize Rg.out (Rg.opsOf Try.f12 12) b' 3 = y3
                generalize Rg.out (Rg.opsOf Try.f12 12) b' 4 = y4
                generalize Rg.out (Rg.opsOf Try.f12 12) b' 5 = y5
                generalize Rg.out (Rg.opsOf Try.f12 12) b' 6 = y6
                generalize Rg.out (Rg.opsOf Try.f12 12) b' 7 = y7
                generalize Rg.out (Rg.opsOf Try.f12 12) b' 8 = y8
                generalize Rg.out (Rg.opsOf Try.f12 12) b' 9 = y9
                generalize Rg.out (Rg.opsOf Try.f12 12) b' 10 = y10
                rw [hg, Bool.false_and]
                obtain ⟨p0, p1, p2, p3, p4, p5, p6, p7, p8, p9, p10, p11⟩ := (hs.out.below hb9).at (i := j) (by omega)
                obtain ⟨x0, x1, x2, x3, x4, x5⟩ := (PXs.out.below hb9).six
                have hij : (j : Int) < ((M.length : Int) + 1) := by omega
                have HSX := hidden ((hs.out.below hb9).put (i := j) (by omega) (x, Value.slice ta x.ant.length tc))
                have HB7 := hidden (put6_below (onto hbs hb9) (show w.heap.size ≤ g4 by omega) (x, Value.slice ta x.ant.length tc) (o := j * 6))
                have HPN := hidden ((PNs.out.below hb9).put6 (show g4 ≠ w.heap.size by omega) (x, Value.slice ta x.ant.length tc) (o := j * 6))
                have HPO := hidden ((POs.out.below hb9).put6 (show g4 ≠ w.heap.size + 1 by omega) (x, Value.slice ta x.ant.length tc) (o := j * 6))
                have hz9 := (hb9).size
                clear hs hbs hb9 PXs PNs POs hel HOr HPm
                go_frame
                go_wp2_with fail
                go_roundw
                case rel => exact ⟨i + 1, by omega, by simp, ⟨e.set j (x, Value.slice ta x.ant.length tc), g4, c4, by rw [HL2.out], by have := own_at_base (b' := w.heap.size + 2) HSX.out hg4b; exact this, HV.1, HV.2, by rw [HL2.out]; omega, HS2⟩, HPN, HPO, by have := HB7.out.size; first | omega | (simp; done) | (simp; omega), HB7.out⟩
                case measure => simp [intOf]; omega
      · have hne : (x.st != 1) = true := by rw [bne_iff_ne]; exact q1
        have HP1 : Hid ((M.map Prod.fst).Perm ((l.take (i + 1)).filter (mayB n t))) := by
          rw [Hid, filt_snoc HX.out, if_neg (by unfold mayB; rw [decide_eq_false q1]; simp), List.append_nil]; exact HPm.out
        clear HPm q1 HX
        go_wp2_with (first
          | (go_at_call 53; refine (hF _ (HR.out _ (by repeat (first | exact Below.refl _ _ | assumption | refine st_drew ?_ | refine st_drewN ?_ _ | refine Below.setCell ?_ (by first | omega | (simp; done) | (simp; omega)) _ | refine Below.alloc ?_ (by first | omega | (simp; done) | (simp; omega)) _))) (HN.out _ (onto hb (by repeat (first | exact Below.refl _ _ | assumption | refine st_drew ?_ | refine st_drewN ?_ _ | refine Below.setCell ?_ (by first | omega | (simp; done) | (simp; omega)) _ | refine Below.alloc ?_ (by first | omega | (simp; done) | (simp; omega)) _))))).mono ?_; rintro e w6 ⟨rfl, hb6⟩; have bC := onto (show Below wr.heap.size wr (wr.alloc (.cells #[.int .i64 x.id, .int .i64 x.grp, .slice ta x.ant.length tc, .int .i64 x.til, .int .i64 x.st, .int .i64 x.fr] 81)) from by repeat (first | exact Below.refl _ _ | assumption | refine st_drew ?_ | refine st_drewN ?_ _ | refine Below.setCell ?_ (by first | omega | (simp; done) | (simp; omega)) _ | refine Below.alloc ?_ (by first | omega | (simp; done) | (simp; omega)) _)) hb6; clear hb6)
          | fail)
        go_roundw
        case rel => exact ⟨i + 1, by omega, by simp, ⟨M, G, k, rfl, ownW_below HO.out (show Below wr.heap.size wr (wr.alloc (.cells #[.int .i64 x.id, .int .i64 x.grp, .slice ta x.ant.length tc, .int .i64 x.til, .int .i64 x.st, .int .i64 x.fr] 81)) from by repeat (first | exact Below.refl _ _ | assumption | refine st_drew ?_ | refine st_drewN ?_ _ | refine Below.setCell ?_ (by first | omega | (simp; done) | (simp; omega)) _ | refine Below.alloc ?_ (by first | omega | (simp; done) | (simp; omega)) _)), HOr, HP1, by omega, HSl⟩, PNr.out.below (show Below wr.heap.size wr (wr.alloc (.cells #[.int .i64 x.id, .int .i64 x.grp, .slice ta x.ant.length tc, .int .i64 x.til, .int .i64 x.st, .int .i64 x.fr] 81)) from by repeat (first | exact Below.refl _ _ | assumption | refine st_drew ?_ | refine st_drewN ?_ _ | refine Below.setCell ?_ (by first | omega | (simp; done) | (simp; omega)) _ | refine Below.alloc ?_ (by first | omega | (simp; done) | (simp; omega)) _)), POr.out.below (show Below wr.heap.size wr (wr.alloc (.cells #[.int .i64 x.id, .int .i64 x.grp, .slice ta x.ant.length tc, .int .i64 x.til, .int .i64 x.st, .int .i64 x.fr] 81)) from by repeat (first | exact Below.refl _ _ | assumption | refine st_drew ?_ | refine st_drewN ?_ _ | refine Below.setCell ?_ (by first | omega | (simp; done) | (simp; omega)) _ | refine Below.alloc ?_ (by first | omega | (simp; done) | (simp; omega)) _)), by have := ((show Below wr.heap.size wr (wr.alloc (.cells #[.int .i64 x.id, .int .i64 x.grp, .slice ta x.ant.length tc, .int .i64 x.til, .int .i64 x.st, .int .i64 x.fr] 81)) from by repeat (first | exact Below.refl _ _ | assumption | refine st_drew ?_ | refine st_drewN ?_ _ | refine Below.setCell ?_ (by first | omega | (simp; done) | (simp; omega)) _ | refine Below.alloc ?_ (by first | omega | (simp; done) | (simp; omega)) _))).size; omega, onto hb (show Below wr.heap.size wr (wr.alloc (.cells #[.int .i64 x.id, .int .i64 x.grp, .slice ta x.ant.length tc, .int .i64 x.til, .int .i64 x.st, .int .i64 x.fr] 81)) from by repeat (first | exact Below.refl _ _ | assumption | refine st_drew ?_ | refine st_drewN ?_ _ | refine Below.setCell ?_ (by first | omega | (simp; done) | (simp; omega)) _ | refine Below.alloc ?_ (by first | omega | (simp; done) | (simp; omega)) _))⟩
        case measure => simp [intOf]; omega
    · have hlti : ¬ (i : Int) < (l.length : Int) := by omega
      have hil : i = l.length := by omega
      subst hil
      have HM : Hid (M.map Prod.fst = haveL l n t) := by
        have hp := HPm.out
        rw [List.take_length] at hp
        exact ordL_eq ((bank_apt HB1.out).filter _) hp HOr.out
      have hPK : Hid (pick l n t c = (M.map fun p => p.1.id).take c.toNat) := by
        rw [Hid]; unfold pick; rw [if_pos HYES.out, ← HM.out, ← List.map_take, List.map_map, List.map_take]; rfl
      have hMl : M.length ≤ 300 := by omega
      obtain ⟨cn, rfl⟩ : ∃ cn : Nat, c = cn := ⟨c.toNat, by omega⟩
      rw [Int.toNat_natCast] at hPK
      obtain ⟨i0, hi0, hv0, hv1, hv2⟩ := info_partsW infoW64
      have ho3 := hidden (ownW_base (b' := w.heap.size) (own_none (s := 1) POr.out) (by omega))
      clear hlti hlt HPm HOr HM HH HT hMi POr PNr HYES
      go_wp2_with fail
      go_loopw [9, 14] (fun ov jv ws => ∃ j : Nat, j ≤ M.length ∧ j ≤ cn ∧ jv = .int .i64 j ∧ (∃ ad k', ov = .slice ad j k' ∧ Hid (ws.ownsRow w.heap.size 2 1 (.slice ad j k') j (intsV ((M.map fun p => p.1.id).take j)))) ∧ Hid (ws.ownsRow (w.heap.size + 2) 81 6 (.slice (some ⟨G, 0, none⟩) M.length k) M.length (cellsU M)) ∧ Below w.heap.size w ws) (fun _ jv _ => M.length - (intOf jv).toNat)
      case atStart => exact ⟨0, Nat.zero_le _, Nat.zero_le _, rfl, ⟨_, _, rfl, ho3⟩, HO, hb⟩
      case round =>
        clear ho3 HO hb
        obtain ⟨j, hj1, hj2, rfl, ⟨ad, k', rfl, ho⟩, HO, hb⟩ := hrel
        rename World => ws
        have hsz := hb.size
        by_cases hlt : j < M.length
        · have hlti : (j : Int) < (M.length : Int) := by omega
          by_cases hlc : j < cn
          · have hlci : (j : Int) < (cn : Int) := by omega
            obtain ⟨⟨x, tv⟩, hx⟩ := some_of M j hlt
            obtain ⟨g, c9, he, -, hg, -, u0, u1, u2, u3, u4, u5⟩ := own_six HO.out hx
            simp only [Value.slice.injEq, Option.some.injEq, Addr.mk.injEq, and_true, true_and] at he
            obtain ⟨rfl, rfl⟩ := he
            have HN9 : Hid ((M.map fun p => p.1.id).take (j + 1) = (M.map fun p => p.1.id).take j ++ [x.id]) := by
              rw [Hid, List.take_add_one, List.getElem?_map, hx]; rfl
            clear hx
            dsimp only at u0
            go_wp2_with (at_builtin; refine wpList_append_own _ rfl (.tmp 104) (.tmp 110) 25 rfl w.heap.size 2 i0 (.int .i64 0) 1 8 Try.underlying25 hi0 hv0 hv1 hv2 rfl (by decide) _ j (intsV ((M.map fun p => p.1.id).take j)) rfl (ho.out.alloc _) ⟨ws.heap.size, 0, none⟩ 1 1 [.int .i64 x.id] rfl rfl (cell_oneQ (by simp) _ _) (oneI _) (by unfold maxLen; omega) (by omega) (by simp; omega) ?_; intro v4 w4 ho4 hg4 hnn4; have hO4 := hidden ho4; obtain ⟨ad4, c4, rfl⟩ := ownW_slice ho4)
            have bX : Below ws.heap.size ws (ws.alloc (.cells #[.int .i64 x.id] 2)) := by repeat (first | exact Below.refl _ _ | assumption | refine st_drew ?_ | refine st_drewN ?_ _ | refine Below.setCell ?_ (by first | omega | (simp; done) | (simp; omega)) _ | refine Below.alloc ?_ (by first | omega | (simp; done) | (simp; omega)) _)
            have b4 := grownQ (show Below w.heap.size w (ws.alloc (.cells #[.int .i64 x.id] 2)) from by repeat (first | exact Below.refl _ _ | assumption | refine st_drew ?_ | refine st_drewN ?_ _ | refine Below.setCell ?_ (by first | omega | (simp; done) | (simp; omega)) _ | refine Below.alloc ?_ (by first | omega | (simp; done) | (simp; omega)) _)) (by simp; omega) hg4 (fun k hk => (ownW_lt ho.out k hk).1)
            have L4 := hidden (ownQ_grown (ownW_below HO.out bX) hg4 (fun k hk => ownQ_apart (ownW_below HO.out bX) (ownW_below ho.out bX) (by decide) k hk))
            go_roundw
            case rel => exact ⟨j + 1, by omega, by omega, by simp, ⟨ad4, c4, rfl, by rw [Hid, HN9.out, intsV_app]; exact hO4.out⟩, L4, b4⟩
            case measure => simp [intOf]; omega
          · have hlci : ¬ (j : Int) < (cn : Int) := by omega
            have hjc : j = cn := by omega
            have HL : Hid ((pick l n t cn).length = j) := by rw [Hid, hPK.out, List.length_take, List.length_map]; omega
            have HP : Hid ((M.map fun p => p.1.id).take j = pick l n t cn) := by rw [Hid, hPK.out, hjc]
            clear hjc
            go_wp2_with fail
            go_ret
            exact ⟨ad, k', (by rw [HL.out]; first | done | rfl), by rw [HL.out, ← HP.out]; exact ho.out, hb⟩
        · have hlti : ¬ (j : Int) < (M.length : Int) := by omega
          have HL : Hid ((pick l n t cn).length = j) := by rw [Hid, hPK.out, List.length_take, List.length_map]; omega
          have HP : Hid ((M.map fun p => p.1.id).take j = pick l n t cn) := by rw [Hid, hPK.out, List.take_of_length_le (by rw [List.length_map]; omega), List.take_of_length_le (by rw [List.length_map]; omega)]
          go_wp2_with fail
          go_ret
          exact ⟨ad, k', (by rw [HL.out]; first | done | rfl), by rw [HL.out, ← HP.out]; exact ho.out, hb⟩
theorem spick_any (ao : Option Addr) (len cap : Nat) (l : List Ut) (n : Nd) (na : Option Addr) (nn nc : Nat) (t c : Int) (w : World) (h : URw w (.slice ao len cap) l) (hn : l.length ≤ 1048576) (ht : ∀ x ∈ l, x.ant.length ≤ 1048576) (h' : IRw w (.slice na nn nc) n.ag) (hn' : n.ag.length ≤ 1048576) :
    Calls Try.prog 12 #[.slice ao len cap, aN n (.slice na nn nc), .int .i64 t, .int .i64 c] w fun e w' => ∃ (ad : Option Addr) (k : Nat), e = .returned (.slice ad (pick l n t c).length k) ∧ w'.ownsRow w.heap.size 2 1 (.slice ad (pick l n t c).length k) (pick l n t c).length (intsV (pick l n t c)) ∧ Below w.heap.size w w' := by
  by_cases q : pickB l n t c = true
  · exact spick_yes ao len cap l n na nn nc t c w h hn ht h' hn' q
  · exact spick_no ao len cap l n na nn nc t c w h hn ht h' hn' q
theorem ipick_any (ao : Option Addr) (len cap : Nat) (l : List Ut) (n : Nd) (na : Option Addr) (nn nc : Nat) (t c : Int) (w : World) (h : URw w (.slice ao len cap) l) (hn : l.length ≤ 1048576) (ht : ∀ x ∈ l, x.ant.length ≤ 1048576) (h' : IRw w (.slice na nn nc) n.ag) (hn' : n.ag.length ≤ 1048576) :
    Calls Try.prog 10 #[.slice ao len cap, aN n (.slice na nn nc), .int .i64 t, .int .i64 c] w fun e w' => ∃ (ad : Option Addr) (k : Nat), e = .returned (.slice ad (pick l n t c).length k) ∧ w'.ownsRow w.heap.size 2 1 (.slice ad (pick l n t c).length k) (pick l n t c).length (intsV (pick l n t c)) ∧ Below w.heap.size w w' := by
  by_cases q : pickB l n t c = true
  · exact ipick_yes ao len cap l n na nn nc t c w h hn ht h' hn' q
  · exact ipick_no ao len cap l n na nn nc t c w h hn ht h' hn' q
end Go.Proofs.Ytgcpiinmcbdkmaa
