/-
  A bank stays one, what is given fits, is traced, and is never given again: the walk of the law.
-/
import Derived.Test.YtaidhcbchpcemaaD10b
namespace Go.Proofs.Ytaidhcbchpcemaa
open Go.RowKit Va Bl
set_option linter.all false

theorem do_ant {l : List Ut} {n : Nd} {a : Da} : ∀ y ∈ bankDo l n a, ∃ x ∈ l, y.ant = x.ant := by
  intro y hy
  cases hB : bankB l with
  | false => rw [(code_bad hB).2] at hy; cases hy
  | true =>
    by_cases h0 : codeB l n a = 0
    · obtain ⟨k, x, -, hx, -, -, -, -, e⟩ := done_facts hB h0
      rw [e] at hy
      rcases List.mem_or_eq_of_mem_set hy with h | rfl
      · exact ⟨y, h, rfl⟩
      · refine ⟨x, List.mem_of_getElem? hx, ?_⟩
        unfold turnU
        split <;> (try split) <;> (try split) <;> rfl
    · rw [do_same hB h0] at hy
      exact ⟨y, hy, rfl⟩
theorem dbdoU_any (ao : Option Addr) (cap : Nat) (bs : List Int) (w : World) (hb : Bytes w w.heap.size ao bs) (hl : bs.length ≤ 1048576) :
    Calls Try.prog 13 #[.slice ao bs.length cap] w fun e w' => ∃ (l : List Ut) (ad : Option Addr) (c : Nat) (n : Nd) (na : Option Addr) (nc : Nat) (a : Da), e = .returned (.tuple #[.slice ad l.length c, .agg #[.int .i64 n.p, .int .i64 n.g, .slice na n.ag.length nc], .agg #[.int .i64 a.k, .int .i64 a.id, .int .i64 a.t]]) ∧ l.length ≤ 301 ∧ (∀ x ∈ l, x.ant.length ≤ 4) ∧ n.ag.length ≤ 4 ∧ URw w' (.slice ad l.length c) l ∧ IRw w' (.slice na n.ag.length nc) n.ag ∧ Below w.heap.size w w' := by
  refine (dbdo_any ao cap bs w hb hl).mono ?_
  rintro e w' ⟨L, ad, c, n, na, nc, a, b, rfl, hL, hn, hd⟩
  have hu := own_urw hd.own (fun p hp => ownQ_irw (hd.ant p hp).1)
  refine ⟨L.map Prod.fst, ad, c, n, na, nc, a, by rw [List.length_map]; rfl, by rw [List.length_map]; exact hL, ?_, hn, by rw [List.length_map]; exact hu, ownQ_irw hd.nd, hd.bel⟩
  intro x hx
  obtain ⟨p, hp, rfl⟩ := List.mem_map.1 hx
  exact (hd.ant p hp).2
theorem ibdoU_any (ao : Option Addr) (len cap : Nat) (l : List Ut) (n : Nd) (na : Option Addr) (nc : Nat) (a : Da) (w : World) (h : URw w (.slice ao len cap) l) (hn : l.length ≤ 1048576) (ht : ∀ x ∈ l, x.ant.length ≤ 4) (h' : IRw w (.slice na n.ag.length nc) n.ag) (hn' : n.ag.length ≤ 4) :
    Calls Try.prog 14 #[.slice ao len cap, .agg #[.int .i64 n.p, .int .i64 n.g, .slice na n.ag.length nc], .agg #[.int .i64 a.k, .int .i64 a.id, .int .i64 a.t]] w fun e w' => ∃ (ad : Option Addr) (c : Nat), e = .returned (.tuple #[.slice ad (bankDo l n a).length c, .int .i64 (codeB l n a)]) ∧ URw w' (.slice ad (bankDo l n a).length c) (bankDo l n a) ∧ Below w.heap.size w w' := by
  refine (ibdo_any ao len cap l n na _ nc a w h hn (fun x hx => by have := ht x hx; omega) h' (by omega)).mono ?_
  rintro e w' ⟨M, ad, c, rfl, hM, ho, hA, hb⟩
  have hu := own_urw ho hA.irw
  have hl : M.length = (bankDo l n a).length := by rw [← hM, List.length_map]
  rw [hM, hl] at hu
  exact ⟨ad, c, by rw [hl], hu, hb⟩
theorem sbdoU_any (ao : Option Addr) (len cap : Nat) (l : List Ut) (n : Nd) (na : Option Addr) (nc : Nat) (a : Da) (w : World) (h : URw w (.slice ao len cap) l) (hn : l.length ≤ 1048576) (ht : ∀ x ∈ l, x.ant.length ≤ 4) (h' : IRw w (.slice na n.ag.length nc) n.ag) (hn' : n.ag.length ≤ 4) :
    Calls Try.prog 15 #[.slice ao len cap, .agg #[.int .i64 n.p, .int .i64 n.g, .slice na n.ag.length nc], .agg #[.int .i64 a.k, .int .i64 a.id, .int .i64 a.t]] w fun e w' => ∃ (v : Value), e = .returned (.tuple #[v, .int .i64 (codeB l n a)]) ∧ Below w.heap.size w w' := by
  refine (sbdo_any ao len cap l n na _ nc a w h hn (fun x hx => by have := ht x hx; omega) h' (by omega)).mono ?_
  rintro e w' ⟨M, ad, c, rfl, hM, ho, hA, hb⟩
  exact ⟨_, rfl, hb⟩

set_option maxRecDepth 20000 in
set_option maxHeartbeats 16000000 in
theorem fbk_walk (ao : Option Addr) (cap : Nat) (bs : List Int) (w : World) (hb : Bytes w w.heap.size ao bs) :
    Calls Try.prog 4 #[.slice ao bs.length cap] w fun e w' => e = .returned (.bool true) ∧ Below w.heap.size w w' := by
  have hB := big_any ao cap bs.length
  have HBY := hidden hb
  clear hb
  by_cases hbig : (4096 : Int) < (bs.length : Int)
  · rw [decide_eq_true hbig] at hB
    go_enter Try.func4, Try.ntmps4
    go_wp2_with fail
    refine (hB _).mono ?_
    rintro e w1 ⟨rfl, rfl⟩
    go_wp2_with fail
    go_ret
    exact ⟨rfl, Below.refl _ _⟩
  rw [decide_eq_false hbig] at hB
  have hl : bs.length ≤ 4096 := by omega
  have hD := dbdoU_any ao cap bs w HBY.out (by omega)
  go_enter Try.func4, Try.ntmps4
  go_wp2_with fail
  refine (hB _).mono ?_
  rintro e w1 ⟨rfl, hw1⟩
  have hw2 := hw1.symm
  clear hw1
  subst hw2
  go_wp2_with fail
  refine hD.mono ?_
  rintro e w1 ⟨l, ad, c, n, na, nc, a, rfl, hl3, hant, hag, hU, hN, hb1⟩
  clear hB hD
  go_upto_region 4 with fail
  have bx : Below w1.heap.size w1 ((w1.alloc (.cells #[.int .i64 n.p, .int .i64 n.g, .slice na n.ag.length nc] 28)).alloc (.cells #[.int .i64 a.k, .int .i64 a.id, .int .i64 a.t] 30)) := by repeat (first | exact Below.refl _ _ | refine st_drew ?_ | refine st_drewN ?_ _ | refine Below.setCell ?_ (by first | omega | (simp; done) | (simp; omega)) _ | refine Below.alloc ?_ (by first | omega | (simp; done) | (simp; omega)) _)
  have HP := hidden ((PB.new w1 #[.int .i64 n.p, .int .i64 n.g, .slice na n.ag.length nc] 28).alloc (.cells #[.int .i64 a.k, .int .i64 a.id, .int .i64 a.t] 30))
  have HA := hidden (PB.new (w1.alloc (.cells #[.int .i64 n.p, .int .i64 n.g, .slice na n.ag.length nc] 28)) #[.int .i64 a.k, .int .i64 a.id, .int .i64 a.t] 30)
  simp only [World.size_alloc w1] at HA
  have HB := hidden (onto hb1 bx)
  have HU := hidden (hU.below bx)
  have HN := hidden (hN.below bx)
  generalize ((w1.alloc (.cells #[.int .i64 n.p, .int .i64 n.g, .slice na n.ag.length nc] 28)).alloc (.cells #[.int .i64 a.k, .int .i64 a.id, .int .i64 a.t] 30)) = w2 at *
  generalize w1.heap.size + 1 = AA at *
  generalize w1.heap.size = PP at *
  clear hb1 bx hU hN
  have HAN := hidden hant
  clear hant
  have hI := fun W h1 h2 => ibdoU_any ad l.length c l n na nc a W h1 (by omega) HAN.out h2 hag
  have hS := fun W h1 h2 => sbdoU_any ad l.length c l n na nc a W h1 (by omega) HAN.out h2 hag
  cases hBk : bankB l with
  | false =>
    obtain ⟨e1, e2⟩ := code_bad (n := n) (a := a) hBk
    rw [e1, e2] at hI
    rw [e1] at hS
    clear e1 e2 hBk
    obtain ⟨c0, c1, c2⟩ := HP.out.three
    obtain ⟨d0, d1, d2⟩ := HA.out.three
    go_wp2_with fail
    refine (hI _ HU.out HN.out).mono ?_
    rintro e w3 ⟨ad3, c3, rfl, -, hb3⟩
    clear c0 c1 c2 d0 d1 d2
    obtain ⟨c0, c1, c2⟩ := (HP.out.below hb3).three
    obtain ⟨d0, d1, d2⟩ := (HA.out.below hb3).three
    simp only [List.length_nil]
    go_wp2_with fail
    refine (hS _ (HU.out.below hb3) (HN.out.below hb3)).mono ?_
    rintro e w4 ⟨v4, rfl, hb4⟩
    clear c0 c1 c2 d0 d1 d2
    have HBF := hidden (onto (onto HB.out hb3) hb4)
    go_wp2_with fail
    go_ret
    exact ⟨rfl, HBF.out⟩
  | true =>
    have hne1 : (codeB l n a == 1) = false := by simpa using code_ne (n := n) (a := a) hBk
    obtain ⟨hPB, hPl⟩ := do_bank (n := n) (a := a) hBk
    have HPL := hidden (fun (i : Nat) (x y : Ut) (hx : l[i]? = some x) (hy : (bankDo l n a)[i]? = some y) => do_place (n := n) (a := a) hBk hx hy)
    have HGV := hidden (fun h0 h3 => do_given (n := n) (a := a) hBk h0 h3)
    have HPA : Hid (∀ y ∈ bankDo l n a, y.ant.length ≤ 4) := hidden (fun y hy => by obtain ⟨x, hx, e⟩ := do_ant y hy; rw [e]; exact HAN.out x hx)
    generalize bankDo l n a = P at *
    generalize codeB l n a = cd at *
    rw [hPl] at hI
    have hSB := fun ad c W h => sbank_any ad l.length c P W h (by omega) (fun x hx => by have := HPA.out x hx; omega)
    rw [hPB] at hSB
    have HPl := hidden hPl
    have hP300 := (bank_iff.1 hBk).1
    clear hPl hPB hBk
    obtain ⟨c0, c1, c2⟩ := HP.out.three
    obtain ⟨d0, d1, d2⟩ := HA.out.three
    go_wp2_with fail
    refine (hI _ HU.out HN.out).mono ?_
    rintro e w3 ⟨ad3, c3, rfl, hU3, hb3⟩
    have HQ := hidden hU3
    clear c0 c1 c2 d0 d1 d2 hU3 hI
    obtain ⟨c0, c1, c2⟩ := (HP.out.below hb3).three
    obtain ⟨d0, d1, d2⟩ := (HA.out.below hb3).three
    go_wp2_with fail
    refine (hS _ (HU.out.below hb3) (HN.out.below hb3)).mono ?_
    rintro e w4 ⟨v4, rfl, hb4⟩
    clear c0 c1 c2 d0 d1 d2 hS
    go_wp2_with fail
    refine (hSB ad3 c3 _ (HQ.out.below hb4)).mono ?_
    rintro e w5 ⟨rfl, hb5⟩
    have b35 := onto hb4 hb5
    have b25 := onto hb3 b35
    have HP5 := hidden (HP.out.below b25)
    have HA5 := hidden (HA.out.below b25)
    have HU5 := hidden (HU.out.below b25)
    have HN5 := hidden (HN.out.below b25)
    have HQ5 := hidden (HQ.out.below b35)
    have HB5 := hidden (onto HB.out b25)
    clear HP HA HU HN HQ HB hb3 hb4 hb5 b35 b25 hSB
    go_wp2_with fail
    go_loopw [10] (fun iv wr => ∃ (i : Nat), i ≤ l.length ∧ iv = .int .i64 i ∧ Below w5.heap.size w5 wr) (fun iv _ => l.length - (intOf iv).toNat)
    case atStart => exact ⟨0, Nat.zero_le _, rfl, Below.refl _ _⟩
    case round =>
      obtain ⟨i, hi, rfl, hb⟩ := hrel
      by_cases hlt : i < l.length
      · have hlti : (i : Int) < (l.length : Int) := by omega
        obtain ⟨x, hx⟩ := some_of l i hlt
        obtain ⟨y, hy⟩ := some_of P i (by have := HPl.out; omega)
        obtain ⟨f1, f2⟩ := HPL.out i x y hx hy
        obtain ⟨g1, o1, ta, tc, rfl, hg1, hr1, p0, p1, p2, p3, p4, p5⟩ := (HU5.out.below hb).at hx
        obtain ⟨g2, o2, ta2, tc2, rfl, hg2, hr2, q0, q1, q2, q3, q4, q5⟩ := (HQ5.out.below hb).at hy
        have hx4 := HAN.out x (List.mem_of_getElem? hx)
        have HR1 := hidden hr1
        have HE : Hid (((((cd != 0) || (y.id != a.id)) && ((y.st != x.st) || (y.fr != x.fr))) || ((((cd == 0) && (y.id == a.id)) && (a.k == 3)) && (!(fitsB x n)))) = false) := hidden (by
          rw [Bool.eq_false_iff]
          intro h
          simp only [Bool.or_eq_true, Bool.and_eq_true, bne_iff_ne, ne_eq, beq_iff_eq, Bool.not_eq_true'] at h
          rcases h with ⟨h1, h2⟩ | ⟨⟨⟨h1, h2⟩, h3⟩, h4⟩
          · obtain ⟨s1, s2⟩ := f1 h1
            rcases h2 with h2 | h2
            · exact h2 s1
            · exact h2 s2
          · rw [f2 h1 h2 h3] at h4
            cases h4)
        have hIF := fun W (hW : Below wr.heap.size wr W) => ifits_any x ta x.ant.length tc n na n.ag.length nc W (HR1.out.below hW) (by omega) ((HN5.out.below hb).below hW) (by omega)
        unfold aU aN at hIF
        clear hr1 hr2 hx hy f1 f2
        go_upto_region 15 with fail
        refine regFb15 (n := n) (cd := cd) (a9 := a) rfl rfl rfl rfl rfl rfl rfl hlt hg1 hg2 p0 p1 p2 p3 p4 p5 q0 q4 q5 (HP5.out.below hb) (HA5.out.below hb) hIF ?_
        intro b' w6 hf hb6 hv65
        have hbb := onto hb hb6
        rw [layFb15 hf, hv65, HE.out]
        clear hf hv65 hIF p0 p1 p2 p3 p4 p5 q0 q1 q2 q3 q4 q5
        generalize Rg.out (Rg.opsOf Try.f4 15) b' 0 = y0
        generalize Rg.out (Rg.opsOf Try.f4 15) b' 1 = y1
        generalize Rg.out (Rg.opsOf Try.f4 15) b' 2 = y2
        generalize Rg.out (Rg.opsOf Try.f4 15) b' 3 = y3
        generalize Rg.out (Rg.opsOf Try.f4 15) b' 4 = y4
        generalize Rg.out (Rg.opsOf Try.f4 15) b' 5 = y5
        generalize Rg.out (Rg.opsOf Try.f4 15) b' 6 = y6
        generalize Rg.out (Rg.opsOf Try.f4 15) b' 7 = y7
        generalize Rg.out (Rg.opsOf Try.f4 15) b' 8 = y8
        generalize Rg.out (Rg.opsOf Try.f4 15) b' 9 = y9
        generalize Rg.out (Rg.opsOf Try.f4 15) b' 10 = y10
        generalize Rg.out (Rg.opsOf Try.f4 15) b' 11 = y11
        generalize Rg.out (Rg.opsOf Try.f4 15) b' 12 = y12
        generalize Rg.out (Rg.opsOf Try.f4 15) b' 13 = y13
        generalize Rg.out (Rg.opsOf Try.f4 15) b' 14 = y14
        generalize Rg.out (Rg.opsOf Try.f4 15) b' 15 = y15
        generalize Rg.out (Rg.opsOf Try.f4 15) b' 16 = y16
        generalize Rg.out (Rg.opsOf Try.f4 15) b' 17 = y17
        generalize Rg.out (Rg.opsOf Try.f4 15) b' 18 = y18
        generalize Rg.out (Rg.opsOf Try.f4 15) b' 19 = y19
        generalize Rg.out (Rg.opsOf Try.f4 15) b' 20 = y20
        generalize Rg.out (Rg.opsOf Try.f4 15) b' 21 = y21
        generalize Rg.out (Rg.opsOf Try.f4 15) b' 22 = y22
        generalize Rg.out (Rg.opsOf Try.f4 15) b' 23 = y23
        generalize Rg.out (Rg.opsOf Try.f4 15) b' 24 = y24
        generalize Rg.out (Rg.opsOf Try.f4 15) b' 25 = y25
        generalize Rg.out (Rg.opsOf Try.f4 15) b' 26 = y26
        generalize Rg.out (Rg.opsOf Try.f4 15) b' 27 = y27
        generalize Rg.out (Rg.opsOf Try.f4 15) b' 28 = y28
        generalize Rg.out (Rg.opsOf Try.f4 15) b' 29 = y29
        generalize Rg.out (Rg.opsOf Try.f4 15) b' 30 = y30
        generalize Rg.out (Rg.opsOf Try.f4 15) b' 31 = y31
        generalize Rg.out (Rg.opsOf Try.f4 15) b' 32 = y32
        generalize Rg.out (Rg.opsOf Try.f4 15) b' 33 = y33
        generalize Rg.out (Rg.opsOf Try.f4 15) b' 34 = y34
        generalize Rg.out (Rg.opsOf Try.f4 15) b' 35 = y35
        generalize Rg.out (Rg.opsOf Try.f4 15) b' 36 = y36
        generalize Rg.out (Rg.opsOf Try.f4 15) b' 37 = y37
        generalize Rg.out (Rg.opsOf Try.f4 15) b' 38 = y38
        generalize Rg.out (Rg.opsOf Try.f4 15) b' 39 = y39
        generalize Rg.out (Rg.opsOf Try.f4 15) b' 40 = y40
        generalize Rg.out (Rg.opsOf Try.f4 15) b' 41 = y41
        generalize Rg.out (Rg.opsOf Try.f4 15) b' 42 = y42
        generalize Rg.out (Rg.opsOf Try.f4 15) b' 43 = y43
        generalize Rg.out (Rg.opsOf Try.f4 15) b' 44 = y44
        generalize Rg.out (Rg.opsOf Try.f4 15) b' 45 = y45
        generalize Rg.out (Rg.opsOf Try.f4 15) b' 46 = y46
        generalize Rg.out (Rg.opsOf Try.f4 15) b' 47 = y47
        generalize Rg.out (Rg.opsOf Try.f4 15) b' 48 = y48
        generalize Rg.out (Rg.opsOf Try.f4 15) b' 49 = y49
        generalize Rg.out (Rg.opsOf Try.f4 15) b' 50 = y50
        generalize Rg.out (Rg.opsOf Try.f4 15) b' 51 = y51
        generalize Rg.out (Rg.opsOf Try.f4 15) b' 52 = y52
        generalize Rg.out (Rg.opsOf Try.f4 15) b' 53 = y53
        generalize Rg.out (Rg.opsOf Try.f4 15) b' 54 = y54
        generalize Rg.out (Rg.opsOf Try.f4 15) b' 55 = y55
        generalize Rg.out (Rg.opsOf Try.f4 15) b' 56 = y56
        generalize Rg.out (Rg.opsOf Try.f4 15) b' 57 = y57
        generalize Rg.out (Rg.opsOf Try.f4 15) b' 58 = y58
        generalize Rg.out (Rg.opsOf Try.f4 15) b' 59 = y59
        generalize Rg.out (Rg.opsOf Try.f4 15) b' 60 = y60
        generalize Rg.out (Rg.opsOf Try.f4 15) b' 61 = y61
        generalize Rg.out (Rg.opsOf Try.f4 15) b' 62 = y62
        generalize Rg.out (Rg.opsOf Try.f4 15) b' 63 = y63
        generalize Rg.out (Rg.opsOf Try.f4 15) b' 64 = y64
        go_frame
        go_wp2_with fail
        go_roundw
        case rel => exact ⟨i + 1, by omega, rfl, hbb⟩
        case measure => simp [intOf]; omega
      · have hlti : ¬ (i : Int) < (l.length : Int) := by omega
        obtain ⟨c0, c1, c2⟩ := (HP5.out.below hb).three
        obtain ⟨d0, d1, d2⟩ := (HA5.out.below hb).three
        have HBr := hidden (onto HB5.out hb)
        by_cases hcd : cd = 0
        · have HC := hidden hcd
          clear hcd
          have hcd : (cd == 0) = true := by rw [HC.out]; rfl
          by_cases hk3 : a.k = 3
          · obtain ⟨hG1, hG2⟩ := HGV.out HC.out hk3
            have HG1 := hidden hG1
            have HG2 := hidden hG2
            have hkb : (a.k == 3) = true := by rw [hk3]; rfl
            clear hG1 hG2 hk3
            go_wp2_with fail
            go_loopw [11, 12, 13] (fun kv _ _ wq => ∃ (k : Int), 1 ≤ k ∧ k ≤ 5 ∧ kv = .int .i64 k ∧ Below w5.heap.size w5 wq) (fun kv _ _ _ => (5 - intOf kv).toNat)
            case atStart => exact ⟨1, by omega, by omega, rfl, hb⟩
            case round =>
              clear c0 c1 c2 d0 d1 d2
              obtain ⟨k, hk1, hk5, rfl, hq⟩ := hrel
              obtain ⟨c0, c1, c2⟩ := (HP5.out.below hq).three
              obtain ⟨d0, d1, d2⟩ := (HA5.out.below hq).three
              by_cases hk4 : k ≤ 4
              · have hI2 := fun W h1 h2 => ibdoU_any ad3 l.length c3 P n na nc ⟨k, a.id, a.t⟩ W h1 (by have := HPl.out; omega) HPA.out h2 hag
                rw [HG1.out k hk1 hk4] at hI2
                dsimp only at hI2
                go_wp2_with fail
                refine (hI2 _ (HQ5.out.below hq) (HN5.out.below hq)).mono ?_
                rintro e w6 ⟨ad6, c6, rfl, -, hb6⟩
                have hbb := onto hq hb6
                clear c0 c1 c2 d0 d1 d2 hI2
                go_wp2_with fail
                go_roundw
                case rel => exact ⟨k + 1, by omega, by omega, rfl, hbb⟩
                case measure => simp [intOf]; omega
              · have hT := fun W h => itrace_any ad3 l.length c3 P n.p W h (by have := HPl.out; omega) (fun x hx => by have := HPA.out x hx; omega)
                have htl : (trace P n.p).length ≤ 1048576 := by have := trace_len (p := n.p) (l := P) (by have := HPl.out; omega); omega
                generalize trace P n.p = TL at *
                have hHS := fun ad1 c1 b1 W h => hasZ_any ad1 c1 b1 2 TL a.id W h htl HG2.out
                go_upto_region 25 with fail
                refine regFb25 (TL := TL) rfl rfl rfl rfl (HP5.out.below hq) (HA5.out.below hq) (fun W hW => hT W ((HQ5.out.below hq).below hW)) hHS ?_
                intro b' w7 hf hb7 hv7
                have HBF := hidden (onto (onto HB5.out hq) hb7)
                rw [layFb25 hf, hv7]
                clear hT hHS c0 c1 c2 d0 d1 d2
                generalize Rg.out (Rg.opsOf Try.f4 25) b' 0 = y0
                generalize Rg.out (Rg.opsOf Try.f4 25) b' 1 = y1
                generalize Rg.out (Rg.opsOf Try.f4 25) b' 2 = y2
                generalize Rg.out (Rg.opsOf Try.f4 25) b' 3 = y3
                generalize Rg.out (Rg.opsOf Try.f4 25) b' 4 = y4
                generalize Rg.out (Rg.opsOf Try.f4 25) b' 5 = y5
                generalize Rg.out (Rg.opsOf Try.f4 25) b' 6 = y6
                go_frame
                go_wp2_with fail
                go_ret
                exact ⟨rfl, HBF.out⟩
          · have hkb : (a.k == 3) = false := by simpa using hk3
            go_wp2_with fail
            go_ret
            exact ⟨rfl, HBr.out⟩
        · have hcdb : (cd == 0) = false := by simpa using hcd
          go_wp2_with fail
          go_ret
          exact ⟨rfl, HBr.out⟩
end Go.Proofs.Ytaidhcbchpcemaa
