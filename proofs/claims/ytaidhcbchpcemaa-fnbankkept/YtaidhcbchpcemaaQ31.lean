/-
  A bank told again; deeds on banks, the program.
-/
import Derived.Test.YtaidhcbchpcemaaQ30
import Derived.Test.YtaidhcbchpcemaaQ24
namespace Go.Proofs.Ytaidhcbchpcemaa
open Go.RowKit Va Bl
set_option linter.all false

set_option maxRecDepth 20000 in
set_option maxHeartbeats 8000000 in
theorem itoldu_any (L : List (Ut × Value)) (ab : Option Addr) (cb b : Nat) (w : World) (ho : w.ownsRow b 69 1 (.slice ab L.length cb) L.length (L.map aI)) (hs : ∀ p ∈ L, ∃ a n c, p.2 = .slice a n c) (hL : L.length ≤ 300) :
    Calls Try.prog 39 #[.slice ab L.length cb] w fun e w' => ∃ ad c, e = .returned (.slice ad L.length c) ∧ w'.ownsRow w.heap.size 37 6 (.slice ad L.length c) L.length (cellsU L) ∧ Below w.heap.size w w' := by
  have HO := hidden ho
  have HS := hidden hs
  clear ho hs
  obtain ⟨j0, hj0, hy0, hy1, hy2⟩ := info_partsW infoUq
  go_enter Try.func39, Try.ntmps39
  go_wp2_with (refine wpList_make_own _ rfl (.const (.int .i64 0)) (.tmp 7) 25 rfl w.heap.size 37 j0 (.agg #[.int .i64 0, .int .i64 0, .slice none 0 0, .int .i64 0, .int .i64 0, .int .i64 0]) 6 Try.underlying25 hj0 hy0 hy1 .i64 .i64 _ L.length rfl rfl rfl (by rw [hy2]; omega) (by unfold maxLen; omega) (Nat.le_refl _) ?_; intro w1 ho1 hg1)
  have b1 : Below w.heap.size w w1 := (Below.refl _ w).grown hg1 (Nat.le_refl _) (by simp)
  clear hg1
  go_wp2_with fail
  go_loopw [3, 5, 11] (fun sv _ iv wr => ∃ i : Nat, i ≤ L.length ∧ iv = .int .i64 i ∧ (∃ (M : List (Ut × Value)) (ad : Option Addr) (c : Nat), sv = .slice ad M.length c ∧ wr.ownsRow w.heap.size 37 6 (.slice ad M.length c) M.length (cellsU M) ∧ Hid (M = L.take i) ∧ M.length ≤ i) ∧ Below w.heap.size w wr) (fun _ _ iv _ => L.length - (intOf iv).toNat)
  case atStart => exact ⟨0, Nat.zero_le _, rfl, ⟨[], _, _, rfl, ho1, rfl, Nat.le_refl _⟩, b1⟩
  case round =>
    clear ho1 b1
    obtain ⟨i, hi, rfl, ⟨M, ad, c, rfl, ho, HM, hMl⟩, hb⟩ := hrel
    have OM := hidden ho
    have hsz := hb.size
    clear ho
    by_cases hlt : i < L.length
    · have hlti : (i : Int) < (L.length : Int) := by omega
      obtain ⟨⟨x, tv⟩, hx⟩ := some_of L i hlt
      obtain ⟨ta, tn, tc, htv⟩ := HS.out _ (List.mem_of_getElem? hx)
      dsimp only at htv
      subst htv
      obtain ⟨g, c9, he, -, hg, -, u0⟩ := own_at (ownW_below HO.out hb) hx
      simp only [Value.slice.injEq, true_and] at he
      obtain ⟨rfl, rfl⟩ := he
      have k2 := fun W => told_any x ta tn tc W
      have hm := fun a b c d e s W => m_told x.st a b c d e s W
      have HN : Hid (M ++ [(x, Value.slice ta tn tc)] = L.take (i + 1)) := by rw [Hid, HM.out, take_snocU hx]
      unfold aI aU at u0
      unfold aU at k2
      dsimp only at u0
      clear hx
      go_wp2_with (first | (go_at_call 123; refine (k2 _).mono ?_; rintro e w5 ⟨rfl, hb5⟩; have bC := onto hb hb5; have O5 := hidden (ownW_below OM.out hb5); have z5 := bC.size; clear hb5) | (at_builtin; refine wpList_append_own _ rfl (.tmp 15) (.tmp 18) 25 rfl w.heap.size 37 j0 (.agg #[.int .i64 0, .int .i64 0, .slice none 0 0, .int .i64 0, .int .i64 0, .int .i64 0]) 6 64 Try.underlying25 hj0 hy0 hy1 hy2 rfl (by decide) _ M.length (cellsU M) rfl (O5.out.alloc _) ⟨w5.heap.size, 0, none⟩ 1 1 (cells6 (x, Value.slice ta tn tc)) rfl rfl (cell6U _ (x, Value.slice ta tn tc) _) (oneU _ _ _ _) (by unfold maxLen; omega) (by omega) (by simp; omega) ?_; intro v4 w4 ho4 hg4 hnn4; have hO4 := hidden ho4; obtain ⟨ad4, c4, rfl⟩ := ownW_slice ho4))
      have b4 := grownQ (show Below w.heap.size w (w5.alloc (.cells #[.int .i64 x.id, .int .i64 x.grp, Value.slice ta tn tc, .int .i64 x.til, .int .i64 x.st, .int .i64 x.fr] 37)) from by repeat (first | exact Below.refl _ _ | assumption | refine st_drew ?_ | refine st_drewN ?_ _ | refine Below.setCell ?_ (by first | omega | (simp; done) | (simp; omega)) _ | refine Below.alloc ?_ (by first | omega | (simp; done) | (simp; omega)) _)) (by simp; omega) hg4 (fun k hk => (ownW_lt OM.out k hk).1)
      go_roundw
      case rel => exact ⟨i + 1, by omega, rfl, ⟨M ++ [(x, .slice ta tn tc)], ad4, c4, by rw [List.length_append]; rfl, by rw [cellsU_app, List.length_append]; exact hO4.out, HN, by rw [List.length_append]; simp; omega⟩, b4⟩
      case measure => simp [intOf]; omega
    · have hlti : ¬ (i : Int) < (L.length : Int) := by omega
      have hil : i = L.length := by omega
      subst hil
      have hML : M = L := by have := HM.out; rwa [List.take_length] at this
      subst hML
      go_wp2_with fail
      go_ret
      exact ⟨ad, c, rfl, OM.out, hb⟩

set_option maxRecDepth 20000 in
set_option maxHeartbeats 8000000 in
theorem ibdo_any (ao : Option Addr) (len cap : Nat) (l : List Ut) (n : Nd) (na : Option Addr) (nn nc : Nat) (a : Da) (w : World) (h : URw w (.slice ao len cap) l) (hn : l.length ≤ 1048576) (ht : ∀ x ∈ l, x.ant.length ≤ 1048576) (h' : IRw w (.slice na nn nc) n.ag) (hn' : n.ag.length ≤ 1048576) :
    Calls Try.prog 14 #[.slice ao len cap, aN n (.slice na nn nc), aDo a] w fun e w' => ∃ (M : List (Ut × Value)) (ad : Option Addr) (c : Nat), e = .returned (.tuple #[.slice ad M.length c, .int .i64 (codeB l n a)]) ∧ M.map Prod.fst = bankDo l n a ∧ w'.ownsRow w.heap.size 37 6 (.slice ad M.length c) M.length (cellsU M) ∧ Antis w' w.heap.size M ∧ Below w.heap.size w w' := by
  obtain rfl := h.len
  have hK := fun W hW => ibank_any ao l.length cap l W hW hn ht
  have b0 : Below w.heap.size w ((w.alloc (.cells #[.int .i64 n.p, .int .i64 n.g, .slice na nn nc] 28)).alloc (.cells #[.int .i64 a.k, .int .i64 a.id, .int .i64 a.t] 30)) := by repeat (first | exact Below.refl _ _ | assumption | refine st_drew ?_ | refine st_drewN ?_ _ | refine Below.setCell ?_ (by first | omega | (simp; done) | (simp; omega)) _ | refine Below.alloc ?_ (by first | omega | (simp; done) | (simp; omega)) _)
  have PN := hidden ((PB.new w #[.int .i64 n.p, .int .i64 n.g, .slice na nn nc] 28).alloc (.cells #[.int .i64 a.k, .int .i64 a.id, .int .i64 a.t] 30))
  have PD := hidden (PB.new (w.alloc (.cells #[.int .i64 n.p, .int .i64 n.g, .slice na nn nc] 28)) #[.int .i64 a.k, .int .i64 a.id, .int .i64 a.t] 30)
  simp only [World.size_alloc] at PD PN
  have HH := hidden (fun W (hW : Below w.heap.size w W) => h.below hW)
  have HN := hidden (fun W (hW : Below w.heap.size w W) => h'.below hW)
  have HT := hidden ht
  clear h h' ht
  cases hB : bankB l with
  | false =>
    rw [hB] at hK
    have HC : Hid (codeB l n a = 1) := by rw [Hid, codeB, if_neg (by rw [hB]; simp)]
    have HD : Hid (bankDo l n a = []) := by rw [Hid, bankDo, if_neg (by rw [hB]; simp)]
    rw [HC.out]
    clear hB
    unfold aDo aN
    go_enter Try.func14, Try.ntmps14
    go_wp2_with (go_at_call 27; refine (hK _ (HH.out _ b0)).mono ?_; rintro e w1 ⟨rfl, hb1⟩; have bA := onto b0 hb1; have z1 := bA.size; have O1 := hidden (ownW_new w1 37 6); clear hb1)
    go_ret2
    exact ⟨[], _, _, rfl, HD.out.symm, ownW_base O1.out z1, Antis.nil _ _, by repeat (first | exact Below.refl _ _ | assumption | refine st_drew ?_ | refine st_drewN ?_ _ | refine Below.setCell ?_ (by first | omega | (simp; done) | (simp; omega)) _ | refine Below.alloc ?_ (by first | omega | (simp; done) | (simp; omega)) _)⟩
  | true =>
    rw [hB] at hK
    have hl3 := bank_len hB
    have HE := hidden (codeB_on (n := n) (a := a) hB)
    have hJ := fun W hW => bankof_any ao l.length cap l W hW hl3 HT.out
    clear hB
    unfold aDo aN
    go_enter Try.func14, Try.ntmps14
    go_wp2_with fail
    refine (hK _ (HH.out _ b0)).mono ?_
    rintro e w1 ⟨rfl, hb1⟩
    have PD1 := hidden (PD.out.below hb1)
    have PN1 := hidden (PN.out.below hb1)
    have bA := onto b0 hb1
    clear hb1 PD PN b0 hK
    go_wp2_with fail
    refine (hJ _ (HH.out _ bA)).mono ?_
    rintro e w2 ⟨L, ab, cb, rfl, hLl, hob, hAn, hb2⟩
    have hLl2 := hidden hLl
    have hLn : L.length ≤ 300 := by have := congrArg List.length hLl; rw [List.length_map] at this; omega
    have PD2 := hidden (PD1.out.below hb2)
    have PN2 := hidden (PN1.out.below hb2)
    have bB := onto bA hb2
    have K2 := idoon_any a L ab cb n na nn nc w w2 (ownW_base hob bA.size) (hAn.base bA.size) (fun p hp => HT.out p.1 (by rw [← hLl]; exact List.mem_map_of_mem hp)) hLn (HN.out _ bB) hn' bB
    rw [hLl] at K2
    have HAn := hidden hAn
    clear hLl hob hAn hb2 PD1 PN1 bA hJ
    unfold aDo aN at K2
    obtain ⟨p0, p1, p2⟩ := PD2.out.three
    obtain ⟨q0, q1, q2⟩ := PN2.out.three
    go_wp2_with fail
    refine K2.mono ?_
    rintro e w3 ⟨rfl, L', hL', hLL, ho3, hA3, b3⟩
    rw [← hLL] at ho3
    have HL' := hidden hL'
    have HLL := hidden hLL
    have K3 := itoldu_any L' ab cb w.heap.size w3 ho3 (fun p hp => by obtain ⟨a1, c1, hh⟩ := ownW_slice (hA3.1 p hp); exact ⟨_, _, _, hh⟩) (by omega)
    rw [hLL] at K3
    have HA3 := hidden hA3
    have z3 := b3.size
    clear hL' hLL ho3 hA3 K2 p0 p1 p2 q0 q1 q2 PD2 PN2 bB
    go_wp2_with fail
    refine K3.mono ?_
    rintro e w4 ⟨ad, c, rfl, ho4, hb4⟩
    have b4 := onto b3 hb4
    have O4 := hidden (ownW_base ho4 z3)
    have A4 := hidden (HA3.out.below hb4)
    clear hb4 ho4 K3 b3
    go_wp2_with fail
    go_ret2
    refine ⟨L', ad, c, ?_, ?_, ?_, A4.out, b4⟩
    · rw [HE.out.1, HLL.out]; rfl
    · rw [HL'.out, HE.out.2]
    · rw [HLL.out]; exact O4.out

end Go.Proofs.Ytaidhcbchpcemaa
