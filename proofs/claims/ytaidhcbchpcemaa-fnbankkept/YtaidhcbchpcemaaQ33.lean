/-
  Deeds on banks, as the specification says.
-/
import Derived.Test.YtaidhcbchpcemaaQ32
import Derived.Test.YtaidhcbchpcemaaRs
namespace Go.Proofs.Ytaidhcbchpcemaa
open Go.RowKit Va Bl
set_option linter.all false


def FSb10 (B g off n cap i : Nat) (a9 : Da) (xi : Int) (i9 : Nat) (v : Value) (w : World) : Prop :=
  match i9 with
  | 0 => v = .slice (some ⟨g, off, none⟩) n cap
  | 1 => v = .int .i64 (i : Nat)
  | 2 => v = .pointer (some ⟨g, off + i * 6, none⟩)
  | 3 => v = .pointer (some ⟨g, off + i * 6, none⟩)
  | 4 => v = .int .i64 xi
  | 5 => v = .pointer (some ⟨B, 1, none⟩)
  | 6 => v = .int .i64 a9.id
  | 7 => v = .bool (decide (xi = a9.id))
  | _ => True
theorem sizeSb10 : (Rg.opsOf Try.f15 10).size = 8 := by kernel_rfl

set_option maxRecDepth 20000 in
set_option maxHeartbeats 8000000 in
theorem regSb10 {Q : Exit → Act → World → Prop} {a : Act} {w9 : World} {B g off n cap i : Nat} {a9 : Da} {xi : Int} (ha : a.tmps.size = 158)
    (k0 : a.tmps[0]? = some (.slice (some ⟨g, off, none⟩) n cap)) (k5 : a.tmps[5]? = some (.pointer (some ⟨B, 0, none⟩))) (k10 : a.tmps[10]? = some (.int .i64 (i : Nat))) (hD : PB w9 B #[.int .i64 a9.k, .int .i64 a9.id, .int .i64 a9.t] 30)(hin : i < n) (hgl : g < w9.heap.size) (y0 : w9.cell? ⟨g, off + i * 6, none⟩ = some (.int .i64 xi))
    (hend : ∀ b' w', Rg.Fr (Rg.opsOf Try.f15 10) a b' → Below w9.heap.size w9 w' → Rg.out (Rg.opsOf Try.f15 10) b' 7 = .bool (decide (xi = a9.id)) → Q .normal b' w') :
    (Code.region 10 (Rg.opsOf Try.f15 10) true).wp Try.prog Q a w9 := by
  refine Rg.region_set3 (by kernel_rfl) (fun _ w' => Below w9.heap.size w9 w') (FSb10 B g off n cap i a9 xi) (by rw [ha, sizeSb10]; kernel_rfl) (st_drew (Below.refl _ _)) ?_ ?_
  case refine_2 =>
    intro l b' w' hf hall hI hA
    rw [sizeSb10] at hA
    exact hend b' w' hf hI (hA 7 (by decide))
  case refine_1 =>
    clear hend
    have HS : ∀ {w w' : World}, Below w.heap.size w w' → ∀ k9 y9, FSb10 B g off n cap i a9 xi k9 y9 w → FSb10 B g off n cap i a9 xi k9 y9 w' := fun hb k9 y9 h => by
      unfold FSb10 at *
      split at h <;> exact h
    intro i' hi'
    rw [sizeSb10] at hi'
    rcases (show i' = 0 ∨ i' = 1 ∨ i' = 2 ∨ i' = 3 ∨ i' = 4 ∨ i' = 5 ∨ i' = 6 ∨ i' = 7 by omega) with rfl | rfl | rfl | rfl | rfl | rfl | rfl | rfl
    · intro ll bb w' hs hlf hN hO hf hI hA
      clear hi'
      have q0 := hf.kept (s := 0) (by rw [sizeSb10]; kernel_rfl) k0
      exact Rg.op_value (o := ⟨some 47, Op.move (Operand.tmp 0), _, _, _, _⟩) (x := .slice (some ⟨g, off, none⟩) n cap) rfl rfl (by clear hA HS hN hO hD; simp only [execOp]; go_simp) ⟨_, rfl, (fun h => by cases h), rfl, hI, fun _ _ _ _ h => h⟩
    · intro ll bb w' hs hlf hN hO hf hI hA
      clear hi'
      have q0 := hf.kept (s := 10) (by rw [sizeSb10]; kernel_rfl) k10
      exact Rg.op_value (o := ⟨some 48, Op.move (Operand.tmp 10), _, _, _, _⟩) (x := .int .i64 (i : Nat)) rfl rfl (by clear hA HS hN hO hD; simp only [execOp]; go_simp) ⟨_, rfl, (fun h => by cases h), rfl, hI, fun _ _ _ _ h => h⟩
    · intro ll bb w' hs hlf hN hO hf hI hA
      clear hi'
      have q47 : bb.tmps[47]? = some _ := hf.tmp (k := 0) rfl (by rw [ha]; decide) (hA 0 (by kernel_rfl))
      have q48 : bb.tmps[48]? = some _ := hf.tmp (k := 1) rfl (by rw [ha]; decide) (hA 1 (by kernel_rfl))
      have hi5 : ((i : Nat) : Int) < (n : Int) := by omega
      exact Rg.op_value (o := ⟨some 49, Op.indexAddr 25 (Operand.tmp 47) (Operand.tmp 48), _, _, _, _⟩) (x := .pointer (some ⟨g, off + i * 6, none⟩)) rfl rfl (by clear hA HS hN hO hD; simp only [execOp]; go_simp) ⟨_, rfl, (fun h => by cases h), rfl, hI, fun _ _ _ _ h => h⟩
    · intro ll bb w' hs hlf hN hO hf hI hA
      clear hi'
      have q49 : bb.tmps[49]? = some _ := hf.tmp (k := 2) rfl (by rw [ha]; decide) (hA 2 (by kernel_rfl))
      exact Rg.op_value (o := ⟨some 50, Op.fieldAddr 37 (Operand.tmp 49) 0, _, _, _, _⟩) (x := .pointer (some ⟨g, off + i * 6, none⟩)) rfl rfl (by clear hA HS hN hO hD; simp only [execOp]; go_simp) ⟨_, rfl, (fun h => by cases h), rfl, hI, fun _ _ _ _ h => h⟩
    · intro ll bb w' hs hlf hN hO hf hI hA
      clear hi'
      have q50 : bb.tmps[50]? = some _ := hf.tmp (k := 3) rfl (by rw [ha]; decide) (hA 3 (by kernel_rfl))
      have e8 := (hI.cell (p := ⟨g, off + i * 6, none⟩) hgl).trans y0
      exact Rg.op_value (o := ⟨some 51, Op.load 2 (Operand.tmp 50), _, _, _, _⟩) (x := .int .i64 xi) rfl rfl (by clear hA HS hN hO hD; simp only [execOp]; go_simp) ⟨_, rfl, (fun h => by cases h), rfl, hI, fun _ _ _ _ h => h⟩
    · intro ll bb w' hs hlf hN hO hf hI hA
      clear hi'
      have q5 := hf.kept (s := 5) (by rw [sizeSb10]; kernel_rfl) k5
      exact Rg.op_value (o := ⟨some 52, Op.fieldAddr 30 (Operand.tmp 5) 1, _, _, _, _⟩) (x := .pointer (some ⟨B, 1, none⟩)) rfl rfl (by clear hA HS hN hO hD; simp only [execOp]; go_simp) ⟨_, rfl, (fun h => by cases h), rfl, hI, fun _ _ _ _ h => h⟩
    · intro ll bb w' hs hlf hN hO hf hI hA
      clear hi'
      have q52 : bb.tmps[52]? = some _ := hf.tmp (k := 5) rfl (by rw [ha]; decide) (hA 5 (by kernel_rfl))
      obtain ⟨b0, b1, b2⟩ := (hD.below hI).three
      exact Rg.op_value (o := ⟨some 53, Op.load 2 (Operand.tmp 52), _, _, _, _⟩) (x := .int .i64 a9.id) rfl rfl (by clear hA HS hN hO hD; simp only [execOp]; go_simp) ⟨_, rfl, (fun h => by cases h), rfl, hI, fun _ _ _ _ h => h⟩
    · intro ll bb w' hs hlf hN hO hf hI hA
      clear hi'
      have q51 : bb.tmps[51]? = some _ := hf.tmp (k := 4) rfl (by rw [ha]; decide) (hA 4 (by kernel_rfl))
      have q53 : bb.tmps[53]? = some _ := hf.tmp (k := 6) rfl (by rw [ha]; decide) (hA 6 (by kernel_rfl))
      exact Rg.op_value (o := ⟨some 54, Op.binOp BinOp.eql 2 (Operand.tmp 51) (Operand.tmp 53) 2, _, _, _, _⟩) (x := .bool (decide (xi = a9.id))) rfl rfl (by clear hA HS hN hO hD; simp only [execOp]; go_simp; try rfl) ⟨_, rfl, (fun h => by cases h), rfl, hI, fun _ _ _ _ h => h⟩

theorem dSb10_0 : Rg.dstAt (Rg.opsOf Try.f15 10) 0 = some 47 := by kernel_rfl
theorem dSb10_1 : Rg.dstAt (Rg.opsOf Try.f15 10) 1 = some 48 := by kernel_rfl
theorem dSb10_2 : Rg.dstAt (Rg.opsOf Try.f15 10) 2 = some 49 := by kernel_rfl
theorem dSb10_3 : Rg.dstAt (Rg.opsOf Try.f15 10) 3 = some 50 := by kernel_rfl
theorem dSb10_4 : Rg.dstAt (Rg.opsOf Try.f15 10) 4 = some 51 := by kernel_rfl
theorem dSb10_5 : Rg.dstAt (Rg.opsOf Try.f15 10) 5 = some 52 := by kernel_rfl
theorem dSb10_6 : Rg.dstAt (Rg.opsOf Try.f15 10) 6 = some 53 := by kernel_rfl
theorem dSb10_7 : Rg.dstAt (Rg.opsOf Try.f15 10) 7 = some 54 := by kernel_rfl
theorem laySb10 {a b : Act} (hf : Rg.Fr (Rg.opsOf Try.f15 10) a b) : b = ((((((((a.put (some 47) (Rg.out (Rg.opsOf Try.f15 10) b 0)).put (some 48) (Rg.out (Rg.opsOf Try.f15 10) b 1)).put (some 49) (Rg.out (Rg.opsOf Try.f15 10) b 2)).put (some 50) (Rg.out (Rg.opsOf Try.f15 10) b 3)).put (some 51) (Rg.out (Rg.opsOf Try.f15 10) b 4)).put (some 52) (Rg.out (Rg.opsOf Try.f15 10) b 5)).put (some 53) (Rg.out (Rg.opsOf Try.f15 10) b 6)).put (some 54) (Rg.out (Rg.opsOf Try.f15 10) b 7)) := by
  have h := hf.chain
  rw [sizeSb10, show List.range 8 = [0, 1, 2, 3, 4, 5, 6, 7] from by decide] at h
  simp only [List.foldl_cons, List.foldl_nil, dSb10_0, dSb10_1, dSb10_2, dSb10_3, dSb10_4, dSb10_5, dSb10_6, dSb10_7] at h
  exact h

theorem cellsU_turn (L : List (Ut × Value)) : ∀ i x tv s f, L[i]? = some (x, tv) → ((cellsU L).set (i * 6 + 4) (.int .i64 s)).set (i * 6 + 5) (.int .i64 f) = cellsU (L.set i ({ x with st := s, fr := f }, tv)) := by
  induction L with
  | nil => intro i x tv s f h; cases h
  | cons q L ih =>
    intro i x tv s f h
    cases i with
    | zero =>
      simp at h
      subst h
      rfl
    | succ i =>
      have e := ih i x tv s f (by simpa using h)
      show _ = cells6 q ++ cellsU (L.set i ({ x with st := s, fr := f }, tv))
      rw [← e, Nat.succ_mul]
      rfl
/-- Three stores into a unit's state and whom it is for. -/
theorem own_turn3 {w : World} {base G c : Nat} {L : List (Ut × Value)} (h : w.ownsRow base 37 6 (.slice (some ⟨G, 0, none⟩) L.length c) L.length (cellsU L)) {i : Nat} {x : Ut} {tv : Value} (hp : L[i]? = some (x, tv)) (u s f : Int) :
    (((w.setCell ⟨G, i * 6 + 5, none⟩ (.int .i64 u)).setCell ⟨G, i * 6 + 4, none⟩ (.int .i64 s)).setCell ⟨G, i * 6 + 5, none⟩ (.int .i64 f)).ownsRow base 37 6 (.slice (some ⟨G, 0, none⟩) L.length c) L.length (cellsU (L.set i ({ x with st := s, fr := f }, tv))) := by
  have hi := get_lt' hp
  have := ownQ_put (ownQ_put (ownQ_put h (i * 6 + 5) (by omega) (.int .i64 u)) (i * 6 + 4) (by omega) (.int .i64 s)) (i * 6 + 5) (by omega) (.int .i64 f)
  rw [List.set_comm _ _ (show i * 6 + 5 ≠ i * 6 + 4 by omega), List.set_set, cellsU_turn L i x tv s f hp] at this
  exact this
theorem own_turn2 {w : World} {base G c : Nat} {L : List (Ut × Value)} (h : w.ownsRow base 37 6 (.slice (some ⟨G, 0, none⟩) L.length c) L.length (cellsU L)) {i : Nat} {x : Ut} {tv : Value} (hp : L[i]? = some (x, tv)) (s f : Int) :
    ((w.setCell ⟨G, i * 6 + 5, none⟩ (.int .i64 f)).setCell ⟨G, i * 6 + 4, none⟩ (.int .i64 s)).ownsRow base 37 6 (.slice (some ⟨G, 0, none⟩) L.length c) L.length (cellsU (L.set i ({ x with st := s, fr := f }, tv))) := by
  have hi := get_lt' hp
  have := ownQ_put (ownQ_put h (i * 6 + 5) (by omega) (.int .i64 f)) (i * 6 + 4) (by omega) (.int .i64 s)
  rw [List.set_comm _ _ (show i * 6 + 5 ≠ i * 6 + 4 by omega), cellsU_turn L i x tv s f hp] at this
  exact this
def LastTo (l : List Ut) (a : Int) (i : Nat) (k : Int) : Prop := (k = -1 ∧ ∀ j y, j < i → l[j]? = some y → ¬ y.id = a) ∨ ∃ (j : Nat) (y : Ut), k = j ∧ j < i ∧ l[j]? = some y ∧ y.id = a
theorem last_end {l : List Ut} {a k : Int} (hB : bankB l = true) (h : LastTo l a l.length k) : k = plI (placeOf l a) := by
  rcases h with ⟨rfl, h⟩ | ⟨j, y, rfl, hj, hy, he⟩
  · rw [place_none h]; rfl
  · have hr : risB unitB Ut.id l = true := by unfold bankB at hB; simp only [Bool.and_eq_true] at hB; exact hB.2
    rw [place_hit hy he (fun j' y' hj' hy' e => by have := ris_one hr hy' hy (by rw [e, he]); omega)]
    rfl
theorem last_same {l : List Ut} {a k : Int} {i : Nat} {x : Ut} (h : LastTo l a i k) (hx : l[i]? = some x) (hne : ¬ x.id = a) : LastTo l a (i + 1) k := by
  rcases h with ⟨rfl, h⟩ | ⟨j, y, rfl, hj, hy, he⟩
  · refine Or.inl ⟨rfl, fun j y hj hy => ?_⟩
    rcases Nat.lt_succ_iff_lt_or_eq.1 hj with q | rfl
    · exact h j y q hy
    · obtain rfl := Option.some.inj (hx.symm.trans hy); exact hne
  · exact Or.inr ⟨j, y, rfl, by omega, hy, he⟩
theorem last_hit {l : List Ut} {a : Int} {i : Nat} {x : Ut} (hx : l[i]? = some x) (he : x.id = a) : LastTo l a (i + 1) (i : Int) := Or.inr ⟨i, x, rfl, by omega, hx, he⟩

set_option maxRecDepth 20000 in
set_option maxHeartbeats 16000000 in
theorem sbdo_any (ao : Option Addr) (len cap : Nat) (l : List Ut) (n : Nd) (na : Option Addr) (nn nc : Nat) (a : Da) (w : World) (h : URw w (.slice ao len cap) l) (hn : l.length ≤ 1048576) (ht : ∀ x ∈ l, x.ant.length ≤ 1048576) (h' : IRw w (.slice na nn nc) n.ag) (hn' : n.ag.length ≤ 1048576) :
    Calls Try.prog 15 #[.slice ao len cap, aN n (.slice na nn nc), aDo a] w fun e w' => ∃ (M : List (Ut × Value)) (ad : Option Addr) (c : Nat), e = .returned (.tuple #[.slice ad M.length c, .int .i64 (codeB l n a)]) ∧ M.map Prod.fst = bankDo l n a ∧ w'.ownsRow w.heap.size 37 6 (.slice ad M.length c) M.length (cellsU M) ∧ Antis w' w.heap.size M ∧ Below w.heap.size w w' := by
  obtain rfl := h.len
  obtain ⟨ak, ai, at9⟩ := a
  have hK := fun W hW => sbank_any ao l.length cap l W hW hn ht
  have b0 : Below w.heap.size w ((w.alloc (.cells #[.int .i64 n.p, .int .i64 n.g, .slice na nn nc] 28)).alloc (.cells #[.int .i64 ak, .int .i64 ai, .int .i64 at9] 30)) := by repeat (first | exact Below.refl _ _ | assumption | refine st_drew ?_ | refine st_drewN ?_ _ | refine Below.setCell ?_ (by first | omega | (simp; done) | (simp; omega)) _ | refine Below.alloc ?_ (by first | omega | (simp; done) | (simp; omega)) _)
  have PN := hidden ((PB.new w #[.int .i64 n.p, .int .i64 n.g, .slice na nn nc] 28).alloc (.cells #[.int .i64 ak, .int .i64 ai, .int .i64 at9] 30))
  have PD := hidden (PB.new (w.alloc (.cells #[.int .i64 n.p, .int .i64 n.g, .slice na nn nc] 28)) #[.int .i64 ak, .int .i64 ai, .int .i64 at9] 30)
  simp only [World.size_alloc] at PD PN
  have HH := hidden (fun W (hW : Below w.heap.size w W) => h.below hW)
  have HN := hidden (fun W (hW : Below w.heap.size w W) => h'.below hW)
  have HT := hidden ht
  clear h h' ht
  cases hB : bankB l with
  | false =>
    rw [hB] at hK
    have HC : Hid (codeB l n ⟨ak, ai, at9⟩ = 1) := by rw [Hid, codeB, if_neg (by rw [hB]; simp)]
    have HD : Hid (bankDo l n ⟨ak, ai, at9⟩ = []) := by rw [Hid, bankDo, if_neg (by rw [hB]; simp)]
    rw [HC.out]
    clear hB
    unfold aDo aN
    go_enter Try.func15, Try.ntmps15
    go_wp2_with (go_at_call 16; refine (hK _ (HH.out _ b0)).mono ?_; rintro e w1 ⟨rfl, hb1⟩; have bA := onto b0 hb1; have z1 := bA.size; have O1 := hidden (ownW_new w1 37 6); clear hb1)
    go_ret2
    exact ⟨[], _, _, rfl, HD.out.symm, ownW_base O1.out z1, Antis.nil _ _, by repeat (first | exact Below.refl _ _ | assumption | refine st_drew ?_ | refine st_drewN ?_ _ | refine Below.setCell ?_ (by first | omega | (simp; done) | (simp; omega)) _ | refine Below.alloc ?_ (by first | omega | (simp; done) | (simp; omega)) _)⟩
  | true =>
    rw [hB] at hK
    have hl3 := bank_len hB
    have HE := hidden (codeB_on (n := n) (a := ⟨ak, ai, at9⟩) hB)
    have HBk := hidden hB
    have hJ := fun W hW => scopyU_any ao l.length cap l W hW hl3 HT.out
    clear hB
    have k1 := lin_any ak 1 4
    have k2 := lin_any ai 1 1000000
    have k3 := stime_any at9
    have k4 := fun W hW => sneed_any n na nn nc W hW hn'
    unfold aDo aN at *
    go_enter Try.func15, Try.ntmps15
    go_wp2_with fail
    refine (hK _ (HH.out _ b0)).mono ?_
    rintro e w1 ⟨rfl, hb1⟩
    have PD1 := hidden (PD.out.below hb1)
    have PN1 := hidden (PN.out.below hb1)
    have bA := onto b0 hb1
    clear hb1 PD PN b0 hK
    go_wp2_with fail
    refine (hJ _ (HH.out _ bA)).mono ?_
    rintro e w2 ⟨L, ab, cb, rfl, hLl, hob, hAn, hb2⟩
    have PD2 := hidden (PD1.out.below hb2)
    have PN2 := hidden (PN1.out.below hb2)
    have BB := hidden (onto bA hb2)
    have O2 := hidden (ownW_base hob bA.size)
    have A2 := hidden (hAn.base bA.size)
    have LL := hidden hLl
    clear hLl hob hAn hb2 PD1 PN1 bA hJ
    obtain ⟨p0, p1, p2⟩ := PD2.out.three
    obtain ⟨q0, q1, q2⟩ := PN2.out.three
    cases hd : doingB ⟨ak, ai, at9⟩ && needB n with
    | false =>
      have HC : Hid (codeOn l n ⟨ak, ai, at9⟩ = 2) := by
        rw [Hid, codeOn, if_neg]
        intro q
        rw [q.1, q.2] at hd
        cases hd
      have HD : Hid (doneL l n ⟨ak, ai, at9⟩ = l) := by rw [Hid, doneL, HC.out]; rfl
      unfold doingB at hd
      dsimp only at hd
      generalize rng ak 1 4 = t1 at *
      generalize rng ai 1 1000000 = t2 at *
      generalize tmv at9 = t3 at *
      generalize needB n = t4 at *
      rcases t1 with _ | _
      · clear hd
        go_wp2_with (with_reducible (first | (refine (k1 _).mono ?_; rintro e w3 ⟨rfl, rfl⟩) | (refine (k2 _).mono ?_; rintro e w3 ⟨rfl, rfl⟩) | (refine (k3 _).mono ?_; rintro e w3 ⟨rfl, hw3⟩; obtain rfl := hw3.symm; clear hw3) | (refine (k4 _ (HN.out _ BB.out)).mono ?_; rintro e w4 ⟨rfl, hb4⟩)))
        go_ret2
        exact ⟨L, ab, cb, by rw [HE.out.1, HC.out]; rfl, by rw [LL.out, HE.out.2, HD.out], O2.out, A2.out, BB.out⟩
      rcases t2 with _ | _
      · clear hd
        go_wp2_with (with_reducible (first | (refine (k1 _).mono ?_; rintro e w3 ⟨rfl, rfl⟩) | (refine (k2 _).mono ?_; rintro e w3 ⟨rfl, rfl⟩) | (refine (k3 _).mono ?_; rintro e w3 ⟨rfl, hw3⟩; obtain rfl := hw3.symm; clear hw3) | (refine (k4 _ (HN.out _ BB.out)).mono ?_; rintro e w4 ⟨rfl, hb4⟩)))
        go_ret2
        exact ⟨L, ab, cb, by rw [HE.out.1, HC.out]; rfl, by rw [LL.out, HE.out.2, HD.out], O2.out, A2.out, BB.out⟩
      rcases t3 with _ | _
      · clear hd
        go_wp2_with (with_reducible (first | (refine (k1 _).mono ?_; rintro e w3 ⟨rfl, rfl⟩) | (refine (k2 _).mono ?_; rintro e w3 ⟨rfl, rfl⟩) | (refine (k3 _).mono ?_; rintro e w3 ⟨rfl, hw3⟩; obtain rfl := hw3.symm; clear hw3) | (refine (k4 _ (HN.out _ BB.out)).mono ?_; rintro e w4 ⟨rfl, hb4⟩)))
        go_ret2
        exact ⟨L, ab, cb, by rw [HE.out.1, HC.out]; rfl, by rw [LL.out, HE.out.2, HD.out], O2.out, A2.out, BB.out⟩
      rcases t4 with _ | _
      · clear hd
        go_wp2_with (with_reducible (first | (refine (k1 _).mono ?_; rintro e w3 ⟨rfl, rfl⟩) | (refine (k2 _).mono ?_; rintro e w3 ⟨rfl, rfl⟩) | (refine (k3 _).mono ?_; rintro e w3 ⟨rfl, hw3⟩; obtain rfl := hw3.symm; clear hw3) | (refine (k4 _ (HN.out _ BB.out)).mono ?_; rintro e w4 ⟨rfl, hb4⟩)))
        go_ret2
        exact ⟨L, ab, cb, by rw [HE.out.1, HC.out]; rfl, by rw [LL.out, HE.out.2, HD.out], ownW_below O2.out hb4, A2.out.below hb4, onto BB.out hb4⟩
      · cases hd
    | true =>
      have hd1 : doingB ⟨ak, ai, at9⟩ = true ∧ needB n = true := by simpa using hd
      have HDk := hidden (doing_k hd1.1)
      have HC0 : Hid (codeOn l n ⟨ak, ai, at9⟩ = match placeOf l ai with | none => 3 | some k => codeU (l.getD k default) n ⟨ak, ai, at9⟩) := by rw [Hid, codeOn, if_pos hd1]; rfl
      have e4 : needB n = true := hd1.2
      have e123 := hd1.1
      unfold doingB at e123
      simp only [Bool.and_eq_true] at e123
      obtain ⟨e1, e2, e3⟩ := e123
      rw [e1] at k1
      rw [e2] at k2
      rw [e3] at k3
      rw [e4] at k4
      clear hd hd1 e1 e2 e3 e4
      go_upto_region 7 with (with_reducible (first | (refine (k1 _).mono ?_; rintro e w3 ⟨rfl, rfl⟩) | (refine (k2 _).mono ?_; rintro e w3 ⟨rfl, rfl⟩) | (refine (k3 _).mono ?_; rintro e w3 ⟨rfl, hw3⟩; obtain rfl := hw3.symm; clear hw3) | (refine (k4 _ (HN.out _ BB.out)).mono ?_; rintro e w4 ⟨rfl, hb4⟩)))
      have PD4 := hidden (PD2.out.below hb4)
      have PN4 := hidden (PN2.out.below hb4)
      have B4 := hidden (onto BB.out hb4)
      have O4 := hidden (ownW_below O2.out hb4)
      have A4 := hidden (A2.out.below hb4)
      clear hb4 p0 p1 p2 q0 q1 q2 PD2 PN2 BB O2 A2 k1 k2 k3 k4
      go_wp2_with fail
      go_loopw [9, 10] (fun kv iv wr => ∃ (i : Nat) (kk : Int), i ≤ l.length ∧ kv = .int .i64 kk ∧ iv = .int .i64 i ∧ Hid (LastTo l ai i kk) ∧ Below w4.heap.size w4 wr) (fun _ iv _ => l.length - (intOf iv).toNat)
      case atStart => exact ⟨0, -1, Nat.zero_le _, rfl, rfl, Or.inl ⟨rfl, fun j y hj => absurd hj (by omega)⟩, Below.refl _ _⟩
      case round =>
        obtain ⟨i, kk, hi, rfl, rfl, hok, hbr⟩ := hrel
        by_cases hlt : i < l.length
        · have hlti : (i : Int) < (l.length : Int) := by omega
          obtain ⟨x, hx⟩ := some_of l i hlt
          obtain ⟨g, off, ta, tc, rfl, hg, -, c0, -⟩ := (HH.out wr (onto B4.out hbr)).at hx
          have C0 := hidden c0
          have HX := hidden hx
          have PDr := hidden (PD4.out.below hbr)
          clear hx c0
          go_upto_region 10 with fail
          refine regSb10 (a9 := ⟨ak, ai, at9⟩) (xi := x.id) rfl rfl rfl rfl PDr.out hlt hg C0.out ?_
          intro b' w5 hf hb5 hv
          rw [laySb10 hf, hv]
          clear hv hf C0 PDr
          generalize Rg.out (Rg.opsOf Try.f15 10) b' 0 = y0
          generalize Rg.out (Rg.opsOf Try.f15 10) b' 1 = y1
          generalize Rg.out (Rg.opsOf Try.f15 10) b' 2 = y2
          generalize Rg.out (Rg.opsOf Try.f15 10) b' 3 = y3
          generalize Rg.out (Rg.opsOf Try.f15 10) b' 4 = y4
          generalize Rg.out (Rg.opsOf Try.f15 10) b' 5 = y5
          generalize Rg.out (Rg.opsOf Try.f15 10) b' 6 = y6
          have hb6 := onto hbr hb5
          clear hb5 hbr
          go_frame
          try dsimp only
          by_cases hq : x.id = ai
          · have HZ : Hid (LastTo l ai (i + 1) (i : Int)) := last_hit HX.out hq
            rw [decide_eq_true hq]
            clear hq
            go_wp2_with fail
            go_roundw
            case rel => exact ⟨i + 1, i, by omega, rfl, rfl, HZ, hb6⟩
            case measure => simp [intOf]; omega
          · have HZ : Hid (LastTo l ai (i + 1) kk) := last_same hok.out HX.out hq
            rw [decide_eq_false hq]
            clear hq
            go_wp2_with fail
            go_roundw
            case rel => exact ⟨i + 1, kk, by omega, rfl, rfl, HZ, hb6⟩
            case measure => simp [intOf]; omega
        · have hlti : ¬ (i : Int) < (l.length : Int) := by omega
          have hil : i = l.length := by omega
          subst hil
          have HP := hidden (last_end HBk.out hok.out)
          have PDr := hidden (PD4.out.below hbr)
          have PNr := hidden (PN4.out.below hbr)
          have Br := hidden (onto B4.out hbr)
          have Or' := hidden (ownW_below O4.out hbr)
          have Ar := hidden (A4.out.below hbr)
          clear hok hbr PD4 PN4 B4 O4 A4
          cases hp : placeOf l ai with
          | none =>
            have HC : Hid (codeOn l n ⟨ak, ai, at9⟩ = 3) := by rw [Hid, HC0.out, hp]
            have HD : Hid (doneL l n ⟨ak, ai, at9⟩ = l) := by rw [Hid, doneL, HC.out]; rfl
            have hk : kk = -1 := by rw [HP.out, hp]; rfl
            subst hk
            clear hp HC0
            go_wp2_with fail
            go_ret2
            exact ⟨L, ab, cb, by rw [HE.out.1, HC.out]; rfl, by rw [LL.out, HE.out.2, HD.out], Or'.out, Ar.out, Br.out⟩
          | some k =>
            have hk : kk = (k : Int) := by rw [HP.out, hp]; rfl
            subst hk
            obtain ⟨x, hx, -⟩ := place_get hp
            obtain ⟨q, hq, hqx⟩ := map_take LL.out hx
            obtain ⟨x', tv⟩ := q
            obtain ⟨ta', tc', htv⟩ := ownW_slice (Ar.out.1 _ (List.mem_of_getElem? hq))
            dsimp only at hqx htv
            subst hqx
            subst htv
            have hkl := get_lt' hx
            have hkn0 : ¬ (k : Int) < 0 := by omega
            have hki : (k : Int) < (l.length : Int) := by omega
            have HC : Hid (codeB l n ⟨ak, ai, at9⟩ = codeU x' n ⟨ak, ai, at9⟩) := by rw [Hid, HE.out.1, HC0.out, hp]; simp only; rw [getD_at hx]
            have HD : Hid (codeU x' n ⟨ak, ai, at9⟩ = 0 → bankDo l n ⟨ak, ai, at9⟩ = (L.set k (turnU x' n ak, .slice ta' x'.ant.length tc')).map Prod.fst) := fun h0 => by
              have e5 : codeOn l n ⟨ak, ai, at9⟩ = 0 := by rw [← HE.out.1, HC.out]; exact h0
              rw [HE.out.2, doneL, if_pos e5]
              dsimp only
              rw [hp]
              simp only
              rw [getD_at hx, List.map_set, LL.out]
            have HD2 : Hid (¬ codeU x' n ⟨ak, ai, at9⟩ = 0 → bankDo l n ⟨ak, ai, at9⟩ = L.map Prod.fst) := fun h0 => by
              have e5 : ¬ codeOn l n ⟨ak, ai, at9⟩ = 0 := by rw [← HE.out.1, HC.out]; exact h0
              rw [HE.out.2, doneL, if_neg e5, LL.out]
            have hant := HT.out x' (List.mem_of_getElem? hx)
            obtain ⟨gb, cc, he, hgb, hgl, hgc, -⟩ := own_six Or'.out hq
            simp only [Value.slice.injEq, true_and] at he
            obtain ⟨rfl, rfl⟩ := he
            obtain ⟨g, off, ta, tc, rfl, hg, hrow, c0, c1, c2, c3, c4, c5⟩ := (HH.out wr Br.out).at hx
            have HQ := hidden hq
            have HLn : Hid (L.length = l.length) := by rw [Hid, ← LL.out, List.length_map]
            obtain ⟨id, grp, ant, til, st, fr⟩ := x'
            dsimp only at c0 c1 c2 c3 c4 c5 hrow hant
            have HR := hidden hrow
            clear hp HC0 hx hq HP hrow
            go_upto_region 15 with fail
            have PU := hidden (PB.new wr #[.int .i64 id, .int .i64 grp, .slice ta ant.length tc, .int .i64 til, .int .i64 st, .int .i64 fr] 37)
            have bx : Below wr.heap.size wr (wr.alloc (.cells #[.int .i64 id, .int .i64 grp, .slice ta ant.length tc, .int .i64 til, .int .i64 st, .int .i64 fr] 37)) := by repeat (first | exact Below.refl _ _ | assumption | refine st_drew ?_ | refine st_drewN ?_ _ | refine Below.setCell ?_ (by first | omega | (simp; done) | (simp; omega)) _ | refine Below.alloc ?_ (by first | omega | (simp; done) | (simp; omega)) _)
            generalize wr.alloc (.cells #[.int .i64 id, .int .i64 grp, .slice ta ant.length tc, .int .i64 til, .int .i64 st, .int .i64 fr] 37) = wu at *
            have PDu := hidden (PDr.out.below bx)
            have PNu := hidden (PNr.out.below bx)
            have Bu := hidden (onto Br.out bx)
            have Ou := hidden (ownW_below Or'.out bx)
            have Au := hidden (Ar.out.below bx)
            have Ru := hidden (HR.out.below bx)
            have KF := hidden (fun W (hW : Below wu.heap.size wu W) => sfits_any ⟨id, grp, ant, til, st, fr⟩ ta ant.length tc n na nn nc W (Ru.out.below hW) hant (HN.out W (onto Bu.out hW)) hn')
            have hgu : gb < wu.heap.size := Nat.lt_of_lt_of_le hgl bx.size
            obtain ⟨u0, u1, u2, u3, u4, u5⟩ := PU.out.six
            obtain ⟨p0, p1, p2⟩ := PDu.out.three
            obtain ⟨q0, q1, q2⟩ := PNu.out.three
            clear c0 c1 c2 c3 c4 c5 PDr PNr Br Or' Ar HR bx
            unfold aU aN at KF
            dsimp only at KF
            obtain ⟨g', c', he', -, -, -, m0, m1, m2, m3, m4, m5⟩ := own_six Ou.out HQ.out
            simp only [Value.slice.injEq, Option.some.injEq, Addr.mk.injEq, and_true, true_and] at he'
            obtain ⟨rfl, -⟩ := he'
            dsimp only at m4 m5
            have f5 := ownQ_fro Ou.out (k * 6 + 5)
            have f4 := ownQ_fro Ou.out (k * 6 + 4)
            have hkL : (k : Int) < (L.length : Int) := by have := HLn.out; omega
            rcases (show ak = 1 ∨ ak = 2 ∨ ak = 3 ∨ ak = 4 by have := HDk.out; omega) with rfl | rfl | rfl | rfl
            · by_cases hst : st = 1
              · subst hst
                by_cases ht : til < at9
                · skip
                  have HCc : Hid (codeU ⟨id, grp, ant, til, 1, fr⟩ n ⟨1, ai, at9⟩ = 5) := by rw [Hid]; simp [codeU, fineB, refuse, ht]
                  go_wp2_with fail
                  go_ret2
                  exact ⟨L, _, _, by rw [HC.out, HCc.out]; rfl, (HD2.out (by rw [HCc.out]; decide)).symm, Ou.out, Au.out, Bu.out⟩
                · have hfl : ¬ til < at9 := ht
                  cases hF : fitsB ⟨id, grp, ant, til, 1, fr⟩ n with
                  | false =>
                    have kf := KF.out
                    rw [hF] at kf
                    have HCc : Hid (codeU ⟨id, grp, ant, til, 1, fr⟩ n ⟨1, ai, at9⟩ = 6) := by rw [Hid]; simp [codeU, fineB, refuse, ht, hF]
                    go_wp2_with (go_at_call 44; refine (kf _ (Below.refl _ _)).mono ?_; rintro e wf ⟨rfl, hbf⟩; obtain ⟨p0, p1, p2⟩ := (PDu.out.below hbf).three; obtain ⟨q0, q1, q2⟩ := (PNu.out.below hbf).three; have m4 := ((bcell hbf).1 _ _ hgu).trans m4; have m5 := ((bcell hbf).1 _ _ hgu).trans m5; have f4 := ownQ_fro (ownW_below Ou.out hbf) (k * 6 + 4); have f5 := ownQ_fro (ownW_below Ou.out hbf) (k * 6 + 5))
                    go_ret2
                    exact ⟨L, _, _, by rw [HC.out, HCc.out]; rfl, (HD2.out (by rw [HCc.out]; decide)).symm, ownW_below Ou.out hbf, Au.out.below hbf, onto Bu.out hbf⟩
                  | true =>
                    have kf := KF.out
                    rw [hF] at kf
                    have HCc : Hid (codeU ⟨id, grp, ant, til, 1, fr⟩ n ⟨1, ai, at9⟩ = 0) := by rw [Hid]; simp [codeU, fineB, refuse, ht, hF]
                    have HTu : Hid (turnU ⟨id, grp, ant, til, 1, fr⟩ n 1 = ⟨id, grp, ant, til, 2, n.p⟩) := by rw [Hid]; simp [turnU]
                    go_wp2_with (go_at_call 44; refine (kf _ (Below.refl _ _)).mono ?_; rintro e wf ⟨rfl, hbf⟩; obtain ⟨p0, p1, p2⟩ := (PDu.out.below hbf).three; obtain ⟨q0, q1, q2⟩ := (PNu.out.below hbf).three; have m4 := ((bcell hbf).1 _ _ hgu).trans m4; have m5 := ((bcell hbf).1 _ _ hgu).trans m5; have f4 := ownQ_fro (ownW_below Ou.out hbf) (k * 6 + 4); have f5 := ownQ_fro (ownW_below Ou.out hbf) (k * 6 + 5))
                    go_ret2
                    refine ⟨L.set k (⟨id, grp, ant, til, 2, n.p⟩, .slice ta' ant.length tc'), _, _, by rw [HC.out, HCc.out, List.length_set]; rfl, by rw [HD.out HCc.out, HTu.out], ?_, ?_, (((onto Bu.out hbf).setCell (p := ⟨gb, k * 6 + 5, none⟩) hgb _).setCell (p := ⟨gb, k * 6 + 4, none⟩) hgb _).setCell (p := ⟨gb, k * 6 + 5, none⟩) hgb _⟩
                    · rw [List.length_set]; exact own_turn3 (ownW_below Ou.out hbf) HQ.out (-1) 2 n.p
                    · exact Antis.turn ((((Au.out.below hbf).set (o := _) (fun p hp kk hkk e => ownQ_apart ((Au.out.below hbf).1 p hp) (ownW_below Ou.out hbf) (by decide) kk hkk (by rw [e]; rfl)) _).set (o := _) (fun p hp kk hkk e => ownQ_apart ((Au.out.below hbf).1 p hp) (ownW_below Ou.out hbf) (by decide) kk hkk (by rw [e]; rfl)) _).set (o := _) (fun p hp kk hkk e => ownQ_apart ((Au.out.below hbf).1 p hp) (ownW_below Ou.out hbf) (by decide) kk hkk (by rw [e]; rfl)) _) HQ.out rfl
              · skip
                have hs' : (st == 1) = false := by simpa using hst
                have HCc : Hid (codeU ⟨id, grp, ant, til, st, fr⟩ n ⟨1, ai, at9⟩ = 4) := by rw [Hid]; simp [codeU, fineB, refuse, hst]
                go_wp2_with fail
                go_ret2
                exact ⟨L, _, _, by rw [HC.out, HCc.out]; rfl, (HD2.out (by rw [HCc.out]; decide)).symm, Ou.out, Au.out, Bu.out⟩
            · by_cases hst : st = 2
              · subst hst
                by_cases hfr : fr = n.p
                · subst hfr
                  have HCc : Hid (codeU ⟨id, grp, ant, til, 2, n.p⟩ n ⟨2, ai, at9⟩ = 0) := by rw [Hid]; simp [codeU, fineB, refuse]
                  have HTu : Hid (turnU ⟨id, grp, ant, til, 2, n.p⟩ n 2 = ⟨id, grp, ant, til, 1, (-1)⟩) := by rw [Hid]; simp [turnU]
                  go_wp2_with fail
                  go_ret2
                  refine ⟨L.set k (⟨id, grp, ant, til, 1, (-1)⟩, .slice ta' ant.length tc'), _, _, by rw [HC.out, HCc.out, List.length_set]; rfl, by rw [HD.out HCc.out, HTu.out], ?_, ?_, (Bu.out.setCell (p := ⟨gb, k * 6 + 5, none⟩) hgb _).setCell (p := ⟨gb, k * 6 + 4, none⟩) hgb _⟩
                  · rw [List.length_set]; exact own_turn2 (Ou.out) HQ.out 1 (-1)
                  · exact Antis.turn ((Au.out.set (o := _) (fun p hp kk hkk e => ownQ_apart (Au.out.1 p hp) (Ou.out) (by decide) kk hkk (by rw [e]; rfl)) _).set (o := _) (fun p hp kk hkk e => ownQ_apart (Au.out.1 p hp) (Ou.out) (by decide) kk hkk (by rw [e]; rfl)) _) HQ.out rfl
                · skip
                  have hs' : (fr == n.p) = false := by simpa using hfr
                  have HCc : Hid (codeU ⟨id, grp, ant, til, 2, fr⟩ n ⟨2, ai, at9⟩ = 4) := by rw [Hid]; simp [codeU, fineB, refuse, hfr]
                  go_wp2_with fail
                  go_ret2
                  exact ⟨L, _, _, by rw [HC.out, HCc.out]; rfl, (HD2.out (by rw [HCc.out]; decide)).symm, Ou.out, Au.out, Bu.out⟩
              · skip
                have hs' : (st == 2) = false := by simpa using hst
                have HCc : Hid (codeU ⟨id, grp, ant, til, st, fr⟩ n ⟨2, ai, at9⟩ = 4) := by rw [Hid]; simp [codeU, fineB, refuse, hst]
                go_wp2_with fail
                go_ret2
                exact ⟨L, _, _, by rw [HC.out, HCc.out]; rfl, (HD2.out (by rw [HCc.out]; decide)).symm, Ou.out, Au.out, Bu.out⟩
            · by_cases hst : st = 2
              · subst hst
                by_cases hfr : fr = n.p
                · subst hfr
                  by_cases ht : til < at9
                  · skip
                    have HCc : Hid (codeU ⟨id, grp, ant, til, 2, n.p⟩ n ⟨3, ai, at9⟩ = 5) := by rw [Hid]; simp [codeU, fineB, refuse, ht]
                    go_wp2_with fail
                    go_ret2
                    exact ⟨L, _, _, by rw [HC.out, HCc.out]; rfl, (HD2.out (by rw [HCc.out]; decide)).symm, Ou.out, Au.out, Bu.out⟩
                  · cases hF : fitsB ⟨id, grp, ant, til, 2, n.p⟩ n with
                    | false =>
                      have kf := KF.out
                      rw [hF] at kf
                      have HCc : Hid (codeU ⟨id, grp, ant, til, 2, n.p⟩ n ⟨3, ai, at9⟩ = 6) := by rw [Hid]; simp [codeU, fineB, refuse, ht, hF]
                      go_wp2_with (go_at_call 44; refine (kf _ (Below.refl _ _)).mono ?_; rintro e wf ⟨rfl, hbf⟩; obtain ⟨p0, p1, p2⟩ := (PDu.out.below hbf).three; obtain ⟨q0, q1, q2⟩ := (PNu.out.below hbf).three; have m4 := ((bcell hbf).1 _ _ hgu).trans m4; have m5 := ((bcell hbf).1 _ _ hgu).trans m5; have f4 := ownQ_fro (ownW_below Ou.out hbf) (k * 6 + 4); have f5 := ownQ_fro (ownW_below Ou.out hbf) (k * 6 + 5))
                      go_ret2
                      exact ⟨L, _, _, by rw [HC.out, HCc.out]; rfl, (HD2.out (by rw [HCc.out]; decide)).symm, ownW_below Ou.out hbf, Au.out.below hbf, onto Bu.out hbf⟩
                    | true =>
                      have kf := KF.out
                      rw [hF] at kf
                      have HCc : Hid (codeU ⟨id, grp, ant, til, 2, n.p⟩ n ⟨3, ai, at9⟩ = 0) := by rw [Hid]; simp [codeU, fineB, refuse, ht, hF]
                      have HTu : Hid (turnU ⟨id, grp, ant, til, 2, n.p⟩ n 3 = ⟨id, grp, ant, til, 3, n.p⟩) := by rw [Hid]; simp [turnU]
                      go_wp2_with (go_at_call 44; refine (kf _ (Below.refl _ _)).mono ?_; rintro e wf ⟨rfl, hbf⟩; obtain ⟨p0, p1, p2⟩ := (PDu.out.below hbf).three; obtain ⟨q0, q1, q2⟩ := (PNu.out.below hbf).three; have m4 := ((bcell hbf).1 _ _ hgu).trans m4; have m5 := ((bcell hbf).1 _ _ hgu).trans m5; have f4 := ownQ_fro (ownW_below Ou.out hbf) (k * 6 + 4); have f5 := ownQ_fro (ownW_below Ou.out hbf) (k * 6 + 5))
                      go_ret2
                      refine ⟨L.set k (⟨id, grp, ant, til, 3, n.p⟩, .slice ta' ant.length tc'), _, _, by rw [HC.out, HCc.out, List.length_set]; rfl, by rw [HD.out HCc.out, HTu.out], ?_, ?_, (((onto Bu.out hbf).setCell (p := ⟨gb, k * 6 + 5, none⟩) hgb _).setCell (p := ⟨gb, k * 6 + 4, none⟩) hgb _).setCell (p := ⟨gb, k * 6 + 5, none⟩) hgb _⟩
                      · rw [List.length_set]; exact own_turn3 (ownW_below Ou.out hbf) HQ.out (-1) 3 n.p
                      · exact Antis.turn ((((Au.out.below hbf).set (o := _) (fun p hp kk hkk e => ownQ_apart ((Au.out.below hbf).1 p hp) (ownW_below Ou.out hbf) (by decide) kk hkk (by rw [e]; rfl)) _).set (o := _) (fun p hp kk hkk e => ownQ_apart ((Au.out.below hbf).1 p hp) (ownW_below Ou.out hbf) (by decide) kk hkk (by rw [e]; rfl)) _).set (o := _) (fun p hp kk hkk e => ownQ_apart ((Au.out.below hbf).1 p hp) (ownW_below Ou.out hbf) (by decide) kk hkk (by rw [e]; rfl)) _) HQ.out rfl
                · skip
                  have hs' : (fr == n.p) = false := by simpa using hfr
                  have HCc : Hid (codeU ⟨id, grp, ant, til, 2, fr⟩ n ⟨3, ai, at9⟩ = 4) := by rw [Hid]; simp [codeU, fineB, refuse, hfr]
                  go_wp2_with fail
                  go_ret2
                  exact ⟨L, _, _, by rw [HC.out, HCc.out]; rfl, (HD2.out (by rw [HCc.out]; decide)).symm, Ou.out, Au.out, Bu.out⟩
              · skip
                have hs' : (st == 2) = false := by simpa using hst
                have HCc : Hid (codeU ⟨id, grp, ant, til, st, fr⟩ n ⟨3, ai, at9⟩ = 4) := by rw [Hid]; simp [codeU, fineB, refuse, hst]
                go_wp2_with fail
                go_ret2
                exact ⟨L, _, _, by rw [HC.out, HCc.out]; rfl, (HD2.out (by rw [HCc.out]; decide)).symm, Ou.out, Au.out, Bu.out⟩
            · by_cases hst : st = 1
              · subst hst
                have HCc : Hid (codeU ⟨id, grp, ant, til, 1, fr⟩ n ⟨4, ai, at9⟩ = 0) := by rw [Hid]; simp [codeU, fineB, refuse]
                have HTu : Hid (turnU ⟨id, grp, ant, til, 1, fr⟩ n 4 = ⟨id, grp, ant, til, 4, (-1)⟩) := by rw [Hid]; simp [turnU]
                go_wp2_with fail
                go_ret2
                refine ⟨L.set k (⟨id, grp, ant, til, 4, (-1)⟩, .slice ta' ant.length tc'), _, _, by rw [HC.out, HCc.out, List.length_set]; rfl, by rw [HD.out HCc.out, HTu.out], ?_, ?_, (Bu.out.setCell (p := ⟨gb, k * 6 + 5, none⟩) hgb _).setCell (p := ⟨gb, k * 6 + 4, none⟩) hgb _⟩
                · rw [List.length_set]; exact own_turn2 (Ou.out) HQ.out 4 (-1)
                · exact Antis.turn ((Au.out.set (o := _) (fun p hp kk hkk e => ownQ_apart (Au.out.1 p hp) (Ou.out) (by decide) kk hkk (by rw [e]; rfl)) _).set (o := _) (fun p hp kk hkk e => ownQ_apart (Au.out.1 p hp) (Ou.out) (by decide) kk hkk (by rw [e]; rfl)) _) HQ.out rfl
              · by_cases hst2 : st = 2
                · subst hst2
                  have HCc : Hid (codeU ⟨id, grp, ant, til, 2, fr⟩ n ⟨4, ai, at9⟩ = 0) := by rw [Hid]; simp [codeU, fineB, refuse]
                  have HTu : Hid (turnU ⟨id, grp, ant, til, 2, fr⟩ n 4 = ⟨id, grp, ant, til, 4, (-1)⟩) := by rw [Hid]; simp [turnU]
                  go_wp2_with fail
                  go_ret2
                  refine ⟨L.set k (⟨id, grp, ant, til, 4, (-1)⟩, .slice ta' ant.length tc'), _, _, by rw [HC.out, HCc.out, List.length_set]; rfl, by rw [HD.out HCc.out, HTu.out], ?_, ?_, (Bu.out.setCell (p := ⟨gb, k * 6 + 5, none⟩) hgb _).setCell (p := ⟨gb, k * 6 + 4, none⟩) hgb _⟩
                  · rw [List.length_set]; exact own_turn2 (Ou.out) HQ.out 4 (-1)
                  · exact Antis.turn ((Au.out.set (o := _) (fun p hp kk hkk e => ownQ_apart (Au.out.1 p hp) (Ou.out) (by decide) kk hkk (by rw [e]; rfl)) _).set (o := _) (fun p hp kk hkk e => ownQ_apart (Au.out.1 p hp) (Ou.out) (by decide) kk hkk (by rw [e]; rfl)) _) HQ.out rfl
                · skip
                  have hs' : (st == 1) = false := by simpa using hst
                  have hs2' : (st == 2) = false := by simpa using hst2
                  have HCc : Hid (codeU ⟨id, grp, ant, til, st, fr⟩ n ⟨4, ai, at9⟩ = 4) := by rw [Hid]; simp [codeU, fineB, refuse, hst, hst2]
                  go_wp2_with fail
                  go_ret2
                  exact ⟨L, _, _, by rw [HC.out, HCc.out]; rfl, (HD2.out (by rw [HCc.out]; decide)).symm, Ou.out, Au.out, Bu.out⟩

end Go.Proofs.Ytaidhcbchpcemaa
