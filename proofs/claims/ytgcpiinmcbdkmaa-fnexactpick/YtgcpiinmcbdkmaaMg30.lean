/-
  Merged: Pk14 Pk16 Pk15.
-/
import Derived.Test.YtgcpiinmcbdkmaaMg29
import Derived.Test.YtgcpiinmcbdkmaaMg2
import Derived.Test.YtgcpiinmcbdkmaaMg17
import Derived.Test.YtgcpiinmcbdkmaaMg19
import Derived.Test.YtgcpiinmcbdkmaaMg12
import Derived.Test.YtgcpiinmcbdkmaaMg16
namespace Go.Proofs.Ytgcpiinmcbdkmaa
open Go.RowKit Go.Sort Va Bl Pq
set_option linter.all false
theorem ulen_any (n : Nat) (w : World) (hn : n < 4611686018427387904) : Calls Try.prog 86 #[.int .u64 n] w fun e w' => e = .returned (.int .i64 (bitsLen n : Nat)) ∧ w' = w :=
  calls_of_every_depth fun D => by
    have h := AnySM.bits_LenIn { Try.srtL with } D (n : Int) w (by omega) (by omega)
    rwa [Int.toNat_natCast, bitLen_eq _ (by omega)] at h
set_option maxRecDepth 20000 in
set_option maxHeartbeats 16000000 in
theorem usortfunc_any (nd : Nd) (sv : Value) (D : UE → Prop) (G c m : Nat) (d : List UE) (w : World) (hmm : m ≤ 100000) (hK : LessU nd sv D) (hSl : SlU D) (h : SU c w G d) (hm : d.length = m) (hF : Fine (ltU nd) D d) :
    Calls Try.prog 46 #[.slice (some ⟨G, 0, none⟩) m c, (.func (.func 47) #[.agg #[.int .i64 nd.p, .int .i64 nd.g, sv]] #[])] w fun e w' => e = .returned (.tuple #[]) ∧ ∃ d', SU c w' G d' ∧ PO 0 m d d' ∧ SO (ltU nd) 0 m d' ∧ Below G w w' := by
  obtain ⟨k, hk⟩ : ∃ k, bitsLen m = k := ⟨_, rfl⟩
  have hk1 : k ≤ 1000 := by have := (bitsLen_le_iff m 62).2 (by omega); omega
  have hL : ∀ W, Calls Try.prog 86 #[.int .u64 m] W fun e w' => e = .returned (.int .i64 k) ∧ w' = W := fun W => by rw [← hk]; exact ulen_any m W (by omega)
  have hc := updq_any nd sv D G c m hmm hK hSl (m + 1) 0 m k d w (by omega) (by omega) (Nat.le_refl _) hk1 h hm hF (Or.inl rfl)
  rw [show ((0 : Nat) : Int) = 0 from rfl] at hc
  clear h hF hK hSl hk
  go_enter Try.func46, Try.ntmps46
  go_wp2_with (first
    | (go_at_call 86; (with_reducible refine (hL _).mono ?_); rintro e w' ⟨rfl, rfl⟩)
    | (go_at_call 85; (with_reducible refine hc.mono ?_); rintro e w2 ⟨rfl, d2, hs2, hpo2, hso2, hb2⟩))
  go_end0
  exact ⟨rfl, d2, hs2, hpo2, hso2, hb2⟩
end Go.Proofs.Ytgcpiinmcbdkmaa

namespace Go.Proofs.Ytgcpiinmcbdkmaa
open Va Bl Pq
set_option linter.all false
theorem bef_rank {n : Nd} {a b : Ut} : befB n a b = true ↔ rank a n < rank b n ∨ (rank a n = rank b n ∧ (a.til < b.til ∨ (a.til = b.til ∧ a.id < b.id))) := by
  unfold befB
  by_cases h1 : rank a n = rank b n
  · rw [if_pos h1]
    by_cases h2 : a.til = b.til
    · rw [if_pos h2, decide_eq_true_iff]; omega
    · rw [if_neg h2, decide_eq_true_iff]; omega
  · rw [if_neg h1, decide_eq_true_iff]; omega
theorem bef_trans {n : Nd} {a b c : Ut} (h : befB n a b = true) (k : befB n b c = true) : befB n a c = true := by
  rw [bef_rank] at *; omega
theorem bef_asymm {n : Nd} {a b : Ut} (h : befB n a b = true) (k : befB n b a = true) : False := by
  rw [bef_rank] at *; omega
theorem bef_tot {n : Nd} {a b : Ut} (h : a.id ≠ b.id) (k : befB n a b ≠ true) : befB n b a = true := by
  rw [Ne, bef_rank] at k; rw [bef_rank]; omega
def Ord (n : Nd) (l : List Ut) : Prop := l.Pairwise (fun a b => befB n a b = true)
def Apt (l : List Ut) : Prop := l.Pairwise (fun a b => a.id ≠ b.id)
theorem Apt.perm {a b : List Ut} (h : Apt a) (hp : a.Perm b) : Apt b := (hp.pairwise_iff (fun {x y} h => Ne.symm h)).1 h
theorem ord_unique {n : Nd} {a b : List Ut} (hp : a.Perm b) (ha : Ord n a) (hb : Ord n b) : a = b :=
  List.Perm.eq_of_pairwise (fun _ _ _ _ h1 h2 => (bef_asymm h1 h2).elim) ha hb hp
theorem ins_perm (n : Nd) (u : Ut) (l : List Ut) : (insU n u l).Perm (u :: l) := by
  induction l with
  | nil => exact List.Perm.refl _
  | cons x l ih =>
    unfold insU
    split
    · exact List.Perm.refl _
    · exact (ih.cons x).trans (List.Perm.swap u x l)
theorem ins_ord {n : Nd} {u : Ut} {l : List Ut} (h : Ord n l) (hu : ∀ x ∈ l, u.id ≠ x.id) : Ord n (insU n u l) := by
  induction l with
  | nil => exact List.pairwise_singleton _ _
  | cons x l ih =>
    have hp := List.pairwise_cons.1 h
    unfold insU
    split
    · rename_i q
      refine List.pairwise_cons.2 ⟨fun y hy => ?_, h⟩
      rcases List.mem_cons.1 hy with rfl | hy
      · exact q
      · exact bef_trans q (hp.1 y hy)
    · rename_i q
      have qx := bef_tot (hu x (List.mem_cons_self)) q
      refine List.pairwise_cons.2 ⟨fun y hy => ?_, ih hp.2 (fun y hy => hu y (List.mem_cons_of_mem _ hy))⟩
      rcases List.mem_cons.1 ((ins_perm n u l).mem_iff.1 hy) with rfl | hy
      · exact qx
      · exact hp.1 y hy
def ordL (n : Nd) (l : List Ut) : List Ut := l.foldl (fun a u => insU n u a) []
theorem ord_fold (n : Nd) : ∀ (l a : List Ut), Ord n a → Apt (a ++ l) → Ord n (l.foldl (fun a u => insU n u a) a) ∧ (l.foldl (fun a u => insU n u a) a).Perm (a ++ l) := by
  intro l
  induction l with
  | nil => intro a h _; rw [List.append_nil]; exact ⟨h, List.Perm.refl _⟩
  | cons u l ih =>
    intro a h hA
    have hA2 : Apt (u :: (a ++ l)) := hA.perm List.perm_middle
    have hp := ins_perm n u a
    have hA3 : Apt (insU n u a ++ l) := hA2.perm (hp.symm.append_right l)
    have h2 := ih (insU n u a) (ins_ord h (fun x hx => (List.pairwise_cons.1 hA2).1 x (List.mem_append_left _ hx))) hA3
    exact ⟨h2.1, h2.2.trans ((hp.append_right l).trans List.perm_middle.symm)⟩
theorem ordL_fine {n : Nd} {l : List Ut} (h : Apt l) : Ord n (ordL n l) ∧ (ordL n l).Perm l := ord_fold n l [] List.Pairwise.nil h
theorem ordL_eq {n : Nd} {a l : List Ut} (h : Apt l) (hp : a.Perm l) (ho : Ord n a) : a = ordL n l :=
  ord_unique (hp.trans (ordL_fine h).2.symm) ho (ordL_fine h).1
def haveL (l : List Ut) (n : Nd) (t : Int) : List Ut := ordL n (l.filter (mayB n t))
def pick (l : List Ut) (n : Nd) (t c : Int) : List Int := if pickB l n t c = true then ((haveL l n t).take c.toNat).map Ut.id else []
theorem bank_apt {l : List Ut} (h : bankB l = true) : Apt l := by
  unfold bankB at h
  rw [Bool.and_eq_true] at h
  refine List.pairwise_iff_getElem.2 fun i j hi hj hij => ?_
  have := ris_lt h.2 (j - i - 1) i l[i] l[j] (List.getElem?_eq_getElem hi) (by rw [show i + (j - i - 1) + 1 = j by omega]; exact List.getElem?_eq_getElem hj)
  omega
theorem Apt.filter {l : List Ut} (h : Apt l) (f : Ut → Bool) : Apt (l.filter f) := List.Pairwise.filter f h
theorem Apt.take {l : List Ut} (h : Apt l) (i : Nat) : Apt (l.take i) := List.Pairwise.sublist (List.take_sublist i l) h
theorem ord_of_at {n : Nd} {l : List Ut} (h : ∀ i j, i < j → j < l.length → befB n (at' l i) (at' l j) = true) : Ord n l :=
  List.pairwise_iff_getElem.2 fun i j hi hj hij => by
    have := h i j hij hj
    rwa [at_of (List.getElem?_eq_getElem hi), at_of (List.getElem?_eq_getElem hj)] at this
theorem ord_mid {n : Nd} {u : Ut} {d : List Ut} {k : Nat} (h : Ord n d) (hu : ∀ x ∈ d, u.id ≠ x.id) (hb : ∀ x ∈ d.drop k, befB n u x = true) (ha : k = 0 ∨ ∃ y, d[k - 1]? = some y ∧ befB n u y ≠ true) : Ord n (d.take k ++ u :: d.drop k) := by
  have h' : Ord n (d.take k ++ d.drop k) := by rw [List.take_append_drop]; exact h
  obtain ⟨p1, p2, p3⟩ := List.pairwise_append.1 h'
  refine List.pairwise_append.2 ⟨p1, List.pairwise_cons.2 ⟨hb, p2⟩, fun a ha' b hb' => ?_⟩
  rcases List.mem_cons.1 hb' with rfl | hb'
  · rcases ha with rfl | ⟨y, hy, hn⟩
    · simp at ha'
    · have hyd := List.mem_of_getElem? hy
      have h1 := bef_tot (hu y hyd) hn
      obtain ⟨i, hi⟩ := List.getElem?_of_mem ha'
      rw [List.getElem?_take] at hi
      split at hi
      · rename_i hik
        by_cases e : i = k - 1
        · subst e; rw [hy] at hi; rw [← Option.some.inj hi]; exact h1
        · obtain ⟨q1, q2⟩ := List.getElem?_eq_some_iff.1 hi
          obtain ⟨q3, q4⟩ := List.getElem?_eq_some_iff.1 hy
          have := List.pairwise_iff_getElem.1 h i (k - 1) q1 q3 (by omega)
          rw [q2, q4] at this
          exact bef_trans this h1
      · cases hi
  · exact p3 a ha' b hb'
theorem perm_mid (u : Ut) (d : List Ut) (k : Nat) : (d.take k ++ u :: d.drop k).Perm (u :: d) :=
  List.perm_middle.trans (by rw [List.take_append_drop])
end Go.Proofs.Ytgcpiinmcbdkmaa

namespace Go.Proofs.Ytgcpiinmcbdkmaa
open Go.RowKit Va Bl
set_option linter.all false
theorem may_ref (n : Nd) (t : Int) (x : Ut) : mayB n t x = (decide (x.st = 1) && decide (refuse x n t = 0)) := by
  unfold mayB refuse
  by_cases h : x.til < t
  · rw [if_pos h, decide_eq_false (show ¬ t ≤ x.til by omega)]; simp
  · rw [if_neg h, decide_eq_true (show t ≤ x.til by omega)]
    cases fitsB x n <;> simp
def FMh3 (C : Nat) (n : Nd) (x : Ut) (tv tn : Value) (r9 tm : Int) (i9 : Nat) (v : Value) (w : World) : Prop :=
  match i9 with
  | 0 => v = .agg #[.int .i64 n.p, .int .i64 n.g, tn]
  | 1 => v = .iface 153 (.agg #[.int .i64 x.id, .int .i64 x.grp, tv, .int .i64 x.til, .int .i64 x.st, .int .i64 x.fr])
  | 2 => v = .agg #[.int .i64 x.id, .int .i64 x.grp, tv, .int .i64 x.til, .int .i64 x.st, .int .i64 x.fr]
  | 3 => v = .int .i64 tm
  | 4 => v = .int .i64 r9
  | 5 => v = .bool (decide (r9 = 0))
  | 6 => v = .bool (decide (r9 = 0))
  | _ => True
theorem sizeMh3 : (Rg.opsOf Try.f45 3).size = 7 := by kernel_rfl
set_option maxRecDepth 20000 in
set_option maxHeartbeats 8000000 in
theorem regMh3 {Q : Exit → Act → World → Prop} {a : Act} {w9 : World} {C : Nat} {n : Nd} {x : Ut} {tv tn : Value} {r9 tm : Int} (ha : a.tmps.size = 21)
    (k1 : a.tmps[1]? = some (.iface 153 (.agg #[.int .i64 x.id, .int .i64 x.grp, tv, .int .i64 x.til, .int .i64 x.st, .int .i64 x.fr]))) (k3 : a.tmps[3]? = some (.pointer (some ⟨C, 0, none⟩))) (k2 : a.tmps[2]? = some (.int .i64 tm)) (hE : PB w9 C #[.int .i64 n.p, .int .i64 n.g, tn] 27)(hT : ∀ W, Below w9.heap.size w9 W → Calls Try.prog 195 #[.agg #[.int .i64 x.id, .int .i64 x.grp, tv, .int .i64 x.til, .int .i64 x.st, .int .i64 x.fr]] W fun e W' => e = .returned (.agg #[.int .i64 x.id, .int .i64 x.grp, tv, .int .i64 x.til, .int .i64 x.st, .int .i64 x.fr]) ∧ Below W.heap.size W W') (hR : ∀ W, Below w9.heap.size w9 W → Calls Try.prog 84 #[.agg #[.int .i64 n.p, .int .i64 n.g, tn], .agg #[.int .i64 x.id, .int .i64 x.grp, tv, .int .i64 x.til, .int .i64 x.st, .int .i64 x.fr], .int .i64 tm] W fun e W' => e = .returned (.int .i64 r9) ∧ Below W.heap.size W W')
    (hend : ∀ b' w', Rg.Fr (Rg.opsOf Try.f45 3) a b' → Below w9.heap.size w9 w' → Rg.out (Rg.opsOf Try.f45 3) b' 6 = .bool (decide (r9 = 0)) → Q .normal b' w') :
    (Code.region 3 (Rg.opsOf Try.f45 3) true).wp Try.prog Q a w9 := by
  refine Rg.region_set3 (by kernel_rfl) (fun _ w' => Below w9.heap.size w9 w') (FMh3 C n x tv tn r9 tm) (by rw [ha, sizeMh3]; kernel_rfl) (st_drew (Below.refl _ _)) ?_ ?_
  case refine_2 =>
    intro l b' w' hf hall hI hA
    rw [sizeMh3] at hA
    exact hend b' w' hf hI (hA 6 (by decide))
  case refine_1 =>
    clear hend
    have HS : ∀ {w w' : World}, Below w.heap.size w w' → ∀ k9 y9, FMh3 C n x tv tn r9 tm k9 y9 w → FMh3 C n x tv tn r9 tm k9 y9 w' := fun hb k9 y9 h => by
      unfold FMh3 at *
      split at h <;> exact h
    intro i' hi'
    rw [sizeMh3] at hi'
    rcases (show i' = 0 ∨ i' = 1 ∨ i' = 2 ∨ i' = 3 ∨ i' = 4 ∨ i' = 5 ∨ i' = 6 by omega) with rfl | rfl | rfl | rfl | rfl | rfl | rfl
    · intro ll bb w' hs hlf hN hO hf hI hA
      clear hi'
      have q3 := hf.kept (s := 3) (by rw [sizeMh3]; kernel_rfl) k3
      obtain ⟨d0, d1, d2⟩ := (hE.below hI).three
      exact Rg.op_value (o := ⟨some 15, Op.load 27 (Operand.tmp 3), _, _, _, _⟩) (x := .agg #[.int .i64 n.p, .int .i64 n.g, tn]) rfl rfl (by clear hA HS hN hO hE hT hR; simp only [execOp]; go_simp) ⟨_, rfl, (fun h => by cases h), rfl, hI, fun _ _ _ _ h => h⟩
    · intro ll bb w' hs hlf hN hO hf hI hA
      clear hi'
      have q0 := hf.kept (s := 1) (by rw [sizeMh3]; kernel_rfl) k1
      exact Rg.op_value (o := ⟨some 16, Op.move (Operand.tmp 1), _, _, _, _⟩) (x := .iface 153 (.agg #[.int .i64 x.id, .int .i64 x.grp, tv, .int .i64 x.til, .int .i64 x.st, .int .i64 x.fr])) rfl rfl (by clear hA HS hN hO hE hT hR; simp only [execOp]; go_simp) ⟨_, rfl, (fun h => by cases h), rfl, hI, fun _ _ _ _ h => h⟩
    · intro ll bb w' hs hlf hN hO hf hI hA
      clear hi'
      have q16 : bb.tmps[16]? = some _ := hf.tmp (k := 1) rfl (by rw [ha]; decide) (hA 1 (by kernel_rfl))
      have hm := m_told1
      refine Rg.op_call (o := ⟨some 17, Op.call { callee := Callee.invoke (Operand.tmp 16) "loop.example/g00060/impl.told", args := #[], argTypes := _ }, _, _, _, _⟩) rfl rfl (by clear hA HS hN hO hE hT hR; simp only [execOp, resolve]; go_simp) (hT w' hI) ?_
      rintro e w2 ⟨rfl, hb2⟩
      exact ⟨_, rfl, _, rfl, (fun h => by cases h), rfl, onto hI hb2, fun k9 y9 _ _ h => HS hb2 k9 y9 h⟩
    · intro ll bb w' hs hlf hN hO hf hI hA
      clear hi'
      have q0 := hf.kept (s := 2) (by rw [sizeMh3]; kernel_rfl) k2
      exact Rg.op_value (o := ⟨some 18, Op.move (Operand.tmp 2), _, _, _, _⟩) (x := .int .i64 tm) rfl rfl (by clear hA HS hN hO hE hT hR; simp only [execOp]; go_simp) ⟨_, rfl, (fun h => by cases h), rfl, hI, fun _ _ _ _ h => h⟩
    · intro ll bb w' hs hlf hN hO hf hI hA
      clear hi'
      have q15 : bb.tmps[15]? = some _ := hf.tmp (k := 0) rfl (by rw [ha]; decide) (hA 0 (by kernel_rfl))
      have q17 : bb.tmps[17]? = some _ := hf.tmp (k := 2) rfl (by rw [ha]; decide) (hA 2 (by kernel_rfl))
      have q18 : bb.tmps[18]? = some _ := hf.tmp (k := 3) rfl (by rw [ha]; decide) (hA 3 (by kernel_rfl))
      refine Rg.op_call (o := ⟨some 19, Op.call { callee := Callee.value (Operand.func 84), args := #[(Operand.tmp 15), (Operand.tmp 17), (Operand.tmp 18)], argTypes := _ }, _, _, _, _⟩) rfl rfl (by clear hA HS hN hO hE hT hR; simp only [execOp, resolve]; go_simp) (hR w' hI) ?_
      rintro e w2 ⟨rfl, hb2⟩
      exact ⟨_, rfl, _, rfl, (fun h => by cases h), rfl, onto hI hb2, fun k9 y9 _ _ h => HS hb2 k9 y9 h⟩
    · intro ll bb w' hs hlf hN hO hf hI hA
      clear hi'
      have q19 : bb.tmps[19]? = some _ := hf.tmp (k := 4) rfl (by rw [ha]; decide) (hA 4 (by kernel_rfl))
      exact Rg.op_value (o := ⟨some 20, Op.binOp BinOp.eql 2 (Operand.tmp 19) (Operand.const (Value.int .i64 0)) 2, _, _, _, _⟩) (x := .bool (decide (r9 = 0))) rfl rfl (by clear hA HS hN hO hE hT hR; simp only [execOp]; go_simp; try rfl) ⟨_, rfl, (fun h => by cases h), rfl, hI, fun _ _ _ _ h => h⟩
    · intro ll bb w' hs hlf hN hO hf hI hA
      clear hi'
      have q20 : bb.tmps[20]? = some _ := hf.tmp (k := 5) rfl (by rw [ha]; decide) (hA 5 (by kernel_rfl))
      exact Rg.op_value (o := ⟨some 6, Op.assign (Operand.tmp 20), _, _, _, _⟩) (x := .bool (decide (r9 = 0))) rfl rfl (by clear hA HS hN hO hE hT hR; simp only [execOp]; go_simp) ⟨_, rfl, (fun h => by cases h), rfl, hI, fun _ _ _ _ h => h⟩
theorem dMh3_0 : Rg.dstAt (Rg.opsOf Try.f45 3) 0 = some 15 := by kernel_rfl
theorem dMh3_1 : Rg.dstAt (Rg.opsOf Try.f45 3) 1 = some 16 := by kernel_rfl
theorem dMh3_2 : Rg.dstAt (Rg.opsOf Try.f45 3) 2 = some 17 := by kernel_rfl
theorem dMh3_3 : Rg.dstAt (Rg.opsOf Try.f45 3) 3 = some 18 := by kernel_rfl
theorem dMh3_4 : Rg.dstAt (Rg.opsOf Try.f45 3) 4 = some 19 := by kernel_rfl
theorem dMh3_5 : Rg.dstAt (Rg.opsOf Try.f45 3) 5 = some 20 := by kernel_rfl
theorem dMh3_6 : Rg.dstAt (Rg.opsOf Try.f45 3) 6 = some 6 := by kernel_rfl
theorem layMh3 {a b : Act} (hf : Rg.Fr (Rg.opsOf Try.f45 3) a b) : b = (((((((a.put (some 15) (Rg.out (Rg.opsOf Try.f45 3) b 0)).put (some 16) (Rg.out (Rg.opsOf Try.f45 3) b 1)).put (some 17) (Rg.out (Rg.opsOf Try.f45 3) b 2)).put (some 18) (Rg.out (Rg.opsOf Try.f45 3) b 3)).put (some 19) (Rg.out (Rg.opsOf Try.f45 3) b 4)).put (some 20) (Rg.out (Rg.opsOf Try.f45 3) b 5)).put (some 6) (Rg.out (Rg.opsOf Try.f45 3) b 6)) := by
  have h := hf.chain
  rw [sizeMh3, show List.range 7 = [0, 1, 2, 3, 4, 5, 6] from by decide] at h
  simp only [List.foldl_cons, List.foldl_nil, dMh3_0, dMh3_1, dMh3_2, dMh3_3, dMh3_4, dMh3_5, dMh3_6] at h
  exact h
set_option maxRecDepth 20000 in
set_option maxHeartbeats 4000000 in
theorem imay_any (x : Ut) (ta : Option Addr) (tn tc : Nat) (n : Nd) (na : Option Addr) (nn nc : Nat) (t : Int) (w : World) (h : IRw w (.slice ta tn tc) x.ant) (hn : x.ant.length ≤ 1048576) (h' : IRw w (.slice na nn nc) n.ag) (hn' : n.ag.length ≤ 1048576) :
    Calls Try.prog 45 #[aN n (.slice na nn nc), aI (x, .slice ta tn tc), .int .i64 t] w fun e w' => e = .returned (.bool (mayB n t x)) ∧ Below w.heap.size w w' := by
  have HU := hidden (fun W (hW : Below w.heap.size w W) => h.below hW)
  have HN := hidden (fun W (hW : Below w.heap.size w W) => h'.below hW)
  have k := hidden (fun W hW hW' => irefuse_any x ta tn tc n na nn nc t W hW hn hW' hn')
  have k2 := hidden (told_any x ta tn tc)
  clear h h'
  rw [may_ref]
  unfold aI at *
  dsimp only
  by_cases h1 : x.st = 1
  · have h3 := as_keep1
    rw [h1, ifT_1]
    have HV : Hid (x.st = 1) := h1
    have PE := hidden (PB.new w #[.int .i64 n.p, .int .i64 n.g, .slice na nn nc] 27)
    have bE : Below w.heap.size w (w.alloc (.cells #[.int .i64 n.p, .int .i64 n.g, .slice na nn nc] 27)) := by repeat (first | exact Below.refl _ _ | assumption | refine st_drew ?_ | refine st_drewN ?_ _ | refine Below.setCell ?_ (by first | omega | (simp; done) | (simp; omega)) _ | refine Below.alloc ?_ (by first | omega | (simp; done) | (simp; omega)) _)
    have KT := hidden (fun W (hW : Below (w.alloc (.cells #[.int .i64 n.p, .int .i64 n.g, .slice na nn nc] 27)).heap.size (w.alloc (.cells #[.int .i64 n.p, .int .i64 n.g, .slice na nn nc] 27)) W) => k2.out W)
    have KR := hidden (fun W (hW : Below (w.alloc (.cells #[.int .i64 n.p, .int .i64 n.g, .slice na nn nc] 27)).heap.size (w.alloc (.cells #[.int .i64 n.p, .int .i64 n.g, .slice na nn nc] 27)) W) => k.out W (HU.out W (onto bE hW)) (HN.out W (onto bE hW)))
    have HB := hidden bE
    clear k k2 h1 bE
    generalize refuse x n t = rr at *
    unfold aU aN at *
    go_enter Try.func45, Try.ntmps45
    go_wp2_with fail
    go_upto_region 3 with fail
    refine regMh3 (C := w.heap.size) (n := n) (x := x) (tv := .slice ta tn tc) (tn := .slice na nn nc) (r9 := rr) (tm := t) rfl rfl rfl rfl PE.out KT.out KR.out ?_
    intro b' w3 hf hb3 hv
    rw [layMh3 hf, hv]
    clear hv hf
    have HB3 := hidden (onto HB.out hb3)
    clear hb3
    generalize Rg.out (Rg.opsOf Try.f45 3) b' 0 = z0
    generalize Rg.out (Rg.opsOf Try.f45 3) b' 1 = z1
    generalize Rg.out (Rg.opsOf Try.f45 3) b' 2 = z2
    generalize Rg.out (Rg.opsOf Try.f45 3) b' 3 = z3
    generalize Rg.out (Rg.opsOf Try.f45 3) b' 4 = z4
    generalize Rg.out (Rg.opsOf Try.f45 3) b' 5 = z5
    go_frame
    go_wp2_with fail
    go_ret
    exact ⟨ret_boolQ (by simp), HB3.out⟩
  · have h3 := as_keepN h1
    have HE := hidden (show decide (x.st = 1) = false by simp [h1])
    clear k k2
    unfold aU aN
    generalize ifT x.st = T at *
    go_enter Try.func45, Try.ntmps45
    go_wp2_with fail
    go_ret
    exact ⟨ret_boolQ (by rw [HE.out]; rfl), by repeat (first | exact Below.refl _ _ | assumption | refine st_drew ?_ | refine st_drewN ?_ _ | refine Below.setCell ?_ (by first | omega | (simp; done) | (simp; omega)) _ | refine Below.alloc ?_ (by first | omega | (simp; done) | (simp; omega)) _)⟩
end Go.Proofs.Ytgcpiinmcbdkmaa
