/-
  Merged: Pk14 Pk16 Q22.
-/
import Derived.Test.YtgcpiinmcbdkmaaMh19
import Derived.Test.YtgcpiinmcbdkmaaMh2
import Derived.Test.YtgcpiinmcbdkmaaMh1
import Derived.Test.YtgcpiinmcbdkmaaMh8
import Derived.Stop.Asserts
namespace Go.Proofs.Ytgcpiinmcbdkmaa
open Go.RowKit Go.Sort Va Bl Pq
set_option linter.all false
theorem ulen_any (n : Nat) (w : World) (hn : n < 4611686018427387904) : Calls Try.prog 86 #[.int .u64 n] w fun e w' => e = .returned (.int .i64 (bitsLen n : Nat)) ∧ w' = w :=
  calls_of_every_depth fun D => by
    have h := AnySM.bits_LenIn { Try.srtL with } D (n : Int) w (by omega) (by omega)
    rwa [Int.toNat_natCast, bitLen_eq _ (by omega)] at h
set_option maxRecDepth 20000 in
set_option maxHeartbeats 16000000 in
theorem usortfunc_any (nd : Nd) (sv : Value) (D : UE → Prop) (G c m : Nat) (d : List UE) (w : World) (hmm : m ≤ 100000) (hK : LessU nd sv D) (hSl : SlU D) (h : SU c w G d) (hm : d.length = m) (hF : Fine (ltU nd) D d) :
    Calls Try.prog 46 #[.slice (some ⟨G, 0, none⟩) m c, (.func (.func 47) #[.agg #[.int .i64 nd.p, .int .i64 nd.g, sv]] #[])] w fun e w' => e = .returned (.tuple #[]) ∧ ∃ d', SU c w' G d' ∧ PO 0 m d d' ∧ SO (ltU nd) 0 m d' ∧ Below G w w' := by
  obtain ⟨k, hk⟩ : ∃ k, bitsLen m = k := ⟨_, rfl⟩
  have hk1 : k ≤ 1000 := by have := (bitsLen_le_iff m 62).2 (by omega); omega
  have hL : ∀ W, Calls Try.prog 86 #[.int .u64 m] W fun e w' => e = .returned (.int .i64 k) ∧ w' = W := fun W => by rw [← hk]; exact ulen_any m W (by omega)
  have hc := updq_any nd sv D G c m hmm hK hSl (m + 1) 0 m k d w (by omega) (by omega) (Nat.le_refl _) hk1 h hm hF (Or.inl rfl)
  rw [show ((0 : Nat) : Int) = 0 from rfl] at hc
  clear h hF hK hSl hk
  go_enter Try.func46, Try.ntmps46
  go_wp2_with (first
    | (go_at_call 86; (with_reducible refine (hL _).mono ?_); rintro e w' ⟨rfl, rfl⟩)
    | (go_at_call 85; (with_reducible refine hc.mono ?_); rintro e w2 ⟨rfl, d2, hs2, hpo2, hso2, hb2⟩))
  go_end0
  exact ⟨rfl, d2, hs2, hpo2, hso2, hb2⟩
end Go.Proofs.Ytgcpiinmcbdkmaa

namespace Go.Proofs.Ytgcpiinmcbdkmaa
open Va Bl Pq
set_option linter.all false
theorem bef_rank {n : Nd} {a b : Ut} : befB n a b = true ↔ rank a n < rank b n ∨ (rank a n = rank b n ∧ (a.til < b.til ∨ (a.til = b.til ∧ a.id < b.id))) := by
  unfold befB
  by_cases h1 : rank a n = rank b n
  · rw [if_pos h1]
    by_cases h2 : a.til = b.til
    · rw [if_pos h2, decide_eq_true_iff]; omega
    · rw [if_neg h2, decide_eq_true_iff]; omega
  · rw [if_neg h1, decide_eq_true_iff]; omega
theorem bef_trans {n : Nd} {a b c : Ut} (h : befB n a b = true) (k : befB n b c = true) : befB n a c = true := by
  rw [bef_rank] at *; omega
theorem bef_asymm {n : Nd} {a b : Ut} (h : befB n a b = true) (k : befB n b a = true) : False := by
  rw [bef_rank] at *; omega
theorem bef_tot {n : Nd} {a b : Ut} (h : a.id ≠ b.id) (k : befB n a b ≠ true) : befB n b a = true := by
  rw [Ne, bef_rank] at k; rw [bef_rank]; omega
def Ord (n : Nd) (l : List Ut) : Prop := l.Pairwise (fun a b => befB n a b = true)
def Apt (l : List Ut) : Prop := l.Pairwise (fun a b => a.id ≠ b.id)
theorem Apt.perm {a b : List Ut} (h : Apt a) (hp : a.Perm b) : Apt b := (hp.pairwise_iff (fun {x y} h => Ne.symm h)).1 h
theorem ord_unique {n : Nd} {a b : List Ut} (hp : a.Perm b) (ha : Ord n a) (hb : Ord n b) : a = b :=
  List.Perm.eq_of_pairwise (fun _ _ _ _ h1 h2 => (bef_asymm h1 h2).elim) ha hb hp
theorem ins_perm (n : Nd) (u : Ut) (l : List Ut) : (insU n u l).Perm (u :: l) := by
  induction l with
  | nil => exact List.Perm.refl _
  | cons x l ih =>
    unfold insU
    split
    · exact List.Perm.refl _
    · exact (ih.cons x).trans (List.Perm.swap u x l)
theorem ins_ord {n : Nd} {u : Ut} {l : List Ut} (h : Ord n l) (hu : ∀ x ∈ l, u.id ≠ x.id) : Ord n (insU n u l) := by
  induction l with
  | nil => exact List.pairwise_singleton _ _
  | cons x l ih =>
    have hp := List.pairwise_cons.1 h
    unfold insU
    split
    · rename_i q
      refine List.pairwise_cons.2 ⟨fun y hy => ?_, h⟩
      rcases List.mem_cons.1 hy with rfl | hy
      · exact q
      · exact bef_trans q (hp.1 y hy)
    · rename_i q
      have qx := bef_tot (hu x (List.mem_cons_self)) q
      refine List.pairwise_cons.2 ⟨fun y hy => ?_, ih hp.2 (fun y hy => hu y (List.mem_cons_of_mem _ hy))⟩
      rcases List.mem_cons.1 ((ins_perm n u l).mem_iff.1 hy) with rfl | hy
      · exact qx
      · exact hp.1 y hy
def ordL (n : Nd) (l : List Ut) : List Ut := l.foldl (fun a u => insU n u a) []
theorem ord_fold (n : Nd) : ∀ (l a : List Ut), Ord n a → Apt (a ++ l) → Ord n (l.foldl (fun a u => insU n u a) a) ∧ (l.foldl (fun a u => insU n u a) a).Perm (a ++ l) := by
  intro l
  induction l with
  | nil => intro a h _; rw [List.append_nil]; exact ⟨h, List.Perm.refl _⟩
  | cons u l ih =>
    intro a h hA
    have hA2 : Apt (u :: (a ++ l)) := hA.perm List.perm_middle
    have hp := ins_perm n u a
    have hA3 : Apt (insU n u a ++ l) := hA2.perm (hp.symm.append_right l)
    have h2 := ih (insU n u a) (ins_ord h (fun x hx => (List.pairwise_cons.1 hA2).1 x (List.mem_append_left _ hx))) hA3
    exact ⟨h2.1, h2.2.trans ((hp.append_right l).trans List.perm_middle.symm)⟩
theorem ordL_fine {n : Nd} {l : List Ut} (h : Apt l) : Ord n (ordL n l) ∧ (ordL n l).Perm l := ord_fold n l [] List.Pairwise.nil h
theorem ordL_eq {n : Nd} {a l : List Ut} (h : Apt l) (hp : a.Perm l) (ho : Ord n a) : a = ordL n l :=
  ord_unique (hp.trans (ordL_fine h).2.symm) ho (ordL_fine h).1
def haveL (l : List Ut) (n : Nd) (t : Int) : List Ut := ordL n (l.filter (mayB n t))
def pick (l : List Ut) (n : Nd) (t c : Int) : List Int := if pickB l n t c = true then ((haveL l n t).take c.toNat).map Ut.id else []
theorem bank_apt {l : List Ut} (h : bankB l = true) : Apt l := by
  unfold bankB at h
  rw [Bool.and_eq_true] at h
  refine List.pairwise_iff_getElem.2 fun i j hi hj hij => ?_
  have := ris_lt h.2 (j - i - 1) i l[i] l[j] (List.getElem?_eq_getElem hi) (by rw [show i + (j - i - 1) + 1 = j by omega]; exact List.getElem?_eq_getElem hj)
  omega
theorem Apt.filter {l : List Ut} (h : Apt l) (f : Ut → Bool) : Apt (l.filter f) := List.Pairwise.filter f h
theorem Apt.take {l : List Ut} (h : Apt l) (i : Nat) : Apt (l.take i) := List.Pairwise.sublist (List.take_sublist i l) h
theorem ord_of_at {n : Nd} {l : List Ut} (h : ∀ i j, i < j → j < l.length → befB n (at' l i) (at' l j) = true) : Ord n l :=
  List.pairwise_iff_getElem.2 fun i j hi hj hij => by
    have := h i j hij hj
    rwa [at_of (List.getElem?_eq_getElem hi), at_of (List.getElem?_eq_getElem hj)] at this
theorem ord_mid {n : Nd} {u : Ut} {d : List Ut} {k : Nat} (h : Ord n d) (hu : ∀ x ∈ d, u.id ≠ x.id) (hb : ∀ x ∈ d.drop k, befB n u x = true) (ha : k = 0 ∨ ∃ y, d[k - 1]? = some y ∧ befB n u y ≠ true) : Ord n (d.take k ++ u :: d.drop k) := by
  have h' : Ord n (d.take k ++ d.drop k) := by rw [List.take_append_drop]; exact h
  obtain ⟨p1, p2, p3⟩ := List.pairwise_append.1 h'
  refine List.pairwise_append.2 ⟨p1, List.pairwise_cons.2 ⟨hb, p2⟩, fun a ha' b hb' => ?_⟩
  rcases List.mem_cons.1 hb' with rfl | hb'
  · rcases ha with rfl | ⟨y, hy, hn⟩
    · simp at ha'
    · have hyd := List.mem_of_getElem? hy
      have h1 := bef_tot (hu y hyd) hn
      obtain ⟨i, hi⟩ := List.getElem?_of_mem ha'
      rw [List.getElem?_take] at hi
      split at hi
      · rename_i hik
        by_cases e : i = k - 1
        · subst e; rw [hy] at hi; rw [← Option.some.inj hi]; exact h1
        · obtain ⟨q1, q2⟩ := List.getElem?_eq_some_iff.1 hi
          obtain ⟨q3, q4⟩ := List.getElem?_eq_some_iff.1 hy
          have := List.pairwise_iff_getElem.1 h i (k - 1) q1 q3 (by omega)
          rw [q2, q4] at this
          exact bef_trans this h1
      · cases hi
  · exact p3 a ha' b hb'
theorem perm_mid (u : Ut) (d : List Ut) (k : Nat) : (d.take k ++ u :: d.drop k).Perm (u :: d) :=
  List.perm_middle.trans (by rw [List.take_append_drop])
end Go.Proofs.Ytgcpiinmcbdkmaa

namespace Go.Proofs.Ytgcpiinmcbdkmaa
open Go.RowKit Va Bl
set_option linter.all false
def ifT (st : Int) : TypeId := if st = 1 then 153 else if st = 2 then 154 else if st = 3 then 155 else 156
theorem ifT_1 : ifT 1 = 153 := rfl
theorem ifT_2 : ifT 2 = 154 := rfl
theorem ifT_3 : ifT 3 = 155 := rfl
theorem ifT_4 {st : Int} (h1 : ¬ st = 1) (h2 : ¬ st = 2) (h3 : ¬ st = 3) : ifT st = 156 := by unfold ifT; rw [if_neg h1, if_neg h2, if_neg h3]
def aI (p : Ut × Value) : Value := .iface (ifT p.1.st) (aU p.1 p.2)
theorem m_told1 (a b c d e : Int) (s : Value) (w : World) : (method 331 153 (.agg #[.int .i64 a, .int .i64 b, s, .int .i64 c, .int .i64 d, .int .i64 e]) "loop.example/g00060/impl.told").run Try.prog w = .ok (195, .agg #[.int .i64 a, .int .i64 b, s, .int .i64 c, .int .i64 d, .int .i64 e]) w := by kernel_rfl
theorem m_told2 (a b c d e : Int) (s : Value) (w : World) : (method 331 154 (.agg #[.int .i64 a, .int .i64 b, s, .int .i64 c, .int .i64 d, .int .i64 e]) "loop.example/g00060/impl.told").run Try.prog w = .ok (195, .agg #[.int .i64 a, .int .i64 b, s, .int .i64 c, .int .i64 d, .int .i64 e]) w := by kernel_rfl
theorem m_told3 (a b c d e : Int) (s : Value) (w : World) : (method 331 155 (.agg #[.int .i64 a, .int .i64 b, s, .int .i64 c, .int .i64 d, .int .i64 e]) "loop.example/g00060/impl.told").run Try.prog w = .ok (195, .agg #[.int .i64 a, .int .i64 b, s, .int .i64 c, .int .i64 d, .int .i64 e]) w := by kernel_rfl
theorem m_told4 (a b c d e : Int) (s : Value) (w : World) : (method 331 156 (.agg #[.int .i64 a, .int .i64 b, s, .int .i64 c, .int .i64 d, .int .i64 e]) "loop.example/g00060/impl.told").run Try.prog w = .ok (195, .agg #[.int .i64 a, .int .i64 b, s, .int .i64 c, .int .i64 d, .int .i64 e]) w := by kernel_rfl
theorem m_told (T : Int) (a b c d e : Int) (s : Value) (w : World) : (method 331 (ifT T) (.agg #[.int .i64 a, .int .i64 b, s, .int .i64 c, .int .i64 d, .int .i64 e]) "loop.example/g00060/impl.told").run Try.prog w = .ok (195, .agg #[.int .i64 a, .int .i64 b, s, .int .i64 c, .int .i64 d, .int .i64 e]) w := by
  unfold ifT
  split
  · exact m_told1 _ _ _ _ _ _ _
  · split
    · exact m_told2 _ _ _ _ _ _ _
    · split
      · exact m_told3 _ _ _ _ _ _ _
      · exact m_told4 _ _ _ _ _ _ _
set_option maxRecDepth 20000 in
set_option maxHeartbeats 2000000 in
theorem told_any (x : Ut) (ta : Option Addr) (n tc : Nat) (w : World) : Calls Try.prog 195 #[aU x (.slice ta n tc)] w fun e w' => e = .returned (aU x (.slice ta n tc)) ∧ Below w.heap.size w w' := by
  unfold aU
  go_enter Try.func195, Try.ntmps195
  have P := PB.new (w.alloc (.cells #[.int .i64 x.id, .int .i64 x.grp, .slice ta n tc, .int .i64 x.til, .int .i64 x.st, .int .i64 x.fr] 81)) #[.int .i64 x.id, .int .i64 x.grp, .slice ta n tc, .int .i64 x.til, .int .i64 x.st, .int .i64 x.fr] 81
  simp only [World.size_alloc] at P
  have HP := hidden P
  clear P
  go_wp2_with fail
  exact bodyPost_ret (v := .agg #[.int .i64 x.id, .int .i64 x.grp, .slice ta n tc, .int .i64 x.til, .int .i64 x.st, .int .i64 x.fr]) (results_cell_row Try.results195 _ _ (w.heap.size + 1) 81 _ (0, 0) _ rfl HP.out Try.underlying81 rfl (by kernel_rfl)) rfl ⟨rfl, by repeat (first | exact Below.refl _ _ | assumption | refine st_drew ?_ | refine st_drewN ?_ _ | refine Below.setCell ?_ (by first | omega | (simp; done) | (simp; omega)) _ | refine Below.alloc ?_ (by first | omega | (simp; done) | (simp; omega)) _)⟩
set_option maxRecDepth 20000 in
set_option maxHeartbeats 4000000 in
theorem anewU_any (x : Ut) (ta : Option Addr) (tn tc : Nat) (w : World) (h : IRw w (.slice ta tn tc) x.ant) (hn : x.ant.length ≤ 1048576) :
    Calls Try.prog 82 #[aU x (.slice ta tn tc)] w fun e w' => ∃ ad c, e = .returned (aU x (.slice ad x.ant.length c)) ∧ w'.ownsRow w.heap.size 2 1 (.slice ad x.ant.length c) x.ant.length (x.ant.map fun z => Value.int .i64 z) ∧ Below w.heap.size w w' := by
  obtain rfl := h.len
  have P1 := ((PB.new w #[.int .i64 x.id, .int .i64 x.grp, .slice ta x.ant.length tc, .int .i64 x.til, .int .i64 x.st, .int .i64 x.fr] 81).alloc (.cells #[.int .i64 0, .int .i64 0, .slice none 0 0, .int .i64 0, .int .i64 0, .int .i64 0] 81)).alloc (.cells #[] 2)
  have P2 := (PB.new (w.alloc (.cells #[.int .i64 x.id, .int .i64 x.grp, .slice ta x.ant.length tc, .int .i64 x.til, .int .i64 x.st, .int .i64 x.fr] 81)) #[.int .i64 0, .int .i64 0, .slice none 0 0, .int .i64 0, .int .i64 0, .int .i64 0] 81).alloc (.cells #[] 2)
  have P3 := PB.new ((w.alloc (.cells #[.int .i64 x.id, .int .i64 x.grp, .slice ta x.ant.length tc, .int .i64 x.til, .int .i64 x.st, .int .i64 x.fr] 81)).alloc (.cells #[.int .i64 0, .int .i64 0, .slice none 0 0, .int .i64 0, .int .i64 0, .int .i64 0] 81)) #[] 2
  have hA : Below w.heap.size w (((w.alloc (.cells #[.int .i64 x.id, .int .i64 x.grp, .slice ta x.ant.length tc, .int .i64 x.til, .int .i64 x.st, .int .i64 x.fr] 81)).alloc (.cells #[.int .i64 0, .int .i64 0, .slice none 0 0, .int .i64 0, .int .i64 0, .int .i64 0] 81)).alloc (.cells #[] 2)) := by repeat (first | exact Below.refl _ _ | assumption | refine st_drew ?_ | refine st_drewN ?_ _ | refine Below.setCell ?_ (by first | omega | (simp; done) | (simp; omega)) _ | refine Below.alloc ?_ (by first | omega | (simp; done) | (simp; omega)) _)
  have hz3 : (((w.alloc (.cells #[.int .i64 x.id, .int .i64 x.grp, .slice ta x.ant.length tc, .int .i64 x.til, .int .i64 x.st, .int .i64 x.fr] 81)).alloc (.cells #[.int .i64 0, .int .i64 0, .slice none 0 0, .int .i64 0, .int .i64 0, .int .i64 0] 81)).alloc (.cells #[] 2)).heap.size = w.heap.size + 1 + 1 + 1 := by simp
  simp only [World.size_alloc] at P2 P3
  have hR := h.below hA
  unfold aU
  clear h
  generalize hW3 : (((w.alloc (.cells #[.int .i64 x.id, .int .i64 x.grp, .slice ta x.ant.length tc, .int .i64 x.til, .int .i64 x.st, .int .i64 x.fr] 81)).alloc (.cells #[.int .i64 0, .int .i64 0, .slice none 0 0, .int .i64 0, .int .i64 0, .int .i64 0] 81)).alloc (.cells #[] 2)) = W3 at *
  have HZ := hidden hz3
  have HP1 := hidden P1
  have HP2 := hidden P2
  have HP3 := hidden P3
  have HA := hidden hA
  have HR := hidden hR
  obtain ⟨-, -, r2, -⟩ := P1.six
  clear hz3 P1 P2 P3 hA hR
  go_enter Try.func82, Try.ntmps82
  go_wp2_with (at_builtin; refine wpList_newQ rfl (.tmp 3) (.tmp 5) rfl (w.heap.size + 1 + 1) rfl HP3.out ta x.ant.length tc x.ant rfl HR.out hn ?_; intro v4 w4 ho4 hg4; have hO4 := hidden ho4; obtain ⟨ad4, c4, rfl⟩ := ownW_slice ho4; have T1 := hidden (HP1.out.grownQ hg4 (fun k hk => by have := Option.some.inj hk; omega)); have T2 := hidden (HP2.out.grownQ hg4 (fun k hk => by have := Option.some.inj hk; omega)); have b4 := hidden (HA.out.grown hg4 (by have := HZ.out; omega) (fun k hk => by have := Option.some.inj hk; omega)); have z4 := T2.out.lt; obtain ⟨p0, p1, p2, p3, p4, p5⟩ := T1.out.six; obtain ⟨f0, f1, f2, f3, f4, f5, -⟩ := T1.out.cold; obtain ⟨q0, q1, q2, q3, q4, q5⟩ := T2.out.six; obtain ⟨g0, g1, g2, g3, g4, g5, -⟩ := T2.out.cold; clear ho4 hg4)
  have zl := fun k (hk : (Value.slice ad4 x.ant.length c4).ownBlock = some k) => (ownW_lt hO4.out k hk).1
  have e0 := T2.out.far (b := w.heap.size) (by omega) 2 (.slice ad4 x.ant.length c4)
  have o0 := ownQ_set (b := w.heap.size) (o := 2) hO4.out (fun k hk => by have := zl k hk; omega) (.slice ad4 x.ant.length c4)
  have d0 := b4.out.setCell (p := ⟨w.heap.size, 2, none⟩) (Nat.le_refl _) (.slice ad4 x.ant.length c4)
  have e1 := e0.put 0 (.int .i64 x.id) rfl
  have o1 := ownQ_set (b := w.heap.size + 1) (o := 0) o0 (fun k hk => by have := zl k hk; omega) (.int .i64 x.id)
  have d1 := d0.setCell (p := ⟨w.heap.size + 1, 0, none⟩) (by show w.heap.size ≤ w.heap.size + 1; omega) (.int .i64 x.id)
  have e2 := e1.put 1 (.int .i64 x.grp) rfl
  have o2 := ownQ_set (b := w.heap.size + 1) (o := 1) o1 (fun k hk => by have := zl k hk; omega) (.int .i64 x.grp)
  have d2 := d1.setCell (p := ⟨w.heap.size + 1, 1, none⟩) (by show w.heap.size ≤ w.heap.size + 1; omega) (.int .i64 x.grp)
  have e3 := e2.put 2 (.slice ad4 x.ant.length c4) rfl
  have o3 := ownQ_set (b := w.heap.size + 1) (o := 2) o2 (fun k hk => by have := zl k hk; omega) (.slice ad4 x.ant.length c4)
  have d3 := d2.setCell (p := ⟨w.heap.size + 1, 2, none⟩) (by show w.heap.size ≤ w.heap.size + 1; omega) (.slice ad4 x.ant.length c4)
  have e4 := e3.put 3 (.int .i64 x.til) rfl
  have o4 := ownQ_set (b := w.heap.size + 1) (o := 3) o3 (fun k hk => by have := zl k hk; omega) (.int .i64 x.til)
  have d4 := d3.setCell (p := ⟨w.heap.size + 1, 3, none⟩) (by show w.heap.size ≤ w.heap.size + 1; omega) (.int .i64 x.til)
  have e5 := e4.put 4 (.int .i64 x.st) rfl
  have o5 := ownQ_set (b := w.heap.size + 1) (o := 4) o4 (fun k hk => by have := zl k hk; omega) (.int .i64 x.st)
  have d5 := d4.setCell (p := ⟨w.heap.size + 1, 4, none⟩) (by show w.heap.size ≤ w.heap.size + 1; omega) (.int .i64 x.st)
  have e6 := e5.put 5 (.int .i64 x.fr) rfl
  have o6 := ownQ_set (b := w.heap.size + 1) (o := 5) o5 (fun k hk => by have := zl k hk; omega) (.int .i64 x.fr)
  have d6 := d5.setCell (p := ⟨w.heap.size + 1, 5, none⟩) (by show w.heap.size ≤ w.heap.size + 1; omega) (.int .i64 x.fr)
  have hfin := ownW_base o6 (show w.heap.size ≤ w.heap.size + 1 + 1 by omega)
  exact bodyPost_ret (v := .agg #[.int .i64 x.id, .int .i64 x.grp, .slice ad4 x.ant.length c4, .int .i64 x.til, .int .i64 x.st, .int .i64 x.fr]) (results_cell_row Try.results82 _ _ (w.heap.size + 1) 81 _ (0, 0) _ rfl e6 Try.underlying81 rfl (by kernel_rfl)) rfl ⟨_, _, rfl, hfin, d6⟩
set_option maxRecDepth 20000 in
set_option maxHeartbeats 4000000 in
theorem instate_any (x : Ut) (ta : Option Addr) (n tc : Nat) (w : World) : Calls Try.prog 83 #[aU x (.slice ta n tc)] w fun e w' => e = .returned (aI (x, .slice ta n tc)) ∧ Below w.heap.size w w' := by
  obtain ⟨id, grp, ant, til, st, fr⟩ := x
  unfold aI aU
  dsimp only
  by_cases h1 : st = 1
  · subst h1
    rw [ifT_1]
    go_enter Try.func83, Try.ntmps83
    go_wp2_with fail
    go_ret
    exact ⟨rfl, by repeat (first | exact Below.refl _ _ | assumption | refine st_drew ?_ | refine st_drewN ?_ _ | refine Below.setCell ?_ (by first | omega | (simp; done) | (simp; omega)) _ | refine Below.alloc ?_ (by first | omega | (simp; done) | (simp; omega)) _)⟩
  by_cases h2 : st = 2
  · subst h2
    rw [ifT_2]
    go_enter Try.func83, Try.ntmps83
    go_wp2_with fail
    go_ret
    exact ⟨rfl, by repeat (first | exact Below.refl _ _ | assumption | refine st_drew ?_ | refine st_drewN ?_ _ | refine Below.setCell ?_ (by first | omega | (simp; done) | (simp; omega)) _ | refine Below.alloc ?_ (by first | omega | (simp; done) | (simp; omega)) _)⟩
  by_cases h3 : st = 3
  · subst h3
    rw [ifT_3]
    go_enter Try.func83, Try.ntmps83
    go_wp2_with fail
    go_ret
    exact ⟨rfl, by repeat (first | exact Below.refl _ _ | assumption | refine st_drew ?_ | refine st_drewN ?_ _ | refine Below.setCell ?_ (by first | omega | (simp; done) | (simp; omega)) _ | refine Below.alloc ?_ (by first | omega | (simp; done) | (simp; omega)) _)⟩
  rw [ifT_4 h1 h2 h3]
  go_enter Try.func83, Try.ntmps83
  go_wp2_with fail
  go_ret
  exact ⟨rfl, by repeat (first | exact Below.refl _ _ | assumption | refine st_drew ?_ | refine st_drewN ?_ _ | refine Below.setCell ?_ (by first | omega | (simp; done) | (simp; omega)) _ | refine Below.alloc ?_ (by first | omega | (simp; done) | (simp; omega)) _)⟩
theorem as_trace3 (v : Value) (xT : TypeId) (w : World) : (Instr.typeAssert (.iface 155 v) xT 140 true).run Try.prog w = .ok (.tuple #[.iface 155 v, .bool true]) w := run_typeAssert_hasB Try.underlying140 (by kernel_rfl) v xT w
theorem as_traceN {st : Int} (h : ¬ st = 3) (v : Value) (xT : TypeId) (w : World) : (Instr.typeAssert (.iface (ifT st) v) xT 140 true).run Try.prog w = .ok (.tuple #[.nilIface, .bool false]) w := by
  unfold ifT
  split
  · exact run_typeAssert_lacksB Try.underlying140 (by kernel_rfl) (by kernel_rfl) v xT w
  · split
    · exact run_typeAssert_lacksB Try.underlying140 (by kernel_rfl) (by kernel_rfl) v xT w
    · exact run_typeAssert_lacksB Try.underlying140 (by kernel_rfl) (by kernel_rfl) v xT w
theorem m_given (a b c d e : Int) (s : Value) (w : World) : (method 331 155 (.agg #[.int .i64 a, .int .i64 b, s, .int .i64 c, .int .i64 d, .int .i64 e]) "loop.example/g00060/impl.isGivenTo").run Try.prog w = .ok (203, .agg #[.int .i64 a, .int .i64 b, s, .int .i64 c, .int .i64 d, .int .i64 e]) w := by kernel_rfl
set_option maxRecDepth 20000 in
set_option maxHeartbeats 1000000 in
theorem given_any (x : Ut) (tv : Value) (p : Int) (w : World) : Calls Try.prog 203 #[aU x tv, .int .i64 p] w fun e w' => e = .returned (.bool (decide (x.fr = p))) ∧ Below w.heap.size w w' := by
  unfold aU
  go_enter Try.func203, Try.ntmps203
  go_wp2_with fail
  all_goals go_ret
  all_goals exact ⟨ret_boolQ (by first | rfl | (simp; done)), by repeat (first | exact Below.refl _ _ | assumption | refine st_drew ?_ | refine st_drewN ?_ _ | refine Below.setCell ?_ (by first | omega | (simp; done) | (simp; omega)) _ | refine Below.alloc ?_ (by first | omega | (simp; done) | (simp; omega)) _)⟩
set_option maxRecDepth 20000 in
set_option maxHeartbeats 1000000 in
theorem iwas_any (x : Ut × Value) (p : Int) (w : World) : Calls Try.prog 57 #[aI x, .int .i64 p] w fun e w' => e = .returned (.bool (decide (x.1.st = 3) && decide (x.1.fr = p))) ∧ Below w.heap.size w w' := by
  obtain ⟨⟨id, grp, ant, til, st, fr⟩, tv⟩ := x
  have k := given_any ⟨id, grp, ant, til, st, fr⟩ tv p
  unfold aI aU at *
  dsimp only at *
  by_cases h3 : st = 3
  · subst h3
    have h1 := as_trace3
    have h2 := m_given
    rw [ifT_3]
    generalize decide (fr = p) = t at *
    go_enter Try.func57, Try.ntmps57
    go_wp2_with (go_at_call 203; refine (k _).mono ?_; rintro e w1 ⟨rfl, hb1⟩)
    go_ret
    exact ⟨ret_boolQ (by simp), hb1⟩
  · have h1 := as_traceN h3
    have HE := hidden (show decide (st = 3) = false by simp [h3])
    generalize ifT st = T at *
    go_enter Try.func57, Try.ntmps57
    go_wp2_with fail
    go_ret
    exact ⟨ret_boolQ (by rw [HE.out]; rfl), by repeat (first | exact Below.refl _ _ | assumption | refine st_drew ?_ | refine st_drewN ?_ _ | refine Below.setCell ?_ (by first | omega | (simp; done) | (simp; omega)) _ | refine Below.alloc ?_ (by first | omega | (simp; done) | (simp; omega)) _)⟩
end Go.Proofs.Ytgcpiinmcbdkmaa
