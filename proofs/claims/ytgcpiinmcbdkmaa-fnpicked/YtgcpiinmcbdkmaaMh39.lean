/-
  Merged: Pk23.
-/
import Derived.Test.YtgcpiinmcbdkmaaMh32
import Derived.Test.YtgcpiinmcbdkmaaMh38
import Derived.Test.YtgcpiinmcbdkmaaMh25
import Derived.Test.YtgcpiinmcbdkmaaMh37
import Derived.BigQuiet
namespace Go.Proofs.Ytgcpiinmcbdkmaa
open Go.RowKit Va Bl Pq
set_option linter.all false
theorem bank_iff {l : List Ut} : bankB l = true ↔ l.length ≤ 300 ∧ risB unitB Ut.id l = true := by unfold bankB; simp
theorem turn_id (x : Ut) (n : Nd) (k : Int) : (turnU x n k).id = x.id := by unfold turnU; split <;> (try split) <;> (try split) <;> rfl
theorem turn_unit {x : Ut} {n : Nd} {k : Int} (hx : unitB x = true) (hn : needB n = true) : unitB (turnU x n k) = true := by
  have hp : perB n.p = true := by unfold needB at hn; simp only [Bool.and_eq_true] at hn; exact hn.1
  unfold unitB at hx ⊢
  simp only [Bool.and_eq_true] at hx ⊢
  obtain ⟨h1, h2, h3, h4, h5⟩ := hx
  unfold turnU
  split
  · exact ⟨h1, h2, h3, h4, by simp [forB, rng, hp]⟩
  · split
    · exact ⟨h1, h2, h3, h4, by simp [forB, rng]⟩
    · split
      · exact ⟨h1, h2, h3, h4, by simp [forB, rng, hp]⟩
      · exact ⟨h1, h2, h3, h4, by simp [forB, rng]⟩
theorem bank_set {l : List Ut} {k : Nat} {x y : Ut} (h : bankB l = true) (hx : l[k]? = some x) (hy : unitB y = true) (he : y.id = x.id) : bankB (l.set k y) = true := by
  obtain ⟨h1, h2⟩ := bank_iff.1 h
  refine bank_iff.2 ⟨by rw [List.length_set]; exact h1, risB_iff.2 fun i hi => ?_⟩
  rw [List.length_set] at hi
  have hkl := get_lt' hx
  have hid : ∀ (j : Nat) (z : Ut), (l.set k y)[j]? = some z → ∃ z' : Ut, l[j]? = some z' ∧ z.id = z'.id ∧ unitB z = true := by
    intro j z hz
    by_cases hjk : k = j
    · subst hjk
      rw [List.getElem?_set_self hkl] at hz
      obtain rfl := Option.some.inj hz
      exact ⟨x, hx, he, hy⟩
    · rw [List.getElem?_set_ne hjk] at hz
      exact ⟨z, hz, rfl, ris_ok h2 z (List.mem_of_getElem? hz)⟩
  obtain ⟨z, hz⟩ : ∃ z, (l.set k y)[i]? = some z := ⟨_, List.getElem?_eq_getElem (by rw [List.length_set]; exact hi)⟩
  obtain ⟨z', hz', e1, e2⟩ := hid i z hz
  refine (rAt_iff hz).2 ⟨e2, fun v h0 hv => ?_⟩
  obtain ⟨v', hv', f1, -⟩ := hid _ v hv
  have := ((rAt_iff hz').1 (risB_iff.1 h2 i hi)).2 v' h0 hv'
  omega
theorem done_facts {l : List Ut} {n : Nd} {a : Da} (hB : bankB l = true) (h0 : codeB l n a = 0) : ∃ k x, placeOf l a.id = some k ∧ l[k]? = some x ∧ x.id = a.id ∧ doingB a = true ∧ needB n = true ∧ codeU x n a = 0 ∧ bankDo l n a = l.set k (turnU x n a.k) := by
  have h1 := h0
  unfold codeB at h1
  rw [if_pos hB] at h1
  split at h1
  · rename_i hd
    cases hp : placeOf l a.id with
    | none => rw [hp] at h1; cases h1
    | some k =>
      rw [hp] at h1
      obtain ⟨x, hx, he⟩ := place_get hp
      have hg : l.getD k default = x := by rw [List.getD_eq_getElem?_getD, hx]; rfl
      simp only [hg] at h1
      refine ⟨k, x, rfl, hx, he, hd.1, hd.2, h1, ?_⟩
      unfold bankDo
      rw [if_pos hB, if_pos h0, hp, ← hg]
  · cases h1
theorem code_bad {l : List Ut} {n : Nd} {a : Da} (hB : bankB l = false) : codeB l n a = 1 ∧ bankDo l n a = [] := by
  unfold codeB bankDo
  simp [hB]
theorem do_same {l : List Ut} {n : Nd} {a : Da} (hB : bankB l = true) (h : codeB l n a ≠ 0) : bankDo l n a = l := by
  unfold bankDo
  rw [if_pos hB, if_neg h]
theorem do_bank {l : List Ut} {n : Nd} {a : Da} (hB : bankB l = true) : bankB (bankDo l n a) = true ∧ (bankDo l n a).length = l.length := by
  by_cases h0 : codeB l n a = 0
  · obtain ⟨k, x, -, hx, he, hd, hn, hc, e⟩ := done_facts hB h0
    rw [e]
    exact ⟨bank_set hB hx (turn_unit (ris_ok (bank_iff.1 hB).2 x (List.mem_of_getElem? hx)) hn) (turn_id _ _ _), List.length_set⟩
  · rw [do_same hB h0]; exact ⟨hB, rfl⟩
theorem do_given {l : List Ut} {n : Nd} {a : Da} (hB : bankB l = true) (h0 : codeB l n a = 0) (h3 : a.k = 3) : (∀ k : Int, 1 ≤ k → k ≤ 4 → codeB (bankDo l n a) n ⟨k, a.id, a.t⟩ = 4) ∧ a.id ∈ trace (bankDo l n a) n.p := by
  obtain ⟨j, x, hp, hx, he, hd, hn, hc, e⟩ := done_facts hB h0
  have hb := (do_bank (n := n) (a := a) hB).1
  have hj : (bankDo l n a)[j]? = some (turnU x n 3) := by rw [e, h3, List.getElem?_set_self (get_lt' hx)]
  have ht3 : turnU x n 3 = { x with st := 3, fr := n.p } := by simp [turnU]
  rw [ht3] at hj
  have hpl : placeOf (bankDo l n a) a.id = some j := place_hit hj he (fun i y hi hy e2 => by have := ris_one (bank_iff.1 hb).2 hy hj (by rw [e2]; exact he.symm); omega)
  refine ⟨fun k k1 k4 => ?_, ?_⟩
  · have hd2 : doingB ⟨k, a.id, a.t⟩ = true := by
      unfold doingB at hd ⊢
      simp only [Bool.and_eq_true] at hd ⊢
      exact ⟨by simp [rng]; omega, hd.2⟩
    unfold codeB
    rw [if_pos hb, if_pos ⟨hd2, hn⟩]
    simp only [hpl]
    have hg : (bankDo l n a).getD j default = { x with st := 3, fr := n.p } := by rw [List.getD_eq_getElem?_getD, hj]; rfl
    rw [hg]
    unfold codeU
    have : fineB { x with st := 3, fr := n.p } n k = false := by
      unfold fineB
      split
      · rfl
      · split <;> rfl
    rw [this]
    rfl
  · unfold trace traceL
    rw [if_pos hb]
    refine List.mem_map.2 ⟨_, List.mem_filter.2 ⟨List.mem_of_getElem? hj, by simp⟩, he⟩
theorem do_ant {l : List Ut} {n : Nd} {a : Da} : ∀ y ∈ bankDo l n a, ∃ x ∈ l, y.ant = x.ant := by
  intro y hy
  cases hB : bankB l with
  | false => rw [(code_bad hB).2] at hy; cases hy
  | true =>
    by_cases h0 : codeB l n a = 0
    · obtain ⟨k, x, -, hx, -, -, -, -, e⟩ := done_facts hB h0
      rw [e] at hy
      rcases List.mem_or_eq_of_mem_set hy with h | rfl
      · exact ⟨y, h, rfl⟩
      · refine ⟨x, List.mem_of_getElem? hx, ?_⟩
        unfold turnU
        split <;> (try split) <;> (try split) <;> rfl
    · rw [do_same hB h0] at hy
      exact ⟨y, hy, rfl⟩
theorem fits_kept {x : Ut} {n : Nd} (hx : fitsB x n = true) : fitsB (turnU x n 1) n = true := by
  unfold fitsB at hx ⊢
  simp only [Bool.and_eq_true] at hx ⊢
  exact ⟨turn_unit hx.1 hx.2.1, hx.2.1, by simpa [turnU] using hx.2.2.1, by simpa [turnU, freeOf] using hx.2.2.2⟩
theorem picked {l : List Ut} {n : Nd} {t c z : Int} (hz : z ∈ pick l n t c) :
    codeB l n ⟨1, z, t⟩ = 0 ∧ codeB (bankDo l n ⟨1, z, t⟩) n ⟨3, z, t⟩ = 0 ∧ z ∈ trace (bankDo (bankDo l n ⟨1, z, t⟩) n ⟨3, z, t⟩) n.p := by
  unfold pick at hz
  split at hz
  · rename_i hP
    obtain ⟨hB, hN, hT, -, -⟩ := pickB_iff.1 hP
    obtain ⟨x, hx, rfl⟩ := List.mem_map.1 hz
    have hx2 := (ordL_fine ((bank_apt hB).filter (mayB n t))).2.mem_iff.1 (List.mem_of_mem_take hx)
    obtain ⟨hxl, hm⟩ := List.mem_filter.1 hx2
    have hm2 := hm
    unfold mayB at hm2
    simp only [Bool.and_eq_true, decide_eq_true_eq] at hm2
    obtain ⟨h1, h2, h3⟩ := hm2
    have hU := ris_ok (bank_iff.1 hB).2 x hxl
    obtain ⟨k, hk⟩ := List.getElem?_of_mem hxl
    have hid : rng x.id 1 1000000 = true := by unfold unitB at hU; simp only [Bool.and_eq_true] at hU; exact hU.1
    have hd : ∀ q : Int, 1 ≤ q → q ≤ 4 → doingB ⟨q, x.id, t⟩ = true := fun q q1 q2 => by
      unfold doingB; simp only [Bool.and_eq_true]; exact ⟨by rw [rng_iff]; exact ⟨q1, q2⟩, hid, hT⟩
    have hpl : placeOf l x.id = some k := place_hit hk rfl (fun i y hi hy e2 => by have := ris_one (bank_iff.1 hB).2 hy hk e2; omega)
    have hg : l.getD k default = x := by rw [List.getD_eq_getElem?_getD, hk]; rfl
    have hr : refuse x n t = 0 := by unfold refuse; rw [if_neg (by omega), if_pos h3]
    have c1 : codeB l n ⟨1, x.id, t⟩ = 0 := by
      unfold codeB
      rw [if_pos hB, if_pos ⟨hd 1 (by omega) (by omega), hN⟩]
      simp only [hpl, hg]
      unfold codeU
      rw [if_pos (by simp [fineB, h1]), if_pos (Or.inl rfl)]
      exact hr
    obtain ⟨k', x', hp', hx', he', -, -, -, e⟩ := done_facts hB c1
    obtain rfl := Option.some.inj (hp'.symm.trans hpl)
    obtain rfl := Option.some.inj (hx'.symm.trans hk)
    have hB1 := (do_bank (n := n) (a := ⟨1, x'.id, t⟩) hB).1
    have hj : (bankDo l n ⟨1, x'.id, t⟩)[k']? = some (turnU x' n 1) := by rw [e, List.getElem?_set_self (get_lt' hk)]
    have hpl1 : placeOf (bankDo l n ⟨1, x'.id, t⟩) x'.id = some k' := place_hit hj (turn_id _ _ _) (fun i y hi hy e2 => by have := ris_one (bank_iff.1 hB1).2 hy hj (by rw [e2]; exact (turn_id _ _ _).symm); omega)
    have hg1 : (bankDo l n ⟨1, x'.id, t⟩).getD k' default = turnU x' n 1 := by rw [List.getD_eq_getElem?_getD, hj]; rfl
    have c2 : codeB (bankDo l n ⟨1, x'.id, t⟩) n ⟨3, x'.id, t⟩ = 0 := by
      rw [codeB, if_pos hB1, if_pos ⟨hd 3 (by omega) (by omega), hN⟩]
      simp only [hpl1, hg1]
      unfold codeU
      rw [if_pos (by simp [fineB, turnU]), if_pos (Or.inr rfl)]
      unfold refuse
      rw [if_neg (by simp [turnU]; omega), if_pos (fits_kept h3)]
    exact ⟨c1, c2, (do_given hB1 c2 rfl).2⟩
  · cases hz
theorem ownI_at {w : World} {b e n c i : Nat} {ad : Option Addr} {zs : List Int} {z : Int} (h : w.ownsRow b e 1 (.slice ad n c) n (zs.map fun z => Value.int .i64 z)) (hz : zs[i]? = some z) : ∃ G, ad = some ⟨G, 0, none⟩ ∧ G < w.heap.size ∧ zs.length = n ∧ ∀ j y, zs[j]? = some y → w.cell? ⟨G, j, none⟩ = some (.int .i64 y) := by
  obtain ⟨hl, ⟨q1, q2⟩ | ⟨g, cap, cur, q1, hg, hh, h5, h6, h7, h8⟩⟩ := h
  · have := get_lt' hz
    simp at hl; omega
  · simp only [Value.slice.injEq] at q1
    refine ⟨g, q1.1, (Array.getElem?_eq_some_iff.1 hh).1, by simpa using hl, fun j y hy => ?_⟩
    have hj := get_lt' hy
    have e1 : (cur.toList.take (n * 1))[j]? = (zs.map fun z => Value.int .i64 z)[j]? := by rw [h8]
    rw [List.getElem?_take, if_pos (by simp at hl; omega), Array.getElem?_toList, List.getElem?_map, hy] at e1
    simp only [World.cell?, hh]
    exact e1
set_option maxRecDepth 20000 in
set_option maxHeartbeats 2000000 in
theorem hasZ_any (ad : Option Addr) (c b e : Nat) (zs : List Int) (x : Int) (w : World) (h : w.ownsRow b e 1 (.slice ad zs.length c) zs.length (zs.map fun z => Value.int .i64 z)) (hn : zs.length ≤ 1048576) (hx : x ∈ zs) :
    Calls Try.prog 14 #[.slice ad zs.length c, .int .i64 x] w fun e w' => e = .returned (.bool true) ∧ w' = w := by
  obtain ⟨n, hnl, hnx⟩ := List.getElem_of_mem hx
  have hget : zs[n]? = some x := by rw [List.getElem?_eq_getElem hnl, hnx]
  obtain ⟨G, rfl, hG, -, hcl⟩ := ownI_at h hget
  clear hnx hx h
  go_enter Try.func14, Try.ntmps14
  go_wp2_with fail
  go_loopw [5] (fun iv wr => wr = w ∧ ∃ i : Nat, i ≤ n ∧ iv = .int .i64 i) (fun iv _ => zs.length - (intOf iv).toNat)
  case atStart => exact ⟨rfl, 0, Nat.zero_le _, rfl⟩
  case round =>
    obtain ⟨rfl, i, hi, rfl⟩ := hrel
    have hlti : (i : Int) < (zs.length : Int) := by omega
    obtain ⟨y, hy⟩ := some_of zs i (by omega)
    have hc1 := hcl i y hy
    by_cases hgx : y = x
    · rw [hgx] at hc1
      clear hgx hget hcl hy
      go_wp2_with fail
      go_ret
      exact ⟨rfl, rfl⟩
    · have hgx2 : (y == x) = false := by simpa using hgx
      have hin : i < n := by
        rcases Nat.lt_or_ge i n with q | q
        · exact q
        · exfalso
          rw [show i = n by omega, hget] at hy
          exact hgx (Option.some.inj hy).symm
      clear hget hcl hy
      go_wp2_with fail
      go_roundw
      case rel => first | exact ⟨rfl, i + 1, by omega, rfl⟩ | exact ⟨trivial, i + 1, by omega, rfl⟩
      case measure => simp [intOf]; omega
theorem ibdoU_any (ao : Option Addr) (len cap : Nat) (l : List Ut) (n : Nd) (na : Option Addr) (nc : Nat) (a : Da) (w : World) (h : URw w (.slice ao len cap) l) (hn : l.length ≤ 1048576) (ht : ∀ x ∈ l, x.ant.length ≤ 4) (h' : IRw w (.slice na n.ag.length nc) n.ag) (hn' : n.ag.length ≤ 4) :
    Calls Try.prog 13 #[.slice ao len cap, .agg #[.int .i64 n.p, .int .i64 n.g, .slice na n.ag.length nc], .agg #[.int .i64 a.k, .int .i64 a.id, .int .i64 a.t]] w fun e w' => ∃ (ad : Option Addr) (c : Nat), e = .returned (.tuple #[.slice ad (bankDo l n a).length c, .int .i64 (codeB l n a)]) ∧ URw w' (.slice ad (bankDo l n a).length c) (bankDo l n a) ∧ Below w.heap.size w w' := by
  refine (ibdo_any ao len cap l n na _ nc a w h hn (fun x hx => by have := ht x hx; omega) h' (by omega)).mono ?_
  rintro e w' ⟨M, ad, c, rfl, hM, ho, hA, hb⟩
  have hu := own_urw ho hA.irw
  have hl : M.length = (bankDo l n a).length := by rw [← hM, List.length_map]
  rw [hM, hl] at hu
  exact ⟨ad, c, by rw [hl], hu, hb⟩
theorem dpickU_any (ao : Option Addr) (cap : Nat) (bs : List Int) (w : World) (hb : Bytes w w.heap.size ao bs) (hl : bs.length ≤ 1048576) :
    Calls Try.prog 9 #[.slice ao bs.length cap] w fun e w' => ∃ (l : List Ut) (ad : Option Addr) (c : Nat) (n : Nd) (na : Option Addr) (nc : Nat) (t k : Int), e = .returned (.tuple #[.slice ad l.length c, .agg #[.int .i64 n.p, .int .i64 n.g, .slice na n.ag.length nc], .int .i64 t, .int .i64 k]) ∧ l.length ≤ 301 ∧ (∀ x ∈ l, x.ant.length ≤ 4) ∧ n.ag.length ≤ 4 ∧ URw w' (.slice ad l.length c) l ∧ IRw w' (.slice na n.ag.length nc) n.ag ∧ Below w.heap.size w w' := by
  refine (dpick_any ao cap bs w hb hl).mono ?_
  rintro e w' ⟨L, ad, c, n, na, nc, t, k, b, rfl, hL, hn, hd⟩
  have hu := own_urw hd.own (fun p hp => ownQ_irw (hd.ant p hp).1)
  refine ⟨L.map Prod.fst, ad, c, n, na, nc, t, k, by rw [List.length_map]; rfl, by rw [List.length_map]; exact hL, ?_, hn, by rw [List.length_map]; exact hu, ownQ_irw hd.nd, hd.bel⟩
  intro x hx
  obtain ⟨p, hp, rfl⟩ := List.mem_map.1 hx
  exact (hd.ant p hp).2
set_option maxRecDepth 20000 in
set_option maxHeartbeats 2000000 in
theorem sameI_any (a1 : Option Addr) (n1 c1 : Nat) (a2 : Option Addr) (n2 c2 : Nat) (l : List Int) (w : World) (h : IRw w (.slice a1 n1 c1) l) (h' : IRw w (.slice a2 n2 c2) l) (hn : l.length ≤ 1048576) :
    Calls Try.prog 11 #[.slice a1 n1 c1, .slice a2 n2 c2] w fun e w' => e = .returned (.bool true) ∧ Below w.heap.size w w' := by
  obtain rfl := h.len
  obtain rfl := h'.len
  have HH := hidden h
  have HH' := hidden h'
  clear h h'
  go_enter Try.func11, Try.ntmps11
  go_wp2_with fail
  go_loopw [5] (fun iv wr => ∃ i : Nat, i ≤ l.length ∧ iv = .int .i64 i ∧ Below w.heap.size w wr) (fun iv _ => l.length - (intOf iv).toNat)
  case atStart => exact ⟨0, Nat.zero_le _, rfl, Below.refl _ _⟩
  case round =>
    obtain ⟨i, hil, rfl, hb⟩ := hrel
    by_cases hlt : i < l.length
    · have hlti : (i : Int) < (l.length : Int) := by omega
      obtain ⟨x, hx⟩ := some_of l i hlt
      obtain ⟨g, off, rfl, hg, hcs⟩ := (HH.out.below hb).at hx
      obtain ⟨g', off', rfl, hg', hcs'⟩ := (HH'.out.below hb).at hx
      have c0 := hcs i x hx
      have d0 := hcs' i x hx
      clear hcs hcs' hx
      go_wp2_with fail
      go_quiet (fail)
      go_wp2_with fail
      go_roundw
      case rel => exact ⟨i + 1, by omega, rfl, by repeat (first | exact Below.refl _ _ | assumption | refine st_drew ?_ | refine st_drewN ?_ _ | refine Below.setCell ?_ (by first | omega | (simp; done) | (simp; omega)) _ | refine Below.alloc ?_ (by first | omega | (simp; done) | (simp; omega)) _)⟩
      case measure => simp [intOf]; omega
    · have hlti : ¬ (i : Int) < (l.length : Int) := by omega
      go_wp2_with fail
      go_ret
      exact ⟨rfl, hb⟩
end Go.Proofs.Ytgcpiinmcbdkmaa
