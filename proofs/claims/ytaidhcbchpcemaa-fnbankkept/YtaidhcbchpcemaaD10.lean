/-
  Banks that are kept: plain facts; whether a number is in a row; the law's last region.
-/
import Derived.Test.YtaidhcbchpcemaaD9
import Derived.Test.YtaidhcbchpcemaaQ33
import Derived.Test.YtaidhcbchpcemaaRs
namespace Go.Proofs.Ytaidhcbchpcemaa
open Go.RowKit Va Bl
set_option linter.all false

theorem bank_iff {l : List Ut} : bankB l = true ↔ l.length ≤ 300 ∧ risB unitB Ut.id l = true := by unfold bankB; simp
theorem turn_id (x : Ut) (n : Nd) (k : Int) : (turnU x n k).id = x.id := by unfold turnU; split <;> (try split) <;> (try split) <;> rfl
theorem turn_unit {x : Ut} {n : Nd} {k : Int} (hx : unitB x = true) (hn : needB n = true) : unitB (turnU x n k) = true := by
  have hp : perB n.p = true := by unfold needB at hn; simp only [Bool.and_eq_true] at hn; exact hn.1
  unfold unitB at hx ⊢
  simp only [Bool.and_eq_true] at hx ⊢
  obtain ⟨h1, h2, h3, h4, h5⟩ := hx
  unfold turnU
  split
  · exact ⟨h1, h2, h3, h4, by simp [forB, rng, hp]⟩
  · split
    · exact ⟨h1, h2, h3, h4, by simp [forB, rng]⟩
    · split
      · exact ⟨h1, h2, h3, h4, by simp [forB, rng, hp]⟩
      · exact ⟨h1, h2, h3, h4, by simp [forB, rng]⟩
theorem bank_set {l : List Ut} {k : Nat} {x y : Ut} (h : bankB l = true) (hx : l[k]? = some x) (hy : unitB y = true) (he : y.id = x.id) : bankB (l.set k y) = true := by
  obtain ⟨h1, h2⟩ := bank_iff.1 h
  refine bank_iff.2 ⟨by rw [List.length_set]; exact h1, risB_iff.2 fun i hi => ?_⟩
  rw [List.length_set] at hi
  have hkl := get_lt' hx
  have hid : ∀ (j : Nat) (z : Ut), (l.set k y)[j]? = some z → ∃ z' : Ut, l[j]? = some z' ∧ z.id = z'.id ∧ unitB z = true := by
    intro j z hz
    by_cases hjk : k = j
    · subst hjk
      rw [List.getElem?_set_self hkl] at hz
      obtain rfl := Option.some.inj hz
      exact ⟨x, hx, he, hy⟩
    · rw [List.getElem?_set_ne hjk] at hz
      exact ⟨z, hz, rfl, ris_ok h2 z (List.mem_of_getElem? hz)⟩
  obtain ⟨z, hz⟩ : ∃ z, (l.set k y)[i]? = some z := ⟨_, List.getElem?_eq_getElem (by rw [List.length_set]; exact hi)⟩
  obtain ⟨z', hz', e1, e2⟩ := hid i z hz
  refine (rAt_iff hz).2 ⟨e2, fun v h0 hv => ?_⟩
  obtain ⟨v', hv', f1, -⟩ := hid _ v hv
  have := ((rAt_iff hz').1 (risB_iff.1 h2 i hi)).2 v' h0 hv'
  omega
/-- What a deed that is done says. -/
theorem done_facts {l : List Ut} {n : Nd} {a : Da} (hB : bankB l = true) (h0 : codeB l n a = 0) : ∃ k x, placeOf l a.id = some k ∧ l[k]? = some x ∧ x.id = a.id ∧ doingB a = true ∧ needB n = true ∧ codeU x n a = 0 ∧ bankDo l n a = l.set k (turnU x n a.k) := by
  have h1 := h0
  unfold codeB at h1
  rw [if_pos hB] at h1
  split at h1
  · rename_i hd
    cases hp : placeOf l a.id with
    | none => rw [hp] at h1; cases h1
    | some k =>
      rw [hp] at h1
      obtain ⟨x, hx, he⟩ := place_get hp
      have hg : l.getD k default = x := by rw [List.getD_eq_getElem?_getD, hx]; rfl
      simp only [hg] at h1
      refine ⟨k, x, rfl, hx, he, hd.1, hd.2, h1, ?_⟩
      unfold bankDo
      rw [if_pos hB, if_pos h0, hp, ← hg]
  · cases h1
theorem code_bad {l : List Ut} {n : Nd} {a : Da} (hB : bankB l = false) : codeB l n a = 1 ∧ bankDo l n a = [] := by
  unfold codeB bankDo
  simp [hB]
theorem codeU_ne (x : Ut) (n : Nd) (a : Da) : codeU x n a ≠ 1 := by
  unfold codeU refuse
  repeat' split
  all_goals decide
theorem code_ne {l : List Ut} {n : Nd} {a : Da} (hB : bankB l = true) : codeB l n a ≠ 1 := by
  unfold codeB
  rw [if_pos hB]
  split
  · split
    · decide
    · exact codeU_ne _ _ _
  · decide
theorem do_same {l : List Ut} {n : Nd} {a : Da} (hB : bankB l = true) (h : codeB l n a ≠ 0) : bankDo l n a = l := by
  unfold bankDo
  rw [if_pos hB, if_neg h]
theorem do_bank {l : List Ut} {n : Nd} {a : Da} (hB : bankB l = true) : bankB (bankDo l n a) = true ∧ (bankDo l n a).length = l.length := by
  by_cases h0 : codeB l n a = 0
  · obtain ⟨k, x, -, hx, he, hd, hn, hc, e⟩ := done_facts hB h0
    rw [e]
    exact ⟨bank_set hB hx (turn_unit (ris_ok (bank_iff.1 hB).2 x (List.mem_of_getElem? hx)) hn) (turn_id _ _ _), List.length_set⟩
  · rw [do_same hB h0]; exact ⟨hB, rfl⟩
/-- What the law holds of each place. -/
theorem do_place {l : List Ut} {n : Nd} {a : Da} (hB : bankB l = true) {i : Nat} {x y : Ut} (hx : l[i]? = some x) (hy : (bankDo l n a)[i]? = some y) : (codeB l n a ≠ 0 ∨ y.id ≠ a.id → y.st = x.st ∧ y.fr = x.fr) ∧ (codeB l n a = 0 → y.id = a.id → a.k = 3 → fitsB x n = true) := by
  by_cases h0 : codeB l n a = 0
  · obtain ⟨k, z, -, hz, he, hd, hn, hc, e⟩ := done_facts hB h0
    rw [e] at hy
    by_cases hik : k = i
    · subst hik
      obtain rfl := Option.some.inj (hz.symm.trans hx)
      rw [List.getElem?_set_self (get_lt' hz)] at hy
      obtain rfl := Option.some.inj hy
      refine ⟨fun h => ?_, fun _ _ hk => ?_⟩
      · rcases h with h | h
        · exact absurd h0 h
        · exact absurd ((turn_id _ _ _).trans he) h
      · unfold codeU at hc
        rw [hk] at hc
        split at hc
        · simp only [or_true, if_true] at hc
          unfold refuse at hc
          split at hc
          · cases hc
          · split at hc
            · assumption
            · cases hc
        · cases hc
    · rw [List.getElem?_set_ne hik] at hy
      obtain rfl := Option.some.inj (hx.symm.trans hy)
      refine ⟨fun _ => ⟨rfl, rfl⟩, fun _ h _ => ?_⟩
      exact absurd (ris_one (bank_iff.1 hB).2 hz hx (by rw [h, he])) hik
  · rw [do_same hB h0] at hy
    obtain rfl := Option.some.inj (hx.symm.trans hy)
    exact ⟨fun _ => ⟨rfl, rfl⟩, fun h => absurd h h0⟩
theorem do_given {l : List Ut} {n : Nd} {a : Da} (hB : bankB l = true) (h0 : codeB l n a = 0) (h3 : a.k = 3) : (∀ k : Int, 1 ≤ k → k ≤ 4 → codeB (bankDo l n a) n ⟨k, a.id, a.t⟩ = 4) ∧ a.id ∈ trace (bankDo l n a) n.p := by
  obtain ⟨j, x, hp, hx, he, hd, hn, hc, e⟩ := done_facts hB h0
  have hb := (do_bank (n := n) (a := a) hB).1
  have hj : (bankDo l n a)[j]? = some (turnU x n 3) := by rw [e, h3, List.getElem?_set_self (get_lt' hx)]
  have ht3 : turnU x n 3 = { x with st := 3, fr := n.p } := by simp [turnU]
  rw [ht3] at hj
  have hpl : placeOf (bankDo l n a) a.id = some j := place_hit hj he (fun i y hi hy e2 => by have := ris_one (bank_iff.1 hb).2 hy hj (by rw [e2]; exact he.symm); omega)
  refine ⟨fun k k1 k4 => ?_, ?_⟩
  · have hd2 : doingB ⟨k, a.id, a.t⟩ = true := by
      unfold doingB at hd ⊢
      simp only [Bool.and_eq_true] at hd ⊢
      exact ⟨by simp [rng]; omega, hd.2⟩
    unfold codeB
    rw [if_pos hb, if_pos ⟨hd2, hn⟩]
    simp only [hpl]
    have hg : (bankDo l n a).getD j default = { x with st := 3, fr := n.p } := by rw [List.getD_eq_getElem?_getD, hj]; rfl
    rw [hg]
    unfold codeU
    have : fineB { x with st := 3, fr := n.p } n k = false := by
      unfold fineB
      split
      · rfl
      · split <;> rfl
    rw [this]
    rfl
  · unfold trace traceL
    rw [if_pos hb]
    refine List.mem_map.2 ⟨_, List.mem_filter.2 ⟨List.mem_of_getElem? hj, by simp⟩, he⟩
theorem trace_len {l : List Ut} {p : Int} (h : l.length ≤ 300) : (trace l p).length ≤ 300 := by
  unfold trace traceL
  split
  · rw [List.length_map]; exact Nat.le_trans (List.length_filter_le _ _) h
  · exact Nat.zero_le _

theorem ownI_at {w : World} {b e n c i : Nat} {ad : Option Addr} {zs : List Int} {z : Int} (h : w.ownsRow b e 1 (.slice ad n c) n (zs.map fun z => Value.int .i64 z)) (hz : zs[i]? = some z) : ∃ G, ad = some ⟨G, 0, none⟩ ∧ G < w.heap.size ∧ zs.length = n ∧ ∀ j y, zs[j]? = some y → w.cell? ⟨G, j, none⟩ = some (.int .i64 y) := by
  obtain ⟨hl, ⟨q1, q2⟩ | ⟨g, cap, cur, q1, hg, hh, h5, h6, h7, h8⟩⟩ := h
  · have := get_lt' hz
    simp at hl; omega
  · simp only [Value.slice.injEq] at q1
    refine ⟨g, q1.1, (Array.getElem?_eq_some_iff.1 hh).1, by simpa using hl, fun j y hy => ?_⟩
    have hj := get_lt' hy
    have e1 : (cur.toList.take (n * 1))[j]? = (zs.map fun z => Value.int .i64 z)[j]? := by rw [h8]
    rw [List.getElem?_take, if_pos (by simp at hl; omega), Array.getElem?_toList, List.getElem?_map, hy] at e1
    simp only [World.cell?, hh]
    exact e1

set_option maxRecDepth 20000 in
set_option maxHeartbeats 2000000 in
theorem hasZ_any (ad : Option Addr) (c b e : Nat) (zs : List Int) (x : Int) (w : World) (h : w.ownsRow b e 1 (.slice ad zs.length c) zs.length (zs.map fun z => Value.int .i64 z)) (hn : zs.length ≤ 1048576) (hx : x ∈ zs) :
    Calls Try.prog 18 #[.slice ad zs.length c, .int .i64 x] w fun e w' => e = .returned (.bool true) ∧ w' = w := by
  obtain ⟨n, hnl, hnx⟩ := List.getElem_of_mem hx
  have hget : zs[n]? = some x := by rw [List.getElem?_eq_getElem hnl, hnx]
  obtain ⟨G, rfl, hG, -, hcl⟩ := ownI_at h hget
  clear hnx hx h
  go_enter Try.func18, Try.ntmps18
  go_wp2_with fail
  go_loopw [5] (fun iv wr => wr = w ∧ ∃ i : Nat, i ≤ n ∧ iv = .int .i64 i) (fun iv _ => zs.length - (intOf iv).toNat)
  case atStart => exact ⟨rfl, 0, Nat.zero_le _, rfl⟩
  case round =>
    obtain ⟨rfl, i, hi, rfl⟩ := hrel
    have hlti : (i : Int) < (zs.length : Int) := by omega
    obtain ⟨y, hy⟩ := some_of zs i (by omega)
    have hc1 := hcl i y hy
    by_cases hgx : y = x
    · rw [hgx] at hc1
      clear hgx hget hcl hy
      go_wp2_with fail
      go_ret
      exact ⟨rfl, rfl⟩
    · have hgx2 : (y == x) = false := by simpa using hgx
      have hin : i < n := by
        rcases Nat.lt_or_ge i n with q | q
        · exact q
        · exfalso
          rw [show i = n by omega, hget] at hy
          exact hgx (Option.some.inj hy).symm
      clear hget hcl hy
      go_wp2_with fail
      go_roundw
      case rel => first | exact ⟨rfl, i + 1, by omega, rfl⟩ | exact ⟨trivial, i + 1, by omega, rfl⟩
      case measure => simp [intOf]; omega

def FFb25 (w9 : World) (B C : Nat) (ad9 : Option Addr) (dl dc : Nat) (n : Nd) (a9 : Da) (nv9 : Value) (TL : List Int) (i9 : Nat) (v : Value) (w : World) : Prop :=
  match i9 with
  | 0 => v = .slice ad9 dl dc
  | 1 => v = .pointer (some ⟨B, 0, none⟩)
  | 2 => v = .int .i64 n.p
  | 3 => ∃ ad1 c1 b1, v = .slice ad1 TL.length c1 ∧ w.ownsRow b1 2 1 (.slice ad1 TL.length c1) TL.length (intsV TL)
  | 4 => v = .pointer (some ⟨C, 1, none⟩)
  | 5 => v = .int .i64 a9.id
  | 6 => v = .bool true
  | 7 => v = .bool true
  | _ => True
theorem sizeFb25 : (Rg.opsOf Try.f4 25).size = 8 := by kernel_rfl

set_option maxRecDepth 20000 in
set_option maxHeartbeats 8000000 in
theorem regFb25 {Q : Exit → Act → World → Prop} {a : Act} {w9 : World} {B C : Nat} {ad9 : Option Addr} {dl dc : Nat} {n : Nd} {a9 : Da} {nv9 : Value} {TL : List Int} (ha : a.tmps.size = 158)
    (k6 : a.tmps[6]? = some (.slice ad9 dl dc)) (k4 : a.tmps[4]? = some (.pointer (some ⟨B, 0, none⟩))) (k5 : a.tmps[5]? = some (.pointer (some ⟨C, 0, none⟩))) (hE : PB w9 B #[.int .i64 n.p, .int .i64 n.g, nv9] 28) (hX : PB w9 C #[.int .i64 a9.k, .int .i64 a9.id, .int .i64 a9.t] 30) (hTR : ∀ W, Below w9.heap.size w9 W → Calls Try.prog 19 #[.slice ad9 dl dc, .int .i64 n.p] W fun e W' => ∃ ad1 c1, e = .returned (.slice ad1 TL.length c1) ∧ W'.ownsRow W.heap.size 2 1 (.slice ad1 TL.length c1) TL.length (intsV TL) ∧ Below W.heap.size W W') (hHS : ∀ ad1 c1 b1 W, W.ownsRow b1 2 1 (.slice ad1 TL.length c1) TL.length (intsV TL) → Calls Try.prog 18 #[.slice ad1 TL.length c1, .int .i64 a9.id] W fun e W' => e = .returned (.bool true) ∧ W' = W)
    (hend : ∀ b' w', Rg.Fr (Rg.opsOf Try.f4 25) a b' → Below w9.heap.size w9 w' → Rg.out (Rg.opsOf Try.f4 25) b' 7 = .bool true → Q .normal b' w') :
    (Code.region 25 (Rg.opsOf Try.f4 25) true).wp Try.prog Q a w9 := by
  refine Rg.region_set3 (by kernel_rfl) (fun _ w' => Below w9.heap.size w9 w') (FFb25 w9 B C ad9 dl dc n a9 nv9 TL) (by rw [ha, sizeFb25]; kernel_rfl) (st_drew (Below.refl _ _)) ?_ ?_
  case refine_2 =>
    intro l b' w' hf hall hI hA
    rw [sizeFb25] at hA
    exact hend b' w' hf hI (hA 7 (by decide))
  case refine_1 =>
    clear hend
    have HS : ∀ {w w' : World}, Below w.heap.size w w' → ∀ k9 y9, FFb25 w9 B C ad9 dl dc n a9 nv9 TL k9 y9 w → FFb25 w9 B C ad9 dl dc n a9 nv9 TL k9 y9 w' := by
      intro w w' hb k9 y9 h
      rcases (show k9 = 0 ∨ k9 = 1 ∨ k9 = 2 ∨ k9 = 3 ∨ k9 = 4 ∨ k9 = 5 ∨ k9 = 6 ∨ k9 = 7 ∨ 8 ≤ k9 by omega) with rfl | rfl | rfl | rfl | rfl | rfl | rfl | rfl | hk9
      · exact h
      · exact h
      · exact h
      · obtain ⟨ad1, c1, b1, e9, hO1⟩ := h
        exact ⟨_, _, _, e9, ownW_below hO1 hb⟩
      · exact h
      · exact h
      · exact h
      · exact h
      · unfold FFb25
        split
        · omega
        · omega
        · omega
        · omega
        · omega
        · omega
        · omega
        · omega
        · trivial
    intro i' hi'
    rw [sizeFb25] at hi'
    rcases (show i' = 0 ∨ i' = 1 ∨ i' = 2 ∨ i' = 3 ∨ i' = 4 ∨ i' = 5 ∨ i' = 6 ∨ i' = 7 by omega) with rfl | rfl | rfl | rfl | rfl | rfl | rfl | rfl
    · intro ll bb w' hs hlf hN hO hf hI hA
      clear hi'
      have q6 := hf.kept (s := 6) (by rw [sizeFb25]; kernel_rfl) k6
      exact Rg.op_value (o := ⟨some 151, Op.move (Operand.tmp 6), _, _, _, _⟩) (x := .slice ad9 dl dc) rfl rfl (by clear hA HS hN hO hE hX hTR hHS; simp only [execOp]; go_simp) ⟨_, rfl, (fun h => by cases h), rfl, hI, fun _ _ _ _ h => h⟩
    · intro ll bb w' hs hlf hN hO hf hI hA
      clear hi'
      have q4 := hf.kept (s := 4) (by rw [sizeFb25]; kernel_rfl) k4
      exact Rg.op_value (o := ⟨some 152, Op.fieldAddr 28 (Operand.tmp 4) 0, _, _, _, _⟩) (x := .pointer (some ⟨B, 0, none⟩)) rfl rfl (by clear hA HS hN hO hE hX hTR hHS; simp only [execOp]; go_simp) ⟨_, rfl, (fun h => by cases h), rfl, hI, fun _ _ _ _ h => h⟩
    · intro ll bb w' hs hlf hN hO hf hI hA
      clear hi'
      have q152 : bb.tmps[152]? = some _ := hf.tmp (k := 1) rfl (by rw [ha]; decide) (hA 1 (by kernel_rfl))
      obtain ⟨d0, d1, d2⟩ := (hE.below hI).three
      exact Rg.op_value (o := ⟨some 153, Op.load 2 (Operand.tmp 152), _, _, _, _⟩) (x := .int .i64 n.p) rfl rfl (by clear hA HS hN hO hE hX hTR hHS; simp only [execOp]; go_simp) ⟨_, rfl, (fun h => by cases h), rfl, hI, fun _ _ _ _ h => h⟩
    · intro ll bb w' hs hlf hN hO hf hI hA
      clear hi'
      have q151 : bb.tmps[151]? = some _ := hf.tmp (k := 0) rfl (by rw [ha]; decide) (hA 0 (by kernel_rfl))
      have q153 : bb.tmps[153]? = some _ := hf.tmp (k := 2) rfl (by rw [ha]; decide) (hA 2 (by kernel_rfl))
      refine Rg.op_call (o := ⟨some 154, Op.call { callee := Callee.value (Operand.func 19), args := #[(Operand.tmp 151), (Operand.tmp 153)], argTypes := _ }, _, _, _, _⟩) rfl rfl (by clear hA HS hN hO hE hX hTR hHS; simp only [execOp, resolve]; go_simp) (hTR w' hI) ?_
      rintro e w2 ⟨ad, c, rfl, h3, hb2⟩
      exact ⟨_, rfl, _, rfl, (fun h => by cases h), ⟨ad, c, _, rfl, h3⟩, onto hI hb2, fun k9 y9 _ _ h => HS hb2 k9 y9 h⟩
    · intro ll bb w' hs hlf hN hO hf hI hA
      clear hi'
      have q5 := hf.kept (s := 5) (by rw [sizeFb25]; kernel_rfl) k5
      exact Rg.op_value (o := ⟨some 155, Op.fieldAddr 30 (Operand.tmp 5) 1, _, _, _, _⟩) (x := .pointer (some ⟨C, 1, none⟩)) rfl rfl (by clear hA HS hN hO hE hX hTR hHS; simp only [execOp]; go_simp) ⟨_, rfl, (fun h => by cases h), rfl, hI, fun _ _ _ _ h => h⟩
    · intro ll bb w' hs hlf hN hO hf hI hA
      clear hi'
      have q155 : bb.tmps[155]? = some _ := hf.tmp (k := 4) rfl (by rw [ha]; decide) (hA 4 (by kernel_rfl))
      obtain ⟨b0, b1, b2⟩ := (hX.below hI).three
      exact Rg.op_value (o := ⟨some 156, Op.load 2 (Operand.tmp 155), _, _, _, _⟩) (x := .int .i64 a9.id) rfl rfl (by clear hA HS hN hO hE hX hTR hHS; simp only [execOp]; go_simp) ⟨_, rfl, (fun h => by cases h), rfl, hI, fun _ _ _ _ h => h⟩
    · intro ll bb w' hs hlf hN hO hf hI hA
      clear hi'
      obtain ⟨ad1, c1, b1, e3, hO1⟩ := hA 3 (by kernel_rfl)
      have q154 : bb.tmps[154]? = some _ := hf.tmp (k := 3) rfl (by rw [ha]; decide) e3
      have q156 : bb.tmps[156]? = some _ := hf.tmp (k := 5) rfl (by rw [ha]; decide) (hA 5 (by kernel_rfl))
      refine Rg.op_call (o := ⟨some 157, Op.call { callee := Callee.value (Operand.func 18), args := #[(Operand.tmp 154), (Operand.tmp 156)], argTypes := _ }, _, _, _, _⟩) rfl rfl (by clear hA HS hN hO hE hX hTR hHS; simp only [execOp, resolve]; go_simp) (hHS ad1 c1 b1 w' hO1) ?_
      rintro e w2 ⟨rfl, rfl⟩
      exact ⟨_, rfl, _, rfl, (fun h => by cases h), rfl, hI, fun _ _ _ _ h => h⟩
    · intro ll bb w' hs hlf hN hO hf hI hA
      clear hi'
      have q157 : bb.tmps[157]? = some _ := hf.tmp (k := 6) rfl (by rw [ha]; decide) (hA 6 (by kernel_rfl))
      exact Rg.op_value (o := ⟨some 2, Op.assign (Operand.tmp 157), _, _, _, _⟩) (x := .bool true) rfl rfl (by clear hA HS hN hO hE hX hTR hHS; simp only [execOp]; go_simp) ⟨_, rfl, (fun h => by cases h), rfl, hI, fun _ _ _ _ h => h⟩

theorem dFb25_0 : Rg.dstAt (Rg.opsOf Try.f4 25) 0 = some 151 := by kernel_rfl
theorem dFb25_1 : Rg.dstAt (Rg.opsOf Try.f4 25) 1 = some 152 := by kernel_rfl
theorem dFb25_2 : Rg.dstAt (Rg.opsOf Try.f4 25) 2 = some 153 := by kernel_rfl
theorem dFb25_3 : Rg.dstAt (Rg.opsOf Try.f4 25) 3 = some 154 := by kernel_rfl
theorem dFb25_4 : Rg.dstAt (Rg.opsOf Try.f4 25) 4 = some 155 := by kernel_rfl
theorem dFb25_5 : Rg.dstAt (Rg.opsOf Try.f4 25) 5 = some 156 := by kernel_rfl
theorem dFb25_6 : Rg.dstAt (Rg.opsOf Try.f4 25) 6 = some 157 := by kernel_rfl
theorem dFb25_7 : Rg.dstAt (Rg.opsOf Try.f4 25) 7 = some 2 := by kernel_rfl
theorem layFb25 {a b : Act} (hf : Rg.Fr (Rg.opsOf Try.f4 25) a b) : b = ((((((((a.put (some 151) (Rg.out (Rg.opsOf Try.f4 25) b 0)).put (some 152) (Rg.out (Rg.opsOf Try.f4 25) b 1)).put (some 153) (Rg.out (Rg.opsOf Try.f4 25) b 2)).put (some 154) (Rg.out (Rg.opsOf Try.f4 25) b 3)).put (some 155) (Rg.out (Rg.opsOf Try.f4 25) b 4)).put (some 156) (Rg.out (Rg.opsOf Try.f4 25) b 5)).put (some 157) (Rg.out (Rg.opsOf Try.f4 25) b 6)).put (some 2) (Rg.out (Rg.opsOf Try.f4 25) b 7)) := by
  have h := hf.chain
  rw [sizeFb25, show List.range 8 = [0, 1, 2, 3, 4, 5, 6, 7] from by decide] at h
  simp only [List.foldl_cons, List.foldl_nil, dFb25_0, dFb25_1, dFb25_2, dFb25_3, dFb25_4, dFb25_5, dFb25_6, dFb25_7] at h
  exact h

end Go.Proofs.Ytaidhcbchpcemaa
