/-
  Merged: Q23 Q25.
-/
import Derived.Test.YtgcpiinmcbdkmaaMg12
import Derived.Test.YtgcpiinmcbdkmaaMg5
import Derived.Deep.RegionWith
namespace Go.Proofs.Ytgcpiinmcbdkmaa
open Go.RowKit Va Bl
set_option linter.all false
theorem oneI (z : Int) : ∀ u ∈ [Value.int .i64 z], u.oneCell' = true := by
  intro u hu
  obtain rfl := List.mem_singleton.1 hu
  rfl
theorem cell_oneQ {w : World} {g : Nat} (hg : g = w.heap.size) (a : Value) (t : TypeId) : ∀ (j : Nat) (u : Value), [a][j]? = some u → (w.alloc (.cells #[a] t)).cell? ((⟨g, 0, none⟩ : Addr).add j) = some u := by subst hg; exact cell_oneW w a t
theorem oneF (T : TypeId) (v : Value) : ∀ u ∈ [Value.iface T v], u.oneCell' = true := by
  intro u hu
  obtain rfl := List.mem_singleton.1 hu
  rfl
def intsV (l : List Int) : List Value := l.map fun z => Value.int .i64 z
theorem intsV_app (l : List Int) (x : Int) : intsV (l ++ [x]) = intsV l ++ [.int .i64 x] := by simp [intsV]
theorem infoB : (Try.prog.info? 78).map (fun i => (i.zero, i.size, i.bytes)) = some (some .nilIface, 1, 16) := by kernel_rfl
theorem cell6U (w : World) (p : Ut × Value) (t : TypeId) : ∀ (j : Nat) (u : Value), (cells6 p)[j]? = some u → (w.alloc (.cells #[.int .i64 p.1.id, .int .i64 p.1.grp, p.2, .int .i64 p.1.til, .int .i64 p.1.st, .int .i64 p.1.fr] t)).cell? ((⟨w.heap.size, 0, none⟩ : Addr).add j) = some u := fun j u hu => by
  have e0 : (w.alloc (Obj.cells #[.int .i64 p.1.id, .int .i64 p.1.grp, p.2, .int .i64 p.1.til, .int .i64 p.1.st, .int .i64 p.1.fr] t)).heap[w.heap.size]? = some (Obj.cells #[.int .i64 p.1.id, .int .i64 p.1.grp, p.2, .int .i64 p.1.til, .int .i64 p.1.st, .int .i64 p.1.fr] t) := heap_alloc_new _ _
  rw [Addr.add_lit, Nat.zero_add]
  simp only [World.cell?, e0]
  rw [← hu, ← Array.getElem?_toList]
  rfl
theorem oneU (x : Ut) (a : Option Addr) (n c : Nat) : ∀ u ∈ cells6 (x, .slice a n c), u.oneCell' = true := by
  intro u hu
  simp only [cells6, List.mem_cons, List.not_mem_nil, or_false] at hu
  rcases hu with rfl | rfl | rfl | rfl | rfl | rfl <;> rfl
theorem own_six {w : World} {base : Nat} {v : Value} {M : List (Ut × Value)} (h : w.ownsRow base 81 6 v M.length (cellsU M)) {i : Nat} {p : Ut × Value} (hp : M[i]? = some p) :
    ∃ g c, v = .slice (some ⟨g, 0, none⟩) M.length c ∧ base ≤ g ∧ g < w.heap.size ∧ M.length ≤ c ∧ w.cell? ⟨g, i * 6, none⟩ = some (.int .i64 p.1.id) ∧ w.cell? ⟨g, i * 6 + 1, none⟩ = some (.int .i64 p.1.grp) ∧ w.cell? ⟨g, i * 6 + 2, none⟩ = some p.2 ∧ w.cell? ⟨g, i * 6 + 3, none⟩ = some (.int .i64 p.1.til) ∧ w.cell? ⟨g, i * 6 + 4, none⟩ = some (.int .i64 p.1.st) ∧ w.cell? ⟨g, i * 6 + 5, none⟩ = some (.int .i64 p.1.fr) := by
  have H := fun k (hk : k < 6) => cellsU_get M i p k hp hk
  obtain ⟨g, c, rfl, h1, h2, h3, c0⟩ := ownQ_cell h (cellsU_len M) (H 0 (by omega))
  have C : ∀ k u, (cellsU M)[i * 6 + k]? = some u → w.cell? ⟨g, i * 6 + k, none⟩ = some u := fun k u hu => by
    obtain ⟨g', c', he, -, -, -, hc⟩ := ownQ_cell h (cellsU_len M) hu
    simp only [Value.slice.injEq, Option.some.injEq, Addr.mk.injEq, and_true, true_and] at he
    rw [← he.1] at hc
    exact hc
  exact ⟨g, c, rfl, h1, h2, h3, c0, C 1 _ (H 1 (by omega)), C 2 _ (H 2 (by omega)), C 3 _ (H 3 (by omega)), C 4 _ (H 4 (by omega)), C 5 _ (H 5 (by omega))⟩
theorem own_at {w : World} {base : Nat} {v : Value} {L : List (Ut × Value)} (h : w.ownsRow base 78 1 v L.length (L.map aI)) {i : Nat} {p : Ut × Value} (hp : L[i]? = some p) :
    ∃ g c, v = .slice (some ⟨g, 0, none⟩) L.length c ∧ base ≤ g ∧ g < w.heap.size ∧ L.length ≤ c ∧ w.cell? ⟨g, i, none⟩ = some (aI p) :=
  ownQ_cell h (by simp) (by rw [List.getElem?_map, hp]; rfl)
theorem take_snocU {α : Type} {l : List α} {i : Nat} {x : α} (h : l[i]? = some x) : l.take (i + 1) = l.take i ++ [x] := by rw [List.take_add_one, h]; rfl
set_option maxRecDepth 20000 in
set_option maxHeartbeats 4000000 in
theorem idsof_any (v : Value) (M : List (Ut × Value)) (b : Nat) (w : World) (h : w.ownsRow b 81 6 v M.length (cellsU M)) (hs : ∀ p ∈ M, ∃ a n c, p.2 = .slice a n c) (hn : M.length ≤ 1048576) :
    Calls Try.prog 48 #[v] w fun e w' => ∃ ad c, e = .returned (.slice ad M.length c) ∧ w'.ownsRow w.heap.size 2 1 (.slice ad M.length c) M.length (intsV (M.map fun p => p.1.id)) ∧ Below w.heap.size w w' := by
  obtain ⟨av, cv, rfl⟩ := ownW_slice h
  have HH := hidden h
  have HS := hidden hs
  clear h hs
  obtain ⟨i0, hi0, hz0, hz1, hz2⟩ := info_partsW infoW64
  have ho0 := ownW_new w 2 1
  have hb0 : Below w.heap.size w (w.alloc (.cells #[] 2)) := by repeat (first | exact Below.refl _ _ | assumption | refine st_drew ?_ | refine st_drewN ?_ _ | refine Below.setCell ?_ (by first | omega | (simp; done) | (simp; omega)) _ | refine Below.alloc ?_ (by first | omega | (simp; done) | (simp; omega)) _)
  go_enter Try.func48, Try.ntmps48
  go_wp2_with fail
  go_loopw [3, 5, 9] (fun sv _ iv wr => ∃ i : Nat, i ≤ M.length ∧ iv = .int .i64 i ∧ (∃ ad c, sv = .slice ad i c ∧ wr.ownsRow w.heap.size 2 1 (.slice ad i c) i (intsV ((M.take i).map fun p => p.1.id))) ∧ Below w.heap.size w wr) (fun _ _ iv _ => M.length - (intOf iv).toNat)
  case atStart => exact ⟨0, Nat.zero_le _, rfl, ⟨_, _, rfl, ho0⟩, hb0⟩
  case round =>
    clear ho0 hb0
    obtain ⟨i, hi, rfl, ⟨ad, c, rfl, ho⟩, hb⟩ := hrel
    have hsz := hb.size
    by_cases hlt : i < M.length
    · have hlti : (i : Int) < (M.length : Int) := by omega
      obtain ⟨⟨x, tv⟩, hx⟩ := some_of M i hlt
      obtain ⟨ta, tn, tc, rfl⟩ := HS.out _ (List.mem_of_getElem? hx)
      obtain ⟨g, c9, he, -, hg, -, u0, u1, u2, u3, u4, u5⟩ := own_six (ownW_below HH.out hb) hx
      simp only [Value.slice.injEq, true_and] at he
      obtain ⟨rfl, rfl⟩ := he
      have HN := hidden (take_snocU hx)
      have HO := hidden ho
      clear hx ho
      dsimp only at u0 u1 u2 u3 u4 u5
      go_wp2_with (at_builtin; refine wpList_append_own _ rfl (.tmp 13) (.tmp 16) 25 rfl w.heap.size 2 i0 (.int .i64 0) 1 8 Try.underlying25 hi0 hz0 hz1 hz2 rfl (by decide) _ i (intsV ((M.take i).map fun p => p.1.id)) rfl ((HO.out.alloc _).alloc _) ⟨wr.heap.size + 1, 0, none⟩ 1 1 [.int .i64 x.id] rfl rfl (cell_oneQ (by simp) _ _) (oneI _) (by unfold maxLen; omega) (by omega) (by simp; omega) ?_; intro v4 w4 ho4 hg4 hnn4; have hO4 := hidden ho4; obtain ⟨ad4, c4, rfl⟩ := ownW_slice ho4)
      have b4 := grownQ (show Below w.heap.size w ((wr.alloc (.cells #[.int .i64 x.id, .int .i64 x.grp, .slice ta tn tc, .int .i64 x.til, .int .i64 x.st, .int .i64 x.fr] 81)).alloc (.cells #[.int .i64 x.id] 2)) from by repeat (first | exact Below.refl _ _ | assumption | refine st_drew ?_ | refine st_drewN ?_ _ | refine Below.setCell ?_ (by first | omega | (simp; done) | (simp; omega)) _ | refine Below.alloc ?_ (by first | omega | (simp; done) | (simp; omega)) _)) (by simp; omega) hg4 (fun k hk => (ownW_lt HO.out k hk).1)
      go_roundw
      case rel => exact ⟨i + 1, by omega, rfl, ⟨ad4, c4, rfl, by rw [HN.out, List.map_append, List.map_singleton, intsV_app]; exact hO4.out⟩, b4⟩
      case measure => simp [intOf]; omega
    · have hlti : ¬ (i : Int) < (M.length : Int) := by omega
      have hil : i = M.length := by omega
      subst hil
      go_wp2_with fail
      go_ret
      exact ⟨ad, c, rfl, by rw [List.take_length] at ho; exact ho, hb⟩
set_option maxRecDepth 20000 in
set_option maxHeartbeats 4000000 in
theorem bankof_any (ao : Option Addr) (n cap : Nat) (l : List Ut) (w : World) (h : URw w (.slice ao n cap) l) (hn : l.length ≤ 300) (ht : ∀ x ∈ l, x.ant.length ≤ 1048576) :
    Calls Try.prog 44 #[.slice ao n cap] w fun e w' => ∃ (L : List (Ut × Value)) (ad : Option Addr) (c : Nat), e = .returned (.slice ad L.length c) ∧ L.map Prod.fst = l ∧ w'.ownsRow w.heap.size 78 1 (.slice ad L.length c) L.length (L.map aI) ∧ Antis w' w.heap.size L ∧ Below w.heap.size w w' := by
  obtain rfl := h.len
  have HH := hidden h
  have HT := hidden ht
  clear h ht
  obtain ⟨i0, hi0, hz0, hz1, hz2⟩ := info_partsW infoB
  go_enter Try.func44, Try.ntmps44
  go_wp2_with (refine wpList_make_own _ rfl (.const (.int .i64 0)) (.tmp 7) 75 rfl w.heap.size 78 i0 .nilIface 1 Try.underlying75 hi0 hz0 hz1 .i64 .i64 _ l.length rfl rfl rfl (by rw [hz2]; omega) (by unfold maxLen; omega) (Nat.le_refl _) ?_; intro w1 ho1 hg1)
  have b1 : Below w.heap.size w w1 := (Below.refl _ w).grown hg1 (Nat.le_refl _) (by simp)
  clear hg1
  go_wp2_with fail
  go_loopw [3, 5, 11] (fun sv _ iv wr => ∃ (L : List (Ut × Value)), L.length ≤ l.length ∧ iv = .int .i64 L.length ∧ Hid (L.map Prod.fst = l.take L.length) ∧ (∃ ad c, sv = .slice ad L.length c ∧ wr.ownsRow w.heap.size 78 1 (.slice ad L.length c) L.length (L.map aI)) ∧ Antis wr w.heap.size L ∧ Below w.heap.size w wr) (fun _ _ iv _ => l.length - (intOf iv).toNat)
  case atStart => exact ⟨[], Nat.zero_le _, rfl, rfl, ⟨_, _, rfl, ho1⟩, Antis.nil _ _, b1⟩
  case round =>
    clear ho1 b1
    obtain ⟨L, hi, rfl, HL, ⟨ad, c, rfl, ho⟩, hT, hb⟩ := hrel
    have hsz := hb.size
    by_cases hlt : L.length < l.length
    · have hlti : (L.length : Int) < (l.length : Int) := by omega
      obtain ⟨x, hx⟩ := some_of l L.length hlt
      obtain ⟨g, off, ta, tc, rfl, hg, hrow, c0, c1, c2, c3, c4, c5⟩ := (HH.out.below hb).at hx
      have hxt := HT.out x (List.mem_of_getElem? hx)
      have hK := fun W hW => anewU_any x ta x.ant.length tc W hW hxt
      have hJ := fun a c W => instate_any x a x.ant.length c W
      unfold aI aU at hK hJ
      dsimp only at hJ
      have HR := hidden (fun W (hW : Below wr.heap.size wr W) => hrow.below hW)
      have HN := hidden (take_snocU hx)
      have HTm := hidden hT
      have HO := hidden ho
      clear hx hrow hT ho
      go_wp2_with (first
        | (go_at_call 82; refine (hK _ (HR.out _ (by repeat (first | exact Below.refl _ _ | assumption | refine st_drew ?_ | refine st_drewN ?_ _ | refine Below.setCell ?_ (by first | omega | (simp; done) | (simp; omega)) _ | refine Below.alloc ?_ (by first | omega | (simp; done) | (simp; omega)) _)))).mono ?_; rintro e w2 ⟨a2, k2, rfl, ho2, hb2⟩; have bD := onto (show Below wr.heap.size wr _ from by repeat (first | exact Below.refl _ _ | assumption | refine st_drew ?_ | refine st_drewN ?_ _ | refine Below.setCell ?_ (by first | omega | (simp; done) | (simp; omega)) _ | refine Below.alloc ?_ (by first | omega | (simp; done) | (simp; omega)) _)) hb2; have bA := onto hb bD; have z2 := bD.size; have zz := bA.size; have T2 := hidden ho2; have O2 := hidden (ownW_below HO.out bD); have M2 := hidden (HTm.out.below bD); have z3 := hb2.size; simp only [World.size_alloc] at z3; clear ho2 hb2)
        | (go_at_call 83; refine (hJ _ _ _).mono ?_; rintro e w3 ⟨rfl, hb3⟩; have bE := onto bA hb3; have T3 := hidden (ownW_below T2.out hb3); have O3 := hidden (ownW_below O2.out hb3); have M3 := hidden (M2.out.below hb3); have z5 := hb3.size; clear hb3)
        | (at_builtin; refine wpList_append_own _ rfl (.tmp 15) (.tmp 19) 75 rfl w.heap.size 78 i0 .nilIface 1 16 Try.underlying75 hi0 hz0 hz1 hz2 rfl (by decide) _ L.length (L.map aI) rfl (O3.out.alloc _) ⟨w3.heap.size, 0, none⟩ 1 1 [.iface (ifT x.st) (.agg #[.int .i64 x.id, .int .i64 x.grp, .slice a2 x.ant.length k2, .int .i64 x.til, .int .i64 x.st, .int .i64 x.fr])] rfl rfl (cell_oneW _ _ _) (oneF _ _) (by unfold maxLen; omega) (by omega) (by simp; omega) ?_; intro v4 w4 ho4 hg4 hnn4; have hO4 := hidden ho4; obtain ⟨ad4, c4, rfl⟩ := ownW_slice ho4))
      have b4 := grownQ (show Below w.heap.size w (w3.alloc (.cells #[.iface (ifT x.st) (.agg #[.int .i64 x.id, .int .i64 x.grp, .slice a2 x.ant.length k2, .int .i64 x.til, .int .i64 x.st, .int .i64 x.fr])] 78)) from by repeat (first | exact Below.refl _ _ | assumption | refine st_drew ?_ | refine st_drewN ?_ _ | refine Below.setCell ?_ (by first | omega | (simp; done) | (simp; omega)) _ | refine Below.alloc ?_ (by first | omega | (simp; done) | (simp; omega)) _)) (by simp; omega) hg4 (fun k hk => (ownW_lt HO.out k hk).1)
      have T4 := ((M3.out.below (show Below w3.heap.size w3 (w3.alloc (.cells #[.iface (ifT x.st) (.agg #[.int .i64 x.id, .int .i64 x.grp, .slice a2 x.ant.length k2, .int .i64 x.til, .int .i64 x.st, .int .i64 x.fr])] 78)) from by repeat (first | exact Below.refl _ _ | assumption | refine st_drew ?_ | refine st_drewN ?_ _ | refine Below.setCell ?_ (by first | omega | (simp; done) | (simp; omega)) _ | refine Below.alloc ?_ (by first | omega | (simp; done) | (simp; omega)) _))).snoc (p := (x, .slice a2 x.ant.length k2)) (ownW_below T3.out (by repeat (first | exact Below.refl _ _ | assumption | refine st_drew ?_ | refine st_drewN ?_ _ | refine Below.setCell ?_ (by first | omega | (simp; done) | (simp; omega)) _ | refine Below.alloc ?_ (by first | omega | (simp; done) | (simp; omega)) _))) (by simp only [World.size_alloc]; omega) (fun q hq k hk => by have := (HTm.out.lt q hq k hk).2; simp only [World.size_alloc]; omega)).grown (by decide) (O3.out.alloc _) hg4
      have HF : Hid ((L ++ [(x, Value.slice a2 x.ant.length k2)]).map Prod.fst = l.take (L ++ [(x, Value.slice a2 x.ant.length k2)]).length) := by rw [Hid, List.map_append, HL.out, List.length_append]; exact HN.out.symm
      go_roundw
      case rel => exact ⟨L ++ [(x, .slice a2 x.ant.length k2)], by rw [List.length_append]; simp; omega, by rw [List.length_append]; rfl, HF, ⟨ad4, c4, by rw [List.length_append]; rfl, by rw [List.map_append, List.length_append]; exact hO4.out⟩, T4, b4⟩
      case measure => simp [intOf]; omega
    · have hlti : ¬ (L.length : Int) < (l.length : Int) := by omega
      have hil : L.length = l.length := by omega
      have HF : Hid (L.map Prod.fst = l) := by rw [Hid, HL.out, hil, List.take_length]
      clear hil
      go_wp2_with fail
      go_ret
      exact ⟨L, _, _, rfl, HF.out, ho, hT, hb⟩
end Go.Proofs.Ytgcpiinmcbdkmaa

namespace Go.Proofs.Ytgcpiinmcbdkmaa
open Go.RowKit Va Bl
set_option linter.all false
theorem int_cell {cs : Int → Nat → Int} {w : World} {ao : Option Addr} {n cap : Nat} {l : List Int} {i : Nat} {x : Int} (h : Rw 1 cs w (.slice ao n cap) l) (hk : l[i]? = some x) :
    ∃ g off, ao = some ⟨g, off, none⟩ ∧ g < w.heap.size ∧ w.cell? ⟨g, off + i, none⟩ = some (.int .i64 (cs x 0)) := by
  obtain ⟨g, off, h1, h2, h3⟩ := h.at hk
  have := h3 0 (by omega)
  rw [Nat.mul_one, Nat.add_zero] at this
  exact ⟨g, off, h1, h2, this⟩
set_option maxRecDepth 20000 in
set_option maxHeartbeats 4000000 in
theorem markint_some (G n cap : Nat) (l0 : List Int) (k0 : Int) (w : World) (h : Out 1 csI w G n l0 n) (hn : n ≤ 1048576) (hk0 : 0 ≤ k0) (hk1 : k0 ≤ 1000000000) :
    Calls Try.prog 28 #[.slice (some ⟨G, 0, none⟩) n cap, .int .i64 k0] w fun e w' => e = .returned (.int .i64 (k0 + (n : Int))) ∧ Out 1 csM w' G n (marks 1 k0 n) n ∧ Aside w w' (.slice (some ⟨G, 0, none⟩) n cap) := by
  have h0 : Out 1 csM w G n (marks 1 k0 n) 0 := ⟨h.1, h.2.1, fun j x hj => absurd hj (by omega)⟩
  clear h
  go_enter Try.func28, Try.ntmps28
  go_wp2_with fail
  go_loopw [1, 5] (fun kv iv wr => ∃ i : Nat, i ≤ n ∧ kv = .int .i64 (k0 + (i : Int)) ∧ iv = .int .i64 i ∧ Out 1 csM wr G n (marks 1 k0 n) i ∧ Aside w wr (.slice (some ⟨G, 0, none⟩) n cap)) (fun _ iv _ => n - (intOf iv).toNat)
  case atStart => exact ⟨0, Nat.zero_le _, by simp, rfl, h0, Aside.refl _ _⟩
  case round =>
    clear h0
    obtain ⟨i, hi, rfl, rfl, ho, ha⟩ := hrel
    by_cases hlt : i < n
    · have hlti : (i : Int) < (n : Int) := by omega
      have hset := ho.set hlt (marks_get 1 k0 n i hlt) [.int .i64 (k0 + (i : Int))] rfl (fun k hk => by
        match k, hk with
        | 0, _ => exact congrArg (fun z => some (Value.int .i64 z)) (by unfold csM; omega))
      obtain ⟨⟨u0, hu0⟩, hf0⟩ := ho.old hlt (show 0 < 1 by omega)
      rw [Nat.mul_one] at hset hu0 hf0
      simp only [Nat.add_zero] at hu0 hf0
      have ha2 := Aside.put [.int .i64 (k0 + (i : Int))] i ha
      clear ho ha
      go_wp2_with fail
      go_roundw
      case rel => exact ⟨i + 1, by omega, by congr 1; omega, rfl, hset, ha2⟩
      case measure => simp [intOf]; omega
    · have hlti : ¬ (i : Int) < (n : Int) := by omega
      have hin : i = n := by omega
      subst hin
      go_wp2_with fail
      go_ret
      exact ⟨rfl, ho, ha⟩
set_option maxRecDepth 20000 in
set_option maxHeartbeats 2000000 in
theorem markint_none (ao : Option Addr) (cap : Nat) (k0 : Int) (w : World) :
    Calls Try.prog 28 #[.slice ao 0 cap, .int .i64 k0] w fun e w' => e = .returned (.int .i64 k0) ∧ w' = w := by
  go_enter Try.func28, Try.ntmps28
  go_wp2_with fail
  go_loopw [1, 5] (fun kv iv wr => wr = w ∧ kv = .int .i64 k0 ∧ iv = .int .i64 0) (fun _ _ _ => 0)
  case atStart => exact ⟨rfl, rfl, rfl⟩
  case round =>
    obtain ⟨rfl, rfl, rfl⟩ := hrel
    go_wp2_with fail
    go_ret
    exact ⟨rfl, rfl⟩
theorem markint_any (v : Value) (l : List Int) (base : Nat) (k0 : Int) (w : World) (h : Own 1 csI w base v l) (hn : l.length ≤ 1048576) (hk0 : 0 ≤ k0) (hk1 : k0 ≤ 1000000000) :
    Calls Try.prog 28 #[v, .int .i64 k0] w fun e w' => e = .returned (.int .i64 (k0 + (l.length : Int))) ∧ Own 1 csM w' base v (marks 1 k0 l.length) ∧ Aside w w' v ∧ (l.length = 0 → w' = w) := by
  obtain ⟨ao, cap, rfl, hc, hh⟩ := h
  rcases Nat.eq_zero_or_pos l.length with h0 | hpos
  · rw [h0]
    refine (markint_none ao cap k0 w).mono ?_
    rintro e w' ⟨rfl, rfl⟩
    exact ⟨by simp, ⟨ao, cap, rfl, Nat.zero_le _, Or.inl rfl⟩, Aside.refl _ _, fun _ => rfl⟩
  · obtain ⟨G, rfl, hG, ho⟩ := hh.resolve_left (by omega)
    refine (markint_some G l.length cap l k0 w ho hn hk0 hk1).mono ?_
    rintro e w' ⟨rfl, ho', ha⟩
    exact ⟨rfl, ⟨_, cap, by rw [marks_len], by rw [marks_len]; exact hc, Or.inr ⟨G, rfl, hG, by rw [marks_len]; exact ho'⟩⟩, ha, fun h0 => absurd h0 (by omega)⟩
set_option maxRecDepth 20000 in
set_option maxHeartbeats 4000000 in
theorem heldint_any (v : Value) (k0 : Int) (n : Nat) (w : World) (h : Rw 1 csM w v (marks 1 k0 n)) (hn : n ≤ 1048576) (hk0 : 0 ≤ k0) (hk1 : k0 ≤ 1000000000) :
    Calls Try.prog 29 #[v, .int .i64 k0] w fun e w' => e = .returned (.int .i64 (k0 + (n : Int))) ∧ w' = w := by
  have HH := hidden h
  obtain ⟨ao, cap, rfl⟩ := h.form
  clear h
  rw [marks_len]
  rw [marks_len] at HH
  go_enter Try.func29, Try.ntmps29
  go_wp2_with fail
  go_loopw [1, 5] (fun kv iv wr => wr = w ∧ ∃ i : Nat, i ≤ n ∧ kv = .int .i64 (k0 + (i : Int)) ∧ iv = .int .i64 i) (fun _ iv _ => n - (intOf iv).toNat)
  case atStart => exact ⟨rfl, 0, Nat.zero_le _, by simp, rfl⟩
  case round =>
    obtain ⟨rfl, i, hi, rfl, rfl⟩ := hrel
    by_cases hlt : i < n
    · have hlti : (i : Int) < (n : Int) := by omega
      obtain ⟨g, off, rfl, hg, c0⟩ := int_cell HH.out (marks_get 1 k0 n i hlt)
      have c1 : wr.cell? ⟨g, off + i, none⟩ = some (.int .i64 (k0 + (i : Int))) := c0.trans (congrArg (fun z => some (Value.int .i64 z)) (by unfold csM; omega))
      clear c0
      go_wp2_with fail
      go_roundw
      case rel => exact ⟨by first | rfl | trivial, i + 1, by omega, by congr 1; omega, rfl⟩
      case measure => simp [intOf]; omega
    · have hlti : ¬ (i : Int) < (n : Int) := by omega
      have hin : i = n := by omega
      subst hin
      go_wp2_with fail
      go_ret
      exact ⟨rfl, rfl⟩
theorem kp_own {lo hi base e s n : Nat} {w w' : World} {v : Value} {xs : List Value} (h : Kp lo hi w w') (ho : w.ownsRow base e s v n xs) (hl : ∀ k, v.ownBlock = some k → k < lo ∨ hi ≤ k) : w'.ownsRow base e s v n xs := by
  obtain ⟨q, ⟨q1, q2⟩ | ⟨g, c, cur, rfl, hg, hh, r⟩⟩ := ho
  · exact ⟨q, Or.inl ⟨q1, q2⟩⟩
  · exact ⟨q, Or.inr ⟨g, c, cur, rfl, hg, (h.block g (hl g rfl)).trans hh, r⟩⟩
theorem aside_own {base e s n : Nat} {w w' : World} {v v2 : Value} {xs : List Value} (h : Aside w w' v) (ho : w.ownsRow base e s v2 n xs) (hl : ∀ k, v2.ownBlock = some k → v.ownBlock ≠ some k) : w'.ownsRow base e s v2 n xs := by
  obtain ⟨q, ⟨q1, q2⟩ | ⟨g, c, cur, rfl, hg, hh, r⟩⟩ := ho
  · exact ⟨q, Or.inl ⟨q1, q2⟩⟩
  · exact ⟨q, Or.inr ⟨g, c, cur, rfl, hg, (h.block g (hl g rfl)).trans hh, r⟩⟩
theorem intsV_cells (l : List Int) : intsV l = cellsL 1 csI l := by
  induction l with
  | nil => rfl
  | cons x l ih => show Value.int .i64 x :: intsV l = [Value.int .i64 x] ++ cellsL 1 csI l; rw [ih]; rfl
theorem ownI_irw {w : World} {base : Nat} {v : Value} {l : List Int} (h : w.ownsRow base 2 1 v l.length (intsV l)) : IRw w v l := ownQ_irw h
theorem ownI_own {w : World} {base : Nat} {v : Value} {l : List Int} (h : w.ownsRow base 2 1 v l.length (intsV l)) : Own 1 csI w base v l := own_of rfl (by rw [← intsV_cells]; exact h)
end Go.Proofs.Ytgcpiinmcbdkmaa
