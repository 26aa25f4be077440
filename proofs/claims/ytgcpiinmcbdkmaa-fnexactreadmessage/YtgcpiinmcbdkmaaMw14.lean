/-
  Merged: Rh Rm Rj Rk Rn Rs.
-/
import Derived.Test.YtgcpiinmcbdkmaaMw13
import Derived.Maps.AppendAt
namespace Go.Proofs.Ytgcpiinmcbdkmaa.Rg
open Go
set_option linter.all false
section
variable {P : Program} {ops : Array Oper} {Q : Exit → Act → World → Prop} {md : Region.Mode}
theorem aft_done {i k : Nat} {o : Oper} {l : Array Bool} (hio : ops[i]? = some o) (haft : ∀ e ∈ o.after, Region.binds md e = true → l.getD e.on false = true) (hk : aftOf md ops i k = true) : l.getD k false = true := by
  unfold aftOf at hk
  rw [hio] at hk
  simp only [Option.map_some, Option.getD_some, List.any_eq_true, Bool.and_eq_true, beq_iff_eq] at hk
  obtain ⟨e, he, hek, hb⟩ := hk
  have he := Array.mem_toList_iff.1 he
  have hlk := haft e he hb
  rw [hek] at hlk
  exact hlk
def Shut (md : Region.Mode) (ops : Array Oper) (l : Array Bool) : Prop := ∀ k j, l.getD k false = true → aftOf md ops k j = true → l.getD j false = true
theorem op_append {i : Nat} {o : Oper} {b : Act} {w : World} {K : Act → World → Prop} (hio : ops[i]? = some o) (hw : Region.wanted o (yielded ops b.tmps) = true) (s x : Operand) (t : TypeId)
    (ho : o.op = .call { callee := .builtin .append, args := #[s, x], argTypes := #[t, t] })
    (base : Nat) (e : TypeId) (ti : TypeInfo) (z : Value) (size bytes : Nat) (ht : P.underlying t = some (.slice e)) (hi : P.info? e = some ti) (hz : ti.zero = some z)
    (hsize : ti.size = size) (hby : ti.bytes = bytes) (hzs : z.cells.size = size) (hsz : 0 < size)
    (v : Value) (n : Nat) (xs : List Value) (hs : b.eval s = v) (hown : w.ownsRow base e size v n xs)
    (ad : Addr) (m c : Nat) (news : List Value) (hx : b.eval x = .slice (some ad) m c) (hl : news.length = m * size) (hnews : ∀ j u, news[j]? = some u → w.cell? (ad.add j) = some u) (h1 : ∀ u ∈ news, u.oneCell' = true)
    (h63 : n + m ≤ maxLen) (hbytes : (n + m) * bytes ≤ 140737488355328) (hbase : base ≤ w.heap.size)
    (h : ∀ v' w', w'.ownsRow base e size v' (n + m) (xs ++ news) → w.grownBy w' v.ownBlock → (v'.ownBlock = v.ownBlock ∨ v'.ownBlock = some w.heap.size) → K (b.put o.dst v') w') : wpOp P ops Q i K b w := by
  obtain ⟨v', w', hr, h2, h3, h4, h5⟩ := run_append_own_at (P := P) w base t o.type e ti z size bytes ht hi hz hsize hby hzs hsz v n xs hown ad m c news hl hnews h1 h63 hbytes hbase
  refine op_value (x := v') (w' := w') hio hw ?_ (h v' w' h2 h3 h5)
  unfold execOp
  simp only [ho, resolve, invoke, builtin, Sem.run_bind, Sem.run_pure, Result.andThen_ok, List.map_toArray, List.map_cons, List.map_nil, hs, hx, hr]
end
end Go.Proofs.Ytgcpiinmcbdkmaa.Rg

namespace Go.Proofs.Ytgcpiinmcbdkmaa.Rg
open Go
set_option linter.all false
end Go.Proofs.Ytgcpiinmcbdkmaa.Rg

namespace Go.Proofs.Ytgcpiinmcbdkmaa.Rg
open Go
set_option linter.all false
section
variable {P : Program} {ops : Array Oper} {Q : Exit → Act → World → Prop}
theorem set_ne {l : Array Bool} {i j : Nat} (h : i ≠ j) : (l.setIfInBounds i true).getD j false = l.getD j false := getD_set_ne false h
theorem set_self {l : Array Bool} {i n : Nat} (hs : l.size = n) (h : i < n) : (l.setIfInBounds i true).getD i false = true := by
  rw [Array.getD_eq_getD_getElem?, Array.getElem?_setIfInBounds_self_of_lt (by omega)]; rfl
theorem none_yet {n j : Nat} : (Array.replicate n false).getD j false = false := by
  simp only [Array.getD_eq_getD_getElem?, Array.getElem?_replicate]
  split <;> rfl
end
end Go.Proofs.Ytgcpiinmcbdkmaa.Rg

namespace Go.Proofs.Ytgcpiinmcbdkmaa.Rg
open Go
set_option linter.all false
section
variable {P : Program} {ops : Array Oper} {Q : Exit → Act → World → Prop}
end
end Go.Proofs.Ytgcpiinmcbdkmaa.Rg

namespace Go.Proofs.Ytgcpiinmcbdkmaa.Rg
open Go
set_option linter.all false
section
variable {P : Program} {ops : Array Oper} {Q : Exit → Act → World → Prop}
theorem region_set3 {id : Nat} {a : Act} {w : World} (hm : P.follows .mixedOrders = true) (I : Array Bool → World → Prop) (F : Nat → Value → World → Prop) (hfit : fit .any ops a.tmps.size ops.size = true)
    (h0 : I (Array.replicate ops.size false) { w with drawn := w.drawn + 1 })
    (hop : ∀ i, i < ops.size → ∀ l b w, l.size = ops.size → l.getD i false = false → (∀ j, aftOf .any ops j i = true → l.getD j false = false) → (∀ j, l.getD j false = false → out ops b j = out ops a j) → Fr ops a b → I l w → (∀ k, aftOf .any ops i k = true → F k (out ops b k) w) →
      wpOp P ops Q i (fun b' w' => ∃ x, b' = b.put (dstAt ops i) x ∧ (dstAt ops i = none → F i undef w') ∧ F i x w' ∧ I (l.setIfInBounds i true) w' ∧ ∀ k y, k ≠ i → aftOf .any ops k i = false → F k y w → F k y w') b w)
    (hend : ∀ l b w', Fr ops a b → (∀ k, k < ops.size → l.getD k false = true) → I l w' → (∀ k, k < ops.size → F k (out ops b k) w') → Q .normal b w') : (Code.region id ops true).wp P Q a w := by
  refine wp_region_any hm ?_
  refine wpAny_inv (fun l b w' => l.size = ops.size ∧ Shut .any ops l ∧ Fr ops a b ∧ (∀ j, l.getD j false = false → out ops b j = out ops a j) ∧ I l w' ∧ ∀ k, k < ops.size → l.getD k false = true → F k (out ops b k) w') ?_ ?_ _ _ _ _ ?_ ?_
  · rintro l b w' i ⟨hs, hsh, hf, hO, hI, hF⟩ hi
    obtain ⟨hi0, o, hio, haft⟩ := mem_ready.1 hi
    have hlt : i < ops.size := (Array.getElem?_eq_some_iff.1 hio).1
    have hli := getD_of (b := false) hi0
    have hlf : l.getD i false = false := by rw [Array.getD_eq_getD_getElem?, hli]; rfl
    have hl2 : (l.setIfInBounds i true).size = ops.size := by rw [Array.size_setIfInBounds]; exact hs
    have hA : ∀ k, aftOf .any ops i k = true → F k (out ops b k) w' := by
      intro k hk
      have hlk := aft_done hio haft hk
      have hkl : k < ops.size := by
        have : k < l.size := by
          rcases Nat.lt_or_ge k l.size with q | q
          · exact q
          · rw [Array.getD_eq_getD_getElem?, Array.getElem?_eq_none q] at hlk; cases hlk
        omega
      exact hF k hkl hlk
    have hN : ∀ j, aftOf .any ops j i = true → l.getD j false = false := by
      intro j hj
      cases q : l.getD j false with
      | false => rfl
      | true => rw [hsh j i q hj] at hlf; cases hlf
    refine wpOp_mono ?_ (hop i hlt l b w' hs hlf hN hO hf hI hA)
    rintro b' w'' ⟨x, rfl, hx0, hx, hI2, hst⟩
    refine ⟨hl2, ?_, hf.put i x, fun j hj => ?_, hI2, fun k hk hlk => ?_⟩
    · intro k j hk hkj
      by_cases hki : k = i
      · subst hki
        exact getD_set_true (aft_done hio haft hkj)
      · rw [getD_set_ne false (Ne.symm hki)] at hk
        exact getD_set_true (hsh k j hk hkj)
    · by_cases hji : j = i
      · subst hji
        rw [Array.getD_eq_getD_getElem?, Array.getElem?_setIfInBounds_self_of_lt (by omega)] at hj; cases hj
      · rw [out_put hfit hf rfl x (fun _ => .inr trivial), if_neg (fun q => hji q.1)]
        exact hO j (by rwa [getD_set_ne false (Ne.symm hji)] at hj)
    · rw [out_put hfit hf rfl x (fun _ => .inr trivial)]
      by_cases hki : k = i
      · subst hki
        cases hd : dstAt ops k with
        | none =>
          rw [if_neg (by simp)]
          have : out ops b k = undef := by unfold out; rw [hd]
          rw [this]; exact hx0 hd
        | some d => rw [if_pos ⟨rfl, rfl⟩]; exact hx
      · rw [if_neg (fun q => hki q.1)]
        rw [getD_set_ne false (Ne.symm hki)] at hlk
        refine hst k _ hki ?_ (hF k hk hlk)
        cases q : aftOf .any ops k i with
        | false => rfl
        | true => rw [hsh k i hlk q] at hlf; cases hlf
  · rintro l b w' ⟨hs, hsh, hf, hO, hI, hF⟩ hr
    have hall := all_listed hfit hs hr
    exact hend l b w' hf hall hI (fun k hk => hF k hk (hall k hk))
  · refine ⟨by simp, fun k j hk _ => ?_, ⟨rfl, rfl, fun s _ => rfl⟩, fun _ _ => rfl, h0, fun k hk hlk => ?_⟩
    · simp only [Array.getD_eq_getD_getElem?, Array.getElem?_replicate] at hk
      split at hk <;> cases hk
    · simp only [Array.getD_eq_getD_getElem?, Array.getElem?_replicate, if_pos hk] at hlk
      cases hlk
  · simp
end
end Go.Proofs.Ytgcpiinmcbdkmaa.Rg

namespace Go.Proofs.Ytgcpiinmcbdkmaa.Rg
open Go
set_option linter.all false
end Go.Proofs.Ytgcpiinmcbdkmaa.Rg
