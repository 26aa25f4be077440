/-
  Values found: the map; a reflex as a rule.
-/
import Derived.Test.YtldggndhdilncaaT44
import Derived.Test.YtldggndhdilncaaT36
import Derived.Test.YtldggndhdilncaaRt
import Derived.Maps.OwnSet
import Derived.Maps.OwnOps
namespace Go.Proofs.Ytldggndhdilncaa
open Go.RowKit Go.Maps Va Lb
set_option linter.all false

theorem wf_inr {x : Int} (h : InR x) : (Lit.int .i64 x).wf = true := WalkArith.wf_i64 h
theorem keyI : Keyed Try.prog 2 := int_keyed Try.underlying2
theorem zeroI (w : World) : (zeroValue 2).run Try.prog w = .ok (.int .i64 0) w := by kernel_rfl
/-- The map holds the values. -/
structure MapV (D : DataW Unit) (vs : List Vl) : Prop where
  has' : ∀ x, InR x → Maps.has D (.int .i64 x) = (vlAt vs x).isSome
  at' : ∀ x, InR x → D.atKey (.int .i64 x) (.lit (.int .i64 0)) = .lit (.int .i64 ((vlAt vs x).getD 0))
theorem MapV.nil : MapV (.map []) [] := ⟨fun x _ => rfl, fun x _ => rfl⟩
theorem vlAt_snoc (vs : List Vl) (y : Vl) (x : Int) : vlAt (vs ++ [y]) x = (vlAt vs x).or (if y.te = x then some y.v else none) := by
  unfold vlAt
  rw [List.find?_append]
  cases h : vs.find? (fun z => z.te == x) with
  | some z => simp
  | none =>
    simp only [Option.none_or, Option.map_none, List.find?_cons, List.find?_nil]
    by_cases q : y.te = x
    · simp [q]
    · have e : (y.te == x) = false := beq_eq_false_iff_ne.2 q
      simp only [e, if_neg q]
      rfl
theorem MapV.snoc {D : DataW Unit} {vs : List Vl} {y : Vl} (h : MapV D vs) (hm : IsMap D) (hy : InR y.te) (hn : vlAt vs y.te = none) : MapV (D.put (.int .i64 y.te) (.lit (.int .i64 y.v))) (vs ++ [y]) := by
  refine ⟨fun x hx => ?_, fun x hx => ?_⟩
  · rw [vlAt_snoc]
    by_cases q : y.te = x
    · subst q
      rw [has_put_same hm (by trivial), hn]
      simp
    · rw [has_put_other (fun e => q (by simpa using e.symm)), h.has' x hx, if_neg q]
      simp
  · rw [vlAt_snoc]
    by_cases q : y.te = x
    · subst q
      rw [atKey_put_same hm (by trivial), hn]
      simp
    · rw [atKey_put_other (fun e => q (by simpa using e.symm)), h.at' x hx, if_neg q]
      simp

def ruOf (w : World) (vs : List Vl) (x : Rx) : Ru := ⟨w.heap.size, w.heap.size + 1, x.te.toNat, x.th.toNat, calls1 vs x⟩
theorem two_box (w : World) (x : Rx) (b : Bool) (h : x.ok) : RuAt ((w.alloc (.cells #[.int .i64 x.te, .int .i64 x.lo, .int .i64 x.hi, .int .i64 x.th] 37)).alloc (.cells #[.bool b] 4)) ⟨w.heap.size, w.heap.size + 1, x.te.toNat, x.th.toNat, b⟩ := by
  obtain ⟨⟨h1, h2⟩, ⟨h3, h4⟩, -⟩ := h
  have P1 := PB.new w #[.int .i64 x.te, .int .i64 x.lo, .int .i64 x.hi, .int .i64 x.th] 37
  have bx : Below (w.alloc (.cells #[.int .i64 x.te, .int .i64 x.lo, .int .i64 x.hi, .int .i64 x.th] 37)).heap.size _ ((w.alloc (.cells #[.int .i64 x.te, .int .i64 x.lo, .int .i64 x.hi, .int .i64 x.th] 37)).alloc (.cells #[.bool b] 4)) := (Below.refl _ _).alloc (Nat.le_refl _) _
  have P2 := P1.below bx
  have P3 := PB.new (w.alloc (.cells #[.int .i64 x.te, .int .i64 x.lo, .int .i64 x.hi, .int .i64 x.th] 37)) #[.bool b] 4
  have hs : (w.alloc (.cells #[.int .i64 x.te, .int .i64 x.lo, .int .i64 x.hi, .int .i64 x.th] 37)).heap.size = w.heap.size + 1 := by simp
  rw [hs] at P3
  refine ⟨⟨x.lo, x.hi, ?_⟩, P3, by dsimp only; omega, by dsimp only; omega⟩
  dsimp only
  rw [show ((x.te.toNat : Nat) : Int) = x.te by omega, show ((x.th.toNat : Nat) : Int) = x.th by omega]
  exact P2

set_option maxRecDepth 20000 in
set_option maxHeartbeats 4000000 in
theorem iasrule_any (x : Rx) (vs : List Vl) (b n : Nat) (D : DataW Unit) (w : World) (hok : x.ok) (hb : b < w.heap.size) (hown : w.ownsMap Try.prog 2 (plainElem Try.prog 2) b n D) (hD : MapV D vs) :
    Calls Try.prog 27 #[aRx x, .map (some b)] w fun e w' => e = .returned (cvRu (ruOf w vs x) 0) ∧ RuAt w' (ruOf w vs x) ∧ Below w.heap.size w w' := by
  have hte : InR x.te := by have := hok.1; unfold Tst at this; unfold InR; omega
  have bx : Below w.heap.size w (w.alloc (.cells #[.int .i64 x.te, .int .i64 x.lo, .int .i64 x.hi, .int .i64 x.th] 37)) := (Below.refl _ _).alloc (Nat.le_refl _) _
  have HO := hidden (Rt.own_heap hown (bx.block b hb))
  have HK := hidden (keyOf_int_mk Try.underlying2 (wf_inr hte))
  have h1 := hD.has' x.te hte
  have h2 := hD.at' x.te hte
  have HOK := hidden hok
  have HBX := hidden bx
  clear hown hD hok bx hte
  unfold ruOf aRx
  cases hv : vlAt vs x.te with
  | none =>
    rw [hv] at h1 h2
    have HC : Hid (calls1 vs x = false) := by show calls1 vs x = _; unfold calls1; rw [hv]
    have h3 : Maps.has D (.int .i64 x.te) = false := h1
    have HA := hidden h2
    clear hv h1 h2
    have HR := hidden (two_box w x false HOK.out)
    go_enter Try.func27, Try.ntmps27
    go_wp2_with (at_lookup; refine wpList_lookup_own_ok_int _ rfl _ _ 41 rfl 2 2 .i64 keyI Try.underlying41 Try.underlying2 (zeroI _) b n D rfl HO.out _ _ rfl HK.out ?_; intro c hat hwc; rw [h3]; clear hat hwc)

    go_ret
    exact ⟨rfl, by rw [HC.out]; exact HR.out, by repeat (first | exact Below.refl _ _ | assumption | refine st_drew ?_ | refine st_drewN ?_ _ | refine Below.setCell ?_ (by first | omega | (simp; done) | (simp; omega)) _ | refine Below.alloc ?_ (by first | omega | (simp; done) | (simp; omega)) _)⟩
  | some v =>
    rw [hv] at h1 h2
    have HC : Hid (calls1 vs x = (decide (x.lo ≤ v) && decide (v ≤ x.hi))) := by show calls1 vs x = _; unfold calls1; rw [hv]
    have h3 : Maps.has D (.int .i64 x.te) = true := h1
    have HA := hidden h2
    have HV : Hid (∀ c : Int, D.atKey (.int .i64 x.te) (.lit (.int .i64 0)) = .lit (.int .i64 c) → c = v) := fun c hc => by
      have := hc.symm.trans HA.out
      simpa using this
    clear hv h1 h2 HA
    by_cases q1 : x.lo ≤ v
    · by_cases q2 : v ≤ x.hi
      · have HR := hidden (two_box w x true HOK.out)
        have HC2 : Hid (calls1 vs x = true) := by show calls1 vs x = true; rw [HC.out]; simp [q1, q2]
        go_enter Try.func27, Try.ntmps27
        go_wp2_with (at_lookup; refine wpList_lookup_own_ok_int _ rfl _ _ 41 rfl 2 2 .i64 keyI Try.underlying41 Try.underlying2 (zeroI _) b n D rfl HO.out _ _ rfl HK.out ?_; intro c hat hwc; rw [h3]; obtain rfl := HV.out c hat; clear hat hwc)
        go_ret
        exact ⟨rfl, by rw [HC2.out]; exact HR.out, by repeat (first | exact Below.refl _ _ | assumption | refine st_drew ?_ | refine st_drewN ?_ _ | refine Below.setCell ?_ (by first | omega | (simp; done) | (simp; omega)) _ | refine Below.alloc ?_ (by first | omega | (simp; done) | (simp; omega)) _)⟩
      · have HR := hidden (two_box w x false HOK.out)
        have HC2 : Hid (calls1 vs x = false) := by show calls1 vs x = false; rw [HC.out]; simp [q2]
        go_enter Try.func27, Try.ntmps27
        go_wp2_with (at_lookup; refine wpList_lookup_own_ok_int _ rfl _ _ 41 rfl 2 2 .i64 keyI Try.underlying41 Try.underlying2 (zeroI _) b n D rfl HO.out _ _ rfl HK.out ?_; intro c hat hwc; rw [h3]; obtain rfl := HV.out c hat; clear hat hwc)
        go_ret
        exact ⟨rfl, by rw [HC2.out]; exact HR.out, by repeat (first | exact Below.refl _ _ | assumption | refine st_drew ?_ | refine st_drewN ?_ _ | refine Below.setCell ?_ (by first | omega | (simp; done) | (simp; omega)) _ | refine Below.alloc ?_ (by first | omega | (simp; done) | (simp; omega)) _)⟩
    · have HR := hidden (two_box w x false HOK.out)
      have HC2 : Hid (calls1 vs x = false) := by show calls1 vs x = false; rw [HC.out]; simp [q1]
      go_enter Try.func27, Try.ntmps27
      go_wp2_with (at_lookup; refine wpList_lookup_own_ok_int _ rfl _ _ 41 rfl 2 2 .i64 keyI Try.underlying41 Try.underlying2 (zeroI _) b n D rfl HO.out _ _ rfl HK.out ?_; intro c hat hwc; rw [h3]; obtain rfl := HV.out c hat; clear hat hwc)
      go_ret
      exact ⟨rfl, by rw [HC2.out]; exact HR.out, by repeat (first | exact Below.refl _ _ | assumption | refine st_drew ?_ | refine st_drewN ?_ _ | refine Below.setCell ?_ (by first | omega | (simp; done) | (simp; omega)) _ | refine Below.alloc ?_ (by first | omega | (simp; done) | (simp; omega)) _)⟩
end Go.Proofs.Ytldggndhdilncaa
