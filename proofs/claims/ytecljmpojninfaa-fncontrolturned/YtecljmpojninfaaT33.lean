/-
  Control, the program's: a rule asked.
-/
import Derived.Test.YtecljmpojninfaaT32
namespace Go.Proofs.Ytecljmpojninfaa
open Go.RowKit Va Lb
set_option linter.all false

noncomputable def mnL (l : List Int) : Int := @ite _ (∃ m : Int, m ∈ l ∧ ∀ x ∈ l, m ≤ x) (Classical.propDecidable _) (l.foldl min (l.headD 0)) 0
theorem mn_ex {l : List Int} (h : 0 < l.length) : ∃ m : Int, m ∈ l ∧ ∀ x ∈ l, m ≤ x := by
  induction l with
  | nil => simp at h
  | cons a l ih =>
    by_cases hl : 0 < l.length
    · obtain ⟨m, h1, h2⟩ := ih hl
      rcases (show min a m = a ∨ min a m = m by omega) with e | e
      · exact ⟨a, List.mem_cons_self, fun x hx => by rcases List.mem_cons.1 hx with rfl | q; omega; have := h2 x q; omega⟩
      · exact ⟨m, List.mem_cons_of_mem _ h1, fun x hx => by rcases List.mem_cons.1 hx with rfl | q; omega; exact h2 x q⟩
    · have : l = [] := List.length_eq_zero_iff.1 (by omega)
      subst this
      exact ⟨a, by simp, by simp⟩
theorem mx_ex {l : List Int} (h : 0 < l.length) : ∃ m : Int, m ∈ l ∧ ∀ x ∈ l, x ≤ m := by
  induction l with
  | nil => simp at h
  | cons a l ih =>
    by_cases hl : 0 < l.length
    · obtain ⟨m, h1, h2⟩ := ih hl
      rcases (show max a m = a ∨ max a m = m by omega) with e | e
      · exact ⟨a, List.mem_cons_self, fun x hx => by rcases List.mem_cons.1 hx with rfl | q; omega; have := h2 x q; omega⟩
      · exact ⟨m, List.mem_cons_of_mem _ h1, fun x hx => by rcases List.mem_cons.1 hx with rfl | q; omega; exact h2 x q⟩
    · have : l = [] := List.length_eq_zero_iff.1 (by omega)
      subst this
      exact ⟨a, by simp, by simp⟩
theorem vrw_drop {w : World} {g off n cap : Nat} {l : List Int} (h : VRw 1 cvI w (.slice (some ⟨g, off, none⟩) n cap) l) {K : Nat} (hK : K ≤ l.length) : VRw 1 cvI w (.slice (some ⟨g, off + K, none⟩) (n - K) (cap - K)) (l.drop K) := by
  obtain rfl := h.len
  have hc := h.cap
  obtain ⟨ao', cap', he, _, h2⟩ := h
  simp only [Value.slice.injEq] at he
  obtain ⟨rfl, -, rfl⟩ := he
  refine ⟨_, _, by rw [List.length_drop], by rw [List.length_drop]; omega, ?_⟩
  rcases h2 with h2 | ⟨b, o, e, h3, h4⟩
  · exact Or.inl (by rw [List.length_drop]; omega)
  · simp only [Option.some.injEq, Addr.mk.injEq, and_true] at e
    obtain ⟨rfl, rfl⟩ := e
    refine Or.inr ⟨g, off + K, rfl, h3, fun i x hx k hk => ?_⟩
    rw [List.getElem?_drop] at hx
    have := h4 (K + i) x hx k hk
    rw [show off + K + i * 1 + k = off + (K + i) * 1 + k by omega]
    exact this

set_option maxRecDepth 20000 in
set_option maxHeartbeats 4000000 in
theorem ilast_any (r : Rl) (hc1 : 1 ≤ r.c) (hc2 : r.c ≤ 2000) (hf0 : 0 ≤ r.f) (hf1 : r.f ≤ 1000000) (ao : Option Addr) (n cap : Nat) (l : List Int) (Bc Bf Bx : Nat) (w : World) (h : VRw 1 cvI w (.slice ao n cap) l) (hn : l.length ≤ 1048576)
    (hBc : PB w Bc #[.int .i64 (r.c : Int)] 3) (hBf : PB w Bf #[.func (.func (kF r.both)) #[] #[.pointer (some ⟨Bx, 0, none⟩)]] 100) (hBx : PB w Bx #[.int .i64 r.f] 2) :
    Calls Try.prog 77 #[.slice ao n cap, .pointer (some ⟨Bc, 0, none⟩), .pointer (some ⟨Bf, 0, none⟩)] w fun e w' => e = .returned (.bool (rlB r l)) ∧ Below w.heap.size w w' := by
  obtain rfl := h.len
  have c0 : w.cell? ⟨Bc, 0, none⟩ = some (.int .i64 (r.c : Int)) := hBc.cell 0
  by_cases hlt : (l.length : Int) < (r.c : Int)
  · have HV : Hid (rlB r l = false) := by
      unfold rlB
      rw [decide_eq_false (by omega), Bool.false_and]
      rfl
    clear h hBc hBf hBx
    go_enter Try.func77, Try.ntmps77
    go_wp2_with fail
    go_ret
    exact ⟨ret_boolT HV.out.symm, Below.refl _ _⟩
  obtain ⟨x0, hx0⟩ := some_of l 0 (by omega)
  obtain ⟨g, off, rfl, hg, -⟩ := vint_cell h hx0
  obtain ⟨K, hK, hK2⟩ : ∃ K : Nat, (l.length : Int) - (r.c : Int) = (K : Int) ∧ K = l.length - r.c := ⟨l.length - r.c, by omega, rfl⟩
  have hcap := h.cap
  have hrow := vrw_drop h (K := K) (by omega)
  rw [show l.drop K = lastC' r.c l from by rw [hK2]; rfl] at hrow
  have hlen : (lastC' r.c l).length = l.length - K := by unfold lastC'; rw [List.length_drop]; omega
  obtain ⟨lo, hlo⟩ := mn_ex (l := lastC' r.c l) (by omega)
  obtain ⟨hi, hhi⟩ := mx_ex (l := lastC' r.c l) (by omega)
  have HMn := hidden (fun W (hW : Below w.heap.size w W) => imin_any _ _ _ _ W (hrow.below hW) (by omega) (by omega))
  have HMx := hidden (fun W (hW : Below w.heap.size w W) => imax_any _ _ _ _ W (hrow.below hW) (by omega) (by omega))
  have HEQ := hidden (kB_rl (r := r) (l := l) (lo := lo) (hi := hi) (by omega) hlo hhi)
  have HU : Hid (∀ m, (m ∈ lastC' r.c l ∧ ∀ x ∈ lastC' r.c l, m ≤ x) → m = lo) := fun m q => by have a := q.2 lo hlo.1; have b := hlo.2 m q.1; omega
  have HU2 : Hid (∀ m, (m ∈ lastC' r.c l ∧ ∀ x ∈ lastC' r.c l, x ≤ m) → m = hi) := fun m q => by have a := q.2 hi hhi.1; have b := hhi.2 m q.1; omega
  have HF := hidden hBf
  have HX := hidden hBx
  have hKl : (K : Int) ≤ (l.length : Int) := by omega
  have hKc : (K : Int) ≤ (cap : Int) := by omega
  have f0 : w.cell? ⟨Bf, 0, none⟩ = some (.func (.func (kF r.both)) #[] #[.pointer (some ⟨Bx, 0, none⟩)]) := hBf.cell 0
  clear h hBc hBf hBx hx0 hrow hlo hhi hlen hK2
  cases hb : r.both with
  | false =>
    rw [hb] at HEQ f0
    have hk : kF false = 72 := rfl
    rw [hk] at f0
    have HK := hidden (fun W (hW : Below w.heap.size w W) => ione_any lo hi r.f Bx W (HX.out.below hW) hf0 hf1)
    rw [HEQ.out] at HK
    generalize rlB r l = R at *
    clear HEQ hk HF HX hb
    go_enter Try.func77, Try.ntmps77
    go_wp2_with fail
    go_region_with (first | (go_at_call 78; refine (HMn.out _ (by repeat (first | exact Below.refl _ _ | assumption | refine st_drew ?_ | refine st_drewN ?_ _ | refine Below.setCell ?_ (by first | omega | (simp; done) | (simp; omega)) _ | refine Below.alloc ?_ (by first | omega | (simp; done) | (simp; omega)) _))).mono ?_; rintro e w1 ⟨⟨m, rfl, hm⟩, hw1⟩; obtain rfl := HU.out m hm; obtain rfl := hw1; clear hm) | (go_at_call 79; refine (HMx.out _ (by repeat (first | exact Below.refl _ _ | assumption | refine st_drew ?_ | refine st_drewN ?_ _ | refine Below.setCell ?_ (by first | omega | (simp; done) | (simp; omega)) _ | refine Below.alloc ?_ (by first | omega | (simp; done) | (simp; omega)) _))).mono ?_; rintro e w1 ⟨⟨m, rfl, hm⟩, hw1⟩; obtain rfl := HU2.out m hm; obtain rfl := hw1; clear hm) | (go_at_call 72; refine (HK.out _ (by repeat (first | exact Below.refl _ _ | assumption | refine st_drew ?_ | refine st_drewN ?_ _ | refine Below.setCell ?_ (by first | omega | (simp; done) | (simp; omega)) _ | refine Below.alloc ?_ (by first | omega | (simp; done) | (simp; omega)) _))).mono ?_; rintro e w1 ⟨rfl, hw1⟩; obtain rfl := hw1) | fail)
    all_goals go_wp2_with fail
    all_goals go_ret
    all_goals exact ⟨rfl, by repeat (first | exact Below.refl _ _ | assumption | refine st_drew ?_ | refine st_drewN ?_ _ | refine Below.setCell ?_ (by first | omega | (simp; done) | (simp; omega)) _ | refine Below.alloc ?_ (by first | omega | (simp; done) | (simp; omega)) _)⟩
  | true =>
    rw [hb] at HEQ f0
    have hk : kF true = 73 := rfl
    rw [hk] at f0
    have HK := hidden (fun W (hW : Below w.heap.size w W) => iboth_any lo hi r.f Bx W (HX.out.below hW) hf0 hf1)
    rw [HEQ.out] at HK
    generalize rlB r l = R at *
    clear HEQ hk HF HX hb
    go_enter Try.func77, Try.ntmps77
    go_wp2_with fail
    go_region_with (first | (go_at_call 78; refine (HMn.out _ (by repeat (first | exact Below.refl _ _ | assumption | refine st_drew ?_ | refine st_drewN ?_ _ | refine Below.setCell ?_ (by first | omega | (simp; done) | (simp; omega)) _ | refine Below.alloc ?_ (by first | omega | (simp; done) | (simp; omega)) _))).mono ?_; rintro e w1 ⟨⟨m, rfl, hm⟩, hw1⟩; obtain rfl := HU.out m hm; obtain rfl := hw1; clear hm) | (go_at_call 79; refine (HMx.out _ (by repeat (first | exact Below.refl _ _ | assumption | refine st_drew ?_ | refine st_drewN ?_ _ | refine Below.setCell ?_ (by first | omega | (simp; done) | (simp; omega)) _ | refine Below.alloc ?_ (by first | omega | (simp; done) | (simp; omega)) _))).mono ?_; rintro e w1 ⟨⟨m, rfl, hm⟩, hw1⟩; obtain rfl := HU2.out m hm; obtain rfl := hw1; clear hm) | (go_at_call 73; refine (HK.out _ (by repeat (first | exact Below.refl _ _ | assumption | refine st_drew ?_ | refine st_drewN ?_ _ | refine Below.setCell ?_ (by first | omega | (simp; done) | (simp; omega)) _ | refine Below.alloc ?_ (by first | omega | (simp; done) | (simp; omega)) _))).mono ?_; rintro e w1 ⟨rfl, hw1⟩; obtain rfl := hw1) | fail)
    all_goals go_wp2_with fail
    all_goals go_ret
    all_goals exact ⟨rfl, by repeat (first | exact Below.refl _ _ | assumption | refine st_drew ?_ | refine st_drewN ?_ _ | refine Below.setCell ?_ (by first | omega | (simp; done) | (simp; omega)) _ | refine Below.alloc ?_ (by first | omega | (simp; done) | (simp; omega)) _)⟩
end Go.Proofs.Ytecljmpojninfaa
