/-
  Parts and messages: the law's own copies, sizes, sameness.
-/
import Derived.Test.YtbabknhccapaoaaM14
import Derived.Deep.RegionWith
namespace Go.Proofs.Ytbabknhccapaoaa
open Go.RowKit Va Ms
set_option linter.all false

theorem VOut.far {α : Type} {s : Nat} {cs : α → Nat → Value} {w : World} {G n i : Nat} {l : List α} (h : VOut s cs w G n l i) {b : Nat} (hb : b ≠ G) (o : Nat) (v : Value) : VOut s cs (w.setCell ⟨b, o, none⟩ v) G n l i := by
  obtain ⟨h1, h2, h3⟩ := h
  have hc : ∀ j, (w.setCell ⟨b, o, none⟩ v).cell? ⟨G, j, none⟩ = w.cell? ⟨G, j, none⟩ := fun j => World.cell?_setCell_far _ _ _ _ hb
  refine ⟨by simpa [World.setCell] using h1, fun j hj => ⟨by rw [hc]; exact (h2 j hj).1, by rw [World.frozen?_setCell]; exact (h2 j hj).2⟩, fun j x hj hx k hk => by rw [hc]; exact h3 j x hj hx k hk⟩

set_option maxRecDepth 20000 in
set_option maxHeartbeats 4000000 in
theorem topart_any (x : Pt) (fa : Option Addr) (fn fc : Nat) (w : World) (h : VRw 1 cvS w (.slice fa fn fc) x.fs) (hn : x.fs.length ≤ 1048576) :
    Calls Try.prog 49 #[aP x (.slice fa fn fc)] w fun e w' => ∃ G, w.heap.size ≤ G ∧ G < w'.heap.size ∧ e = .returned (aP x (.slice (some ⟨G, 0, none⟩) x.fs.length x.fs.length)) ∧ VOut 1 cvS w' G x.fs.length x.fs x.fs.length ∧ Below w.heap.size w w' := by
  have k1 := fun W hW => tostrs_any fa fn fc x.fs W hW hn
  have HT := hidden (fun W (hW : Below w.heap.size w W) => h.below hW)
  clear h
  have P1 := hidden ((PB.new (w.alloc (.cells #[.string x.n, .slice fa fn fc] 86)) #[.string { data := #[] }, .slice none 0 0] 67).alloc (.cells #[.string x.n, .slice none 0 0] 67))
  have P2 := hidden (PB.new ((w.alloc (.cells #[.string x.n, .slice fa fn fc] 86)).alloc (.cells #[.string { data := #[] }, .slice none 0 0] 67)) #[.string x.n, .slice none 0 0] 67)
  simp only [World.size_alloc] at P1 P2
  unfold aP
  go_enter Try.func49, Try.ntmps49
  go_wp2_with (go_at_call 61; (with_reducible refine (k1 _ (HT.out _ (by repeat (first | exact Below.refl _ _ | assumption | refine st_drew ?_ | refine st_drewN ?_ _ | refine Below.setCell ?_ (by first | omega | (simp; done) | (simp; omega)) _ | refine Below.alloc ?_ (by first | omega | (simp; done) | (simp; omega)) _)))).mono ?_); rintro e w1 ⟨rfl, ho1, hb1⟩; simp only [World.size_alloc] at ho1; have hsz := hb1.size; simp only [World.size_alloc] at hsz; have hq := P1.out.below hb1; have hr := P2.out.below hb1; obtain ⟨q0, q1⟩ := hq.two; obtain ⟨r0, r1⟩ := hr.two; obtain ⟨f0, f1, -⟩ := hq.cold; obtain ⟨g0, g1, -⟩ := hr.cold; have bA := ontoT (show Below w.heap.size w _ from by repeat (first | exact Below.refl _ _ | assumption | refine st_drew ?_ | refine st_drewN ?_ _ | refine Below.setCell ?_ (by first | omega | (simp; done) | (simp; omega)) _ | refine Below.alloc ?_ (by first | omega | (simp; done) | (simp; omega)) _)) hb1; have HQ := hidden hq; have HO := hidden ho1; clear hb1 hq hr ho1)
  have b1 := bA.setCell (p := ⟨w.heap.size + 1 + 1, 1, none⟩) (by show w.heap.size ≤ w.heap.size + 1 + 1; omega) (.slice (some ⟨w.heap.size + 1 + 1 + 1, 0, none⟩) x.fs.length x.fs.length)
  have b2 := b1.setCell (p := ⟨w.heap.size + 1, 0, none⟩) (by show w.heap.size ≤ w.heap.size + 1; omega) (.string x.n)
  have b3 := b2.setCell (p := ⟨w.heap.size + 1, 1, none⟩) (by show w.heap.size ≤ w.heap.size + 1; omega) (.slice (some ⟨w.heap.size + 1 + 1 + 1, 0, none⟩) x.fs.length x.fs.length)
  have o1 := HO.out.far (b := w.heap.size + 1 + 1) (by omega) 1 (.slice (some ⟨w.heap.size + 1 + 1 + 1, 0, none⟩) x.fs.length x.fs.length)
  have o2 := o1.far (b := w.heap.size + 1) (by omega) 0 (.string x.n)
  have o3 := o2.far (b := w.heap.size + 1) (by omega) 1 (.slice (some ⟨w.heap.size + 1 + 1 + 1, 0, none⟩) x.fs.length x.fs.length)
  have e1 := HQ.out.far (b := w.heap.size + 1 + 1) (by omega) 1 (.slice (some ⟨w.heap.size + 1 + 1 + 1, 0, none⟩) x.fs.length x.fs.length)
  have e2 := e1.put 0 (.string x.n) (vs' := #[.string x.n, .slice none 0 0]) (by simp)
  have e3 := e2.put 1 (.slice (some ⟨w.heap.size + 1 + 1 + 1, 0, none⟩) x.fs.length x.fs.length) (vs' := #[.string x.n, (.slice (some ⟨w.heap.size + 1 + 1 + 1, 0, none⟩) x.fs.length x.fs.length)]) (by simp)
  obtain ⟨y0, y1⟩ := e3.two
  exact bodyPost_ret (v := .agg #[.string x.n, (.slice (some ⟨w.heap.size + 1 + 1 + 1, 0, none⟩) x.fs.length x.fs.length)]) (by simp [results, Try.results49, go_sem, y0, y1]) rfl
    ⟨_, (by omega), o3.1, rfl, o3, b3⟩

set_option maxRecDepth 20000 in
set_option maxHeartbeats 4000000 in
theorem szpart_any (x : Pt) (fa : Option Addr) (fn fc : Nat) (L : Int) (w : World) (h : VRw 1 cvS w (.slice fa fn fc) x.fs) (hB : PBd x) (h0 : 0 ≤ L) (h1 : L ≤ 1048576) :
    Calls Try.prog 47 #[aP x (.slice fa fn fc), .int .i64 L] w fun e w' => e = .returned (.int .i64 (if L < ((x.n.size + szS x.fs : Nat) : Int) then -1 else L - ((x.n.size + szS x.fs : Nat) : Int))) ∧ Below w.heap.size w w' := by
  obtain ⟨R, hR⟩ : ∃ R : Int, R = if L < ((x.n.size + szS x.fs : Nat) : Int) then -1 else L - ((x.n.size + szS x.fs : Nat) : Int) := ⟨_, rfl⟩
  rw [← hR]
  have HR := hidden hR
  have hx : (x.n.size : Int) ≤ 9223372036854775807 := by have := hB.1; unfold maxLen at this; omega
  have hHT := fun W (hW : Below w.heap.size w W) => h.below hW
  have P0 := hidden (PB.new w #[.string x.n, .slice fa fn fc] 86)
  unfold aP
  by_cases hq : L - x.n.size < 0
  · have HV : Hid ((if L < ((x.n.size + szS x.fs : Nat) : Int) then (-1 : Int) else L - ((x.n.size + szS x.fs : Nat) : Int)) = -1) := by rw [Hid, if_pos (by omega)]
    clear hR hHT h
    go_enter Try.func47, Try.ntmps47
    go_wp2_with fail
    go_ret
    exact ⟨by have e := HR.out; rw [HV.out] at e; subst e; rfl, by repeat (first | exact Below.refl _ _ | assumption | refine st_drew ?_ | refine st_drewN ?_ _ | refine Below.setCell ?_ (by first | omega | (simp; done) | (simp; omega)) _ | refine Below.alloc ?_ (by first | omega | (simp; done) | (simp; omega)) _)⟩
  have hK := fun W hW => szstrs_any fa fn fc x.fs (L - x.n.size) W hW hB.2.1 hB.2.2 (by omega) (by omega)
  have HV : Hid (R = if L - x.n.size < (szS x.fs : Nat) then -1 else L - x.n.size - (szS x.fs : Nat)) := by
    rw [Hid, hR]
    split <;> split <;> omega
  have HT := hidden hHT
  have hneg : ∀ q : Int, (if L - x.n.size < (szS x.fs : Nat) then -1 else L - x.n.size - (szS x.fs : Nat)) = q → (q < 0 → q = -1) := fun q e hn => by
    rw [← e] at hn ⊢
    split at hn
    · rw [if_pos (by assumption)]
    · omega
  generalize (if L - x.n.size < (szS x.fs : Nat) then (-1 : Int) else L - x.n.size - (szS x.fs : Nat)) = r at *
  have hr := hneg r rfl
  clear hneg hR hHT h
  by_cases hr0 : r < 0
  · obtain rfl := hr hr0
    clear hr
    go_enter Try.func47, Try.ntmps47
    go_wp2_with (go_at_call 60; (with_reducible refine (hK _ (HT.out _ (by repeat (first | exact Below.refl _ _ | assumption | refine st_drew ?_ | refine st_drewN ?_ _ | refine Below.setCell ?_ (by first | omega | (simp; done) | (simp; omega)) _ | refine Below.alloc ?_ (by first | omega | (simp; done) | (simp; omega)) _)))).mono ?_); rintro e w1 ⟨rfl, rfl⟩)
    go_ret
    exact ⟨by have e := HV.out; subst e; rfl, by repeat (first | exact Below.refl _ _ | assumption | refine st_drew ?_ | refine st_drewN ?_ _ | refine Below.setCell ?_ (by first | omega | (simp; done) | (simp; omega)) _ | refine Below.alloc ?_ (by first | omega | (simp; done) | (simp; omega)) _)⟩
  · clear hr
    go_enter Try.func47, Try.ntmps47
    go_wp2_with (go_at_call 60; (with_reducible refine (hK _ (HT.out _ (by repeat (first | exact Below.refl _ _ | assumption | refine st_drew ?_ | refine st_drewN ?_ _ | refine Below.setCell ?_ (by first | omega | (simp; done) | (simp; omega)) _ | refine Below.alloc ?_ (by first | omega | (simp; done) | (simp; omega)) _)))).mono ?_); rintro e w1 ⟨rfl, rfl⟩)
    go_ret
    exact ⟨by have e := HV.out; subst e; rfl, by repeat (first | exact Below.refl _ _ | assumption | refine st_drew ?_ | refine st_drewN ?_ _ | refine Below.setCell ?_ (by first | omega | (simp; done) | (simp; omega)) _ | refine Below.alloc ?_ (by first | omega | (simp; done) | (simp; omega)) _)⟩

set_option maxRecDepth 20000 in
set_option maxHeartbeats 4000000 in
theorem eqpart_any (x : Pt) (a1 : Option Addr) (n1 c1 : Nat) (a2 : Option Addr) (n2 c2 : Nat) (w : World) (h : VRw 1 cvS w (.slice a1 n1 c1) x.fs) (h' : VRw 1 cvS w (.slice a2 n2 c2) x.fs) (hn : x.fs.length ≤ 1048576) :
    Calls Try.prog 52 #[aP x (.slice a1 n1 c1), aP x (.slice a2 n2 c2)] w fun e w' => e = .returned (.bool true) ∧ Below w.heap.size w w' := by
  have hK := fun W hW hW' => eqstrs_any a1 n1 c1 a2 n2 c2 x.fs W hW hW' hn
  have HA := hidden (fun W (hW : Below w.heap.size w W) => h.below hW)
  have HB := hidden (fun W (hW : Below w.heap.size w W) => h'.below hW)
  clear h h'
  unfold aP
  go_enter Try.func52, Try.ntmps52
  go_wp2_with (go_at_call 62; (with_reducible refine (hK _ (HA.out _ (by repeat (first | exact Below.refl _ _ | assumption | refine st_drew ?_ | refine st_drewN ?_ _ | refine Below.setCell ?_ (by first | omega | (simp; done) | (simp; omega)) _ | refine Below.alloc ?_ (by first | omega | (simp; done) | (simp; omega)) _))) (HB.out _ (by repeat (first | exact Below.refl _ _ | assumption | refine st_drew ?_ | refine st_drewN ?_ _ | refine Below.setCell ?_ (by first | omega | (simp; done) | (simp; omega)) _ | refine Below.alloc ?_ (by first | omega | (simp; done) | (simp; omega)) _)))).mono ?_); rintro e w1 ⟨rfl, hb1⟩; have bA := ontoT (show Below w.heap.size w _ from by repeat (first | exact Below.refl _ _ | assumption | refine st_drew ?_ | refine st_drewN ?_ _ | refine Below.setCell ?_ (by first | omega | (simp; done) | (simp; omega)) _ | refine Below.alloc ?_ (by first | omega | (simp; done) | (simp; omega)) _)) hb1)
  go_ret
  exact ⟨rfl, bA⟩
end Go.Proofs.Ytbabknhccapaoaa
