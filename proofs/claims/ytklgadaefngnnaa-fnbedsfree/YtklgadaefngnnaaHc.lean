/-
  Houses: the program's looks at one stay.
-/
import Derived.Test.YtklgadaefngnnaaHb
namespace Go.Proofs.Ytklgadaefngnnaa
open Go.RowKit Hm
set_option linter.unusedVariables false

theorem roomAt_nat {B : List Bd} {k : Nat} {b : Bd} (h : B[k]? = some b) : roomAt B (k : Int) = b.room := by
  unfold roomAt; rw [Int.toNat_natCast, List.getD_eq_getElem?_getD, h]; rfl
theorem kindAt_nat {B : List Bd} {k : Nat} {b : Bd} (h : B[k]? = some b) : kindAt B (k : Int) = b.kind := by
  unfold kindAt; rw [Int.toNat_natCast, List.getD_eq_getElem?_getD, h]; rfl
theorem bed_nat {B : List Bd} {x : Int} (h : inB B.length x = true) : ∃ (k : Nat) (b : Bd), x = (k : Int) ∧ B[k]? = some b := by
  rw [inB_iff] at h
  obtain ⟨k, rfl⟩ := Int.eq_ofNat_of_zero_le h.1
  obtain ⟨b, hb⟩ := some_at B k (by omega)
  exact ⟨k, b, rfl, hb⟩
theorem bcell {W w1 : World} (hb : Below W.heap.size W w1) : (∀ b o, b < W.heap.size → w1.cell? ⟨b, o, none⟩ = W.cell? ⟨b, o, none⟩) ∧ (∀ b o, b < W.heap.size → w1.frozen? ⟨b, o, none⟩ = W.frozen? ⟨b, o, none⟩) :=
  ⟨fun b o h => hb.cell (p := ⟨b, o, none⟩) h, fun b o h => hb.frozen (p := ⟨b, o, none⟩) h⟩
theorem old_cell {w : World} {g : Nat} (hg : g < w.heap.size) (o : Obj) (x : Nat) : (w.alloc o).cell? ⟨g, x, none⟩ = w.cell? ⟨g, x, none⟩ :=
  ((Below.refl w.heap.size w).alloc (Nat.le_refl _) o).cell (p := ⟨g, x, none⟩) hg
/-- An old cell, behind up to three new blocks. -/
theorem old_cells {w : World} {g : Nat} (hg : g < w.heap.size) : (∀ (a : Obj) (x : Nat), (w.alloc a).cell? ⟨g, x, none⟩ = w.cell? ⟨g, x, none⟩) ∧ (∀ (a b : Obj) (x : Nat), ((w.alloc a).alloc b).cell? ⟨g, x, none⟩ = w.cell? ⟨g, x, none⟩) ∧
    (∀ (a b c : Obj) (x : Nat), (((w.alloc a).alloc b).alloc c).cell? ⟨g, x, none⟩ = w.cell? ⟨g, x, none⟩) :=
  ⟨fun a x => old_cell hg a x, fun a b x => by rw [old_cell (by simp; omega), old_cell hg], fun a b c x => by rw [old_cell (by simp; omega), old_cell (by simp; omega), old_cell hg]⟩
/-- The two cells of a bed. -/
theorem bed_cells {w : World} {ao : Option Addr} {n cap : Nat} {B : List Bd} {k : Nat} {b : Bd} (h : Rw 2 csB w (.slice ao n cap) B) (hk : B[k]? = some b) :
    ∃ g off, ao = some ⟨g, off, none⟩ ∧ g < w.heap.size ∧ w.cell? ⟨g, off + k * 2, none⟩ = some (.int .i64 b.room) ∧ w.cell? ⟨g, off + k * 2 + 1, none⟩ = some (.int .i64 b.kind) := by
  obtain ⟨g, off, h1, h2, h3⟩ := h.at hk
  exact ⟨g, off, h1, h2, h3 0 (by omega), h3 1 (by omega)⟩
/-- The six cells of a stay. -/
theorem stay_cells {w : World} {ao : Option Addr} {n cap : Nat} {S : List St} {k : Nat} {s : St} (h : Rw 6 csS w (.slice ao n cap) S) (hk : S[k]? = some s) :
    ∃ g off, ao = some ⟨g, off, none⟩ ∧ g < w.heap.size ∧ w.cell? ⟨g, off + k * 6, none⟩ = some (.int .i64 s.person) ∧ w.cell? ⟨g, off + k * 6 + 1, none⟩ = some (.int .i64 s.sex) ∧
      w.cell? ⟨g, off + k * 6 + 2, none⟩ = some (.int .i64 s.need) ∧ w.cell? ⟨g, off + k * 6 + 3, none⟩ = some (.int .i64 s.bed) ∧
      w.cell? ⟨g, off + k * 6 + 4, none⟩ = some (.int .i64 s.frm) ∧ w.cell? ⟨g, off + k * 6 + 5, none⟩ = some (.int .i64 s.til) := by
  obtain ⟨g, off, h1, h2, h3⟩ := h.at hk
  exact ⟨g, off, h1, h2, h3 0 (by omega), h3 1 (by omega), h3 2 (by omega), h3 3 (by omega), h3 4 (by omega), h3 5 (by omega)⟩

set_option maxRecDepth 20000 in
set_option maxHeartbeats 400000 in
theorem roomof_any (ao ao2 : Option Addr) (n m cap cap2 : Nat) (B : List Bd) (s : St) (w : World) (h : Rw 2 csB w (.slice ao n cap) B) (hs : inB B.length s.bed = true) :
    Calls Try.prog 90 #[.agg #[.slice ao n cap, .slice ao2 m cap2], aS s] w fun e w' => e = .returned (.agg #[.int .i64 (roomAt B s.bed), .int .i64 s.sex]) ∧ Below w.heap.size w w' := by
  obtain ⟨k, b, hk, hb⟩ := bed_nat hs
  obtain ⟨g, off, rfl, hg, c0, c1⟩ := bed_cells h hb
  obtain rfl := h.len
  have hlt : (k : Int) < (B.length : Int) := by have := get_lt hb; omega
  have HR := hidden (roomAt_nat hb)
  obtain ⟨o1, o2, o3⟩ := old_cells hg
  unfold aS
  rw [hk, HR.out]
  clear h hs hb hk
  go_enter Try.func90, Try.ntmps90
  go_wp2
  go_region
  all_goals go_wp2
  all_goals exact bodyPost_ret (v := .agg #[.int .i64 b.room, .int .i64 s.sex]) (by simp [results, Try.results90, go_sem]) rfl ⟨rfl, by repeat (first | exact Below.refl _ _ | assumption | refine st_drew ?_ | refine st_drewN ?_ _ | refine Below.setCell ?_ (by first | omega | (simp; done) | (simp; omega)) _ | refine Below.alloc ?_ (by first | omega | (simp; done) | (simp; omega)) _)⟩

set_option maxRecDepth 20000 in
set_option maxHeartbeats 1000000 in
theorem stayok_any (ao ao2 : Option Addr) (n m cap cap2 : Nat) (s : St) (w : World) :
    Calls Try.prog 85 #[.agg #[.slice ao n cap, .slice ao2 m cap2], aS s] w fun e w' => e = .returned (.bool (stOk n s)) ∧ Below w.heap.size w w' := by
  have h1 := iper_any s.person
  have h2 := isex_any s.sex
  have h3 := ikind_any s.need
  have h4 := fun w => hasbed_any ao ao2 n cap m cap2 s.bed w
  have h5 := itime_any s.frm
  have h6 := itime_any s.til
  unfold stOk toOk aS
  generalize pers s.person = t1 at *
  generalize sx s.sex = t2 at *
  generalize kd s.need = t3 at *
  generalize inB n s.bed = t4 at *
  generalize tm s.frm = t5 at *
  generalize tm s.til = t6 at *
  go_enter Try.func85, Try.ntmps85
  go_wp2_with (first | (go_at_call 107; refine (h1 _).mono ?_; rintro e w1 ⟨rfl, rfl⟩) | (go_at_call 51; refine (h2 _).mono ?_; rintro e w1 ⟨rfl, rfl⟩) | (go_at_call 52; refine (h3 _).mono ?_; rintro e w1 ⟨rfl, rfl⟩) | (go_at_call 106; refine (h4 _).mono ?_; rintro e w1 ⟨rfl, hb1⟩; obtain ⟨hc, hf⟩ := bcell hb1; have bA := (((Below.refl w.heap.size w).alloc (Nat.le_refl _) _).alloc (by simp) _).trans (hb1.mono (by simp; omega))) | (go_at_call 108; first | (refine (h5 _).mono ?_; rintro e w1 ⟨rfl, rfl⟩) | (refine (h6 _).mono ?_; rintro e w1 ⟨rfl, rfl⟩)))
  all_goals (go_ret; exact ⟨ret_bool (by first | (simp; done) | (simp; omega) | (simp_all; done) | (simp_all; omega) | (rw [Bool.eq_iff_iff]; simp; omega) | (rw [Bool.eq_iff_iff]; simp_all; omega)), by repeat (first | exact Below.refl _ _ | assumption | refine st_drew ?_ | refine st_drewN ?_ _ | refine Below.setCell ?_ (by first | omega | (simp; done) | (simp; omega)) _ | refine Below.alloc ?_ (by first | omega | (simp; done) | (simp; omega)) _)⟩)

end Go.Proofs.Ytklgadaefngnnaa
