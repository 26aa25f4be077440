/-
  The program: the first law by which a fact holds.
-/
import Derived.Test.YtfhecdedanlmfaaR4
namespace Go.Proofs.Ytfhecdedanlmfaa
open Go.RowKit Va Rc
set_option linter.all false

theorem not_any_lacks (S : Nat → Bool) (l : List Int) : (!(l.any fun x => !S x.toNat)) = l.all (fun x => S x.toNat) := by
  rw [List.not_any_eq_all_not]; congr 1; funext x; simp
theorem not_any_has (S : Nat → Bool) (l : List Int) : (!(l.any fun x => S x.toNat)) = l.all (fun x => !S x.toNat) := by
  rw [List.not_any_eq_all_not]
theorem sizeF : (Try.prog.info? 42).map (·.size) = some 64 := by kernel_rfl
/-- A whole set, loaded. -/
theorem loadS {ops : Array Oper} {rest : List Oper} {o : Oper} {a : Act} {w : World} {Q : Exit → Act → World → Prop} {x : Operand} {g : Nat} {A : Array Value} {S : Nat → Bool} (ho : o.op = .load 42 x) (hw : Region.wanted o (yielded ops a.tmps) = true) (hx : a.eval x = .pointer (some ⟨g, 0, none⟩)) (hA : SetA A S) (hp : PB w g A 42)
    (h : wpList Try.prog ops Q rest (a.put o.dst (.agg A)) w) : wpList Try.prog ops Q (o :: rest) a w :=
  BigFrame.wpList_want hw fun K hK => wp_load_row _ x ho g hx _ A (0, 0) _ hp Try.underlying42 rfl (by rw [hA.sz]; exact sizeF) (hK _ _ h)

set_option maxRecDepth 20000 in
set_option maxHeartbeats 4000000 in
theorem iclo_any (x : Lw) (f : Int) (A : Array Value) (S : Nat → Bool) (B3 B5 : Nat) (ta : Option Addr) (tn tc : Nat) (ua : Option Addr) (un uc : Nat) (w : World) (h1 : IRw w (.slice ta tn tc) x.ifs) (h2 : IRw w (.slice ua un uc) x.nots) (hx : lawB x = true) (hA : SetA A S) (p3 : PB w B3 A 42) (p5 : PB w B5 #[.int .i64 f] 2) :
    Calls Try.prog 35 #[aL x (.slice ta tn tc) (.slice ua un uc), .pointer (some ⟨B5, 0, none⟩), .pointer (some ⟨B3, 0, none⟩)] w fun e w' => e = .returned (.bool (setB S f x)) ∧ Below w.heap.size w w' := by
  obtain ⟨⟨hl1, hl2⟩, ⟨hl3, hl4⟩, hl5, hl6⟩ := law_parts hx
  have k1 := fun W hW => icontfL_any (.agg A) (fun y => !S y.toNat) W ta tn tc x.ifs (fun y hy W' _ => ilacks_any A S y W' hA (hl5 y hy).1 (by have := hl5 y hy; omega)) hW (by omega)
  have k2 := fun W hW => icontfH_any (.agg A) (fun y => S y.toNat) W ua un uc x.nots (fun y hy W' _ => ihasS_any A S y W' hA (hl6 y hy).1 (by have := hl6 y hy; omega)) hW (by omega)
  have HA := hidden (fun W (hW : Below w.heap.size w W) => h1.below hW)
  have HB := hidden (fun W (hW : Below w.heap.size w W) => h2.below hW)
  have P0 := hidden (PB.new w #[.slice ta tn tc, .slice ua un uc, .int .i64 x.thn] 31)
  have P3 := hidden (p3.alloc (.cells #[.slice ta tn tc, .slice ua un uc, .int .i64 x.thn] 31))
  have HS := hidden hA
  have c5 := (p5.alloc (.cells #[.slice ta tn tc, .slice ua un uc, .int .i64 x.thn] 31)).cell 0
  have HF : Hid (setB S f x = (decide (x.thn = f) && ((!(x.ifs.any fun y => !S y.toNat)) && (!(x.nots.any fun y => S y.toNat))))) := by unfold setB; rw [not_any_lacks, not_any_has]; rfl
  clear h1 h2 hx hA p3 p5 hl1 hl2 hl3 hl4 hl5 hl6
  unfold aL at *
  simp only [List.getElem?_toArray, List.getElem?_cons_zero] at c5
  generalize setB S f x = rr at *
  generalize (x.ifs.any fun y => !S y.toNat) = b1 at *
  generalize (x.nots.any fun y => S y.toNat) = b2 at *
  by_cases e : x.thn = f
  · subst e
    cases b1
    · go_enter Try.func35, Try.ntmps35
      go_wp2_with (first | (refine loadS (x := .tmp 2) (g := B3) (A := A) (S := S) rfl rfl rfl HS.out (by first | exact P3.out | exact HQ.out) ?_) | (go_at_call 36; with_reducible refine (k1 _ (HA.out _ (by repeat (first | exact Below.refl _ _ | assumption | refine st_drew ?_ | refine st_drewN ?_ _ | refine Below.setCell ?_ (by first | omega | (simp; done) | (simp; omega)) _ | refine Below.alloc ?_ (by first | omega | (simp; done) | (simp; omega)) _)))).mono ?_; rintro e w1 ⟨rfl, hb1⟩; obtain ⟨p0, p1, p2⟩ := (P0.out.below hb1).three; have HQ := hidden (P3.out.below hb1); have bA := onto (show Below w.heap.size w _ from by repeat (first | exact Below.refl _ _ | assumption | refine st_drew ?_ | refine st_drewN ?_ _ | refine Below.setCell ?_ (by first | omega | (simp; done) | (simp; omega)) _ | refine Below.alloc ?_ (by first | omega | (simp; done) | (simp; omega)) _)) hb1; clear hb1) | (go_at_call 36; with_reducible refine (k2 _ (HB.out _ bA)).mono ?_; rintro e w2 ⟨rfl, hb2⟩; have bB := onto bA hb2; clear hb2))
      go_ret
      exact ⟨ret_boolQ (by rw [HF.out]; simp), bB⟩
    · go_enter Try.func35, Try.ntmps35
      go_wp2_with (first | (refine loadS (x := .tmp 2) (g := B3) (A := A) (S := S) rfl rfl rfl HS.out (by first | exact P3.out | exact HQ.out) ?_) | (go_at_call 36; with_reducible refine (k1 _ (HA.out _ (by repeat (first | exact Below.refl _ _ | assumption | refine st_drew ?_ | refine st_drewN ?_ _ | refine Below.setCell ?_ (by first | omega | (simp; done) | (simp; omega)) _ | refine Below.alloc ?_ (by first | omega | (simp; done) | (simp; omega)) _)))).mono ?_; rintro e w1 ⟨rfl, hb1⟩; obtain ⟨p0, p1, p2⟩ := (P0.out.below hb1).three; have HQ := hidden (P3.out.below hb1); have bA := onto (show Below w.heap.size w _ from by repeat (first | exact Below.refl _ _ | assumption | refine st_drew ?_ | refine st_drewN ?_ _ | refine Below.setCell ?_ (by first | omega | (simp; done) | (simp; omega)) _ | refine Below.alloc ?_ (by first | omega | (simp; done) | (simp; omega)) _)) hb1; clear hb1))
      go_ret
      exact ⟨ret_boolQ (by rw [HF.out]; simp), bA⟩
  · go_enter Try.func35, Try.ntmps35
    go_wp2_with fail
    go_ret
    exact ⟨ret_boolQ (by rw [HF.out]; simp [e]), by repeat (first | exact Below.refl _ _ | assumption | refine st_drew ?_ | refine st_drewN ?_ _ | refine Below.setCell ?_ (by first | omega | (simp; done) | (simp; omega)) _ | refine Below.alloc ?_ (by first | omega | (simp; done) | (simp; omega)) _)⟩

set_option maxRecDepth 20000 in
set_option maxHeartbeats 4000000 in
theorem ifirstlaw_any (ao : Option Addr) (n cap : Nat) (l : List Lw) (f : Int) (A : Array Value) (S : Nat → Bool) (w : World) (h : LRw w (.slice ao n cap) l) (hx : lawsB l = true) (hA : SetA A S) :
    Calls Try.prog 24 #[.agg A, .slice ao n cap, .int .i64 f] w fun e w' => e = .returned (.int .i64 (firstB (setB S f) l)) ∧ Below w.heap.size w w' := by
  have hl200 : l.length ≤ 200 := by unfold lawsB at hx; simp at hx; exact hx.1
  have hall : ∀ y ∈ l, lawB y = true := by unfold lawsB at hx; simp at hx; exact hx.2
  have k1 : ∀ W B3 B5, LRw W (.slice ao n cap) l → PB W B3 A 42 → PB W B5 #[.int .i64 f] 2 → Calls Try.prog 34 #[.slice ao n cap, .func (.func 35) #[] #[.pointer (some ⟨B5, 0, none⟩), .pointer (some ⟨B3, 0, none⟩)]] W fun e w' => e = .returned (.int .i64 (firstB (setB S f) l)) ∧ Below W.heap.size W w' := by
    clear h
    intro w B3 B5 h p3 p5
    obtain rfl := h.len
    have HH := hidden h
    have P3 := hidden (fun W (hW : Below w.heap.size w W) => p3.below hW)
    have P5 := hidden (fun W (hW : Below w.heap.size w W) => p5.below hW)
    have HL := hidden hall
    clear h p3 p5 hall hx
    go_enter Try.func34, Try.ntmps34
    go_wp2_with fail
    go_loopw [5, 8] (fun _ iv wr => ∃ i : Nat, i ≤ l.length ∧ iv = .int .i64 i ∧ Below w.heap.size w wr ∧ Hid ((l.take i).any (setB S f) = false)) (fun _ iv _ => l.length - (intOf iv).toNat)
    case atStart => exact ⟨0, Nat.zero_le _, rfl, Below.refl _ _, rfl⟩
    case round =>
      obtain ⟨i, hi, rfl, hb, hok⟩ := hrel
      by_cases hlt : i < l.length
      · have hlti : (i : Int) < (l.length : Int) := by omega
        obtain ⟨y, hy⟩ := some_of l i hlt
        obtain ⟨g, off, ta, tc, ua, uc, rfl, hg, hr1, hr2, c0, c1, c2⟩ := (HH.out.below hb).at hy
        have HX := hidden hy
        have hK2 := iclo_any y f A S B3 B5 ta y.ifs.length tc ua y.nots.length uc wr hr1 hr2 (HL.out y (List.mem_of_getElem? hy)) hA (P3.out wr hb) (P5.out wr hb)
        unfold aL at hK2
        clear hy hr1 hr2
        cases hp : setB S f y with
        | true =>
          rw [hp] at hK2
          have HY : Hid (firstB (setB S f) l = (i : Int)) := firstB_here hok.out HX.out hp
          clear hp
          go_wp2_with (go_at_call 35; refine hK2.mono ?_; rintro e w1 ⟨rfl, hb1⟩; have bA := onto hb hb1; clear hb1)
          go_ret
          exact ⟨ret_intQ HY.out.symm, bA⟩
        | false =>
          rw [hp] at hK2
          have HZ : Hid ((l.take (i + 1)).any (setB S f) = false) := any_takeQ hok.out HX.out hp
          clear hp
          go_wp2_with (go_at_call 35; refine hK2.mono ?_; rintro e w1 ⟨rfl, hb1⟩; have bA := onto hb hb1; clear hb1)
          go_roundw
          case rel => exact ⟨i + 1, by omega, rfl, bA, HZ⟩
          case measure => simp [intOf]; omega
      · have hlti : ¬ (i : Int) < (l.length : Int) := by omega
        have hil : i = l.length := by omega
        subst hil
        go_wp2_with fail
        go_ret
        exact ⟨ret_intQ (by have := hok.out; rw [List.take_length] at this; rw [firstB_none this]), hb⟩
  have HH := hidden (fun W (hW : Below w.heap.size w W) => h.below hW)
  have P3 := hidden ((PB.new w A 42).alloc (.cells #[.int .i64 f] 2))
  have P5 := hidden (PB.new (w.alloc (.cells A 42)) #[.int .i64 f] 2)
  clear h hall hx
  simp only [World.size_alloc] at P5
  generalize firstB (setB S f) l = rr at *
  go_enter Try.func24, Try.ntmps24
  go_wp2_with (go_at_call 34; refine (k1 _ _ _ (HH.out _ (by repeat (first | exact Below.refl _ _ | assumption | refine st_drew ?_ | refine st_drewN ?_ _ | refine Below.setCell ?_ (by first | omega | (simp; done) | (simp; omega)) _ | refine Below.alloc ?_ (by first | omega | (simp; done) | (simp; omega)) _))) P3.out P5.out).mono ?_; rintro e w1 ⟨rfl, hb1⟩; have bA := onto (show Below w.heap.size w _ from by repeat (first | exact Below.refl _ _ | assumption | refine st_drew ?_ | refine st_drewN ?_ _ | refine Below.setCell ?_ (by first | omega | (simp; done) | (simp; omega)) _ | refine Below.alloc ?_ (by first | omega | (simp; done) | (simp; omega)) _)) hb1; clear hb1)
  go_ret
  exact ⟨rfl, bA⟩
end Go.Proofs.Ytfhecdedanlmfaa
