/-
  The program: what is held by facts and laws.
-/
import Derived.Test.YtfhecdedanlmfaaR5
import Derived.Great.Walk
namespace Go.Proofs.Ytfhecdedanlmfaa
open Go.RowKit Va Rc
set_option linter.all false

/-- Nothing but block g has turned. -/
structure Only (g : Nat) (w w' : World) : Prop where
  os : w'.os = w.os
  tape : w'.tape = w.tape
  output : w'.output = w.output
  size : w'.heap.size = w.heap.size
  block : ∀ b, b ≠ g → w'.heap[b]? = w.heap[b]?
theorem Only.below {g n : Nat} {w0 w w' : World} (h : Only g w w') (hb : Below n w0 w) (hl : n ≤ g) : Below n w0 w' :=
  ⟨h.os.trans hb.os, h.tape.trans hb.tape, h.output.trans hb.output, by rw [h.size]; exact hb.size, fun k hk => (h.block k (by omega)).trans (hb.block k hk)⟩
theorem Only.pb {g B : Nat} {w w' : World} {vs : Array Value} {t : TypeId} (h : Only g w w') (hp : PB w B vs t) (hB : B ≠ g) : PB w' B vs t := (h.block B hB).trans hp
theorem only_row (w : World) (g : Nat) (cs : Array Value) : Only g w (w.setRow g cs) := ⟨rfl, rfl, rfl, by simp, fun b hb => setRow_other _ _ _ _ hb⟩
theorem only_cell (w : World) (g j : Nat) (v : Value) : Only g w (w.setCell ⟨g, j, none⟩ v) := by
  have hb := (Below.refl g w).setCell (p := ⟨g, j, none⟩) (Nat.le_refl _) v
  exact ⟨hb.os, hb.tape, hb.output, by simp [World.setCell], fun c hc => Below.heap_setCell _ _ _ _ hc⟩

def zeroA : Array Value := Array.replicate 64 (.bool false)
theorem zeroA_set : SetA zeroA (fun _ => false) := ⟨by simp [zeroA], fun j hj => by simp [zeroA, hj]⟩
theorem zeroF (W : World) : (zeroValue 42).run Try.prog W = .ok (.agg zeroA) W := by kernel_rfl
theorem builtF : Try.prog.built 42 [] = some zeroA := by kernel_rfl
theorem SetA.one {A : Array Value} {S : Nat → Bool} (h : SetA A S) : A.all (·.oneCell') = true := by
  rw [Array.all_eq_true]
  intro i hi
  have := h.at' i (by have := h.sz; omega)
  rw [Array.getElem?_eq_getElem hi] at this
  rw [Option.some.inj this]
  rfl
theorem SetA.set {A : Array Value} {S S' : Nat → Bool} (h : SetA A S) (k : Nat) (hk : k < 64) (hS : ∀ j, j < 64 → S' j = (decide (j = k) || S j)) : SetA (A.setIfInBounds k (.bool true)) S' := by
  refine ⟨by simp [h.sz], fun j hj => ?_⟩
  rw [hS j hj]
  by_cases e : k = j
  · subst e
    rw [Array.getElem?_setIfInBounds_self_of_lt (by rw [h.sz]; exact hk)]
    simp
  · rw [Array.getElem?_setIfInBounds_ne e, h.at' j hj]
    have : ¬ j = k := fun q => e q.symm
    simp [this]
theorem SetA.cong {A : Array Value} {S S' : Nat → Bool} (h : SetA A S) (hS : ∀ j, j < 64 → S' j = S j) : SetA A S' := ⟨h.sz, fun j hj => by rw [hS j hj]; exact h.at' j hj⟩

/-- A set's box. -/
theorem allocS {ops : Array Oper} {rest : List Oper} {o : Oper} {a : Act} {w : World} {Q : Exit → Act → World → Prop} (ho : o.op = .alloc 42) (hg : o.guard = none) (dst : Option Tmp) (hd : o.dst = dst) (N : Nat) (hN : w.heap.size = N)
    (h : wpList Try.prog ops Q rest (a.put dst (.pointer (some ⟨N, 0, none⟩))) (w.alloc (.cells zeroA 42))) : wpList Try.prog ops Q (o :: rest) a w := by
  obtain ⟨od, oop, ot, op, oa, og⟩ := o
  subst ho hN
  refine Great.wpList_allocTo hg dst hd _ _ ?_ h
  show (do let v ← Instr.alloc 42 true undef; pure (Next.value v) : Sem Next).run Try.prog w = _
  simp only [Instr.alloc, Sem.run_bind, zeroF, Result.andThen_ok, newVar, newRow, Value.cells, run_newObj_alloc, Sem.run_pure]
theorem buildS {ops : Array Oper} {rest : List Oper} {o : Oper} {a : Act} {w : World} {Q : Exit → Act → World → Prop} (ho : o.op = .build 42 #[]) (hg : o.guard = none) (dst : Option Tmp) (hd : o.dst = dst)
    (h : wpList Try.prog ops Q rest (a.put dst (.agg zeroA)) w) : wpList Try.prog ops Q (o :: rest) a w :=
  wpList_buildTo hg _ _ ho dst hd zeroA (by simpa using builtF) h
theorem storeS {ops : Array Oper} {rest : List Oper} {o : Oper} {a : Act} {w : World} {Q : Exit → Act → World → Prop} {x y : Operand} {g : Nat} {A old : Array Value} {S : Nat → Bool} (ho : o.op = .store 42 x y) (hg : o.guard = none) (hd : o.dst = none) (hx : a.eval x = .pointer (some ⟨g, 0, none⟩)) (hy : a.eval y = .agg A)
    (hA : SetA A S) (hp : PB w g old 42) (ho' : old.size = 64)
    (h : ∀ w', Only g w w' → PB w' g A 42 → wpList Try.prog ops Q rest a w') : wpList Try.prog ops Q (o :: rest) a w :=
  wpList_store_rowTo hg _ x y ho hd g A hx hy _ old hp (by rw [hA.sz]; exact sizeF) (by rw [hA.sz]; exact ho') hA.one (h _ (only_row _ _ _) (setRow_heap _ _ _ _ _ _ hp))

/-- What holds in the end. -/
def endS (fs : List Int) (ls : List Lw) : Nat → Bool := if okB fs ls then heldTo fs ls 64 else fun _ => false

set_option maxRecDepth 20000 in
set_option maxHeartbeats 8000000 in
theorem iheld_any (ao : Option Addr) (n cap : Nat) (bo : Option Addr) (m cap' : Nat) (fs : List Int) (ls : List Lw) (w : World) (h : IRw w (.slice ao n cap) fs) (h' : LRw w (.slice bo m cap') ls) (hn : fs.length ≤ 1048576) (hm : ls.length ≤ 1048576) (ht : ∀ x ∈ ls, x.ifs.length ≤ 1048576 ∧ x.nots.length ≤ 1048576) :
    Calls Try.prog 19 #[.slice ao n cap, .slice bo m cap'] w fun e w' => ∃ A, e = .returned (.agg A) ∧ SetA A (endS fs ls) ∧ Below w.heap.size w w' := by
  obtain rfl := h.len
  obtain rfl := h'.len
  have HF := hidden (fun W (hW : Below w.heap.size w W) => h.below hW)
  have HL := hidden (fun W (hW : Below w.heap.size w W) => h'.below hW)
  have k1 := fun W hW => ifacts_any ao fs.length cap fs W hW hn
  have k2 := fun W hW => ilaws_any bo ls.length cap' ls W hW hm ht
  clear h h' ht hn hm
  have p4 := (PB.new w zeroA 42).alloc (.cells zeroA 42)
  have p5 := PB.new (w.alloc (.cells zeroA 42)) zeroA 42
  have b1 : Below w.heap.size w ((w.alloc (.cells zeroA 42)).alloc (.cells zeroA 42)) := by repeat (first | exact Below.refl _ _ | assumption | refine st_drew ?_ | refine st_drewN ?_ _ | refine Below.setCell ?_ (by first | omega | (simp; done) | (simp; omega)) _ | refine Below.alloc ?_ (by first | omega | (simp; done) | (simp; omega)) _)
  simp only [World.size_alloc] at p5
  have P4 := hidden p4
  have P5 := hidden p5
  have B1 := hidden b1
  clear p4 p5 b1
  cases hf : factsB fs with
  | false =>
    have HE : Hid (endS fs ls = fun _ => false) := by unfold endS okB; rw [hf]; rfl
    rw [hf] at k1
    clear hf
    go_enter Try.func19, Try.ntmps19
    go_wp2_with (first | (refine allocS rfl rfl (some 4) rfl w.heap.size rfl ?_) | (refine allocS rfl rfl (some 5) rfl (w.heap.size + 1) (by simp) ?_) | (refine buildS rfl rfl _ rfl ?_) | (refine storeS (g := w.heap.size + 1) (x := .tmp 5) (y := .tmp 9) rfl rfl rfl rfl rfl zeroA_set P5.out (by simp [zeroA]) ?_; intro w1 ho1 hp1; have q4 := hidden (ho1.pb P4.out (by omega)); have q5 := hidden hp1; have hb := ho1.below B1.out (by omega); have hsz1 : w.heap.size + 2 ≤ w1.heap.size := (by rw [ho1.size]; simp); clear ho1 hp1) | (go_at_call 28; with_reducible refine (k1 _ (HF.out _ hb)).mono ?_; rintro e w2 ⟨rfl, e2⟩; obtain rfl := e2) | (refine loadS (x := .tmp 5) (g := w.heap.size + 1) (A := zeroA) rfl rfl rfl zeroA_set q5.out ?_) | (refine storeS (g := w.heap.size) (x := .tmp 4) (A := zeroA) rfl rfl rfl rfl rfl zeroA_set q4.out (by simp [zeroA]) ?_; intro w9 ho9 hp9; have HP := hidden hp9; have HB := hidden (ho9.below hb (Nat.le_refl _)); clear ho9 hp9))
    exact bodyPost_ret (v := .agg zeroA) (results_cell_row Try.results19 _ _ w.heap.size 42 zeroA (0, 0) _ rfl HP.out Try.underlying42 rfl (by kernel_rfl)) rfl ⟨zeroA, rfl, (by rw [HE.out]; exact zeroA_set), HB.out⟩
  | true =>
  cases hl : lawsB ls with
  | false =>
    have HE : Hid (endS fs ls = fun _ => false) := by unfold endS okB; rw [hf, hl]; rfl
    rw [hf] at k1
    rw [hl] at k2
    clear hf hl
    go_enter Try.func19, Try.ntmps19
    go_wp2_with (first | (refine allocS rfl rfl (some 4) rfl w.heap.size rfl ?_) | (refine allocS rfl rfl (some 5) rfl (w.heap.size + 1) (by simp) ?_) | (refine buildS rfl rfl _ rfl ?_) | (refine storeS (g := w.heap.size + 1) (x := .tmp 5) (y := .tmp 9) rfl rfl rfl rfl rfl zeroA_set P5.out (by simp [zeroA]) ?_; intro w1 ho1 hp1; have q4 := hidden (ho1.pb P4.out (by omega)); have q5 := hidden hp1; have hb := ho1.below B1.out (by omega); have hsz1 : w.heap.size + 2 ≤ w1.heap.size := (by rw [ho1.size]; simp); clear ho1 hp1) | (go_at_call 28; with_reducible refine (k1 _ (HF.out _ hb)).mono ?_; rintro e w2 ⟨rfl, e2⟩; obtain rfl := e2) | (go_at_call 29; with_reducible refine (k2 _ (HL.out _ hb)).mono ?_; rintro e w3 ⟨rfl, hb3⟩; have r4 := hidden (q4.out.below hb3); have r5 := hidden (q5.out.below hb3); have b3 := onto hb hb3; have hsz3 : w.heap.size + 2 ≤ w3.heap.size := (by have := hb3.size; omega); clear hb3) | (refine loadS (x := .tmp 5) (g := w.heap.size + 1) (A := zeroA) rfl rfl rfl zeroA_set r5.out ?_) | (refine storeS (g := w.heap.size) (x := .tmp 4) (A := zeroA) rfl rfl rfl rfl rfl zeroA_set r4.out (by simp [zeroA]) ?_; intro w9 ho9 hp9; have HP := hidden hp9; have HB := hidden (ho9.below b3 (Nat.le_refl _)); clear ho9 hp9))
    exact bodyPost_ret (v := .agg zeroA) (results_cell_row Try.results19 _ _ w.heap.size 42 zeroA (0, 0) _ rfl HP.out Try.underlying42 rfl (by kernel_rfl)) rfl ⟨zeroA, rfl, (by rw [HE.out]; exact zeroA_set), HB.out⟩
  | true =>
    have HE : Hid (endS fs ls = heldTo fs ls 64) := by unfold endS okB; rw [hf, hl]; rfl
    have hfs : fs.length ≤ 64 ∧ ∀ x ∈ fs, 0 ≤ x ∧ x < 64 := by unfold factsB factB at hf; simp at hf; exact hf
    have HFS := hidden hfs.2
    have HLS := hidden hl
    have hla : ls.all lawB = true := by unfold lawsB at hl; simp at hl; simpa using hl.2
    have HLA := hidden hla
    have hf64 := hfs.1
    rw [hf] at k1
    rw [hl] at k2
    clear hf hl hfs hla
    go_enter Try.func19, Try.ntmps19
    go_wp2_with (first | (refine allocS rfl rfl (some 4) rfl w.heap.size rfl ?_) | (refine allocS rfl rfl (some 5) rfl (w.heap.size + 1) (by simp) ?_) | (refine buildS rfl rfl _ rfl ?_) | (refine storeS (g := w.heap.size + 1) (x := .tmp 5) (y := .tmp 9) rfl rfl rfl rfl rfl zeroA_set P5.out (by simp [zeroA]) ?_; intro w1 ho1 hp1; have q4 := hidden (ho1.pb P4.out (by omega)); have q5 := hidden hp1; have hb := ho1.below B1.out (by omega); have hsz1 : w.heap.size + 2 ≤ w1.heap.size := (by rw [ho1.size]; simp); clear ho1 hp1) | (go_at_call 28; with_reducible refine (k1 _ (HF.out _ hb)).mono ?_; rintro e w2 ⟨rfl, e2⟩; obtain rfl := e2) | (go_at_call 29; with_reducible refine (k2 _ (HL.out _ hb)).mono ?_; rintro e w3 ⟨rfl, hb3⟩; have r4 := hidden (q4.out.below hb3); have r5 := hidden (q5.out.below hb3); have b3 := onto hb hb3; have hsz3 : w.heap.size + 2 ≤ w3.heap.size := (by have := hb3.size; omega); clear hb3))
    clear q4 q5 hb hsz1
    go_loopw [7, 21] (fun _ iv wr => ∃ (i : Nat) (A : Array Value), i ≤ fs.length ∧ iv = .int .i64 i ∧ Below w.heap.size w wr ∧ w.heap.size + 2 ≤ wr.heap.size ∧ Hid (PB wr w.heap.size zeroA 42) ∧ Hid (PB wr (w.heap.size + 1) A 42) ∧ Hid (SetA A (fun j => hasB (fs.take i) (j : Int)))) (fun _ iv _ => fs.length - (intOf iv).toNat)
    case atStart => exact ⟨0, zeroA, Nat.zero_le _, rfl, b3, hsz3, r4, r5, zeroA_set.cong (fun j hj => by simp [hasB])⟩
    case round =>
      obtain ⟨i, A, hi, rfl, hb, hsz, q4, q5, HA⟩ := hrel
      by_cases hlt : i < fs.length
      · have hlti : (i : Int) < (fs.length : Int) := by omega
        obtain ⟨y, hy⟩ := some_of fs i hlt
        obtain ⟨hy0, hy1⟩ := HFS.out y (List.mem_of_getElem? hy)
        obtain ⟨g, off, rfl, hg, hc⟩ := (HF.out _ hb).at hy
        obtain ⟨k, rfl⟩ := Int.eq_ofNat_of_zero_le hy0
        have c0 := hc i _ hy
        have hk64 : k < 64 := by omega
        have d0 := (q5.out.cell k).trans (HA.out.at' k hk64)
        have f0 := q5.out.frozen k
        have HN : Hid (SetA (A.setIfInBounds k (.bool true)) (fun j => hasB (fs.take (i + 1)) (j : Int))) := HA.out.set k hk64 (fun j hj => by
          rw [take_snocQ hy]; unfold hasB; rw [List.any_append]
          by_cases q : j = k
          · subst q; simp
          · have q2 : ¬ (k : Int) = (j : Int) := by omega
            simp [q, q2])
        have n5 := hidden (q5.out.set k (.bool true))
        have n4 := hidden (q4.out.far (b := w.heap.size + 1) (by omega) k (.bool true))
        have nb := hb.setCell (p := ⟨w.heap.size + 1, k, none⟩) (by show w.heap.size ≤ w.heap.size + 1; omega) (.bool true)
        have nz : w.heap.size + 2 ≤ (wr.setCell ⟨w.heap.size + 1, k, none⟩ (.bool true)).heap.size := by simpa [World.setCell] using hsz
        clear hy hc hy0
        go_wp2_with fail
        go_roundw
        case rel => exact ⟨i + 1, _, by omega, rfl, nb, nz, n4, n5, HN⟩
        case measure => simp [intOf]; omega
      · have hlti : ¬ (i : Int) < (fs.length : Int) := by omega
        have hil : i = fs.length := by omega
        subst hil
        have HA0 : Hid (SetA A (heldTo fs ls 0)) := HA.out.cong (fun j hj => by unfold heldTo; simp)
        clear HA hlt hlti hi
        go_wp2_with fail
        go_loopw [8, 28] (fun _ iv wr => ∃ (i : Nat) (A : Array Value), i ≤ 64 ∧ iv = .int .i64 i ∧ Below w.heap.size w wr ∧ w.heap.size + 2 ≤ wr.heap.size ∧ Hid (PB wr w.heap.size zeroA 42) ∧ Hid (PB wr (w.heap.size + 1) A 42) ∧ Hid (SetA A (heldTo fs ls i))) (fun _ iv _ => 64 - (intOf iv).toNat)
        case atStart => exact ⟨0, A, Nat.zero_le _, rfl, hb, hsz, q4, q5, HA0⟩
        case round =>
          clear HA0 q4 q5 hb hsz
          obtain ⟨i, A, hi, rfl, hb, hsz, q4, q5, HA⟩ := hrel
          by_cases hlt : i < 64
          · have hlti : (i : Int) < 64 := by omega
            have k3 := ifirstlaw_any bo ls.length cap' ls (i : Int) A (heldTo fs ls i) wr (HL.out _ hb) HLS.out HA.out
            have HS := hidden (fun x => held_succ fs ls i x HLA.out)
            have hF0 := firstB_low (setB (heldTo fs ls i) (i : Int)) ls
            generalize hF : firstB (setB (heldTo fs ls i) (i : Int)) ls = F at *
            clear hF
            by_cases hq : F ≥ 0
            · have HS2 : Hid (∀ x, heldTo fs ls (i + 1) x = if x = i then true else heldTo fs ls i x) := fun x => by rw [HS.out x, decide_eq_true (show 0 ≤ F from hq)]; simp
              clear HS
              go_wp2_with (first | (refine loadS (x := .tmp 5) (g := w.heap.size + 1) (A := A) rfl rfl rfl HA.out q5.out ?_) | (go_at_call 24; with_reducible refine k3.mono ?_; rintro e w4 ⟨rfl, hb4⟩; have n5 := q5.out.below hb4; have d0 := (n5.cell i).trans (HA.out.at' i hlt); have f0 := n5.frozen i; have m5 := hidden (n5.set i (.bool true)); have m4 := hidden ((q4.out.below hb4).far (b := w.heap.size + 1) (by omega) i (.bool true)); have nb := (onto hb hb4).setCell (p := ⟨w.heap.size + 1, i, none⟩) (by show w.heap.size ≤ w.heap.size + 1; omega) (.bool true); have nz : w.heap.size + 2 ≤ (w4.setCell ⟨w.heap.size + 1, i, none⟩ (.bool true)).heap.size := (by have := hb4.size; simp [World.setCell]; omega); clear hb4 n5))
              go_roundw
              case rel => exact ⟨i + 1, _, by omega, rfl, nb, nz, m4, m5, HA.out.set i hlt (fun j hj => by rw [HS2.out j]; by_cases q : j = i <;> simp [q])⟩
              case measure => simp [intOf]; omega
            · have HS2 : Hid (∀ x, heldTo fs ls (i + 1) x = heldTo fs ls i x) := fun x => by
                rw [HS.out x, decide_eq_false (show ¬ 0 ≤ F from hq)]
                by_cases q : x = i
                · subst q; simp
                · simp [q]
              clear HS
              go_wp2_with (first | (refine loadS (x := .tmp 5) (g := w.heap.size + 1) (A := A) rfl rfl rfl HA.out q5.out ?_) | (go_at_call 24; with_reducible refine k3.mono ?_; rintro e w4 ⟨rfl, hb4⟩; have m5 := hidden (q5.out.below hb4); have m4 := hidden (q4.out.below hb4); have nb := onto hb hb4; have nz : w.heap.size + 2 ≤ w4.heap.size := (by have := hb4.size; omega); clear hb4))
              go_roundw
              case rel => exact ⟨i + 1, _, by omega, rfl, nb, nz, m4, m5, HA.out.cong (fun j hj => HS2.out j)⟩
              case measure => simp [intOf]; omega
          · have hlti : ¬ (i : Int) < 64 := by omega
            have hil : i = 64 := by omega
            subst hil
            go_wp2_with (first | (refine loadS (x := .tmp 5) (g := w.heap.size + 1) (A := A) rfl rfl rfl HA.out q5.out ?_) | (refine storeS (g := w.heap.size) (x := .tmp 4) (A := A) rfl rfl rfl rfl rfl HA.out q4.out (by simp [zeroA]) ?_; intro w9 ho9 hp9; have HP := hidden hp9; have HB := hidden (ho9.below hb (Nat.le_refl _)); clear ho9 hp9))
            exact bodyPost_ret (v := .agg A) (results_cell_row Try.results19 _ _ w.heap.size 42 A (0, 0) _ rfl HP.out Try.underlying42 rfl (by rw [HA.out.sz]; exact sizeF)) rfl ⟨A, rfl, (by rw [HE.out]; exact HA.out), HB.out⟩
end Go.Proofs.Ytfhecdedanlmfaa
