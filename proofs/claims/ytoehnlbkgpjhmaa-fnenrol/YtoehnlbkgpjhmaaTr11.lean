/-
  A Once, in one goroutine: Do, and the function that tells the order of a block.
-/
import Derived.Test.YtoehnlbkgpjhmaaTr10
namespace Go.Proofs.Ytoehnlbkgpjhmaa
open Go.RowKit Go.WideShapes Va Lb Tr Go.Maps
set_option linter.all false

/-- What Do, not yet done, leaves: the lock was taken and let go, the order laid, 'done' stored. -/
def DoneW (x : Tl) (b Bo Br : Nat) (w w' : World) : Prop :=
  ∃ w1 G, Below w.heap.size (w.setCell ⟨Bo, 1, none⟩ (.int .i32 1)) w1 ∧ w.heap.size ≤ G ∧ IR w1 G (blk x b) ∧
    w' = (((w1.setCell ⟨Br, 0, none⟩ (.slice (some ⟨G, 0, none⟩) x.b x.b)).drew.setCell ⟨Bo, 0, none⟩ (.int .u32 1)).setCell ⟨Bo, 1, none⟩ (.int .i32 0))

set_option maxRecDepth 100000 in
set_option maxHeartbeats 3200000 in
theorem oslow_any (x : Tl) (ta : Option Addr) (tc : Nat) (b Bo Bt Bb Br : Nat) (old s2 : Value) (w : World) (h : VRw 1 cvI w (.slice ta x.coins.length tc) x.coins) (ht : trialB x = true) (hbb : b ≤ 1000)
    (po : PB w Bo #[.int .u32 0, .int .i32 0, s2] 109)
    (pt : PB w Bt #[.int .i64 x.arms, .int .i64 x.block, .slice ta x.coins.length tc, .int .i64 x.told] 26) (pb : PB w Bb #[.int .i64 (b : Int)] 2) (pr : PB w Br #[old] 24)
    (n1 : Bo ≠ Bt) (n2 : Bo ≠ Bb) (n3 : Bo ≠ Br) (hco : VRw 1 cvI (w.setCell ⟨Bo, 1, none⟩ (.int .i32 1)) (.slice ta x.coins.length tc) x.coins) :
    Calls Try.prog 84 #[.pointer (some ⟨Bo, 0, none⟩), .func (.func 66) #[] #[.pointer (some ⟨Bt, 0, none⟩), .pointer (some ⟨Bb, 0, none⟩), .pointer (some ⟨Br, 0, none⟩)]] w fun e w' => e = .returned (.tuple #[]) ∧ DoneW x b Bo Br w w' := by
  have h0 : w.cell? ⟨Bo, 0, none⟩ = some (.int .u32 0) := po.cell 0
  have h1 : w.cell? ⟨Bo, 1, none⟩ = some (.int .i32 0) := po.cell 1
  have f1 := po.frozen 1
  have f0 := po.frozen 0
  have po1 := po.put 1 (.int .i32 1) (vs' := #[.int .u32 0, .int .i32 1, s2]) (by simp)
  have hC := hidden (oclo_any x ta tc b Bt Bb Br old _ hco ht hbb (pt.far n1 1 (.int .i32 1)) (pb.far n2 1 (.int .i32 1)) (pr.far n3 1 (.int .i32 1)))
  have hsz : (w.setCell ⟨Bo, 1, none⟩ (.int .i32 1)).heap.size = w.heap.size := by simp [World.setCell]
  have hl := run_call_load (P := Try.prog) Try.func96 (by kernel_rfl) (by kernel_rfl) (by kernel_rfl) .u32 (by kernel_rfl) (w := w.setCell ⟨Bo, 1, none⟩ (.int .i32 1)) (a := ⟨Bo, 0, none⟩) (x := 0) (po1.cell 0)
  have hnot : ∀ (x : Bool) (w : World), (Op.unary .not (.bool x)).run Try.prog w = .ok (.bool (!x)) w := fun _ _ => rfl
  have HPO := hidden po1
  have HN := hidden n3
  clear h hco pt pb pr po po1
  rw [hsz] at hC
  have HSZ := hidden hsz
  clear hsz n1 n2 n3
  go_enter_defers Try.func84, Try.ntmps84
  go_wp2_with (go_at_call 97; refine (on_lock ⟨Bo, 1, none⟩ _ (by go_simp) (by go_simp)).mono ?_; rintro e w' ⟨rfl, rfl⟩)
  go_wp2_with (first | (go_at_call 83; go_in) | (go_at_call 66; refine hC.out.mono ?_; rintro e w2 ⟨rfl, w1, G, hb1, hG, hir, rfl⟩; have HB := hidden hb1; have HI := hidden hir; clear hb1 hir) | fail)
  have hP1 := HPO.out.below (HSZ.out ▸ HB.out)
  have hP2 := hP1.far (fun e => HN.out e.symm) 0 (.slice (some ⟨G, 0, none⟩) x.b x.b)
  refine leaves_cons (f := 99) (args := #[.pointer (some ⟨Bo, 0, none⟩), .bool true]) (by simp) (by simp [go_sem]) ?_
  refine (on_store ⟨Bo, 0, none⟩ (.int .u32 0) .returning _ (hP2.cell 0) (hP2.frozen 0)).mono ?_
  rintro e u' w'' ⟨rfl, rfl, rfl⟩
  have hP3 : PB ((w1.setCell ⟨Br, 0, none⟩ (.slice (some ⟨G, 0, none⟩) x.b x.b)).drew.setCell ⟨Bo, 0, none⟩ (.int .u32 1)) Bo #[.int .u32 1, .int .i32 1, s2] 109 := PB.put (W := (w1.setCell ⟨Br, 0, none⟩ (.slice (some ⟨G, 0, none⟩) x.b x.b)).drew) hP2 0 (.int .u32 1) (by simp)
  refine leaves_cons (f := 98) (args := #[.pointer (some ⟨Bo, 1, none⟩)]) (by simp [settle]) (by simp [go_sem]) ?_
  refine (on_unlock ⟨Bo, 1, none⟩ _ _ (hP3.cell 1) (hP3.frozen 1)).mono ?_
  rintro e u' w'' ⟨rfl, rfl, rfl⟩
  simp [Leaves, settle, results, Try.results84]
  exact ⟨w1, G, HB.out, hG, HI.out, rfl⟩

set_option maxRecDepth 100000 in
set_option maxHeartbeats 3200000 in
theorem odo_first (x : Tl) (ta : Option Addr) (tc : Nat) (b Bo Bt Bb Br : Nat) (old s2 : Value) (w : World) (h : VRw 1 cvI w (.slice ta x.coins.length tc) x.coins) (ht : trialB x = true) (hbb : b ≤ 1000)
    (po : PB w Bo #[.int .u32 0, .int .i32 0, s2] 109)
    (pt : PB w Bt #[.int .i64 x.arms, .int .i64 x.block, .slice ta x.coins.length tc, .int .i64 x.told] 26) (pb : PB w Bb #[.int .i64 (b : Int)] 2) (pr : PB w Br #[old] 24)
    (n1 : Bo ≠ Bt) (n2 : Bo ≠ Bb) (n3 : Bo ≠ Br) (hco : VRw 1 cvI (w.setCell ⟨Bo, 1, none⟩ (.int .i32 1)) (.slice ta x.coins.length tc) x.coins) :
    Calls Try.prog 65 #[.pointer (some ⟨Bo, 0, none⟩), .func (.func 66) #[] #[.pointer (some ⟨Bt, 0, none⟩), .pointer (some ⟨Bb, 0, none⟩), .pointer (some ⟨Br, 0, none⟩)]] w fun e w' => e = .returned (.tuple #[]) ∧ DoneW x b Bo Br w w' := by
  have hl := run_call_load (P := Try.prog) Try.func96 (by kernel_rfl) (by kernel_rfl) (by kernel_rfl) .u32 (by kernel_rfl) (w := w) (a := ⟨Bo, 0, none⟩) (x := 0) (po.cell 0)
  have hnot : ∀ (x : Bool) (w : World), (Op.unary .not (.bool x)).run Try.prog w = .ok (.bool (!x)) w := fun _ _ => rfl
  have hS := hidden (oslow_any x ta tc b Bo Bt Bb Br old s2 w h ht hbb po pt pb pr n1 n2 n3 hco)
  clear h hco po pt pb pr n1 n2 n3 ht
  go_enter Try.func65, Try.ntmps65
  go_wp2_with (first | (go_at_call 84; refine hS.out.mono ?_; rintro e w' ⟨rfl, hd⟩; have HD := hidden hd; clear hd) | (go_at_call 83; go_in) | fail)
  go_end0
  exact ⟨rfl, HD.out⟩

set_option maxRecDepth 100000 in
set_option maxHeartbeats 1600000 in
theorem odo_done (a : Addr) (fv : Value) (w : World) (h0 : w.cell? a = some (.int .u32 1)) :
    Calls Try.prog 65 #[.pointer (some a), fv] w fun e w' => e = .returned (.tuple #[]) ∧ w' = w := by
  have hl := run_call_load (P := Try.prog) Try.func96 (by kernel_rfl) (by kernel_rfl) (by kernel_rfl) .u32 (by kernel_rfl) h0
  have hnot : ∀ (x : Bool) (w : World), (Op.unary .not (.bool x)).run Try.prog w = .ok (.bool (!x)) w := fun _ _ => rfl
  go_enter Try.func65, Try.ntmps65
  go_wp2_with (first | (go_at_call 83; go_in) | fail)
  go_end0
  exact ⟨rfl, rfl⟩

/-- The Once and what it guards, from base on: not yet done, or done. -/
structure OS (x : Tl) (ta : Option Addr) (tc b base Bo Bt Bb Br : Nat) (w : World) : Prop where
  pt : PB w Bt #[.int .i64 x.arms, .int .i64 x.block, .slice ta x.coins.length tc, .int .i64 x.told] 26
  pb : PB w Bb #[.int .i64 (b : Int)] 2
  lo : base ≤ Bo ∧ base ≤ Br ∧ base ≤ Bt ∧ base ≤ Bb
  ne : Bo ≠ Bt ∧ Bo ≠ Bb ∧ Bo ≠ Br ∧ Br ≠ Bt ∧ Br ≠ Bb
  st : (∃ old s2, PB w Bo #[.int .u32 0, .int .i32 0, s2] 109 ∧ PB w Br #[old] 24) ∨
    (∃ s2 G, PB w Bo #[.int .u32 1, .int .i32 0, s2] 109 ∧ PB w Br #[.slice (some ⟨G, 0, none⟩) x.b x.b] 24 ∧ base ≤ G ∧ IR w G (blk x b))
theorem OS.below {x : Tl} {ta : Option Addr} {tc b base Bo Bt Bb Br : Nat} {w w' : World} (h : OS x ta tc b base Bo Bt Bb Br w) (hb : Below w.heap.size w w') : OS x ta tc b base Bo Bt Bb Br w' :=
  ⟨h.pt.below hb, h.pb.below hb, h.lo, h.ne, h.st.elim (fun ⟨o, s, h1, h2⟩ => Or.inl ⟨o, s, h1.below hb, h2.below hb⟩) (fun ⟨s, G, h1, h2, h3, h4⟩ => Or.inr ⟨s, G, h1.below hb, h2.below hb, h3, h4.below hb⟩)⟩

set_option maxRecDepth 100000 in
set_option maxHeartbeats 3200000 in
/-- The function that tells the order of a block. -/
theorem otell_any (x : Tl) (ta : Option Addr) (tc b base Bo Bt Bb Br : Nat) (w : World) (hbs : base ≤ w.heap.size) (h : ∀ W, Below base w W → VRw 1 cvI W (.slice ta x.coins.length tc) x.coins) (ht : trialB x = true) (hbb : b ≤ 1000) (hs : OS x ta tc b base Bo Bt Bb Br w) :
    Calls Try.prog 64 #[.pointer (some ⟨Bo, 0, none⟩), .pointer (some ⟨Bt, 0, none⟩), .pointer (some ⟨Bb, 0, none⟩), .pointer (some ⟨Br, 0, none⟩)] w fun e w' => ∃ G, base ≤ G ∧ e = .returned (.slice (some ⟨G, 0, none⟩) x.b x.b) ∧ IR w' G (blk x b) ∧ OS x ta tc b base Bo Bt Bb Br w' ∧ Below base w w' := by
  have hmf : ∀ (fn : Fn) (first cap : Array Value) (w : World), (Instr.makeFunc fn first cap).run Try.prog w = .ok (.func fn first cap) w := fun _ _ _ _ => rfl
  have HSO := hidden hs
  obtain ⟨pt, pb, lo, ne, st⟩ := hs
  rcases st with ⟨old, s2, po, pr⟩ | ⟨s2, G, po, pr, hG, hir⟩
  · have hb1 : Below base w (w.setCell ⟨Bo, 1, none⟩ (.int .i32 1)) := (Below.refl _ _).setCell (p := ⟨Bo, 1, none⟩) lo.1 _
    have hD := hidden (odo_first x ta tc b Bo Bt Bb Br old s2 w (h _ (Below.refl _ _)) ht hbb po pt pb pr ne.1 ne.2.1 ne.2.2.1 (h _ hb1))
    have HF : Hid (∀ w', DoneW x b Bo Br w w' → ∃ G, base ≤ G ∧ w'.cell? ⟨Br, 0, none⟩ = some (.slice (some ⟨G, 0, none⟩) x.b x.b) ∧ IR w' G (blk x b) ∧ OS x ta tc b base Bo Bt Bb Br w' ∧ Below base w w') := by
      rintro w' ⟨w1, G, hbl, hG, hir, rfl⟩
      have hsz : (w.setCell ⟨Bo, 1, none⟩ (.int .i32 1)).heap.size = w.heap.size := by simp [World.setCell]
      have hbl2 : Below (w.setCell ⟨Bo, 1, none⟩ (.int .i32 1)).heap.size (w.setCell ⟨Bo, 1, none⟩ (.int .i32 1)) w1 := hsz.symm ▸ hbl
      have po1 := (po.put 1 (.int .i32 1) (vs' := #[.int .u32 0, .int .i32 1, s2]) (by simp)).below hbl2
      have pt1 := (pt.far ne.1 1 (.int .i32 1)).below hbl2
      have pb1 := (pb.far ne.2.1 1 (.int .i32 1)).below hbl2
      have pr1 := (pr.far ne.2.2.1 1 (.int .i32 1)).below hbl2
      generalize hS : Value.slice (some ⟨G, 0, none⟩) x.b x.b = S
      have pr2 := pr1.put 0 S (vs' := #[S]) (by simp)
      have po2 := po1.far (fun e => ne.2.2.1 e.symm) 0 S
      have pt2 := pt1.far ne.2.2.2.1 0 S
      have pb2 := pb1.far ne.2.2.2.2 0 S
      have hltB := po.lt
      have hltR := pr.lt
      have ir2 := hir.far (b := Br) (by omega) 0 S
      have b2 := (hb1.trans (hbl.mono hbs)).setCell (p := ⟨Br, 0, none⟩) lo.2.1 S
      have b3 := st_drew b2
      have po3 : PB (w1.setCell ⟨Br, 0, none⟩ S).drew Bo #[.int .u32 0, .int .i32 1, s2] 109 := po2
      have pr3 : PB (w1.setCell ⟨Br, 0, none⟩ S).drew Br #[S] 24 := pr2
      have pt3 : PB (w1.setCell ⟨Br, 0, none⟩ S).drew Bt #[.int .i64 x.arms, .int .i64 x.block, .slice ta x.coins.length tc, .int .i64 x.told] 26 := pt2
      have pb3 : PB (w1.setCell ⟨Br, 0, none⟩ S).drew Bb #[.int .i64 (b : Int)] 2 := pb2
      have ir3 : IR (w1.setCell ⟨Br, 0, none⟩ S).drew G (blk x b) := ir2
      generalize (w1.setCell ⟨Br, 0, none⟩ S).drew = w2 at *
      have po4 := (po3.put 0 (.int .u32 1) (vs' := #[.int .u32 1, .int .i32 1, s2]) (by simp)).put 1 (.int .i32 0) (vs' := #[.int .u32 1, .int .i32 0, s2]) (by simp)
      have pr4 := (pr3.far ne.2.2.1 0 (.int .u32 1)).far ne.2.2.1 1 (.int .i32 0)
      have pt4 := (pt3.far ne.1 0 (.int .u32 1)).far ne.1 1 (.int .i32 0)
      have pb4 := (pb3.far ne.2.1 0 (.int .u32 1)).far ne.2.1 1 (.int .i32 0)
      have ir4 := (ir3.far (b := Bo) (by omega) 0 (.int .u32 1)).far (b := Bo) (by omega) 1 (.int .i32 0)
      have b4 := (b3.setCell (p := ⟨Bo, 0, none⟩) lo.1 (.int .u32 1)).setCell (p := ⟨Bo, 1, none⟩) lo.1 (.int .i32 0)
      refine ⟨G, by omega, by rw [hS]; exact pr4.cell 0, ir4, ⟨pt4, pb4, lo, ne, Or.inr ⟨s2, G, po4, ?_, by omega, ir4⟩⟩, b4⟩
      rw [hS]; exact pr4
    clear h ht po pt pb pr lo ne hb1 HSO
    go_enter Try.func64, Try.ntmps64
    go_wp2_with (go_at_call 65; refine hD.out.mono ?_; rintro e w' ⟨rfl, hd⟩; obtain ⟨G, hG, c0, hir, hos, hb⟩ := HF.out _ hd; have H1 := hidden hir; have H2 := hidden hos; have H3 := hidden hb; clear hir hos hb hd)
    go_ret
    exact ⟨G, hG, rfl, H1.out, H2.out, H3.out⟩
  · have hD := hidden (odo_done ⟨Bo, 0, none⟩ (.func (.func 66) #[] #[.pointer (some ⟨Bt, 0, none⟩), .pointer (some ⟨Bb, 0, none⟩), .pointer (some ⟨Br, 0, none⟩)]) w (po.cell 0))
    have c0 : w.cell? ⟨Br, 0, none⟩ = some (.slice (some ⟨G, 0, none⟩) x.b x.b) := pr.cell 0
    have HI := hidden hir
    clear h ht po pt pb pr lo ne hir
    go_enter Try.func64, Try.ntmps64
    go_wp2_with (go_at_call 65; refine hD.out.mono ?_; rintro e w' ⟨rfl, rfl⟩)
    go_ret
    exact ⟨G, hG, rfl, HI.out, HSO.out, Below.refl _ _⟩
end Go.Proofs.Ytoehnlbkgpjhmaa
