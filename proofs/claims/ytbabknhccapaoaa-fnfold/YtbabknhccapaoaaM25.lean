/-
  The letters that count, in a map: the program's, whole.
-/
import Derived.Test.YtbabknhccapaoaaM24
namespace Go.Proofs.Ytbabknhccapaoaa
open Go.RowKit Va Mg Go.Maps
set_option linter.all false

theorem put_noneM (a : Act) (x : Value) : a.put none x = a := rfl
def ivN (v : Value) : Nat := match v with | .int _ z => z.toNat | _ => 0
/-- Block B is a map of at most n entries that holds just the letters of I. -/
def CM (w : World) (B n : Nat) (I : List Lt) : Prop := ∃ (D : DataW Unit) (g : Int → Int → Option Lt), w.ownsMap Try.prog 80 letE B n D ∧ Gv D g ∧ Rep g I
theorem dC7_0 : Rg.dstAt (Rg.opsOf Try.f20 7) 0 = some 35 := by kernel_rfl
theorem dC7_1 : Rg.dstAt (Rg.opsOf Try.f20 7) 1 = some 36 := by kernel_rfl
theorem dC7_2 : Rg.dstAt (Rg.opsOf Try.f20 7) 2 = some 37 := by kernel_rfl
theorem dC7_3 : Rg.dstAt (Rg.opsOf Try.f20 7) 3 = some 38 := by kernel_rfl
theorem dC7_4 : Rg.dstAt (Rg.opsOf Try.f20 7) 4 = none := by kernel_rfl
theorem layC7 {a b : Act} (hf : Rg.Fr (Rg.opsOf Try.f20 7) a b) : b = (((a.put (some 35) (Rg.out (Rg.opsOf Try.f20 7) b 0)).put (some 36) (Rg.out (Rg.opsOf Try.f20 7) b 1)).put (some 37) (Rg.out (Rg.opsOf Try.f20 7) b 2)).put (some 38) (Rg.out (Rg.opsOf Try.f20 7) b 3) := by
  have h := hf.chain
  rw [sizeC7, show List.range 5 = [0, 1, 2, 3, 4] from by decide] at h
  simp only [List.foldl_cons, List.foldl_nil, dC7_0, dC7_1, dC7_2, dC7_3, dC7_4, put_noneM] at h
  exact h


set_option maxRecDepth 20000 in
set_option maxHeartbeats 8000000 in
theorem icount_any (ao : Option Addr) (n cap : Nat) (l : List Lt) (w : World) (h : VRw 5 cvLt w (.slice ao n cap) l) (hn : l.length ≤ 1000) (hwf : ∀ x ∈ l, WfL x) :
    Calls Try.prog 20 #[.slice ao n cap] w fun e w' => e = .returned (.map (some w.heap.size)) ∧ CM w' w.heap.size l.length (inL l) ∧ Below w.heap.size w w' := by
  obtain rfl := h.len
  have HR := hidden h
  have HI := hidden hwf
  have hmm := mkmapN
  have HO := hidden (World.ownsMap_made w Try.prog 80 letE)
  have HB : Hid (Below w.heap.size w (w.alloc (.map #[] 0))) := (Below.refl _ _).alloc (Nat.le_refl _) _
  have hsz : w.heap.size < (w.alloc (.map #[] 0)).heap.size := by simp
  clear h hwf
  go_enter Try.func20, Try.ntmps20
  go_wp2_with fail
  go_loopw [5, 6, 7, 13] (fun _ _ _ iv wr => ∃ (i : Nat) (D : DataW Unit) (g : Int → Int → Option Lt), i ≤ l.length ∧ iv = .int .i64 i ∧ wr.ownsMap Try.prog 80 letE w.heap.size i D ∧ Hid (Gv D g) ∧ Hid (Rep g (inL (l.take i))) ∧ w.heap.size < wr.heap.size ∧ Below w.heap.size w wr) (fun _ _ _ iv _ => l.length - ivN iv)
  case atStart => exact ⟨0, .map [], fun _ _ => none, Nat.zero_le _, rfl, HO.out, Gv.nil, Rep.nil, hsz, HB.out⟩
  case round =>
    clear HO HB hmm hsz
    obtain ⟨i, D, g, hi, rfl, ho, HG, HP, hsz, hb⟩ := hrel
    by_cases hlt : ¬ i < l.length
    · have hlti : ¬ (i : Int) < (l.length : Int) := by omega
      have hil : i = l.length := by omega
      have HQ : Hid (CM wr w.heap.size l.length (inL l)) := by
        have a := HP.out
        rw [hil, List.take_length] at a
        rw [hil] at ho
        exact ⟨D, g, ho, HG.out, a⟩
      clear hil ho
      go_wp2_with fail
      go_ret
      exact ⟨rfl, HQ.out, hb⟩
    have hlt := Decidable.not_not.1 hlt
    have hlti : (i : Int) < (l.length : Int) := by omega
    obtain ⟨x, hx⟩ := some_of l i hlt
    obtain ⟨gg, off, rfl, hgg, hcs⟩ := (HR.out.below hb).at hx
    have c0 : wr.cell? ⟨gg, off + i * 5, none⟩ = some (.int .i64 x.f) := hcs 0 (by omega)
    have c1 : wr.cell? ⟨gg, off + i * 5 + 1, none⟩ = some (.int .i64 x.s) := hcs 1 (by omega)
    have c2 : wr.cell? ⟨gg, off + i * 5 + 2, none⟩ = some (.int .i64 x.c) := hcs 2 (by omega)
    have c3 : wr.cell? ⟨gg, off + i * 5 + 3, none⟩ = some (.int .i64 x.k) := hcs 3 (by omega)
    have c4 : wr.cell? ⟨gg, off + i * 5 + 4, none⟩ = some (.int .i64 x.v) := hcs 4 (by omega)
    have hwx := HI.out x (List.mem_of_getElem? hx)
    have wf1 : Wi x.f := hwx.1
    have wf2 : Wi x.s := hwx.2.1
    have kn := inumber_cells x
    have HPX := hidden (PB.new wr #[.int .i64 x.f, .int .i64 x.s, .int .i64 x.c, .int .i64 x.k, .int .i64 x.v] 29)
    have bx : Below wr.heap.size wr (wr.alloc (.cells #[.int .i64 x.f, .int .i64 x.s, .int .i64 x.c, .int .i64 x.k, .int .i64 x.v] 29)) := (Below.refl _ _).alloc (Nat.le_refl _) _
    have HOA := hidden (Rt.own_heap ho (bx.block _ hsz))
    have HLK : Hid (∀ W, Below (wr.alloc (.cells #[.int .i64 x.f, .int .i64 x.s, .int .i64 x.c, .int .i64 x.k, .int .i64 x.v] 29)).heap.size (wr.alloc (.cells #[.int .i64 x.f, .int .i64 x.s, .int .i64 x.c, .int .i64 x.k, .int .i64 x.v] 29)) W → ∃ y : Lt, (Instr.lookup 51 (.map (some w.heap.size)) (.agg #[.int .i64 x.f, .int .i64 x.s]) true).run Try.prog W = .ok (.tuple #[.agg #[.int .i64 y.f, .int .i64 y.s, .int .i64 y.c, .int .i64 y.k, .int .i64 y.v], .bool (g x.f x.s).isSome]) W ∧ ∀ z, g x.f x.s = some z → y = z) := fun W hW =>
      look_num (Rt.own_heap HOA.out (hW.block _ HOA.out.lt)) HG.out wf1 wf2
    have HX := hidden (inL_take hx)
    have bX := hidden bx
    have hlen := inL_len l i
    clear hcs hx hwx bx ho
    go_upto_region 6 with (go_at_call 40; (with_reducible refine (kn _).mono ?_); rintro e w1 ⟨rfl, hb1⟩; obtain ⟨y, hrun, hyx⟩ := HLK.out w1 hb1)
    have P6x := hidden ((HPX.out.below hb1).alloc (.cells #[.int .i64 y.f, .int .i64 y.s, .int .i64 y.c, .int .i64 y.k, .int .i64 y.v] 29))
    have P6y := hidden (PB.new w1 #[.int .i64 y.f, .int .i64 y.s, .int .i64 y.c, .int .i64 y.k, .int .i64 y.v] 29)
    have bY : Below w1.heap.size w1 (w1.alloc (.cells #[.int .i64 y.f, .int .i64 y.s, .int .i64 y.c, .int .i64 y.k, .int .i64 y.v] 29)) := (Below.refl _ _).alloc (Nat.le_refl _) _
    have o6 := hidden (Rt.own_heap (Rt.own_heap HOA.out (hb1.block _ HOA.out.lt)) (bY.block _ (Rt.own_heap HOA.out (hb1.block _ HOA.out.lt)).lt))
    have b6 := ontoC (ontoC (ontoC hb bX.out) hb1) bY
    have kr := iright_any x
    unfold aLt at kr
    clear HPX HOA HLK bX hb1 bY hrun kn c0 c1 c2 c3 c4 hb
    generalize w1.alloc (.cells #[.int .i64 y.f, .int .i64 y.s, .int .i64 y.c, .int .i64 y.k, .int .i64 y.v] 29) = W6 at *
    generalize wr.heap.size = VX at *
    generalize w1.heap.size = VY at *
    obtain ⟨e0, e1, e2, e3, e4⟩ := P6x.out.fiveM
    cases hq : ltB x with
    | false =>
      rw [hq] at kr
      have HRP : Hid (Rep g (inL (l.take (i + 1)))) := by rw [Hid, HX.out, in_no hq]; exact HP.out
      clear hq hyx
      generalize (g x.f x.s).isSome = tw at *
      go_wp2_with (go_at_call 25; (with_reducible refine (kr _).mono ?_); rintro e w2 ⟨rfl, hb2⟩; obtain ⟨f0, f1, f2, f3, f4⟩ := (P6x.out.below hb2).fiveM; obtain ⟨d0, d1, d2, d3, d4⟩ := (P6y.out.below hb2).fiveM)
      have o7 := (Rt.own_heap o6.out (hb2.block _ o6.out.lt)).mono (Nat.le_succ i)
      have l7 := o7.lt
      go_roundw
      case rel => exact ⟨i + 1, D, g, by omega, rfl, o7, HG, HRP, l7, ontoC b6 hb2⟩
      case measure => simp [ivN]; omega
    | true =>
    rw [hq] at kr
    cases hg0 : g x.f x.s with
    | none =>
      have HRP : Hid (Rep (updG g x) (inL (l.take (i + 1)))) := by
        rw [Hid, HX.out]; exact rep_put (inL_okTo l i) HP.out hq (fun z hz => by rw [hg0] at hz; cases hz)
      clear hq hyx hg0
      simp only [Option.isSome_none]
      go_upto_region 7 with (go_at_call 25; (with_reducible refine (kr _).mono ?_); rintro e w2 ⟨rfl, hb2⟩; obtain ⟨f0, f1, f2, f3, f4⟩ := (P6x.out.below hb2).fiveM; obtain ⟨d0, d1, d2, d3, d4⟩ := (P6y.out.below hb2).fiveM)
      refine regC7 (x := x) (V := VX) (b := w.heap.size) (n := i) (D := D) rfl rfl rfl (P6x.out.below hb2) wf1 wf2 (Rt.own_heap o6.out (hb2.block _ o6.out.lt)) (by unfold maxLen; omega) ?_
      intro b' w8 w9 hf hb8 hg9 ho9
      rw [layC7 hf]
      clear hf
      generalize Rg.out (Rg.opsOf Try.f20 7) b' 0 = y0
      generalize Rg.out (Rg.opsOf Try.f20 7) b' 1 = y1
      generalize Rg.out (Rg.opsOf Try.f20 7) b' 2 = y2
      generalize Rg.out (Rg.opsOf Try.f20 7) b' 3 = y3
      have b8 := ontoC (ontoC b6 hb2) hb8
      have hz8 := b8.size
      have b9 := b8.grown hg9 hz8 (fun j hj => by cases hj; exact Nat.le_refl _)
      have z9 := hg9.size
      have z8 := (ontoC hb2 hb8).size
      have HG9 := hidden (HG.out.put o6.out.isMap x wf1 wf2)
      have hlt9 := ho9.lt
      go_frame
      go_wp2_with fail
      go_roundw
      case rel => exact ⟨i + 1, _, updG g x, by omega, rfl, ho9, HG9, HRP, hlt9, b9⟩
      case measure => simp [ivN]; omega
    | some y0 =>
      obtain rfl := hyx y0 hg0
      have kc := icounts_any x y
      unfold aLt at kc
      simp only [Option.isSome_some]
      cases hm : moreB x y with
      | true =>
        rw [hm] at kc
        have HRP : Hid (Rep (updG g x) (inL (l.take (i + 1)))) := by
          rw [Hid, HX.out]; exact rep_put (inL_okTo l i) HP.out hq (fun z hz => by rw [hg0] at hz; cases hz; exact hm)
        clear hq hyx hg0 hm
        go_upto_region 7 with (first | (go_at_call 25; (with_reducible refine (kr _).mono ?_); rintro e w2 ⟨rfl, hb2⟩; obtain ⟨f0, f1, f2, f3, f4⟩ := (P6x.out.below hb2).fiveM; obtain ⟨d0, d1, d2, d3, d4⟩ := (P6y.out.below hb2).fiveM) | (go_at_call 41; (with_reducible refine (kc _).mono ?_); rintro e w3 ⟨rfl, hb3⟩))
        refine regC7 (x := x) (V := VX) (b := w.heap.size) (n := i) (D := D) rfl rfl rfl (P6x.out.below (ontoC hb2 hb3)) wf1 wf2 (Rt.own_heap o6.out ((ontoC hb2 hb3).block _ o6.out.lt)) (by unfold maxLen; omega) ?_
        intro b' w8 w9 hf hb8 hg9 ho9
        rw [layC7 hf]
        clear hf
        generalize Rg.out (Rg.opsOf Try.f20 7) b' 0 = y0
        generalize Rg.out (Rg.opsOf Try.f20 7) b' 1 = y1
        generalize Rg.out (Rg.opsOf Try.f20 7) b' 2 = y2
        generalize Rg.out (Rg.opsOf Try.f20 7) b' 3 = y3
        have b8 := ontoC (ontoC b6 (ontoC hb2 hb3)) hb8
        have hz8 := b8.size
        have b9 := b8.grown hg9 hz8 (fun j hj => by cases hj; exact Nat.le_refl _)
        have z9 := hg9.size
        have z8 := (ontoC (ontoC hb2 hb3) hb8).size
        have HG9 := hidden (HG.out.put o6.out.isMap x wf1 wf2)
        have hlt9 := ho9.lt
        go_frame
        go_wp2_with fail
        go_roundw
        case rel => exact ⟨i + 1, _, updG g x, by omega, rfl, ho9, HG9, HRP, hlt9, b9⟩
        case measure => simp [ivN]; omega
      | false =>
        rw [hm] at kc
        have HRP : Hid (Rep g (inL (l.take (i + 1)))) := by
          rw [Hid, HX.out]; exact rep_keep (inL_okTo l i) HP.out hq hg0 hm
        clear hq hyx hg0 hm
        go_wp2_with (first | (go_at_call 25; (with_reducible refine (kr _).mono ?_); rintro e w2 ⟨rfl, hb2⟩; obtain ⟨f0, f1, f2, f3, f4⟩ := (P6x.out.below hb2).fiveM; obtain ⟨d0, d1, d2, d3, d4⟩ := (P6y.out.below hb2).fiveM) | (go_at_call 41; (with_reducible refine (kc _).mono ?_); rintro e w3 ⟨rfl, hb3⟩))
        have b23 := ontoC hb2 hb3
        have o7 := (Rt.own_heap o6.out (b23.block _ o6.out.lt)).mono (Nat.le_succ i)
        have l7 := o7.lt
        go_roundw
        case rel => exact ⟨i + 1, D, g, by omega, rfl, o7, HG, HRP, l7, ontoC b6 b23⟩
        case measure => simp [ivN]; omega
end Go.Proofs.Ytbabknhccapaoaa
