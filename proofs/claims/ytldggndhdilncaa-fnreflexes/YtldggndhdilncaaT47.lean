/-
  All rules as functions: the program's.
-/
import Derived.Test.YtldggndhdilncaaT46
import Derived.Test.YtldggndhdilncaaGw
import Derived.Test.YtldggndhdilncaaT20
namespace Go.Proofs.Ytldggndhdilncaa
open Go.RowKit Go.Maps Va Lb
set_option linter.all false

theorem PBT_ne {W : World} {B : Nat} {vs : Array Value} {t : TypeId} (h : PB W B vs t) {b e s n : Nat} {v : Value} {xs : List Value} (ho : W.ownsRow b e s v n xs) (hne : t ≠ e) : ∀ k, v.ownBlock = some k → k ≠ B := by
  obtain ⟨_, ⟨rfl, _⟩ | ⟨g, cap, cur, rfl, hb, hh, _⟩⟩ := ho
  · intro k hk; cases hk
  · intro k hk
    obtain rfl : g = k := Option.some.inj hk
    intro e'
    subst e'
    unfold PB at h
    rw [h] at hh
    simp at hh
    exact hne hh.2
theorem PBT_grown {W W' : World} {B : Nat} {vs : Array Value} {t : TypeId} {r : Option Nat} (h : PB W B vs t) (hg : W.grownBy W' r) (hr : ∀ k, r = some k → k ≠ B) : PB W' B vs t :=
  (hg.block B h.lt (fun e => hr B e.symm rfl)).trans h
theorem RuAt.grown {W W' : World} {x : Ru} {b n : Nat} {v : Value} {xs : List Value} (h : RuAt W x) (ho : W.ownsRow b 64 1 v n xs) (hg : W.grownBy W' v.ownBlock) : RuAt W' x := by
  obtain ⟨lo, hi, k⟩ := h.pr
  exact ⟨⟨lo, hi, PBT_grown k hg (PBT_ne k ho (by decide))⟩, PBT_grown h.pc hg (PBT_ne h.pc ho (by decide)), h.t0, h.t1⟩
/-- The functions us are the rules rs. -/
def Like (vs : List Vl) (rs : List Rx) (us : List Ru) : Prop := us.map (fun u => ((u.te : Int), (u.th : Int), u.cb)) = rs.map (fun r => (r.te, r.th, calls1 vs r))
theorem like_next {vs : List Vl} {rs : List Rx} {us : List Ru} {i : Nat} {x : Rx} (w : World) (h : Like vs (rs.take i) us) (hx : rs[i]? = some x) (hok : x.ok) : Like vs (rs.take (i + 1)) (us ++ [ruOf w vs x]) := by
  obtain ⟨⟨h1, h2⟩, ⟨h3, h4⟩, -⟩ := hok
  unfold Like at *
  rw [List.take_succ, hx, List.map_append, List.map_append, h]
  congr 1
  simp only [ruOf, List.map_cons, List.map_nil, Option.toList_some]
  rw [show ((x.te.toNat : Nat) : Int) = x.te by omega, show ((x.th.toNat : Nat) : Int) = x.th by omega]
theorem cells_ru (us : List Ru) : vcellsL 1 cvRu us = us.map fun u => cvRu u 0 := by
  unfold vcellsL
  induction us with
  | nil => rfl
  | cons a l ih =>
    rw [List.flatMap_cons, List.map_cons, ih]
    rfl
theorem infoRu : (Try.prog.info? 64).map (fun i => (i.zero, i.size, i.bytes)) = some (some Value.nilFunc, 1, 8) := by kernel_rfl

set_option maxRecDepth 20000 in
set_option maxHeartbeats 4000000 in
theorem irr_any (ao : Option Addr) (n cap : Nat) (rs : List Rx) (vs : List Vl) (b m : Nat) (D : DataW Unit) (w : World) (h : VRw 4 cvRx w (.slice ao n cap) rs) (hok : RxOk rs) (hb : b < w.heap.size) (hown : w.ownsMap Try.prog 2 (plainElem Try.prog 2) b m D) (hD : MapV D vs) :
    Calls Try.prog 18 #[.slice ao n cap, .map (some b)] w fun e w' => ∃ v us, e = .returned v ∧ (w'.ownsRow w.heap.size 64 1 v us.length (us.map fun u => cvRu u 0) ∧ ∀ u ∈ us, RuAt w' u) ∧ Like vs rs us ∧ Below w.heap.size w w' := by
  obtain rfl := h.len
  obtain ⟨i0, hi0, hy0, hy1, hy2⟩ := info_partsW infoRu
  have HR := hidden h
  have HOK := hidden hok.2
  have hl2 := hok.1
  have HW := hidden hown
  have HD := hidden hD
  have HO := hidden (ownW_new w 64 1)
  have HBA := hidden ((Below.refl w.heap.size w).alloc (Nat.le_refl _) (.cells #[] 64))
  clear h hok hown hD
  go_enter Try.func18, Try.ntmps18
  generalize hwA : w.alloc (.cells #[] 64) = wA at *
  generalize hv0 : Value.slice (some ⟨w.heap.size, 0, none⟩) 0 0 = v0 at *
  go_wp2_with fail
  go_loopw [5, 7, 11] (fun v _ iv wr => ∃ (i : Nat) (us : List Ru), i ≤ rs.length ∧ iv = .int .i64 i ∧ Hid (Like vs (rs.take i) us) ∧ us.length ≤ 200 ∧ Hid (wr.ownsRow w.heap.size 64 1 v us.length (us.map fun u => cvRu u 0)) ∧ Hid (∀ u ∈ us, RuAt wr u) ∧ Below w.heap.size w wr) (fun _ _ iv _ => rs.length - (intOf iv).toNat)
  case atStart => exact ⟨0, [], Nat.zero_le _, rfl, rfl, by simp, HO, (fun u hu => by cases hu), HBA.out⟩
  case round =>
    clear HO HBA hwA hv0
    obtain ⟨i, us, hi, rfl, HL, hul, ho, hru, hbr⟩ := hrel
    obtain ⟨ad, c, rfl⟩ := ownW_slice ho.out
    have zr := hbr.size
    by_cases hlt : i < rs.length
    · have hlti : (i : Int) < (rs.length : Int) := by omega
      obtain ⟨x, hx⟩ := some_of rs i hlt
      have hxo := HOK.out x (List.mem_of_getElem? hx)
      obtain ⟨g, off, rfl, hg, hcs⟩ := (HR.out.below hbr).at hx
      have c0 : wr.cell? ⟨g, off + i * 4, none⟩ = some (.int .i64 x.te) := hcs 0 (by omega)
      have c1 : wr.cell? ⟨g, off + i * 4 + 1, none⟩ = some (.int .i64 x.lo) := hcs 1 (by omega)
      have c2 : wr.cell? ⟨g, off + i * 4 + 2, none⟩ = some (.int .i64 x.hi) := hcs 2 (by omega)
      have c3 : wr.cell? ⟨g, off + i * 4 + 3, none⟩ = some (.int .i64 x.th) := hcs 3 (by omega)
      have hlen : us.length < 200 := by
        have := congrArg List.length HL.out
        rw [List.length_map, List.length_map, List.length_take] at this
        omega
      have bx : Below wr.heap.size wr (wr.alloc (.cells #[.int .i64 x.te, .int .i64 x.lo, .int .i64 x.hi, .int .i64 x.th] 37)) := (Below.refl _ _).alloc (Nat.le_refl _) _
      have HK := hidden (iasrule_any x vs b m D (wr.alloc (.cells #[.int .i64 x.te, .int .i64 x.lo, .int .i64 x.hi, .int .i64 x.th] 37)) hxo (Nat.lt_of_lt_of_le (Nat.lt_of_lt_of_le hb zr) bx.size) (Rt.own_heap (Rt.own_heap HW.out (hbr.block b hb)) (bx.block b (Nat.lt_of_lt_of_le hb zr))) HD.out)
      have HL2 := hidden (like_next (wr.alloc (.cells #[.int .i64 x.te, .int .i64 x.lo, .int .i64 x.hi, .int .i64 x.th] 37)) HL.out hx hxo)
      generalize hU : ruOf (wr.alloc (.cells #[.int .i64 x.te, .int .i64 x.lo, .int .i64 x.hi, .int .i64 x.th] 37)) vs x = U at *
      have HOx := hidden (ownW_below ho.out bx)
      have HRx : Hid (∀ u ∈ us, RuAt (wr.alloc (.cells #[.int .i64 x.te, .int .i64 x.lo, .int .i64 x.hi, .int .i64 x.th] 37)) u) := fun u hu => (hru.out u hu).below bx
      have HBx := hidden (hbr.alloc zr (.cells #[.int .i64 x.te, .int .i64 x.lo, .int .i64 x.hi, .int .i64 x.th] 37))
      have KK := hidden HK.out
      unfold aRx cvRu at KK
      clear hx hcs HL ho hru hbr bx HK
      go_wp2_with (first | (go_at_call 27; refine KK.out.mono ?_; rintro e w1 ⟨rfl, hU1, hb1⟩; have HO1 := hidden (ownW_below (ownW_below HOx.out hb1) ((Below.refl _ _).alloc (Nat.le_refl _) (.cells #[(.func (.func 29) #[] #[.pointer (some ⟨U.R, 0, none⟩), .pointer (some ⟨U.C, 0, none⟩)])] 64))); have HB1 := hidden (HBx.out.trans (hb1.mono HBx.out.size)); have z1 := HB1.out.size; have HU1 := hidden hU1; have HR1 : Hid (∀ u ∈ us, RuAt w1 u) := fun u hu => (HRx.out u hu).below hb1; clear hU1 hb1) | (at_builtin; refine wpList_append_own _ rfl (.tmp 15) (.tmp 19) 49 rfl w.heap.size 64 i0 Value.nilFunc 1 8 Try.underlying49 hi0 hy0 hy1 hy2 rfl (by decide) _ us.length (us.map fun u => cvRu u 0) rfl HO1.out ⟨w1.heap.size, 0, none⟩ 1 1 [(.func (.func 29) #[] #[.pointer (some ⟨U.R, 0, none⟩), .pointer (some ⟨U.C, 0, none⟩)])] rfl rfl (cell_oneD _ _ _) (by simp [Value.oneCell']) (by unfold maxLen; omega) (by omega) (by simp; omega) ?_; intro v6 w6 ho6 hg6 hnn6))
      have bA : Below w1.heap.size w1 (w1.alloc (.cells #[(.func (.func 29) #[] #[.pointer (some ⟨U.R, 0, none⟩), .pointer (some ⟨U.C, 0, none⟩)])] 64)) := (Below.refl _ _).alloc (Nat.le_refl _) _
      have hb6 := (HB1.out.alloc z1 (.cells #[(.func (.func 29) #[] #[.pointer (some ⟨U.R, 0, none⟩), .pointer (some ⟨U.C, 0, none⟩)])] 64)).grown hg6 (by simp; omega) (fun k hk => (ownW_lt HO1.out k hk).1)
      have ho7 : w6.ownsRow w.heap.size 64 1 v6 (us ++ [U]).length ((us ++ [U]).map fun u => cvRu u 0) := by rw [List.length_append, List.map_append]; exact ho6
      have hru7 : ∀ u ∈ us ++ [U], RuAt w6 u := fun u hu => by
        rcases List.mem_append.1 hu with h1 | h1
        · exact ((HR1.out u h1).below bA).grown HO1.out hg6
        · rw [List.mem_singleton.1 h1]; exact (HU1.out.below bA).grown HO1.out hg6
      go_roundw
      case rel => exact ⟨i + 1, us ++ [U], by omega, rfl, HL2, by simp; omega, ho7, hru7, hb6⟩
      case measure => simp [intOf]; omega
    · have hlti : ¬ (i : Int) < (rs.length : Int) := by omega
      have HL2 : Hid (Like vs rs us) := by have := HL.out; rw [List.take_of_length_le (by omega)] at this; exact this
      clear HL
      go_wp2_with fail
      go_ret
      exact ⟨_, rfl, us, ⟨ho.out, hru.out⟩, HL2.out, hbr⟩
end Go.Proofs.Ytldggndhdilncaa
