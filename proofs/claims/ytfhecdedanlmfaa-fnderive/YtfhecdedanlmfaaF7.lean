/-
  Facts and laws drawn of bytes; the law's own looks at numbers.
-/
import Derived.Test.YtfhecdedanlmfaaF6
import Derived.BigQuiet
namespace Go.Proofs.Ytfhecdedanlmfaa
open Go.RowKit Va Rc
set_option linter.all false

set_option maxRecDepth 20000 in
set_option maxHeartbeats 1000000 in
theorem lhas_any (ao : Option Addr) (n cap : Nat) (l : List Int) (x : Int) (w : World) (h : IRw w (.slice ao n cap) l) (hn : l.length ≤ 1048576) :
    Calls Try.prog 11 #[.slice ao n cap, .int .i64 x] w fun e w' => e = .returned (.bool (hasB l x)) ∧ w' = w := by
  obtain rfl := h.len
  have HH := hidden h
  clear h
  go_enter Try.func11, Try.ntmps11
  go_wp2_with fail
  go_loopw [5] (fun iv wr => ∃ i : Nat, i ≤ l.length ∧ iv = .int .i64 i ∧ wr = w ∧ Hid (hasB (l.take i) x = false)) (fun iv _ => l.length - (intOf iv).toNat)
  case atStart => exact ⟨0, Nat.zero_le _, rfl, rfl, rfl⟩
  case round =>
    obtain ⟨i, hi, rfl, rfl, hok⟩ := hrel
    by_cases hlt : i < l.length
    · have hlti : (i : Int) < (l.length : Int) := by omega
      obtain ⟨y, hy⟩ := some_of l i hlt
      obtain ⟨g, off, rfl, hg, hc⟩ := HH.out.at hy
      have c0 := hc i y hy
      have HX := hidden hy
      clear hy hc
      by_cases hq : x = y
      · have HY : Hid (hasB l x = true) := by rw [hq]; exact hasQ_true HX.out
        subst hq
        go_wp2_with fail
        go_ret
        exact ⟨ret_boolQ HY.out.symm, rfl⟩
      · have HN : Hid (hasB (l.take (i + 1)) x = false) := hasQ_take hok.out HX.out hq
        have hq2 : ¬ y = x := fun e => hq e.symm
        go_wp2_with fail
        go_roundw
        case rel => exact ⟨i + 1, by omega, rfl, by simp, HN⟩
        case measure => simp [intOf]; omega
    · have hlti : ¬ (i : Int) < (l.length : Int) := by omega
      have hil : i = l.length := by omega
      subst hil
      go_wp2_with fail
      go_ret
      exact ⟨ret_boolQ (by have := hok.out; rw [List.take_length] at this; rw [this]), rfl⟩

set_option maxRecDepth 20000 in
set_option maxHeartbeats 2000000 in
theorem same_any (a1 : Option Addr) (n1 c1 : Nat) (a2 : Option Addr) (n2 c2 : Nat) (l : List Int) (w : World) (h : IRw w (.slice a1 n1 c1) l) (h' : IRw w (.slice a2 n2 c2) l) (hn : l.length ≤ 1048576) :
    Calls Try.prog 8 #[.slice a1 n1 c1, .slice a2 n2 c2] w fun e w' => e = .returned (.bool true) ∧ Below w.heap.size w w' := by
  obtain rfl := h.len
  obtain rfl := h'.len
  have HH := hidden h
  have HH' := hidden h'
  clear h h'
  go_enter Try.func8, Try.ntmps8
  go_wp2_with fail
  go_loopw [5] (fun iv wr => ∃ i : Nat, i ≤ l.length ∧ iv = .int .i64 i ∧ Below w.heap.size w wr) (fun iv _ => l.length - (intOf iv).toNat)
  case atStart => exact ⟨0, Nat.zero_le _, rfl, Below.refl _ _⟩
  case round =>
    obtain ⟨i, hil, rfl, hb⟩ := hrel
    by_cases hlt : i < l.length
    · have hlti : (i : Int) < (l.length : Int) := by omega
      obtain ⟨x, hx⟩ := some_of l i hlt
      obtain ⟨g, off, rfl, hg, hcs⟩ := (HH.out.below hb).at hx
      obtain ⟨g', off', rfl, hg', hcs'⟩ := (HH'.out.below hb).at hx
      have c0 := hcs i x hx
      have d0 := hcs' i x hx
      clear hcs hcs' hx
      go_wp2_with fail
      go_quiet (fail)
      go_wp2_with fail
      go_roundw
      case rel => exact ⟨i + 1, by omega, rfl, by repeat (first | exact Below.refl _ _ | assumption | refine st_drew ?_ | refine st_drewN ?_ _ | refine Below.setCell ?_ (by first | omega | (simp; done) | (simp; omega)) _ | refine Below.alloc ?_ (by first | omega | (simp; done) | (simp; omega)) _)⟩
      case measure => simp [intOf]; omega
    · have hlti : ¬ (i : Int) < (l.length : Int) := by omega
      go_wp2_with fail
      go_ret
      exact ⟨rfl, hb⟩


set_option maxRecDepth 20000 in
set_option maxHeartbeats 4000000 in
theorem dderive_any (ao : Option Addr) (cap : Nat) (bs : List Int) (w : World) (hb : Bytes w w.heap.size ao bs) (hl : bs.length ≤ 1048576) :
    Calls Try.prog 6 #[.slice ao bs.length cap] w fun e w' => ∃ (F : List Int) (D : List Lw) (fa : Option Addr) (fc : Nat) (la : Option Addr) (lc : Nat), e = .returned (.tuple #[.slice fa F.length fc, .slice la D.length lc]) ∧ F.length ≤ 65 ∧ D.length ≤ 201 ∧ (∀ x ∈ D, x.ifs.length ≤ 1048576 ∧ x.nots.length ≤ 1048576) ∧ IRw w' (.slice fa F.length fc) F ∧ LRw w' (.slice la D.length lc) D ∧ Below w.heap.size w w' := by
  go_enter Try.func6, Try.ntmps6
  go_wp2_with fail
  refine (new_any ao cap bs w hb hl).mono ?_
  rintro e wN ⟨rfl, hcN, hbN⟩
  have HBN := hidden hbN
  have HCN := hidden hcN
  have hgN : w.heap.size < wN.heap.size := hcN.1
  clear hbN hb hcN
  generalize hG : w.heap.size = g at *
  go_wp2_with fail
  refine (dfacts_any g ao cap bs wN HCN.out).mono ?_
  rintro e w1 ⟨fa, fc, F, rfl, hF, hd1⟩
  have HF1 := hidden hd1
  clear hd1
  go_wp2_with fail
  refine (dlaws_any g ao cap bs w1 HF1.out.cur).mono ?_
  rintro e w2 ⟨L, la, lc, rfl, hL, hd2⟩
  have HI := hidden ((HF1.out.call hd2.cur hd2.keep).row)
  have HR := hidden hd2.row
  have HB : Hid (Below g w w2) := HBN.out.trans ((HF1.out.keep.trans hd2.keep).below (Nat.le_refl _) (by omega))
  have HW : Hid (∀ x ∈ L.map Prod.fst, x.ifs.length ≤ 1048576 ∧ x.nots.length ≤ 1048576) := fun x hx => by
    obtain ⟨p, hp, rfl⟩ := List.mem_map.1 hx
    have := hd2.rows p hp
    have h1 := this.1.2
    have h2 := this.2.2
    exact ⟨by omega, by omega⟩
  have hLm : Hid (L.length = (L.map Prod.fst).length) := by show _ = _; rw [List.length_map]
  clear hd2 HF1 HCN HBN
  rw [hLm.out] at hL HR
  go_wp2_with fail
  refine bodyPost_ret (v := .tuple #[.slice fa F.length fc, .slice la L.length lc]) (by simp [results, Try.results6, go_sem]) rfl ?_
  exact ⟨F, L.map Prod.fst, fa, fc, la, lc, by rw [List.length_map], hF, hL, HW.out, HI.out, HR.out, by rw [hG]; exact HB.out⟩
end Go.Proofs.Ytfhecdedanlmfaa
