/-
  What the program's TrayState answers; what the specification's TrayDo and TrayState answer.
-/
import Derived.Test.YtklgadaefngnnaaWm
import Derived.Lib.AppendIntMem
namespace Go.Proofs.Ytklgadaefngnnaa
open Go.RowKit Va Wa Go.Maps
set_option linter.unusedVariables false

theorem fld0 (a b c d : Value) (w : World) : (Instr.field 100 (.agg #[a, b, c, d]) 0).run Try.prog w = .ok a w := by kernel_rfl
theorem fld1 (a b c d : Value) (w : World) : (Instr.field 100 (.agg #[a, b, c, d]) 1).run Try.prog w = .ok b w := by kernel_rfl
theorem fld2 (a b c d : Value) (w : World) : (Instr.field 100 (.agg #[a, b, c, d]) 2).run Try.prog w = .ok c w := by kernel_rfl

theorem trayState_no {l : List Stp} {t : Int} (h : ¬ (ssB l = true ∧ 0 ≤ t ∧ t ≤ 999)) : trayState l t = -1 := by unfold trayState; rw [if_neg h]
theorem trayState_yes {l : List Stp} {t : Nat} (h : ssB l = true) (ht : t < 1000) : trayState l t = (rmF rm0 l).st t := by
  unfold trayState; rw [if_pos ⟨h, by omega, by omega⟩]; simp

set_option maxRecDepth 20000 in
set_option maxHeartbeats 4000000 in
theorem itraystate_any (ao : Option Addr) (n cap : Nat) (l : List Stp) (t : Int) (w : World) (h : Rw 4 csT w (.slice ao n cap) l) (hn : l.length ≤ 1048576) :
    Calls Try.prog 31 #[.slice ao n cap, .int .i64 t] w fun e w' => e = .returned (.int .i64 (trayState l t)) ∧ Below w.heap.size w w' := by
  obtain rfl := h.len
  have k1 := fun W hW => isteps_any ao l.length cap l W hW hn
  have k0 := itn_any t
  have HH := hidden h
  have HW := hidden (fun W (hW : Below w.heap.size w W) => h.below hW)
  clear h
  cases hs : ssB l with
  | false =>
    rw [hs] at k1
    have HN : Hid (trayState l t = -1) := trayState_no (fun z => by rw [hs] at z; cases z.1)
    clear hs
    go_enter Try.func31, Try.ntmps31
    go_wp2_with (go_at_call 65; refine (k1 _ (HW.out _ (by repeat (first | exact Below.refl _ _ | assumption | refine st_drew ?_ | refine st_drewN ?_ _ | refine Below.setCell ?_ (by first | omega | (simp; done) | (simp; omega)) _ | refine Below.alloc ?_ (by first | omega | (simp; done) | (simp; omega)) _)))).mono ?_; rintro e w1 ⟨rfl, hb1⟩)
    go_ret
    exact ⟨by rw [HN.out]; rfl, hb1⟩
  | true =>
  rw [hs] at k1
  cases ht : prs t with
  | false =>
    rw [ht] at k0
    have HN : Hid (trayState l t = -1) := trayState_no (fun z => prs_f ht z.2)
    clear hs ht
    go_enter Try.func31, Try.ntmps31
    go_wp2_with (first | (go_at_call 65; refine (k1 _ (HW.out _ (by repeat (first | exact Below.refl _ _ | assumption | refine st_drew ?_ | refine st_drewN ?_ _ | refine Below.setCell ?_ (by first | omega | (simp; done) | (simp; omega)) _ | refine Below.alloc ?_ (by first | omega | (simp; done) | (simp; omega)) _)))).mono ?_; rintro e w1 ⟨rfl, hb1⟩) | (go_at_call 73; refine (k0 _).mono ?_; rintro e w2 ⟨rfl, rfl⟩))
    go_ret
    exact ⟨by rw [HN.out]; rfl, hb1⟩
  | true =>
  have htb := prs_iff.1 ht
  rw [ht] at k0
  obtain ⟨t, rfl⟩ : ∃ t' : Nat, t = (t' : Int) := ⟨t.toNat, by omega⟩
  have htl : t < 1000 := by omega
  have hti : (t : Int) < 1000 := by omega
  have hok := of_ssB hs
  have hl2 := hok.1
  have HOK := hidden hok
  have HN : Hid (trayState l t = (rmF rm0 l).st t) := trayState_yes hs htl
  clear hs hok ht htb
  obtain ⟨Z, hZ, hZs, hZ1, hZc⟩ := zroom
  have hbd := built_room hZ
  obtain ⟨hz1, hz2⟩ := zero_of_info hZ
  have hst := fun W => run_storeCells_new (P := Try.prog) W 97 Z Z (by rw [hz2, hZs]) rfl hZ1
  have hsz := sizeRoom
  have HZ := hidden (fun W (hW : w.heap.size ≤ W.heap.size) => room_new hZs hZc W w.heap.size hW)
  clear hZ hz2 hZ1 hZc
  go_enter Try.func31, Try.ntmps31
  go_wp2_with (first | (go_at_call 65; refine (k1 _ (HW.out _ (by repeat (first | exact Below.refl _ _ | assumption | refine st_drew ?_ | refine st_drewN ?_ _ | refine Below.setCell ?_ (by first | omega | (simp; done) | (simp; omega)) _ | refine Below.alloc ?_ (by first | omega | (simp; done) | (simp; omega)) _)))).mono ?_; rintro e w1 ⟨rfl, hb1⟩) | (go_at_call 73; refine (k0 _).mono ?_; rintro e w2 ⟨rfl, rfl⟩))
  go_loopw [19] (fun iv wr => ∃ i : Nat, i ≤ l.length ∧ iv = .int .i64 i ∧ Room wr w.heap.size w1.heap.size i (rmF rm0 (l.take i)) ∧ Below w.heap.size w wr) (fun iv _ => l.length - (intOf iv).toNat)
  case atStart =>
    have hsz1 := hb1.size
    exact ⟨0, Nat.zero_le _, rfl, HZ.out w1 hsz1, hb1.alloc hsz1 _⟩
  case round =>
    clear hbd hz1 hst HZ k1 hZs hsz k0
    have hsz1 := hb1.size
    clear hb1
    obtain ⟨i, hi, rfl, hR, hb⟩ := hrel
    have hszr := hb.size
    by_cases hlt : i < l.length
    · have hlti : (i : Int) < (l.length : Int) := by omega
      obtain ⟨x, hx⟩ := some_of l i hlt
      obtain ⟨g, off, rfl, hg, c0, c1, c2, c3⟩ := step_cells (HH.out.below hb) hx
      have hxo := HOK.out.2 x (List.mem_of_getElem? hx)
      have hM := hidden (rm_take hx)
      have k2 := fun W hW => ido_any w.heap.size w1.heap.size i (rmF rm0 (l.take i)) x hxo W hW (by omega)
      have HRW := hidden (fun W (hW : Below wr.heap.size wr W) => hR.below hW)
      generalize codeS (rmF rm0 (l.take i)) x = C at *
      generalize nxt (rmF rm0 (l.take i)) x = N at *
      unfold aT at k2
      clear hx hxo hR
      go_wp2_with (go_at_call 66; refine (k2 _ (HRW.out _ (by repeat (first | exact Below.refl _ _ | assumption | refine st_drew ?_ | refine st_drewN ?_ _ | refine Below.setCell ?_ (by first | omega | (simp; done) | (simp; omega)) _ | refine Below.alloc ?_ (by first | omega | (simp; done) | (simp; omega)) _)))).mono ?_; rintro e w2 ⟨rfl, hr2, ht2⟩; have b2 := Tf.onto (show Below w.heap.size w _ from by repeat (first | exact Below.refl _ _ | assumption | refine st_drew ?_ | refine st_drewN ?_ _ | refine Below.setCell ?_ (by first | omega | (simp; done) | (simp; omega)) _ | refine Below.alloc ?_ (by first | omega | (simp; done) | (simp; omega)) _)) ht2; clear ht2 k2)
      go_roundw
      case rel => exact ⟨i + 1, by omega, rfl, by rw [hM.out]; exact hr2, b2⟩
      case measure => simp [intOf]; omega
    · have hlti : ¬ (i : Int) < (l.length : Int) := by omega
      have hin : i = l.length := by omega
      subst hin
      rw [List.take_length] at hR
      have c0 := hR.cellSt htl
      rw [← HN.out] at c0
      clear hR
      go_wp2_with fail
      go_ret
      exact ⟨rfl, hb⟩

set_option maxRecDepth 20000 in
set_option maxHeartbeats 4000000 in
theorem straystate_any (ao : Option Addr) (n cap : Nat) (l : List Stp) (t : Int) (w : World) (h : Rw 4 csT w (.slice ao n cap) l) (hn : l.length ≤ 1048576) :
    Calls Try.prog 32 #[.slice ao n cap, .int .i64 t] w fun e w' => e = .returned (.int .i64 (trayState l t)) ∧ Below w.heap.size w w' := by
  obtain rfl := h.len
  have k1 := fun W hW => ssteps_any ao l.length cap l W hW hn
  have k0 := lin_any t 0 999
  rw [show rng t 0 999 = prs t from rfl] at k0
  have HW := hidden (fun W (hW : Below w.heap.size w W) => h.below hW)
  clear h
  cases hs : ssB l with
  | false =>
    rw [hs] at k1
    have HN : Hid (trayState l t = -1) := trayState_no (fun z => by rw [hs] at z; cases z.1)
    clear hs
    go_enter Try.func32, Try.ntmps32
    go_wp2_with (go_at_call 30; refine (k1 _ (HW.out _ (by repeat (first | exact Below.refl _ _ | assumption | refine st_drew ?_ | refine st_drewN ?_ _ | refine Below.setCell ?_ (by first | omega | (simp; done) | (simp; omega)) _ | refine Below.alloc ?_ (by first | omega | (simp; done) | (simp; omega)) _)))).mono ?_; rintro e w1 ⟨rfl, hb1⟩)
    go_ret
    exact ⟨by rw [HN.out]; rfl, hb1⟩
  | true =>
  rw [hs] at k1
  cases ht : prs t with
  | false =>
    rw [ht] at k0
    have HN : Hid (trayState l t = -1) := trayState_no (fun z => prs_f ht z.2)
    clear hs ht
    go_enter Try.func32, Try.ntmps32
    go_wp2_with (first | (go_at_call 30; refine (k1 _ (HW.out _ (by repeat (first | exact Below.refl _ _ | assumption | refine st_drew ?_ | refine st_drewN ?_ _ | refine Below.setCell ?_ (by first | omega | (simp; done) | (simp; omega)) _ | refine Below.alloc ?_ (by first | omega | (simp; done) | (simp; omega)) _)))).mono ?_; rintro e w1 ⟨rfl, hb1⟩) | (go_at_call 41; refine (k0 _).mono ?_; rintro e w2 ⟨rfl, rfl⟩))
    go_ret
    exact ⟨by rw [HN.out]; rfl, hb1⟩
  | true =>
  have htb := prs_iff.1 ht
  rw [ht] at k0
  obtain ⟨t, rfl⟩ : ∃ t' : Nat, t = (t' : Int) := ⟨t.toNat, by omega⟩
  have htl : t < 1000 := by omega
  have hti : (t : Int) < 1000 := by omega
  have hok := of_ssB hs
  have HN : Hid (trayState l t = (rmF rm0 l).st t) := trayState_yes hs htl
  have k2 := fun W hW => srun_any ao l.length cap l W hW hok
  have hfl := fld2
  clear hs hok ht htb
  go_enter Try.func32, Try.ntmps32
  go_wp2_with (first | (go_at_call 30; refine (k1 _ (HW.out _ (by repeat (first | exact Below.refl _ _ | assumption | refine st_drew ?_ | refine st_drewN ?_ _ | refine Below.setCell ?_ (by first | omega | (simp; done) | (simp; omega)) _ | refine Below.alloc ?_ (by first | omega | (simp; done) | (simp; omega)) _)))).mono ?_; rintro e w1 ⟨rfl, hb1⟩) | (go_at_call 41; refine (k0 _).mono ?_; rintro e w2 ⟨rfl, rfl⟩) | (go_at_call 67; refine (k2 _ (HW.out _ (by repeat (first | exact Below.refl _ _ | assumption | refine st_drew ?_ | refine st_drewN ?_ _ | refine Below.setCell ?_ (by first | omega | (simp; done) | (simp; omega)) _ | refine Below.alloc ?_ (by first | omega | (simp; done) | (simp; omega)) _)))).mono ?_; rintro e w3 ⟨cv, bv, S, C, rfl, ho1, ho2, hT, hb3⟩; have c0 : w3.cell? ⟨S, t, none⟩ = some (.int .i64 (trayState l t)) := (by rw [HN.out]; exact hT.cell htl); have b3 := onto hb1 hb3; clear ho1 ho2 hT hb3))
  go_ret
  exact ⟨rfl, b3⟩
end Go.Proofs.Ytklgadaefngnnaa
