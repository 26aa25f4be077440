/-
  The clashes of a list, told.
-/
import Derived.Test.YtcapmobhgffnhaaOg
import Derived.Test.YtcapmobhgffnhaaOk
import Derived.Laws.AppendOwn
import Derived.Deep.CutRange
namespace Go.Proofs.Ytcapmobhgffnhaa
open Go.RowKit Va Oa
set_option linter.unusedVariables false

def csC (x : Cl) (k : Nat) : Int := match k with | 0 => x.a | 1 => x.b | _ => x.w
theorem infoClash : (Try.prog.info? 33).map (fun i => (i.zero, i.size, i.bytes)) = some (some (.agg #[.int .i64 0, .int .i64 0, .int .i64 0]), 3, 24) := by kernel_rfl
theorem cells_cl (l : List Cl) (x : Cl) : cellsL 3 csC (l ++ [x]) = cellsL 3 csC l ++ [.int .i64 x.a, .int .i64 x.b, .int .i64 x.w] := by rw [cellsL_app]; rfl
theorem cell3O (w : World) (a b c : Value) (t : TypeId) : ∀ (j : Nat) (u : Value), [a, b, c][j]? = some u → (w.alloc (.cells #[a, b, c] t)).cell? ((⟨w.heap.size, 0, none⟩ : Addr).add j) = some u := fun j u hu => by
  have e0 := heap_alloc_new w (Obj.cells #[a, b, c] t)
  have e1 : (w.alloc (.cells #[a, b, c] t)).cell? ((⟨w.heap.size, 0, none⟩ : Addr).add j) = [a, b, c][j]? := by
    rw [Addr.add_lit, Nat.zero_add]
    simp only [World.cell?, e0]
    simp
  rw [e1, hu]
theorem three_oneO (a b c : Int) : ∀ u ∈ [Value.int .i64 a, .int .i64 b, .int .i64 c], u.oneCell' = true := by
  intro u hu
  simp only [List.mem_cons, List.not_mem_nil, or_false] at hu
  rcases hu with rfl | rfl | rfl <;> rfl
theorem ownO_below {w w' : World} {base e s n : Nat} {v : Value} {xs : List Value} (h : w.ownsRow base e s v n xs) (hb : Below w.heap.size w w') : w'.ownsRow base e s v n xs := by
  obtain ⟨q, ⟨q1, q2⟩ | ⟨g, c, cur, rfl, hg, hh, r⟩⟩ := h
  · exact ⟨q, Or.inl ⟨q1, q2⟩⟩
  · exact ⟨q, Or.inr ⟨g, c, cur, rfl, hg, (hb.block g (Array.getElem?_eq_some_iff.1 hh).1).trans hh, r⟩⟩
theorem ownO_lt {w : World} {b e s n : Nat} {v : Value} {xs : List Value} (h : w.ownsRow b e s v n xs) : ∀ k, v.ownBlock = some k → b ≤ k ∧ k < w.heap.size := by
  obtain ⟨_, ⟨rfl, _⟩ | ⟨g, cap, cur, rfl, hb, hh, _⟩⟩ := h
  · intro k hk; cases hk
  · intro k hk; cases hk; exact ⟨hb, (Array.getElem?_eq_some_iff.1 hh).1⟩
theorem ownO_slice {w : World} {b e s n : Nat} {v : Value} {xs : List Value} (h : w.ownsRow b e s v n xs) : ∃ ad c, v = .slice ad n c := by
  obtain ⟨_, ⟨rfl, rfl⟩ | ⟨g, cap, cur, rfl, _⟩⟩ := h
  · exact ⟨_, _, rfl⟩
  · exact ⟨_, _, rfl⟩
theorem ownO_new (w : World) (t : TypeId) (s : Nat) : (w.alloc (.cells #[] t)).ownsRow w.heap.size t s (.slice (some ⟨w.heap.size, 0, none⟩) 0 0) 0 [] :=
  ⟨by simp, .inr ⟨w.heap.size, 0, #[], rfl, Nat.le_refl _, heap_alloc_new w _, Nat.le_refl _, Nat.zero_le _, by simp, by simp⟩⟩
/-- A box of a type. -/
def TBox (W : World) (B : Nat) (vs : Array Value) (t : TypeId) : Prop := W.heap[B]? = some (.cells vs t)
theorem TBox.below {W W' : World} {B : Nat} {vs : Array Value} {t : TypeId} (h : TBox W B vs t) (hb : Below W.heap.size W W') : TBox W' B vs t := (hb.block B (Array.getElem?_eq_some_iff.1 h).1).trans h
theorem TBox.lt {W : World} {B : Nat} {vs : Array Value} {t : TypeId} (h : TBox W B vs t) : B < W.heap.size := (Array.getElem?_eq_some_iff.1 h).1
theorem TBox.cell {W : World} {B : Nat} {vs : Array Value} {t : TypeId} (h : TBox W B vs t) (j : Nat) : W.cell? ⟨B, j, none⟩ = vs[j]? := by
  unfold TBox at h
  simp only [World.cell?, h]
  rfl
theorem TBox.ne {W : World} {B : Nat} {vs : Array Value} {t : TypeId} (h : TBox W B vs t) {b e s n : Nat} {v : Value} {xs : List Value} (ho : W.ownsRow b e s v n xs) (hne : t ≠ e) : ∀ k, v.ownBlock = some k → k ≠ B := by
  obtain ⟨_, ⟨rfl, _⟩ | ⟨g, cap, cur, rfl, hb, hh, _⟩⟩ := ho
  · intro k hk; cases hk
  · intro k hk
    obtain rfl : g = k := Option.some.inj hk
    intro e'
    subst e'
    unfold TBox at h
    rw [h] at hh
    have := Option.some.inj hh
    injection this with _ h5
    exact hne h5
theorem TBox.grown {W W' : World} {B : Nat} {vs : Array Value} {t : TypeId} {r : Option Nat} (h : TBox W B vs t) (hg : W.grownBy W' r) (hr : ∀ k, r = some k → k ≠ B) : TBox W' B vs t :=
  (hg.block B h.lt (fun e => hr B e.symm rfl)).trans h
/-- An append leaves the elder blocks but its own. -/
theorem grown_belowO {w0 w w' : World} {v : Value} {b : Nat} (h : Below b w0 w) (hl : b ≤ w.heap.size) (hg : w.grownBy w' v.ownBlock) (hv : ∀ k, v.ownBlock = some k → b ≤ k) : Below b w0 w' := h.grown hg hl (fun k hk => hv k hk)

set_option maxRecDepth 20000 in
set_option maxHeartbeats 8000000 in
theorem iclash_any (ao : Option Addr) (n cap : Nat) (l : List Opn) (r : Int) (w : World) (h : ORw w (.slice ao n cap) l) (hn : l.length ≤ 1048576) (ht : ∀ x ∈ l, x.team.length ≤ 1048576) :
    Calls Try.prog 11 #[.slice ao n cap, .int .i64 r] w fun e w' => ∃ ad c, e = .returned (.slice ad (clash l r).length c) ∧ w'.ownsRow w.heap.size 33 3 (.slice ad (clash l r).length c) (clash l r).length (cellsL 3 csC (clash l r)) ∧ Below w.heap.size w w' := by
  obtain rfl := h.len
  have k1 := fun W hW => iops_any ao l.length cap l W hW hn ht
  have k2 := irest_any r
  have HH := hidden h
  have HT := hidden ht
  have HW := hidden (fun W (hW : Below w.heap.size w W) => h.below hW)
  obtain ⟨i0, hi0, hv0, hv1, hv2⟩ := info_partsO infoClash
  clear h ht
  cases hs : osB l with
  | false =>
    rw [hs] at k1
    have HN : Hid (clash l r = []) := clash_no (fun z => by rw [osB_true z.1] at hs; cases hs)
    clear hs
    go_enter Try.func11, Try.ntmps11
    go_wp2_with (go_at_call 35; refine (k1 _ (HW.out _ (by repeat (first | exact Below.refl _ _ | assumption | refine st_drew ?_ | refine st_drewN ?_ _ | refine Below.setCell ?_ (by first | omega | (simp; done) | (simp; omega)) _ | refine Below.alloc ?_ (by first | omega | (simp; done) | (simp; omega)) _)))).mono ?_; rintro e w1 ⟨rfl, hb1⟩; have hq1 := ownO_below (ownO_new w 33 3) hb1; have bA := onto (show Below w.heap.size w _ from by repeat (first | exact Below.refl _ _ | assumption | refine st_drew ?_ | refine st_drewN ?_ _ | refine Below.setCell ?_ (by first | omega | (simp; done) | (simp; omega)) _ | refine Below.alloc ?_ (by first | omega | (simp; done) | (simp; omega)) _)) hb1)
    go_ret
    rw [HN.out]
    exact ⟨_, _, rfl, hq1, bA⟩
  | true =>
  rw [hs] at k1
  have hok := of_osB hs
  clear hs
  cases hr : rng r 0 1440 with
  | false =>
    rw [hr] at k2
    have HN : Hid (clash l r = []) := clash_no (fun z => by have := rng_iff.2 z.2; rw [hr] at this; cases this)
    clear hr
    go_enter Try.func11, Try.ntmps11
    go_wp2_with (first | (go_at_call 35; refine (k1 _ (HW.out _ (by repeat (first | exact Below.refl _ _ | assumption | refine st_drew ?_ | refine st_drewN ?_ _ | refine Below.setCell ?_ (by first | omega | (simp; done) | (simp; omega)) _ | refine Below.alloc ?_ (by first | omega | (simp; done) | (simp; omega)) _)))).mono ?_; rintro e w1 ⟨rfl, hb1⟩; have hq1 := ownO_below (ownO_new w 33 3) hb1; have bA := onto (show Below w.heap.size w _ from by repeat (first | exact Below.refl _ _ | assumption | refine st_drew ?_ | refine st_drewN ?_ _ | refine Below.setCell ?_ (by first | omega | (simp; done) | (simp; omega)) _ | refine Below.alloc ?_ (by first | omega | (simp; done) | (simp; omega)) _)) hb1) | (go_at_call 36; refine (k2 _).mono ?_; rintro e w2 ⟨rfl, rfl⟩))
    go_ret
    rw [HN.out]
    exact ⟨_, _, rfl, hq1, bA⟩
  | true =>
  rw [hr] at k2
  have hrr := rng_iff.1 hr
  have HOK := hidden hok
  have HN : Hid (clash l r = upto l r l.length) := clash_yes hok hrr
  have hl2 := hok.1
  clear hr hok
  go_enter Try.func11, Try.ntmps11
  go_wp2_with (first | (go_at_call 35; refine (k1 _ (HW.out _ (by repeat (first | exact Below.refl _ _ | assumption | refine st_drew ?_ | refine st_drewN ?_ _ | refine Below.setCell ?_ (by first | omega | (simp; done) | (simp; omega)) _ | refine Below.alloc ?_ (by first | omega | (simp; done) | (simp; omega)) _)))).mono ?_; rintro e w1 ⟨rfl, hb1⟩; have hq1 := ownO_below (ownO_new w 33 3) hb1; have bA := onto (show Below w.heap.size w _ from by repeat (first | exact Below.refl _ _ | assumption | refine st_drew ?_ | refine st_drewN ?_ _ | refine Below.setCell ?_ (by first | omega | (simp; done) | (simp; omega)) _ | refine Below.alloc ?_ (by first | omega | (simp; done) | (simp; omega)) _)) hb1) | (go_at_call 36; refine (k2 _).mono ?_; rintro e w2 ⟨rfl, rfl⟩))
  go_loopw [5, 6, 7, 8, 9, 22] (fun sv _ _ _ _ iv wr => ∃ (i : Nat) (out : List Cl), i ≤ l.length ∧ iv = .int .i64 i ∧ Hid (out = upto l r i) ∧ (∃ ad c, sv = .slice ad out.length c ∧ wr.ownsRow w.heap.size 33 3 (.slice ad out.length c) out.length (cellsL 3 csC out)) ∧ Below w.heap.size w wr) (fun _ _ _ _ _ iv _ => l.length - (intOf iv).toNat)
  case atStart => exact ⟨0, [], Nat.zero_le _, rfl, rfl, ⟨_, _, rfl, hq1⟩, bA⟩
  case round =>
    clear hq1 bA k1 k2
    obtain ⟨i, out, hi, rfl, HO, ⟨ad, c, rfl, ho⟩, hb⟩ := hrel
    have hsz := hb.size
    by_cases hlt : i < l.length
    · have hlti : (i : Int) < (l.length : Int) := by omega
      obtain ⟨x, hx⟩ := some_of l i hlt
      obtain ⟨g, off, ta, tc, rfl, hg, hrow, m0, m1, m2, m3⟩ := HH.out.at hx
      have c0 := (hb.cell (p := ⟨g, off + i * 4, none⟩) hg).trans m0
      have c1 := (hb.cell (p := ⟨g, off + i * 4 + 1, none⟩) hg).trans m1
      have c2 := (hb.cell (p := ⟨g, off + i * 4 + 2, none⟩) hg).trans m2
      have c3 := (hb.cell (p := ⟨g, off + i * 4 + 3, none⟩) hg).trans m3
      have hgr : g < wr.heap.size := Nat.lt_of_lt_of_le hg hsz
      have P0 := hidden m0
      have P1 := hidden m1
      have P2 := hidden m2
      have P3 := hidden m3
      clear m0 m1 m2 m3
      have hxo := HOK.out.at hx
      obtain ⟨-, hx1, hx2, hx3, hx4⟩ := of_opB hxo
      have hxl := hx4.2.1
      have HU := hidden (upto_succ (r := r) hx)
      have HX := hidden hx
      have HXO := hidden hxo
      have HR1 := hidden (fun W (hW : Below w.heap.size w W) => hrow.below hW)
      clear hx hx4 hxo hrow
      go_wp2_with fail
      go_loopw [5, 8, 9] (fun sv kv _ wx => ∃ (k : Nat) (out : List Cl), i + 1 ≤ k ∧ k ≤ l.length ∧ kv = .int .i64 k ∧ Hid (out = upto l r i ++ inner l r i x k) ∧ (∃ ad c, sv = .slice ad out.length c ∧ wx.ownsRow w.heap.size 33 3 (.slice ad out.length c) out.length (cellsL 3 csC out)) ∧ Below w.heap.size w wx ∧ TBox wx wr.heap.size #[.int .i64 x.room, .int .i64 x.fr, .int .i64 x.to, .slice ta x.team.length tc] 31) (fun _ kv _ _ => l.length - (intOf kv).toNat)
      case atStart => exact ⟨i + 1, out, Nat.le_refl _, by omega, rfl, by rw [Hid, inner_nil l r i x (i + 1) (Nat.le_refl _), List.append_nil]; exact HO.out, ⟨_, _, rfl, ownO_below ho (by repeat (first | exact Below.refl _ _ | assumption | refine st_drew ?_ | refine st_drewN ?_ _ | refine Below.setCell ?_ (by first | omega | (simp; done) | (simp; omega)) _ | refine Below.alloc ?_ (by first | omega | (simp; done) | (simp; omega)) _))⟩, by repeat (first | exact Below.refl _ _ | assumption | refine st_drew ?_ | refine st_drewN ?_ _ | refine Below.setCell ?_ (by first | omega | (simp; done) | (simp; omega)) _ | refine Below.alloc ?_ (by first | omega | (simp; done) | (simp; omega)) _), heap_alloc_new _ _⟩
      case round =>
        clear ho HO hb hsz c0 c1 c2 c3 hgr
        obtain ⟨k, out2, hik, hkl, rfl, HO2, ⟨ad2, cc2, rfl, ho2⟩, hbx, hBX⟩ := hrel
        have hsx := hbx.size
        have hout : out2.length ≤ 80400 := by
          rw [HO2.out, List.length_append]
          have z1 := upto_len l r i
          have z2 := inner_len l r i x k
          have z3 : i * l.length ≤ 200 * 200 := Nat.mul_le_mul (by omega) hl2
          omega
        by_cases hklt : k < l.length
        · have hklti : (k : Int) < (l.length : Int) := by omega
          obtain ⟨y, hy⟩ := some_of l k hklt
          obtain ⟨g', off', tb, td, hgo, hg', hrow2, e0, e1, e2, e3⟩ := (HH.out.below hbx).at hy
          obtain ⟨rfl, rfl⟩ : g = g' ∧ off = off' := by simpa using hgo
          have hyo := HOK.out.at hy
          obtain ⟨-, hy1, hy2, hy3, hy4⟩ := of_opB hyo
          have hyl := hy4.2.1
          have hK := fun W hW1 hW2 => iwhy_any x y ta x.team.length tc tb y.team.length td r W (tms_of HXO.out) (tms_of hyo) hrr hW1 hW2 (by omega) (by omega)
          unfold aO at hK
          have HR2 := hidden (fun W (hW : Below wr.heap.size wr W) => hrow2.below hW)
          have HY := hidden hy
          have d0 := hBX.cell 0
          have d1 := hBX.cell 1
          have d2 := hBX.cell 2
          have d3 := hBX.cell 3
          have dl := hBX.lt
          simp only [List.getElem?_toArray, List.getElem?_cons_zero, List.getElem?_cons_succ] at d0 d1 d2 d3
          have hki : ¬ (i : Int) < 0 := by omega
          clear hy hy4 hrow2 hgo
          go_upto_region 10 with fail
          go_cut [9] from 29 to 50 (fun wv wx => wv = .int .i64 (why x y r) ∧ Below wr.heap.size wr wx)
          case first =>
            first | go_region_with (go_at_call 37; refine (hK _ (HR1.out _ (by repeat (first | exact Below.refl _ _ | assumption | refine st_drew ?_ | refine st_drewN ?_ _ | refine Below.setCell ?_ (by first | omega | (simp; done) | (simp; omega)) _ | refine Below.alloc ?_ (by first | omega | (simp; done) | (simp; omega)) _))) (HR2.out _ (by repeat (first | exact Below.refl _ _ | assumption | refine st_drew ?_ | refine st_drewN ?_ _ | refine Below.setCell ?_ (by first | omega | (simp; done) | (simp; omega)) _ | refine Below.alloc ?_ (by first | omega | (simp; done) | (simp; omega)) _)))).mono ?_; rintro e w1 ⟨rfl, hb1⟩; have bD := onto (show Below wr.heap.size wr _ from by repeat (first | exact Below.refl _ _ | assumption | refine st_drew ?_ | refine st_drewN ?_ _ | refine Below.setCell ?_ (by first | omega | (simp; done) | (simp; omega)) _ | refine Below.alloc ?_ (by first | omega | (simp; done) | (simp; omega)) _)) hb1; clear hb1) | fail
            all_goals go_wp2_with fail
            all_goals go_meet
            all_goals exact ⟨rfl, by repeat (first | exact Below.refl _ _ | assumption | refine st_drew ?_ | refine st_drewN ?_ _ | refine Below.setCell ?_ (by first | omega | (simp; done) | (simp; omega)) _ | refine Below.alloc ?_ (by first | omega | (simp; done) | (simp; omega)) _)⟩
          case rest =>
            obtain ⟨rfl, bD⟩ := hcut
            have bA := onto hbx bD
            have z1 := bA.size
            have ho3 := hidden (ownO_below ho2 bD)
            by_cases q : why x y r = 0
            · have HQ : Hid (out2 = upto l r i ++ inner l r i x (k + 1)) := by rw [Hid, inner_no (by omega) HY.out q]; exact HO2.out
              rw [q]
              clear HO2 q
              go_wp2_with fail
              go_roundw
              case rel => exact ⟨k + 1, out2, by omega, by omega, rfl, HQ, ⟨_, _, rfl, ho3.out⟩, by repeat (first | exact Below.refl _ _ | assumption | refine st_drew ?_ | refine st_drewN ?_ _ | refine Below.setCell ?_ (by first | omega | (simp; done) | (simp; omega)) _ | refine Below.alloc ?_ (by first | omega | (simp; done) | (simp; omega)) _), hBX.below bD⟩
              case measure => simp [intOf]; omega
            · have HQ : Hid (out2 ++ [⟨i, k, why x y r⟩] = upto l r i ++ inner l r i x (k + 1)) := by rw [Hid, inner_yes (by omega) HY.out q, HO2.out, List.append_assoc]
              have hpos : 0 < why x y r := by have := why_bd x y r; omega
              generalize why x y r = wy at *
              have hq2 : (wy == 0) = false := by simpa using q
              clear HO2
              go_wp2_with (at_builtin; refine wpList_append_own _ rfl (.tmp 44) (.tmp 49) 27 rfl w.heap.size 33 i0 (.agg #[.int .i64 0, .int .i64 0, .int .i64 0]) 3 24 Try.underlying27 hi0 hv0 hv1 hv2 rfl (by decide) _ out2.length (cellsL 3 csC out2) rfl (ho3.out.alloc _) ⟨wc.heap.size, 0, none⟩ 1 1 [.int .i64 i, .int .i64 k, .int .i64 wy] rfl rfl (cell3O _ _ _ _ _) (three_oneO _ _ _) (by unfold maxLen; omega) (by omega) (by simp; omega) ?_; intro v4 w4 ho4 hg4 hnn4; obtain ⟨ad4, c4, rfl⟩ := ownO_slice ho4)
              have b4 := grown_belowO (show Below w.heap.size w _ from by repeat (first | exact Below.refl _ _ | assumption | refine st_drew ?_ | refine st_drewN ?_ _ | refine Below.setCell ?_ (by first | omega | (simp; done) | (simp; omega)) _ | refine Below.alloc ?_ (by first | omega | (simp; done) | (simp; omega)) _)) (by simp; omega) hg4 (fun k hk => (ownO_lt ho2 k hk).1)
              go_roundw
              case rel => exact ⟨k + 1, out2 ++ [⟨i, k, wy⟩], by omega, by omega, rfl, HQ, ⟨ad4, c4, by rw [List.length_append]; rfl, by rw [cells_cl, List.length_append]; exact ho4⟩, b4, ((hBX.below bD).below ((Below.refl _ _).alloc (Nat.le_refl _) _)).grown hg4 (fun k hk => (hBX.ne ho2 (by decide)) k hk)⟩
              case measure => simp [intOf]; omega
        · have hklti : ¬ (k : Int) < (l.length : Int) := by omega
          have hke : k = l.length := by omega
          have HQ : Hid (out2 = upto l r (i + 1)) := by rw [Hid, HU.out, ← hke]; exact HO2.out
          go_wp2_with fail
          go_roundw
          case rel => exact ⟨i + 1, out2, by omega, rfl, HQ, ⟨_, _, rfl, ho2⟩, hbx⟩
          case measure => simp [intOf]; omega
    · have hlti : ¬ (i : Int) < (l.length : Int) := by omega
      have hil : i = l.length := by omega
      have HF : Hid (clash l r = out) := by rw [Hid, HN.out, HO.out, hil]
      go_wp2_with fail
      go_ret
      rw [HF.out]
      exact ⟨_, _, rfl, ho, hb⟩

set_option maxRecDepth 20000 in
set_option maxHeartbeats 8000000 in
theorem sclash_any (ao : Option Addr) (n cap : Nat) (l : List Opn) (r : Int) (w : World) (h : ORw w (.slice ao n cap) l) (hn : l.length ≤ 1048576) (ht : ∀ x ∈ l, x.team.length ≤ 1048576) :
    Calls Try.prog 12 #[.slice ao n cap, .int .i64 r] w fun e w' => ∃ ad c, e = .returned (.slice ad (clash l r).length c) ∧ w'.ownsRow w.heap.size 33 3 (.slice ad (clash l r).length c) (clash l r).length (cellsL 3 csC (clash l r)) ∧ Below w.heap.size w w' := by
  obtain rfl := h.len
  have k1 := fun W hW => sops_any ao l.length cap l W hW hn ht
  have k2 := fun W => (lin_any r 0 1440 W).mono (fun e w' (h : _ ∧ _) => (⟨h.1, h.2.symm⟩ : _ ∧ w' = W))
  have HH := hidden h
  have HT := hidden ht
  have HW := hidden (fun W (hW : Below w.heap.size w W) => h.below hW)
  obtain ⟨i0, hi0, hv0, hv1, hv2⟩ := info_partsO infoClash
  clear h ht
  cases hs : osB l with
  | false =>
    rw [hs] at k1
    have HN : Hid (clash l r = []) := clash_no (fun z => by rw [osB_true z.1] at hs; cases hs)
    clear hs
    go_enter Try.func12, Try.ntmps12
    go_wp2_with (go_at_call 38; refine (k1 _ (HW.out _ (by repeat (first | exact Below.refl _ _ | assumption | refine st_drew ?_ | refine st_drewN ?_ _ | refine Below.setCell ?_ (by first | omega | (simp; done) | (simp; omega)) _ | refine Below.alloc ?_ (by first | omega | (simp; done) | (simp; omega)) _)))).mono ?_; rintro e w1 ⟨rfl, hb1⟩; have hq1 := ownO_below (ownO_new w 33 3) hb1; have bA := onto (show Below w.heap.size w _ from by repeat (first | exact Below.refl _ _ | assumption | refine st_drew ?_ | refine st_drewN ?_ _ | refine Below.setCell ?_ (by first | omega | (simp; done) | (simp; omega)) _ | refine Below.alloc ?_ (by first | omega | (simp; done) | (simp; omega)) _)) hb1)
    go_ret
    rw [HN.out]
    exact ⟨_, _, rfl, hq1, bA⟩
  | true =>
  rw [hs] at k1
  have hok := of_osB hs
  clear hs
  cases hr : rng r 0 1440 with
  | false =>
    rw [hr] at k2
    have HN : Hid (clash l r = []) := clash_no (fun z => by have := rng_iff.2 z.2; rw [hr] at this; cases this)
    clear hr
    go_enter Try.func12, Try.ntmps12
    go_wp2_with (first | (go_at_call 38; refine (k1 _ (HW.out _ (by repeat (first | exact Below.refl _ _ | assumption | refine st_drew ?_ | refine st_drewN ?_ _ | refine Below.setCell ?_ (by first | omega | (simp; done) | (simp; omega)) _ | refine Below.alloc ?_ (by first | omega | (simp; done) | (simp; omega)) _)))).mono ?_; rintro e w1 ⟨rfl, hb1⟩; have hq1 := ownO_below (ownO_new w 33 3) hb1; have bA := onto (show Below w.heap.size w _ from by repeat (first | exact Below.refl _ _ | assumption | refine st_drew ?_ | refine st_drewN ?_ _ | refine Below.setCell ?_ (by first | omega | (simp; done) | (simp; omega)) _ | refine Below.alloc ?_ (by first | omega | (simp; done) | (simp; omega)) _)) hb1) | (go_at_call 39; refine (k2 _).mono ?_; rintro e w2 ⟨rfl, rfl⟩))
    go_ret
    rw [HN.out]
    exact ⟨_, _, rfl, hq1, bA⟩
  | true =>
  rw [hr] at k2
  have hrr := rng_iff.1 hr
  have HOK := hidden hok
  have HN : Hid (clash l r = upto l r l.length) := clash_yes hok hrr
  have hl2 := hok.1
  clear hr hok
  go_enter Try.func12, Try.ntmps12
  go_wp2_with (first | (go_at_call 38; refine (k1 _ (HW.out _ (by repeat (first | exact Below.refl _ _ | assumption | refine st_drew ?_ | refine st_drewN ?_ _ | refine Below.setCell ?_ (by first | omega | (simp; done) | (simp; omega)) _ | refine Below.alloc ?_ (by first | omega | (simp; done) | (simp; omega)) _)))).mono ?_; rintro e w1 ⟨rfl, hb1⟩; have hq1 := ownO_below (ownO_new w 33 3) hb1; have bA := onto (show Below w.heap.size w _ from by repeat (first | exact Below.refl _ _ | assumption | refine st_drew ?_ | refine st_drewN ?_ _ | refine Below.setCell ?_ (by first | omega | (simp; done) | (simp; omega)) _ | refine Below.alloc ?_ (by first | omega | (simp; done) | (simp; omega)) _)) hb1) | (go_at_call 39; refine (k2 _).mono ?_; rintro e w2 ⟨rfl, rfl⟩))
  go_loopw [5, 6, 7, 8] (fun sv iv _ _ wr => ∃ (i : Nat) (out : List Cl), i ≤ l.length ∧ iv = .int .i64 i ∧ Hid (out = upto l r i) ∧ (∃ ad c, sv = .slice ad out.length c ∧ wr.ownsRow w.heap.size 33 3 (.slice ad out.length c) out.length (cellsL 3 csC out)) ∧ Below w.heap.size w wr) (fun _ iv _ _ _ => l.length - (intOf iv).toNat)
  case atStart => exact ⟨0, [], Nat.zero_le _, rfl, rfl, ⟨_, _, rfl, hq1⟩, bA⟩
  case round =>
    clear hq1 bA k1 k2
    obtain ⟨i, out, hi, rfl, HO, ⟨ad, c, rfl, ho⟩, hb⟩ := hrel
    have hsz := hb.size
    by_cases hlt : i < l.length
    · have hlti : (i : Int) < (l.length : Int) := by omega
      obtain ⟨x, hx⟩ := some_of l i hlt
      obtain ⟨g, off, ta, tc, rfl, hg, hrow, m0, m1, m2, m3⟩ := HH.out.at hx
      have c0 := (hb.cell (p := ⟨g, off + i * 4, none⟩) hg).trans m0
      have c1 := (hb.cell (p := ⟨g, off + i * 4 + 1, none⟩) hg).trans m1
      have c2 := (hb.cell (p := ⟨g, off + i * 4 + 2, none⟩) hg).trans m2
      have c3 := (hb.cell (p := ⟨g, off + i * 4 + 3, none⟩) hg).trans m3
      have hgr : g < wr.heap.size := Nat.lt_of_lt_of_le hg hsz
      have P0 := hidden m0
      have P1 := hidden m1
      have P2 := hidden m2
      have P3 := hidden m3
      clear m0 m1 m2 m3
      have hxo := HOK.out.at hx
      obtain ⟨-, hx1, hx2, hx3, hx4⟩ := of_opB hxo
      have hxl := hx4.2.1
      have HU := hidden (upto_succ (r := r) hx)
      have HX := hidden hx
      have HXO := hidden hxo
      have HR1 := hidden (fun W (hW : Below w.heap.size w W) => hrow.below hW)
      clear hx hx4 hxo hrow
      go_wp2_with fail
      go_loopw [5, 7, 8] (fun sv kv _ wx => ∃ (k : Nat) (out : List Cl), i + 1 ≤ k ∧ k ≤ l.length ∧ kv = .int .i64 k ∧ Hid (out = upto l r i ++ inner l r i x k) ∧ (∃ ad c, sv = .slice ad out.length c ∧ wx.ownsRow w.heap.size 33 3 (.slice ad out.length c) out.length (cellsL 3 csC out)) ∧ Below w.heap.size w wx) (fun _ kv _ _ => l.length - (intOf kv).toNat)
      case atStart => exact ⟨i + 1, out, Nat.le_refl _, by omega, rfl, by rw [Hid, inner_nil l r i x (i + 1) (Nat.le_refl _), List.append_nil]; exact HO.out, ⟨_, _, rfl, ownO_below ho (by repeat (first | exact Below.refl _ _ | assumption | refine st_drew ?_ | refine st_drewN ?_ _ | refine Below.setCell ?_ (by first | omega | (simp; done) | (simp; omega)) _ | refine Below.alloc ?_ (by first | omega | (simp; done) | (simp; omega)) _))⟩, by repeat (first | exact Below.refl _ _ | assumption | refine st_drew ?_ | refine st_drewN ?_ _ | refine Below.setCell ?_ (by first | omega | (simp; done) | (simp; omega)) _ | refine Below.alloc ?_ (by first | omega | (simp; done) | (simp; omega)) _)⟩
      case round =>
        clear ho HO hb hsz c0 c1 c2 c3 hgr
        obtain ⟨k, out2, hik, hkl, rfl, HO2, ⟨ad2, cc2, rfl, ho2⟩, hbx⟩ := hrel
        have hsx := hbx.size
        have hout : out2.length ≤ 80400 := by
          rw [HO2.out, List.length_append]
          have z1 := upto_len l r i
          have z2 := inner_len l r i x k
          have z3 : i * l.length ≤ 200 * 200 := Nat.mul_le_mul (by omega) hl2
          omega
        by_cases hklt : k < l.length
        · have hklti : (k : Int) < (l.length : Int) := by omega
          obtain ⟨y, hy⟩ := some_of l k hklt
          obtain ⟨g', off', tb, td, hgo, hg', hrow2, e0, e1, e2, e3⟩ := (HH.out.below hbx).at hy
          obtain ⟨rfl, rfl⟩ : g = g' ∧ off = off' := by simpa using hgo
          obtain ⟨g3, off3, tx3, tc3, hgo3, -, -, m0, m1, m2, m3⟩ := HH.out.at HX.out
          obtain ⟨rfl, rfl⟩ : g = g3 ∧ off = off3 := by simpa using hgo3
          have f0 := (hbx.cell (p := ⟨g, off + i * 4, none⟩) hg).trans P0.out
          have f1 := (hbx.cell (p := ⟨g, off + i * 4 + 1, none⟩) hg).trans P1.out
          have f2 := (hbx.cell (p := ⟨g, off + i * 4 + 2, none⟩) hg).trans P2.out
          have f3 := (hbx.cell (p := ⟨g, off + i * 4 + 3, none⟩) hg).trans P3.out
          clear hgo3 m0 m1 m2 m3
          have hyo := HOK.out.at hy
          obtain ⟨-, hy1, hy2, hy3, hy4⟩ := of_opB hyo
          have hyl := hy4.2.1
          have hK := fun W hW1 hW2 => swhy_any x y ta x.team.length tc tb y.team.length td r W (tms_of HXO.out) (tms_of hyo) hrr hW1 hW2 (by omega) (by omega)
          unfold aO at hK
          have HR2 := hidden (fun W (hW : Below wr.heap.size wr W) => hrow2.below hW)
          have HY := hidden hy
          have hki : ¬ (i : Int) < 0 := by omega
          clear hy hy4 hrow2 hgo
          go_upto_region 10 with fail
          go_cut [8] from 27 to 51 (fun wv wx => wv = .int .i64 (why x y r) ∧ Below wr.heap.size wr wx)
          case first =>
            first | go_region_with (go_at_call 40; refine (hK _ (HR1.out _ (by repeat (first | exact Below.refl _ _ | assumption | refine st_drew ?_ | refine st_drewN ?_ _ | refine Below.setCell ?_ (by first | omega | (simp; done) | (simp; omega)) _ | refine Below.alloc ?_ (by first | omega | (simp; done) | (simp; omega)) _))) (HR2.out _ (by repeat (first | exact Below.refl _ _ | assumption | refine st_drew ?_ | refine st_drewN ?_ _ | refine Below.setCell ?_ (by first | omega | (simp; done) | (simp; omega)) _ | refine Below.alloc ?_ (by first | omega | (simp; done) | (simp; omega)) _)))).mono ?_; rintro e w1 ⟨rfl, hb1⟩; have bD := onto (show Below wr.heap.size wr _ from by repeat (first | exact Below.refl _ _ | assumption | refine st_drew ?_ | refine st_drewN ?_ _ | refine Below.setCell ?_ (by first | omega | (simp; done) | (simp; omega)) _ | refine Below.alloc ?_ (by first | omega | (simp; done) | (simp; omega)) _)) hb1; clear hb1) | fail
            all_goals go_wp2_with fail
            all_goals go_meet
            all_goals exact ⟨rfl, by repeat (first | exact Below.refl _ _ | assumption | refine st_drew ?_ | refine st_drewN ?_ _ | refine Below.setCell ?_ (by first | omega | (simp; done) | (simp; omega)) _ | refine Below.alloc ?_ (by first | omega | (simp; done) | (simp; omega)) _)⟩
          case rest =>
            obtain ⟨rfl, bD⟩ := hcut
            have bA := onto hbx bD
            have z1 := bA.size
            have ho3 := hidden (ownO_below ho2 bD)
            by_cases q : why x y r = 0
            · have HQ : Hid (out2 = upto l r i ++ inner l r i x (k + 1)) := by rw [Hid, inner_no (by omega) HY.out q]; exact HO2.out
              rw [q]
              clear HO2 q
              go_wp2_with fail
              go_roundw
              case rel => exact ⟨k + 1, out2, by omega, by omega, rfl, HQ, ⟨_, _, rfl, ho3.out⟩, by repeat (first | exact Below.refl _ _ | assumption | refine st_drew ?_ | refine st_drewN ?_ _ | refine Below.setCell ?_ (by first | omega | (simp; done) | (simp; omega)) _ | refine Below.alloc ?_ (by first | omega | (simp; done) | (simp; omega)) _)⟩
              case measure => simp [intOf]; omega
            · have HQ : Hid (out2 ++ [⟨i, k, why x y r⟩] = upto l r i ++ inner l r i x (k + 1)) := by rw [Hid, inner_yes (by omega) HY.out q, HO2.out, List.append_assoc]
              have hpos : 0 < why x y r := by have := why_bd x y r; omega
              generalize why x y r = wy at *
              have hq2 : (wy == 0) = false := by simpa using q
              clear HO2
              go_wp2_with (at_builtin; refine wpList_append_own _ rfl (.tmp 45) (.tmp 50) 27 rfl w.heap.size 33 i0 (.agg #[.int .i64 0, .int .i64 0, .int .i64 0]) 3 24 Try.underlying27 hi0 hv0 hv1 hv2 rfl (by decide) _ out2.length (cellsL 3 csC out2) rfl (ho3.out.alloc _) ⟨wc.heap.size, 0, none⟩ 1 1 [.int .i64 i, .int .i64 k, .int .i64 wy] rfl rfl (cell3O _ _ _ _ _) (three_oneO _ _ _) (by unfold maxLen; omega) (by omega) (by simp; omega) ?_; intro v4 w4 ho4 hg4 hnn4; obtain ⟨ad4, c4, rfl⟩ := ownO_slice ho4)
              have b4 := grown_belowO (show Below w.heap.size w _ from by repeat (first | exact Below.refl _ _ | assumption | refine st_drew ?_ | refine st_drewN ?_ _ | refine Below.setCell ?_ (by first | omega | (simp; done) | (simp; omega)) _ | refine Below.alloc ?_ (by first | omega | (simp; done) | (simp; omega)) _)) (by simp; omega) hg4 (fun k hk => (ownO_lt ho2 k hk).1)
              go_roundw
              case rel => exact ⟨k + 1, out2 ++ [⟨i, k, wy⟩], by omega, by omega, rfl, HQ, ⟨ad4, c4, by rw [List.length_append]; rfl, by rw [cells_cl, List.length_append]; exact ho4⟩, b4⟩
              case measure => simp [intOf]; omega
        · have hklti : ¬ (k : Int) < (l.length : Int) := by omega
          have hke : k = l.length := by omega
          have HQ : Hid (out2 = upto l r (i + 1)) := by rw [Hid, HU.out, ← hke]; exact HO2.out
          go_wp2_with fail
          go_roundw
          case rel => exact ⟨i + 1, out2, by omega, rfl, HQ, ⟨_, _, rfl, ho2⟩, hbx⟩
          case measure => simp [intOf]; omega
    · have hlti : ¬ (i : Int) < (l.length : Int) := by omega
      have hil : i = l.length := by omega
      have HF : Hid (clash l r = out) := by rw [Hid, HN.out, HO.out, hil]
      go_wp2_with fail
      go_ret
      rw [HF.out]
      exact ⟨_, _, rfl, ho, hb⟩
end Go.Proofs.Ytcapmobhgffnhaa
