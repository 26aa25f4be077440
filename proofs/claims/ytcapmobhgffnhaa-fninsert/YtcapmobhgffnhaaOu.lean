/-
  A list of copies of operations; those that stay.
-/
import Derived.Test.YtcapmobhgffnhaaOs
namespace Go.Proofs.Ytcapmobhgffnhaa
open Go.RowKit Va Oa
set_option linter.unusedVariables false

theorem two_boxesU (w : World) (a b : Array Value) (t s : TypeId) : TBox ((w.alloc (.cells a t)).alloc (.cells b s)) w.heap.size a t ∧ TBox ((w.alloc (.cells a t)).alloc (.cells b s)) (w.heap.size + 1) b s := by
  constructor
  · exact TBox.below (W := w.alloc (.cells a t)) (heap_alloc_new w _) ((Below.refl _ _).alloc (Nat.le_refl _) _)
  · have : TBox ((w.alloc (.cells a t)).alloc (.cells b s)) (w.alloc (.cells a t)).heap.size b s := heap_alloc_new (w.alloc (.cells a t)) _
    simp only [World.size_alloc] at this
    exact this
/-- Teams in blocks of one's own, no two in one. -/
def Teams (w : World) (base : Nat) (L : List (Opn × Value)) : Prop := (∀ p ∈ L, TOwn w base p) ∧ L.Pairwise (fun p q => ∀ k, p.2.ownBlock = some k → q.2.ownBlock ≠ some k)
theorem Teams.nil (w : World) (base : Nat) : Teams w base [] := ⟨(fun p hp => by cases hp), List.Pairwise.nil⟩
theorem Teams.below {w w' : World} {base : Nat} {L : List (Opn × Value)} (h : Teams w base L) (hb : Below w.heap.size w w') : Teams w' base L := ⟨fun p hp => ownO_below (h.1 p hp) hb, h.2⟩
theorem Teams.grown {w w' : World} {base b2 n : Nat} {L : List (Opn × Value)} {v : Value} {xs : List Value} (h : Teams w base L) (ho : w.ownsRow b2 31 4 v n xs) (hg : w.grownBy w' v.ownBlock) : Teams w' base L := by
  refine ⟨fun p hp => ?_, h.2⟩
  obtain ⟨q, ⟨q1, q2⟩ | ⟨g, c, cur, q1, hgb, hh, r⟩⟩ := h.1 p hp
  · exact ⟨q, Or.inl ⟨q1, q2⟩⟩
  · refine ⟨q, Or.inr ⟨g, c, cur, q1, hgb, (hg.block g (Array.getElem?_eq_some_iff.1 hh).1 (fun e => ?_)).trans hh, r⟩⟩
    exact (TBox.ne (W := w) (B := g) hh ho (by decide)) g e.symm rfl
theorem Teams.snoc {w : World} {base b2 : Nat} {L : List (Opn × Value)} {p : Opn × Value} (h : Teams w base L) (hp : TOwn w b2 p) (hb : base ≤ b2) (hl : ∀ q ∈ L, ∀ k, q.2.ownBlock = some k → k < b2) : Teams w base (L ++ [p]) := by
  refine ⟨fun q hq => ?_, ?_⟩
  · rcases List.mem_append.1 hq with hq | hq
    · exact h.1 q hq
    · obtain rfl : q = p := by simpa using hq
      exact own_base hp hb
  · rw [List.pairwise_append]
    refine ⟨h.2, by simp, fun q hq r hr k hk hk2 => ?_⟩
    obtain rfl : r = p := by simpa using hr
    have := hl q hq k hk
    have := (ownO_lt hp k hk2).1
    omega
theorem Teams.irw {w : World} {base : Nat} {L : List (Opn × Value)} (h : Teams w base L) : ∀ p ∈ L, IRw w p.2 p.1.team := fun p hp => own_irw (h.1 p hp)
theorem Teams.lt {w : World} {base : Nat} {L : List (Opn × Value)} (h : Teams w base L) : ∀ p ∈ L, ∀ k, p.2.ownBlock = some k → base ≤ k ∧ k < w.heap.size := fun p hp k hk => ownO_lt (h.1 p hp) k hk
theorem stay_succ {l : List Opn} {u x : Opn} {r : Int} {i : Nat} (hx : l[i]? = some x) : stay l u r (i + 1) = stay l u r i ++ (if why x u r = 0 then [x] else []) := by rw [stay, hx]
theorem cell4O (w : World) (a b c d : Value) (t : TypeId) : ∀ (j : Nat) (u : Value), [a, b, c, d][j]? = some u → (w.alloc (.cells #[a, b, c, d] t)).cell? ((⟨w.heap.size, 0, none⟩ : Addr).add j) = some u := fun j u hu => by
  have e0 := heap_alloc_new w (Obj.cells #[a, b, c, d] t)
  have e1 : (w.alloc (.cells #[a, b, c, d] t)).cell? ((⟨w.heap.size, 0, none⟩ : Addr).add j) = [a, b, c, d][j]? := by
    rw [Addr.add_lit, Nat.zero_add]
    simp only [World.cell?, e0]
    simp
  rw [e1, hu]
theorem four_oneO (a b c : Int) (ao : Option Addr) (n cap : Nat) : ∀ u ∈ [Value.int .i64 a, .int .i64 b, .int .i64 c, .slice ao n cap], u.oneCell' = true := by
  intro u hu
  simp only [List.mem_cons, List.not_mem_nil, or_false] at hu
  rcases hu with rfl | rfl | rfl | rfl <;> rfl

set_option maxRecDepth 20000 in
set_option maxHeartbeats 4000000 in
theorem opsanew_any (ao : Option Addr) (n cap : Nat) (l : List Opn) (w : World) (h : ORw w (.slice ao n cap) l) (hn : l.length ≤ 200) (ht : ∀ x ∈ l, x.team.length ≤ 8 ∧ 1 ≤ x.team.length) :
    Calls Try.prog 46 #[.slice ao n cap] w fun e w' => ∃ (L : List (Opn × Value)) (v : Value), e = .returned v ∧ L.map Prod.fst = l ∧ w'.ownsRow w.heap.size 31 4 v L.length (cellsO L) ∧ Teams w' w.heap.size L ∧ Below w.heap.size w w' := by
  obtain rfl := h.len
  have HH := hidden h
  have HT := hidden ht
  clear h ht
  obtain ⟨i0, hi0, hz0, hz1, hz2⟩ := info_partsO infoOp
  go_enter Try.func46, Try.ntmps46
  go_wp2_with (refine wpList_make_own _ rfl (.const (.int .i64 0)) (.tmp 7) 24 rfl w.heap.size 31 i0 (.agg #[.int .i64 0, .int .i64 0, .int .i64 0, .slice none 0 0]) 4 Try.underlying24 hi0 hz0 hz1 .i64 .i64 _ l.length rfl rfl rfl (by rw [hz2]; omega) (by unfold maxLen; omega) (Nat.le_refl _) ?_; intro w1 ho1 hg1)
  have b1 : Below w.heap.size w w1 := (Below.refl _ w).grown hg1 (Nat.le_refl _) (by simp)
  clear hg1
  go_wp2_with fail
  go_loopw [3, 5, 11] (fun sv _ iv wr => ∃ (L : List (Opn × Value)), L.length ≤ l.length ∧ iv = .int .i64 L.length ∧ Hid (L.map Prod.fst = l.take L.length) ∧ (∃ ad c, sv = .slice ad L.length c ∧ wr.ownsRow w.heap.size 31 4 (.slice ad L.length c) L.length (cellsO L)) ∧ Teams wr w.heap.size L ∧ Below w.heap.size w wr) (fun _ _ iv _ => l.length - (intOf iv).toNat)
  case atStart => exact ⟨[], Nat.zero_le _, rfl, rfl, ⟨_, _, rfl, ho1⟩, Teams.nil _ _, b1⟩
  case round =>
    clear ho1 b1
    obtain ⟨L, hi, rfl, HL, ⟨ad, c, rfl, ho⟩, hT, hb⟩ := hrel
    have hsz := hb.size
    by_cases hlt : L.length < l.length
    · have hlti : (L.length : Int) < (l.length : Int) := by omega
      obtain ⟨x, hx⟩ := some_of l L.length hlt
      obtain ⟨g, off, ta, tc, rfl, hg, hrow, c0, c1, c2, c3⟩ := (HH.out.below hb).at hx
      have hxt := HT.out x (List.mem_of_getElem? hx)
      have hK := fun W hW => anew_any x ta x.team.length tc W hW (by omega) (by omega)
      unfold aO at hK
      have HR := hidden (fun W (hW : Below wr.heap.size wr W) => hrow.below hW)
      have HN := hidden (take_snocW hx)
      have HTm := hidden hT
      have HO := hidden ho
      clear hx hrow hT ho
      go_wp2_with (first
        | (go_at_call 49; refine (hK _ (HR.out _ (by repeat (first | exact Below.refl _ _ | assumption | refine st_drew ?_ | refine st_drewN ?_ _ | refine Below.setCell ?_ (by first | omega | (simp; done) | (simp; omega)) _ | refine Below.alloc ?_ (by first | omega | (simp; done) | (simp; omega)) _)))).mono ?_; rintro e w2 ⟨a2, k2, rfl, ho2, hb2⟩; have bD := onto (show Below wr.heap.size wr _ from by repeat (first | exact Below.refl _ _ | assumption | refine st_drew ?_ | refine st_drewN ?_ _ | refine Below.setCell ?_ (by first | omega | (simp; done) | (simp; omega)) _ | refine Below.alloc ?_ (by first | omega | (simp; done) | (simp; omega)) _)) hb2; have bA := onto hb bD; have z2 := bD.size; have zz := bA.size; have T2 := hidden ho2; have O2 := hidden (ownO_below HO.out bD); have M2 := hidden (HTm.out.below bD); have z3 := hb2.size; simp only [World.size_alloc] at z3; clear ho2 hb2)
        | (at_builtin; refine wpList_append_own _ rfl (.tmp 15) (.tmp 18) 24 rfl w.heap.size 31 i0 (.agg #[.int .i64 0, .int .i64 0, .int .i64 0, .slice none 0 0]) 4 48 Try.underlying24 hi0 hz0 hz1 hz2 rfl (by decide) _ L.length (cellsO L) rfl (O2.out.alloc _) ⟨w2.heap.size, 0, none⟩ 1 1 [.int .i64 x.room, .int .i64 x.fr, .int .i64 x.to, .slice a2 x.team.length k2] rfl rfl (cell4O _ _ _ _ _ _) (four_oneO _ _ _ _ _ _) (by unfold maxLen; omega) (by omega) (by simp; omega) ?_; intro v4 w4 ho4 hg4 hnn4; have hO4 := hidden ho4; obtain ⟨ad4, c4, rfl⟩ := ownO_slice ho4))
      have b4 := grown_belowO (show Below w.heap.size w _ from by repeat (first | exact Below.refl _ _ | assumption | refine st_drew ?_ | refine st_drewN ?_ _ | refine Below.setCell ?_ (by first | omega | (simp; done) | (simp; omega)) _ | refine Below.alloc ?_ (by first | omega | (simp; done) | (simp; omega)) _)) (by simp; omega) hg4 (fun k hk => (ownO_lt HO.out k hk).1)
      have T4 := ((M2.out.below (show Below w2.heap.size w2 (w2.alloc (.cells #[.int .i64 x.room, .int .i64 x.fr, .int .i64 x.to, .slice a2 x.team.length k2] 31)) from by repeat (first | exact Below.refl _ _ | assumption | refine st_drew ?_ | refine st_drewN ?_ _ | refine Below.setCell ?_ (by first | omega | (simp; done) | (simp; omega)) _ | refine Below.alloc ?_ (by first | omega | (simp; done) | (simp; omega)) _))).snoc (p := (x, .slice a2 x.team.length k2)) (ownO_below T2.out (by repeat (first | exact Below.refl _ _ | assumption | refine st_drew ?_ | refine st_drewN ?_ _ | refine Below.setCell ?_ (by first | omega | (simp; done) | (simp; omega)) _ | refine Below.alloc ?_ (by first | omega | (simp; done) | (simp; omega)) _))) (by simp only [World.size_alloc]; omega) (fun q hq k hk => by have := (HTm.out.lt q hq k hk).2; simp only [World.size_alloc]; omega)).grown (O2.out.alloc _) hg4
      have HF : Hid ((L ++ [(x, Value.slice a2 x.team.length k2)]).map Prod.fst = l.take (L ++ [(x, Value.slice a2 x.team.length k2)]).length) := by rw [Hid, List.map_append, HL.out, List.length_append]; exact HN.out.symm
      go_roundw
      case rel => exact ⟨L ++ [(x, .slice a2 x.team.length k2)], by rw [List.length_append]; simp; omega, by rw [List.length_append]; rfl, HF, ⟨ad4, c4, by rw [List.length_append]; rfl, by rw [cellsO_app, List.length_append]; exact hO4.out⟩, T4, b4⟩
      case measure => simp [intOf]; omega
    · have hlti : ¬ (L.length : Int) < (l.length : Int) := by omega
      have hil : L.length = l.length := by omega
      have HF : Hid (L.map Prod.fst = l) := by rw [Hid, HL.out, hil, List.take_length]
      clear hil
      go_wp2_with fail
      go_ret
      exact ⟨L, _, rfl, HF.out, ho, hT, hb⟩

set_option maxRecDepth 20000 in
set_option maxHeartbeats 4000000 in
theorem staying_any (u : Opn) (ua : Option Addr) (un uc : Nat) (ao : Option Addr) (n cap : Nat) (l : List Opn) (r : Int) (w0 w : World) (hbw : Below w0.heap.size w0 w) (h : ORw w0 (.slice ao n cap) l) (hR : IRw w0 (.slice ua un uc) u.team) (hu : opB u = true) (hn : l.length ≤ 200) (hl : ∀ x ∈ l, opB x = true) (hr : 0 ≤ r ∧ r ≤ 1440) :
    Calls Try.prog 47 #[.slice ao n cap, aO u (.slice ua un uc), .int .i64 r] w fun e w' => ∃ (S : List (Opn × Value)) (v : Value), e = .returned v ∧ S.map Prod.fst = stay l u r l.length ∧ w'.ownsRow w.heap.size 31 4 v S.length (cellsO S) ∧ (∀ p ∈ S, IRw w0 p.2 p.1.team) ∧ Below w.heap.size w w' := by
  obtain rfl := h.len
  have HH := hidden h
  have HL := hidden hl
  have HU := hidden hu
  have HUR := hidden hR
  have HW := hidden (fun W (hW : Below w.heap.size w W) => hR.below (onto hbw hW))
  have hul := (of_opB hu).2.2.2.2.2.1
  clear h hl hu hR
  have hbwz := hbw.size
  obtain ⟨i0, hi0, hz0, hz1, hz2⟩ := info_partsO infoOp
  unfold aO
  have hb0 : Below w.heap.size w ((w.alloc (.cells #[.int .i64 u.room, .int .i64 u.fr, .int .i64 u.to, .slice ua un uc] 31)).alloc (.cells #[.int .i64 u.room, .int .i64 u.fr, .int .i64 u.to, .slice ua un uc] 31)) := by repeat (first | exact Below.refl _ _ | assumption | refine st_drew ?_ | refine st_drewN ?_ _ | refine Below.setCell ?_ (by first | omega | (simp; done) | (simp; omega)) _ | refine Below.alloc ?_ (by first | omega | (simp; done) | (simp; omega)) _)
  have tb := two_boxesU w #[.int .i64 u.room, .int .i64 u.fr, .int .i64 u.to, .slice ua un uc] #[.int .i64 u.room, .int .i64 u.fr, .int .i64 u.to, .slice ua un uc] 31 31
  have ho0 : ((w.alloc (.cells #[.int .i64 u.room, .int .i64 u.fr, .int .i64 u.to, .slice ua un uc] 31)).alloc (.cells #[.int .i64 u.room, .int .i64 u.fr, .int .i64 u.to, .slice ua un uc] 31)).ownsRow (w.heap.size + 1) 31 4 (.slice (some ⟨w.heap.size + 1, 0, none⟩) 1 1) 1 (cellsO [(u, .slice ua un uc)]) :=
    ⟨rfl, .inr ⟨w.heap.size + 1, 1, _, rfl, Nat.le_refl _, tb.2, Nat.le_refl _, by decide, rfl, rfl⟩⟩
  have hI0 : ∀ p ∈ [(u, Value.slice ua un uc)], IRw w0 p.2 p.1.team := fun p hp => by rw [List.mem_singleton.1 hp]; exact HUR.out
  go_enter Try.func47, Try.ntmps47
  go_wp2_with fail
  go_loopw [7, 9, 14] (fun sv _ iv wr => ∃ (i : Nat) (S : List (Opn × Value)), i ≤ l.length ∧ iv = .int .i64 i ∧ Hid (S.map Prod.fst = stay l u r i) ∧ S.length ≤ i + 1 ∧ (∃ ad c, sv = .slice ad S.length c ∧ wr.ownsRow (w.heap.size + 1) 31 4 (.slice ad S.length c) S.length (cellsO S)) ∧ Hid (∀ p ∈ S, IRw w0 p.2 p.1.team) ∧ Below w.heap.size w wr ∧ TBox wr w.heap.size #[.int .i64 u.room, .int .i64 u.fr, .int .i64 u.to, .slice ua un uc] 31) (fun _ _ iv _ => l.length - (intOf iv).toNat)
  case atStart => exact ⟨0, [(u, .slice ua un uc)], Nat.zero_le _, rfl, rfl, by simp, ⟨_, _, rfl, ho0⟩, hI0, hb0, tb.1⟩
  case round =>
    clear ho0 tb hb0
    obtain ⟨i, S, hi, rfl, HS, hSl, ⟨ad, c, rfl, ho⟩, HI, hb, hB⟩ := hrel
    have hsz := hb.size
    by_cases hlt : i < l.length
    · have hlti : (i : Int) < (l.length : Int) := by omega
      obtain ⟨x, hx⟩ := some_of l i hlt
      obtain ⟨g, off, ta, tc, rfl, hg, hrow, m0, m1, m2, m3⟩ := HH.out.at hx
      have c0 := ((onto hbw hb).cell (p := ⟨g, off + i * 4, none⟩) hg).trans m0
      have c1 := ((onto hbw hb).cell (p := ⟨g, off + i * 4 + 1, none⟩) hg).trans m1
      have c2 := ((onto hbw hb).cell (p := ⟨g, off + i * 4 + 2, none⟩) hg).trans m2
      have c3 := ((onto hbw hb).cell (p := ⟨g, off + i * 4 + 3, none⟩) hg).trans m3
      have hgr : g < wr.heap.size := Nat.lt_of_lt_of_le hg (Nat.le_trans hbw.size hsz)
      have hxo := HL.out x (List.mem_of_getElem? hx)
      have hxl := (of_opB hxo).2.2.2.2.2.1
      have hK := fun W hW1 hW2 => iwhy_any x u ta x.team.length tc ua un uc r W (tms_of hxo) (tms_of HU.out) hr hW1 hW2 (by omega) (by omega)
      unfold aO at hK
      have HR := hidden (fun W (hW : Below w.heap.size w W) => hrow.below (onto hbw hW))
      have HX := hidden hrow
      have HN := hidden (stay_succ (u := u) (r := r) hx)
      have HB := hidden hB
      have HO := hidden ho
      obtain ⟨⟨p0, p1, p2, p3⟩, -⟩ := hB.four
      have pl := hB.lt
      clear hx hrow m0 m1 m2 m3 hB ho hxo
      by_cases q : why x u r = 0
      · have HF : Hid ((S ++ [(x, Value.slice ta x.team.length tc)]).map Prod.fst = stay l u r (i + 1)) := by rw [Hid, HN.out, if_pos q, List.map_append, HS.out]; rfl
        have HI2 : Hid (∀ p ∈ S ++ [(x, Value.slice ta x.team.length tc)], IRw w0 p.2 p.1.team) := fun p hp => by
          rcases List.mem_append.1 hp with hp | hp
          · exact HI.out p hp
          · rw [List.mem_singleton.1 hp]; exact HX.out
        rw [q] at hK
        clear HS HI HN q
        go_wp2_with (first
          | (go_at_call 37; refine (hK _ (HR.out _ (by repeat (first | exact Below.refl _ _ | assumption | refine st_drew ?_ | refine st_drewN ?_ _ | refine Below.setCell ?_ (by first | omega | (simp; done) | (simp; omega)) _ | refine Below.alloc ?_ (by first | omega | (simp; done) | (simp; omega)) _))) (HW.out _ (by repeat (first | exact Below.refl _ _ | assumption | refine st_drew ?_ | refine st_drewN ?_ _ | refine Below.setCell ?_ (by first | omega | (simp; done) | (simp; omega)) _ | refine Below.alloc ?_ (by first | omega | (simp; done) | (simp; omega)) _)))).mono ?_; rintro e w2 ⟨rfl, hb2⟩; obtain ⟨e0, e1, e2, e3, z2'⟩ := one_box hb2; have bD := onto (show Below wr.heap.size wr _ from by repeat (first | exact Below.refl _ _ | assumption | refine st_drew ?_ | refine st_drewN ?_ _ | refine Below.setCell ?_ (by first | omega | (simp; done) | (simp; omega)) _ | refine Below.alloc ?_ (by first | omega | (simp; done) | (simp; omega)) _)) hb2; have bA := onto hb bD; have zz := bA.size; have z2 := bD.size; have O2 := hidden (ownO_below HO.out bD); have B2 := hidden (HB.out.below bD); clear hb2)
          | (at_builtin; refine wpList_append_own _ rfl (.tmp 23) (.tmp 25) 24 rfl (w.heap.size + 1) 31 i0 (.agg #[.int .i64 0, .int .i64 0, .int .i64 0, .slice none 0 0]) 4 48 Try.underlying24 hi0 hz0 hz1 hz2 rfl (by decide) _ S.length (cellsO S) rfl (O2.out.alloc _) ⟨w2.heap.size, 0, none⟩ 1 1 [.int .i64 x.room, .int .i64 x.fr, .int .i64 x.to, .slice ta x.team.length tc] rfl rfl (cell4O _ _ _ _ _ _) (four_oneO _ _ _ _ _ _) (by unfold maxLen; omega) (by omega) (by simp; omega) ?_; intro v4 w4 ho4 hg4 hnn4; have hO4 := hidden ho4; obtain ⟨ad4, c4, rfl⟩ := ownO_slice ho4))
        have b4 := grown_belowO (show Below w.heap.size w _ from by repeat (first | exact Below.refl _ _ | assumption | refine st_drew ?_ | refine st_drewN ?_ _ | refine Below.setCell ?_ (by first | omega | (simp; done) | (simp; omega)) _ | refine Below.alloc ?_ (by first | omega | (simp; done) | (simp; omega)) _)) (by simp; omega) hg4 (fun k hk => by have := (ownO_lt HO.out k hk).1; omega)
        have B4 := (B2.out.below (show Below w2.heap.size w2 (w2.alloc (.cells #[.int .i64 x.room, .int .i64 x.fr, .int .i64 x.to, .slice ta x.team.length tc] 31)) from by repeat (first | exact Below.refl _ _ | assumption | refine st_drew ?_ | refine st_drewN ?_ _ | refine Below.setCell ?_ (by first | omega | (simp; done) | (simp; omega)) _ | refine Below.alloc ?_ (by first | omega | (simp; done) | (simp; omega)) _))).grown hg4 (fun k hk => by have := (ownO_lt HO.out k hk).1; omega)
        go_roundw
        case rel => exact ⟨i + 1, S ++ [(x, .slice ta x.team.length tc)], by omega, rfl, HF, by rw [List.length_append]; simp; omega, ⟨ad4, c4, by rw [List.length_append]; rfl, by rw [cellsO_app, List.length_append]; exact hO4.out⟩, HI2, b4, B4⟩
        case measure => simp [intOf]; omega
      · have HF : Hid (S.map Prod.fst = stay l u r (i + 1)) := by rw [Hid, HN.out, if_neg q, List.append_nil]; exact HS.out
        generalize why x u r = wy at *
        have hq2 : (wy == 0) = false := by simpa using q
        clear HS HN
        go_wp2_with (go_at_call 37; refine (hK _ (HR.out _ (by repeat (first | exact Below.refl _ _ | assumption | refine st_drew ?_ | refine st_drewN ?_ _ | refine Below.setCell ?_ (by first | omega | (simp; done) | (simp; omega)) _ | refine Below.alloc ?_ (by first | omega | (simp; done) | (simp; omega)) _))) (HW.out _ (by repeat (first | exact Below.refl _ _ | assumption | refine st_drew ?_ | refine st_drewN ?_ _ | refine Below.setCell ?_ (by first | omega | (simp; done) | (simp; omega)) _ | refine Below.alloc ?_ (by first | omega | (simp; done) | (simp; omega)) _)))).mono ?_; rintro e w2 ⟨rfl, hb2⟩; have bD := onto (show Below wr.heap.size wr _ from by repeat (first | exact Below.refl _ _ | assumption | refine st_drew ?_ | refine st_drewN ?_ _ | refine Below.setCell ?_ (by first | omega | (simp; done) | (simp; omega)) _ | refine Below.alloc ?_ (by first | omega | (simp; done) | (simp; omega)) _)) hb2; have bA := onto hb bD; have O2 := hidden (ownO_below HO.out bD); have B2 := hidden (HB.out.below bD); clear hb2)
        go_roundw
        case rel => exact ⟨i + 1, S, by omega, rfl, HF, by omega, ⟨_, _, rfl, O2.out⟩, HI, bA, B2.out⟩
        case measure => simp [intOf]; omega
    · have hlti : ¬ (i : Int) < (l.length : Int) := by omega
      have hil : i = l.length := by omega
      have HF : Hid (S.map Prod.fst = stay l u r l.length) := by rw [← hil]; exact HS
      clear hil
      go_wp2_with fail
      go_ret
      exact ⟨S, _, rfl, HF.out, own_base ho (by omega), fun a b hab => HI.out (a, b) hab, hb⟩
end Go.Proofs.Ytcapmobhgffnhaa
