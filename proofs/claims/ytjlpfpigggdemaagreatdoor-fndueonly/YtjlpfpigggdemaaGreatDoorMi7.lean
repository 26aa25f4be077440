/-
 Merged: U21.
-/
import Derived.Test.YtjlpfpigggdemaaGreatDoorMi6
import Derived.Test.YtjlpfpigggdemaaGreatDoorMi2
import Derived.Deep.RegionLaw
import Derived.Deep.RegionHeld3
import Derived.Deep.AppendSrc
namespace Go.Proofs.YtjlpfpigggdemaaGreatDoor.Cp
set_option maxRecDepth 8000
set_option maxHeartbeats 4000000
open Go.RowKit Va Uo
set_option linter.all false
theorem own_below {w w' : World} {base e s n : Nat} {v : Value} {xs : List Value} (h : w.ownsRow base e s v n xs) (hb : Below w.heap.size w w') : w'.ownsRow base e s v n xs := by
 obtain ⟨q, ⟨q1, q2⟩ | ⟨g, c, cur, rfl, hg, hh, r⟩⟩ := h
 ·exact ⟨q, Or.inl ⟨q1, q2⟩⟩
 ·exact ⟨q, Or.inr ⟨g, c, cur, rfl, hg, (hb.block g (Array.getElem?_eq_some_iff.1 hh).1).trans hh, r⟩⟩
theorem zac {w : World} {b e s n : Nat} {v : Value} {xs : List Value} (h : w.ownsRow b e s v n xs) : ∃ ad c, v = .slice ad n c := by
 obtain ⟨_, ⟨rfl, rfl⟩ | ⟨g, cap, cur, rfl, _⟩⟩ := h
 ·exact ⟨_, _, rfl⟩
 ·exact ⟨_, _, rfl⟩
def CRw (w : World) (vb vs : Value) (B : List Od) (S : List Ds) : Prop := VRw 9 jd w vb B /\ VRw 5 jy w vs S
theorem CRw.below {w w' : World} {vb vs : Value} {B : List Od} {S : List Ds} (h : CRw w vb vs B S) (hb : Below w.heap.size w w') : CRw w' vb vs B S := ⟨h.1.below hb, h.2.below hb⟩
theorem zbm (w : World) (o : Obj) (b : Nat) (hb : w.heap.size = b) : (w.alloc o).heap[b]? = some o := by subst hb; exact heap_alloc_new w o
theorem zbn {w : World} {b : Nat} {o : Obj} (h : w.heap[b]? = some o) : w.drew.heap[b]? = some o := h
theorem zbl {w : World} {b : Nat} {o : Obj} (h : w.heap[b]? = some o) (o' : Obj) : (w.alloc o').heap[b]? = some o :=
 (Below.heap_alloc w o' b (Array.getElem?_eq_some_iff.1 h).1).trans h
structure Fresh {α : Type} (s : Nat) (cs : α -> Nat -> Value) (e : TypeId) (g : Nat) (w w' : World) (v' : Value) (l : List α) : Prop where
 own : w'.ownsRow g e s v' l.length (zt s cs l)
 grown : w.grownBy w' (some g)
theorem cells_of_row {α : Type} {s : Nat} {cs : α -> Nat -> Value} {w : World} {ao : Option Addr} {n cap : Nat} {l : List α} (h : VRw s cs w (.slice ao n cap) l) (hs : 0 < s) : l = [] ∨ ∃ g off, ao = some ⟨g, off, none⟩ /\ ∀ (j : Nat) (u : Value), (zt s cs l)[j]? = some u -> w.cell? ((⟨g, off, none⟩ : Addr).add j) = some u := by
 rcases l with _ | ⟨x, l⟩
 ·exact Or.inl rfl
 ·right
  obtain ⟨g, off, h1, h2, _⟩ := h.at (i := 0) (x := x) rfl
  refine ⟨g, off, h1, fun j u hu => ?_⟩
  have hj : j < (x :: l).length * s := by
   have := (List.getElem?_eq_some_iff.1 hu).1
   rwa [za2] at this
  have hq : j / s < (x :: l).length := (Nat.div_lt_iff_lt_mul hs).2 hj
  obtain ⟨y, hy⟩ : ∃ y, (x :: l)[j / s]? = some y := ⟨_, List.getElem?_eq_getElem hq⟩
  have hm : j % s < s := Nat.mod_lt _ hs
  have e : j / s * s + j % s = j := by rw [Nat.mul_comm]; exact Nat.div_add_mod j s
  have h5 := jg (cs := cs) (x :: l) (j / s) y hy (j % s) hm
  rw [e, hu] at h5
  obtain ⟨g', off', h6, _, h7⟩ := h.at hy
  rw [h1] at h6
  simp only [Option.some.injEq, Addr.mk.injEq, and_true] at h6
  obtain ⟨rfl, rfl⟩ := h6
  have h8 := h7 (j % s) hm
  rw [Addr.add_lit]
  rw [show off + j = off + j / s * s + j % s by omega, h8]
  exact h5.symm
theorem cells_one {α : Type} {s : Nat} {cs : α -> Nat -> Value} (h1 : ∀ x k, (cs x k).oneCell' = true) (l : List α) : ∀ u ∈ zt s cs l, u.oneCell' = true := by
 intro u hu
 unfold zt at hu
 obtain ⟨x, _, hx⟩ := List.mem_flatMap.1 hu
 obtain ⟨k, _, rfl⟩ := List.mem_map.1 hx
 exact h1 x k
theorem zcs (x : Od) (k : Nat) : (jd x k).oneCell' = true := by
 unfold jd
 split <;> rfl
theorem zdl (x : Ds) (k : Nat) : (jy x k).oneCell' = true := by
 unfold jy
 split <;> rfl
structure Kept (e : TypeId) (g : Nat) (w w' : World) : Prop where
 own : ∀ (b e1 s1 n : Nat) (v : Value) (xs : List Value), e1 ≠ e -> w.ownsRow b e1 s1 v n xs -> w'.ownsRow b e1 s1 v n xs
 blk : ∀ (b : Nat) (o : Obj), b ≠ g -> w.heap[b]? = some o -> w'.heap[b]? = some o
 below : ∀ W0 : World, Below W0.heap.size W0 w -> W0.heap.size <= g -> Below W0.heap.size W0 w'
theorem zha {e : TypeId} {g : Nat} {w w' : World} (hblk : w.heap[g]? = some (.cells #[] e)) (hg : w.grownBy w' (some g)) : Kept e g w w' := by
 refine ⟨fun b e1 s1 n v xs hne ho => ?_, fun b o hb ho => (hg.block b (Array.getElem?_eq_some_iff.1 ho).1 (by simpa using hb)).trans ho, fun W0 h0 h1 => h0.grown hg h0.size (fun k hk => by cases hk; exact h1)⟩
 obtain ⟨q, ⟨q1, q2⟩ | ⟨g1, c, cur, rfl, hg1, hh, r⟩⟩ := ho
 ·exact ⟨q, Or.inl ⟨q1, q2⟩⟩
 ·refine ⟨q, Or.inr ⟨g1, c, cur, rfl, hg1, (hg.block g1 (Array.getElem?_eq_some_iff.1 hh).1 (fun e2 => ?_)).trans hh, r⟩⟩
  have e3 : g1 = g := Option.some.inj e2
  rw [e3, hblk] at hh
  have := Option.some.inj hh
  injection this with _ h5
  exact hne h5.symm
theorem yx {w0 w : World} (h : Below w0.heap.size w0 w) (o : Obj) : Below w0.heap.size w0 (w.alloc o) := h.alloc h.size o
theorem yz {w0 w : World} (h : Below w0.heap.size w0 w) : Below w0.heap.size w0 w.drew := jq h
theorem ze4 {w : World} {b e s n : Nat} {v : Value} {xs : List Value} (h : w.ownsRow b e s v n xs) : w.drew.ownsRow b e s v n xs := h
theorem zfd {w : World} {b e s n : Nat} {v : Value} {xs : List Value} (h : w.ownsRow b e s v n xs) (o : Obj) : (w.alloc o).ownsRow b e s v n xs := h.alloc o
def zo (w : World) (base : Nat) (vb vs : Value) (B : List Od) (S : List Ds) : Prop := w.ownsRow base 38 9 vb B.length (zt 9 jd B) /\ w.ownsRow base 35 5 vs S.length (zt 5 jy S)
theorem zds {w : World} {b1 b2 e1 e2 s1 s2 n1 n2 : Nat} {v1 v2 : Value} {x1 x2 : List Value} (h1 : w.ownsRow b1 e1 s1 v1 n1 x1) (h2 : w.ownsRow b2 e2 s2 v2 n2 x2) (hne : e1 ≠ e2) : Apart v1 v2 := by
 obtain ⟨_, ⟨rfl, _⟩ | ⟨g1, c1, cur1, rfl, _, hh1, _⟩⟩ := h1
 ·intro j hj; cases hj
 obtain ⟨_, ⟨rfl, _⟩ | ⟨g2, c2, cur2, rfl, _, hh2, _⟩⟩ := h2
 ·intro j _ hj; cases hj
 intro j hj hj2
 have e3 : g1 = j := Option.some.inj hj
 have e4 : g2 = j := Option.some.inj hj2
 rw [e3] at hh1
 rw [e4, hh1] at hh2
 have := Option.some.inj hh2
 injection this with _ h5
 exact hne h5
theorem zo.own {w : World} {base : Nat} {vb vs : Value} {B : List Od} {S : List Ds} (h : zo w base vb vs B S) : vz 9 jd w base vb B /\ vz 5 jy w base vs S /\ Apart vb vs := ⟨za1 rfl h.1, za1 rfl h.2, zds h.1 h.2 (by decide)⟩
theorem zo.below {w w' : World} {base : Nat} {vb vs : Value} {B : List Od} {S : List Ds} (h : zo w base vb vs B S) (hb : Below w.heap.size w w') : zo w' base vb vs B S := ⟨own_below h.1 hb, own_below h.2 hb⟩
theorem zo.form {w : World} {base : Nat} {vb vs : Value} {B : List Od} {S : List Ds} (h : zo w base vb vs B S) : ∃ a1 c1 a2 c2, vb = .slice a1 B.length c1 /\ vs = .slice a2 S.length c2 := by
 obtain ⟨a1, c1, e1⟩ := zac h.1
 obtain ⟨a2, c2, e2⟩ := zac h.2
 exact ⟨a1, c1, a2, c2, e1, e2⟩
theorem own_base {w : World} {b b2 e s n : Nat} {v : Value} {xs : List Value} (h : w.ownsRow b e s v n xs) (hb : b2 <= b) : w.ownsRow b2 e s v n xs := by
 obtain ⟨q, ⟨q1, q2⟩ | ⟨g1, c, cur, rfl, hg1, r⟩⟩ := h
 ·exact ⟨q, Or.inl ⟨q1, q2⟩⟩
 ·exact ⟨q, Or.inr ⟨g1, c, cur, rfl, Nat.le_trans hb hg1, r⟩⟩
theorem ze5 {w : World} {b e s n : Nat} {v : Value} {xs : List Value} (h : w.ownsRow b e s v n xs) {p : Addr} (hp : p.block < b) (u : Value) : (w.setCell p u).ownsRow b e s v n xs := ownsRow_setCell_below h hp u
theorem zfn {W w : World} {gB gS : Nat} {vb vs : Value} {B : List Od} {S : List Ds} (oB : W.ownsRow gB 38 9 vb B.length (zt 9 jd B)) (oS : W.ownsRow gS 35 5 vs S.length (zt 5 jy S)) (hB : w.heap.size + 1 < gB) (hS : w.heap.size + 1 < gS) (hb : Below w.heap.size w W) (x y : Value) :
  zo ((W.setCell ⟨w.heap.size + 1, 0, none⟩ x).setCell ⟨w.heap.size + 1, 1, none⟩ y) w.heap.size vb vs B S /\ Below w.heap.size w ((W.setCell ⟨w.heap.size + 1, 0, none⟩ x).setCell ⟨w.heap.size + 1, 1, none⟩ y) :=
 ⟨⟨own_base (ze5 (ze5 oB (p := ⟨w.heap.size + 1, 0, none⟩) hB _) (p := ⟨w.heap.size + 1, 1, none⟩) hB _) (by omega), own_base (ze5 (ze5 oS (p := ⟨w.heap.size + 1, 0, none⟩) hS _) (p := ⟨w.heap.size + 1, 1, none⟩) hS _) (by omega)⟩,
  (hb.setCell (p := ⟨w.heap.size + 1, 0, none⟩) (Nat.le_succ _) _).setCell (p := ⟨w.heap.size + 1, 1, none⟩) (Nat.le_succ _) _⟩
set_option maxRecDepth 20000 in
set_option maxHeartbeats 16000000 in
theorem zbk {α : Type} {sz bytes : Nat} {cs : α -> Nat -> Value} {T e : TypeId} {z : Value} (hone : ∀ x k, (cs x k).oneCell' = true) (hT : Tryz.prog.underlying T = some (.slice e)) (hinfo : (Tryz.prog.info? e).map (fun i => (i.zero, i.size, i.bytes)) = some (some z, sz, bytes)) (hzs : z.cells.size = sz) (hsz : 0 < sz) (hby : bytes <= 1000)
  {ops : Array Oper} {o : Oper} {a : Act} {w : World} {K : Act -> World -> Prop} {Q : Exit -> Act -> World -> Prop} {E : Prop} (hgd : o.guard = none) (s x : Operand)
  (ho : o.op = .call { callee := .builtin .append, args := #[s, x], argTypes := #[T, T] })
  (g : Nat) (hs : a.eval s = .slice (some ⟨g, 0, none⟩) 0 0) (hblk : w.heap[g]? = some (.cells #[] e)) (ao : Option Addr) (n cap : Nat) (l : List α) (hx : a.eval x = .slice ao n cap) (hrow : VRw sz cs w (.slice ao n cap) l) (hn : l.length <= 1048576)
  (h : ∀ v' w', Fresh sz cs e g w w' v' l -> Kept e g w w' -> K (a.put o.dst v') w') :
  if Region.wanted o (yielded ops a.tmps) = true then Oper.wp Tryz.prog o a w K Q else E := by
 obtain ⟨i0, hi, hz0, hz1, hz2⟩ := info_parts hinfo
 have hw : Region.wanted o (yielded ops a.tmps) = true := by simp [Region.wanted, hgd]
 rw [if_pos hw]
 have hlt := (Array.getElem?_eq_some_iff.1 hblk).1
 have hown : w.ownsRow g e sz (.slice (some ⟨g, 0, none⟩) 0 0) 0 [] := ⟨by simp, .inr ⟨g, 0, #[], rfl, Nat.le_refl _, hblk, Nat.le_refl _, Nat.zero_le _, by simp, by simp⟩⟩
 obtain rfl := hrow.len
 rcases cells_of_row hrow hsz with rfl | ⟨b, off, rfl, hc⟩
 ·have hsrc : Src Tryz.prog i0.size T (.slice ao ([] : List α).length cap) 0 [] w := by
   cases ao with
   | none => exact Src.ofNil w hT cap
   | some ad => exact Src.ofSlice w hT ad 0 cap [] (by simp) (fun j u hu => by simp at hu) (fun u hu => by cases hu)
  have hr := run_append_room_src (P := Tryz.prog) w T T o.type e i0 hT hi g 0 0 0 _ 0 [] hsrc (Nat.le_refl _) (fun j hj => absurd hj (Nat.not_lt_zero _)) (fun j hj => absurd hj (Nat.not_lt_zero _))
  unfold Oper.wp execOp
  simp only [ho, resolve, invoke, builtin, Sem.run_bind, Sem.run_pure, Result.andThen_ok, List.map_toArray, List.map_cons, List.map_nil, hs, hx, hr]
  exact h _ _ ⟨hown, ⟨rfl, rfl, rfl, Nat.le_refl _, fun _ _ _ => rfl⟩⟩ (zha hblk ⟨rfl, rfl, rfl, Nat.le_refl _, fun _ _ _ => rfl⟩)
 ·have hb2 : (0 + l.length) * bytes <= 140737488355328 := by
   have : (0 + l.length) * bytes <= 1048576 * 1000 := Nat.mul_le_mul (by omega) hby
   omega
  refine wp_append_own w s x T ho g e i0 z sz bytes hT hi hz0 hz1 hz2 hzs hsz _ 0 [] hs hown ⟨b, off, none⟩ l.length cap (zt sz cs l) hx (za2 l) hc (cells_one hone l) (by unfold maxLen; omega) hb2 (by omega) ?_
  intro v' w' ho' hg' _
  rw [Nat.zero_add, List.nil_append] at ho'
  exact h v' w' ⟨ho', hg'⟩ (zha hblk hg')
set_option maxRecDepth 20000 in
set_option maxHeartbeats 16000000 in
theorem zdf (ao ao2 : Option Addr) (n cap m cap2 : Nat) (B : List Od) (S : List Ds) (w : World) (h : CRw w (.slice ao n cap) (.slice ao2 m cap2) B S) (hn : B.length <= 1048576) (hm : S.length <= 1048576) :
  Calls Tryz.prog 42 #[.agg #[.slice ao n cap, .slice ao2 m cap2]] w fun e w' => ∃ a1 c1 a2 c2, e = .returned (.agg #[.slice a1 B.length c1, .slice a2 S.length c2]) /\ zo w' w.heap.size (.slice a1 B.length c1) (.slice a2 S.length c2) B S /\ Below w.heap.size w w' := by
 have HH := hidden h
 clear h
 go_enter Tryz.func42, Tryz.ntmps42
 go_wp2_with fail
 have hb0 : Below w.heap.size w ((w.alloc (.cells #[.slice ao n cap, .slice ao2 m cap2] 27)).alloc (.cells #[.slice none 0 0, .slice none 0 0] 27)) := ((Below.refl _ _).alloc (Nat.le_refl _) _).alloc (by first | omega | (simp; done) | (simp; omega)) _
 have hz1 : ((w.alloc (.cells #[.slice ao n cap, .slice ao2 m cap2] 27)).alloc (.cells #[.slice none 0 0, .slice none 0 0] 27)).heap.size = w.heap.size + 1 + 1 := by simp
 have c0 : ((w.alloc (.cells #[.slice ao n cap, .slice ao2 m cap2] 27)).alloc (.cells #[.slice none 0 0, .slice none 0 0] 27)).cell? ⟨w.heap.size, 0, none⟩ = some (.slice ao n cap) := by simp [go_sem]
 have c1 : ((w.alloc (.cells #[.slice ao n cap, .slice ao2 m cap2] 27)).alloc (.cells #[.slice none 0 0, .slice none 0 0] 27)).cell? ⟨w.heap.size, 1, none⟩ = some (.slice ao2 m cap2) := by simp [go_sem]
 have c2 : ((w.alloc (.cells #[.slice ao n cap, .slice ao2 m cap2] 27)).alloc (.cells #[.slice none 0 0, .slice none 0 0] 27)).cell? ⟨w.heap.size + 1, 0, none⟩ = some (.slice none 0 0) := by simp [go_sem]
 have c3 : ((w.alloc (.cells #[.slice ao n cap, .slice ao2 m cap2] 27)).alloc (.cells #[.slice none 0 0, .slice none 0 0] 27)).cell? ⟨w.heap.size + 1, 1, none⟩ = some (.slice none 0 0) := by simp [go_sem]
 have c4 : ((w.alloc (.cells #[.slice ao n cap, .slice ao2 m cap2] 27)).alloc (.cells #[.slice none 0 0, .slice none 0 0] 27)).frozen? ⟨w.heap.size + 1, 0, none⟩ = false := by simp [go_sem]
 have c5 : ((w.alloc (.cells #[.slice ao n cap, .slice ao2 m cap2] 27)).alloc (.cells #[.slice none 0 0, .slice none 0 0] 27)).frozen? ⟨w.heap.size + 1, 1, none⟩ = false := by simp [go_sem]
 generalize ((w.alloc (.cells #[.slice ao n cap, .slice ao2 m cap2] 27)).alloc (.cells #[.slice none 0 0, .slice none 0 0] 27)) = W1 at *
 have HROW := hidden (fun W (hW : Below W1.heap.size W1 W) => HH.out.below (onto hb0 hW))
 have HZ := hidden hz1
 have hz2 : w.heap.size < W1.heap.size := by omega
 have hz3 : w.heap.size + 1 < W1.heap.size := by omega
 have hz4 : W1.heap.size <= w.heap.size + 1 + 1 := by omega
 clear hz1
 go_region_held3 (fun w' => w'.cell? ⟨w.heap.size, 0, none⟩ = some (.slice ao n cap) /\ w'.cell? ⟨w.heap.size, 1, none⟩ = some (.slice ao2 m cap2)) (go_keep)
  (first
   | ((refine zbk (cs := jd) zcs Tryz.underlying24 zbi rfl (by omega) (by omega) (by rfl) (.tmp 3) (.tmp 5) (by rfl) (W1.heap.size) (by first | ((simp [Act.eval]); done) | fail) (by first | ((repeat (first | assumption | exact zbm _ _ _ (by first | ((simp; done)) | ((simp; omega)) | omega) | with_reducible apply zbn | with_reducible apply zbl | refine kB.blk _ _ (by omega) ?_ | refine kS.blk _ _ (by omega) ?_)); done) | fail) ao n cap B (by first | ((simp [Act.eval]); done) | fail) (HROW.out _ (by first | ((repeat (first | assumption | with_reducible exact Below.refl _ _ | with_reducible apply yz | with_reducible apply yx)); done) | fail)).1 hn ?_; intro vB wB fB kB; obtain ⟨aB, qB, rfl⟩ := zac fB.own; have bB := kB.below W1 (by first | ((repeat (first | assumption | with_reducible exact Below.refl _ _ | with_reducible apply yz | with_reducible apply yx)); done) | fail) (by omega); have zB := bB.size; have dB0 := (bB.cell (p := ⟨w.heap.size, 0, none⟩) (by show w.heap.size < W1.heap.size; omega)).trans c0; have dB1 := (bB.cell (p := ⟨w.heap.size, 1, none⟩) (by show w.heap.size < W1.heap.size; omega)).trans c1; have dB2 := (bB.cell (p := ⟨w.heap.size + 1, 0, none⟩) hz3).trans c2; have dB3 := (bB.cell (p := ⟨w.heap.size + 1, 1, none⟩) hz3).trans c3; have dB4 := (bB.frozen (p := ⟨w.heap.size + 1, 0, none⟩) hz3).trans c4; have dB5 := (bB.frozen (p := ⟨w.heap.size + 1, 1, none⟩) hz3).trans c5))
   | ((refine zbk (cs := jd) zcs Tryz.underlying24 zbi rfl (by omega) (by omega) (by rfl) (.tmp 3) (.tmp 5) (by rfl) (W1.heap.size + 1) (by first | ((simp [Act.eval]); done) | fail) (by first | ((repeat (first | assumption | exact zbm _ _ _ (by first | ((simp; done)) | ((simp; omega)) | omega) | with_reducible apply zbn | with_reducible apply zbl | refine kB.blk _ _ (by omega) ?_ | refine kS.blk _ _ (by omega) ?_)); done) | fail) ao n cap B (by first | ((simp [Act.eval]); done) | fail) (HROW.out _ (by first | ((repeat (first | assumption | with_reducible exact Below.refl _ _ | with_reducible apply yz | with_reducible apply yx)); done) | fail)).1 hn ?_; intro vB wB fB kB; obtain ⟨aB, qB, rfl⟩ := zac fB.own; have bB := kB.below W1 (by first | ((repeat (first | assumption | with_reducible exact Below.refl _ _ | with_reducible apply yz | with_reducible apply yx)); done) | fail) (by omega); have zB := bB.size; have dB0 := (bB.cell (p := ⟨w.heap.size, 0, none⟩) (by show w.heap.size < W1.heap.size; omega)).trans c0; have dB1 := (bB.cell (p := ⟨w.heap.size, 1, none⟩) (by show w.heap.size < W1.heap.size; omega)).trans c1; have dB2 := (bB.cell (p := ⟨w.heap.size + 1, 0, none⟩) hz3).trans c2; have dB3 := (bB.cell (p := ⟨w.heap.size + 1, 1, none⟩) hz3).trans c3; have dB4 := (bB.frozen (p := ⟨w.heap.size + 1, 0, none⟩) hz3).trans c4; have dB5 := (bB.frozen (p := ⟨w.heap.size + 1, 1, none⟩) hz3).trans c5))
   | ((refine zbk (cs := jd) zcs Tryz.underlying24 zbi rfl (by omega) (by omega) (by rfl) (.tmp 3) (.tmp 5) (by rfl) (wS.heap.size) (by first | ((simp [Act.eval]); done) | fail) (by first | ((repeat (first | assumption | exact zbm _ _ _ (by first | ((simp; done)) | ((simp; omega)) | omega) | with_reducible apply zbn | with_reducible apply zbl | refine kB.blk _ _ (by omega) ?_ | refine kS.blk _ _ (by omega) ?_)); done) | fail) ao n cap B (by first | ((simp [Act.eval]); done) | fail) (HROW.out _ (by first | ((repeat (first | assumption | with_reducible exact Below.refl _ _ | with_reducible apply yz | with_reducible apply yx)); done) | fail)).1 hn ?_; intro vB wB fB kB; obtain ⟨aB, qB, rfl⟩ := zac fB.own; have bB := kB.below W1 (by first | ((repeat (first | assumption | with_reducible exact Below.refl _ _ | with_reducible apply yz | with_reducible apply yx)); done) | fail) (by omega); have zB := bB.size; have dB0 := (bB.cell (p := ⟨w.heap.size, 0, none⟩) (by show w.heap.size < W1.heap.size; omega)).trans c0; have dB1 := (bB.cell (p := ⟨w.heap.size, 1, none⟩) (by show w.heap.size < W1.heap.size; omega)).trans c1; have dB2 := (bB.cell (p := ⟨w.heap.size + 1, 0, none⟩) hz3).trans c2; have dB3 := (bB.cell (p := ⟨w.heap.size + 1, 1, none⟩) hz3).trans c3; have dB4 := (bB.frozen (p := ⟨w.heap.size + 1, 0, none⟩) hz3).trans c4; have dB5 := (bB.frozen (p := ⟨w.heap.size + 1, 1, none⟩) hz3).trans c5))
   | ((refine zbk (cs := jy) zdl Tryz.underlying25 zb6 rfl (by omega) (by omega) (by rfl) (.tmp 7) (.tmp 9) (by rfl) (W1.heap.size) (by first | ((simp [Act.eval]); done) | fail) (by first | ((repeat (first | assumption | exact zbm _ _ _ (by first | ((simp; done)) | ((simp; omega)) | omega) | with_reducible apply zbn | with_reducible apply zbl | refine kB.blk _ _ (by omega) ?_ | refine kS.blk _ _ (by omega) ?_)); done) | fail) ao2 m cap2 S (by first | ((simp [Act.eval]); done) | fail) (HROW.out _ (by first | ((repeat (first | assumption | with_reducible exact Below.refl _ _ | with_reducible apply yz | with_reducible apply yx)); done) | fail)).2 hm ?_; intro vS wS fS kS; obtain ⟨aS, qS, rfl⟩ := zac fS.own; have bS := kS.below W1 (by first | ((repeat (first | assumption | with_reducible exact Below.refl _ _ | with_reducible apply yz | with_reducible apply yx)); done) | fail) (by omega); have zS := bS.size; have dS0 := (bS.cell (p := ⟨w.heap.size, 0, none⟩) (by show w.heap.size < W1.heap.size; omega)).trans c0; have dS1 := (bS.cell (p := ⟨w.heap.size, 1, none⟩) (by show w.heap.size < W1.heap.size; omega)).trans c1; have dS2 := (bS.cell (p := ⟨w.heap.size + 1, 0, none⟩) hz3).trans c2; have dS3 := (bS.cell (p := ⟨w.heap.size + 1, 1, none⟩) hz3).trans c3; have dS4 := (bS.frozen (p := ⟨w.heap.size + 1, 0, none⟩) hz3).trans c4; have dS5 := (bS.frozen (p := ⟨w.heap.size + 1, 1, none⟩) hz3).trans c5))
   | ((refine zbk (cs := jy) zdl Tryz.underlying25 zb6 rfl (by omega) (by omega) (by rfl) (.tmp 7) (.tmp 9) (by rfl) (W1.heap.size + 1) (by first | ((simp [Act.eval]); done) | fail) (by first | ((repeat (first | assumption | exact zbm _ _ _ (by first | ((simp; done)) | ((simp; omega)) | omega) | with_reducible apply zbn | with_reducible apply zbl | refine kB.blk _ _ (by omega) ?_ | refine kS.blk _ _ (by omega) ?_)); done) | fail) ao2 m cap2 S (by first | ((simp [Act.eval]); done) | fail) (HROW.out _ (by first | ((repeat (first | assumption | with_reducible exact Below.refl _ _ | with_reducible apply yz | with_reducible apply yx)); done) | fail)).2 hm ?_; intro vS wS fS kS; obtain ⟨aS, qS, rfl⟩ := zac fS.own; have bS := kS.below W1 (by first | ((repeat (first | assumption | with_reducible exact Below.refl _ _ | with_reducible apply yz | with_reducible apply yx)); done) | fail) (by omega); have zS := bS.size; have dS0 := (bS.cell (p := ⟨w.heap.size, 0, none⟩) (by show w.heap.size < W1.heap.size; omega)).trans c0; have dS1 := (bS.cell (p := ⟨w.heap.size, 1, none⟩) (by show w.heap.size < W1.heap.size; omega)).trans c1; have dS2 := (bS.cell (p := ⟨w.heap.size + 1, 0, none⟩) hz3).trans c2; have dS3 := (bS.cell (p := ⟨w.heap.size + 1, 1, none⟩) hz3).trans c3; have dS4 := (bS.frozen (p := ⟨w.heap.size + 1, 0, none⟩) hz3).trans c4; have dS5 := (bS.frozen (p := ⟨w.heap.size + 1, 1, none⟩) hz3).trans c5))
   | ((refine zbk (cs := jy) zdl Tryz.underlying25 zb6 rfl (by omega) (by omega) (by rfl) (.tmp 7) (.tmp 9) (by rfl) (wB.heap.size) (by first | ((simp [Act.eval]); done) | fail) (by first | ((repeat (first | assumption | exact zbm _ _ _ (by first | ((simp; done)) | ((simp; omega)) | omega) | with_reducible apply zbn | with_reducible apply zbl | refine kB.blk _ _ (by omega) ?_ | refine kS.blk _ _ (by omega) ?_)); done) | fail) ao2 m cap2 S (by first | ((simp [Act.eval]); done) | fail) (HROW.out _ (by first | ((repeat (first | assumption | with_reducible exact Below.refl _ _ | with_reducible apply yz | with_reducible apply yx)); done) | fail)).2 hm ?_; intro vS wS fS kS; obtain ⟨aS, qS, rfl⟩ := zac fS.own; have bS := kS.below W1 (by first | ((repeat (first | assumption | with_reducible exact Below.refl _ _ | with_reducible apply yz | with_reducible apply yx)); done) | fail) (by omega); have zS := bS.size; have dS0 := (bS.cell (p := ⟨w.heap.size, 0, none⟩) (by show w.heap.size < W1.heap.size; omega)).trans c0; have dS1 := (bS.cell (p := ⟨w.heap.size, 1, none⟩) (by show w.heap.size < W1.heap.size; omega)).trans c1; have dS2 := (bS.cell (p := ⟨w.heap.size + 1, 0, none⟩) hz3).trans c2; have dS3 := (bS.cell (p := ⟨w.heap.size + 1, 1, none⟩) hz3).trans c3; have dS4 := (bS.frozen (p := ⟨w.heap.size + 1, 0, none⟩) hz3).trans c4; have dS5 := (bS.frozen (p := ⟨w.heap.size + 1, 1, none⟩) hz3).trans c5))
   | fail)
 all_goals go_wp2_with fail
 all_goals first
  | (have oB := kS.own _ 38 9 _ _ _ (by decide) (by first | exact fB.own | exact zfd fB.own _ | exact ze4 fB.own | fail); have FIN := zfn oB fS.own (by omega) (by omega) (onto hb0 bS) (.slice aB B.length qB) (.slice aS S.length qS); exact bodyPost_ret (v := .agg #[.slice aB B.length qB, .slice aS S.length qS]) (by simp [results, Tryz.results42, go_sem, dS2, dS3]) rfl ⟨aB, qB, aS, qS, rfl, FIN.1, FIN.2⟩)
  | (have oS := kB.own _ 35 5 _ _ _ (by decide) (by first | exact fS.own | exact zfd fS.own _ | exact ze4 fS.own | fail); have FIN := zfn fB.own oS (by omega) (by omega) (onto hb0 bB) (.slice aB B.length qB) (.slice aS S.length qS); exact bodyPost_ret (v := .agg #[.slice aB B.length qB, .slice aS S.length qS]) (by simp [results, Tryz.results42, go_sem, dB2, dB3]) rfl ⟨aB, qB, aS, qS, rfl, FIN.1, FIN.2⟩)
set_option maxRecDepth 20000 in
set_option maxHeartbeats 16000000 in
theorem zb5 (ao ao2 : Option Addr) (n cap m cap2 : Nat) (B : List Od) (S : List Ds) (w : World) (h : CRw w (.slice ao n cap) (.slice ao2 m cap2) B S) (hn : B.length <= 1048576) (hm : S.length <= 1048576) :
  Calls Tryz.prog 77 #[.agg #[.slice ao n cap, .slice ao2 m cap2]] w fun e w' => ∃ a1 c1 a2 c2, e = .returned (.agg #[.slice a1 B.length c1, .slice a2 S.length c2]) /\ zo w' w.heap.size (.slice a1 B.length c1) (.slice a2 S.length c2) B S /\ Below w.heap.size w w' := by
 have HH := hidden h
 clear h
 go_enter Tryz.func77, Tryz.ntmps77
 go_wp2_with fail
 have hb0 : Below w.heap.size w ((w.alloc (.cells #[.slice ao n cap, .slice ao2 m cap2] 27)).alloc (.cells #[.slice none 0 0, .slice none 0 0] 27)) := ((Below.refl _ _).alloc (Nat.le_refl _) _).alloc (by first | omega | (simp; done) | (simp; omega)) _
 have hz1 : ((w.alloc (.cells #[.slice ao n cap, .slice ao2 m cap2] 27)).alloc (.cells #[.slice none 0 0, .slice none 0 0] 27)).heap.size = w.heap.size + 1 + 1 := by simp
 have c0 : ((w.alloc (.cells #[.slice ao n cap, .slice ao2 m cap2] 27)).alloc (.cells #[.slice none 0 0, .slice none 0 0] 27)).cell? ⟨w.heap.size, 0, none⟩ = some (.slice ao n cap) := by simp [go_sem]
 have c1 : ((w.alloc (.cells #[.slice ao n cap, .slice ao2 m cap2] 27)).alloc (.cells #[.slice none 0 0, .slice none 0 0] 27)).cell? ⟨w.heap.size, 1, none⟩ = some (.slice ao2 m cap2) := by simp [go_sem]
 have c2 : ((w.alloc (.cells #[.slice ao n cap, .slice ao2 m cap2] 27)).alloc (.cells #[.slice none 0 0, .slice none 0 0] 27)).cell? ⟨w.heap.size + 1, 0, none⟩ = some (.slice none 0 0) := by simp [go_sem]
 have c3 : ((w.alloc (.cells #[.slice ao n cap, .slice ao2 m cap2] 27)).alloc (.cells #[.slice none 0 0, .slice none 0 0] 27)).cell? ⟨w.heap.size + 1, 1, none⟩ = some (.slice none 0 0) := by simp [go_sem]
 have c4 : ((w.alloc (.cells #[.slice ao n cap, .slice ao2 m cap2] 27)).alloc (.cells #[.slice none 0 0, .slice none 0 0] 27)).frozen? ⟨w.heap.size + 1, 0, none⟩ = false := by simp [go_sem]
 have c5 : ((w.alloc (.cells #[.slice ao n cap, .slice ao2 m cap2] 27)).alloc (.cells #[.slice none 0 0, .slice none 0 0] 27)).frozen? ⟨w.heap.size + 1, 1, none⟩ = false := by simp [go_sem]
 generalize ((w.alloc (.cells #[.slice ao n cap, .slice ao2 m cap2] 27)).alloc (.cells #[.slice none 0 0, .slice none 0 0] 27)) = W1 at *
 have HROW := hidden (fun W (hW : Below W1.heap.size W1 W) => HH.out.below (onto hb0 hW))
 have HZ := hidden hz1
 have hz2 : w.heap.size < W1.heap.size := by omega
 have hz3 : w.heap.size + 1 < W1.heap.size := by omega
 have hz4 : W1.heap.size <= w.heap.size + 1 + 1 := by omega
 clear hz1
 go_region_held3 (fun w' => w'.cell? ⟨w.heap.size, 0, none⟩ = some (.slice ao n cap) /\ w'.cell? ⟨w.heap.size, 1, none⟩ = some (.slice ao2 m cap2)) (go_keep)
  (first
   | ((refine zbk (cs := jd) zcs Tryz.underlying24 zbi rfl (by omega) (by omega) (by rfl) (.tmp 3) (.tmp 5) (by rfl) (W1.heap.size) (by first | ((simp [Act.eval]); done) | fail) (by first | ((repeat (first | assumption | exact zbm _ _ _ (by first | ((simp; done)) | ((simp; omega)) | omega) | with_reducible apply zbn | with_reducible apply zbl | refine kB.blk _ _ (by omega) ?_ | refine kS.blk _ _ (by omega) ?_)); done) | fail) ao n cap B (by first | ((simp [Act.eval]); done) | fail) (HROW.out _ (by first | ((repeat (first | assumption | with_reducible exact Below.refl _ _ | with_reducible apply yz | with_reducible apply yx)); done) | fail)).1 hn ?_; intro vB wB fB kB; obtain ⟨aB, qB, rfl⟩ := zac fB.own; have bB := kB.below W1 (by first | ((repeat (first | assumption | with_reducible exact Below.refl _ _ | with_reducible apply yz | with_reducible apply yx)); done) | fail) (by omega); have zB := bB.size; have dB0 := (bB.cell (p := ⟨w.heap.size, 0, none⟩) (by show w.heap.size < W1.heap.size; omega)).trans c0; have dB1 := (bB.cell (p := ⟨w.heap.size, 1, none⟩) (by show w.heap.size < W1.heap.size; omega)).trans c1; have dB2 := (bB.cell (p := ⟨w.heap.size + 1, 0, none⟩) hz3).trans c2; have dB3 := (bB.cell (p := ⟨w.heap.size + 1, 1, none⟩) hz3).trans c3; have dB4 := (bB.frozen (p := ⟨w.heap.size + 1, 0, none⟩) hz3).trans c4; have dB5 := (bB.frozen (p := ⟨w.heap.size + 1, 1, none⟩) hz3).trans c5))
   | ((refine zbk (cs := jd) zcs Tryz.underlying24 zbi rfl (by omega) (by omega) (by rfl) (.tmp 3) (.tmp 5) (by rfl) (W1.heap.size + 1) (by first | ((simp [Act.eval]); done) | fail) (by first | ((repeat (first | assumption | exact zbm _ _ _ (by first | ((simp; done)) | ((simp; omega)) | omega) | with_reducible apply zbn | with_reducible apply zbl | refine kB.blk _ _ (by omega) ?_ | refine kS.blk _ _ (by omega) ?_)); done) | fail) ao n cap B (by first | ((simp [Act.eval]); done) | fail) (HROW.out _ (by first | ((repeat (first | assumption | with_reducible exact Below.refl _ _ | with_reducible apply yz | with_reducible apply yx)); done) | fail)).1 hn ?_; intro vB wB fB kB; obtain ⟨aB, qB, rfl⟩ := zac fB.own; have bB := kB.below W1 (by first | ((repeat (first | assumption | with_reducible exact Below.refl _ _ | with_reducible apply yz | with_reducible apply yx)); done) | fail) (by omega); have zB := bB.size; have dB0 := (bB.cell (p := ⟨w.heap.size, 0, none⟩) (by show w.heap.size < W1.heap.size; omega)).trans c0; have dB1 := (bB.cell (p := ⟨w.heap.size, 1, none⟩) (by show w.heap.size < W1.heap.size; omega)).trans c1; have dB2 := (bB.cell (p := ⟨w.heap.size + 1, 0, none⟩) hz3).trans c2; have dB3 := (bB.cell (p := ⟨w.heap.size + 1, 1, none⟩) hz3).trans c3; have dB4 := (bB.frozen (p := ⟨w.heap.size + 1, 0, none⟩) hz3).trans c4; have dB5 := (bB.frozen (p := ⟨w.heap.size + 1, 1, none⟩) hz3).trans c5))
   | ((refine zbk (cs := jd) zcs Tryz.underlying24 zbi rfl (by omega) (by omega) (by rfl) (.tmp 3) (.tmp 5) (by rfl) (wS.heap.size) (by first | ((simp [Act.eval]); done) | fail) (by first | ((repeat (first | assumption | exact zbm _ _ _ (by first | ((simp; done)) | ((simp; omega)) | omega) | with_reducible apply zbn | with_reducible apply zbl | refine kB.blk _ _ (by omega) ?_ | refine kS.blk _ _ (by omega) ?_)); done) | fail) ao n cap B (by first | ((simp [Act.eval]); done) | fail) (HROW.out _ (by first | ((repeat (first | assumption | with_reducible exact Below.refl _ _ | with_reducible apply yz | with_reducible apply yx)); done) | fail)).1 hn ?_; intro vB wB fB kB; obtain ⟨aB, qB, rfl⟩ := zac fB.own; have bB := kB.below W1 (by first | ((repeat (first | assumption | with_reducible exact Below.refl _ _ | with_reducible apply yz | with_reducible apply yx)); done) | fail) (by omega); have zB := bB.size; have dB0 := (bB.cell (p := ⟨w.heap.size, 0, none⟩) (by show w.heap.size < W1.heap.size; omega)).trans c0; have dB1 := (bB.cell (p := ⟨w.heap.size, 1, none⟩) (by show w.heap.size < W1.heap.size; omega)).trans c1; have dB2 := (bB.cell (p := ⟨w.heap.size + 1, 0, none⟩) hz3).trans c2; have dB3 := (bB.cell (p := ⟨w.heap.size + 1, 1, none⟩) hz3).trans c3; have dB4 := (bB.frozen (p := ⟨w.heap.size + 1, 0, none⟩) hz3).trans c4; have dB5 := (bB.frozen (p := ⟨w.heap.size + 1, 1, none⟩) hz3).trans c5))
   | ((refine zbk (cs := jy) zdl Tryz.underlying25 zb6 rfl (by omega) (by omega) (by rfl) (.tmp 7) (.tmp 9) (by rfl) (W1.heap.size) (by first | ((simp [Act.eval]); done) | fail) (by first | ((repeat (first | assumption | exact zbm _ _ _ (by first | ((simp; done)) | ((simp; omega)) | omega) | with_reducible apply zbn | with_reducible apply zbl | refine kB.blk _ _ (by omega) ?_ | refine kS.blk _ _ (by omega) ?_)); done) | fail) ao2 m cap2 S (by first | ((simp [Act.eval]); done) | fail) (HROW.out _ (by first | ((repeat (first | assumption | with_reducible exact Below.refl _ _ | with_reducible apply yz | with_reducible apply yx)); done) | fail)).2 hm ?_; intro vS wS fS kS; obtain ⟨aS, qS, rfl⟩ := zac fS.own; have bS := kS.below W1 (by first | ((repeat (first | assumption | with_reducible exact Below.refl _ _ | with_reducible apply yz | with_reducible apply yx)); done) | fail) (by omega); have zS := bS.size; have dS0 := (bS.cell (p := ⟨w.heap.size, 0, none⟩) (by show w.heap.size < W1.heap.size; omega)).trans c0; have dS1 := (bS.cell (p := ⟨w.heap.size, 1, none⟩) (by show w.heap.size < W1.heap.size; omega)).trans c1; have dS2 := (bS.cell (p := ⟨w.heap.size + 1, 0, none⟩) hz3).trans c2; have dS3 := (bS.cell (p := ⟨w.heap.size + 1, 1, none⟩) hz3).trans c3; have dS4 := (bS.frozen (p := ⟨w.heap.size + 1, 0, none⟩) hz3).trans c4; have dS5 := (bS.frozen (p := ⟨w.heap.size + 1, 1, none⟩) hz3).trans c5))
   | ((refine zbk (cs := jy) zdl Tryz.underlying25 zb6 rfl (by omega) (by omega) (by rfl) (.tmp 7) (.tmp 9) (by rfl) (W1.heap.size + 1) (by first | ((simp [Act.eval]); done) | fail) (by first | ((repeat (first | assumption | exact zbm _ _ _ (by first | ((simp; done)) | ((simp; omega)) | omega) | with_reducible apply zbn | with_reducible apply zbl | refine kB.blk _ _ (by omega) ?_ | refine kS.blk _ _ (by omega) ?_)); done) | fail) ao2 m cap2 S (by first | ((simp [Act.eval]); done) | fail) (HROW.out _ (by first | ((repeat (first | assumption | with_reducible exact Below.refl _ _ | with_reducible apply yz | with_reducible apply yx)); done) | fail)).2 hm ?_; intro vS wS fS kS; obtain ⟨aS, qS, rfl⟩ := zac fS.own; have bS := kS.below W1 (by first | ((repeat (first | assumption | with_reducible exact Below.refl _ _ | with_reducible apply yz | with_reducible apply yx)); done) | fail) (by omega); have zS := bS.size; have dS0 := (bS.cell (p := ⟨w.heap.size, 0, none⟩) (by show w.heap.size < W1.heap.size; omega)).trans c0; have dS1 := (bS.cell (p := ⟨w.heap.size, 1, none⟩) (by show w.heap.size < W1.heap.size; omega)).trans c1; have dS2 := (bS.cell (p := ⟨w.heap.size + 1, 0, none⟩) hz3).trans c2; have dS3 := (bS.cell (p := ⟨w.heap.size + 1, 1, none⟩) hz3).trans c3; have dS4 := (bS.frozen (p := ⟨w.heap.size + 1, 0, none⟩) hz3).trans c4; have dS5 := (bS.frozen (p := ⟨w.heap.size + 1, 1, none⟩) hz3).trans c5))
   | ((refine zbk (cs := jy) zdl Tryz.underlying25 zb6 rfl (by omega) (by omega) (by rfl) (.tmp 7) (.tmp 9) (by rfl) (wB.heap.size) (by first | ((simp [Act.eval]); done) | fail) (by first | ((repeat (first | assumption | exact zbm _ _ _ (by first | ((simp; done)) | ((simp; omega)) | omega) | with_reducible apply zbn | with_reducible apply zbl | refine kB.blk _ _ (by omega) ?_ | refine kS.blk _ _ (by omega) ?_)); done) | fail) ao2 m cap2 S (by first | ((simp [Act.eval]); done) | fail) (HROW.out _ (by first | ((repeat (first | assumption | with_reducible exact Below.refl _ _ | with_reducible apply yz | with_reducible apply yx)); done) | fail)).2 hm ?_; intro vS wS fS kS; obtain ⟨aS, qS, rfl⟩ := zac fS.own; have bS := kS.below W1 (by first | ((repeat (first | assumption | with_reducible exact Below.refl _ _ | with_reducible apply yz | with_reducible apply yx)); done) | fail) (by omega); have zS := bS.size; have dS0 := (bS.cell (p := ⟨w.heap.size, 0, none⟩) (by show w.heap.size < W1.heap.size; omega)).trans c0; have dS1 := (bS.cell (p := ⟨w.heap.size, 1, none⟩) (by show w.heap.size < W1.heap.size; omega)).trans c1; have dS2 := (bS.cell (p := ⟨w.heap.size + 1, 0, none⟩) hz3).trans c2; have dS3 := (bS.cell (p := ⟨w.heap.size + 1, 1, none⟩) hz3).trans c3; have dS4 := (bS.frozen (p := ⟨w.heap.size + 1, 0, none⟩) hz3).trans c4; have dS5 := (bS.frozen (p := ⟨w.heap.size + 1, 1, none⟩) hz3).trans c5))
   | fail)
 all_goals go_wp2_with fail
 all_goals first
  | (have oB := kS.own _ 38 9 _ _ _ (by decide) (by first | exact fB.own | exact zfd fB.own _ | exact ze4 fB.own | fail); have FIN := zfn oB fS.own (by omega) (by omega) (onto hb0 bS) (.slice aB B.length qB) (.slice aS S.length qS); exact bodyPost_ret (v := .agg #[.slice aB B.length qB, .slice aS S.length qS]) (by simp [results, Tryz.results77, go_sem, dS2, dS3]) rfl ⟨aB, qB, aS, qS, rfl, FIN.1, FIN.2⟩)
  | (have oS := kB.own _ 35 5 _ _ _ (by decide) (by first | exact fS.own | exact zfd fS.own _ | exact ze4 fS.own | fail); have FIN := zfn fB.own oS (by omega) (by omega) (onto hb0 bB) (.slice aB B.length qB) (.slice aS S.length qS); exact bodyPost_ret (v := .agg #[.slice aB B.length qB, .slice aS S.length qS]) (by simp [results, Tryz.results77, go_sem, dB2, dB3]) rfl ⟨aB, qB, aS, qS, rfl, FIN.1, FIN.2⟩)
end Go.Proofs.YtjlpfpigggdemaaGreatDoor.Cp
