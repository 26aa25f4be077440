/-
  Control, the program's: the rules made, the code of a control, the whole.
-/
import Derived.Test.YtecljmpojninfaaT33
namespace Go.Proofs.Ytecljmpojninfaa
open Go.RowKit Va Lb
set_option linter.all false

/-- The function v asks the rule r. -/
def RuleAt (W : World) (v : Value) (r : Rl) : Prop := ∃ Bc Bf Bx, v = .func (.func 77) #[] #[.pointer (some ⟨Bc, 0, none⟩), .pointer (some ⟨Bf, 0, none⟩)] ∧ PB W Bc #[.int .i64 (r.c : Int)] 3 ∧ PB W Bf #[.func (.func (kF r.both)) #[] #[.pointer (some ⟨Bx, 0, none⟩)]] 100 ∧ PB W Bx #[.int .i64 r.f] 2
theorem RuleAt.below {W W' : World} {v : Value} {r : Rl} (h : RuleAt W v r) (hb : Below W.heap.size W W') : RuleAt W' v r := by
  obtain ⟨a, b, c, h1, h2, h3, h4⟩ := h
  exact ⟨a, b, c, h1, h2.below hb, h3.below hb, h4.below hb⟩

set_option maxRecDepth 20000 in
set_option maxHeartbeats 2000000 in
theorem iof_any (c : Nat) (fv : Value) (hfv : ∃ F B, fv = .func (.func F) #[] #[.pointer (some ⟨B, 0, none⟩)]) (w : World) :
    Calls Try.prog 71 #[.int .i64 (c : Int), fv] w fun e w' => ∃ Bc Bf, e = .returned (.func (.func 77) #[] #[.pointer (some ⟨Bc, 0, none⟩), .pointer (some ⟨Bf, 0, none⟩)]) ∧ PB w' Bc #[.int .i64 (c : Int)] 3 ∧ PB w' Bf #[fv] 100 ∧ Below w.heap.size w w' := by
  obtain ⟨F, B, rfl⟩ := hfv
  have P1 := hidden ((PB.new w #[.int .i64 (c : Int)] 3).alloc (.cells #[.func (.func F) #[] #[.pointer (some ⟨B, 0, none⟩)]] 100))
  have P2 := hidden (PB.new (w.alloc (.cells #[.int .i64 (c : Int)] 3)) #[.func (.func F) #[] #[.pointer (some ⟨B, 0, none⟩)]] 100)
  have b2 : Below w.heap.size w ((w.alloc (.cells #[.int .i64 (c : Int)] 3)).alloc (.cells #[.func (.func F) #[] #[.pointer (some ⟨B, 0, none⟩)]] 100)) := by repeat (first | exact Below.refl _ _ | assumption | refine st_drew ?_ | refine st_drewN ?_ _ | refine Below.setCell ?_ (by first | omega | (simp; done) | (simp; omega)) _ | refine Below.alloc ?_ (by first | omega | (simp; done) | (simp; omega)) _)
  go_enter Try.func71, Try.ntmps71
  go_wp2_with fail
  go_ret
  exact ⟨_, _, rfl, P1.out, by have := P2.out; rw [World.size_alloc] at this; exact this, b2⟩

set_option maxRecDepth 20000 in
set_option maxHeartbeats 2000000 in
theorem ioneS_any (c : Nat) (f : Int) (w : World) :
    Calls Try.prog 58 #[.int .i64 (c : Int), .int .i64 f] w fun e w' => ∃ v, e = .returned v ∧ RuleAt w' v ⟨false, c, f⟩ ∧ Below w.heap.size w w' := by
  have HX := hidden (PB.new w #[.int .i64 f] 2)
  have bx : Below w.heap.size w (w.alloc (.cells #[.int .i64 f] 2)) := (Below.refl _ _).alloc (Nat.le_refl _) _
  have k := iof_any c (.func (.func (kF false)) #[] #[.pointer (some ⟨w.heap.size, 0, none⟩)]) ⟨_, _, rfl⟩ (w.alloc (.cells #[.int .i64 f] 2))
  rw [show kF false = 72 from rfl] at k
  go_enter Try.func58, Try.ntmps58
  go_wp2_with (go_at_call 71; refine k.mono ?_; rintro e w1 ⟨Bc, Bf, rfl, h1, h2, hb1⟩)
  go_ret
  exact ⟨_, rfl, ⟨Bc, Bf, w.heap.size, rfl, h1, h2, HX.out.below hb1⟩, onto bx hb1⟩

set_option maxRecDepth 20000 in
set_option maxHeartbeats 2000000 in
theorem ibothS_any (c : Nat) (f : Int) (w : World) :
    Calls Try.prog 59 #[.int .i64 (c : Int), .int .i64 f] w fun e w' => ∃ v, e = .returned v ∧ RuleAt w' v ⟨true, c, f⟩ ∧ Below w.heap.size w w' := by
  have HX := hidden (PB.new w #[.int .i64 f] 2)
  have bx : Below w.heap.size w (w.alloc (.cells #[.int .i64 f] 2)) := (Below.refl _ _).alloc (Nat.le_refl _) _
  have k := iof_any c (.func (.func (kF true)) #[] #[.pointer (some ⟨w.heap.size, 0, none⟩)]) ⟨_, _, rfl⟩ (w.alloc (.cells #[.int .i64 f] 2))
  rw [show kF true = 73 from rfl] at k
  go_enter Try.func59, Try.ntmps59
  go_wp2_with (go_at_call 71; refine k.mono ?_; rintro e w1 ⟨Bc, Bf, rfl, h1, h2, hb1⟩)
  go_ret
  exact ⟨_, rfl, ⟨Bc, Bf, w.heap.size, rfl, h1, h2, HX.out.below hb1⟩, onto bx hb1⟩

set_option maxRecDepth 20000 in
set_option maxHeartbeats 4000000 in
theorem irules_any (s : Int) (h0 : 1 ≤ s) (h1 : s ≤ 100000) (w : World) :
    Calls Try.prog 39 #[.int .i64 s] w fun e w' => ∃ G v0 v1 v2 v3 v4 v5, e = .returned (.slice (some ⟨G, 0, none⟩) 6 6) ∧ PB w' G #[v0, v1, v2, v3, v4, v5] 84 ∧ (RuleAt w' v0 ⟨false, 1, 3 * s⟩ ∧ RuleAt w' v1 ⟨false, 2, 2 * s⟩ ∧ RuleAt w' v2 ⟨true, 2, 2 * s⟩ ∧ RuleAt w' v3 ⟨false, 4, s⟩ ∧ RuleAt w' v4 ⟨false, 10, 0⟩ ∧ RuleAt w' v5 ⟨false, 1, 2 * s⟩) ∧ Below w.heap.size w w' := by
  have K1 := hidden (ioneS_any 1 (3 * s))
  have K2 := hidden (ioneS_any 2 (2 * s))
  have K3 := hidden (ibothS_any 2 (2 * s))
  have K4 := hidden (ioneS_any 4 s)
  have K5 := hidden (ioneS_any 10 0)
  have K6 := hidden (ioneS_any 1 (2 * s))
  go_enter Try.func39, Try.ntmps39
  go_wp2_with fail
  refine (K1.out _).mono ?_
  rintro e w1 ⟨v0, rfl, r0, b1⟩
  have c0 := r0
  obtain ⟨x1, x2, x3, rfl, -⟩ := c0
  have R0 := hidden r0
  have B1 := hidden b1
  clear r0 b1 K1
  go_wp2_with fail
  refine (K2.out _).mono ?_
  rintro e w2 ⟨v1, rfl, r1, b2⟩
  have R0' := hidden (R0.out.below b2)
  have B2 := hidden (onto B1.out b2)
  have c1 := r1
  obtain ⟨y1, y2, y3, rfl, -⟩ := c1
  have R1 := hidden r1
  clear r1 b2 K2 R0 B1
  go_wp2_with fail
  refine (K3.out _).mono ?_
  rintro e w3 ⟨v2, rfl, r2, b3⟩
  have R0 := hidden (R0'.out.below b3)
  have R1' := hidden (R1.out.below b3)
  have B3 := hidden (onto B2.out b3)
  have c2 := r2
  obtain ⟨z1, z2, z3, rfl, -⟩ := c2
  have R2 := hidden r2
  clear r2 b3 K3 R0' R1 B2
  go_wp2_with fail
  refine (K4.out _).mono ?_
  rintro e w4 ⟨v3, rfl, r3, b4⟩
  have R0' := hidden (R0.out.below b4)
  have R1 := hidden (R1'.out.below b4)
  have R2' := hidden (R2.out.below b4)
  have B4 := hidden (onto B3.out b4)
  have c3 := r3
  obtain ⟨u1, u2, u3, rfl, -⟩ := c3
  have R3 := hidden r3
  clear r3 b4 K4 R0 R1' R2 B3
  go_wp2_with fail
  refine (K5.out _).mono ?_
  rintro e w5 ⟨v4, rfl, r4, b5⟩
  have R0 := hidden (R0'.out.below b5)
  have R1' := hidden (R1.out.below b5)
  have R2 := hidden (R2'.out.below b5)
  have R3' := hidden (R3.out.below b5)
  have B5 := hidden (onto B4.out b5)
  have c4 := r4
  obtain ⟨t1, t2, t3, rfl, -⟩ := c4
  have R4 := hidden r4
  clear r4 b5 K5 R0' R1 R2' R3 B4
  go_wp2_with fail
  refine (K6.out _).mono ?_
  rintro e w6 ⟨v5, rfl, r5, b6⟩
  have c5 := r5
  obtain ⟨q1, q2, q3, rfl, -⟩ := c5
  have B6 := hidden (onto B5.out b6)
  have RS := hidden (And.intro (R0.out.below b6) (And.intro (R1'.out.below b6) (And.intro (R2.out.below b6) (And.intro (R3'.out.below b6) (And.intro (R4.out.below b6) r5)))))
  clear r5 b6 K6 R0 R1' R2 R3' R4 B5
  go_wp2_with fail
  go_ret
  have bA : Below w6.heap.size w6 (w6.alloc (.cells #[.func (.func 77) #[] #[.pointer (some ⟨x1, 0, none⟩), .pointer (some ⟨x2, 0, none⟩)], .func (.func 77) #[] #[.pointer (some ⟨y1, 0, none⟩), .pointer (some ⟨y2, 0, none⟩)], .func (.func 77) #[] #[.pointer (some ⟨z1, 0, none⟩), .pointer (some ⟨z2, 0, none⟩)], .func (.func 77) #[] #[.pointer (some ⟨u1, 0, none⟩), .pointer (some ⟨u2, 0, none⟩)], .func (.func 77) #[] #[.pointer (some ⟨t1, 0, none⟩), .pointer (some ⟨t2, 0, none⟩)], .func (.func 77) #[] #[.pointer (some ⟨q1, 0, none⟩), .pointer (some ⟨q2, 0, none⟩)]] 84)) := (Below.refl _ _).alloc (Nat.le_refl _) _
  obtain ⟨a0, a1, a2, a3, a4, a5⟩ := RS.out
  exact ⟨w6.heap.size, _, _, _, _, _, _, rfl, PB.new _ _ _, ⟨a0.below bA, a1.below bA, a2.below bA, a3.below bA, a4.below bA, a5.below bA⟩, onto B6.out bA⟩

set_option maxRecDepth 20000 in
set_option maxHeartbeats 2000000 in
theorem iclos_any (r : Rl) (hc1 : 1 ≤ r.c) (hc2 : r.c ≤ 2000) (hf0 : 0 ≤ r.f) (hf1 : r.f ≤ 1000000) (v : Value) (Ba : Nat) (ao : Option Addr) (n cap : Nat) (l : List Int) (w : World) (hv : RuleAt w v r) (h : VRw 1 cvI w (.slice ao n cap) l) (hn : l.length ≤ 1048576) (hBa : PB w Ba #[.slice ao n cap] 24) :
    Calls Try.prog 61 #[v, .pointer (some ⟨Ba, 0, none⟩)] w fun e w' => e = .returned (.bool (rlB r l)) ∧ Below w.heap.size w w' := by
  obtain ⟨Bc, Bf, Bx, rfl, h1, h2, h3⟩ := hv
  have k := ilast_any r hc1 hc2 hf0 hf1 ao n cap l Bc Bf Bx w h hn h1 h2 h3
  have c0 : w.cell? ⟨Ba, 0, none⟩ = some (.slice ao n cap) := hBa.cell 0
  clear h1 h2 h3 h hBa
  go_enter Try.func61, Try.ntmps61
  go_wp2_with (go_at_call 77; refine k.mono ?_; rintro e w1 ⟨rfl, hb1⟩)
  go_ret
  exact ⟨rfl, hb1⟩

/-- The rules' functions lie at a block. -/
def RulesAt (W : World) (G : Nat) (vs : List Value) (rs : List Rl) : Prop := vs.length = rs.length ∧ PB W G vs.toArray 84 ∧ ∀ (i : Nat) (v : Value) (r : Rl), vs[i]? = some v → rs[i]? = some r → RuleAt W v r
theorem RulesAt.below {W W' : World} {G : Nat} {vs : List Value} {rs : List Rl} (h : RulesAt W G vs rs) (hb : Below W.heap.size W W') : RulesAt W' G vs rs := ⟨h.1, h.2.1.below hb, fun i v r hv hr => (h.2.2 i v r hv hr).below hb⟩
theorem firstR_drop {l : List Int} {rs : List Rl} {i : Nat} {r : Rl} (k : Int) (hr : rs[i]? = some r) : firstR l (rs.drop i) k = if rlB r l then k else firstR l (rs.drop (i + 1)) (k + 1) := by
  rw [List.drop_eq_getElem_cons (get_ltL hr), firstR]
  have : rs[i]'(get_ltL hr) = r := by have := List.getElem?_eq_getElem (get_ltL hr); rw [hr] at this; exact (Option.some.inj this).symm
  rw [this]

set_option maxRecDepth 20000 in
set_option maxHeartbeats 4000000 in
theorem iindex_any (G Ba : Nat) (vs : List Value) (rs : List Rl) (hrs : ∀ r ∈ rs, (1 ≤ r.c ∧ r.c ≤ 2000) ∧ (0 ≤ r.f ∧ r.f ≤ 1000000)) (hlen : rs.length ≤ 100) (ao : Option Addr) (n cap : Nat) (l : List Int) (w : World) (hG : RulesAt w G vs rs) (h : VRw 1 cvI w (.slice ao n cap) l) (hn : l.length ≤ 1048576) (hBa : PB w Ba #[.slice ao n cap] 24) :
    Calls Try.prog 60 #[.slice (some ⟨G, 0, none⟩) rs.length rs.length, .func (.func 61) #[] #[.pointer (some ⟨Ba, 0, none⟩)]] w fun e w' => e = .returned (.int .i64 (firstR l rs 0)) ∧ Below w.heap.size w w' := by
  have HG := hidden hG
  have HR := hidden h
  have HBa := hidden hBa
  have HRS := hidden hrs
  clear h hG hBa hrs
  go_enter Try.func60, Try.ntmps60
  go_wp2_with fail
  go_loopw [5, 8] (fun _ iv wr => ∃ i : Nat, i ≤ rs.length ∧ iv = .int .i64 i ∧ Hid (firstR l rs 0 = firstR l (rs.drop i) (i : Int)) ∧ Below w.heap.size w wr) (fun _ iv _ => rs.length - (intOf iv).toNat)
  case atStart => exact ⟨0, Nat.zero_le _, rfl, rfl, Below.refl _ _⟩
  case round =>
    obtain ⟨i, hi, rfl, HS, hb⟩ := hrel
    by_cases hlt : i < rs.length
    · have hlti : (i : Int) < (rs.length : Int) := by omega
      obtain ⟨r, hr⟩ := some_of rs i hlt
      have hGr := HG.out.below hb
      obtain ⟨v, hv⟩ := some_of vs i (by rw [hGr.1]; exact hlt)
      obtain ⟨⟨k1, k2⟩, k3, k4⟩ := HRS.out r (List.mem_of_getElem? hr)
      have hK := iclos_any r k1 k2 k3 k4 v Ba ao n cap l wr (hGr.2.2 i v r hv hr) (HR.out.below hb) hn (HBa.out.below hb)
      have c0 : wr.cell? ⟨G, i, none⟩ = some v := by rw [hGr.2.1.cell i]; simpa using hv
      have HD := hidden (firstR_drop (l := l) (i : Int) hr)
      obtain ⟨x1, x2, x3, rfl, -⟩ := hGr.2.2 i v r hv hr
      clear hGr hv hr
      cases hq : rlB r l with
      | true =>
        rw [hq] at hK HD
        have HE : Hid (firstR l rs 0 = (i : Int)) := by rw [Hid, HS.out, HD.out]; rfl
        clear HS HD hq
        go_wp2_with (go_at_call 61; refine hK.mono ?_; rintro e w1 ⟨rfl, hb1⟩)
        go_ret
        exact ⟨ret_intT HE.out.symm, onto hb hb1⟩
      | false =>
        rw [hq] at hK HD
        have HE : Hid (firstR l rs 0 = firstR l (rs.drop (i + 1)) ((i + 1 : Nat) : Int)) := by rw [Hid, HS.out, HD.out]; push_cast; rfl
        clear HS HD hq
        go_wp2_with (go_at_call 61; refine hK.mono ?_; rintro e w1 ⟨rfl, hb1⟩)
        go_roundw
        case rel => exact ⟨i + 1, by omega, rfl, HE, onto hb hb1⟩
        case measure => simp [intOf]; omega
    · have hlti : ¬ (i : Int) < (rs.length : Int) := by omega
      have HE : Hid (firstR l rs 0 = -1) := by rw [Hid, HS.out, List.drop_of_length_le (by omega)]; rfl
      clear HS
      go_wp2_with fail
      go_ret
      exact ⟨ret_intT HE.out.symm, hb⟩

theorem firstR_bd (l : List Int) : ∀ (rs : List Rl) (k : Int), 0 ≤ k → -1 ≤ firstR l rs k ∧ firstR l rs k ≤ k + (rs.length : Int)
  | [], k, h => by simp [firstR]; omega
  | r :: rs, k, h => by
    unfold firstR
    have := firstR_bd l rs (k + 1) (by omega)
    rw [List.length_cons]
    split <;> omega

set_option maxRecDepth 20000 in
set_option maxHeartbeats 2000000 in
theorem icode_any (G : Nat) (vs : List Value) (rs : List Rl) (hrs : ∀ r ∈ rs, (1 ≤ r.c ∧ r.c ≤ 2000) ∧ (0 ≤ r.f ∧ r.f ≤ 1000000)) (hlen : rs.length ≤ 100) (ao : Option Addr) (n cap : Nat) (l : List Int) (w : World) (hG : RulesAt w G vs rs) (h : VRw 1 cvI w (.slice ao n cap) l) (hn : l.length ≤ 1048576) :
    Calls Try.prog 40 #[.slice (some ⟨G, 0, none⟩) rs.length rs.length, .slice ao n cap] w fun e w' => e = .returned (.int .i64 (firstR l rs 0 + 1)) ∧ Below w.heap.size w w' := by
  have bx : Below w.heap.size w (w.alloc (.cells #[.slice ao n cap] 24)) := (Below.refl _ _).alloc (Nat.le_refl _) _
  have k := iindex_any G w.heap.size vs rs hrs hlen ao n cap l (w.alloc (.cells #[.slice ao n cap] 24)) (hG.below bx) (h.below bx) hn (PB.new _ _ _)
  have hbd := firstR_bd l rs 0 (by omega)
  clear hG h
  generalize firstR l rs 0 = F at *
  obtain ⟨f1, f2⟩ := hbd
  go_enter Try.func40, Try.ntmps40
  go_wp2_with (go_at_call 60; refine k.mono ?_; rintro e w1 ⟨rfl, hb1⟩)
  go_ret
  exact ⟨rfl, onto bx hb1⟩
end Go.Proofs.Ytecljmpojninfaa
