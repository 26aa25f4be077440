/-
  Moves: the small functions, the program's and the specification's.
-/
import Derived.Test.YtklgadaefngnnaaHk
import Derived.Test.YtklgadaefngnnaaHl
import Derived.Test.YtklgadaefngnnaaHv
namespace Go.Proofs.Ytklgadaefngnnaa
open Go.RowKit Hm
set_option linter.unusedVariables false

def aM (m : Mv) : Value := .agg #[.int .i64 m.kind, .int .i64 m.person, .int .i64 m.sex, .int .i64 m.need, .int .i64 m.bed, .int .i64 m.time]

set_option maxRecDepth 20000 in
set_option maxHeartbeats 1000000 in
theorem thereb_any (s : St) (p : Int) (Q : Nat) (w : World) (hQ : Q < w.heap.size) (hc : w.cell? ⟨Q, 0, none⟩ = some (.int .i64 p)) :
    Calls Try.prog 110 #[aS s, .pointer (some ⟨Q, 0, none⟩)] w fun e w' => e = .returned (.bool (thereB p s)) ∧ Below w.heap.size w w' := by
  unfold aS thereB here
  obtain ⟨o1, o2, o3⟩ := old_cells hQ
  go_enter Try.func110, Try.ntmps110
  go_wp2
  all_goals (go_ret; exact ⟨ret_bool (by first | (simp; done) | (simp; omega) | (simp_all; done) | (simp_all; omega) | (rw [Bool.eq_iff_iff]; simp; omega) | (rw [Bool.eq_iff_iff]; simp_all; omega)), by repeat (first | exact Below.refl _ _ | assumption | refine st_drew ?_ | refine st_drewN ?_ _ | refine Below.setCell ?_ (by first | omega | (simp; done) | (simp; omega)) _ | refine Below.alloc ?_ (by first | omega | (simp; done) | (simp; omega)) _)⟩)

set_option maxRecDepth 20000 in
set_option maxHeartbeats 2000000 in
theorem idxstay_any (ao : Option Addr) (n cap : Nat) (S : List St) (p : Int) (Q : Nat) (w : World) (h : Rw 6 csS w (.slice ao n cap) S) (hn : S.length ≤ 1048576) (hQ : Q < w.heap.size) (hcQ : w.cell? ⟨Q, 0, none⟩ = some (.int .i64 p)) :
    Calls Try.prog 109 #[.slice ao n cap, .func (.func 110) #[] #[.pointer (some ⟨Q, 0, none⟩)]] w fun e w' => e = .returned (.int .i64 (thereAt p S)) ∧ Below w.heap.size w w' := by
  obtain rfl := h.len
  have HH := hidden h
  clear h
  go_enter Try.func109, Try.ntmps109
  go_wp2_with fail
  go_loopw [5, 8] (fun _ iv wr => ∃ i : Nat, i ≤ S.length ∧ iv = .int .i64 i ∧ Below w.heap.size w wr ∧ Hid (∀ (k : Nat) (y : St), k < i → S[k]? = some y → thereB p y = false)) (fun _ iv _ => S.length - (intOf iv).toNat)
  case atStart => exact ⟨0, Nat.zero_le _, rfl, Below.refl _ _, fun k y hk => absurd hk (Nat.not_lt_zero _)⟩
  case round =>
    obtain ⟨i, hi, rfl, hb, hok⟩ := hrel
    by_cases hlt : i < S.length
    · have hlti : (i : Int) < (S.length : Int) := by omega
      obtain ⟨y, hy⟩ := some_at S i hlt
      obtain ⟨g, off, rfl, hg, c0, c1, c2, c3, c4, c5⟩ := stay_cells (HH.out.below hb) hy
      have HX := hidden hy
      have hcall := fun W (hW : Below w.heap.size w W) => thereb_any y p Q W (Nat.lt_of_lt_of_le hQ hW.size) ((hW.cell (p := ⟨Q, 0, none⟩) hQ).trans hcQ)
      clear hy
      cases hq : thereB p y with
      | true =>
        rw [hq] at hcall
        have HY := hidden (thereAt_of HX.out hq hok.out)
        go_wp2_with (go_at_call 110; refine (hcall _ hb).mono ?_; rintro e w1 ⟨rfl, hb1⟩; have bA := onto hb hb1)
        go_ret
        exact ⟨ret_int HY.out.symm, bA⟩
      | false =>
        rw [hq] at hcall
        have HN : Hid (∀ (k : Nat) (z : St), k < i + 1 → S[k]? = some z → thereB p z = false) := fun k z hk hz => by
          by_cases e : k = i
          · subst e; rw [HX.out] at hz; cases hz; exact hq
          · exact hok.out k z (by omega) hz
        go_wp2_with (go_at_call 110; refine (hcall _ hb).mono ?_; rintro e w1 ⟨rfl, hb1⟩; have bA := onto hb hb1)
        go_roundw
        case rel => exact ⟨i + 1, by omega, rfl, bA, HN⟩
        case measure => simp [intOf]; omega
    · have hlti : ¬ (i : Int) < (S.length : Int) := by omega
      have hil : i = S.length := by omega
      subst hil
      have HY := hidden (thereAt_none (p := p) (S := S) (fun k z hz => hok.out k z (get_lt hz) hz))
      go_wp2_with fail
      go_ret
      exact ⟨ret_int HY.out.symm, hb⟩

set_option maxRecDepth 20000 in
set_option maxHeartbeats 1000000 in
theorem placeof_any (ao ao2 : Option Addr) (n cap m cap2 : Nat) (S : List St) (p : Int) (w : World) (h : Rw 6 csS w (.slice ao2 m cap2) S) (hn : S.length ≤ 1048576) :
    Calls Try.prog 77 #[.agg #[.slice ao n cap, .slice ao2 m cap2], .int .i64 p] w fun e w' => e = .returned (.int .i64 (thereAt p S)) ∧ Below w.heap.size w w' := by
  have hb0 : Below w.heap.size w ((w.alloc (.cells #[.slice ao n cap, .slice ao2 m cap2] 27)).alloc (.cells #[.int .i64 p] 2)) := ((Below.refl _ _).alloc (Nat.le_refl _) _).alloc (by first | omega | (simp; done) | (simp; omega)) _
  have hC := idxstay_any ao2 m cap2 S p (w.heap.size + 1) _ (h.below hb0) hn (by first | omega | (simp; done) | (simp; omega)) (by simp [go_sem])
  clear h
  generalize thereAt p S = r at *
  go_enter Try.func77, Try.ntmps77
  go_wp2_with fail
  refine hC.mono ?_
  rintro e w1 ⟨rfl, hb1⟩
  have b1 := onto hb0 hb1
  go_wp2_with fail
  go_ret
  exact ⟨rfl, b1⟩

set_option maxRecDepth 20000 in
set_option maxHeartbeats 1000000 in
theorem islate_any (ao ao2 : Option Addr) (n cap m cap2 : Nat) (S : List St) (t : Int) (w : World) (h : Rw 6 csS w (.slice ao2 m cap2) S) (hn : S.length ≤ 1048576) :
    Calls Try.prog 76 #[.agg #[.slice ao n cap, .slice ao2 m cap2], .int .i64 t] w fun e w' => e = .returned (.bool (late t S)) ∧ Below w.heap.size w w' := by
  obtain rfl := h.len
  rcases Nat.eq_zero_or_pos S.length with q | q
  · have HR : Hid (late t S = false) := by unfold late; rw [Hid, decide_eq_false (by omega)]; rfl
    have q1 : (S.length : Int) = 0 := by omega
    rw [q]
    clear h q q1
    go_enter Try.func76, Try.ntmps76
    go_wp2
    go_ret
    exact ⟨ret_bool HR.out.symm, by repeat (first | exact Below.refl _ _ | assumption | refine st_drew ?_ | refine st_drewN ?_ _ | refine Below.setCell ?_ (by first | omega | (simp; done) | (simp; omega)) _ | refine Below.alloc ?_ (by first | omega | (simp; done) | (simp; omega)) _)⟩
  · obtain ⟨k, hk⟩ : ∃ k, S.length = k + 1 := ⟨S.length - 1, by omega⟩
    obtain ⟨x, hx⟩ := some_at S k (by omega)
    obtain ⟨g, off, rfl, hg, c0, c1, c2, c3, c4, c5⟩ := stay_cells h hx
    have HR : Hid (late t S = decide (t < x.frm)) := by
      unfold late
      have e : S.getD (S.length - 1) default = x := by rw [hk, Nat.add_sub_cancel, List.getD_eq_getElem?_getD, hx]; rfl
      rw [Hid, e, decide_eq_true q]; rfl
    obtain ⟨o1, o2, o3⟩ := old_cells hg
    rw [hk]
    have k0 : ((k + 1 : Nat) : Int) - 1 = (k : Int) := by omega
    have k1 : (0 : Int) ≤ (k : Int) := by omega
    have k2 : (k : Int) < ((k + 1 : Nat) : Int) := by omega
    have k3 : k ≤ 1048576 := by omega
    clear h hx q hn hk
    go_enter Try.func76, Try.ntmps76
    go_wp2
    go_ret
    exact ⟨ret_bool HR.out.symm, by repeat (first | exact Below.refl _ _ | assumption | refine st_drew ?_ | refine st_drewN ?_ _ | refine Below.setCell ?_ (by first | omega | (simp; done) | (simp; omega)) _ | refine Below.alloc ?_ (by first | omega | (simp; done) | (simp; omega)) _)⟩

set_option maxRecDepth 20000 in
set_option maxHeartbeats 4000000 in
theorem moveok_any (ao ao2 : Option Addr) (n cap m cap2 : Nat) (mv : Mv) (w : World) :
    Calls Try.prog 75 #[.agg #[.slice ao n cap, .slice ao2 m cap2], aM mv] w fun e w' => e = .returned (.bool (mvOk n mv)) ∧ Below w.heap.size w w' := by
  have h1 := iper_any mv.person
  have h2 := isex_any mv.sex
  have h3 := ikind_any mv.need
  have h4 := fun w => hasbed_any ao ao2 n cap m cap2 mv.bed w
  have h5 := itime_any mv.time
  unfold mvOk aM
  generalize pers mv.person = t1 at *
  generalize sx mv.sex = t2 at *
  generalize kd mv.need = t3 at *
  generalize inB n mv.bed = t4 at *
  generalize tm mv.time = t5 at *
  go_enter Try.func75, Try.ntmps75
  go_wp2_with (first | (go_at_call 107; refine (h1 _).mono ?_; rintro e w1 ⟨rfl, rfl⟩) | (go_at_call 51; refine (h2 _).mono ?_; rintro e w1 ⟨rfl, rfl⟩) | (go_at_call 52; refine (h3 _).mono ?_; rintro e w1 ⟨rfl, rfl⟩) | (go_at_call 106; refine (h4 _).mono ?_; rintro e w1 ⟨rfl, hb1⟩; obtain ⟨hc, hf⟩ := bcell hb1; have bA := (((Below.refl w.heap.size w).alloc (Nat.le_refl _) _).alloc (by simp) _).trans (hb1.mono (by simp; omega))) | (go_at_call 108; refine (h5 _).mono ?_; rintro e w1 ⟨rfl, rfl⟩))
  all_goals (go_ret; exact ⟨ret_bool (by first | (simp; done) | (simp; omega) | (simp_all; done) | (simp_all; omega) | (rw [Bool.eq_iff_iff]; simp; omega) | (rw [Bool.eq_iff_iff]; simp_all; omega)), by repeat (first | exact Below.refl _ _ | assumption | refine st_drew ?_ | refine st_drewN ?_ _ | refine Below.setCell ?_ (by first | omega | (simp; done) | (simp; omega)) _ | refine Below.alloc ?_ (by first | omega | (simp; done) | (simp; omega)) _)⟩)

set_option maxRecDepth 20000 in
set_option maxHeartbeats 4000000 in
theorem smove_any (ao ao2 : Option Addr) (n cap m cap2 : Nat) (mv : Mv) (w : World) :
    Calls Try.prog 80 #[.agg #[.slice ao n cap, .slice ao2 m cap2], aM mv] w fun e w' => e = .returned (.bool (mvOk n mv)) ∧ Below w.heap.size w w' := by
  have h0 := lin_any mv.kind 1 3
  have h1 := sper_any mv.person
  have h2 := lin_any mv.sex 1 2
  have h3 := skind_any mv.need
  have h5 := stime_any mv.time
  rw [show (decide (1 ≤ mv.sex) && decide (mv.sex ≤ 2)) = sx mv.sex from rfl] at h2
  have HK : Hid (mvOk n mv = ((decide (1 ≤ mv.kind) && decide (mv.kind ≤ 3)) && (pers mv.person && (tm mv.time && ((!decide (mv.kind = 1) || (sx mv.sex && kd mv.need)) && (decide (mv.kind = 3) || (decide (0 ≤ mv.bed) && decide (mv.bed < (n : Int))))))))) := by unfold mvOk inB; rw [Hid, Bool.and_assoc]
  rw [HK.out]
  clear HK
  unfold aM
  generalize pers mv.person = t1 at *
  generalize sx mv.sex = t2 at *
  generalize kd mv.need = t3 at *
  generalize tm mv.time = t5 at *
  generalize (decide (1 ≤ mv.kind) && decide (mv.kind ≤ 3)) = t0 at *
  go_enter Try.func80, Try.ntmps80
  go_wp2_with (first | (go_at_call 43; refine (h1 _).mono ?_; rintro e w1 ⟨rfl, rfl⟩) | (go_at_call 41; first | (with_reducible refine (h0 _).mono ?_; rintro e w1 ⟨rfl, rfl⟩) | (with_reducible refine (h2 _).mono ?_; rintro e w1 ⟨rfl, rfl⟩)) | (go_at_call 42; refine (h3 _).mono ?_; rintro e w1 ⟨rfl, rfl⟩) | (go_at_call 44; refine (h5 _).mono ?_; rintro e w1 ⟨rfl, rfl⟩))
  all_goals (go_ret; exact ⟨ret_bool (by first | (simp; done) | (simp; omega) | (simp_all; done) | (simp_all; omega) | (rw [Bool.eq_iff_iff]; simp; omega) | (rw [Bool.eq_iff_iff]; simp_all; omega)), by repeat (first | exact Below.refl _ _ | assumption | refine st_drew ?_ | refine st_drewN ?_ _ | refine Below.setCell ?_ (by first | omega | (simp; done) | (simp; omega)) _ | refine Below.alloc ?_ (by first | omega | (simp; done) | (simp; omega)) _)⟩)

set_option maxRecDepth 20000 in
set_option maxHeartbeats 2000000 in
theorem sthere_any (ao ao2 : Option Addr) (n cap m cap2 : Nat) (S : List St) (p : Int) (w : World) (h : Rw 6 csS w (.slice ao2 m cap2) S) (hn : S.length ≤ 1048576) :
    Calls Try.prog 81 #[.agg #[.slice ao n cap, .slice ao2 m cap2], .int .i64 p] w fun e w' => e = .returned (.int .i64 (thereAt p S)) ∧ Below w.heap.size w w' := by
  obtain rfl := h.len
  have HH := hidden h
  clear h
  go_enter Try.func81, Try.ntmps81
  go_wp2_with fail
  go_loopw [5] (fun iv wr => ∃ i : Nat, i ≤ S.length ∧ iv = .int .i64 i ∧ Below w.heap.size w wr ∧ w.heap.size < wr.heap.size ∧ wr.cell? ⟨w.heap.size, 1, none⟩ = some (.slice ao2 S.length cap2) ∧ Hid (∀ (k : Nat) (y : St), k < i → S[k]? = some y → thereB p y = false)) (fun iv _ => S.length - (intOf iv).toNat)
  case atStart => exact ⟨0, Nat.zero_le _, rfl, (Below.refl _ _).alloc (Nat.le_refl _) _, by simp, by simp, fun k y hk => absurd hk (Nat.not_lt_zero _)⟩
  case round =>
    obtain ⟨i, hi, rfl, hb, hz, d1, hok⟩ := hrel
    by_cases hlt : i < S.length
    · have hlti : (i : Int) < (S.length : Int) := by omega
      obtain ⟨y, hy⟩ := some_at S i hlt
      obtain ⟨g, off, rfl, hg, c0, c1, c2, c3, c4, c5⟩ := stay_cells (HH.out.below hb) hy
      have HX := hidden hy
      have HT : Hid (thereB p y = true → thereAt p S = (i : Int)) := fun hq => thereAt_of HX.out hq hok.out
      have HN : Hid (thereB p y = false → ∀ (k : Nat) (z : St), k < i + 1 → S[k]? = some z → thereB p z = false) := fun hq k z hk hz => by
        by_cases e : k = i
        · subst e; rw [HX.out] at hz; cases hz; exact hq
        · exact hok.out k z (by omega) hz
      clear hy hok
      by_cases q1 : y.person = p
      · have n1 : (y.person == p) = true := by simpa using q1
        by_cases q2 : y.til = -1
        · have HY := hidden (HT.out (by unfold thereB here; simp [q1, q2]))
          have n2 : (y.til == -1) = true := by simpa using q2
          clear q1 q2
          go_wp2_with fail
          first | go_ret | (go_quiet (fail); go_wp2_with fail; go_ret)
          exact ⟨ret_int HY.out.symm, by repeat (first | exact Below.refl _ _ | assumption | refine st_drew ?_ | refine st_drewN ?_ _ | refine Below.setCell ?_ (by first | omega | (simp; done) | (simp; omega)) _ | refine Below.alloc ?_ (by first | omega | (simp; done) | (simp; omega)) _)⟩
        · have HY := hidden (HN.out (by unfold thereB here; simp [q2]))
          have n2 : (y.til == -1) = false := by simpa using q2
          clear q1 q2
          go_wp2_with fail
          first | go_roundw | (go_quiet (fail); go_wp2_with fail; go_roundw)
          case rel => exact ⟨i + 1, by omega, rfl, by repeat (first | exact Below.refl _ _ | assumption | refine st_drew ?_ | refine st_drewN ?_ _ | refine Below.setCell ?_ (by first | omega | (simp; done) | (simp; omega)) _ | refine Below.alloc ?_ (by first | omega | (simp; done) | (simp; omega)) _), by first | exact hz | (simp; exact hz), by first | exact d1 | (simp; exact d1), HY⟩
          case measure => simp [intOf]; omega
      · have HY := hidden (HN.out (by unfold thereB here; simp [q1]))
        have n1 : (y.person == p) = false := by simpa using q1
        clear q1
        go_wp2_with fail
        first | go_roundw | (go_quiet (fail); go_wp2_with fail; go_roundw)
        case rel => exact ⟨i + 1, by omega, rfl, by repeat (first | exact Below.refl _ _ | assumption | refine st_drew ?_ | refine st_drewN ?_ _ | refine Below.setCell ?_ (by first | omega | (simp; done) | (simp; omega)) _ | refine Below.alloc ?_ (by first | omega | (simp; done) | (simp; omega)) _), by first | exact hz | (simp; exact hz), by first | exact d1 | (simp; exact d1), HY⟩
        case measure => simp [intOf]; omega
    · have hlti : ¬ (i : Int) < (S.length : Int) := by omega
      have hil : i = S.length := by omega
      subst hil
      have HY := hidden (thereAt_none (p := p) (S := S) (fun k z hz => hok.out k z (get_lt hz) hz))
      go_wp2_with fail
      go_ret
      exact ⟨ret_int HY.out.symm, hb⟩

set_option maxRecDepth 20000 in
set_option maxHeartbeats 2000000 in
theorem shas_any (ao : Option Addr) (n cap : Nat) (l : List Int) (x : Int) (w : World) (h : Rw 1 csI w (.slice ao n cap) l) (hn : l.length ≤ 1048576) :
    Calls Try.prog 82 #[.slice ao n cap, .int .i64 x] w fun e w' => e = .returned (.bool (decide (x ∈ l))) ∧ w = w' := by
  obtain rfl := h.len
  have HH := hidden h
  clear h
  go_enter Try.func82, Try.ntmps82
  go_wp2_with fail
  go_loopw [5] (fun iv wr => w = wr ∧ ∃ i : Nat, i ≤ l.length ∧ iv = .int .i64 i ∧ Hid (¬ x ∈ l.take i)) (fun iv _ => l.length - (intOf iv).toNat)
  case atStart => exact ⟨rfl, 0, Nat.zero_le _, rfl, by simp [Hid]⟩
  case round =>
    obtain ⟨rfl, i, hi, rfl, hok⟩ := hrel
    by_cases hlt : i < l.length
    · have hlti : (i : Int) < (l.length : Int) := by omega
      obtain ⟨y, hy⟩ := some_at l i hlt
      obtain ⟨g, off, rfl, hg, hcs⟩ := HH.out.at hy
      have c0 : w.cell? ⟨g, off + i, none⟩ = some (.int .i64 y) := by have := hcs 0 (by omega); rw [Nat.mul_one, Nat.add_zero] at this; exact this
      have HM := hidden (List.mem_of_getElem? hy)
      have HT := hidden (take_snoc hy)
      clear hy hcs
      by_cases q : y = x
      · have HR : Hid (decide (x ∈ l) = true) := by rw [Hid, ← q]; exact decide_eq_true HM.out
        have n1 : (y == x) = true := by simpa using q
        clear q
        go_wp2_with fail
        go_ret
        exact ⟨ret_bool HR.out.symm, rfl⟩
      · have HN : Hid (¬ x ∈ l.take (i + 1)) := by
          rw [Hid, HT.out, List.mem_append, List.mem_singleton]
          rintro (h | h)
          · exact hok.out h
          · exact q h.symm
        have n1 : (y == x) = false := by simpa using q
        clear q
        go_wp2_with fail
        go_roundw
        case rel => exact ⟨by first | rfl | trivial, i + 1, by omega, rfl, HN⟩
        case measure => simp [intOf]; omega
    · have hlti : ¬ (i : Int) < (l.length : Int) := by omega
      have hil : i = l.length := by omega
      subst hil
      have HR : Hid (decide (x ∈ l) = false) := decide_eq_false (by have := hok.out; rwa [List.take_length] at this)
      go_wp2_with fail
      go_ret
      exact ⟨ret_bool HR.out.symm, rfl⟩

end Go.Proofs.Ytklgadaefngnnaa
