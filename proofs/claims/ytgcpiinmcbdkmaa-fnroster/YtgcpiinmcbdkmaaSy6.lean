/-
  A run sorted in place, one after another put into its place.
-/
import Derived.Test.YtgcpiinmcbdkmaaSy2
import Derived.BigRegion
import Derived.BigQuiet
namespace Go.Proofs.Ytgcpiinmcbdkmaa
open Go.RowKit Go.WideShapes Va Lb Go.Maps Sy
set_option linter.all false

def cmI (a b : Int) : Int := if a < b then -1 else if b < a then 1 else 0
theorem cmI_lt {a b : Int} : cmI a b < 0 ↔ a < b := by
  unfold cmI
  split
  · rename_i h; exact ⟨fun _ => h, fun _ => by decide⟩
  · rename_i h
    split
    · exact ⟨fun q => absurd q (by decide), fun q => absurd q h⟩
    · exact ⟨fun q => absurd q (by decide), fun q => absurd q h⟩
/-- The closure V tells which of two numbers in D has the less key. -/
def LessC (G : Nat) (w0 : World) (k : Int → Int) (D : Int → Prop) (V : Value) : Prop :=
  ∀ x y, D x → D y → ∀ W, Below G w0 W → Calls Try.prog 134 #[.int .i64 x, .int .i64 y, V] W fun e w' => e = .returned (.int .i64 (cmI (k x) (k y))) ∧ ∃ m, w' = W.drewN m
theorem LessC.below {G : Nat} {w0 w1 : World} {k : Int → Int} {D : Int → Prop} {V : Value} (h : LessC G w0 k D V) (hb : Below G w0 w1) : LessC G w1 k D V :=
  fun x y hx hy W hW => h x y hx hy W (hb.trans hW)
theorem SR.at {c : Nat} {w : World} {G : Nat} {l : List Int} (h : SR c w G l) {i : Nat} (hi : i < l.length) : w.cell? ⟨G, i, none⟩ = some (.int .i64 (l.getD i 0)) ∧ w.frozen? ⟨G, i, none⟩ = false :=
  h.get i _ (getD_some hi)
theorem SR.sw {c : Nat} {w : World} {G : Nat} {l : List Int} (h : SR c w G l) (i j : Nat) : SR c ((w.setCell ⟨G, i, none⟩ (.int .i64 (l.getD j 0))).setCell ⟨G, j, none⟩ (.int .i64 (l.getD i 0))) G (Sy.sw l i j) := (h.set i _).set j _
theorem SR.grows {c : Nat} {w w' : World} {G : Nat} {l : List Int} (h : SR c w G l) (hb : Below w.heap.size w w') : SR c w' G l := h.below hb

set_option maxRecDepth 20000 in
set_option maxHeartbeats 8000000 in
theorem insertion_any (k : Int → Int) (D : Int → Prop) (V : Value) (G c n : Nat) (P L S : List Int) (w : World) (h : SR c w G (P ++ L ++ S)) (hn : (P ++ L ++ S).length = n) (hl : n ≤ 1000) (hD : ∀ x ∈ L, D x) (hr : L.Pairwise (· < ·)) (hK : LessC G w k D V) :
    Calls Try.prog 167 #[.slice (some ⟨G, 0, none⟩) n c, .int .i64 P.length, .int .i64 (P.length + L.length : Nat), .func (.func 134) #[] #[V]] w fun e w' => e = .returned (.tuple #[]) ∧ ∃ M, SR c w' G (P ++ M ++ S) ∧ M.Perm L ∧ Srt k M ∧ Below G w w' := by
  have HH := hidden h
  have HN := hidden hn
  have HR := hidden hr
  have HD := hidden hD
  have HK := hidden hK
  have hpl : P.length + L.length ≤ n := by rw [← hn]; simp
  have hpb : P.length ≤ P.length + L.length := by omega
  obtain ⟨p, hp⟩ : ∃ p, P.length = p := ⟨_, rfl⟩
  obtain ⟨b, hb⟩ : ∃ b, P.length + L.length = b := ⟨_, rfl⟩
  rw [hb] at hpl hpb ⊢
  rw [hp] at hpb ⊢
  have HP : Hid (P.length = p) := hidden hp
  have HQ : Hid (L.length = b - p) := by show _ = _; omega
  clear h hn hr hD hK hp hb
  go_enter Try.func167, Try.ntmps167
  go_wp2_with fail
  go_loopw [8, 9] (fun iv _ wr => ∃ (i : Nat) (M : List Int), iv = .int .i64 i ∧ p + 1 ≤ i ∧ i ≤ b + 1 ∧ Hid (M.length = min (i - p) (b - p)) ∧ Hid (M.Perm (L.take M.length)) ∧ Hid (Srt k M) ∧ Hid (SR c wr G (P ++ M ++ L.drop M.length ++ S)) ∧ Below G w wr) (fun iv _ _ => b + 1 - (intOf iv).toNat)
  case atStart =>
    refine ⟨p + 1, L.take 1, by simp, Nat.le_refl _, by omega, ?_, ?_, ?_, ?_, Below.refl _ _⟩
    · show _ = _; rw [List.length_take, HQ.out, Nat.add_sub_cancel_left]
    · show List.Perm _ _; rw [List.length_take, ← List.take_eq_take_min]
    · show Srt _ _
      cases L with
      | nil => exact List.Pairwise.nil
      | cons x L => exact List.pairwise_singleton _ _
    · show SR _ _ _ _
      rw [List.length_take, show L.drop (min 1 L.length) = L.drop 1 from by cases L <;> simp, List.append_assoc P, List.take_append_drop]
      exact HH.out
  case round =>
    obtain ⟨i, M, rfl, hi1, hi2, hm, hpm, hsm, hs, hb⟩ := hrel
    by_cases hlt : i < b
    · have hlti : (i : Int) < (b : Int) := by omega
      have hml : M.length = i - p := by have := hm.out; omega
      have hqL : i - p < L.length := by have := HQ.out; omega
      obtain ⟨x, hx⟩ : ∃ x, L[i - p]? = some x := ⟨_, List.getElem?_eq_getElem hqL⟩
      have hdr : L.drop (i - p) = x :: L.drop (i - p + 1) := by
        rw [List.drop_eq_getElem_cons hqL]; rw [List.getElem?_eq_getElem hqL] at hx; rw [Option.some.inj hx]
      have hpm' : M.Perm (L.take (i - p)) := by have := hpm.out; rw [hml] at this; exact this
      have hlow : ∀ u ∈ M, u < x := by
        intro u hu
        obtain ⟨j, hj, rfl⟩ := List.mem_take_iff_getElem.1 (hpm'.mem_iff.1 hu)
        have h2 := List.pairwise_iff_getElem.1 HR.out j (i - p) (by omega) hqL (by omega)
        rw [List.getElem?_eq_getElem hqL] at hx
        rw [← Option.some.inj hx]; exact h2
      have hDx : D x := HD.out x (List.mem_of_getElem? hx)
      have hDM : ∀ u ∈ M, D u := fun u hu => HD.out u (List.mem_of_mem_take (hpm'.mem_iff.1 hu))
      have hs0 : Hid (SR c wr G (P ++ mv M x M.length ++ (L.drop (i - p + 1) ++ S))) := by
        have := hs.out
        rw [hml, hdr] at this
        show SR _ _ _ _
        rw [mv_all]
        simpa using this
      have hlen : Hid (∀ t, (P ++ mv M x t ++ (L.drop (i - p + 1) ++ S)).length = n) := by
        intro t
        have h1 := HN.out
        have h2 := HQ.out
        simp only [List.length_append, mv_len, List.length_drop] at h1 ⊢
        omega
      have hpm2 : Hid (∀ t, (mv M x t).Perm (L.take (i - p + 1))) := by
        intro t
        refine (mv_perm M x t).trans ?_
        rw [List.take_succ_eq_append_getElem hqL]
        rw [List.getElem?_eq_getElem hqL] at hx
        rw [Option.some.inj hx]
        exact (List.Perm.cons x hpm').trans (List.perm_append_singleton x _).symm
      have HML := hidden hml
      have HLOW := hidden hlow
      have HDX := hidden hDx
      have HDM := hidden hDM
      have hT : Hid (∃ T, L.drop (i - p + 1) ++ S = T) := ⟨_, rfl⟩
      have hfin : Hid (∀ t (W : World), t ≤ i - p → Srt k (mv M x t) → SR c W G (P ++ mv M x t ++ (L.drop (i - p + 1) ++ S)) → (mv M x t).length = min (i + 1 - p) (b - p) ∧ (mv M x t).Perm (L.take (mv M x t).length) ∧ SR c W G (P ++ mv M x t ++ L.drop (mv M x t).length ++ S)) := by
        intro t W ht hsr hSR
        have e : (mv M x t).length = i - p + 1 := by rw [mv_len, hml]
        rw [e]
        refine ⟨by omega, hpm2.out t, ?_⟩
        simpa using hSR
      clear hx hdr hpm' hlow hDx hDM hs hpm hm hqL hml hT
      generalize L.drop (i - p + 1) ++ S = T at *
      go_wp2_with fail
      go_loopw [9] (fun jv wr2 => ∃ (t jn : Nat), jv = .int .i64 jn ∧ Hid (jn = p + t) ∧ p ≤ jn ∧ jn ≤ i ∧ Hid (∀ v ∈ M.drop t, lt k x v) ∧ Hid (SR c wr2 G (P ++ mv M x t ++ T)) ∧ Below G w wr2) (fun jv _ => (intOf jv).toNat)
      case atStart =>
        refine ⟨i - p, i, rfl, by show _ = _; omega, by omega, Nat.le_refl _, ?_, ?_, hb⟩
        · show ∀ v ∈ M.drop (i - p), lt k x v
          rw [List.drop_of_length_le (by have := HML.out; omega)]; intro v hv; cases hv
        · have := hs0.out; rw [HML.out] at this; exact this
      case round =>
        obtain ⟨t, jn, rfl, hjt, hj1, hj2, hdl, hs2, hb2⟩ := hrel
        by_cases hz : p < jn
        · have hg : decide ((p : Int) < (jn : Int)) = true := by simp; omega
          obtain ⟨t, rfl⟩ : ∃ t', t = t' + 1 := ⟨t - 1, by have := hjt.out; omega⟩
          have hjt' := hjt.out
          have htM : t < M.length := by have := HML.out; omega
          have hln := hlen.out (t + 1)
          obtain ⟨e1, f1⟩ := hs2.out.at (i := jn) (by omega)
          obtain ⟨e2, f2⟩ := hs2.out.at (i := jn - 1) (by omega)
          have hjP : jn = P.length + (t + 1) := by have := HP.out; omega
          have hjP2 : jn - 1 = P.length + t := by omega
          have g1 : (P ++ mv M x (t + 1) ++ T).getD jn 0 = x := by rw [hjP]; exact mv_here P T M x (t + 1) (by omega)
          have g2 : (P ++ mv M x (t + 1) ++ T).getD (jn - 1) 0 = M.getD t 0 := by rw [hjP2]; exact mv_back P T M x t htM
          have hyM : M.getD t 0 ∈ M := by rw [List.getD_eq_getElem?_getD, List.getElem?_eq_getElem htM]; exact List.getElem_mem htM
          have HSW : Hid (∀ m, SR c (((wr.drewN m).setCell ⟨G, jn, none⟩ (.int .i64 (M.getD t 0))).setCell ⟨G, jn - 1, none⟩ (.int .i64 x)) G (P ++ mv M x t ++ T)) := by
            intro m
            have h := (hs2.out.below (st_drewN (Below.refl _ _) m)).sw jn (jn - 1)
            rw [g1, g2, show Sy.sw (P ++ mv M x (t + 1) ++ T) jn (jn - 1) = P ++ mv M x t ++ T from by rw [hjP2, hjP]; exact mv_down P T M x t htM] at h
            exact h
          have HBW : Hid (∀ m, Below G w (((wr.drewN m).setCell ⟨G, jn, none⟩ (.int .i64 (M.getD t 0))).setCell ⟨G, jn - 1, none⟩ (.int .i64 x))) := fun m => ((st_drewN hb2 m).setCell (p := ⟨G, jn, none⟩) (Nat.le_refl _) (.int .i64 (M.getD t 0))).setCell (p := ⟨G, jn - 1, none⟩) (Nat.le_refl _) (.int .i64 x)
          rw [g1] at e1
          rw [g2] at e2
          have hK2 := fun W hW => HK.out x (M.getD t 0) HDX.out (HDM.out _ hyM) W hW
          have hlow := HLOW.out _ hyM
          have hkey : cmI (k x) (k (M.getD t 0)) < 0 ↔ lt k x (M.getD t 0) := cmI_lt.trans (lt_key hlow).symm
          have hup : cmI (k x) (k (M.getD t 0)) < 0 → Hid (∀ v ∈ M.drop t, lt k x v) := fun h => drop_lt hsm.out htM (hkey.1 h)
          have hst : ¬ cmI (k x) (k (M.getD t 0)) < 0 → Hid (Srt k (mv M x (t + 1))) := fun h => ins_stop hsm.out (by omega) hdl.out (Or.inr (by
            rw [Nat.add_sub_cancel]
            rcases lt_total k (x := M.getD t 0) (y := x) (by omega) with q | q
            · exact q
            · exact absurd (hkey.2 q) h))
          have HU := hidden hup
          have HSt := hidden hst
          clear hup hst hkey hlow hyM g1 g2 hjP hjP2 hln htM hjt'
          generalize hr9 : cmI (k x) (k (M.getD t 0)) = r9 at *
          generalize M.getD t 0 = y at *
          have hw1 : IntKind.i64.wrap ((jn : Int) - 1) = ((jn - 1 : Nat) : Int) := by rw [IntKind.wrap_i64]; omega
          have hi1 : ((jn - 1 : Nat) : Int) < (n : Int) := by omega
          have hi2 : (jn : Int) < (n : Int) := by omega
          by_cases hr : r9 < 0
          · have HV := HU.out hr
            clear HU HSt
            go_wp2_with fail
            go_quiet ((go_at_call 134; exact Calls.quiet_of (hK2 _ (st_drewN hb2 _))))
            go_wp2_with fail
            go_region
            all_goals go_wp2_with fail
            all_goals go_roundw
            case rel => exact ⟨t, jn - 1, by congr 1, by show _ = _; have := hjt.out; omega, by omega, by omega, HV, HSW.out _, HBW.out _⟩
            case measure => simp [intOf]; omega
          · have HV := HSt.out hr
            clear HU HSt
            go_wp2_with fail
            go_quiet ((go_at_call 134; exact Calls.quiet_of (hK2 _ (st_drewN hb2 _))))
            go_wp2_with fail
            go_roundw
            case rel =>
              obtain ⟨z1, z2, z3⟩ := hfin.out (t + 1) _ (by have := hjt.out; omega) HV.out (hs2.out.below (st_drewN (Below.refl _ _) _))
              exact ⟨i + 1, mv M x (t + 1), by simp, by omega, by omega, z1, z2, HV, z3, st_drewN hb2 _⟩
            case measure => simp [intOf]; omega
        · obtain rfl : jn = p := by omega
          have hg : decide ((jn : Int) < (jn : Int)) = false := by simp
          have hjt' := hjt.out
          obtain rfl : t = 0 := by omega
          have HF : Hid (Srt k (mv M x 0)) := ins_stop hsm.out (Nat.zero_le _) hdl.out (Or.inl rfl)
          clear hdl hjt'
          go_wp2_with fail
          go_quiet (fail)
          go_wp2_with fail
          go_roundw
          case rel =>
            obtain ⟨z1, z2, z3⟩ := hfin.out 0 _ (by omega) HF.out (hs2.out.below (st_drewN (Below.refl _ _) _))
            exact ⟨i + 1, mv M x 0, by simp, by omega, by omega, z1, z2, HF, z3, st_drewN hb2 _⟩
          case measure => simp [intOf]; omega
    · have hlti : ¬ (i : Int) < (b : Int) := by omega
      have hml : M.length = L.length := by have := hm.out; have := HQ.out; omega
      have HE : Hid (SR c wr G (P ++ M ++ S) ∧ M.Perm L) := by
        have h1 := hs.out
        have h2 := hpm.out
        rw [hml, List.drop_length, List.append_nil] at h1
        rw [hml, List.take_length] at h2
        exact ⟨h1, h2⟩
      clear hs hpm hml hm
      go_wp2_with fail
      go_end0
      exact ⟨rfl, M, by rw [← List.append_assoc]; exact HE.out.1, HE.out.2, hsm.out, hb⟩
end Go.Proofs.Ytgcpiinmcbdkmaa
