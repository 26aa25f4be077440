/-
  The greatest day: what the program reckons.
-/
import Derived.Test.YtcnhogghfedcdaaMe
import Derived.Lib.MinMax
namespace Go.Proofs.Ytcnhogghfedcdaa
open Go.RowKit Va Ga
set_option linter.unusedVariables false

def dayP (s : List Gv) (d x : Gv) : Int := sumN (cut s (x.t - 1439) x.t ++ [d])
theorem greatP_eq (s : List Gv) (d : Gv) : greatP d.t d.n s d = big ((cut s d.t (d.t + 1439) ++ [d]).map (dayP s d)) := by
  unfold greatP dayP
  rw [show (cut s d.t (d.t + 1439)).map (·.t) ++ [d.t] = (cut s d.t (d.t + 1439) ++ [d]).map (·.t) by simp, List.map_map]
  rfl
theorem cut_mem {l : List Gv} {lo hi : Int} {x : Gv} (h : x ∈ cut l lo hi) : x ∈ l := List.mem_of_mem_drop (List.mem_of_mem_take h)
theorem big_take {l : List Gv} {i : Nat} {x : Gv} (F : Gv → Int) (h : l[i]? = some x) : big ((l.take (i + 1)).map F) = max (big ((l.take i).map F)) (F x) := by
  rw [show l.take (i + 1) = l.take i ++ [x] from by rw [List.take_add_one, h]; rfl, List.map_append]
  exact big_snoc _ _
theorem sumN_bd : ∀ (l : List Gv), (∀ x ∈ l, 0 ≤ x.n ∧ x.n ≤ 1000000000) → 0 ≤ sumN l ∧ sumN l ≤ 1000000000 * (l.length : Int)
  | [], _ => by simp [sumN]
  | x :: l, h => by
    have a := sumN_bd l (fun y hy => h y (List.mem_cons_of_mem _ hy))
    have b := h x (by simp)
    have e : sumN (x :: l) = x.n + sumN l := by simp [sumN]
    rw [e]
    simp only [List.length_cons]
    omega

set_option maxRecDepth 20000 in
set_option maxHeartbeats 8000000 in
theorem igreat_any (b off n cap : Nat) (s : List Gv) (d : Gv) (w : World) (h : Rw 3 csGv w (.slice (some ⟨b, off, none⟩) n cap) s) (hl : s.length ≤ 500) (hs : ∀ x ∈ s, gvB x = true) (hd : gvB d = true) :
    Calls Try.prog 47 #[.slice (some ⟨b, off, none⟩) n cap, aGv d] w fun e w' => e = .returned (.int .i64 (greatP d.t d.n s d)) ∧ Below w.heap.size w w' := by
  have hRR := greatP_eq s d
  generalize greatP d.t d.n s d = R at *
  have HR := hidden hRR
  clear hRR
  have hrg : ∀ x, gvB x = true → (0 ≤ x.t ∧ x.t ≤ 10000000) ∧ (1 ≤ x.n ∧ x.n ≤ 1000000000) := fun x hx => by
    simp only [gvB, Bool.and_eq_true, rng_iff] at hx
    exact ⟨hx.2.1, hx.2.2⟩
  have hb0 : Below w.heap.size w (w.alloc (.cells #[.int .i64 d.d, .int .i64 d.t, .int .i64 d.n] 49)) := (Below.refl _ _).alloc (Nat.le_refl _) _
  have HP := hidden (PB.new w #[.int .i64 d.d, .int .i64 d.t, .int .i64 d.n] 49)
  have HS := hidden (h.below hb0)
  clear h
  have hdt := (hrg d hd).1
  have HL : Hid (∀ lo hi, ∀ x ∈ cut s lo hi ++ [d], gvB x = true) := fun lo hi x hx => by
    rcases List.mem_append.1 hx with q | q
    · exact hs x (cut_mem q)
    · rw [List.mem_singleton.1 q]; exact hd
  unfold aGv
  go_enter Try.func47, Try.ntmps47
  go_upto_region 1 with fail
  generalize w.alloc (.cells #[.int .i64 d.d, .int .i64 d.t, .int .i64 d.n] 49) = wA at *
  have HB := hidden hb0
  clear hb0
  refine regM1 (d := d) (e := d) (E := 0) rfl rfl rfl HS.out hl HP.out hdt ?_
  intro b' w2 v hf hb2 hv ho2
  rw [layM1 hf, hv]
  clear hv
  generalize Rg.out (Rg.opsOf Try.f47 1) b' 0 = y0
  generalize Rg.out (Rg.opsOf Try.f47 1) b' 1 = y1
  generalize Rg.out (Rg.opsOf Try.f47 1) b' 2 = y2
  generalize Rg.out (Rg.opsOf Try.f47 1) b' 3 = y3
  generalize Rg.out (Rg.opsOf Try.f47 1) b' 4 = y4
  generalize Rg.out (Rg.opsOf Try.f47 1) b' 5 = y5
  generalize Rg.out (Rg.opsOf Try.f47 1) b' 6 = y6
  generalize Rg.out (Rg.opsOf Try.f47 1) b' 7 = y7
  generalize Rg.out (Rg.opsOf Try.f47 1) b' 8 = y8
  generalize Rg.out (Rg.opsOf Try.f47 1) b' 9 = y9
  obtain ⟨ad, c, rfl⟩ := ownW_slice ho2
  have hcl := cut_le s d.t (d.t + 1439)
  have HE := hidden (own_of (s := 3) (cs := csGv) (l := cut s d.t (d.t + 1439) ++ [d]) (by simp) ho2).row
  have HK := hidden hb2
  have HG := hidden (HL.out d.t (d.t + 1439))
  have hlen : (cut s d.t (d.t + 1439) ++ [d]).length = (cut s d.t (d.t + 1439)).length + 1 := by simp
  clear ho2 hb2
  generalize cut s d.t (d.t + 1439) ++ [d] = L at *
  rw [← hlen] at HE
  have hL1 : L.length ≤ 501 := by omega
  rw [← hlen]
  clear hlen hcl
  go_frame
  go_wp2_with fail
  go_loopw [6, 8, 9, 22] (fun gv _ _ iv wr => ∃ (i : Nat) (g : Int), i ≤ L.length ∧ iv = .int .i64 i ∧ gv = .int .i64 g ∧ 0 ≤ g ∧ g ≤ 501000000000 ∧ Below w2.heap.size w2 wr ∧ Hid (g = big ((L.take i).map (dayP s d)))) (fun _ _ _ iv _ => L.length - (intOf iv).toNat)
  case atStart => exact ⟨0, 0, Nat.zero_le _, rfl, rfl, by omega, by omega, Below.refl _ _, rfl⟩
  case round =>
    obtain ⟨i, g, hi, rfl, rfl, hg0, hg1, hb, hok⟩ := hrel
    have hsz := hb.size
    by_cases hlt : i < L.length
    · have hlti : (i : Int) < (L.length : Int) := by omega
      obtain ⟨x, hx⟩ := some_of L i hlt
      obtain ⟨g1, off1, rfl, hg, hcs⟩ := (HE.out.below hb).at hx
      have c0 : wr.cell? ⟨g1, off1 + i * 3, none⟩ = some (.int .i64 x.d) := hcs 0 (by omega)
      have c1 : wr.cell? ⟨g1, off1 + i * 3 + 1, none⟩ = some (.int .i64 x.t) := hcs 1 (by omega)
      have c2 : wr.cell? ⟨g1, off1 + i * 3 + 2, none⟩ = some (.int .i64 x.n) := hcs 2 (by omega)
      have hxt := (hrg x (HG.out x (List.mem_of_getElem? hx))).1
      have HN : Hid (max g (dayP s d x) = big ((L.take (i + 1)).map (dayP s d))) := by rw [Hid, big_take _ hx, hok.out]
      have hcl := cut_le s (x.t - 1439) x.t
      have hdb := sumN_bd (cut s (x.t - 1439) x.t ++ [d]) (fun y hy => by have := (hrg y (HL.out _ _ y hy)).2; omega)
      rw [List.length_append, List.length_singleton] at hdb
      have bx : Below wr.heap.size wr (wr.alloc (.cells #[.int .i64 x.d, .int .i64 x.t, .int .i64 x.n] 49)) := (Below.refl _ _).alloc (Nat.le_refl _) _
      have HX := hidden (PB.new wr #[.int .i64 x.d, .int .i64 x.t, .int .i64 x.n] 49)
      have HBX := hidden (hb.trans (bx.mono hsz))
      have HSX := hidden (HS.out.below (HK.out.trans (HBX.out.mono HK.out.size)))
      have HPX := hidden (HP.out.below (HK.out.trans (HBX.out.mono HK.out.size)))
      clear hx hcs hok bx hb
      go_upto_region 6 with fail
      generalize wr.alloc (.cells #[.int .i64 x.d, .int .i64 x.t, .int .i64 x.n] 49) = wX at *
      refine regM6 (d := d) (e := x) rfl rfl rfl rfl HSX.out hl HPX.out HX.out hxt ?_
      intro b' w3 v hf hb3 hv ho3
      rw [layM6 hf, hv]
      clear hv
      generalize Rg.out (Rg.opsOf Try.f47 6) b' 0 = y0
      generalize Rg.out (Rg.opsOf Try.f47 6) b' 1 = y1
      generalize Rg.out (Rg.opsOf Try.f47 6) b' 2 = y2
      generalize Rg.out (Rg.opsOf Try.f47 6) b' 3 = y3
      generalize Rg.out (Rg.opsOf Try.f47 6) b' 4 = y4
      generalize Rg.out (Rg.opsOf Try.f47 6) b' 5 = y5
      generalize Rg.out (Rg.opsOf Try.f47 6) b' 6 = y6
      generalize Rg.out (Rg.opsOf Try.f47 6) b' 7 = y7
      generalize Rg.out (Rg.opsOf Try.f47 6) b' 8 = y8
      generalize Rg.out (Rg.opsOf Try.f47 6) b' 9 = y9
      obtain ⟨ad3, c3, rfl⟩ := ownW_slice ho3
      have H3 := hidden (own_of (s := 3) (cs := csGv) (l := cut s (x.t - 1439) x.t ++ [d]) (by simp) ho3).row
      have HB3 := hidden (HBX.out.trans (hb3.mono HBX.out.size))
      have hK := isum_any ad3 ((cut s (x.t - 1439) x.t).length + 1) c3 (cut s (x.t - 1439) x.t ++ [d]) w3 H3.out (by simp; omega) (fun y hy => by have := (hrg y (HL.out _ _ y hy)).2; omega)
      clear ho3 hb3 HX HBX HSX HPX
      have hDP : sumN (cut s (x.t - 1439) x.t ++ [d]) = dayP s d x := rfl
      rw [hDP] at hK hdb
      clear hDP
      go_frame
      go_wp2_with fail
      refine hK.mono ?_
      rintro e w4 ⟨rfl, hb4⟩
      have HB4 := hidden (HB3.out.trans (hb4.mono HB3.out.size))
      clear hb4 hK HB3
      go_wp2_with fail
      go_roundw
      case rel => exact ⟨i + 1, max g (dayP s d x), by omega, rfl, rfl, by omega, by omega, HB4.out, HN⟩
      case measure => simp [intOf]; omega
    · have hlti : ¬ (i : Int) < (L.length : Int) := by omega
      have hil : i = L.length := by omega
      have HN : Hid (g = big (L.map (dayP s d))) := by have := hok.out; rw [hil, List.take_length] at this; exact this
      go_wp2_with fail
      go_ret
      exact ⟨by rw [HR.out, ← HN.out]; rfl, onto (onto HB.out HK.out) hb⟩
end Go.Proofs.Ytcnhogghfedcdaa
