/-
  Just the beds that are told as free can be come into: the walk of the law.
-/
import Derived.Test.YtklgadaefngnnaaYo
import Derived.Test.YtklgadaefngnnaaHh
import Derived.Test.YtklgadaefngnnaaHl
import Derived.Test.YtklgadaefngnnaaHo
import Derived.Test.YtklgadaefngnnaaHu
import Derived.Deep.RegionHeld3
namespace Go.Proofs.Ytklgadaefngnnaa
open Go.RowKit Hm
set_option linter.all false

set_option maxRecDepth 20000 in
set_option maxHeartbeats 2000000 in
theorem hasR_any (ad : Option Addr) (n c : Nat) (zs : List Int) (x : Int) (w : World) (h : Rw 1 csI w (.slice ad n c) zs) (hn : zs.length ≤ 1048576) :
    Calls Try.prog 18 #[.slice ad n c, .int .i64 x] w fun e w' => e = .returned (.bool (decide (x ∈ zs))) ∧ w' = w := by
  obtain rfl := h.len
  go_enter Try.func18, Try.ntmps18
  go_wp2_with fail
  go_loopw [5] (fun iv wr => wr = w ∧ ∃ i : Nat, i ≤ zs.length ∧ iv = .int .i64 i ∧ Hid (∀ j, j < i → zs[j]? ≠ some x)) (fun iv _ => zs.length - (intOf iv).toNat)
  case atStart => exact ⟨rfl, 0, Nat.zero_le _, rfl, fun j hj => absurd hj (Nat.not_lt_zero _)⟩
  case round =>
    obtain ⟨rfl, i, hi, rfl, HN⟩ := hrel
    by_cases hlt : i < zs.length
    · have hlti : (i : Int) < (zs.length : Int) := by omega
      obtain ⟨y, hy⟩ := some_at zs i hlt
      obtain ⟨G, off, rfl, hG, hcl⟩ := h.at hy
      have hc1 : wr.cell? ⟨G, off + i, none⟩ = some (.int .i64 y) := by have := hcl 0 (by omega); simpa [csI] using this
      clear hcl
      by_cases hgx : y = x
      · have HM : Hid (decide (x ∈ zs) = true) := by rw [Hid, decide_eq_true_eq, ← hgx]; exact List.mem_of_getElem? hy
        rw [hgx] at hc1
        clear hgx hy h
        go_wp2_with fail
        go_ret
        exact ⟨by rw [HM.out]; rfl, rfl⟩
      · have hgx2 : (y == x) = false := by simpa using hgx
        have HN2 : Hid (∀ j, j < i + 1 → zs[j]? ≠ some x) := fun j hj q => by
          rcases Nat.lt_succ_iff_lt_or_eq.1 hj with z | z
          · exact HN.out j z q
          · rw [z, hy] at q; exact hgx (Option.some.inj q)
        clear hgx hy
        go_wp2_with fail
        go_roundw
        case rel => first | exact ⟨rfl, i + 1, by omega, rfl, HN2⟩ | exact ⟨trivial, i + 1, by omega, rfl, HN2⟩
        case measure => simp [intOf]; omega
    · have hlti : ¬ (i : Int) < (zs.length : Int) := by omega
      have HM : Hid (decide (x ∈ zs) = false) := by
        rw [Hid, decide_eq_false_iff_not]
        intro hx
        obtain ⟨j, hj⟩ := List.getElem?_of_mem hx
        exact HN.out j (by have := get_lt' hj; omega) hj
      go_wp2_with fail
      go_ret
      exact ⟨by rw [HM.out]; rfl, rfl⟩
/-- The law's own question at the head. -/
def goodB (B : List Bd) (S : List St) (sex need : Int) : Prop := okB B S = true ∧ (sex = 1 ∨ sex = 2) ∧ 1 ≤ need ∧ need ≤ 3 ∧ S.length < 1000
theorem free_len (B : List Bd) (S : List St) (sex need : Int) : (bedsFree B S sex need).length ≤ B.length := by
  unfold bedsFree
  split
  · exact freeTo_len _ _ _ _ _
  · simp
theorem bed_code {B : List Bd} {S : List St} {sex need : Int} (hg : goodB B S sex need) (hf : F700 S) {b : Nat} (hb : b < B.length) :
    (isFr B S sex need b = true ∧ (b : Int) ∈ bedsFree B S sex need ∧ doB B S = B ∧ doS B S ⟨1, 700, sex, need, b, 10000000⟩ = S ++ [⟨700, sex, need, b, 10000000, -1⟩] ∧ doC B S ⟨1, 700, sex, need, b, 10000000⟩ = 0 ∧ okB B (S ++ [⟨700, sex, need, b, 10000000, -1⟩]) = true) ∨
    (isFr B S sex need b = false ∧ (b : Int) ∉ bedsFree B S sex need ∧ doB B S = B ∧ doS B S ⟨1, 700, sex, need, b, 10000000⟩ = S ∧ doC B S ⟨1, 700, sex, need, b, 10000000⟩ = 6) := by
  obtain ⟨hk, hs, hn1, hn2, hl⟩ := hg
  have hsx : sx sex = true := by simp [sx]; omega
  have hkd : kd need = true := by simp [kd]; omega
  have hok := ok_of hk
  have hc := come_in hok hf (by omega) hsx hkd hb
  rw [beds_free hk hsx hkd]
  cases q : isFr B S sex need b with
  | true =>
    rw [q, if_pos rfl] at hc
    have hmo := move_ok hok ⟨1, 700, sex, need, b, 10000000⟩
    rw [hc] at hmo
    exact Or.inl ⟨rfl, (free_iff hb).2 q, by simp [doB, hk], by simp [doS, hk, hc], by simp [doC, hk, hc], okB_true hmo⟩
  | false =>
    rw [q, if_neg (by decide)] at hc
    exact Or.inr ⟨rfl, (fun z => by rw [free_iff hb, q] at z; cases z), by simp [doB, hk], by simp [doS, hk, hc], by simp [doC, hk, hc]⟩

set_option maxRecDepth 20000 in
set_option maxHeartbeats 8000000 in
theorem fbf_walk (ao : Option Addr) (cap : Nat) (bs : List Int) (w : World) (hb : Bytes w w.heap.size ao bs) :
    Calls Try.prog 4 #[.slice ao bs.length cap] w fun e w' => e = .returned (.bool true) ∧ Below w.heap.size w w' := by
  have hBg := big_any ao cap bs.length
  have HBY := hidden hb
  clear hb
  by_cases hbig : (4096 : Int) < (bs.length : Int)
  · rw [decide_eq_true hbig] at hBg
    go_enter Try.func4, Try.ntmps4
    go_wp2_with fail
    refine (hBg _).mono ?_
    rintro e w1 ⟨rfl, rfl⟩
    go_wp2_with fail
    go_ret
    exact ⟨rfl, Below.refl _ _⟩
  rw [decide_eq_false hbig] at hBg
  have hl : bs.length ≤ 4096 := by omega
  go_enter Try.func4, Try.ntmps4
  go_wp2_with fail
  refine (hBg w).mono ?_
  rintro e w1 ⟨rfl, hw1⟩
  subst hw1
  clear hBg
  go_wp2_with fail
  refine (dbf_any ao cap bs _ HBY.out (by omega)).mono ?_
  rintro e w2 ⟨vb, vs, B, S, sex, need, rfl, hq2, hB7, hS1, hF7, b2⟩
  obtain ⟨a1, c1, rfl⟩ := hq2.1.form
  obtain ⟨a2, c2, rfl⟩ := hq2.2.form
  have HB7 := hidden hB7
  have HF7 := hidden hF7
  have hBl : B.length ≤ 7 := by omega
  have hS1' : S.length ≤ 1001 := hS1
  clear hB7 hS1 HBY hF7
  have bA : Below w2.heap.size w2 (w2.alloc (.cells #[.slice a1 B.length c1, .slice a2 S.length c2] 27)) := (Below.refl _ w2).alloc (Nat.le_refl _) _
  have hXA := heap_alloc_new w2 (.cells #[.slice a1 B.length c1, .slice a2 S.length c2] 27)
  have hq3 := hq2.below bA
  have b3 : Below w1.heap.size w1 _ := onto b2 bA
  generalize hW3 : w2.alloc (.cells #[.slice a1 B.length c1, .slice a2 S.length c2] 27) = w3 at *
  generalize hX : w2.heap.size = X at *
  obtain ⟨x0, x1, -, -⟩ := two_ofH hXA
  have hlX := (Array.getElem?_eq_some_iff.1 hXA).1
  have HXA := hidden hXA
  have HQ3 := hidden hq3
  have B3 := hidden b3
  have HOK := hidden (fun W (hW : Below w3.heap.size w3 W) => sok_any a1 a2 B.length c1 S.length c2 B S W (hq3.below hW))
  clear bA hq2 b2 hXA hq3 b3
  go_upto_region 4 with fail
  clear hW3 hX
  go_cut [42] (fun tv wx => ∃ q : Bool, tv = .bool q ∧ Hid (q = false ↔ goodB B S sex need) ∧ Below w3.heap.size w3 wx)
  case first =>
    go_wp2_with fail
    refine (HOK.out w3 (Below.refl _ _)).mono ?_
    rintro e w4 ⟨rfl, hb4⟩
    obtain ⟨y0, y1, -, -⟩ := two_ofH ((hb4.block _ hlX).trans HXA.out)
    clear x0 x1 HOK
    cases hk : okB B S with
    | false =>
      go_wp2_with fail
      go_meet
      case rel => exact ⟨_, rfl, (by unfold goodB; simp [Hid, hk]), hb4⟩
    | true =>
      by_cases s1 : sex = 1
      · subst s1
        by_cases n1 : need < 1
        · go_wp2_with fail
          go_meet
          case rel => exact ⟨_, rfl, (by first | (simp [Hid, goodB]; omega) | (unfold goodB; simp; omega)), hb4⟩
        · by_cases n3 : 3 < need
          · go_wp2_with fail
            go_meet
            case rel => exact ⟨_, rfl, (by first | (simp [Hid, goodB]; omega) | (unfold goodB; simp; omega)), hb4⟩
          · by_cases nl : (1000 : Int) ≤ (S.length : Int)
            · go_wp2_with fail
              go_meet
              case rel => exact ⟨_, rfl, (by first | (simp [Hid, goodB]; omega) | (unfold goodB; simp; omega)), hb4⟩
            · go_wp2_with fail
              go_meet
              case rel => exact ⟨_, rfl, (by first | (simp [Hid, goodB, hk]; omega) | (unfold goodB; simp [hk]; omega)), hb4⟩
      · have s1b : (sex == 1) = false := by simpa using s1
        by_cases s2 : sex = 2
        · subst s2
          by_cases n1 : need < 1
          · go_wp2_with fail
            go_meet
            case rel => exact ⟨_, rfl, (by first | (simp [Hid, goodB]; omega) | (unfold goodB; simp; omega)), hb4⟩
          · by_cases n3 : 3 < need
            · go_wp2_with fail
              go_meet
              case rel => exact ⟨_, rfl, (by first | (simp [Hid, goodB]; omega) | (unfold goodB; simp; omega)), hb4⟩
            · by_cases nl : (1000 : Int) ≤ (S.length : Int)
              · go_wp2_with fail
                go_meet
                case rel => exact ⟨_, rfl, (by first | (simp [Hid, goodB]; omega) | (unfold goodB; simp; omega)), hb4⟩
              · go_wp2_with fail
                go_meet
                case rel => exact ⟨_, rfl, (by first | (simp [Hid, goodB, hk]; omega) | (unfold goodB; simp [hk]; omega)), hb4⟩
        · have s2b : (sex == 2) = false := by simpa using s2
          go_wp2_with fail
          go_meet
          case rel => exact ⟨_, rfl, (by unfold goodB; simp [Hid, s1, s2]), hb4⟩
  case rest =>
    obtain ⟨q, rfl, HG, b5⟩ := hcut
    clear x0 x1
    obtain ⟨x0, x1, -, -⟩ := two_ofH ((b5.block _ hlX).trans HXA.out)
    have hlX5 : X < wc.heap.size := Nat.lt_of_lt_of_le hlX b5.size
    rcases q with _ | _
    · have HGD : Hid (goodB B S sex need) := HG.out.1 rfl
      go_wp2_with fail
      refine (ifree_any a1 a2 B.length c1 S.length c2 B S sex need wc (HQ3.out.below b5)).mono ?_
      rintro e w6 ⟨v6, rfl, ho6, hb6⟩
      obtain ⟨f1, f2, rfl⟩ := ho6.row.form
      have b6 := onto b5 hb6
      have hfl : (bedsFree B S sex need).length ≤ 1048576 := by have := free_len B S sex need; omega
      have HR6 := hidden ho6.row
      have HBC := hidden (fun (b : Nat) (hb : b < B.length) => bed_code HGD.out HF7.out hb)
      generalize bedsFree B S sex need = zs at *
      clear ho6 hb6 x0 x1 b5
      obtain ⟨x0, x1, -, -⟩ := two_ofH ((b6.block _ hlX).trans HXA.out)
      go_wp2_with fail
      go_loopw [7] (fun bv wr => ∃ b : Nat, b ≤ B.length ∧ bv = .int .i64 b ∧ Below w6.heap.size w6 wr) (fun bv _ => B.length - (intOf bv).toNat)
      case atStart => exact ⟨0, Nat.zero_le _, rfl, Below.refl _ _⟩
      case round =>
        clear x0 x1
        obtain ⟨b, hb, rfl, br⟩ := hrel
        have b7 := onto b6 br
        obtain ⟨x0, x1, -, -⟩ := two_ofH ((b7.block _ hlX).trans HXA.out)
        by_cases hlt : b < B.length
        · have hlti : (b : Int) < (B.length : Int) := by omega
          have k1 := ido_any a1 a2 B.length c1 S.length c2 B S ⟨1, 700, sex, need, b, 10000000⟩ wr (HQ3.out.below b7)
          unfold aM at k1
          simp only at k1
          have HHR := hidden (fun W (hW : Below w6.heap.size w6 W) => hasR_any f1 _ f2 zs (b : Int) W (HR6.out.below hW) hfl)
          rcases HBC.out b hlt with ⟨-, g1, g2, g3, g4, g5⟩ | ⟨-, g1, g2, g3, g4⟩
          · rw [g2, g3, g4] at k1
            have hdm : decide ((b : Int) ∈ zs) = true := decide_eq_true g1
            have HWI := hidden (where_in HF7.out g5)
            rw [hdm] at HHR
            have K1 := hidden k1
            clear g1 g2 g3 g4 g5 k1 hdm HBC
            go_wp2_with fail
            refine K1.out.mono ?_
            rintro e w8 ⟨b1, b2, b3, s1, s2, s3, rfl, hn8, hb8⟩
            have bY : Below wr.heap.size wr (w8.alloc (.cells #[.slice b1 b2 b3, .slice s1 s2 s3] 27)) := hb8.alloc hb8.size _
            have hYY := heap_alloc_new w8 (.cells #[.slice b1 b2 b3, .slice s1 s2 s3] 27)
            have hrY := (hn8.below ((Below.refl _ w8).alloc (Nat.le_refl _) (.cells #[.slice b1 b2 b3, .slice s1 s2 s3] 27))).own.row
            generalize hW9 : w8.alloc (.cells #[.slice b1 b2 b3, .slice s1 s2 s3] 27) = w9 at *
            generalize hY9 : w8.heap.size = Y at *
            have b9 := onto br bY
            obtain ⟨y0, y1, -, -⟩ := two_ofH hYY
            have hlY := (Array.getElem?_eq_some_iff.1 hYY).1
            have HYY := hidden hYY
            have HRY := hidden hrY
            clear hn8 hb8 bY hYY hrY x0 x1 K1
            go_wp2_with fail
            refine (HHR.out w9 b9).mono ?_
            rintro e w10 ⟨rfl, hw10⟩
            subst hw10
            clear hW9 hY9
            go_wp2_with fail
            refine (iwhere_any b1 s1 b2 b3 s2 s3 B _ 700 10000000 w10 HRY.out).mono ?_
            rintro e w11 ⟨rfl, hb11⟩
            rw [HWI.out.1]
            obtain ⟨z0, z1, -, -⟩ := two_ofH ((hb11.block _ hlY).trans HYY.out)
            have b11 := onto b9 hb11
            go_wp2_with fail
            refine (iwhere_any b1 s1 b2 b3 s2 s3 B _ 700 9999999 w11 (HRY.out.below hb11)).mono ?_
            rintro e w12 ⟨rfl, hb12⟩
            rw [HWI.out.2]
            have b12 := onto b11 hb12
            go_wp2_with fail
            go_roundw
            case rel => exact ⟨b + 1, by omega, rfl, b12⟩
            case measure => simp [intOf]; omega
          · rw [g2, g3, g4] at k1
            have hdm : decide ((b : Int) ∈ zs) = false := decide_eq_false g1
            rw [hdm] at HHR
            have K1 := hidden k1
            clear g1 g2 g3 g4 k1 hdm HBC
            go_wp2_with fail
            refine K1.out.mono ?_
            rintro e w8 ⟨b1, b2, b3, s1, s2, s3, rfl, hn8, hb8⟩
            have bY : Below wr.heap.size wr (w8.alloc (.cells #[.slice b1 b2 b3, .slice s1 s2 s3] 27)) := hb8.alloc hb8.size _
            generalize hW9 : w8.alloc (.cells #[.slice b1 b2 b3, .slice s1 s2 s3] 27) = w9 at *
            have b9 := onto br bY
            clear hn8 hb8 bY x0 x1 K1
            go_wp2_with fail
            refine (HHR.out w9 b9).mono ?_
            rintro e w10 ⟨rfl, hw10⟩
            subst hw10
            clear hW9
            go_wp2_with fail
            go_roundw
            case rel => exact ⟨b + 1, by omega, rfl, b9⟩
            case measure => simp [intOf]; omega
        · have hlti : ¬ (b : Int) < (B.length : Int) := by omega
          go_wp2_with fail
          go_ret
          exact ⟨rfl, onto B3.out b7⟩
    · have HI5 := hidden (fun W (hW : Below w3.heap.size w3 W) => ifree_any a1 a2 B.length c1 S.length c2 B S sex need W (HQ3.out.below hW))
      have HS5 := hidden (fun W (hW : Below w3.heap.size w3 W) => sfree_any a1 a2 B.length c1 S.length c2 B S sex need W (HQ3.out.below hW) (fun W2 hW2 => sok_any a1 a2 B.length c1 S.length c2 B S W2 hW2))
      have hx0 := x0
      go_upto_region 5 with fail
      go_region_held3 (fun w' => w'.cell? ⟨X, 0, none⟩ = some (.slice a1 B.length c1) ∧ w'.cell? ⟨X, 1, none⟩ = some (.slice a2 S.length c2)) (go_keep)
        (first
          | (go_at_call 16; refine (HI5.out _ (st_drew b5)).mono ?_; rintro e w6 ⟨v6, rfl, ho6, hb6⟩; obtain ⟨f1, f2, rfl⟩ := ho6.row.form; have b6 := onto (st_drew b5) hb6; obtain ⟨y0, y1, -, -⟩ := two_ofH ((b6.block _ hlX).trans HXA.out); clear ho6 hb6)
          | (go_at_call 17; refine (HS5.out _ b6).mono ?_; rintro e w7 ⟨v7, rfl, ho7, hb7⟩; obtain ⟨f3, f4, rfl⟩ := ho7.row.form; have b7 := onto b6 hb7; obtain ⟨u0, u1, -, -⟩ := two_ofH ((b7.block _ hlX).trans HXA.out); clear ho7 hb7)
          | fail)
      all_goals go_wp2_with fail
      all_goals go_ret
      all_goals exact ⟨rfl, onto B3.out b7⟩
end Go.Proofs.Ytklgadaefngnnaa
