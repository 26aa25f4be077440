/-
  Merged: U59.
-/
import Derived.Test.YtmcekefoedgboaaDoorMg40
import Derived.Test.YtmcekefoedgboaaDoorMg5
namespace Go.Proofs.YtmcekefoedgboaaDoor
open Go.RowKit Va Uo
set_option linter.all false
set_option maxRecDepth 20000 in
set_option maxHeartbeats 4000000 in
theorem zjj (v2 v3 : Value) (os : List Od) (ds : List Ds) (b2 b3 : Nat) (k0 : Int) (w : World) (h2 : jl 9 jb w b2 v2 os) (h3 : jl 5 jk w b3 v3 ds) (hap : Apart v2 v3 ∧ Apart v3 v2) (hn : os.length ≤ 1048576) (hm : ds.length ≤ 1048576) (hk0 : 0 ≤ k0) (hk1 : k0 ≤ 100000000) :
    Calls Tryd.prog 17 #[.agg #[v2, v3], .int .i64 k0] w fun e w' => e = .returned (.int .i64 (k0 + 9 * (os.length : Int) + 5 * (ds.length : Int))) ∧ Mkd w w' v2 v3 os ds b2 b3 k0 ∧ (∀ (B : Nat) (vs : Array Value) (t : TypeId), PB w B vs t → v2.ownBlock ≠ some B → v3.ownBlock ≠ some B → PB w' B vs t) := by
  have bA : Below w.heap.size w (w.alloc (.cells #[v2, v3] 27)) := (Below.refl _ _).alloc (Nat.le_refl _) _
  have HP := hidden (PB.new w #[v2, v3] 27)
  have H2w := hidden h2
  have H3w := hidden h3
  have H2 := hidden (h2.below bA)
  have H3 := hidden (h3.below bA)
  have HB := hidden bA
  have HAp := hidden hap
  obtain ⟨a2, c2, hv2⟩ := h2.row.form
  obtain ⟨a3, c3, hv3⟩ := h3.row.form
  subst hv2
  subst hv3
  have hz := bA.size
  clear h2 h3 bA hap
  go_enter Tryd.func17, Tryd.ntmps17
  go_upto_region 1 with fail
  generalize w.alloc (.cells #[.slice a2 os.length c2, .slice a3 ds.length c3] 27) = wA at *
  obtain ⟨p0, p1⟩ := HP.out.two
  go_wp2_with fail
  refine (zfe _ os b2 k0 _ H2.out hn hk0 (by omega)).mono ?_
  rintro e w1 ⟨rfl, hm1, ha1, hz1⟩
  have HP1 := hidden (zb2 H2w.out (Nat.le_refl _) ha1 hz1 HP.out)
  have H31 := hidden (H3.out.zek HAp.out.1 ha1)
  have HM1 := hidden hm1
  have HA1 := hidden ha1
  have HZ1 := hidden hz1
  clear hm1 ha1 hz1 p0 p1
  obtain ⟨p0, p1⟩ := HP1.out.two
  go_wp2_with fail
  refine (zfn _ ds b3 (k0 + 9 * (os.length : Int)) _ H31.out hm (by omega) (by omega)).mono ?_
  rintro e w2 ⟨rfl, hm2, ha2, hz2⟩
  have HM2 := hidden hm2
  have HA2 := hidden ha2
  have HZ2 := hidden hz2
  clear hm2 ha2 hz2 p0 p1
  go_wp2_with fail
  go_ret
  refine ⟨rfl, ⟨?_, HM2.out, ?_, ?_, ?_⟩, fun B vs t hp h2 h3 => (HA2.out.block B h3).trans ((HA1.out.block B h2).trans (hp.below HB.out))⟩
  · exact HM1.out.zek HAp.out.2 HA2.out
  · intro b0 w0 hb hb0 hb2 hb3
    have hb1 : Below b0 w0 wA := hb.trans (HB.out.mono hb0)
    exact H31.out.zc1 HA2.out HZ2.out (H2.out.zc1 HA1.out HZ1.out hb1 hb2) hb3
  · intro γ s cs b v l hv hx2 hx3
    obtain ⟨wx, hwx, hwl⟩ := hx2
    obtain ⟨wy, hwy, hyl⟩ := hx3
    exact hwy.zcm hyl HA2.out HZ2.out (hwx.zcm hwl HA1.out HZ1.out (hv.below HB.out))
  · intro B vs t hp hx2 hx3
    obtain ⟨wx, hwx, hwl⟩ := hx2
    obtain ⟨wy, hwy, hyl⟩ := hx3
    exact zb2 hwy hyl HA2.out HZ2.out (zb2 hwx hwl HA1.out HZ1.out (hp.below HB.out))
def FOA10 (AB XB : Nat) (ao a2 ad a3 : Option Addr) (cap c2 dcap c3 : Nat) (os : List Od) (ds : List Ds) (i9 : Nat) (v : Value) (w : World) : Prop :=
  match i9 with
  | 0 => v = .agg #[.slice a2 os.length c2, .slice a3 ds.length c3]
  | 1 => v = .agg #[.slice ao os.length cap, .slice ad ds.length dcap]
  | 2 => ∃ a4 c4 a5 c5, v = .agg #[.slice a4 os.length c4, .slice a5 ds.length c5] ∧ VRw 9 jb w (.slice a4 os.length c4) os ∧ VRw 5 jk w (.slice a5 ds.length c5) ds
  | 3 => v = .bool true
  | 4 => v = .bool false
  | _ => True
theorem zdm : (Rg.opsOf Tryd.f5 10).size = 5 := by kernel_rfl
set_option maxRecDepth 20000 in
set_option maxHeartbeats 8000000 in
theorem regOA10 {Q : Exit → Act → World → Prop} {a : Act} {w9 : World} {AB XB : Nat} {ao a2 ad a3 : Option Addr} {cap c2 dcap c3 : Nat} {os : List Od} {ds : List Ds} (ha : a.tmps.size = 104)
    (k2 : a.tmps[2]? = some (.pointer (some ⟨AB, 0, none⟩))) (k8 : a.tmps[8]? = some (.pointer (some ⟨XB, 0, none⟩))) (hA2 : PB w9 AB #[.slice ao os.length cap, .slice ad ds.length dcap] 43) (hX2 : PB w9 XB #[.slice a2 os.length c2, .slice a3 ds.length c3] 27) (r1 : VRw 9 jb w9 (.slice ao os.length cap) os) (r2 : VRw 5 jk w9 (.slice ad ds.length dcap) ds) (s1 : VRw 9 jb w9 (.slice a2 os.length c2) os) (s2 : VRw 5 jk w9 (.slice a3 ds.length c3) ds) (hn : os.length ≤ 1048576) (hm : ds.length ≤ 1048576)
    (hend : ∀ b' w', Rg.Fr (Rg.opsOf Tryd.f5 10) a b' → Below w9.heap.size w9 w' → Rg.out (Rg.opsOf Tryd.f5 10) b' 4 = .bool false → Q .normal b' w') :
    (Code.region 10 (Rg.opsOf Tryd.f5 10) true).wp Tryd.prog Q a w9 := by
  refine Rg.zae (by kernel_rfl) (fun w' => Below w9.heap.size w9 w') (FOA10 AB XB ao a2 ad a3 cap c2 dcap c3 os ds) (fun _ => none) (by rw [ha, zdm]; kernel_rfl) (jg (Below.refl _ _)) ?_ ?_
  case refine_2 =>
    intro b' w' hf hI hA
    rw [zdm] at hA
    exact hend b' w' hf hI (hA 4 (by decide) rfl)
  case refine_1 =>
    clear hend
    have HS : ∀ {w w' : World}, Below w.heap.size w w' → ∀ k9 y9, FOA10 AB XB ao a2 ad a3 cap c2 dcap c3 os ds k9 y9 w → FOA10 AB XB ao a2 ad a3 cap c2 dcap c3 os ds k9 y9 w' := fun hb k9 y9 h => by
      unfold FOA10 at *
      split at h <;> first | exact h | (obtain ⟨a4, c4, a5, c5, h1, h2, h3⟩ := h; exact ⟨a4, c4, a5, c5, h1, h2.below hb, h3.below hb⟩)
    intro i' hi'
    rw [zdm] at hi'
    rcases (show i' = 0 ∨ i' = 1 ∨ i' = 2 ∨ i' = 3 ∨ i' = 4 by omega) with rfl | rfl | rfl | rfl | rfl
    · intro bb w' hf hI hA
      clear hi'
      have q8 := hf.kept (s := 8) (by rw [zdm]; kernel_rfl) k8
      obtain ⟨e0, e1⟩ := (hX2.below hI).two
      clear hA HS hA2 hX2 r1 r2 s1 s2
      exact Rg.zh (o := ⟨some 47, Op.load 27 (Operand.tmp 8), _, _, _, _⟩) (x := .agg #[.slice a2 os.length c2, .slice a3 ds.length c3]) rfl rfl (by simp only [execOp]; go_simp) ⟨_, rfl, (fun h => by cases h), rfl, hI, fun _ _ _ h => h⟩
    · intro bb w' hf hI hA
      clear hi'
      have q2 := hf.kept (s := 2) (by rw [zdm]; kernel_rfl) k2
      obtain ⟨e0, e1⟩ := (hA2.below hI).two
      clear hA HS hA2 hX2 r1 r2 s1 s2
      exact Rg.zh (o := ⟨some 48, Op.load 43 (Operand.tmp 2), _, _, _, _⟩) (x := .agg #[.slice ao os.length cap, .slice ad ds.length dcap]) rfl rfl (by simp only [execOp]; go_simp) ⟨_, rfl, (fun h => by cases h), rfl, hI, fun _ _ _ h => h⟩
    · intro bb w' hf hI hA
      clear hi'
      have q48 : bb.tmps[48]? = some _ := hf.tmp (k := 1) rfl (by rw [ha]; decide) (hA 1 (by kernel_rfl) (.inl rfl))
      refine Rg.jy (o := ⟨some 49, Op.call { callee := Callee.value (Operand.func 14), args := #[(Operand.tmp 48)], argTypes := _ }, _, _, _, _⟩) rfl rfl (by clear hA HS hA2 hX2 r1 r2 s1 s2; simp only [execOp, resolve]; go_simp) (zd2 _ _ _ _ _ _ os ds w' (r1.below hI) (r2.below hI) hn hm) ?_
      rintro e w2 ⟨a4, c4, a5, c5, M, rfl, o1, o2, -, -, hb2⟩
      exact ⟨_, rfl, _, rfl, (fun h => by cases h), ⟨a4, c4, a5, c5, rfl, o1.row, o2.row⟩, onto hI hb2, fun k9 y9 _ h => HS hb2 k9 y9 h⟩
    · intro bb w' hf hI hA
      clear hi'
      have q47 : bb.tmps[47]? = some _ := hf.tmp (k := 0) rfl (by rw [ha]; decide) (hA 0 (by kernel_rfl) (.inl rfl))
      obtain ⟨a4, c4, a5, c5, hv, o1, o2⟩ := hA 2 (by kernel_rfl) (.inl rfl)
      have q49 : bb.tmps[49]? = some _ := hf.tmp (k := 2) rfl (by rw [ha]; decide) hv
      refine Rg.jy (o := ⟨some 50, Op.call { callee := Callee.value (Operand.func 16), args := #[(Operand.tmp 47), (Operand.tmp 49)], argTypes := _ }, _, _, _, _⟩) rfl rfl (by clear hA HS hA2 hX2 r1 r2 s1 s2 hv o1 o2; simp only [execOp, resolve]; go_simp) (zei _ _ _ _ os ds w' (s1.below hI) (s2.below hI) o1 o2 hn hm) ?_
      rintro e w2 ⟨rfl, hb2⟩
      exact ⟨_, rfl, _, rfl, (fun h => by cases h), rfl, onto hI hb2, fun k9 y9 _ h => HS hb2 k9 y9 h⟩
    · intro bb w' hf hI hA
      clear hi'
      have q50 : bb.tmps[50]? = some _ := hf.tmp (k := 3) rfl (by rw [ha]; decide) (hA 3 (by kernel_rfl) (.inl rfl))
      clear hA HS hA2 hX2 r1 r2 s1 s2
      exact Rg.zh (o := ⟨some 51, Op.unOp UnOp.not 4 (Operand.tmp 50), _, _, _, _⟩) (x := .bool false) rfl rfl (by simp only [execOp]; go_simp) ⟨_, rfl, (fun h => by cases h), rfl, hI, fun _ _ _ h => h⟩
theorem dOA10_0 : Rg.zf (Rg.opsOf Tryd.f5 10) 0 = some 47 := by kernel_rfl
theorem dOA10_1 : Rg.zf (Rg.opsOf Tryd.f5 10) 1 = some 48 := by kernel_rfl
theorem dOA10_2 : Rg.zf (Rg.opsOf Tryd.f5 10) 2 = some 49 := by kernel_rfl
theorem dOA10_3 : Rg.zf (Rg.opsOf Tryd.f5 10) 3 = some 50 := by kernel_rfl
theorem dOA10_4 : Rg.zf (Rg.opsOf Tryd.f5 10) 4 = some 51 := by kernel_rfl
theorem layOA10 {a b : Act} (hf : Rg.Fr (Rg.opsOf Tryd.f5 10) a b) : b = (((((a.put (some 47) (Rg.out (Rg.opsOf Tryd.f5 10) b 0)).put (some 48) (Rg.out (Rg.opsOf Tryd.f5 10) b 1)).put (some 49) (Rg.out (Rg.opsOf Tryd.f5 10) b 2)).put (some 50) (Rg.out (Rg.opsOf Tryd.f5 10) b 3)).put (some 51) (Rg.out (Rg.opsOf Tryd.f5 10) b 4)) := by
  have h := hf.chain
  rw [zdm, show List.range 5 = [0, 1, 2, 3, 4] from by decide] at h
  simp only [List.foldl_cons, List.foldl_nil, dOA10_0, dOA10_1, dOA10_2, dOA10_3, dOA10_4] at h
  exact h
theorem od_len {os : List Od} {ds : List Ds} (x : Dd) (hn : os.length ≤ 1048576) (hm : ds.length ≤ 1048576) : (zau os ds x).length ≤ 1048576 ∧ (zay os ds x).length ≤ 1048576 := by
  unfold zau zay
  cases hc : jr os ds with
  | false => simp
  | true =>
    obtain ⟨⟨h1, h2⟩, _⟩ := zcd.1 hc
    simp only [if_true]
    by_cases h0 : doC os ds x = 0
    · rw [if_pos h0, if_pos h0]
      have e1 : (zad os x).length ≤ os.length + 2 := by
        have := (zfp os x.o os.length).1
        unfold zad zal
        split
        · split
          · omega
          · rw [List.length_append]; simp; omega
        · split
          · omega
          · rw [List.length_set]; omega
      have e2 : (vg os ds x).length ≤ ds.length + 1 := by
        unfold vg
        split
        · rw [List.length_append]; simp
        · omega
      omega
    · rw [if_neg h0, if_neg h0]; exact ⟨hn, hm⟩
set_option maxRecDepth 20000 in
set_option maxHeartbeats 8000000 in
theorem walkOd (ao : Option Addr) (cap : Nat) (ad : Option Addr) (dcap : Nat) (os : List Od) (ds : List Ds) (x : Dd) (w : World) (ho : VRw 9 jb w (.slice ao os.length cap) os) (hd : VRw 5 jk w (.slice ad ds.length dcap) ds) (hnm : os.length ≤ maxLen) (hmm : ds.length ≤ maxLen) (hl : zcs w) :
    Calls Tryd.prog 5 #[.agg #[.slice ao os.length cap, .slice ad ds.length dcap], .agg #[.int .i64 x.k, .int .i64 x.o.id, .int .i64 x.o.p, .int .i64 x.o.d, .int .i64 x.o.n, .int .i64 x.o.f, .int .i64 x.o.e, .int .i64 x.o.c, .int .i64 x.o.s, .bool x.o.two, .int .i64 x.id, .int .i64 x.p, .int .i64 x.d, .int .i64 x.n, .int .i64 x.m, .int .i64 x.b, .int .i64 x.a]] w fun e w' => e = .returned (.bool true) ∧ Below w.heap.size w w' := by
  have hb0 : Below w.heap.size w ((w.alloc (.cells #[.slice ao os.length cap, .slice ad ds.length dcap] 43)).alloc (.cells #[.int .i64 x.k, .int .i64 x.o.id, .int .i64 x.o.p, .int .i64 x.o.d, .int .i64 x.o.n, .int .i64 x.o.f, .int .i64 x.o.e, .int .i64 x.o.c, .int .i64 x.o.s, .bool x.o.two, .int .i64 x.id, .int .i64 x.p, .int .i64 x.d, .int .i64 x.n, .int .i64 x.m, .int .i64 x.b, .int .i64 x.a] 46)) := ((Below.refl _ _).alloc (Nat.le_refl _) _).alloc (by simp) _
  have HP := hidden ((PB.new w #[.slice ao os.length cap, .slice ad ds.length dcap] 43).alloc (.cells #[.int .i64 x.k, .int .i64 x.o.id, .int .i64 x.o.p, .int .i64 x.o.d, .int .i64 x.o.n, .int .i64 x.o.f, .int .i64 x.o.e, .int .i64 x.o.c, .int .i64 x.o.s, .bool x.o.two, .int .i64 x.id, .int .i64 x.p, .int .i64 x.d, .int .i64 x.n, .int .i64 x.m, .int .i64 x.b, .int .i64 x.a] 46))
  have hD0 := PB.new (w.alloc (.cells #[.slice ao os.length cap, .slice ad ds.length dcap] 43)) #[.int .i64 x.k, .int .i64 x.o.id, .int .i64 x.o.p, .int .i64 x.o.d, .int .i64 x.o.n, .int .i64 x.o.f, .int .i64 x.o.e, .int .i64 x.o.c, .int .i64 x.o.s, .bool x.o.two, .int .i64 x.id, .int .i64 x.p, .int .i64 x.d, .int .i64 x.n, .int .i64 x.m, .int .i64 x.b, .int .i64 x.a] 46
  simp only [World.size_alloc] at hD0
  have HD0 := hidden hD0
  have HO := hidden (ho.below hb0)
  have HD := hidden (hd.below hb0)
  have HL := hidden (hl.below hb0)
  have HB := hidden hb0
  clear ho hd hb0 hl hD0
  have hS := fun W => zj4 ao os.length cap ad ds.length dcap W (by unfold maxLen at hnm; omega) (by unfold maxLen at hmm; omega)
  go_enter Tryd.func5, Tryd.ntmps5
  go_upto_region 1 with fail
  generalize (w.alloc (.cells #[.slice ao os.length cap, .slice ad ds.length dcap] 43)).alloc (.cells #[.int .i64 x.k, .int .i64 x.o.id, .int .i64 x.o.p, .int .i64 x.o.d, .int .i64 x.o.n, .int .i64 x.o.f, .int .i64 x.o.e, .int .i64 x.o.c, .int .i64 x.o.s, .bool x.o.two, .int .i64 x.id, .int .i64 x.p, .int .i64 x.d, .int .i64 x.n, .int .i64 x.m, .int .i64 x.b, .int .i64 x.a] 46) = wA at *
  generalize hAB : w.heap.size = AB at HP HD0 ⊢
  obtain ⟨p0, p1⟩ := HP.out.two
  go_wp2_with fail
  refine (hS _).mono ?_
  rintro e w1 ⟨q, rfl, hr, hb1⟩
  clear hS p0 p1
  rcases hr with hr | ⟨hr0, hn, hm⟩
  · go_wp2_with fail
    go_ret
    exact ⟨rfl, hAB ▸ onto HB.out hb1⟩
  have hr2 : ¬ q < 0 := by omega
  obtain ⟨hLo, hLd⟩ := od_len x hn hm
  have HT := hidden (fun W h1 h2 => zd2 ao os.length cap ad ds.length dcap os ds W h1 h2 hn hm)
  have HSP := hidden (fun a1 c1 a2 c2 W (h : Cp.CRw W (.slice a1 os.length c1) (.slice a2 ds.length c2) os ds) => zhq a1 c1 a2 c2 os ds x W h hn hm)
  have HIM := hidden (fun a1 c1 a2 c2 W (h : Cp.CRw W (.slice a1 os.length c1) (.slice a2 ds.length c2) os ds) (h2 : zcs W) => zi5 a1 os.length c1 a2 ds.length c2 os ds x W h hn hm h2)
  generalize zau os ds x = L1 at *
  generalize zay os ds x = L2 at *
  generalize odC os ds x = c at *
  have K1 := hidden hb1
  have HO1 := hidden (HO.out.below hb1)
  have HD1 := hidden (HD.out.below hb1)
  have HL1 := hidden (HL.out.below hb1)
  have HP1 := hidden (HP.out.below hb1)
  have HQ1 := hidden (HD0.out.below hb1)
  have HB1 := hidden (onto HB.out hb1)
  clear hb1 HO HD HL HP HD0 HB K1
  go_upto_region 5 with fail
  refine regOA5 rfl rfl rfl HP1.out HQ1.out HO1.out HD1.out hn hm (fun a1 c1 a2 c2 W hW h => HSP.out a1 c1 a2 c2 W h) ?_
  intro b' w3 B3 v3 u3 hf hb3 ho3 hB3 P3 N3 hc3
  rw [layOA5 hf, ho3, hc3]
  clear ho3 hc3 hf HSP
  generalize Rg.out (Rg.opsOf Tryd.f5 5) b' 0 = y5_0
  generalize Rg.out (Rg.opsOf Tryd.f5 5) b' 1 = y5_1
  generalize Rg.out (Rg.opsOf Tryd.f5 5) b' 2 = y5_2
  generalize Rg.out (Rg.opsOf Tryd.f5 5) b' 3 = y5_3
  generalize Rg.out (Rg.opsOf Tryd.f5 5) b' 4 = y5_4
  generalize Rg.out (Rg.opsOf Tryd.f5 5) b' 5 = y5_5
  generalize Rg.out (Rg.opsOf Tryd.f5 5) b' 6 = y5_6
  generalize Rg.out (Rg.opsOf Tryd.f5 5) b' 7 = y5_7
  generalize Rg.out (Rg.opsOf Tryd.f5 5) b' 9 = y5_9
  have HO3 := hidden (HO1.out.below hb3)
  have HD3 := hidden (HD1.out.below hb3)
  have HL3 := hidden (HL1.out.below hb3)
  have HP3 := hidden (HP1.out.below hb3)
  have HQ3 := hidden (HQ1.out.below hb3)
  have HB3 := hidden (onto HB1.out hb3)
  have PW := hidden P3
  have W1 := hidden (zaa rfl N3.1).row
  have W2 := hidden (zaa rfl N3.2).row
  obtain ⟨d1, e1, d2, e2, rfl, rfl⟩ := N3.form
  clear hb3 HO1 HD1 HL1 HP1 HQ1 HB1 P3 N3
  go_frame
  obtain ⟨p0, p1⟩ := HP3.out.two
  go_wp2_with fail
  refine (HT.out _ HO3.out HD3.out).mono ?_
  rintro e w4 ⟨a4, c4, a5, c5, M4, rfl, o4, o5, hap, hM4, hb4⟩
  have HO4 := hidden o4
  have HO5 := hidden o5
  have HAp := hidden hap
  have z4 := hb4.size
  clear hap p0 p1
  go_upto_region 7 with fail
  have PX := PB.new w4 #[.slice a4 os.length c4, .slice a5 ds.length c5] 27
  have bx : Below w4.heap.size w4 (w4.alloc (.cells #[.slice a4 os.length c4, .slice a5 ds.length c5] 27)) := (Below.refl _ _).alloc (Nat.le_refl _) _
  have R4 := hidden (o4.below bx)
  have R5 := hidden (o5.below bx)
  have K5 := hidden (hb4.trans (bx.mono z4))
  have z5 := bx.size
  clear o4 o5 bx hb4
  generalize w4.alloc (.cells #[.slice a4 os.length c4, .slice a5 ds.length c5] 27) = w5 at *
  generalize hXB : w4.heap.size = XB at PX ⊢
  have PX5 := hidden PX
  clear PX
  have HQ5 := hidden (HQ3.out.below K5.out)
  have HL5 := hidden (HL3.out.below K5.out)
  refine regOA7 rfl rfl rfl PX5.out HQ5.out R4.out.row R5.out.row hn hm (fun a1 c1 a2 c2 W hW h => HIM.out a1 c1 a2 c2 W h (HL5.out.below hW)) ?_
  intro b' w6 B6 v6 u6 hf hb6 ho6 hB6 P6 N6 hc6
  rw [layOA7 hf, ho6, hc6]
  clear ho6 hc6 hf HQ5 HL5
  generalize Rg.out (Rg.opsOf Tryd.f5 7) b' 0 = y7_0
  generalize Rg.out (Rg.opsOf Tryd.f5 7) b' 1 = y7_1
  generalize Rg.out (Rg.opsOf Tryd.f5 7) b' 2 = y7_2
  generalize Rg.out (Rg.opsOf Tryd.f5 7) b' 3 = y7_3
  generalize Rg.out (Rg.opsOf Tryd.f5 7) b' 4 = y7_4
  generalize Rg.out (Rg.opsOf Tryd.f5 7) b' 5 = y7_5
  generalize Rg.out (Rg.opsOf Tryd.f5 7) b' 6 = y7_6
  generalize Rg.out (Rg.opsOf Tryd.f5 7) b' 8 = y7_8
  have K6 := hidden (K5.out.trans (hb6.mono K5.out.size))
  have PX6 := hidden (PX5.out.below hb6)
  have R46 := hidden (R4.out.below hb6)
  have R56 := hidden (R5.out.below hb6)
  have PG6 := hidden P6
  have G6 := hidden (zaa rfl N6.1)
  have H6 := hidden (zaa rfl N6.2)
  have GA := hidden (zjg N6)
  have GB1 : Hid (v6.ownBlock ≠ some B6) := jc N6.1 P6 (by decide)
  have GB2 : Hid (u6.ownBlock ≠ some B6) := jc N6.2 P6 (by decide)
  obtain ⟨d3, e3, d4, e4, rfl, rfl⟩ := N6.form
  clear hb6 K5 PX5 R4 R5 P6 N6
  go_frame
  obtain ⟨g0, g1⟩ := PG6.out.two
  obtain ⟨k0, k1⟩ := (PW.out.below K6.out).two
  go_wp2_with fail
  refine (zei _ _ _ _ L1 L2 _ G6.out.row H6.out.row (W1.out.below K6.out) (W2.out.below K6.out) hLo hLd).mono ?_
  rintro e w7 ⟨rfl, hb7⟩
  clear g0 g1 k0 k1
  have K7 := hidden (K6.out.trans (hb7.mono K6.out.size))
  have PX7 := hidden (PX6.out.below hb7)
  have R47 := hidden (R46.out.below hb7)
  have R57 := hidden (R56.out.below hb7)
  have PG7 := hidden (PG6.out.below hb7)
  have G7 := hidden (G6.out.below hb7)
  have H7 := hidden (H6.out.below hb7)
  clear hb7 K6 PX6 R46 R56 PG6 G6 H6
  go_upto_region 10 with fail
  refine regOA10 rfl rfl rfl (HP3.out.below K7.out) PX7.out (HO3.out.below K7.out) (HD3.out.below K7.out) R47.out.row R57.out.row hn hm ?_
  intro b' w8 hf hb8 hv
  rw [layOA10 hf, hv]
  clear hv hf
  generalize Rg.out (Rg.opsOf Tryd.f5 10) b' 0 = y10_0
  generalize Rg.out (Rg.opsOf Tryd.f5 10) b' 1 = y10_1
  generalize Rg.out (Rg.opsOf Tryd.f5 10) b' 2 = y10_2
  generalize Rg.out (Rg.opsOf Tryd.f5 10) b' 3 = y10_3
  have K8 := hidden (K7.out.trans (hb8.mono K7.out.size))
  have PX8 := hidden (PX7.out.below hb8)
  have R48 := hidden (R47.out.below hb8)
  have R58 := hidden (R57.out.below hb8)
  have PG8 := hidden (PG7.out.below hb8)
  have G8 := hidden (G7.out.below hb8)
  have H8 := hidden (H7.out.below hb8)
  clear hb8 K7 PX7 R47 R57 PG7 G7 H7
  go_frame
  obtain ⟨x0, x1⟩ := PX8.out.two
  go_wp2_with fail
  refine (zh0 _ _ os ds _ _ 1 _ R48.out R58.out HAp.out hn hm (by omega) (by omega)).mono ?_
  rintro e w9 ⟨rfl, hmk⟩
  have K9 := hidden (hmk.below _ _ K8.out K8.out.size (Nat.le_refl _) hM4)
  have G9 := hidden (hmk.young _ _ _ _ _ _ G8.out ⟨w4, HO4.out, by omega⟩ ⟨w4, HO5.out, by omega⟩)
  have H9 := hidden (hmk.young _ _ _ _ _ _ H8.out ⟨w4, HO4.out, by omega⟩ ⟨w4, HO5.out, by omega⟩)
  have PG9 := hidden (hmk.box _ _ _ PG8.out ⟨w4, HO4.out, by omega⟩ ⟨w4, HO5.out, by omega⟩)
  have n9 : ¬ (1 + 9 * (os.length : Int) + 5 * (ds.length : Int)) < 0 := by omega
  clear hmk K8 PX8 R48 R58 PG8 G8 H8 x0 x1
  obtain ⟨g0, g1⟩ := PG9.out.two
  obtain ⟨k0, k1⟩ := (PW.out.below K9.out).two
  go_wp2_with fail
  refine (zei _ _ _ _ L1 L2 _ G9.out.row H9.out.row (W1.out.below K9.out) (W2.out.below K9.out) hLo hLd).mono ?_
  rintro e w10 ⟨rfl, hb10⟩
  clear g0 g1 k0 k1
  have K10 := hidden (K9.out.trans (hb10.mono K9.out.size))
  have PG10 := hidden (PG9.out.below hb10)
  have G10 := hidden (G9.out.below hb10)
  have H10 := hidden (H9.out.below hb10)
  clear hb10 K9 PG9 G9 H9
  obtain ⟨g0, g1⟩ := PG10.out.two
  go_wp2_with fail
  refine (zjj _ _ L1 L2 _ _ 1 _ G10.out H10.out GA.out hLo hLd (by omega) (by omega)).mono ?_
  rintro e w11 ⟨rfl, hmk, hbx⟩
  have K11 := hidden (hmk.below _ _ K10.out K10.out.size (Nat.le_trans z4 z5) (Nat.le_trans z4 z5))
  have PG11 := hidden (hbx _ _ _ PG10.out GB1.out GB2.out)
  have G11 := hidden hmk.ords
  have H11 := hidden hmk.doss
  have n8 : ¬ (1 + 9 * (L1.length : Int) + 5 * (L2.length : Int)) < 0 := by omega
  clear hmk hbx K10 PG10 G10 H10 g0 g1
  obtain ⟨g0, g1⟩ := PG11.out.two
  go_wp2_with fail
  refine (zgb _ _ L1.length L2.length 1 _ G11.out.row H11.out.row hLo hLd (by omega) (by omega)).mono ?_
  rintro e w12 ⟨rfl, hb12⟩
  clear g0 g1
  have K12 := hidden (K11.out.trans (hb12.mono K11.out.size))
  have PG12 := hidden (PG11.out.below hb12)
  have G12 := hidden (G11.out.below hb12)
  have H12 := hidden (H11.out.below hb12)
  clear hb12 K11 PG11 G11 H11
  have HL12 := hidden (HL3.out.below K12.out)
  go_upto_region 24 with fail
  refine regOA24 rfl rfl rfl (HP3.out.below K12.out) (HQ3.out.below K12.out) (HO3.out.below K12.out) (HD3.out.below K12.out) hn hm (fun a1 c1 a2 c2 W hW h => HIM.out a1 c1 a2 c2 W h (HL12.out.below hW)) ?_
  intro b' w13 B13 v13 u13 hf hb13 ho13 hB13 P13 N13 hc13
  rw [layOA24 hf, ho13, hc13]
  clear ho13 hc13 hf HL12
  generalize Rg.out (Rg.opsOf Tryd.f5 24) b' 0 = y24_0
  generalize Rg.out (Rg.opsOf Tryd.f5 24) b' 1 = y24_1
  generalize Rg.out (Rg.opsOf Tryd.f5 24) b' 2 = y24_2
  generalize Rg.out (Rg.opsOf Tryd.f5 24) b' 3 = y24_3
  generalize Rg.out (Rg.opsOf Tryd.f5 24) b' 4 = y24_4
  generalize Rg.out (Rg.opsOf Tryd.f5 24) b' 5 = y24_5
  generalize Rg.out (Rg.opsOf Tryd.f5 24) b' 6 = y24_6
  generalize Rg.out (Rg.opsOf Tryd.f5 24) b' 7 = y24_7
  generalize Rg.out (Rg.opsOf Tryd.f5 24) b' 9 = y24_9
  have K13 := hidden (K12.out.trans (hb13.mono K12.out.size))
  have PG13 := hidden (PG12.out.below hb13)
  have G13 := hidden (G12.out.below hb13)
  have H13 := hidden (H12.out.below hb13)
  have PH13 := hidden P13
  have V13 := hidden (zaa rfl N13.1).row
  have U13 := hidden (zaa rfl N13.2).row
  obtain ⟨d5, e5, d6, e6, rfl, rfl⟩ := N13.form
  clear hb13 K12 PG12 G12 H12 P13 N13
  go_frame
  obtain ⟨g0, g1⟩ := PH13.out.two
  obtain ⟨k0, k1⟩ := (PW.out.below K13.out).two
  go_wp2_with fail
  refine (zei _ _ _ _ L1 L2 _ V13.out U13.out (W1.out.below K13.out) (W2.out.below K13.out) hLo hLd).mono ?_
  rintro e w14 ⟨rfl, hb14⟩
  clear g0 g1 k0 k1
  have K14 := hidden (K13.out.trans (hb14.mono K13.out.size))
  have PG14 := hidden (PG13.out.below hb14)
  have G14 := hidden (G13.out.below hb14)
  have H14 := hidden (H13.out.below hb14)
  clear hb14 K13 PG13 G13 H13 V13 U13 PH13
  obtain ⟨g0, g1⟩ := PG14.out.two
  go_wp2_with fail
  refine (zgb _ _ L1.length L2.length 1 _ G14.out.row H14.out.row hLo hLd (by omega) (by omega)).mono ?_
  rintro e w15 ⟨rfl, hb15⟩
  go_wp2_with fail
  go_ret
  exact ⟨rfl, hAB ▸ onto HB3.out (K14.out.trans (hb15.mono K14.out.size))⟩
end Go.Proofs.YtmcekefoedgboaaDoor
