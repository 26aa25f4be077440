/-
  Merged: Rm29.
-/
import Derived.Test.YtgcpiinmcbdkmaaMw36
import Derived.Test.YtgcpiinmcbdkmaaMw37
namespace Go.Proofs.Ytgcpiinmcbdkmaa
open Go.RowKit Va Ms
set_option linter.all false
theorem srd_any (s : ByteArray) (hs : s.size ≤ 1048576) (w : World) : Calls Try.prog 30 #[.string s] w fun e w' => ∃ mv c a, e = .returned (.tuple #[.agg #[mv], .agg #[.int .i64 (c : Nat), .int .i64 (a : Nat)]]) ∧ RdOut w.heap.size w' (readO s) mv c a ∧ Below w.heap.size w w' := by
  by_cases h : 20000 < s.size ∨ s.size = 0 ∨ nb s (s.size - 1) ≠ 13
  · exact sbig_any s hs h w
  · exact sloop_any s (by omega) ⟨by omega, by omega⟩ w
def outL : Ms.Out → List Pt
  | .bad _ _ => []
  | .ok l => l
def outC : Ms.Out → Nat
  | .bad c _ => c
  | .ok _ => 0
def outA : Ms.Out → Nat
  | .bad _ a => a
  | .ok _ => 0
theorem RdOut.own {B : Nat} {w : World} {o : Ms.Out} {mv : Value} {c a : Nat} (h : RdOut B w o mv c a) : c = outC o ∧ a = outA o ∧ ∃ L, L.map Prod.fst = outL o ∧ OwnP w B mv L := by
  cases o with
  | bad c' a' =>
    obtain ⟨h1, h2, rfl⟩ := h
    exact ⟨h1, h2, [], rfl, own_nil _ _ _ _, (fun p hp => by cases hp), List.Pairwise.nil⟩
  | ok l =>
    obtain ⟨h1, h2, h3⟩ := h
    exact ⟨h1, h2, h3⟩
theorem out_lens {s : ByteArray} : (outL (readO s)).length ≤ 20 ∧ ∀ x ∈ outL (readO s), x.fs.length ≤ 30 := by
  cases h : readO s with
  | bad c a => exact ⟨Nat.zero_le _, fun x hx => by cases hx⟩
  | ok l => exact read_lens h
theorem tot_le {L : List (Pt × Value)} (h : ∀ x ∈ L.map Prod.fst, x.fs.length ≤ 30) : tot L ≤ 31 * L.length := by
  induction L with
  | nil => exact Nat.le_refl _
  | cons p L ih =>
    have h1 := h p.1 (by simp)
    have h2 := ih (fun x hx => h x (by simp only [List.map_cons, List.mem_cons]; exact Or.inr hx))
    simp only [List.length_cons, tot]
    omega
set_option maxRecDepth 20000 in
set_option maxHeartbeats 16000000 in
theorem rmwalk (s : ByteArray) (w : World) : Calls Try.prog 6 #[.string s] w fun e w' => e = .returned (.bool true) ∧ Below w.heap.size w w' := by
  by_cases hs : 1048576 < s.size
  · have hsi : (1048576 : Int) < (s.size : Int) := by omega
    go_enter Try.func6, Try.ntmps6
    go_wp2_with fail
    go_ret
    exact ⟨rfl, by repeat (first | exact Below.refl _ _ | assumption | refine st_drew ?_ | refine st_drewN ?_ _ | refine Below.setCell ?_ (by first | omega | (simp; done) | (simp; omega)) _ | refine Below.alloc ?_ (by first | omega | (simp; done) | (simp; omega)) _)⟩
  · have hsi : ¬ (1048576 : Int) < (s.size : Int) := by omega
    have kS := fun W => srd_any s (by omega) W
    have kI := fun W => iread_any s (by omega) W
    obtain ⟨hl1, hl2⟩ := @out_lens s
    generalize readO s = o at *
    go_enter Try.func6, Try.ntmps6
    go_upto_region 4 with (go_at_call 30; refine (kS _).mono ?_; rintro e w1 ⟨mS, c1, a1, rfl, hr1, hb1⟩; obtain ⟨rfl, rfl, LS, hLS, hoS⟩ := hr1.own; clear hr1 kS; obtain ⟨sa, sc, rfl⟩ := ownW_slice hoS.parts)
    have HoS := hidden (hoS.kept (w' := (w1.alloc (.cells #[.slice sa LS.length sc] 56)).alloc (.cells #[.int .i64 (outC o : Nat), .int .i64 (outA o : Nat)] 58)) (by repeat (first | exact Below.refl _ _ | assumption | refine st_drew ?_ | refine st_drewN ?_ _ | refine Below.setCell ?_ (by first | omega | (simp; done) | (simp; omega)) _ | refine Below.alloc ?_ (by first | omega | (simp; done) | (simp; omega)) _)))
    have PA := hidden ((PB.new w1 #[.slice sa LS.length sc] 56).alloc (.cells #[.int .i64 (outC o : Nat), .int .i64 (outA o : Nat)] 58))
    have PF := hidden (PB.new (w1.alloc (.cells #[.slice sa LS.length sc] 56)) #[.int .i64 (outC o : Nat), .int .i64 (outA o : Nat)] 58)
    rw [World.size_alloc] at PF
    have K1 := hidden (onto hb1 (show Below w1.heap.size w1 ((w1.alloc (.cells #[.slice sa LS.length sc] 56)).alloc (.cells #[.int .i64 (outC o : Nat), .int .i64 (outA o : Nat)] 58)) from by repeat (first | exact Below.refl _ _ | assumption | refine st_drew ?_ | refine st_drewN ?_ _ | refine Below.setCell ?_ (by first | omega | (simp; done) | (simp; omega)) _ | refine Below.alloc ?_ (by first | omega | (simp; done) | (simp; omega)) _)))
    have HLS := hidden hLS
    clear hb1 hoS hLS
    generalize (w1.alloc (.cells #[.slice sa LS.length sc] 56)).alloc (.cells #[.int .i64 (outC o : Nat), .int .i64 (outA o : Nat)] 58) = W1 at *
    generalize w1.heap.size = S0 at *
    have hS0 : S0 + 1 < W1.heap.size := PF.out.lt
    go_upto_region 5 with (go_at_call 31; refine (kI _).mono ?_; rintro e w2 ⟨mI, c2, a2, rfl, hr2, hb2⟩; obtain ⟨rfl, rfl, LI, hLI, hoI⟩ := hr2.own; clear hr2; obtain ⟨ia, ic, rfl⟩ := ownW_slice hoI.parts)
    have HoI := hidden (hoI.kept (w' := (w2.alloc (.cells #[.slice ia LI.length ic] 56)).alloc (.cells #[.int .i64 (outC o : Nat), .int .i64 (outA o : Nat)] 58)) (by repeat (first | exact Below.refl _ _ | assumption | refine st_drew ?_ | refine st_drewN ?_ _ | refine Below.setCell ?_ (by first | omega | (simp; done) | (simp; omega)) _ | refine Below.alloc ?_ (by first | omega | (simp; done) | (simp; omega)) _)))
    have IA := hidden ((PB.new w2 #[.slice ia LI.length ic] 56).alloc (.cells #[.int .i64 (outC o : Nat), .int .i64 (outA o : Nat)] 58))
    have IF := hidden (PB.new (w2.alloc (.cells #[.slice ia LI.length ic] 56)) #[.int .i64 (outC o : Nat), .int .i64 (outA o : Nat)] 58)
    rw [World.size_alloc] at IF
    have KB2 := hidden (onto hb2 (show Below w2.heap.size w2 ((w2.alloc (.cells #[.slice ia LI.length ic] 56)).alloc (.cells #[.int .i64 (outC o : Nat), .int .i64 (outA o : Nat)] 58)) from by repeat (first | exact Below.refl _ _ | assumption | refine st_drew ?_ | refine st_drewN ?_ _ | refine Below.setCell ?_ (by first | omega | (simp; done) | (simp; omega)) _ | refine Below.alloc ?_ (by first | omega | (simp; done) | (simp; omega)) _)))
    have HTp := hidden (fun j (h : (Value.slice ia LI.length ic).ownBlock = some j) => (ownW_lt hoI.parts j h).2)
    have HTe := hidden (fun p (hp : p ∈ LI) j (h : p.2.ownBlock = some j) => (ownW_lt (hoI.each p hp) j h).2)
    have HLI := hidden hLI
    have hI1 : W1.heap.size ≤ w2.heap.size := hb2.size
    have htl : tot LI ≤ 31 * LI.length := tot_le (by rw [hLI]; exact hl2)
    have hll : LI.length ≤ 20 := by rw [← List.length_map (f := Prod.fst), hLI]; exact hl1
    clear hb2 hoI hLI
    generalize (w2.alloc (.cells #[.slice ia LI.length ic] 56)).alloc (.cells #[.int .i64 (outC o : Nat), .int .i64 (outA o : Nat)] 58) = W2 at *
    generalize w2.heap.size = I0 at *
    have HL2 := hidden hl2
    clear hl2
    have hI0 : I0 + 1 < W2.heap.size := IF.out.lt
    have PA2 := hidden (PA.out.below KB2.out)
    have PF2 := hidden (PF.out.below KB2.out)
    have HoS2 := hidden (HoS.out.kept KB2.out)
    have kE := fun W (hW : Below W2.heap.size W2 W) => eqmess_any ia LI.length ic sa LS.length sc (outL o) W (HLI.out ▸ (HoI.out.kept hW).prw) (HLS.out ▸ (HoS2.out.kept hW).prw) (by omega) (fun x hx => Nat.le_trans (HL2.out x hx) (by omega))
    have kF := fun W => eqmf_any (outC o) (outA o) W
    have ia0 := IA.out.cell 0
    have pa0 := PA2.out.cell 0
    go_upto_region 7 with (first | (go_at_call 32; (with_reducible refine (kE _ (by repeat (first | exact Below.refl _ _ | assumption | refine st_drew ?_ | refine st_drewN ?_ _ | refine Below.setCell ?_ (by first | omega | (simp; done) | (simp; omega)) _ | refine Below.alloc ?_ (by first | omega | (simp; done) | (simp; omega)) _))).mono ?_); rintro e w3 ⟨rfl, hb3⟩; obtain ⟨x0, x1⟩ := (IF.out.below hb3).two; obtain ⟨y0, y1⟩ := (PF2.out.below hb3).two) | (go_at_call 33; refine (kF _).mono ?_; rintro e w4 ⟨rfl, hb4⟩; have KB4 := hidden (onto KB2.out (onto hb3 hb4)); have IA4 := hidden (IA.out.below (onto hb3 hb4)); have HoI4 := hidden (HoI.out.kept (onto hb3 hb4)); have hs4 : W2.heap.size ≤ w4.heap.size := (onto hb3 hb4).size; clear hb3 hb4 x0 x1 y0 y1))
    clear kE ia0 pa0 PA2 PF2 HoS2 HoI IA IF KB2
    have km := mmess_any ia LI.length ic LI 1 W1.heap.size I0 w4 HoI4.out HTp.out HTe.out rfl (by omega) (by omega)
    have kh := fun W (h : OwnP W W1.heap.size (.slice ia LI.length ic) (mkL LI 1)) => hmess_any ia LI.length ic LI 1 W1.heap.size W h rfl (by omega) (by omega)
    rw [show ((1 : Nat) : Int) = 1 from rfl] at km kh
    have hN0 : ¬ (((1 + tot LI : Nat) : Int)) < 0 := by omega
    generalize 1 + tot LI = N at *
    have ia0 := IA4.out.cell 0
    go_upto_region 15 with (first | (go_at_call 34; refine km.mono ?_; rintro e w5 ⟨rfl, ho5, hm5⟩; have HO5 := hidden ho5; have KB5 := hidden (KB4.out.trans (hm5.bel (by omega))); have IA5 := hidden (hm5.pb IA4.out (Or.inr (Nat.le_refl _))); have ia5 := IA5.out.cell 0; clear ho5 hm5 km) | (go_at_call 35; refine (kh _ HO5.out).mono ?_; rintro e w6 ⟨rfl, hb6⟩))
    have KB6 := hidden (KB5.out.trans (hb6.mono KB5.out.size))
    have KC6 := hidden hb6
    clear hb6 ia0 ia5
    go_upto_region 16 with (go_at_call 31; refine (kI _).mono ?_; rintro e w7 ⟨mH, c3, a3, rfl, hr3, hb7⟩; obtain ⟨rfl, rfl, LH, hLH, hoH⟩ := hr3.own; clear hr3 kI; obtain ⟨ja, jc, rfl⟩ := ownW_slice hoH.parts)
    have HoH := hidden (hoH.kept (w' := (w7.alloc (.cells #[.slice ja LH.length jc] 56)).alloc (.cells #[.int .i64 (outC o : Nat), .int .i64 (outA o : Nat)] 58)) (by repeat (first | exact Below.refl _ _ | assumption | refine st_drew ?_ | refine st_drewN ?_ _ | refine Below.setCell ?_ (by first | omega | (simp; done) | (simp; omega)) _ | refine Below.alloc ?_ (by first | omega | (simp; done) | (simp; omega)) _)))
    have HA := hidden ((PB.new w7 #[.slice ja LH.length jc] 56).alloc (.cells #[.int .i64 (outC o : Nat), .int .i64 (outA o : Nat)] 58))
    have HF := hidden (PB.new (w7.alloc (.cells #[.slice ja LH.length jc] 56)) #[.int .i64 (outC o : Nat), .int .i64 (outA o : Nat)] 58)
    rw [World.size_alloc] at HF
    have KD := hidden (onto hb7 (show Below w7.heap.size w7 ((w7.alloc (.cells #[.slice ja LH.length jc] 56)).alloc (.cells #[.int .i64 (outC o : Nat), .int .i64 (outA o : Nat)] 58)) from by repeat (first | exact Below.refl _ _ | assumption | refine st_drew ?_ | refine st_drewN ?_ _ | refine Below.setCell ?_ (by first | omega | (simp; done) | (simp; omega)) _ | refine Below.alloc ?_ (by first | omega | (simp; done) | (simp; omega)) _)))
    have HLH := hidden hLH
    clear hb7 hoH hLH
    generalize (w7.alloc (.cells #[.slice ja LH.length jc] 56)).alloc (.cells #[.int .i64 (outC o : Nat), .int .i64 (outA o : Nat)] 58) = W7 at *
    generalize w7.heap.size = H0 at *
    have KC7 := hidden (onto KC6.out KD.out)
    have KB7 := hidden (KB6.out.trans (KD.out.mono KB6.out.size))
    have PA7 := hidden (PA.out.below KB7.out)
    have PF7 := hidden (PF.out.below KB7.out)
    have HoS7 := hidden (HoS.out.kept KB7.out)
    have kE := fun W (hW : Below W7.heap.size W7 W) => eqmess_any ja LH.length jc sa LS.length sc (outL o) W (HLH.out ▸ (HoH.out.kept hW).prw) (HLS.out ▸ (HoS7.out.kept hW).prw) (by omega) (fun x hx => Nat.le_trans (HL2.out x hx) (by omega))
    have ja0 := HA.out.cell 0
    have pa0 := PA7.out.cell 0
    clear KC6 KB6 KD
    go_upto_region 18 with (first | (go_at_call 32; (with_reducible refine (kE _ (by repeat (first | exact Below.refl _ _ | assumption | refine st_drew ?_ | refine st_drewN ?_ _ | refine Below.setCell ?_ (by first | omega | (simp; done) | (simp; omega)) _ | refine Below.alloc ?_ (by first | omega | (simp; done) | (simp; omega)) _))).mono ?_); rintro e w8 ⟨rfl, hb8⟩; obtain ⟨x0, x1⟩ := (HF.out.below hb8).two; obtain ⟨y0, y1⟩ := (PF7.out.below hb8).two) | (go_at_call 33; refine (kF _).mono ?_; rintro e w9 ⟨rfl, hb9⟩; have KC9 := hidden (onto KC7.out (onto hb8 hb9)); have KB9 := hidden (KB7.out.trans ((onto hb8 hb9).mono KB7.out.size)); clear hb8 hb9 x0 x1 y0 y1))
    clear kE ja0 pa0 PA7 PF7 HoS7 HoH HA HF KC7 KB7
    have ia9 := (IA5.out.below KC9.out).cell 0
    have HO9 := hidden (HO5.out.kept KC9.out)
    go_wp2_with (go_at_call 35; refine (kh _ HO9.out).mono ?_; rintro e w10 ⟨rfl, hb10⟩; have K10 := hidden (KB9.out.trans (hb10.mono KB9.out.size)); clear hb10)
    go_ret
    exact ⟨rfl, onto K1.out K10.out⟩
end Go.Proofs.Ytgcpiinmcbdkmaa
