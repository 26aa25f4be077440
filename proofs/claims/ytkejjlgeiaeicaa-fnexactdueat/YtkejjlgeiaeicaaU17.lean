/-
  Charts marked: the law's own.
-/
import Derived.Test.YtkejjlgeiaeicaaUe
import Derived.Test.YtkejjlgeiaeicaaUqm
import Derived.Test.YtkejjlgeiaeicaaGy
namespace Go.Proofs.Ytkejjlgeiaeicaa
open Go.RowKit Va Uo
set_option linter.all false

theorem vmark_pb {α : Type} {s : Nat} {cs : α → Nat → Value} {wx w w' : World} {base B : Nat} {v : Value} {l : List α} {vs : Array Value} {t : TypeId} (h : VOwn s cs wx base v l) (hx : wx.heap.size ≤ B) (ha : Aside w w' v) (hz : l.length = 0 → w' = w) (h2 : PB w B vs t) : PB w' B vs t := by
  rcases Nat.eq_zero_or_pos l.length with q | q
  · rw [hz q]; exact h2
  · obtain ⟨ao, cap, rfl, _, hh⟩ := h
    obtain ⟨G, rfl, hG, ho⟩ := hh.resolve_left (by omega)
    refine (ha.block B ?_).trans h2
    intro e
    have e2 : G = B := Option.some.inj e
    have := ho.1
    omega
/-- An elder row stays while a younger one is marked. -/
theorem VOwn.mark_old {α β γ : Type} {s s2 : Nat} {cs : α → Nat → Value} {cs2 : β → Nat → Value} {cs4 : γ → Nat → Value} {wx w0 w w' : World} {b2 b3 : Nat} {v2 v3 : Value} {l2 : List α} {l3 : List β} {l4 : List γ} (h : VOwn s cs wx b2 v2 l2) (hx : wx.heap.size ≤ b3) (hl : l4.length = l2.length) (h2 : VOwn s cs4 w b2 v2 l4) (h3 : VOwn s2 cs2 w0 b3 v3 l3) (ha : Aside w w' v3) (hz : l3.length = 0 → w' = w) : VOwn s cs4 w' b2 v2 l4 := by
  rcases Nat.eq_zero_or_pos l3.length with q | q
  · rw [hz q]; exact h2
  · obtain ⟨ao2, cap2, rfl, hc2, hh2⟩ := h2
    rcases Nat.eq_zero_or_pos l4.length with q4 | q4
    · exact ⟨_, _, rfl, hc2, Or.inl q4⟩
    · obtain ⟨G2, rfl, hG2, ho2⟩ := hh2.resolve_left (by omega)
      refine ⟨_, _, rfl, hc2, Or.inr ⟨G2, rfl, hG2, ho2.aside ha ?_⟩⟩
      obtain ⟨ao3, cap3, rfl, _, hh3⟩ := h3
      obtain ⟨G3, rfl, hG3, ho3⟩ := hh3.resolve_left (by omega)
      obtain ⟨ao, cap, he, hc, hh⟩ := h
      obtain ⟨G, rfl, hGb, hGo⟩ := hh.resolve_left (by omega)
      simp only [Value.slice.injEq, Option.some.injEq, Addr.mk.injEq, and_true, true_and] at he
      intro e
      have e2 : G3 = G2 := Option.some.inj e
      have := hGo.1
      omega
/-- What the marks of a chart leave. -/
structure Mkd (w w' : World) (v2 v3 : Value) (os : List Od) (ds : List Ds) (b2 b3 : Nat) (k0 : Int) : Prop where
  ords : VOwn 9 cmod w' b2 v2 (marks 9 k0 os.length)
  doss : VOwn 5 cmds w' b3 v3 (marks 5 (k0 + 9 * (os.length : Int)) ds.length)
  below : ∀ b0 w0, Below b0 w0 w → b0 ≤ w.heap.size → b0 ≤ b2 → b0 ≤ b3 → Below b0 w0 w'
  young : ∀ (γ : Type) (s : Nat) (cs : γ → Nat → Value) (b : Nat) (v : Value) (l : List γ), VOwn s cs w b v l → (∃ wx, VOwn 9 cvOd wx b2 v2 os ∧ wx.heap.size ≤ b) → (∃ wx, VOwn 5 cvDs wx b3 v3 ds ∧ wx.heap.size ≤ b) → VOwn s cs w' b v l
  box : ∀ (B : Nat) (vs : Array Value) (t : TypeId), PB w B vs t → (∃ wx, VOwn 9 cvOd wx b2 v2 os ∧ wx.heap.size ≤ B) → (∃ wx, VOwn 5 cvDs wx b3 v3 ds ∧ wx.heap.size ≤ B) → PB w' B vs t

set_option maxRecDepth 20000 in
set_option maxHeartbeats 4000000 in
theorem markchart_any (v2 v3 : Value) (os : List Od) (ds : List Ds) (b2 b3 : Nat) (k0 : Int) (w : World) (h2 : VOwn 9 cvOd w b2 v2 os) (h3 : VOwn 5 cvDs w b3 v3 ds) (hap : ∃ wx, VOwn 9 cvOd wx b2 v2 os ∧ wx.heap.size ≤ b3) (hn : os.length ≤ 1048576) (hm : ds.length ≤ 1048576) (hk0 : 0 ≤ k0) (hk1 : k0 ≤ 100000000) :
    Calls Try.prog 18 #[.agg #[v2, v3], .int .i64 k0] w fun e w' => e = .returned (.int .i64 (k0 + 9 * (os.length : Int) + 5 * (ds.length : Int))) ∧ Mkd w w' v2 v3 os ds b2 b3 k0 := by
  have bA : Below w.heap.size w (w.alloc (.cells #[v2, v3] 40)) := (Below.refl _ _).alloc (Nat.le_refl _) _
  have HP := hidden (PB.new w #[v2, v3] 40)
  have H2w := hidden h2
  have H3w := hidden h3
  have H2 := hidden (h2.below bA)
  have H3 := hidden (h3.below bA)
  have HB := hidden bA
  have HAp := hidden hap
  obtain ⟨a2, c2, hv2⟩ := h2.row.form
  obtain ⟨a3, c3, hv3⟩ := h3.row.form
  subst hv2
  subst hv3
  have hz := bA.size
  clear h2 h3 bA hap
  go_enter Try.func18, Try.ntmps18
  go_upto_region 1 with fail
  generalize w.alloc (.cells #[.slice a2 os.length c2, .slice a3 ds.length c3] 40) = wA at *
  obtain ⟨p0, p1⟩ := HP.out.two
  go_wp2_with fail
  refine (markod_any _ os b2 k0 _ H2.out hn hk0 (by omega)).mono ?_
  rintro e w1 ⟨rfl, hm1, ha1, hz1⟩
  have HP1 := hidden (vmark_pb H2w.out (Nat.le_refl _) ha1 hz1 HP.out)
  obtain ⟨wx, hwx, hwl⟩ := HAp.out
  have H31 := hidden (hwx.mark_own hwl ha1 hz1 H3.out)
  have HM1 := hidden hm1
  have HA1 := hidden ha1
  have HZ1 := hidden hz1
  clear hm1 ha1 hz1 hwx hwl p0 p1
  obtain ⟨p0, p1⟩ := HP1.out.two
  go_wp2_with fail
  refine (markds_any _ ds b3 (k0 + 9 * (os.length : Int)) _ H31.out hm (by omega) (by omega)).mono ?_
  rintro e w2 ⟨rfl, hm2, ha2, hz2⟩
  have HM2 := hidden hm2
  have HA2 := hidden ha2
  have HZ2 := hidden hz2
  clear hm2 ha2 hz2 p0 p1
  go_wp2_with fail
  go_ret
  refine ⟨rfl, ?_, HM2.out, ?_, ?_, ?_⟩
  · obtain ⟨wx, hwx, hwl⟩ := HAp.out
    exact VOwn.mark_old hwx hwl (by rw [marks_len]) HM1.out H31.out HA2.out HZ2.out
  · intro b0 w0 hb hb0 hb2 hb3
    have hb1 : Below b0 w0 wA := hb.trans (HB.out.mono hb0)
    exact H31.out.mark_below HA2.out HZ2.out (H2.out.mark_below HA1.out HZ1.out hb1 hb2) hb3
  · intro γ s cs b v l hv hx2 hx3
    obtain ⟨wx, hwx, hwl⟩ := hx2
    obtain ⟨wy, hwy, hyl⟩ := hx3
    exact hwy.mark_own hyl HA2.out HZ2.out (hwx.mark_own hwl HA1.out HZ1.out (hv.below HB.out))
  · intro B vs t hp hx2 hx3
    obtain ⟨wx, hwx, hwl⟩ := hx2
    obtain ⟨wy, hwy, hyl⟩ := hx3
    exact vmark_pb hwy hyl HA2.out HZ2.out (vmark_pb hwx hwl HA1.out HZ1.out (hp.below HB.out))
end Go.Proofs.Ytkejjlgeiaeicaa
