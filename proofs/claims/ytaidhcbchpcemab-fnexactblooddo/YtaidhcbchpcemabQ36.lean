/-
  The answer of a deed on a bank: kept, marked, held; deeds read; the law's own helpers.
-/
import Derived.Test.YtaidhcbchpcemabQ35
import Derived.Test.YtaidhcbchpcemabQ18
import Derived.Test.YtaidhcbchpcemabQ7
namespace Go.Proofs.Ytaidhcbchpcemab
open Go.RowKit Go.WideShapes Va Bl
set_option linter.all false

structure BDR (w : World) (lo hi : Nat) (R : List Ut) (ad : Option Addr) (c : Nat) (M : List (Ut × Value)) : Prop where
  fst : M.map Prod.fst = R
  own : w.ownsRow lo 30 6 (.slice ad R.length c) R.length (cellsU M)
  ant : Antis w lo M
  lt1 : ∀ k, (Value.slice ad R.length c).ownBlock = some k → k < hi
  lt2 : ∀ p ∈ M, ∀ k, p.2.ownBlock = some k → k < hi
theorem BDR.len {w : World} {lo hi c : Nat} {R : List Ut} {ad : Option Addr} {M : List (Ut × Value)} (h : BDR w lo hi R ad c M) : M.length = R.length := by rw [← h.fst, List.length_map]
theorem BDR.below {w w' : World} {lo hi c : Nat} {R : List Ut} {ad : Option Addr} {M : List (Ut × Value)} (h : BDR w lo hi R ad c M) (hb : Below w.heap.size w w') : BDR w' lo hi R ad c M := ⟨h.fst, ownW_below h.own hb, h.ant.below hb, h.lt1, h.lt2⟩
theorem BDR.kp {w w' : World} {lo hi c a b : Nat} {R : List Ut} {ad : Option Addr} {M : List (Ut × Value)} (h : BDR w lo hi R ad c M) (hk : Kp a b w w') (hd : b ≤ lo ∨ hi ≤ a) : BDR w' lo hi R ad c M := by
  refine ⟨h.fst, kp_own hk h.own (fun k hk2 => ?_), ⟨fun p hp => kp_own hk (h.ant.1 p hp) (fun k hk2 => ?_), h.ant.2⟩, h.lt1, h.lt2⟩
  · have := (ownW_lt h.own k hk2).1
    have := h.lt1 k hk2
    omega
  · have := (ownW_lt (h.ant.1 p hp) k hk2).1
    have := h.lt2 p hp k hk2
    omega
theorem BDR.base {w : World} {lo lo' hi c : Nat} {R : List Ut} {ad : Option Addr} {M : List (Ut × Value)} (h : BDR w lo hi R ad c M) (hl : lo' ≤ lo) : BDR w lo' hi R ad c M := ⟨h.fst, ownW_base h.own hl, h.ant.base hl, h.lt1, h.lt2⟩
theorem BDR.urw {w : World} {lo hi c : Nat} {R : List Ut} {ad : Option Addr} {M : List (Ut × Value)} (h : BDR w lo hi R ad c M) : URw w (.slice ad R.length c) R := by
  have := own_urw (L := M) (v := .slice ad R.length c) (base := lo) (w := w) (by rw [h.len]; exact h.own) h.ant.irw
  rw [h.fst] at this
  exact this
theorem BDR.mk' {w : World} {lo c : Nat} {R : List Ut} {ad : Option Addr} {M : List (Ut × Value)} (hf : M.map Prod.fst = R) (ho : w.ownsRow lo 30 6 (.slice ad M.length c) M.length (cellsU M)) (ha : Antis w lo M) : BDR w lo w.heap.size R ad c M := by
  have hl : M.length = R.length := by rw [← hf, List.length_map]
  rw [hl] at ho
  exact ⟨hf, ho, ha, fun k hk => (ownW_lt ho k hk).2, fun p hp k hk => (ha.lt p hp k hk).2⟩
theorem BDR.ants {w : World} {lo hi c : Nat} {R : List Ut} {ad : Option Addr} {M : List (Ut × Value)} (h : BDR w lo hi R ad c M) {B : Nat} (ht : ∀ x ∈ R, x.ant.length ≤ B) : ∀ p ∈ M, p.1.ant.length ≤ B := fun p hp => ht p.1 (by rw [← h.fst]; exact List.mem_map_of_mem hp)

set_option maxRecDepth 20000 in
set_option maxHeartbeats 2000000 in
theorem marku_none (ao : Option Addr) (cap : Nat) (k0 : Int) (w : World) :
    Calls Try.prog 21 #[.slice ao 0 cap, .int .i64 k0] w fun e w' => e = .returned (.int .i64 k0) ∧ w' = w := by
  go_enter Try.func21, Try.ntmps21
  go_wp2_with fail
  go_loopw [1, 5] (fun kv iv wr => wr = w ∧ kv = .int .i64 k0 ∧ iv = .int .i64 0) (fun _ _ _ => 0)
  case atStart => exact ⟨rfl, rfl, rfl⟩
  case round =>
    obtain ⟨rfl, rfl, rfl⟩ := hrel
    go_wp2_with fail
    go_ret
    exact ⟨rfl, rfl⟩

theorem markbd_any {lo hi c : Nat} {R : List Ut} {ad : Option Addr} {M : List (Ut × Value)} (w : World) (h : BDR w lo hi R ad c M) (hh : hi ≤ w.heap.size) (hl : lo ≤ w.heap.size) (hn : R.length ≤ 1048576) (ht : ∀ x ∈ R, x.ant.length ≤ 1048576) :
    Calls Try.prog 21 #[.slice ad R.length c, .int .i64 1] w fun e w' => e = .returned (.int .i64 (1 + tot R)) ∧ (∃ M', BDR w' lo hi (marked 1 R) ad c M') ∧ Kp lo w.heap.size w w' := by
  rcases Nat.eq_zero_or_pos R.length with hz | hz
  · have hR : R = [] := List.eq_nil_of_length_eq_zero hz
    subst hR
    refine (marku_none ad c 1 w).mono ?_
    rintro e w' ⟨rfl, rfl⟩
    exact ⟨rfl, ⟨M, h⟩, Kp.refl _ _ _⟩
  · obtain ⟨G, rfl⟩ : ∃ G, ad = some ⟨G, 0, none⟩ := by
      rcases h.own.2 with ⟨-, h2⟩ | ⟨g, cc, cur, h1, -⟩
      · omega
      · simp only [Value.slice.injEq, true_and] at h1; exact ⟨g, h1.1⟩
    have hML := h.len
    have k := markunitsX_any lo G c M 1 w (by rw [hML]; exact h.own) h.ant (by omega) (h.ants ht) (by omega) (by omega)
    rw [hML] at k
    refine k.mono ?_
    rintro e w' ⟨M', h1, h2, h3, rfl, h5, h6, h7⟩
    rw [h.fst] at h2 ⊢
    refine ⟨rfl, ⟨M', h2, ?_, h6, ?_, fun p hp k hk => ?_⟩, h7⟩
    · rw [marked_len]; exact h5
    · rw [marked_len]; exact h.lt1
    · have hm : p.2 ∈ M.map Prod.snd := by rw [← h3]; exact List.mem_map_of_mem hp
      obtain ⟨q, hq, he⟩ := List.mem_map.1 hm
      exact h.lt2 q hq k (by rw [he]; exact hk)
theorem heldbd_any {lo hi c : Nat} {R : List Ut} {ad : Option Addr} {M : List (Ut × Value)} (w : World) (h : BDR w lo hi (marked 1 R) ad c M) (hn : R.length ≤ 1048576) (ht : ∀ x ∈ R, x.ant.length ≤ 1048576) :
    Calls Try.prog 28 #[.slice ad R.length c, .int .i64 1] w fun e w' => e = .returned (.int .i64 (1 + tot R)) ∧ w' = w := by
  have := h.urw
  rw [marked_len] at this
  exact heldunits_any ad c R 1 w this hn ht (by omega) (by omega)

/-- The fields of a deed. -/
def DoFields (P : Program) (fs : Array Field) : Prop := ∀ k, k < 3 → ∃ f, fs[k]? = some f ∧ f.offset = k ∧ P.cellsOf f.type = 1 ∧ P.underlying f.type = some (.int .i64)
set_option maxRecDepth 100000 in
theorem fsDo : ∃ fs, Try.prog.underlying 49 = some (.struct fs) ∧ DoFields Try.prog fs := by
  refine ⟨_, Try.underlying49, fun k hk => ?_⟩
  match k, hk with
  | 0, _ => exact ⟨_, rfl, rfl, by kernel_rfl, Try.underlying2⟩
  | 1, _ => exact ⟨_, rfl, rfl, by kernel_rfl, Try.underlying2⟩
  | 2, _ => exact ⟨_, rfl, rfl, by kernel_rfl, Try.underlying2⟩
set_option maxRecDepth 100000 in
theorem do_of_read {H : Type} {enc : TypeId × Value → H} {W : World} {sp : Nat → Bool} {hd : Bool} {r : Reach} {b0 : Nat} {v : Value} {d : DataW H} {p : List MemPlace}
    (hv : Value.okWide Try.prog W r b0 49 v) (h : DataW.Trod enc Try.prog W 0 sp hd 49 v d p) : ∃ a : Da, v = aDo a := by
  obtain ⟨fs, hu, hF⟩ := fsDo
  obtain ⟨cs, rfl, hsz⟩ := okWide_struct hu hv
  obtain ⟨c0, c1, c2, rfl⟩ := array3Q (hsz.trans (by kernel_rfl))
  obtain ⟨fuel, hf⟩ := h
  obtain ⟨xs, k, hk, hxy, _, hxl, hff⟩ := DataW.trod_struct hu hf
  have hq : ∀ k, k < 3 → ∀ u, #[c0, c1, c2][k]? = some u → ∃ z : Int, u = .int .i64 z := fun k hk u hu => by
    obtain ⟨f, hf1, hf2, hf3, hf4⟩ := hF k hk
    have hg := hff k f hf1
    rw [hf2, hf3] at hg
    have hxk : k < xs.length := by rw [hxl]; exact (Array.getElem?_eq_some_iff.1 hf1).1
    rw [List.getElem?_eq_getElem hxk] at hg
    obtain ⟨z, hz, _⟩ := DataW.trod_int hf4 hg
    refine ⟨z, ?_⟩
    match k, hk with
    | 0, _ => simp [Value.cells] at hz hu; rw [← hu]; exact hz
    | 1, _ => simp [Value.cells] at hz hu; rw [← hu]; exact hz
    | 2, _ => simp [Value.cells] at hz hu; rw [← hu]; exact hz
  obtain ⟨z0, rfl⟩ := hq 0 (by omega) c0 rfl
  obtain ⟨z1, rfl⟩ := hq 1 (by omega) c1 rfl
  obtain ⟨z2, rfl⟩ := hq 2 (by omega) c2 rfl
  exact ⟨⟨z0, z1, z2⟩, rfl⟩

set_option maxRecDepth 20000 in
set_option maxHeartbeats 4000000 in
theorem todo_any (a : Da) (w : World) : Calls Try.prog 26 #[aDo a] w fun r w' => r = .returned (aDo a) ∧ Below w.heap.size w w' := by
  unfold aDo
  go_enter Try.func26, Try.ntmps26
  go_wp2
  exact bodyPost_ret (v := .agg #[.int .i64 a.k, .int .i64 a.id, .int .i64 a.t]) (by simp [results, Try.results26, go_sem]) rfl ⟨rfl, by repeat (first | exact Below.refl _ _ | assumption | refine st_drew ?_ | refine st_drewN ?_ _ | refine Below.setCell ?_ (by first | omega | (simp; done) | (simp; omega)) _ | refine Below.alloc ?_ (by first | omega | (simp; done) | (simp; omega)) _)⟩

set_option maxRecDepth 20000 in
set_option maxHeartbeats 2000000 in
theorem markneed_any (n : Nd) (T m c : Nat) (k0 : Int) (w : World) (hT : T < w.heap.size) (h : ∀ j, j < m → (∃ u, w.cell? ⟨T, j, none⟩ = some u) ∧ w.frozen? ⟨T, j, none⟩ = false) (hn : m ≤ 1048576) (hk0 : 0 ≤ k0) (hk1 : k0 ≤ 1000000000000000) :
    Calls Try.prog 22 #[aN n (.slice (some ⟨T, 0, none⟩) m c), .int .i64 k0] w fun e w' => e = .returned (.int .i64 (k0 + m)) ∧ ∃ w1, Below w.heap.size w w1 ∧ Kp T (T + 1) w1 w' := by
  have b0 : Below w.heap.size w (w.alloc (.cells #[.int .i64 n.p, .int .i64 n.g, .slice (some ⟨T, 0, none⟩) m c] 32)) := by repeat (first | exact Below.refl _ _ | assumption | refine st_drew ?_ | refine st_drewN ?_ _ | refine Below.setCell ?_ (by first | omega | (simp; done) | (simp; omega)) _ | refine Below.alloc ?_ (by first | omega | (simp; done) | (simp; omega)) _)
  have hK := markints_any T m c k0 (w.alloc (.cells #[.int .i64 n.p, .int .i64 n.g, .slice (some ⟨T, 0, none⟩) m c] 32)) (fun j hj => by
    obtain ⟨⟨u, hu⟩, hf⟩ := h j hj
    exact ⟨⟨u, ((bcell b0).1 _ _ hT).trans hu⟩, ((bcell b0).2 _ _ hT).trans hf⟩) hn hk0 hk1
  have HB := hidden b0
  clear h b0
  unfold aN
  go_enter Try.func22, Try.ntmps22
  go_wp2_with (go_at_call 23; refine hK.mono ?_; rintro e w4 ⟨rfl, kp4⟩)
  go_ret
  exact ⟨rfl, _, HB.out, kp4⟩

end Go.Proofs.Ytaidhcbchpcemab
