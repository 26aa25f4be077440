/-
  Merged: Rm27.
-/
import Derived.Test.YtgcpiinmcbdkmaaMw32
import Derived.Test.YtgcpiinmcbdkmaaMw34
namespace Go.Proofs.Ytgcpiinmcbdkmaa
open Go.RowKit Va Ms
set_option linter.all false
theorem size_setM (w : World) (a : Addr) (v : Value) : (w.setCell a v).heap.size = w.heap.size := by simp [World.setCell]
def St (s : ByteArray) (p i k : Nat) (fs : List ByteArray) (fd : List Nat) : Prop := (k = i + 1 ∧ fs = fieldsOf s p ∧ badEsc s i = none) ∨ (p + 3 < i ∧ k ≤ i ∧ badEsc s k = none ∧ fieldsOf s p = fin s k fs fd)
section
variable {s : ByteArray} {p i k : Nat} {fs : List ByteArray} {fd : List Nat}
theorem st_start (hg : goodName s p) (hn : No13 s p i) (h13 : nb s i = 13) (hp3 : p + 3 ≤ i) (hE : badEsc s p = none) : St s p i (p + 4) [] [] := by
  have hE3 := (be_name hg).symm.trans hE
  rcases Nat.lt_or_ge (p + 3) i with q | q
  · have hne := hn (p + 3) (by omega) q
    have h124 : nb s (p + 3) = 124 := hg.2.2.resolve_right hne
    exact Or.inr ⟨q, q, be_plainN hE3 hg.1 (by omega), fieldsOf_some hne⟩
  · obtain rfl : i = p + 3 := by omega
    exact Or.inl ⟨rfl, (fieldsOf_none h13).symm, hE3⟩
theorem St.exit (h : St s p i k fs fd) (hk : ¬ k ≤ i) : fs = fieldsOf s p ∧ badEsc s i = none := by
  rcases h with ⟨-, h1, h2⟩ | ⟨-, h1, -⟩
  · exact ⟨h1, h2⟩
  · exact absurd h1 hk
theorem St.go (h : St s p i k fs fd) (hk : k ≤ i) : p + 3 < i ∧ badEsc s k = none ∧ fieldsOf s p = fin s k fs fd := by
  rcases h with ⟨h0, -⟩ | ⟨h1, -, h2, h3⟩
  · omega
  · exact ⟨h1, h2, h3⟩
theorem St.last (h : St s p i i fs fd) (hi : i < s.size) (h13 : nb s i = 13) : St s p i (i + 1) (fs ++ [bsOf fd]) [] := by
  obtain ⟨h1, h2, h3⟩ := h.go (Nat.le_refl i)
  exact Or.inl ⟨rfl, by rw [h3, fin_end hi h13], h2⟩
theorem St.bar (h : St s p i k fs fd) (hk : k < i) (hi : i < s.size) (hb : nb s k = 124) : St s p i (k + 1) (fs ++ [bsOf fd]) [] := by
  obtain ⟨h1, h2, h3⟩ := h.go (by omega)
  exact Or.inr ⟨h1, by omega, be_plainN h2 (by omega) (by omega), by rw [h3, fin_bar (by omega) hb]⟩
theorem St.byte (h : St s p i k fs fd) (hk : k < i) (hi : i < s.size) (h1 : nb s k ≠ 13) (h2 : nb s k ≠ 124) (h3 : nb s k ≠ 92) : St s p i (k + 1) fs (fd ++ [nb s k]) := by
  obtain ⟨g1, g2, g3⟩ := h.go (by omega)
  exact Or.inr ⟨g1, by omega, be_plainN g2 (by omega) h3, by rw [g3, fin_byte (by omega) h1 h2 h3]⟩
theorem St.esc (h : St s p i k fs fd) (hk : k < i) (hi : i < s.size) (h13 : nb s i = 13) (hb : nb s k = 92) : ∃ x z, rdP s k = (x, z) ∧ x < 256 ∧ 3 ≤ z ∧ k + z ≤ i ∧ St s p i (k + z) fs (fd ++ [x]) := by
  obtain ⟨g1, g2, g3⟩ := h.go (by omega)
  obtain ⟨x, hx, hr, h2⟩ := be_escN g2 (by omega) hb
  have hz := esc_len x hx.1 hx.2.1
  have hz3 : 3 ≤ (escL x).length := by omega
  have hki : k + (escL x).length ≤ i := by
    rcases Nat.lt_or_ge i (k + (escL x).length) with q | q
    · have := (esc_far hx (i - k) (by omega)).2
      rw [show k + (i - k) = i by omega] at this
      exact absurd h13 this
    · exact q
  exact ⟨x, _, by rw [rdP, hr], hx.1, hz3, hki, Or.inr ⟨g1, hki, h2, by rw [g3, fin_esc hx]⟩⟩
end
theorem build_lens {s : ByteArray} : ∀ (n p : Nat) (acc l : List Pt), s.size - p = n → build s p acc = .ok l → (∀ x ∈ acc, x.fs.length ≤ 30) → ∀ x ∈ l, x.fs.length ≤ 30 := by
  intro n
  induction n using Nat.strongRecOn with
  | _ n ih =>
    intro p acc l hn h ha
    rw [build] at h
    split at h
    · rename_i hp
      split at h
      · rename_i hf
        have hge := nx_ge s p
        refine ih _ (by omega) (nx s p + 1) _ l rfl h (fun x hx => ?_)
        rcases List.mem_append.1 hx with q | q
        · exact ha x q
        · obtain rfl := List.mem_singleton.1 q
          show (fieldsOf s p).length ≤ 30
          rcases Nat.lt_or_ge 30 (fieldsOf s p).length with r | r
          · rw [fields_many r] at hf; cases hf
          · exact r
      · cases h
    · cases h; exact ha
theorem read_lens {s : ByteArray} {l : List Pt} (h : readO s = .ok l) : l.length ≤ 20 ∧ ∀ x ∈ l, x.fs.length ≤ 30 := by
  unfold readO at h
  split at h
  · cases h
  · split at h
    · cases h
    · split at h
      · cases h
      · split at h
        · cases h
        · split at h
          · cases h
          · split at h
            · cases h
            · rename_i l' hb
              split at h
              · cases h
              · rename_i hl
                cases h
                exact ⟨by omega, build_lens _ 0 [] _ rfl hb (fun x hx => by cases hx)⟩
theorem Sm.own {w W : World} {A B M F : Nat} {pv : Value} {L : List (Pt × Value)} (h : Sm w W A B M pv L F) : OwnP W w.heap.size pv L := by
  have h1 := h.two.ha
  have h2 := h.hA
  exact ⟨ownW_base h.parts (by omega), fun p hp => ownW_base (h.each p hp).1 (by omega), List.pairwise_map.2 h.dist⟩
theorem ok_end {s : ByteArray} {w W : World} {A B : Nat} {pv : Value} {L : List (Pt × Value)} (h : Two0 w W A B) (ho : OwnP W w.heap.size pv L) (hR : readO s = .ok (L.map Prod.fst)) {ts : Array Value} (h2 : ts.getD 2 undef = .pointer (some ⟨A, 0, none⟩)) (h3 : ts.getD 3 undef = .pointer (some ⟨B, 0, none⟩)) :
    bodyPost Try.prog Try.f30 (fun e w' => ∃ mv c a, e = .returned (.tuple #[.agg #[mv], .agg #[.int .i64 (c : Nat), .int .i64 (a : Nat)]]) ∧ RdOut w.heap.size w' (readO s) mv c a ∧ Below w.heap.size w w') .ret ⟨ts, []⟩ (((W.setCell ⟨A, 0, none⟩ pv).setCell ⟨B, 0, none⟩ (.int .i64 0)).setCell ⟨B, 1, none⟩ (.int .i64 0)) := by
  have hAf := ((h.pa.put 0 pv (vs' := #[pv]) rfl).far h.ne.symm 0 (.int .i64 0)).far h.ne.symm 1 (.int .i64 0)
  have hBf := ((h.pf.far h.ne 0 pv).put 0 (.int .i64 0) (vs' := #[.int .i64 0, .int .i64 0]) rfl).put 1 (.int .i64 0) (vs' := #[.int .i64 0, .int .i64 0]) rfl
  have far : ∀ {bs t z n xs} {v : Value}, t ≠ 56 → t ≠ 58 → W.ownsRow bs t z v n xs → World.ownsRow (((W.setCell ⟨A, 0, none⟩ pv).setCell ⟨B, 0, none⟩ (.int .i64 0)).setCell ⟨B, 1, none⟩ (.int .i64 0)) bs t z v n xs := fun h1 h2 q =>
    ownB_far (ownB_far (ownB_far q (ownU_ty q h.pa h1.symm) 0 _) (ownU_ty q h.pf h2.symm) 0 _) (ownU_ty q h.pf h2.symm) 1 _
  refine bodyPost_ret (results_cc Try.results30 _ _ A B 56 58 _ _ _ _ h2 hAf Try.underlying56 rfl (by kernel_rfl) h3 hBf Try.underlying58 rfl (by kernel_rfl)) rfl ⟨_, 0, 0, rfl, ?_, ?_⟩
  · rw [hR]; exact ⟨rfl, rfl, L, rfl, far (by decide) (by decide) ho.parts, fun p hp => far (by decide) (by decide) (ho.each p hp), ho.dist⟩
  · exact ((h.bel.setCell (p := ⟨A, 0, none⟩) h.ha _).setCell (p := ⟨B, 0, none⟩) h.hb _).setCell (p := ⟨B, 1, none⟩) h.hb _
end Go.Proofs.Ytgcpiinmcbdkmaa
