/-
  Merged: Rm16.
-/
import Derived.Test.YtgcpiinmcbdkmaaMw26
namespace Go.Proofs.Ytgcpiinmcbdkmaa
open Go.RowKit Va Ms
set_option linter.all false
set_option maxRecDepth 20000 in
set_option maxHeartbeats 16000000 in
theorem readP_any (s : ByteArray) (hs : s.size ≤ 20000) (hE : Ended s) (R : Nat) (w : World) (nm : ByteArray) (fv dv : Value) (h : PB w R (rdC s 0 0 nm fv dv (.slice none 0 0) 0 0) 110) :
    Calls Try.prog 70 #[.pointer (some ⟨R, 0, none⟩)] w fun e w' => e = .returned (.tuple #[]) ∧ J0 s R w s.size w' := by
  have HJ : Hid (J0 s R w 0 w) := ⟨Nat.zero_le _, 0, nm, fv, dv, _, 0, 0, [], w.heap.size, ⟨h, Keep.refl R w, Nat.le_refl _, Nat.le_refl _, own_nil w _ _ _, (fun p hp => by cases hp), Nat.le_refl _, List.Pairwise.nil⟩, inv_start s⟩
  clear h
  go_enter Try.func70, Try.ntmps70

  refine wp_scope_many (JJ s R w) ?first ?pass
  case first =>
    refine wp_labelled (jumpsF_jumpsE (J := fun l a w' => ∃ n, JJ s R w l n a w') (K := fun a' w' => FrR R a' ∧ J0 s R w s.size w') (jumpsF_mono (pass0 s hs hE R w (fun a' w' => FrR R a' ∧ J0 s R w s.size w') (fun _ _ h1 h2 => ⟨h1, h2⟩) (3 * (s.size - 0)) _ _ ⟨⟨_, _, _, _, _, _, _, _, _, _, _, _, _, _, _, _, _, _, _, _, _, _, _, _, _, _, _, _, _, _, _, _, _, _, _, _, _, _, _, _, _, _, _, _, _, _, _, _, _, _, _, _, _, _, _, _, _, _, _, _, rfl⟩, 0, Or.inl ⟨rfl, rfl, HJ.out⟩⟩ _ rfl) (fun l a w' q => q.elim fun n1 q => ⟨n1, q.2⟩)) ?_)
    rintro a' w' ⟨⟨u1, u2, u3, u4, u5, u6, u7, u8, u9, u10, u11, u12, u13, u14, u15, u16, u17, u18, u19, u20, u21, u22, u23, u24, u25, u26, u27, u28, u29, u30, u31, u32, u33, u34, u35, u36, u37, u38, u39, u40, u41, u42, u43, u44, u45, u46, u47, u48, u49, u50, u51, u52, u53, u54, u55, u56, u57, u58, u59, u60, rfl⟩, h2⟩

    exact bodyPost_ret (results_none Try.results70 _ _ _) rfl ⟨rfl, h2⟩
  case pass =>
    intro l n a1 w1 hJ
    have hl : l = 0 ∨ l = 2 ∨ l = 1 ∨ l = 4 ∨ l = 3 := by
      obtain ⟨-, i, h⟩ := hJ
      rcases h with ⟨h, -⟩ | ⟨h, -⟩ | ⟨h, -⟩ | ⟨h, -⟩ | ⟨h, -⟩ <;> omega
    rcases hl with rfl | rfl | rfl | rfl | rfl
    · refine ⟨_, rfl, wp_skipped (jumpsF_jumpsE (K := fun a' w' => FrR R a' ∧ J0 s R w s.size w') (pass0 s hs hE R w (fun a' w' => FrR R a' ∧ J0 s R w s.size w') (fun _ _ h1 h2 => ⟨h1, h2⟩) n _ _ hJ _ rfl) ?_)⟩
      rintro a' w' ⟨⟨u1, u2, u3, u4, u5, u6, u7, u8, u9, u10, u11, u12, u13, u14, u15, u16, u17, u18, u19, u20, u21, u22, u23, u24, u25, u26, u27, u28, u29, u30, u31, u32, u33, u34, u35, u36, u37, u38, u39, u40, u41, u42, u43, u44, u45, u46, u47, u48, u49, u50, u51, u52, u53, u54, u55, u56, u57, u58, u59, u60, rfl⟩, h2⟩
      exact bodyPost_ret (results_none Try.results70 _ _ _) rfl ⟨rfl, h2⟩
    · exact ⟨_, rfl, wp_skipped (jumpsF_jumpsE (K := fun _ _ => False) (pass2 s hs hE R w (fun _ _ => False) n _ _ hJ _ rfl) (fun _ _ h => h.elim))⟩
    · exact ⟨_, rfl, wp_skipped (jumpsF_jumpsE (K := fun _ _ => False) (pass1 s hs hE R w (fun _ _ => False) n _ _ hJ _ rfl) (fun _ _ h => h.elim))⟩
    · exact ⟨_, rfl, wp_skipped (jumpsF_jumpsE (K := fun _ _ => False) (pass4 s hs hE R w (fun _ _ => False) n _ _ hJ _ rfl) (fun _ _ h => h.elim))⟩
    · exact ⟨_, rfl, wp_skipped (jumpsF_jumpsE (K := fun _ _ => False) (pass3 s hs hE R w (fun _ _ => False) n _ _ hJ _ rfl) (fun _ _ h => h.elim))⟩
end Go.Proofs.Ytgcpiinmcbdkmaa
