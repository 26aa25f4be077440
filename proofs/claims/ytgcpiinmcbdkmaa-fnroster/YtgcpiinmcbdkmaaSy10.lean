/-
  Merging two runs in place, of any length.
-/
import Derived.Test.YtgcpiinmcbdkmaaSy9
namespace Go.Proofs.Ytgcpiinmcbdkmaa
open Go.RowKit Go.WideShapes Va Lb Go.Maps Sy
set_option linter.all false

theorem sym_any (k : Int → Int) (D : Int → Prop) (V : Value) (G c n : Nat) (hl : n ≤ 1000) : ∀ N, SymC k D V G c n N
  | 0 => fun P A B S p m b w hN h hn hp hm hb hA1 hB1 hDA hDB hx hA hB hK => by omega
  | N + 1 => fun P A B S p m b w hN h hn hp hm hb hA1 hB1 hDA hDB hx hA hB hK => by
    by_cases q1 : A.length = 1
    · obtain ⟨x, rfl⟩ := List.length_eq_one_iff.1 q1
      refine (symlow_any k D V G c n p m b x P B S w (by simpa using h) (by simpa using hn) hl hp (by simpa using hm) hb (hDA x (by simp)) hDB (fun y hy => hx x (by simp) y hy) hB hK).mono ?_
      rintro e w' ⟨he, M, h1, h2, h3, h4⟩
      exact ⟨he, M, h1, by simpa using h2, h3, h4⟩
    · by_cases q2 : B.length = 1
      · obtain ⟨x, rfl⟩ := List.length_eq_one_iff.1 q2
        exact symhigh_any k D V G c n p m b x P A S w (by simpa using h) (by simpa using hn) hl hp hm (by omega) (by simpa using hb) (hDB x (by simp)) hDA (fun y hy => hx y hy x (by simp)) hA hK
      · exact symgen_any k D V G c n N hl (sym_any k D V G c n hl N) P A B S p m b w hN h hn hp hm hb (by omega) (by omega) hDA hDB hx hA hB hK
end Go.Proofs.Ytgcpiinmcbdkmaa
