/-
  Merged: U56 U57.
-/
import Derived.Test.YtmcekefoedgboaaDoorMg36
import Derived.Test.YtmcekefoedgboaaDoorMg37
import Derived.Great.BuildSlice
namespace Go.Proofs.YtmcekefoedgboaaDoor
open Go.RowKit Va Uo Go.WideShapes
set_option linter.all false
theorem below_setRow {b B : Nat} {w0 w : World} {cs : Array Value} (h : Below b w0 w) (hB : b ≤ B) (hw : b ≤ w.heap.size) : Below b w0 (w.setRow B cs) :=
  ⟨h.os, h.tape, h.output, by rw [setRow_size]; exact h.size, fun j hj => by rw [setRow_other _ _ _ _ (by omega)]; exact h.block j hj⟩
theorem PB.d0 {W : World} {B : Nat} {t : TypeId} {v0 v1 v2 v3 v4 v5 v6 v7 v8 v9 v10 v11 v12 v13 v14 v15 v16 : Value} (h : PB W B #[v0, v1, v2, v3, v4, v5, v6, v7, v8, v9, v10, v11, v12, v13, v14, v15, v16] t) (x : Value) : PB (W.setCell ⟨B, 0, none⟩ x) B #[x, v1, v2, v3, v4, v5, v6, v7, v8, v9, v10, v11, v12, v13, v14, v15, v16] t := h.set 0 x
theorem PB.d1 {W : World} {B : Nat} {t : TypeId} {v0 v1 v2 v3 v4 v5 v6 v7 v8 v9 v10 v11 v12 v13 v14 v15 v16 : Value} (h : PB W B #[v0, v1, v2, v3, v4, v5, v6, v7, v8, v9, v10, v11, v12, v13, v14, v15, v16] t) (x : Value) : PB (W.setCell ⟨B, 1, none⟩ x) B #[v0, x, v2, v3, v4, v5, v6, v7, v8, v9, v10, v11, v12, v13, v14, v15, v16] t := h.set 1 x
theorem PB.d2 {W : World} {B : Nat} {t : TypeId} {v0 v1 v2 v3 v4 v5 v6 v7 v8 v9 v10 v11 v12 v13 v14 v15 v16 : Value} (h : PB W B #[v0, v1, v2, v3, v4, v5, v6, v7, v8, v9, v10, v11, v12, v13, v14, v15, v16] t) (x : Value) : PB (W.setCell ⟨B, 2, none⟩ x) B #[v0, v1, x, v3, v4, v5, v6, v7, v8, v9, v10, v11, v12, v13, v14, v15, v16] t := h.set 2 x
theorem PB.d3 {W : World} {B : Nat} {t : TypeId} {v0 v1 v2 v3 v4 v5 v6 v7 v8 v9 v10 v11 v12 v13 v14 v15 v16 : Value} (h : PB W B #[v0, v1, v2, v3, v4, v5, v6, v7, v8, v9, v10, v11, v12, v13, v14, v15, v16] t) (x : Value) : PB (W.setCell ⟨B, 3, none⟩ x) B #[v0, v1, v2, x, v4, v5, v6, v7, v8, v9, v10, v11, v12, v13, v14, v15, v16] t := h.set 3 x
theorem PB.d4 {W : World} {B : Nat} {t : TypeId} {v0 v1 v2 v3 v4 v5 v6 v7 v8 v9 v10 v11 v12 v13 v14 v15 v16 : Value} (h : PB W B #[v0, v1, v2, v3, v4, v5, v6, v7, v8, v9, v10, v11, v12, v13, v14, v15, v16] t) (x : Value) : PB (W.setCell ⟨B, 4, none⟩ x) B #[v0, v1, v2, v3, x, v5, v6, v7, v8, v9, v10, v11, v12, v13, v14, v15, v16] t := h.set 4 x
theorem PB.d5 {W : World} {B : Nat} {t : TypeId} {v0 v1 v2 v3 v4 v5 v6 v7 v8 v9 v10 v11 v12 v13 v14 v15 v16 : Value} (h : PB W B #[v0, v1, v2, v3, v4, v5, v6, v7, v8, v9, v10, v11, v12, v13, v14, v15, v16] t) (x : Value) : PB (W.setCell ⟨B, 5, none⟩ x) B #[v0, v1, v2, v3, v4, x, v6, v7, v8, v9, v10, v11, v12, v13, v14, v15, v16] t := h.set 5 x
theorem PB.d6 {W : World} {B : Nat} {t : TypeId} {v0 v1 v2 v3 v4 v5 v6 v7 v8 v9 v10 v11 v12 v13 v14 v15 v16 : Value} (h : PB W B #[v0, v1, v2, v3, v4, v5, v6, v7, v8, v9, v10, v11, v12, v13, v14, v15, v16] t) (x : Value) : PB (W.setCell ⟨B, 6, none⟩ x) B #[v0, v1, v2, v3, v4, v5, x, v7, v8, v9, v10, v11, v12, v13, v14, v15, v16] t := h.set 6 x
theorem PB.d7 {W : World} {B : Nat} {t : TypeId} {v0 v1 v2 v3 v4 v5 v6 v7 v8 v9 v10 v11 v12 v13 v14 v15 v16 : Value} (h : PB W B #[v0, v1, v2, v3, v4, v5, v6, v7, v8, v9, v10, v11, v12, v13, v14, v15, v16] t) (x : Value) : PB (W.setCell ⟨B, 7, none⟩ x) B #[v0, v1, v2, v3, v4, v5, v6, x, v8, v9, v10, v11, v12, v13, v14, v15, v16] t := h.set 7 x
theorem PB.d8 {W : World} {B : Nat} {t : TypeId} {v0 v1 v2 v3 v4 v5 v6 v7 v8 v9 v10 v11 v12 v13 v14 v15 v16 : Value} (h : PB W B #[v0, v1, v2, v3, v4, v5, v6, v7, v8, v9, v10, v11, v12, v13, v14, v15, v16] t) (x : Value) : PB (W.setCell ⟨B, 8, none⟩ x) B #[v0, v1, v2, v3, v4, v5, v6, v7, x, v9, v10, v11, v12, v13, v14, v15, v16] t := h.set 8 x
theorem PB.d9 {W : World} {B : Nat} {t : TypeId} {v0 v1 v2 v3 v4 v5 v6 v7 v8 v9 v10 v11 v12 v13 v14 v15 v16 : Value} (h : PB W B #[v0, v1, v2, v3, v4, v5, v6, v7, v8, v9, v10, v11, v12, v13, v14, v15, v16] t) (x : Value) : PB (W.setCell ⟨B, 9, none⟩ x) B #[v0, v1, v2, v3, v4, v5, v6, v7, v8, x, v10, v11, v12, v13, v14, v15, v16] t := h.set 9 x
theorem PB.d10 {W : World} {B : Nat} {t : TypeId} {v0 v1 v2 v3 v4 v5 v6 v7 v8 v9 v10 v11 v12 v13 v14 v15 v16 : Value} (h : PB W B #[v0, v1, v2, v3, v4, v5, v6, v7, v8, v9, v10, v11, v12, v13, v14, v15, v16] t) (x : Value) : PB (W.setCell ⟨B, 10, none⟩ x) B #[v0, v1, v2, v3, v4, v5, v6, v7, v8, v9, x, v11, v12, v13, v14, v15, v16] t := h.set 10 x
theorem PB.d11 {W : World} {B : Nat} {t : TypeId} {v0 v1 v2 v3 v4 v5 v6 v7 v8 v9 v10 v11 v12 v13 v14 v15 v16 : Value} (h : PB W B #[v0, v1, v2, v3, v4, v5, v6, v7, v8, v9, v10, v11, v12, v13, v14, v15, v16] t) (x : Value) : PB (W.setCell ⟨B, 11, none⟩ x) B #[v0, v1, v2, v3, v4, v5, v6, v7, v8, v9, v10, x, v12, v13, v14, v15, v16] t := h.set 11 x
theorem PB.d12 {W : World} {B : Nat} {t : TypeId} {v0 v1 v2 v3 v4 v5 v6 v7 v8 v9 v10 v11 v12 v13 v14 v15 v16 : Value} (h : PB W B #[v0, v1, v2, v3, v4, v5, v6, v7, v8, v9, v10, v11, v12, v13, v14, v15, v16] t) (x : Value) : PB (W.setCell ⟨B, 12, none⟩ x) B #[v0, v1, v2, v3, v4, v5, v6, v7, v8, v9, v10, v11, x, v13, v14, v15, v16] t := h.set 12 x
theorem PB.d13 {W : World} {B : Nat} {t : TypeId} {v0 v1 v2 v3 v4 v5 v6 v7 v8 v9 v10 v11 v12 v13 v14 v15 v16 : Value} (h : PB W B #[v0, v1, v2, v3, v4, v5, v6, v7, v8, v9, v10, v11, v12, v13, v14, v15, v16] t) (x : Value) : PB (W.setCell ⟨B, 13, none⟩ x) B #[v0, v1, v2, v3, v4, v5, v6, v7, v8, v9, v10, v11, v12, x, v14, v15, v16] t := h.set 13 x
theorem PB.d14 {W : World} {B : Nat} {t : TypeId} {v0 v1 v2 v3 v4 v5 v6 v7 v8 v9 v10 v11 v12 v13 v14 v15 v16 : Value} (h : PB W B #[v0, v1, v2, v3, v4, v5, v6, v7, v8, v9, v10, v11, v12, v13, v14, v15, v16] t) (x : Value) : PB (W.setCell ⟨B, 14, none⟩ x) B #[v0, v1, v2, v3, v4, v5, v6, v7, v8, v9, v10, v11, v12, v13, x, v15, v16] t := h.set 14 x
theorem PB.d15 {W : World} {B : Nat} {t : TypeId} {v0 v1 v2 v3 v4 v5 v6 v7 v8 v9 v10 v11 v12 v13 v14 v15 v16 : Value} (h : PB W B #[v0, v1, v2, v3, v4, v5, v6, v7, v8, v9, v10, v11, v12, v13, v14, v15, v16] t) (x : Value) : PB (W.setCell ⟨B, 15, none⟩ x) B #[v0, v1, v2, v3, v4, v5, v6, v7, v8, v9, v10, v11, v12, v13, v14, x, v16] t := h.set 15 x
theorem PB.d16 {W : World} {B : Nat} {t : TypeId} {v0 v1 v2 v3 v4 v5 v6 v7 v8 v9 v10 v11 v12 v13 v14 v15 v16 : Value} (h : PB W B #[v0, v1, v2, v3, v4, v5, v6, v7, v8, v9, v10, v11, v12, v13, v14, v15, v16] t) (x : Value) : PB (W.setCell ⟨B, 16, none⟩ x) B #[v0, v1, v2, v3, v4, v5, v6, v7, v8, v9, v10, v11, v12, v13, v14, v15, x] t := h.set 16 x
theorem PB.put9D {W : World} {B : Nat} {t : TypeId} {v0 v1 v2 v3 v4 v5 v6 v7 v8 v9 v10 v11 v12 v13 v14 v15 v16 : Value} (h : PB W B #[v0, v1, v2, v3, v4, v5, v6, v7, v8, v9, v10, v11, v12, v13, v14, v15, v16] t) (x1 x2 x3 x4 x5 x6 x7 x8 x9 : Value) : PB (((((((((W.setCell ⟨B, 1, none⟩ x1).setCell ⟨B, 2, none⟩ x2).setCell ⟨B, 3, none⟩ x3).setCell ⟨B, 4, none⟩ x4).setCell ⟨B, 5, none⟩ x5).setCell ⟨B, 6, none⟩ x6).setCell ⟨B, 7, none⟩ x7).setCell ⟨B, 8, none⟩ x8).setCell ⟨B, 9, none⟩ x9) B #[v0, x1, x2, x3, x4, x5, x6, x7, x8, x9, v10, v11, v12, v13, v14, v15, v16] t := (((((((((h.d1 x1).d2 x2).d3 x3).d4 x4).d5 x5).d6 x6).d7 x7).d8 x8).d9 x9)
theorem PB.far9D {W : World} {B b : Nat} {t : TypeId} {vs : Array Value} (h : PB W B vs t) (hb : b ≠ B) (x1 x2 x3 x4 x5 x6 x7 x8 x9 : Value) : PB (((((((((W.setCell ⟨b, 1, none⟩ x1).setCell ⟨b, 2, none⟩ x2).setCell ⟨b, 3, none⟩ x3).setCell ⟨b, 4, none⟩ x4).setCell ⟨b, 5, none⟩ x5).setCell ⟨b, 6, none⟩ x6).setCell ⟨b, 7, none⟩ x7).setCell ⟨b, 8, none⟩ x8).setCell ⟨b, 9, none⟩ x9) B vs t := (((((((((h.far hb 1 x1).far hb 2 x2).far hb 3 x3).far hb 4 x4).far hb 5 x5).far hb 6 x6).far hb 7 x7).far hb 8 x8).far hb 9 x9)
theorem below9D {w W : World} {n b : Nat} (h : Below n w W) (hb : n ≤ b) (x1 x2 x3 x4 x5 x6 x7 x8 x9 : Value) : Below n w (((((((((W.setCell ⟨b, 1, none⟩ x1).setCell ⟨b, 2, none⟩ x2).setCell ⟨b, 3, none⟩ x3).setCell ⟨b, 4, none⟩ x4).setCell ⟨b, 5, none⟩ x5).setCell ⟨b, 6, none⟩ x6).setCell ⟨b, 7, none⟩ x7).setCell ⟨b, 8, none⟩ x8).setCell ⟨b, 9, none⟩ x9) := (((((((((h.setCell (p := ⟨b, 1, none⟩) hb x1).setCell (p := ⟨b, 2, none⟩) hb x2).setCell (p := ⟨b, 3, none⟩) hb x3).setCell (p := ⟨b, 4, none⟩) hb x4).setCell (p := ⟨b, 5, none⟩) hb x5).setCell (p := ⟨b, 6, none⟩) hb x6).setCell (p := ⟨b, 7, none⟩) hb x7).setCell (p := ⟨b, 8, none⟩) hb x8).setCell (p := ⟨b, 9, none⟩) hb x9)
set_option maxRecDepth 20000 in
set_option maxHeartbeats 8000000 in
theorem zfg (x : Dd) (w : World) : Calls Tryd.prog 15 #[aDd x] w fun e w' => e = .returned (aDd x) ∧ Below w.heap.size w w' := by
  have kO := zf4 x.o
  have hb0 : Below w.heap.size w (((w.alloc (.cells #[.int .i64 x.k, .int .i64 x.o.id, .int .i64 x.o.p, .int .i64 x.o.d, .int .i64 x.o.n, .int .i64 x.o.f, .int .i64 x.o.e, .int .i64 x.o.c, .int .i64 x.o.s, .bool x.o.two, .int .i64 x.id, .int .i64 x.p, .int .i64 x.d, .int .i64 x.n, .int .i64 x.m, .int .i64 x.b, .int .i64 x.a] 46)).alloc (.cells #[.int .i64 0, .int .i64 0, .int .i64 0, .int .i64 0, .int .i64 0, .int .i64 0, .int .i64 0, .int .i64 0, .int .i64 0, .bool false, .int .i64 0, .int .i64 0, .int .i64 0, .int .i64 0, .int .i64 0, .int .i64 0, .int .i64 0] 31)).alloc (.cells #[.int .i64 0, .int .i64 0, .int .i64 0, .int .i64 0, .int .i64 0, .int .i64 0, .int .i64 0, .int .i64 0, .int .i64 0, .bool false, .int .i64 0, .int .i64 0, .int .i64 0, .int .i64 0, .int .i64 0, .int .i64 0, .int .i64 0] 31)) := (((Below.refl _ _).alloc (Nat.le_refl _) _).alloc (by simp) _).alloc (by simp; omega) _
  have P0 := ((PB.new w #[.int .i64 x.k, .int .i64 x.o.id, .int .i64 x.o.p, .int .i64 x.o.d, .int .i64 x.o.n, .int .i64 x.o.f, .int .i64 x.o.e, .int .i64 x.o.c, .int .i64 x.o.s, .bool x.o.two, .int .i64 x.id, .int .i64 x.p, .int .i64 x.d, .int .i64 x.n, .int .i64 x.m, .int .i64 x.b, .int .i64 x.a] 46).alloc (.cells #[.int .i64 0, .int .i64 0, .int .i64 0, .int .i64 0, .int .i64 0, .int .i64 0, .int .i64 0, .int .i64 0, .int .i64 0, .bool false, .int .i64 0, .int .i64 0, .int .i64 0, .int .i64 0, .int .i64 0, .int .i64 0, .int .i64 0] 31)).alloc (.cells #[.int .i64 0, .int .i64 0, .int .i64 0, .int .i64 0, .int .i64 0, .int .i64 0, .int .i64 0, .int .i64 0, .int .i64 0, .bool false, .int .i64 0, .int .i64 0, .int .i64 0, .int .i64 0, .int .i64 0, .int .i64 0, .int .i64 0] 31)
  have P1 := (PB.new (w.alloc (.cells #[.int .i64 x.k, .int .i64 x.o.id, .int .i64 x.o.p, .int .i64 x.o.d, .int .i64 x.o.n, .int .i64 x.o.f, .int .i64 x.o.e, .int .i64 x.o.c, .int .i64 x.o.s, .bool x.o.two, .int .i64 x.id, .int .i64 x.p, .int .i64 x.d, .int .i64 x.n, .int .i64 x.m, .int .i64 x.b, .int .i64 x.a] 46)) #[.int .i64 0, .int .i64 0, .int .i64 0, .int .i64 0, .int .i64 0, .int .i64 0, .int .i64 0, .int .i64 0, .int .i64 0, .bool false, .int .i64 0, .int .i64 0, .int .i64 0, .int .i64 0, .int .i64 0, .int .i64 0, .int .i64 0] 31).alloc (.cells #[.int .i64 0, .int .i64 0, .int .i64 0, .int .i64 0, .int .i64 0, .int .i64 0, .int .i64 0, .int .i64 0, .int .i64 0, .bool false, .int .i64 0, .int .i64 0, .int .i64 0, .int .i64 0, .int .i64 0, .int .i64 0, .int .i64 0] 31)
  have P2 := PB.new ((w.alloc (.cells #[.int .i64 x.k, .int .i64 x.o.id, .int .i64 x.o.p, .int .i64 x.o.d, .int .i64 x.o.n, .int .i64 x.o.f, .int .i64 x.o.e, .int .i64 x.o.c, .int .i64 x.o.s, .bool x.o.two, .int .i64 x.id, .int .i64 x.p, .int .i64 x.d, .int .i64 x.n, .int .i64 x.m, .int .i64 x.b, .int .i64 x.a] 46)).alloc (.cells #[.int .i64 0, .int .i64 0, .int .i64 0, .int .i64 0, .int .i64 0, .int .i64 0, .int .i64 0, .int .i64 0, .int .i64 0, .bool false, .int .i64 0, .int .i64 0, .int .i64 0, .int .i64 0, .int .i64 0, .int .i64 0, .int .i64 0] 31)) #[.int .i64 0, .int .i64 0, .int .i64 0, .int .i64 0, .int .i64 0, .int .i64 0, .int .i64 0, .int .i64 0, .int .i64 0, .bool false, .int .i64 0, .int .i64 0, .int .i64 0, .int .i64 0, .int .i64 0, .int .i64 0, .int .i64 0] 31
  simp only [World.size_alloc] at P0 P1 P2
  unfold aDd aOd at *
  go_enter Tryd.func15, Tryd.ntmps15
  go_upto_region 2 with fail
  generalize ((w.alloc (.cells #[.int .i64 x.k, .int .i64 x.o.id, .int .i64 x.o.p, .int .i64 x.o.d, .int .i64 x.o.n, .int .i64 x.o.f, .int .i64 x.o.e, .int .i64 x.o.c, .int .i64 x.o.s, .bool x.o.two, .int .i64 x.id, .int .i64 x.p, .int .i64 x.d, .int .i64 x.n, .int .i64 x.m, .int .i64 x.b, .int .i64 x.a] 46)).alloc (.cells #[.int .i64 0, .int .i64 0, .int .i64 0, .int .i64 0, .int .i64 0, .int .i64 0, .int .i64 0, .int .i64 0, .int .i64 0, .bool false, .int .i64 0, .int .i64 0, .int .i64 0, .int .i64 0, .int .i64 0, .int .i64 0, .int .i64 0] 31)).alloc (.cells #[.int .i64 0, .int .i64 0, .int .i64 0, .int .i64 0, .int .i64 0, .int .i64 0, .int .i64 0, .int .i64 0, .int .i64 0, .bool false, .int .i64 0, .int .i64 0, .int .i64 0, .int .i64 0, .int .i64 0, .int .i64 0, .int .i64 0] 31) = w0 at *
  generalize hAA : Value.agg #[.int .i64 x.k, .int .i64 x.o.id, .int .i64 x.o.p, .int .i64 x.o.d, .int .i64 x.o.n, .int .i64 x.o.f, .int .i64 x.o.e, .int .i64 x.o.c, .int .i64 x.o.s, .bool x.o.two, .int .i64 x.id, .int .i64 x.p, .int .i64 x.d, .int .i64 x.n, .int .i64 x.m, .int .i64 x.b, .int .i64 x.a] = vA
  obtain ⟨d0, -⟩ := P0.deed
  have r0 : w0.cell? ⟨w.heap.size + 1 + 1, 0, none⟩ = some _ := P2.cell 0
  have f0 := P2.frozen 0
  go_upto_region 3 with fail
  clear d0 r0 f0
  have Q0 := P0.far (b := w.heap.size + 1 + 1) (by omega) 0 (.int .i64 x.k)
  have Q1 := P1.far (b := w.heap.size + 1 + 1) (by omega) 0 (.int .i64 x.k)
  have Q2 : PB (w0.setCell ⟨w.heap.size + 1 + 1, 0, none⟩ (.int .i64 x.k)) (w.heap.size + 1 + 1) #[.int .i64 x.k, .int .i64 0, .int .i64 0, .int .i64 0, .int .i64 0, .int .i64 0, .int .i64 0, .int .i64 0, .int .i64 0, .bool false, .int .i64 0, .int .i64 0, .int .i64 0, .int .i64 0, .int .i64 0, .int .i64 0, .int .i64 0] 31 := P2.d0 (.int .i64 x.k)
  have b1 := (hb0.setCell (p := ⟨w.heap.size + 1 + 1, 0, none⟩) (by show w.heap.size ≤ w.heap.size + 1 + 1; omega) (.int .i64 x.k))
  generalize (w0.setCell ⟨w.heap.size + 1 + 1, 0, none⟩ (.int .i64 x.k)) = w1 at *
  clear P0 P1 P2 hb0
  obtain ⟨-, ⟨d1, d2, d3, d4, d5, d6, d7, d8, d9⟩, -⟩ := Q0.deed
  go_wp2_with fail
  refine (kO _).mono ?_
  rintro e w2 ⟨rfl, hb2⟩
  have b2 := onto b1 hb2
  have R0 := hidden (Q0.below hb2)
  have R1 := hidden (Q1.below hb2)
  have R2 := hidden (Q2.below hb2)
  clear Q0 Q1 Q2 hb2 b1 d1 d2 d3 d4 d5 d6 d7 d8 d9
  obtain ⟨-, ⟨g1, g2, g3, g4, g5, g6, g7, g8, g9⟩, -⟩ := R2.out.deed
  have h1 := R2.out.frozen 1
  have h2 := R2.out.frozen 2
  have h3 := R2.out.frozen 3
  have h4 := R2.out.frozen 4
  have h5 := R2.out.frozen 5
  have h6 := R2.out.frozen 6
  have h7 := R2.out.frozen 7
  have h8 := R2.out.frozen 8
  have h9 := R2.out.frozen 9
  go_upto_region 4 with fail
  clear g1 g2 g3 g4 g5 g6 g7 g8 g9 h1 h2 h3 h4 h5 h6 h7 h8 h9
  have S0 := R0.out.far9D (b := w.heap.size + 1 + 1) (by omega) (.int .i64 x.o.id) (.int .i64 x.o.p) (.int .i64 x.o.d) (.int .i64 x.o.n) (.int .i64 x.o.f) (.int .i64 x.o.e) (.int .i64 x.o.c) (.int .i64 x.o.s) (.bool x.o.two)
  have S1 := R1.out.far9D (b := w.heap.size + 1 + 1) (by omega) (.int .i64 x.o.id) (.int .i64 x.o.p) (.int .i64 x.o.d) (.int .i64 x.o.n) (.int .i64 x.o.f) (.int .i64 x.o.e) (.int .i64 x.o.c) (.int .i64 x.o.s) (.bool x.o.two)
  have S2 := R2.out.put9D (.int .i64 x.o.id) (.int .i64 x.o.p) (.int .i64 x.o.d) (.int .i64 x.o.n) (.int .i64 x.o.f) (.int .i64 x.o.e) (.int .i64 x.o.c) (.int .i64 x.o.s) (.bool x.o.two)
  have b3 := below9D (b := w.heap.size + 1 + 1) b2 (by omega) (.int .i64 x.o.id) (.int .i64 x.o.p) (.int .i64 x.o.d) (.int .i64 x.o.n) (.int .i64 x.o.f) (.int .i64 x.o.e) (.int .i64 x.o.c) (.int .i64 x.o.s) (.bool x.o.two)
  generalize (((((((((w2.setCell ⟨w.heap.size + 1 + 1, 1, none⟩ (.int .i64 x.o.id)).setCell ⟨w.heap.size + 1 + 1, 2, none⟩ (.int .i64 x.o.p)).setCell ⟨w.heap.size + 1 + 1, 3, none⟩ (.int .i64 x.o.d)).setCell ⟨w.heap.size + 1 + 1, 4, none⟩ (.int .i64 x.o.n)).setCell ⟨w.heap.size + 1 + 1, 5, none⟩ (.int .i64 x.o.f)).setCell ⟨w.heap.size + 1 + 1, 6, none⟩ (.int .i64 x.o.e)).setCell ⟨w.heap.size + 1 + 1, 7, none⟩ (.int .i64 x.o.c)).setCell ⟨w.heap.size + 1 + 1, 8, none⟩ (.int .i64 x.o.s)).setCell ⟨w.heap.size + 1 + 1, 9, none⟩ (.bool x.o.two)) = w3 at *
  clear R0 R1 R2 b2
  have c10 : w3.cell? ⟨w.heap.size, 10, none⟩ = some (.int .i64 x.id) := S0.cell 10
  have g10 : w3.cell? ⟨w.heap.size + 1 + 1, 10, none⟩ = some _ := S2.cell 10
  have h10 := S2.frozen 10
  go_upto_region 5 with fail
  clear c10 g10 h10
  have S010 := S0.far (b := w.heap.size + 1 + 1) (by omega) 10 (.int .i64 x.id)
  have S110 := S1.far (b := w.heap.size + 1 + 1) (by omega) 10 (.int .i64 x.id)
  have S210 := S2.d10 (.int .i64 x.id)
  have b10 := (b3.setCell (p := ⟨w.heap.size + 1 + 1, 10, none⟩) (by show w.heap.size ≤ w.heap.size + 1 + 1; omega) (.int .i64 x.id))
  generalize w3.setCell ⟨w.heap.size + 1 + 1, 10, none⟩ (.int .i64 x.id) = w10 at *
  clear S0 S1 S2 b3
  have c11 : w10.cell? ⟨w.heap.size, 11, none⟩ = some (.int .i64 x.p) := S010.cell 11
  have g11 : w10.cell? ⟨w.heap.size + 1 + 1, 11, none⟩ = some _ := S210.cell 11
  have h11 := S210.frozen 11
  go_upto_region 6 with fail
  clear c11 g11 h11
  have S011 := S010.far (b := w.heap.size + 1 + 1) (by omega) 11 (.int .i64 x.p)
  have S111 := S110.far (b := w.heap.size + 1 + 1) (by omega) 11 (.int .i64 x.p)
  have S211 := S210.d11 (.int .i64 x.p)
  have b11 := (b10.setCell (p := ⟨w.heap.size + 1 + 1, 11, none⟩) (by show w.heap.size ≤ w.heap.size + 1 + 1; omega) (.int .i64 x.p))
  generalize w10.setCell ⟨w.heap.size + 1 + 1, 11, none⟩ (.int .i64 x.p) = w11 at *
  clear S010 S110 S210 b10
  have c12 : w11.cell? ⟨w.heap.size, 12, none⟩ = some (.int .i64 x.d) := S011.cell 12
  have g12 : w11.cell? ⟨w.heap.size + 1 + 1, 12, none⟩ = some _ := S211.cell 12
  have h12 := S211.frozen 12
  go_upto_region 7 with fail
  clear c12 g12 h12
  have S012 := S011.far (b := w.heap.size + 1 + 1) (by omega) 12 (.int .i64 x.d)
  have S112 := S111.far (b := w.heap.size + 1 + 1) (by omega) 12 (.int .i64 x.d)
  have S212 := S211.d12 (.int .i64 x.d)
  have b12 := (b11.setCell (p := ⟨w.heap.size + 1 + 1, 12, none⟩) (by show w.heap.size ≤ w.heap.size + 1 + 1; omega) (.int .i64 x.d))
  generalize w11.setCell ⟨w.heap.size + 1 + 1, 12, none⟩ (.int .i64 x.d) = w12 at *
  clear S011 S111 S211 b11
  have c13 : w12.cell? ⟨w.heap.size, 13, none⟩ = some (.int .i64 x.n) := S012.cell 13
  have g13 : w12.cell? ⟨w.heap.size + 1 + 1, 13, none⟩ = some _ := S212.cell 13
  have h13 := S212.frozen 13
  go_upto_region 8 with fail
  clear c13 g13 h13
  have S013 := S012.far (b := w.heap.size + 1 + 1) (by omega) 13 (.int .i64 x.n)
  have S113 := S112.far (b := w.heap.size + 1 + 1) (by omega) 13 (.int .i64 x.n)
  have S213 := S212.d13 (.int .i64 x.n)
  have b13 := (b12.setCell (p := ⟨w.heap.size + 1 + 1, 13, none⟩) (by show w.heap.size ≤ w.heap.size + 1 + 1; omega) (.int .i64 x.n))
  generalize w12.setCell ⟨w.heap.size + 1 + 1, 13, none⟩ (.int .i64 x.n) = w13 at *
  clear S012 S112 S212 b12
  have c14 : w13.cell? ⟨w.heap.size, 14, none⟩ = some (.int .i64 x.m) := S013.cell 14
  have g14 : w13.cell? ⟨w.heap.size + 1 + 1, 14, none⟩ = some _ := S213.cell 14
  have h14 := S213.frozen 14
  go_upto_region 9 with fail
  clear c14 g14 h14
  have S014 := S013.far (b := w.heap.size + 1 + 1) (by omega) 14 (.int .i64 x.m)
  have S114 := S113.far (b := w.heap.size + 1 + 1) (by omega) 14 (.int .i64 x.m)
  have S214 := S213.d14 (.int .i64 x.m)
  have b14 := (b13.setCell (p := ⟨w.heap.size + 1 + 1, 14, none⟩) (by show w.heap.size ≤ w.heap.size + 1 + 1; omega) (.int .i64 x.m))
  generalize w13.setCell ⟨w.heap.size + 1 + 1, 14, none⟩ (.int .i64 x.m) = w14 at *
  clear S013 S113 S213 b13
  have c15 : w14.cell? ⟨w.heap.size, 15, none⟩ = some (.int .i64 x.b) := S014.cell 15
  have g15 : w14.cell? ⟨w.heap.size + 1 + 1, 15, none⟩ = some _ := S214.cell 15
  have h15 := S214.frozen 15
  go_upto_region 10 with fail
  clear c15 g15 h15
  have S015 := S014.far (b := w.heap.size + 1 + 1) (by omega) 15 (.int .i64 x.b)
  have S115 := S114.far (b := w.heap.size + 1 + 1) (by omega) 15 (.int .i64 x.b)
  have S215 := S214.d15 (.int .i64 x.b)
  have b15 := (b14.setCell (p := ⟨w.heap.size + 1 + 1, 15, none⟩) (by show w.heap.size ≤ w.heap.size + 1 + 1; omega) (.int .i64 x.b))
  generalize w14.setCell ⟨w.heap.size + 1 + 1, 15, none⟩ (.int .i64 x.b) = w15 at *
  clear S014 S114 S214 b14
  have c16 : w15.cell? ⟨w.heap.size, 16, none⟩ = some (.int .i64 x.a) := S015.cell 16
  have g16 : w15.cell? ⟨w.heap.size + 1 + 1, 16, none⟩ = some _ := S215.cell 16
  have h16 := S215.frozen 16
  go_upto_region 11 with fail
  clear c16 g16 h16
  have S016 := S015.far (b := w.heap.size + 1 + 1) (by omega) 16 (.int .i64 x.a)
  have S116 := S115.far (b := w.heap.size + 1 + 1) (by omega) 16 (.int .i64 x.a)
  have S216 := S215.d16 (.int .i64 x.a)
  have b16 := (b15.setCell (p := ⟨w.heap.size + 1 + 1, 16, none⟩) (by show w.heap.size ≤ w.heap.size + 1 + 1; omega) (.int .i64 x.a))
  generalize w15.setCell ⟨w.heap.size + 1 + 1, 16, none⟩ (.int .i64 x.a) = w16 at *
  clear S015 S115 S215 b15
  have HS1 := hidden S116
  have HS2 := hidden S216
  have hz : w.heap.size ≤ w16.heap.size := b16.size
  have HB := hidden (below_setRow (B := w.heap.size + 1) (cs := #[.int .i64 x.k, .int .i64 x.o.id, .int .i64 x.o.p, .int .i64 x.o.d, .int .i64 x.o.n, .int .i64 x.o.f, .int .i64 x.o.e, .int .i64 x.o.c, .int .i64 x.o.s, .bool x.o.two, .int .i64 x.id, .int .i64 x.p, .int .i64 x.d, .int .i64 x.n, .int .i64 x.m, .int .i64 x.b, .int .i64 x.a]) b16 (by omega) hz)
  have HR : Hid (PB (w16.setRow (w.heap.size + 1) #[.int .i64 x.k, .int .i64 x.o.id, .int .i64 x.o.p, .int .i64 x.o.d, .int .i64 x.o.n, .int .i64 x.o.f, .int .i64 x.o.e, .int .i64 x.o.c, .int .i64 x.o.s, .bool x.o.two, .int .i64 x.id, .int .i64 x.p, .int .i64 x.d, .int .i64 x.n, .int .i64 x.m, .int .i64 x.b, .int .i64 x.a]) (w.heap.size + 1) #[.int .i64 x.k, .int .i64 x.o.id, .int .i64 x.o.p, .int .i64 x.o.d, .int .i64 x.o.n, .int .i64 x.o.f, .int .i64 x.o.e, .int .i64 x.o.c, .int .i64 x.o.s, .bool x.o.two, .int .i64 x.id, .int .i64 x.p, .int .i64 x.d, .int .i64 x.n, .int .i64 x.m, .int .i64 x.b, .int .i64 x.a] 31) := setRow_heap _ _ _ _ _ _ HS1.out
  clear S016 S116 S216 b16
  go_wp2_with ((first | (refine wpList_load_row rfl 31 (.tmp 3) rfl (w.heap.size + 1 + 1) rfl 31 #[.int .i64 x.k, .int .i64 x.o.id, .int .i64 x.o.p, .int .i64 x.o.d, .int .i64 x.o.n, .int .i64 x.o.f, .int .i64 x.o.e, .int .i64 x.o.c, .int .i64 x.o.s, .bool x.o.two, .int .i64 x.id, .int .i64 x.p, .int .i64 x.d, .int .i64 x.n, .int .i64 x.m, .int .i64 x.b, .int .i64 x.a] (0, 0) _ HS2.out Tryd.underlying31 rfl (by kernel_rfl) ?_) | (refine wpList_store_rowTo rfl 31 (.tmp 2) (.tmp 32) rfl rfl (w.heap.size + 1) #[.int .i64 x.k, .int .i64 x.o.id, .int .i64 x.o.p, .int .i64 x.o.d, .int .i64 x.o.n, .int .i64 x.o.f, .int .i64 x.o.e, .int .i64 x.o.c, .int .i64 x.o.s, .bool x.o.two, .int .i64 x.id, .int .i64 x.p, .int .i64 x.d, .int .i64 x.n, .int .i64 x.m, .int .i64 x.b, .int .i64 x.a] rfl rfl 31 #[.int .i64 0, .int .i64 0, .int .i64 0, .int .i64 0, .int .i64 0, .int .i64 0, .int .i64 0, .int .i64 0, .int .i64 0, .bool false, .int .i64 0, .int .i64 0, .int .i64 0, .int .i64 0, .int .i64 0, .int .i64 0, .int .i64 0] HS1.out (by kernel_rfl) rfl (by simp [Value.oneCell']) ?_)))
  exact bodyPost_ret (zf3 Tryd.results15 _ _ (w.heap.size + 1) 31 _ _ rfl HR.out Tryd.underlying31 rfl (by kernel_rfl)) rfl ⟨rfl, HB.out⟩
end Go.Proofs.YtmcekefoedgboaaDoor

namespace Go.Proofs.YtmcekefoedgboaaDoor
open Go.RowKit Va Uo Go.WideShapes
set_option linter.all false
theorem zjg {w : World} {base : Nat} {v1 v2 : Value} {B : List Od} {S : List Ds} (h : Cp.zq w base v1 v2 B S) : Apart v1 v2 ∧ Apart v2 v1 := by
  have h1 := zfb h.1 h.2 (by decide)
  have h2 := zfb h.2 h.1 (by decide)
  refine ⟨fun j hj e => ?_, fun j hj e => ?_⟩
  · rcases h1 with q | q
    · rw [hj] at q; cases q
    · exact q (hj.trans e.symm)
  · rcases h2 with q | q
    · rw [hj] at q; cases q
    · exact q (hj.trans e.symm)
set_option maxRecDepth 20000 in
set_option maxHeartbeats 4000000 in
theorem markchartA_any (v2 v3 : Value) (os : List Od) (ds : List Ds) (b2 b3 : Nat) (k0 : Int) (w : World) (h2 : jl 9 jb w b2 v2 os) (h3 : jl 5 jk w b3 v3 ds) (hap : Apart v2 v3 ∧ Apart v3 v2) (hn : os.length ≤ 1048576) (hm : ds.length ≤ 1048576) (hk0 : 0 ≤ k0) (hk1 : k0 ≤ 100000000) :
    Calls Tryd.prog 17 #[.agg #[v2, v3], .int .i64 k0] w fun e w' => e = .returned (.int .i64 (k0 + 9 * (os.length : Int) + 5 * (ds.length : Int))) ∧ Mkd w w' v2 v3 os ds b2 b3 k0 := by
  have bA : Below w.heap.size w (w.alloc (.cells #[v2, v3] 27)) := (Below.refl _ _).alloc (Nat.le_refl _) _
  have HP := hidden (PB.new w #[v2, v3] 27)
  have H2w := hidden h2
  have H3w := hidden h3
  have H2 := hidden (h2.below bA)
  have H3 := hidden (h3.below bA)
  have HB := hidden bA
  have HAp := hidden hap
  obtain ⟨a2, c2, hv2⟩ := h2.row.form
  obtain ⟨a3, c3, hv3⟩ := h3.row.form
  subst hv2
  subst hv3
  have hz := bA.size
  clear h2 h3 bA hap
  go_enter Tryd.func17, Tryd.ntmps17
  go_upto_region 1 with fail
  generalize w.alloc (.cells #[.slice a2 os.length c2, .slice a3 ds.length c3] 27) = wA at *
  obtain ⟨p0, p1⟩ := HP.out.two
  go_wp2_with fail
  refine (zfe _ os b2 k0 _ H2.out hn hk0 (by omega)).mono ?_
  rintro e w1 ⟨rfl, hm1, ha1, hz1⟩
  have HP1 := hidden (zb2 H2w.out (Nat.le_refl _) ha1 hz1 HP.out)
  have H31 := hidden (H3.out.zek HAp.out.1 ha1)
  have HM1 := hidden hm1
  have HA1 := hidden ha1
  have HZ1 := hidden hz1
  clear hm1 ha1 hz1 p0 p1
  obtain ⟨p0, p1⟩ := HP1.out.two
  go_wp2_with fail
  refine (zfn _ ds b3 (k0 + 9 * (os.length : Int)) _ H31.out hm (by omega) (by omega)).mono ?_
  rintro e w2 ⟨rfl, hm2, ha2, hz2⟩
  have HM2 := hidden hm2
  have HA2 := hidden ha2
  have HZ2 := hidden hz2
  clear hm2 ha2 hz2 p0 p1
  go_wp2_with fail
  go_ret
  refine ⟨rfl, ?_, HM2.out, ?_, ?_, ?_⟩
  · exact HM1.out.zek HAp.out.2 HA2.out
  · intro b0 w0 hb hb0 hb2 hb3
    have hb1 : Below b0 w0 wA := hb.trans (HB.out.mono hb0)
    exact H31.out.zc1 HA2.out HZ2.out (H2.out.zc1 HA1.out HZ1.out hb1 hb2) hb3
  · intro γ s cs b v l hv hx2 hx3
    obtain ⟨wx, hwx, hwl⟩ := hx2
    obtain ⟨wy, hwy, hyl⟩ := hx3
    exact hwy.zcm hyl HA2.out HZ2.out (hwx.zcm hwl HA1.out HZ1.out (hv.below HB.out))
  · intro B vs t hp hx2 hx3
    obtain ⟨wx, hwx, hwl⟩ := hx2
    obtain ⟨wy, hwy, hyl⟩ := hx3
    exact zb2 hwy hyl HA2.out HZ2.out (zb2 hwx hwl HA1.out HZ1.out (hp.below HB.out))
set_option maxRecDepth 20000 in
set_option maxHeartbeats 4000000 in
theorem zgb (v2 v3 : Value) (n m : Nat) (k0 : Int) (w : World) (h2 : VRw 9 cmod w v2 (marks 9 k0 n)) (h3 : VRw 5 cmds w v3 (marks 5 (k0 + 9 * (n : Int)) m)) (hn : n ≤ 1048576) (hm : m ≤ 1048576) (hk0 : 0 ≤ k0) (hk1 : k0 ≤ 100000000) :
    Calls Tryd.prog 18 #[.agg #[v2, v3], .int .i64 k0] w fun e w' => e = .returned (.int .i64 (k0 + 9 * (n : Int) + 5 * (m : Int))) ∧ Below w.heap.size w w' := by
  have bA : Below w.heap.size w (w.alloc (.cells #[v2, v3] 27)) := (Below.refl _ _).alloc (Nat.le_refl _) _
  have HP := hidden (PB.new w #[v2, v3] 27)
  have H2 := hidden (h2.below bA)
  have H3 := hidden (h3.below bA)
  have HB := hidden bA
  obtain ⟨a2, c2, hv2⟩ := h2.form
  obtain ⟨a3, c3, hv3⟩ := h3.form
  subst hv2
  subst hv3
  clear h2 h3 bA
  go_enter Tryd.func18, Tryd.ntmps18
  go_upto_region 1 with fail
  generalize w.alloc (.cells #[.slice a2 (marks 9 k0 n).length c2, .slice a3 (marks 5 (k0 + 9 * (n : Int)) m).length c3] 27) = wA at *
  obtain ⟨p0, p1⟩ := HP.out.two
  go_wp2_with fail
  refine (zi0 _ k0 n _ H2.out hn hk0 (by omega)).mono ?_
  rintro e w1 ⟨rfl, hw1⟩
  have hw2 := hw1.symm
  clear hw1
  subst hw2
  have n1 : ¬ k0 + 9 * (n : Int) < 0 := by omega
  go_wp2_with fail
  refine (zih _ (k0 + 9 * (n : Int)) m _ H3.out hm (by omega) (by omega)).mono ?_
  rintro e w1 ⟨rfl, hw1⟩
  have hw2 := hw1.symm
  clear hw1
  subst hw2
  have n2 : ¬ k0 + 9 * (n : Int) + 5 * (m : Int) < 0 := by omega
  go_wp2_with fail
  go_ret
  exact ⟨rfl, HB.out⟩
set_option maxRecDepth 100000 in
theorem fsOrderL : ∃ fs, Tryd.prog.underlying 44 = some (.struct fs) ∧ (∃ f, fs[8]? = some f ∧ f.offset = 8 ∧ Tryd.prog.cellsOf f.type = 1 ∧ Tryd.prog.underlying f.type = some .bool) ∧
    ∀ k, k < 8 → ∃ f, fs[k]? = some f ∧ f.offset = k ∧ Tryd.prog.cellsOf f.type = 1 ∧ Tryd.prog.underlying f.type = some (.int .i64) := by
  refine ⟨_, Tryd.underlying44, ⟨_, rfl, rfl, by kernel_rfl, Tryd.underlying4⟩, fun k hk => ?_⟩
  match k, hk with
  | 0, _ => exact ⟨_, rfl, rfl, by kernel_rfl, Tryd.underlying2⟩
  | 1, _ => exact ⟨_, rfl, rfl, by kernel_rfl, Tryd.underlying2⟩
  | 2, _ => exact ⟨_, rfl, rfl, by kernel_rfl, Tryd.underlying2⟩
  | 3, _ => exact ⟨_, rfl, rfl, by kernel_rfl, Tryd.underlying2⟩
  | 4, _ => exact ⟨_, rfl, rfl, by kernel_rfl, Tryd.underlying2⟩
  | 5, _ => exact ⟨_, rfl, rfl, by kernel_rfl, Tryd.underlying2⟩
  | 6, _ => exact ⟨_, rfl, rfl, by kernel_rfl, Tryd.underlying2⟩
  | 7, _ => exact ⟨_, rfl, rfl, by kernel_rfl, Tryd.underlying2⟩
set_option maxRecDepth 100000 in
theorem fsDeedL : ∃ fs, Tryd.prog.underlying 46 = some (.struct fs) ∧ (∃ f, fs[1]? = some f ∧ f.offset = 1 ∧ Tryd.prog.cellsOf f.type = 9 ∧ f.type = 44) ∧ (∃ f, fs[0]? = some f ∧ f.offset = 0 ∧ Tryd.prog.cellsOf f.type = 1 ∧ Tryd.prog.underlying f.type = some (.int .i64)) ∧
    ∀ k, k < 9 → 2 ≤ k → ∃ f, fs[k]? = some f ∧ f.offset = k + 8 ∧ Tryd.prog.cellsOf f.type = 1 ∧ Tryd.prog.underlying f.type = some (.int .i64) := by
  refine ⟨_, Tryd.underlying46, ⟨_, rfl, rfl, by kernel_rfl, rfl⟩, ⟨_, rfl, rfl, by kernel_rfl, Tryd.underlying2⟩, fun k hk h2 => ?_⟩
  match k, hk, h2 with
  | 2, _, _ => exact ⟨_, rfl, rfl, by kernel_rfl, Tryd.underlying2⟩
  | 3, _, _ => exact ⟨_, rfl, rfl, by kernel_rfl, Tryd.underlying2⟩
  | 4, _, _ => exact ⟨_, rfl, rfl, by kernel_rfl, Tryd.underlying2⟩
  | 5, _, _ => exact ⟨_, rfl, rfl, by kernel_rfl, Tryd.underlying2⟩
  | 6, _, _ => exact ⟨_, rfl, rfl, by kernel_rfl, Tryd.underlying2⟩
  | 7, _, _ => exact ⟨_, rfl, rfl, by kernel_rfl, Tryd.underlying2⟩
  | 8, _, _ => exact ⟨_, rfl, rfl, by kernel_rfl, Tryd.underlying2⟩
theorem zas {H : Type} {enc : TypeId × Value → H} {W : World} {sp : Nat → Bool} {hd : Bool} {n : Nat} {fs : Array Field} {cs : List Value} {xs : List (DataW H × List MemPlace)} (hxl : xs.length = fs.size)
    (hg : ∀ (i : Nat) (f : Field), fs[i]? = some f → DataW.trod enc Tryd.prog W 0 sp hd n f.type ((cs.drop f.offset).take (Tryd.prog.cellsOf f.type)) = xs[i]?) {k o : Nat} (h : ∃ f, fs[k]? = some f ∧ f.offset = o ∧ Tryd.prog.cellsOf f.type = 1 ∧ Tryd.prog.underlying f.type = some (.int .i64)) :
    ∃ z : Int, (cs.drop o).take 1 = [.int .i64 z] := by
  obtain ⟨f, hf1, hf2, hf3, hf4⟩ := h
  have h2 := hg k f hf1
  rw [hf2, hf3] at h2
  have hxk : k < xs.length := by rw [hxl]; exact (Array.getElem?_eq_some_iff.1 hf1).1
  rw [List.getElem?_eq_getElem hxk] at h2
  obtain ⟨z, hz, _⟩ := DataW.trod_int hf4 h2
  exact ⟨z, hz⟩
set_option maxRecDepth 100000 in
theorem zik {H : Type} {enc : TypeId × Value → H} {W : World} {sp : Nat → Bool} {hd : Bool} {fuel : Nat} {cs : List Value} {x : DataW H × List MemPlace} (h : DataW.trod enc Tryd.prog W 0 sp hd fuel 44 cs = some x) :
    ∃ o : Od, cs = od9 o := by
  obtain ⟨fs, hu, ⟨g8, r1, r2, r3, r4⟩, hfs⟩ := fsOrderL
  obtain ⟨xs, n, _, _, hlen, hxl, hg⟩ := DataW.trod_struct hu h
  replace hlen : cs.length = 9 := hlen.trans (by kernel_rfl)
  match cs, hlen with
  | [c0, c1, c2, c3, c4, c5, c6, c7, c8], _ =>
    have h8 := hg 8 g8 r1
    rw [r2, r3] at h8
    have hx8 : 8 < xs.length := by rw [hxl]; exact (Array.getElem?_eq_some_iff.1 r1).1
    rw [List.getElem?_eq_getElem hx8] at h8
    obtain ⟨b, hb, _⟩ := DataW.trod_bool r4 h8
    obtain ⟨z0, e0⟩ := zas hxl hg (hfs 0 (by omega))
    obtain ⟨z1, e1⟩ := zas hxl hg (hfs 1 (by omega))
    obtain ⟨z2, e2⟩ := zas hxl hg (hfs 2 (by omega))
    obtain ⟨z3, e3⟩ := zas hxl hg (hfs 3 (by omega))
    obtain ⟨z4, e4⟩ := zas hxl hg (hfs 4 (by omega))
    obtain ⟨z5, e5⟩ := zas hxl hg (hfs 5 (by omega))
    obtain ⟨z6, e6⟩ := zas hxl hg (hfs 6 (by omega))
    obtain ⟨z7, e7⟩ := zas hxl hg (hfs 7 (by omega))
    simp at hb e0 e1 e2 e3 e4 e5 e6 e7
    subst hb e0 e1 e2 e3 e4 e5 e6 e7
    exact ⟨⟨z0, z1, z2, z3, z4, z5, z6, z7, b⟩, rfl⟩
set_option maxRecDepth 100000 in
theorem zi1 {H : Type} {enc : TypeId × Value → H} {W : World} {sp : Nat → Bool} {hd : Bool} {r : Reach} {b0 : Nat} {v : Value} {d : DataW H} {p : List MemPlace}
    (hv : Value.okWide Tryd.prog W r b0 46 v) (h : DataW.Trod enc Tryd.prog W 0 sp hd 46 v d p) : ∃ x : Dd, v = aDd x := by
  obtain ⟨fs, hu, ⟨g1, q1, q2, q3, q4⟩, h0, hfs⟩ := fsDeedL
  obtain ⟨cs, rfl, hsz⟩ := okWide_struct hu hv
  obtain ⟨fuel, hf⟩ := h
  obtain ⟨xs, n, _, _, hlen, hxl, hg⟩ := DataW.trod_struct hu hf
  obtain ⟨cs⟩ := cs
  simp only [Value.cells] at hlen hg
  replace hlen : cs.length = 17 := hlen.trans (by kernel_rfl)
  match cs, hlen with
  | [c0, c1, c2, c3, c4, c5, c6, c7, c8, c9, c10, c11, c12, c13, c14, c15, c16], _ =>
    have h1 := hg 1 g1 q1
    rw [q2, q3, q4] at h1
    have hx1 : 1 < xs.length := by rw [hxl]; exact (Array.getElem?_eq_some_iff.1 q1).1
    rw [List.getElem?_eq_getElem hx1] at h1
    obtain ⟨o, ho⟩ := zik h1
    obtain ⟨z0, e0⟩ := zas hxl hg h0
    obtain ⟨z2, e2⟩ := zas hxl hg (hfs 2 (by omega) (by omega))
    obtain ⟨z3, e3⟩ := zas hxl hg (hfs 3 (by omega) (by omega))
    obtain ⟨z4, e4⟩ := zas hxl hg (hfs 4 (by omega) (by omega))
    obtain ⟨z5, e5⟩ := zas hxl hg (hfs 5 (by omega) (by omega))
    obtain ⟨z6, e6⟩ := zas hxl hg (hfs 6 (by omega) (by omega))
    obtain ⟨z7, e7⟩ := zas hxl hg (hfs 7 (by omega) (by omega))
    obtain ⟨z8, e8⟩ := zas hxl hg (hfs 8 (by omega) (by omega))
    simp [od9] at ho e0 e2 e3 e4 e5 e6 e7 e8
    obtain ⟨l0, l1, l2, l3, l4, l5, l6, l7, l8⟩ := ho
    subst e0 e2 e3 e4 e5 e6 e7 e8 l0 l1 l2 l3 l4 l5 l6 l7 l8
    exact ⟨⟨z0, o, z2, z3, z4, z5, z6, z7, z8⟩, rfl⟩
end Go.Proofs.YtmcekefoedgboaaDoor
