/-
  The function that tells the order of a block, made.
-/
import Derived.Test.YtoehnlbkgpjhmaaTr11
namespace Go.Proofs.Ytoehnlbkgpjhmaa
open Go.RowKit Go.WideShapes Va Lb Tr Go.Maps
set_option linter.all false

/-- The function as a value. -/
def onF (Bo Bt Bb Br : Nat) : Value := .func (.func 64) #[] #[.pointer (some ⟨Bo, 0, none⟩), .pointer (some ⟨Bt, 0, none⟩), .pointer (some ⟨Bb, 0, none⟩), .pointer (some ⟨Br, 0, none⟩)]

set_option maxRecDepth 100000 in
set_option maxHeartbeats 3200000 in
theorem oonce_any (x : Tl) (ta : Option Addr) (tc b : Nat) (w : World) :
    Calls Try.prog 40 #[aT x (.slice ta x.coins.length tc), .int .i64 (b : Int)] w fun e w' => ∃ Bo Bt Bb Br, e = .returned (onF Bo Bt Bb Br) ∧ OS x ta tc b w.heap.size Bo Bt Bb Br w' ∧ Below w.heap.size w w' := by
  have hmf : ∀ (fn : Fn) (first cap : Array Value) (w : World), (Instr.makeFunc fn first cap).run Try.prog w = .ok (.func fn first cap) w := fun _ _ _ _ => rfl
  unfold aT onF
  generalize hX : (#[.int .i64 x.arms, .int .i64 x.block, .slice ta x.coins.length tc, .int .i64 x.told] : Array Value) = X
  have p0 := PB.new w X 26
  have p1 := PB.new (w.alloc (.cells X 26)) #[.int .i64 (b : Int)] 2
  have p2 := PB.new ((w.alloc (.cells X 26)).alloc (.cells #[.int .i64 (b : Int)] 2)) #[.int .u32 0, .int .i32 0, .int .u32 0] 109
  have p3 := PB.new (((w.alloc (.cells X 26)).alloc (.cells #[.int .i64 (b : Int)] 2)).alloc (.cells #[.int .u32 0, .int .i32 0, .int .u32 0] 109)) #[] 2
  have p4 := PB.new ((((w.alloc (.cells X 26)).alloc (.cells #[.int .i64 (b : Int)] 2)).alloc (.cells #[.int .u32 0, .int .i32 0, .int .u32 0] 109)).alloc (.cells #[] 2)) #[.slice (some ⟨w.heap.size + 1 + 1 + 1, 0, none⟩) 0 0] 24
  have hbel : Below w.heap.size w (((((w.alloc (.cells X 26)).alloc (.cells #[.int .i64 (b : Int)] 2)).alloc (.cells #[.int .u32 0, .int .i32 0, .int .u32 0] 109)).alloc (.cells #[] 2)).alloc (.cells #[.slice (some ⟨w.heap.size + 1 + 1 + 1, 0, none⟩) 0 0] 24)) := by repeat (first | exact Below.refl _ _ | assumption | refine st_drew ?_ | refine st_drewN ?_ _ | refine Below.setCell ?_ (by first | omega | (simp; done) | (simp; omega)) _ | refine Below.alloc ?_ (by first | omega | (simp; done) | (simp; omega)) _)
  have q0 := (((p0.alloc (.cells #[.int .i64 (b : Int)] 2)).alloc (.cells #[.int .u32 0, .int .i32 0, .int .u32 0] 109)).alloc (.cells #[] 2)).alloc (.cells #[.slice (some ⟨w.heap.size + 1 + 1 + 1, 0, none⟩) 0 0] 24)
  have q1 := ((p1.alloc (.cells #[.int .u32 0, .int .i32 0, .int .u32 0] 109)).alloc (.cells #[] 2)).alloc (.cells #[.slice (some ⟨w.heap.size + 1 + 1 + 1, 0, none⟩) 0 0] 24)
  have q2 := (p2.alloc (.cells #[] 2)).alloc (.cells #[.slice (some ⟨w.heap.size + 1 + 1 + 1, 0, none⟩) 0 0] 24)
  simp only [World.size_alloc] at q1 q2 p4
  have HOS : Hid (OS x ta tc b w.heap.size (w.heap.size + 1 + 1) w.heap.size (w.heap.size + 1) (w.heap.size + 1 + 1 + 1 + 1) (((((w.alloc (.cells X 26)).alloc (.cells #[.int .i64 (b : Int)] 2)).alloc (.cells #[.int .u32 0, .int .i32 0, .int .u32 0] 109)).alloc (.cells #[] 2)).alloc (.cells #[.slice (some ⟨w.heap.size + 1 + 1 + 1, 0, none⟩) 0 0] 24))) :=
    ⟨by rw [hX]; exact q0, q1, by omega, by omega, Or.inl ⟨_, _, q2, p4⟩⟩
  have HB := hidden hbel
  clear p0 p1 p2 p3 p4 q0 q1 q2 hbel
  go_enter Try.func40, Try.ntmps40
  go_wp2_with fail
  go_ret
  exact ⟨_, _, _, _, rfl, HOS.out, HB.out⟩
end Go.Proofs.Ytoehnlbkgpjhmaa
