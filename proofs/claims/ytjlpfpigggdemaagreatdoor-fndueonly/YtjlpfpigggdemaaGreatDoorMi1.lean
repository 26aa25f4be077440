/-
 Merged: CuA CuB CuC Va Rw Vb Dt Uo.
-/
import Derived.Test.YtjlpfpigggdemaaGreatDoorRows
import Derived.WalkKit
import Derived.WalkSpells
import Derived.WalkLawsBesides
import Derived.BigQuiet
import Derived.Deep.QuietTactic
import Derived.OwnWalk
import Derived.ProofKit
import Derived.OpenShut
import Derived.ChangeOld
import Derived.Below
import Derived.Deep.Slices
import Derived.Lib.SmallJoins
import Derived.Deep.DeepCutAuto
import Derived.Deep.RegionHeld3
import Derived.Laws.Tables
import Derived.Laws.Rows
namespace Go.Proofs.YtjlpfpigggdemaaGreatDoor
set_option maxRecDepth 8000
set_option maxHeartbeats 4000000
open Go.RowKit
theorem zeb (n : Int) : bits .and .i64 n 255 = n % 256 := by
 have h255 : (BitVec.ofInt 64 255).toNat = 2 ^ 8 - 1 := by decide
 have key : (BitVec.ofInt 64 n &&& BitVec.ofInt 64 255).toNat = (n % ((2 ^ 64 : Nat) : Int)).toNat % 2 ^ 8 := by
  rw [BitVec.toNat_and, BitVec.toNat_ofInt, h255, Nat.and_two_pow_sub_one_eq_mod]
 show IntKind.i64.wrap ((BitVec.ofInt 64 n &&& BitVec.ofInt 64 255).toNat : Nat) = n % 256
 rw [key, IntKind.wrap_i64]
 omega
structure Keep (g : Nat) (w w' : World) : Prop where
 os : w'.os = w.os
 tape : w'.tape = w.tape
 output : w'.output = w.output
 size : w.heap.size <= w'.heap.size
 block : ∀ j, j < w.heap.size -> j ≠ g -> w'.heap[j]? = w.heap[j]?
theorem Keep.refl (g : Nat) (w : World) : Keep g w w := ⟨rfl, rfl, rfl, Nat.le_refl _, fun _ _ _ => rfl⟩
theorem Keep.trans {g : Nat} {a b c : World} (h : Keep g a b) (k : Keep g b c) : Keep g a c :=
 ⟨k.os.trans h.os, k.tape.trans h.tape, k.output.trans h.output, Nat.le_trans h.size k.size, fun j hj hg => (k.block j (Nat.lt_of_lt_of_le hj h.size) hg).trans (h.block j hj hg)⟩
theorem Keep.drewN {g : Nat} {a b : World} (h : Keep g a b) (n : Nat) : Keep g a (b.drewN n) := ⟨h.os, h.tape, h.output, h.size, h.block⟩
theorem Keep.set {g j : Nat} {a b : World} (h : Keep g a b) (u : Value) : Keep g a (b.setCell ⟨g, j, none⟩ u) :=
 ⟨h.os, h.tape, h.output, by simpa [World.setCell] using h.size, fun i hi hg => (heap_setCell_other b ⟨g, j, none⟩ i u (fun e => hg e)).trans (h.block i hi hg)⟩
theorem Keep.alloc {g : Nat} {a b : World} (h : Keep g a b) (o : Obj) : Keep g a (b.alloc o) :=
 ⟨h.os, h.tape, h.output, by have := h.size; simp; omega, fun i hi hg => (Below.heap_alloc b o i (Nat.lt_of_lt_of_le hi h.size)).trans (h.block i hi hg)⟩
theorem Keep.below {g B : Nat} {a b : World} (h : Keep g a b) (hB : B <= g) (hs : B <= a.heap.size) : Below B a b :=
 ⟨h.os, h.tape, h.output, h.size, fun k hk => h.block k (by omega) (by omega)⟩
theorem Keep.of_below {g : Nat} {a b : World} (h : Below a.heap.size a b) : Keep g a b := ⟨h.os, h.tape, h.output, h.size, fun j hj _ => h.block j hj⟩
theorem Keep.cell {g b o : Nat} {w w' : World} (h : Keep g w w') (hb : b < w.heap.size) (hg : b ≠ g) : w'.cell? ⟨b, o, none⟩ = w.cell? ⟨b, o, none⟩ := World.cell?_of_block (w := w) (h.block b hb hg)
def Bytes (w : World) (g : Nat) (ao : Option Addr) (bs : List Int) : Prop :=
 (∀ x ∈ bs, 0 <= x /\ x <= 255) /\ (bs.length = 0 ∨ ∃ b off, ao = some ⟨b, off, none⟩ /\ b < g /\ ∀ i, i < bs.length -> w.cell? ⟨b, off + i, none⟩ = some (.int .u8 (bs.getD i 0)))
theorem Bytes.below {w w' : World} {g : Nat} {ao : Option Addr} {bs : List Int} (h : Bytes w g ao bs) (hk : Below g w w') : Bytes w' g ao bs := by
 refine ⟨h.1, ?_⟩
 rcases h.2 with h2 | ⟨b, off, h1, h2, h4⟩
 ·exact Or.inl h2
 ·exact Or.inr ⟨b, off, h1, h2, fun i hi => (hk.cell (p := ⟨b, off + i, none⟩) h2).trans (h4 i hi)⟩
def Cur (w : World) (g : Nat) (ao : Option Addr) (cap : Nat) (bs : List Int) : Prop :=
 g < w.heap.size /\ Bytes w g ao bs /\ bs.length <= 1048576 /\ ∃ (i : Nat) (h : Int), i <= bs.length /\ w.cell? ⟨g, 0, none⟩ = some (.slice ao bs.length cap) /\ w.cell? ⟨g, 1, none⟩ = some (.int .i64 i) /\ w.cell? ⟨g, 2, none⟩ = some (.int .i64 h) /\ w.frozen? ⟨g, 1, none⟩ = false /\ w.frozen? ⟨g, 2, none⟩ = false
theorem Cur.drewN {w : World} {g cap : Nat} {ao : Option Addr} {bs : List Int} (h : Cur w g ao cap bs) (n : Nat) : Cur (w.drewN n) g ao cap bs := h
theorem Cur.setH {w : World} {g cap : Nat} {ao : Option Addr} {bs : List Int} (h : Cur w g ao cap bs) (k : Int) : Cur (w.setCell ⟨g, 2, none⟩ (.int .i64 k)) g ao cap bs := by
 obtain ⟨hg, hby, hl, i, h, hi, c0, c1, c2, f1, f2⟩ := h
 refine ⟨by simpa [World.setCell] using hg, hby.below ((Keep.refl g w).set _ |>.below (Nat.le_refl _) (by omega)), hl, i, k, hi, ?_, ?_, World.cell?_setCell_same _ _ _ c2, by rw [World.frozen?_setCell]; exact f1, by rw [World.frozen?_setCell]; exact f2⟩
 ·rw [World.cell?_setCell_other (h := by simp)]; exact c0
 ·rw [World.cell?_setCell_other (h := by simp)]; exact c1
theorem Cur.setI {w : World} {g cap : Nat} {ao : Option Addr} {bs : List Int} (h : Cur w g ao cap bs) (j : Nat) (hj : j <= bs.length) : Cur (w.setCell ⟨g, 1, none⟩ (.int .i64 j)) g ao cap bs := by
 obtain ⟨hg, hby, hl, i, h, hi, c0, c1, c2, f1, f2⟩ := h
 refine ⟨by simpa [World.setCell] using hg, hby.below ((Keep.refl g w).set _ |>.below (Nat.le_refl _) (by omega)), hl, j, h, hj, ?_, World.cell?_setCell_same _ _ _ c1, ?_, by rw [World.frozen?_setCell]; exact f1, by rw [World.frozen?_setCell]; exact f2⟩
 ·rw [World.cell?_setCell_other (h := by simp)]; exact c0
 ·rw [World.cell?_setCell_other (h := by simp)]; exact c2
theorem Cur.below {w w' : World} {g cap : Nat} {ao : Option Addr} {bs : List Int} (h : Cur w g ao cap bs) (hk : Below (g + 1) w w') : Cur w' g ao cap bs := by
 obtain ⟨hg, hby, hl, i, h, hi, c0, c1, c2, f1, f2⟩ := h
 have hh : ∀ j o, j < g + 1 -> w'.cell? ⟨j, o, none⟩ = w.cell? ⟨j, o, none⟩ := fun j o hj => hk.cell (p := ⟨j, o, none⟩) hj
 have hfz : ∀ o, w'.frozen? ⟨g, o, none⟩ = w.frozen? ⟨g, o, none⟩ := fun o => by simp only [World.frozen?, hk.block g (by omega)]
 exact ⟨Nat.lt_of_lt_of_le hg hk.size, hby.below (hk.mono (by omega)), hl, i, h, hi, (hh g 0 (by omega)).trans c0, (hh g 1 (by omega)).trans c1, (hh g 2 (by omega)).trans c2, (hfz 1).trans f1, (hfz 2).trans f2⟩
set_option maxRecDepth 20000 in
set_option maxHeartbeats 16000000 in
theorem zes (g : Nat) (ao : Option Addr) (cap : Nat) (bs : List Int) (w : World) (hc : Cur w g ao cap bs) :
  Calls Tryz.prog 30 #[.pointer (some ⟨g, 0, none⟩)] w fun e w' => ∃ x : Int, e = .returned (.int .i64 x) /\ 0 <= x /\ x <= 255 /\ Cur w' g ao cap bs /\ Keep g w w' := by
 have HC := hc
 obtain ⟨hg, hby, hl, i, h, hi, c0, c1, c2, f1, f2⟩ := hc
 by_cases hlt : i < bs.length
 ·have hlti : (i : Int) < (bs.length : Int) := by omega
  rcases hby.2 with h2 | ⟨b, off, rfl, hbg0, hcell⟩
  ·omega
  have hcb := hcell i hlt
  have hbg : b ≠ g := by omega
  have hb : b < w.heap.size := by omega
  have hr : 0 <= bs.getD i 0 /\ bs.getD i 0 <= 255 := hby.1 _ (by rw [List.getD_eq_getElem?_getD, List.getElem?_eq_getElem hlt]; simp)
  generalize bs.getD i 0 = y at *
  obtain ⟨r1, r2⟩ := hr
  clear hcell
  go_enter Tryz.func30, Tryz.ntmps30
  go_wp2
  generalize wrap64 (wrap64 (h * 6364136223846793005) + 1442695040888963407) = k
  go_quiet (fail)
  go_wp2_with fail
  obtain ⟨x0, hx0, hx1, hx2⟩ : ∃ x, bits .and .i64 (bits .xor .i64 (k / 8589934592) (k / 35184372088832)) 255 = x /\ 0 <= x /\ x <= 255 := ⟨_, rfl, by rw [zeb]; omega, by rw [zeb]; omega⟩
  rw [hx0]
  clear hx0
  go_quiet (fail)
  go_wp2_with fail
  go_quiet (fail)
  go_wp2_with fail
  go_ret
  refine ⟨_, rfl, by rw [zeb]; omega, by rw [zeb]; omega, ?_, (((Keep.refl g w).set _).drewN _).set _⟩
  have h3 := fun n => ((HC.setH k).drewN n).setI (i + 1) (by omega)
  simpa using h3 _
 ·have hnlt : ¬ (i : Int) < (bs.length : Int) := by omega
  go_enter Tryz.func30, Tryz.ntmps30
  go_wp2
  generalize wrap64 (wrap64 (h * 6364136223846793005) + 1442695040888963407) = k
  go_quiet (fail)
  go_wp2_with fail
  obtain ⟨x0, hx0, hx1, hx2⟩ : ∃ x, bits .and .i64 (bits .xor .i64 (k / 8589934592) (k / 35184372088832)) 255 = x /\ 0 <= x /\ x <= 255 := ⟨_, rfl, by rw [zeb]; omega, by rw [zeb]; omega⟩
  rw [hx0]
  clear hx0
  go_quiet (fail)
  go_wp2_with fail
  go_ret
  exact ⟨_, rfl, hx1, hx2, HC.setH k, (((Keep.refl g w).set _).drewN _).drewN _⟩
end Go.Proofs.YtjlpfpigggdemaaGreatDoor
namespace Go.Proofs.YtjlpfpigggdemaaGreatDoor
open Go.RowKit
theorem qh (g : Nat) (ao : Option Addr) (cap : Nat) (bs : List Int) (n : Int) (w : World) (hc : Cur w g ao cap bs) (hn : 0 < n) :
  Calls Tryz.prog 13 #[.pointer (some ⟨g, 0, none⟩), .int .i64 n] w fun e w' => ∃ x : Int, e = .returned (.int .i64 x) /\ 0 <= x /\ x < n /\ Cur w' g ao cap bs /\ Keep g w w' := by
 by_cases h256 : n <= 256
 ·go_enter Tryz.func13, Tryz.ntmps13
  go_wp2_with fail
  refine (zes g ao cap bs _ hc).mono ?_
  rintro e w1 ⟨x, rfl, hx0, hx1, hc1, hk1⟩
  go_wp2_with fail
  go_ret
  exact ⟨_, rfl, Int.emod_nonneg _ (by omega), Int.emod_lt_of_pos _ hn, hc1, hk1⟩
 ·go_enter Tryz.func13, Tryz.ntmps13
  go_wp2_with fail
  refine (zes g ao cap bs _ hc).mono ?_
  rintro e w1 ⟨x, rfl, hx0, hx1, hc1, hk1⟩
  go_wp2_with fail
  refine (zes g ao cap bs _ hc1).mono ?_
  rintro e w2 ⟨y, rfl, hy0, hy1, hc2, hk2⟩
  go_wp2_with fail
  refine (zes g ao cap bs _ hc2).mono ?_
  rintro e w3 ⟨z, rfl, hz0, hz1, hc3, hk3⟩
  go_wp2_with fail
  refine (zes g ao cap bs _ hc3).mono ?_
  rintro e w4 ⟨v, rfl, hv0, hv1, hc4, hk4⟩
  go_wp2_with fail
  go_ret
  exact ⟨_, rfl, Int.emod_nonneg _ (by omega), Int.emod_lt_of_pos _ hn, hc4, ((hk1.trans hk2).trans hk3).trans hk4⟩
theorem zcf (g : Nat) (ao : Option Addr) (cap : Nat) (bs : List Int) (n : Int) (w : World) (hc : Cur w g ao cap bs) (hn : 0 < n) :
  Calls Tryz.prog 12 #[.pointer (some ⟨g, 0, none⟩), .int .i64 n] w fun e w' => ∃ t : Bool, e = .returned (.bool t) /\ Cur w' g ao cap bs /\ Keep g w w' := by
 go_enter Tryz.func12, Tryz.ntmps12
 go_wp2_with fail
 refine (qh g ao cap bs n _ hc hn).mono ?_
 rintro e w1 ⟨x, rfl, hx0, hx1, hc1, hk1⟩
 go_wp2_with fail
 go_ret
 exact ⟨_, rfl, hc1, hk1⟩
theorem zcy (g : Nat) (ao : Option Addr) (cap : Nat) (bs : List Int) (lo hi : Int) (w : World) (hc : Cur w g ao cap bs) (h1 : -1000000 <= lo) (h2 : lo <= hi) (h3 : hi <= 1000000) :
  Calls Tryz.prog 11 #[.pointer (some ⟨g, 0, none⟩), .int .i64 lo, .int .i64 hi] w fun e w' => ∃ x : Int, e = .returned (.int .i64 x) /\ lo <= x /\ x <= hi /\ Cur w' g ao cap bs /\ Keep g w w' := by
 go_enter Tryz.func11, Tryz.ntmps11
 go_wp2_with fail
 refine (qh g ao cap bs _ _ hc (by omega)).mono ?_
 rintro e w1 ⟨x, rfl, hx0, hx1, hc1, hk1⟩
 go_wp2_with fail
 go_ret
 exact ⟨_, rfl, by omega, by omega, hc1, hk1⟩
end Go.Proofs.YtjlpfpigggdemaaGreatDoor
namespace Go.Proofs.YtjlpfpigggdemaaGreatDoor
open Go.RowKit
set_option maxRecDepth 20000 in
set_option maxHeartbeats 16000000 in
theorem new_any (ao : Option Addr) (cap : Nat) (bs : List Int) (w : World) (hb : Bytes w w.heap.size ao bs) (hl : bs.length <= 1048576) :
  Calls Tryz.prog 9 #[.slice ao bs.length cap] w fun e w' => e = .returned (.pointer (some ⟨w.heap.size, 0, none⟩)) /\ Cur w' w.heap.size ao cap bs /\ Below w.heap.size w w' := by
 go_enter Tryz.func9, Tryz.ntmps9
 go_wp2_with fail
 go_loopw [3, 4] (fun hv iv wr => wr = w /\ ∃ (k : Nat) (h : Int), k <= bs.length /\ iv = .int .i64 k /\ hv = .int .i64 h) (fun _ iv _ => bs.length - (intOf iv).toNat)
 case atStart => exact ⟨rfl, 0, _, Nat.zero_le _, rfl, rfl⟩
 case round =>
  obtain ⟨rfl, k, h, hk, rfl, rfl⟩ := hrel
  by_cases hlt : k < bs.length
  ·have hlt1 : (k : Int) < (bs.length : Int) := by omega
   rcases hb.2 with h2 | ⟨b, off, rfl, hbg0, hcell⟩
   ·omega
   have hcb := hcell k hlt
   have hr : 0 <= bs.getD k 0 /\ bs.getD k 0 <= 255 := hb.1 _ (by rw [List.getD_eq_getElem?_getD, List.getElem?_eq_getElem hlt]; simp)
   generalize bs.getD k 0 = y at *
   obtain ⟨r1, r2⟩ := hr
   clear hcell
   go_wp2_with fail
   go_roundw
   case rel => exact ⟨trivial, k + 1, _, by omega, by go_num, rfl⟩
   case measure => simp [intOf]; omega
  ·have hlt1 : ¬ (k : Int) < (bs.length : Int) := by omega
   have hbb := hb
   clear hb
   go_wp2_with fail
   go_ret
   have e := heap_alloc_new wr (Obj.cells #[.slice ao bs.length cap, .int .i64 0, .int .i64 h] 62)
   have hB : Below wr.heap.size wr (wr.alloc (Obj.cells #[.slice ao bs.length cap, .int .i64 0, .int .i64 h] 62)) := (Keep.refl wr.heap.size wr).alloc _ |>.below (Nat.le_refl _) (Nat.le_refl _)
   refine ⟨rfl, ⟨by simp, hbb.below hB, hl, 0, h, Nat.zero_le _, ?_, ?_, ?_, ?_, ?_⟩, hB⟩
   ·simp only [World.cell?, e]; rfl
   ·simp only [World.cell?, e]; rfl
   ·simp only [World.cell?, e]; rfl
   ·simp only [World.frozen?, e]; rfl
   ·simp only [World.frozen?, e]; rfl
theorem big_any (ao : Option Addr) (cap n : Nat) (w : World) :
  Calls Tryz.prog 4 #[.slice ao n cap] w fun e w' => e = .returned (.bool (decide (4096 < (n : Int)))) /\ w' = w := by
 go_enter Tryz.func4, Tryz.ntmps4
 go_wp2_with fail
 go_ret
 exact ⟨rfl, rfl⟩
end Go.Proofs.YtjlpfpigggdemaaGreatDoor
namespace Go.Proofs.YtjlpfpigggdemaaGreatDoor.Va
structure Vt where
 b : Int
 o : Int
 p : Int
 u : Int
 a : Int
 h : Int
def rng (x lo hi : Int) : Bool := decide (lo <= x) && decide (x <= hi)
theorem zax {x lo hi : Int} : rng x lo hi = true ↔ lo <= x /\ x <= hi := by simp [rng]
def up (n : Int) : Int := if n <= 40 ∨ 131 <= n then 3 else if 111 <= n then 2 else if n <= 50 ∨ 91 <= n then 1 else 0
def hp (n : Int) : Int := if n <= 350 then 3 else if 391 <= n then 2 else if n <= 360 ∨ 381 <= n then 1 else 0
end Go.Proofs.YtjlpfpigggdemaaGreatDoor.Va
namespace Go.Proofs.YtjlpfpigggdemaaGreatDoor
open Go.RowKit
theorem hidden {p : Prop} (h : p) : Hid p := h
theorem onto {w W w2 : World} (hv : Below w.heap.size w W) (h : Below W.heap.size W w2) : Below w.heap.size w w2 := hv.trans (h.mono hv.size)
theorem jq {b : Nat} {w0 w : World} (h : Below b w0 w) : Below b w0 w.drew := ⟨h.os, h.tape, h.output, h.size, h.block⟩
theorem zao {b : Nat} {w0 w : World} (h : Below b w0 w) (n : Nat) : Below b w0 (w.drewN n) := ⟨h.os, h.tape, h.output, h.size, h.block⟩
theorem zed {α : Type} {l : List α} {i : Nat} {x : α} (h : l[i]? = some x) : i < l.length := (List.getElem?_eq_some_iff.1 h).1
section
variable {α : Type} (s : Nat) (cs : α -> Nat -> Int)
def Rw (w : World) (v : Value) (l : List α) : Prop :=
 ∃ ao cap, v = .slice ao l.length cap /\ l.length <= cap /\ (l.length = 0 ∨ ∃ b off, ao = some ⟨b, off, none⟩ /\ b < w.heap.size /\ ∀ i x, l[i]? = some x -> ∀ k, k < s -> w.cell? ⟨b, off + i * s + k, none⟩ = some (.int .i64 (cs x k)))
def Out (w : World) (G n : Nat) (l : List α) (i : Nat) : Prop :=
 G < w.heap.size /\ (∀ j, j < n * s -> (∃ u, w.cell? ⟨G, j, none⟩ = some u) /\ w.frozen? ⟨G, j, none⟩ = false) /\
  ∀ j x, j < i -> l[j]? = some x -> ∀ k, k < s -> w.cell? ⟨G, j * s + k, none⟩ = some (.int .i64 (cs x k))
def Own (w : World) (base : Nat) (v : Value) (l : List α) : Prop :=
 ∃ ao cap, v = .slice ao l.length cap /\ l.length <= cap /\ (l.length = 0 ∨ ∃ G, ao = some ⟨G, 0, none⟩ /\ base <= G /\ Out s cs w G l.length l l.length)
end
section
variable {α : Type} {s : Nat} {cs : α -> Nat -> Int}
theorem Rw.below {w w' : World} {v : Value} {l : List α} (h : Rw s cs w v l) (hb : Below w.heap.size w w') : Rw s cs w' v l := by
 obtain ⟨ao, cap, rfl, hlc, h2⟩ := h
 refine ⟨ao, cap, rfl, hlc, ?_⟩
 rcases h2 with h2 | ⟨b, off, h3, h4, h5⟩
 ·exact Or.inl h2
 ·exact Or.inr ⟨b, off, h3, Nat.lt_of_lt_of_le h4 hb.size, fun i x hx k hk => (hb.cell (p := ⟨b, off + i * s + k, none⟩) h4).trans (h5 i x hx k hk)⟩
theorem Rw.at {w : World} {ao : Option Addr} {cap : Nat} {n : Nat} {l : List α} (h : Rw s cs w (.slice ao n cap) l) {i : Nat} {x : α} (hx : l[i]? = some x) :
  ∃ b off, ao = some ⟨b, off, none⟩ /\ b < w.heap.size /\ ∀ k, k < s -> w.cell? ⟨b, off + i * s + k, none⟩ = some (.int .i64 (cs x k)) := by
 obtain ⟨ao', cap', he, _, h2⟩ := h
 obtain ⟨rfl, rfl, rfl⟩ : ao = ao' /\ n = l.length /\ cap = cap' := by simpa using he
 have := zed hx
 rcases h2 with h2 | ⟨b, off, h3, h4, h5⟩
 ·omega
 ·exact ⟨b, off, h3, h4, fun k hk => h5 i x hx k hk⟩
theorem Rw.form {w : World} {v : Value} {l : List α} (h : Rw s cs w v l) : ∃ ao cap, v = .slice ao l.length cap := by
 obtain ⟨ao, cap, rfl, _, _⟩ := h; exact ⟨ao, cap, rfl⟩
theorem Rw.len {w : World} {ao : Option Addr} {n cap : Nat} {l : List α} (h : Rw s cs w (.slice ao n cap) l) : n = l.length := by
 obtain ⟨ao', cap', he, _, _⟩ := h; simp at he; omega
theorem Rw.cap {w : World} {ao : Option Addr} {n cap : Nat} {l : List α} (h : Rw s cs w (.slice ao n cap) l) : l.length <= cap := by
 obtain ⟨ao', cap', he, hc, _⟩ := h; simp at he; omega
theorem Rw.nil (w : World) (ao : Option Addr) (cap : Nat) : Rw s cs w (.slice ao 0 cap) [] := ⟨ao, cap, rfl, Nat.zero_le _, Or.inl rfl⟩
theorem Rw.take {w : World} {ao : Option Addr} {n cap : Nat} {l : List α} (h : Rw s cs w (.slice ao n cap) l) (i c : Nat) (hi : i <= l.length) (hc : i <= c) : Rw s cs w (.slice ao i c) (l.take i) := by
 obtain ⟨ao', cap', he, _, h2⟩ := h
 obtain ⟨rfl, rfl, rfl⟩ : ao = ao' /\ n = l.length /\ cap = cap' := by simpa using he
 have hlen : (l.take i).length = i := by rw [List.length_take]; omega
 refine ⟨ao, c, by rw [hlen], by rw [hlen]; exact hc, ?_⟩
 rcases h2 with h2 | ⟨b, off, h3, h4, h5⟩
 ·exact Or.inl (by omega)
 ·refine Or.inr ⟨b, off, h3, h4, fun j x hx k hk => h5 j x ?_ k hk⟩
  rw [List.getElem?_take] at hx
  split at hx
  ·exact hx
  ·cases hx
theorem Out.below {w w' : World} {G n i : Nat} {l : List α} (h : Out s cs w G n l i) (hb : Below w.heap.size w w') : Out s cs w' G n l i :=
 ⟨Nat.lt_of_lt_of_le h.1 hb.size, fun j hj => ⟨by
   obtain ⟨u, hu⟩ := (h.2.1 j hj).1
   exact ⟨u, (hb.cell (p := ⟨G, j, none⟩) h.1).trans hu⟩, (hb.frozen (p := ⟨G, j, none⟩) h.1).trans (h.2.1 j hj).2⟩,
  fun j x hj hx k hk => (hb.cell (p := ⟨G, j * s + k, none⟩) h.1).trans (h.2.2 j x hj hx k hk)⟩
def put (w : World) (G o : Nat) : List Value -> World
 | [] => w
 | v :: vs => put (w.setCell ⟨G, o, none⟩ v) G (o + 1) vs
theorem zie (vs : List Value) : ∀ (w : World) (G o : Nat), (put w G o vs).heap.size = w.heap.size := by
 induction vs with
 | nil => intro w G o; rfl
 | cons v vs ih => intro w G o; show (put (w.setCell ⟨G, o, none⟩ v) G (o + 1) vs).heap.size = _; rw [ih]; simp [World.setCell]
theorem zex (vs : List Value) : ∀ (w : World) (G o j : Nat), (j < o ∨ o + vs.length <= j) -> (put w G o vs).cell? ⟨G, j, none⟩ = w.cell? ⟨G, j, none⟩ := by
 induction vs with
 | nil => intro w G o j _; rfl
 | cons v vs ih =>
  intro w G o j hj
  simp only [List.length_cons] at hj
  show (put (w.setCell ⟨G, o, none⟩ v) G (o + 1) vs).cell? _ = _
  have hne : j ≠ o := by omega
  rw [ih _ _ _ _ (by omega), World.cell?_setCell_other (h := by first | (simp; done) | (simp; exact hne))]
theorem zhz (vs : List Value) : ∀ (w : World) (G o : Nat), (∀ k, k < vs.length -> ∃ u, w.cell? ⟨G, o + k, none⟩ = some u) -> ∀ k v, vs[k]? = some v -> (put w G o vs).cell? ⟨G, o + k, none⟩ = some v := by
 induction vs with
 | nil => intro w G o _ k v h; cases h
 | cons u vs ih =>
  intro w G o hold k v h
  show (put (w.setCell ⟨G, o, none⟩ u) G (o + 1) vs).cell? _ = _
  obtain ⟨u0, hu0⟩ := hold 0 (by simp)
  cases k with
  | zero =>
   simp at h
   subst h
   rw [zex _ _ _ _ _ (by omega)]
   exact World.cell?_setCell_same _ _ _ hu0
  | succ k =>
   have := ih (w.setCell ⟨G, o, none⟩ u) G (o + 1) (fun j hj => by
    obtain ⟨u1, hu1⟩ := hold (j + 1) (by simp; omega)
    refine ⟨u1, ?_⟩
    rw [World.cell?_setCell_other (h := by first | (simp; done) | (simp; omega)), show o + 1 + j = o + (j + 1) by omega]
    exact hu1) k v (by simpa using h)
   rw [show o + (k + 1) = o + 1 + k by omega]
   exact this
theorem zg2 (vs : List Value) : ∀ (w : World) (G o j : Nat), (put w G o vs).frozen? ⟨G, j, none⟩ = w.frozen? ⟨G, j, none⟩ := by
 induction vs with
 | nil => intro w G o j; rfl
 | cons v vs ih => intro w G o j; show (put (w.setCell ⟨G, o, none⟩ v) G (o + 1) vs).frozen? _ = _; rw [ih, World.frozen?_setCell]
theorem Out.set {w : World} {G n i : Nat} {l : List α} {x : α} (h : Out s cs w G n l i) (hi : i < n) (hx : l[i]? = some x) (vs : List Value) (hv : vs.length = s) (hvs : ∀ k, k < s -> vs[k]? = some (.int .i64 (cs x k))) :
  Out s cs (put w G (i * s) vs) G n l (i + 1) := by
 obtain ⟨h1, h2, h3⟩ := h
 have hle : i * s + s <= n * s := by rw [<- Nat.succ_mul]; exact Nat.mul_le_mul_right s hi
 have hnew : ∀ k, k < s -> (put w G (i * s) vs).cell? ⟨G, i * s + k, none⟩ = some (.int .i64 (cs x k)) := fun k hk =>
  zhz vs w G (i * s) (fun j hj => (h2 (i * s + j) (by omega)).1) k _ (hvs k hk)
 refine ⟨by rw [zie]; exact h1, fun j hj => ⟨?_, by rw [zg2]; exact (h2 j hj).2⟩, fun j y hj hy k hk => ?_⟩
 ·by_cases a : i * s <= j /\ j < i * s + s
  ·have := hnew (j - i * s) (by omega)
   rw [show i * s + (j - i * s) = j by omega] at this
   exact ⟨_, this⟩
  ·rw [zex _ _ _ _ _ (by omega)]; exact (h2 j hj).1
 ·by_cases a : j = i
  ·subst a; rw [hx] at hy; cases hy; exact hnew k hk
  ·have hlt : j * s + s <= i * s := by rw [<- Nat.succ_mul]; exact Nat.mul_le_mul_right s (by omega)
   rw [zex _ _ _ _ _ (by omega)]
   exact h3 j y (by omega) hy k hk
theorem Out.old {w : World} {G n i : Nat} {l : List α} (h : Out s cs w G n l i) {j : Nat} (hj : j < n) {k : Nat} (hk : k < s) : (∃ u, w.cell? ⟨G, j * s + k, none⟩ = some u) /\ w.frozen? ⟨G, j * s + k, none⟩ = false := by
 have hle : j * s + s <= n * s := by rw [<- Nat.succ_mul]; exact Nat.mul_le_mul_right s hj
 exact h.2.1 (j * s + k) (by omega)
theorem Out.row {w : World} {G : Nat} {l : List α} (h : Out s cs w G l.length l l.length) (c : Nat) (hc : l.length <= c) : Rw s cs w (.slice (some ⟨G, 0, none⟩) l.length c) l :=
 ⟨_, c, rfl, hc, Or.inr ⟨G, 0, rfl, h.1, fun i x hx k hk => by rw [Nat.zero_add]; exact h.2.2 i x (zed hx) hx k hk⟩⟩
theorem Out.own {w : World} {G base : Nat} {l : List α} (h : Out s cs w G l.length l l.length) (hG : base <= G) (c : Nat) (hc : l.length <= c) : Own s cs w base (.slice (some ⟨G, 0, none⟩) l.length c) l :=
 ⟨_, c, rfl, hc, Or.inr ⟨G, rfl, hG, h⟩⟩
theorem Own.row {w : World} {base : Nat} {v : Value} {l : List α} (h : Own s cs w base v l) : Rw s cs w v l := by
 obtain ⟨ao, cap, rfl, hc, h0 | ⟨G, rfl, _, ho⟩⟩ := h
 ·exact ⟨ao, cap, rfl, hc, Or.inl h0⟩
 ·exact ho.row cap hc
theorem Own.below {w w' : World} {base : Nat} {v : Value} {l : List α} (h : Own s cs w base v l) (hb : Below w.heap.size w w') : Own s cs w' base v l := by
 obtain ⟨ao, cap, rfl, hc, h0 | ⟨G, rfl, hG, ho⟩⟩ := h
 ·exact ⟨ao, cap, rfl, hc, Or.inl h0⟩
 ·exact ⟨_, cap, rfl, hc, Or.inr ⟨G, rfl, hG, ho.below hb⟩⟩
theorem Own.zbr {w : World} {base b2 : Nat} {v : Value} {l : List α} (h : Own s cs w base v l) (hb : b2 <= base) : Own s cs w b2 v l := by
 obtain ⟨ao, cap, rfl, hc, h0 | ⟨G, rfl, hG, ho⟩⟩ := h
 ·exact ⟨ao, cap, rfl, hc, Or.inl h0⟩
 ·exact ⟨_, cap, rfl, hc, Or.inr ⟨G, rfl, Nat.le_trans hb hG, ho⟩⟩
theorem Own.nil (w : World) (b : Nat) (ao : Option Addr) (cap : Nat) : Own s cs w b (.slice ao 0 cap) [] := ⟨ao, cap, rfl, Nat.zero_le _, Or.inl rfl⟩
structure Aside (w w' : World) (v : Value) : Prop where
 os : w'.os = w.os
 tape : w'.tape = w.tape
 output : w'.output = w.output
 size : w'.heap.size = w.heap.size
 block : ∀ j, v.ownBlock ≠ some j -> w'.heap[j]? = w.heap[j]?
theorem Aside.set {w w' : World} {G n c o : Nat} (h : Aside w w' (.slice (some ⟨G, 0, none⟩) n c)) (x : Value) : Aside w (w'.setCell ⟨G, o, none⟩ x) (.slice (some ⟨G, 0, none⟩) n c) := by
 have hb := (Below.refl G w').setCell (p := ⟨G, o, none⟩) (Nat.le_refl _) x
 refine ⟨hb.os.trans h.os, hb.tape.trans h.tape, hb.output.trans h.output, by rw [<- h.size]; simp [World.setCell], fun j hj => ?_⟩
 rw [<- h.block j hj]
 have hne : G ≠ j := fun e => hj (by rw [e]; rfl)
 exact Below.heap_setCell _ _ _ _ (by show j ≠ G; omega)
theorem Aside.put {G n c : Nat} (vs : List Value) : ∀ {w w' : World} (o : Nat), Aside w w' (.slice (some ⟨G, 0, none⟩) n c) -> Aside w (put w' G o vs) (.slice (some ⟨G, 0, none⟩) n c) := by
 induction vs with
 | nil => intro w w' o h; exact h
 | cons v vs ih => intro w w' o h; exact ih (o + 1) (h.set v)
theorem Aside.below {w0 w w' : World} {base : Nat} {v : Value} (h : Aside w w' v) (hb : Below base w0 w) (hv : ∀ j, v.ownBlock = some j -> base <= j) : Below base w0 w' :=
 ⟨h.os.trans hb.os, h.tape.trans hb.tape, h.output.trans hb.output, by rw [h.size]; exact hb.size, fun k hk => by
  rw [<- hb.block k hk]
  exact h.block k (fun e => absurd (hv k e) (by omega))⟩
end
def Apart (v v2 : Value) : Prop := ∀ j, v.ownBlock = some j -> v2.ownBlock ≠ some j
def marks (s : Nat) (k : Int) (n : Nat) : List Int := (List.range n).map (fun i : Nat => k + s * (i : Int))
end Go.Proofs.YtjlpfpigggdemaaGreatDoor
namespace Go.Proofs.YtjlpfpigggdemaaGreatDoor
open Go.RowKit Va
set_option linter.unusedVariables false
theorem ret_bool {a b : Bool} (h : a = b) : Ending.returned (.bool a) = .returned (.bool b) := by rw [h]
theorem zbe (n lo hi : Int) (w : World) : Calls Tryz.prog 38 #[.int .i64 n, .int .i64 lo, .int .i64 hi] w fun e w' => e = .returned (.bool (rng n lo hi)) /\ w = w' := by
 unfold rng
 go_enter Tryz.func38, Tryz.ntmps38
 go_wp2
 all_goals (go_ret; exact ⟨ret_bool (by first | (simp; done) | (simp; omega) | (simp_all; done) | (simp_all; omega) | (rw [Bool.eq_iff_iff]; simp; omega) | (rw [Bool.eq_iff_iff]; simp_all; omega)), rfl⟩)
end Go.Proofs.YtjlpfpigggdemaaGreatDoor
namespace Go.Proofs.YtjlpfpigggdemaaGreatDoor
open Go.RowKit Va
set_option linter.unusedVariables false
theorem zbw (zs : List Int) (W W' : World) (g : Nat) (t : TypeId) (hk : Keep g (W.alloc (.cells (zs.map (fun z => Value.int .i64 z)).toArray t)) W') (hg : g < W.heap.size) (k : Nat) (hz : k < zs.length) : ∃ z : Int, W'.cell? ⟨W.heap.size, k, none⟩ = some (.int .i64 z) := by
 refine ⟨zs[k], ?_⟩
 rw [hk.cell (by simp) (by omega)]
 have e := heap_alloc_new W (.cells (zs.map (fun z => Value.int .i64 z)).toArray t)
 simp only [World.cell?, e]
 simp [hz]
end Go.Proofs.YtjlpfpigggdemaaGreatDoor
namespace Go.Proofs.YtjlpfpigggdemaaGreatDoor.Uo
open Va
set_option linter.all false
structure Od where
 id : Int
 p : Int
 d : Int
 n : Int
 f : Int
 e : Int
 c : Int
 s : Int
 two : Bool
structure Ds where
 o : Int
 t : Int
 m : Int
 b : Int
 a : Int
structure Du where
 o : Int
 t : Int
 s : Int
instance : Inhabited Od := ⟨⟨0, 0, 0, 0, 0, 0, 0, 0, false⟩⟩
instance : Inhabited Ds := ⟨⟨0, 0, 0, 0, 0⟩⟩
def zh (p : Int) : Bool := rng p 0 999
def zl (t : Int) : Bool := rng t 0 10000000
def odB (o : Od) : Bool := rng o.id 1 100000 && (zh o.p && (rng o.d 1 1000 && (rng o.n 1 1000000000 && (zl o.f && (rng o.e 1 1440 && (rng o.c 1 200 && rng o.s 1 4))))))
def zab (l : List Od) (id : Int) : Nat -> Int
 | 0 => -1
 | n + 1 => if 0 <= zab l id n then zab l id n else if (l.getD n default).id = id then (n : Int) else -1
def atO (l : List Od) (id : Int) : Int := zab l id l.length
theorem jm {l : List Od} {i : Nat} {x : Od} (h : l[i]? = some x) : l.getD i default = x := by rw [List.getD_eq_getElem?_getD, h]; rfl
theorem zbj {l : List Ds} {i : Nat} {x : Ds} (h : l[i]? = some x) : l.getD i default = x := by rw [List.getD_eq_getElem?_getD, h]; rfl
theorem zgm (l : List Od) (id : Int) : ∀ n, -1 <= zab l id n /\ zab l id n < (n : Int)
 | 0 => by simp [zab]
 | n + 1 => by
  have := zgm l id n
  unfold zab
  split
  ·omega
  ·split <;> omega
theorem zis (l : List Od) (id : Int) {n : Nat} (h : 0 <= zab l id n) : ∀ k, zab l id (n + k) = zab l id n
 | 0 => rfl
 | k + 1 => by
  have e := zis l id h k
  rw [<- Nat.add_assoc, zab, e, if_pos h]
theorem zgf {l : List Od} {id : Int} {i : Nat} {x : Od} (hx : l[i]? = some x) (h0 : zab l id i = -1) (h : x.id = id) : atO l id = (i : Int) := by
 have h1 : zab l id (i + 1) = (i : Int) := by rw [zab, h0, jm hx]; simp [h]
 have hl := (List.getElem?_eq_some_iff.1 hx).1
 have := zis l id (n := i + 1) (by rw [h1]; omega) (l.length - (i + 1))
 unfold atO
 rw [show l.length = i + 1 + (l.length - (i + 1)) by omega, this, h1]
theorem zh9 {l : List Od} {id : Int} {i : Nat} {x : Od} (hx : l[i]? = some x) (h0 : zab l id i = -1) (h : ¬ x.id = id) : zab l id (i + 1) = -1 := by
 rw [zab, h0, jm hx]; simp [h]
theorem zgw (l : List Od) (id : Int) : ∀ n (k : Nat), n <= l.length -> zab l id n = (k : Int) -> ∃ x, l[k]? = some x /\ x.id = id
 | 0, k, _, h => by simp only [zab] at h; omega
 | n + 1, k, hn, h => by
  unfold zab at h
  split at h
  ·exact zgw l id n k (by omega) h
  ·split at h
   ·rename_i q
    obtain rfl : n = k := by omega
    exact ⟨l[n]'(by omega), List.getElem?_eq_getElem (by omega), by rw [jm (List.getElem?_eq_getElem (show n < l.length by omega))] at q; exact q⟩
   ·omega
theorem zdy {l : List Od} {id : Int} {k : Nat} (h : atO l id = (k : Int)) : ∃ x, l[k]? = some x /\ x.id = id := zgw l id l.length k (Nat.le_refl _) h
theorem atO_bd (l : List Od) (id : Int) : -1 <= atO l id /\ atO l id < (l.length : Int) := zgm l id l.length
def byB (two : Bool) (b a : Int) : Bool := if two = false then decide (a = -1) else decide (¬ a = -1) && decide (¬ a = b)
def qj (l : List Od) (i : Nat) : Bool := odB (l.getD i default) && (decide (i = 0) || decide ((l.getD (i - 1) default).id < (l.getD i default).id))
def za6 (l : List Ds) (i j : Nat) : Bool := decide ((l.getD j default).o = (l.getD i default).o) && decide ((l.getD j default).t = (l.getD i default).t)
def yj (os : List Od) (ds : List Ds) (i : Nat) : Bool :=
 let d := ds.getD i default
 let o := os.getD (atO os d.o).toNat default
 decide (0 <= atO os d.o) && (decide (¬ o.s = 1) && (rng d.t 0 (o.c - 1) && (zl d.m && (zh d.b && ((decide (d.a = -1) || zh d.a) && (byB o.two d.b d.a && (decide (i = 0) || decide ((ds.getD (i - 1) default).m <= d.m))))))))
def okD (os : List Od) (ds : List Ds) (i : Nat) : Bool := yj os ds i && (List.range i).all fun j => !za6 ds i j
def ji (os : List Od) (ds : List Ds) : Bool := decide (os.length <= 100 /\ ds.length <= 500) && ((List.range os.length).all (qj os) && (List.range ds.length).all (okD os ds))
theorem zit {os : List Od} {ds : List Ds} (h : ¬ (os.length <= 100 /\ ds.length <= 500)) : ji os ds = false := by simp [ji, h]
theorem zk4 {os : List Od} {ds : List Ds} {i : Nat} (hi : i < os.length) (h : qj os i = false) : ji os ds = false := by
 have : (List.range os.length).all (qj os) = false := by rw [List.all_eq_false]; exact ⟨i, List.mem_range.2 hi, by simp [h]⟩
 simp [ji, this]
theorem zf4 {os : List Od} {ds : List Ds} {i : Nat} (hi : i < ds.length) (h : okD os ds i = false) : ji os ds = false := by
 have : (List.range ds.length).all (okD os ds) = false := by rw [List.all_eq_false]; exact ⟨i, List.mem_range.2 hi, by simp [h]⟩
 simp [ji, this]
theorem zkm {os : List Od} {ds : List Ds} (h : os.length <= 100 /\ ds.length <= 500) (h1 : ∀ i, i < os.length -> qj os i = true) (h2 : ∀ i, i < ds.length -> okD os ds i = true) : ji os ds = true := by
 simp only [ji, Bool.and_eq_true, decide_eq_true_eq, List.all_eq_true, List.mem_range]
 exact ⟨h, h1, h2⟩
theorem za5 {os : List Od} {ds : List Ds} : ji os ds = true ↔ (os.length <= 100 /\ ds.length <= 500) /\ (∀ i, i < os.length -> qj os i = true) /\ ∀ i, i < ds.length -> okD os ds i = true := by
 simp only [ji, Bool.and_eq_true, decide_eq_true_eq, List.all_eq_true, List.mem_range]
end Go.Proofs.YtjlpfpigggdemaaGreatDoor.Uo
