/-
  Orders and doses: small functions of the specification.
-/
import Derived.Test.YtkejjlgeiaeicaaUp
import Derived.Test.YtkejjlgeiaeicaaUb1
namespace Go.Proofs.Ytkejjlgeiaeicaa
open Go.RowKit Va Uo
set_option linter.all false

set_option maxHeartbeats 1000000 in
theorem stim_any (p : Int) (w : World) : Calls Try.prog 32 #[.int .i64 p] w fun e w' => e = .returned (.bool (timB p)) ∧ w = w' := by
  have h1 := lin_any p 0 10000000
  unfold timB
  go_enter Try.func32, Try.ntmps32
  go_wp2_with (with_reducible (refine (h1 _).mono ?_); rintro e w1 ⟨rfl, rfl⟩)
  go_ret
  exact ⟨rfl, rfl⟩

set_option maxRecDepth 20000 in
set_option maxHeartbeats 4000000 in
theorem sord_any (x : Od) (w : World) : Calls Try.prog 30 #[aOd x] w fun e w' => e = .returned (.bool (odB x)) ∧ Below w.heap.size w w' := by
  have k1 := lin_any x.id 1 100000
  have k2 := sper_any x.p
  have k3 := lin_any x.d 1 1000
  have k4 := lin_any x.n 1 1000000000
  have k5 := stim_any x.f
  have k6 := lin_any x.e 1 1440
  have k7 := lin_any x.c 1 200
  have k8 := lin_any x.s 1 4
  unfold odB aOd perB
  generalize rng x.id 1 100000 = t1 at *
  generalize rng x.p 0 999 = t2 at *
  generalize rng x.d 1 1000 = t3 at *
  generalize rng x.n 1 1000000000 = t4 at *
  generalize timB x.f = t5 at *
  generalize rng x.e 1 1440 = t6 at *
  generalize rng x.c 1 200 = t7 at *
  generalize rng x.s 1 4 = t8 at *
  rcases t1 with _ | _
  · go_enter Try.func30, Try.ntmps30
    go_wp2_with (with_reducible (first | refine (k1 _).mono ?_ | refine (k2 _).mono ?_ | refine (k3 _).mono ?_ | refine (k4 _).mono ?_ | refine (k5 _).mono ?_ | refine (k6 _).mono ?_ | refine (k7 _).mono ?_ | refine (k8 _).mono ?_); rintro e w1 ⟨rfl, rfl⟩)
    go_ret
    exact ⟨by simp, by repeat (first | exact Below.refl _ _ | assumption | refine st_drew ?_ | refine st_drewN ?_ _ | refine Below.setCell ?_ (by first | omega | (simp; done) | (simp; omega)) _ | refine Below.alloc ?_ (by first | omega | (simp; done) | (simp; omega)) _)⟩
  rcases t2 with _ | _
  · go_enter Try.func30, Try.ntmps30
    go_wp2_with (with_reducible (first | refine (k1 _).mono ?_ | refine (k2 _).mono ?_ | refine (k3 _).mono ?_ | refine (k4 _).mono ?_ | refine (k5 _).mono ?_ | refine (k6 _).mono ?_ | refine (k7 _).mono ?_ | refine (k8 _).mono ?_); rintro e w1 ⟨rfl, rfl⟩)
    go_ret
    exact ⟨by simp, by repeat (first | exact Below.refl _ _ | assumption | refine st_drew ?_ | refine st_drewN ?_ _ | refine Below.setCell ?_ (by first | omega | (simp; done) | (simp; omega)) _ | refine Below.alloc ?_ (by first | omega | (simp; done) | (simp; omega)) _)⟩
  rcases t3 with _ | _
  · go_enter Try.func30, Try.ntmps30
    go_wp2_with (with_reducible (first | refine (k1 _).mono ?_ | refine (k2 _).mono ?_ | refine (k3 _).mono ?_ | refine (k4 _).mono ?_ | refine (k5 _).mono ?_ | refine (k6 _).mono ?_ | refine (k7 _).mono ?_ | refine (k8 _).mono ?_); rintro e w1 ⟨rfl, rfl⟩)
    go_ret
    exact ⟨by simp, by repeat (first | exact Below.refl _ _ | assumption | refine st_drew ?_ | refine st_drewN ?_ _ | refine Below.setCell ?_ (by first | omega | (simp; done) | (simp; omega)) _ | refine Below.alloc ?_ (by first | omega | (simp; done) | (simp; omega)) _)⟩
  rcases t4 with _ | _
  · go_enter Try.func30, Try.ntmps30
    go_wp2_with (with_reducible (first | refine (k1 _).mono ?_ | refine (k2 _).mono ?_ | refine (k3 _).mono ?_ | refine (k4 _).mono ?_ | refine (k5 _).mono ?_ | refine (k6 _).mono ?_ | refine (k7 _).mono ?_ | refine (k8 _).mono ?_); rintro e w1 ⟨rfl, rfl⟩)
    go_ret
    exact ⟨by simp, by repeat (first | exact Below.refl _ _ | assumption | refine st_drew ?_ | refine st_drewN ?_ _ | refine Below.setCell ?_ (by first | omega | (simp; done) | (simp; omega)) _ | refine Below.alloc ?_ (by first | omega | (simp; done) | (simp; omega)) _)⟩
  rcases t5 with _ | _
  · go_enter Try.func30, Try.ntmps30
    go_wp2_with (with_reducible (first | refine (k1 _).mono ?_ | refine (k2 _).mono ?_ | refine (k3 _).mono ?_ | refine (k4 _).mono ?_ | refine (k5 _).mono ?_ | refine (k6 _).mono ?_ | refine (k7 _).mono ?_ | refine (k8 _).mono ?_); rintro e w1 ⟨rfl, rfl⟩)
    go_ret
    exact ⟨by simp, by repeat (first | exact Below.refl _ _ | assumption | refine st_drew ?_ | refine st_drewN ?_ _ | refine Below.setCell ?_ (by first | omega | (simp; done) | (simp; omega)) _ | refine Below.alloc ?_ (by first | omega | (simp; done) | (simp; omega)) _)⟩
  rcases t6 with _ | _
  · go_enter Try.func30, Try.ntmps30
    go_wp2_with (with_reducible (first | refine (k1 _).mono ?_ | refine (k2 _).mono ?_ | refine (k3 _).mono ?_ | refine (k4 _).mono ?_ | refine (k5 _).mono ?_ | refine (k6 _).mono ?_ | refine (k7 _).mono ?_ | refine (k8 _).mono ?_); rintro e w1 ⟨rfl, rfl⟩)
    go_ret
    exact ⟨by simp, by repeat (first | exact Below.refl _ _ | assumption | refine st_drew ?_ | refine st_drewN ?_ _ | refine Below.setCell ?_ (by first | omega | (simp; done) | (simp; omega)) _ | refine Below.alloc ?_ (by first | omega | (simp; done) | (simp; omega)) _)⟩
  rcases t7 with _ | _
  · go_enter Try.func30, Try.ntmps30
    go_wp2_with (with_reducible (first | refine (k1 _).mono ?_ | refine (k2 _).mono ?_ | refine (k3 _).mono ?_ | refine (k4 _).mono ?_ | refine (k5 _).mono ?_ | refine (k6 _).mono ?_ | refine (k7 _).mono ?_ | refine (k8 _).mono ?_); rintro e w1 ⟨rfl, rfl⟩)
    go_ret
    exact ⟨by simp, by repeat (first | exact Below.refl _ _ | assumption | refine st_drew ?_ | refine st_drewN ?_ _ | refine Below.setCell ?_ (by first | omega | (simp; done) | (simp; omega)) _ | refine Below.alloc ?_ (by first | omega | (simp; done) | (simp; omega)) _)⟩
  rcases t8 with _ | _
  · go_enter Try.func30, Try.ntmps30
    go_wp2_with (with_reducible (first | refine (k1 _).mono ?_ | refine (k2 _).mono ?_ | refine (k3 _).mono ?_ | refine (k4 _).mono ?_ | refine (k5 _).mono ?_ | refine (k6 _).mono ?_ | refine (k7 _).mono ?_ | refine (k8 _).mono ?_); rintro e w1 ⟨rfl, rfl⟩)
    go_ret
    exact ⟨by simp, by repeat (first | exact Below.refl _ _ | assumption | refine st_drew ?_ | refine st_drewN ?_ _ | refine Below.setCell ?_ (by first | omega | (simp; done) | (simp; omega)) _ | refine Below.alloc ?_ (by first | omega | (simp; done) | (simp; omega)) _)⟩
  go_enter Try.func30, Try.ntmps30
  go_wp2_with (with_reducible (first | refine (k1 _).mono ?_ | refine (k2 _).mono ?_ | refine (k3 _).mono ?_ | refine (k4 _).mono ?_ | refine (k5 _).mono ?_ | refine (k6 _).mono ?_ | refine (k7 _).mono ?_ | refine (k8 _).mono ?_); rintro e w1 ⟨rfl, rfl⟩)
  go_ret
  exact ⟨rfl, by repeat (first | exact Below.refl _ _ | assumption | refine st_drew ?_ | refine st_drewN ?_ _ | refine Below.setCell ?_ (by first | omega | (simp; done) | (simp; omega)) _ | refine Below.alloc ?_ (by first | omega | (simp; done) | (simp; omega)) _)⟩

set_option maxRecDepth 20000 in
set_option maxHeartbeats 2000000 in
theorem sat_any (ao : Option Addr) (n cap : Nat) (l : List Od) (id : Int) (w : World) (h : VRw 9 cvOd w (.slice ao n cap) l) (hn : l.length ≤ 1048576) :
    Calls Try.prog 31 #[.slice ao n cap, .int .i64 id] w fun e w' => e = .returned (.int .i64 (atO l id)) ∧ w' = w := by
  obtain rfl := h.len
  have HH := hidden h
  clear h
  go_enter Try.func31, Try.ntmps31
  go_wp2_with fail
  go_loopw [5] (fun iv wr => wr = w ∧ ∃ i : Nat, i ≤ l.length ∧ iv = .int .i64 i ∧ Hid (atTo l id i = -1)) (fun iv _ => l.length - (intOf iv).toNat)
  case atStart => exact ⟨rfl, 0, Nat.zero_le _, rfl, rfl⟩
  case round =>
    obtain ⟨rfl, i, hi, rfl, hok⟩ := hrel
    by_cases hlt : i < l.length
    · have hlti : (i : Int) < (l.length : Int) := by omega
      obtain ⟨x, hx⟩ := some_of l i hlt
      obtain ⟨g, off, rfl, hg, hcs⟩ := HH.out.at hx
      have c0 : wr.cell? ⟨g, off + i * 9, none⟩ = some (.int .i64 x.id) := hcs 0 (by omega)
      have HX := hidden hx
      clear hcs hx
      by_cases q : x.id = id
      · have HA : Hid (atO l id = (i : Int)) := atTo_hit HX.out hok.out q
        subst q
        go_wp2_with fail
        go_ret
        exact ⟨by rw [HA.out]; rfl, rfl⟩
      · have HA : Hid (atTo l id (i + 1) = -1) := atTo_miss HX.out hok.out q
        go_wp2_with fail
        go_roundw
        case rel => exact ⟨by first | rfl | trivial, i + 1, by omega, rfl, HA⟩
        case measure => simp [intOf]; omega
    · have hlti : ¬ (i : Int) < (l.length : Int) := by omega
      have HA : Hid (atO l id = -1) := by have := hok.out; rw [show i = l.length by omega] at this; exact this
      go_wp2_with fail
      go_ret
      exact ⟨by rw [HA.out]; rfl, rfl⟩

set_option maxRecDepth 20000 in
set_option maxHeartbeats 2000000 in
theorem sby_any (x : Od) (b a : Int) (w : World) : Calls Try.prog 34 #[aOd x, .int .i64 b, .int .i64 a] w fun e w' => e = .returned (.bool (byB x.two b a)) ∧ Below w.heap.size w w' := by
  obtain ⟨i1, i2, i3, i4, i5, i6, i7, i8, two⟩ := x
  unfold aOd byB
  dsimp only
  by_cases h1 : a = -1
  · subst h1
    rcases two with _ | _
    · go_enter Try.func34, Try.ntmps34
      go_wp2_with fail
      go_ret
      exact ⟨rfl, by repeat (first | exact Below.refl _ _ | assumption | refine st_drew ?_ | refine st_drewN ?_ _ | refine Below.setCell ?_ (by first | omega | (simp; done) | (simp; omega)) _ | refine Below.alloc ?_ (by first | omega | (simp; done) | (simp; omega)) _)⟩
    · go_enter Try.func34, Try.ntmps34
      go_wp2_with fail
      go_ret
      exact ⟨by simp, by repeat (first | exact Below.refl _ _ | assumption | refine st_drew ?_ | refine st_drewN ?_ _ | refine Below.setCell ?_ (by first | omega | (simp; done) | (simp; omega)) _ | refine Below.alloc ?_ (by first | omega | (simp; done) | (simp; omega)) _)⟩
  · have h2 : (a == -1) = false := by simpa using h1
    rcases two with _ | _
    · go_enter Try.func34, Try.ntmps34
      go_wp2_with fail
      go_ret
      exact ⟨by simp [h1], by repeat (first | exact Below.refl _ _ | assumption | refine st_drew ?_ | refine st_drewN ?_ _ | refine Below.setCell ?_ (by first | omega | (simp; done) | (simp; omega)) _ | refine Below.alloc ?_ (by first | omega | (simp; done) | (simp; omega)) _)⟩
    · by_cases h3 : a = b
      · subst h3
        go_enter Try.func34, Try.ntmps34
        go_wp2_with fail
        go_ret
        exact ⟨by simp, by repeat (first | exact Below.refl _ _ | assumption | refine st_drew ?_ | refine st_drewN ?_ _ | refine Below.setCell ?_ (by first | omega | (simp; done) | (simp; omega)) _ | refine Below.alloc ?_ (by first | omega | (simp; done) | (simp; omega)) _)⟩
      · go_enter Try.func34, Try.ntmps34
        go_wp2_with fail
        go_ret
        exact ⟨by simp [h1, h3], by repeat (first | exact Below.refl _ _ | assumption | refine st_drew ?_ | refine st_drewN ?_ _ | refine Below.setCell ?_ (by first | omega | (simp; done) | (simp; omega)) _ | refine Below.alloc ?_ (by first | omega | (simp; done) | (simp; omega)) _)⟩
end Go.Proofs.Ytkejjlgeiaeicaa
