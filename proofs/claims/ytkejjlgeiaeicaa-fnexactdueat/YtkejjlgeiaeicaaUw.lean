/-
  Turns that were given: the specification.
-/
import Derived.Test.YtkejjlgeiaeicaaUd
import Derived.Test.YtkejjlgeiaeicaaUv
namespace Go.Proofs.Ytkejjlgeiaeicaa
open Go.RowKit Va Uo
set_option linter.all false

theorem giv_take {ds : List Ds} {id t : Int} {i : Nat} {d : Ds} (hd : ds[i]? = some d) (h : givB (ds.take i) id t = false) (h2 : ¬ (d.o = id ∧ d.t = t)) : givB (ds.take (i + 1)) id t = false := by
  rw [List.take_add_one, hd]
  unfold givB at *
  rw [List.any_append, h]
  by_cases q : d.o = id <;> by_cases r : d.t = t <;> simp_all
theorem giv_hit {ds : List Ds} {id t : Int} {i : Nat} {d : Ds} (hd : ds[i]? = some d) (h1 : d.o = id) (h2 : d.t = t) : givB ds id t = true := by
  unfold givB
  rw [List.any_eq_true]
  exact ⟨d, List.mem_of_getElem? hd, by simp [h1, h2]⟩

set_option maxRecDepth 20000 in
set_option maxHeartbeats 2000000 in
theorem sgiv_any (so : Value) (ad : Option Addr) (m dcap : Nat) (ds : List Ds) (id t : Int) (w : World) (hd : VRw 5 cvDs w (.slice ad m dcap) ds) (hm : ds.length ≤ 1048576) (hso : ∃ a n c, so = .slice a n c) :
    Calls Try.prog 61 #[.agg #[so, .slice ad m dcap], .int .i64 id, .int .i64 t] w fun e w' => e = .returned (.bool (givB ds id t)) ∧ Below w.heap.size w w' := by
  obtain rfl := hd.len
  obtain ⟨sa, sn, sc, rfl⟩ := hso
  have hb0 : Below w.heap.size w (w.alloc (.cells #[.slice sa sn sc, .slice ad ds.length dcap] 40)) := (Below.refl _ _).alloc (Nat.le_refl _) _
  have HX := hidden (PB.new w #[.slice sa sn sc, .slice ad ds.length dcap] 40)
  have HD := hidden (hd.below hb0)
  have HB := hidden hb0
  clear hd hb0
  go_enter Try.func61, Try.ntmps61
  go_upto_region 1 with fail
  generalize w.alloc (.cells #[.slice sa sn sc, .slice ad ds.length dcap] 40) = wA at *
  generalize w.heap.size = CB at HX ⊢
  obtain ⟨b0, b1⟩ := HX.out.two
  go_wp2_with fail
  go_loopw [7] (fun iv wr => wr = wA ∧ ∃ i : Nat, i ≤ ds.length ∧ iv = .int .i64 i ∧ Hid (givB (ds.take i) id t = false)) (fun iv _ => ds.length - (intOf iv).toNat)
  case atStart => exact ⟨rfl, 0, Nat.zero_le _, rfl, rfl⟩
  case round =>
    obtain ⟨rfl, i, hi, rfl, hok⟩ := hrel
    by_cases hlt : i < ds.length
    · have hlti : (i : Int) < (ds.length : Int) := by omega
      obtain ⟨x, hx⟩ := some_of ds i hlt
      obtain ⟨g, off, rfl, hg, hcs⟩ := HD.out.at hx
      have c0 : wr.cell? ⟨g, off + i * 5, none⟩ = some (.int .i64 x.o) := hcs 0 (by omega)
      have c1 : wr.cell? ⟨g, off + i * 5 + 1, none⟩ = some (.int .i64 x.t) := hcs 1 (by omega)
      have HX' := hidden hx
      clear hcs hx
      by_cases q : x.o = id
      · by_cases r : x.t = t
        · have HA : Hid (givB ds id t = true) := giv_hit HX'.out q r
          subst q
          subst r
          go_wp2_with fail
          go_ret
          exact ⟨by rw [HA.out]; rfl, HB.out⟩
        · have HA : Hid (givB (ds.take (i + 1)) id t = false) := giv_take HX'.out hok.out (fun h => r h.2)
          subst q
          go_wp2_with fail
          go_roundw
          case rel => exact ⟨by first | rfl | trivial, i + 1, by omega, rfl, HA⟩
          case measure => simp [intOf]; omega
      · have HA : Hid (givB (ds.take (i + 1)) id t = false) := giv_take HX'.out hok.out (fun h => q h.1)
        go_wp2_with fail
        go_roundw
        case rel => exact ⟨by first | rfl | trivial, i + 1, by omega, rfl, HA⟩
        case measure => simp [intOf]; omega
    · have hlti : ¬ (i : Int) < (ds.length : Int) := by omega
      have HA : Hid (givB ds id t = false) := by have := hok.out; rw [show i = ds.length by omega, List.take_length] at this; exact this
      go_wp2_with fail
      go_ret
      exact ⟨by rw [HA.out]; rfl, HB.out⟩
end Go.Proofs.Ytkejjlgeiaeicaa
