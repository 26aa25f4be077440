/-
  An entry of a map looked for and then stored into: two operations. No program in sight.
-/
import Derived.Maps.OwnSet
import Derived.Maps.OwnOps
import Derived.WideKeyEntry
namespace Go.Proofs.Ytbabknhccapaoaa.Rt
open Go Go.Maps Go.ChangeMaps Go.MapKept
open Go.WideMaps (KeyLaw)
open Go.WideElems (Fit rd rg pl entry_then_store)
set_option linter.all false

section
variable {H : Type} {P : Program} {w : World} {t k e : TypeId} {b n : Nat} {D : DataW H}

theorem own_heap {R : Value → Option (DataW H × List MemPlace)} {w2 : World} (h : w.ownsMap P k R b n D) (he : w2.heap[b]? = w.heap[b]?) : w2.ownsMap P k R b n D := by
  obtain ⟨es, clock, hb, r⟩ := h
  exact ⟨es, clock, he.trans hb, r⟩
theorem setBlock_self {es : Array MapEntry} {clock : Nat} (hb : w.heap[b]? = some (.map es clock)) : (setBlock w b (.map es clock)).heap[b]? = w.heap[b]? := by
  rw [heap_setBlock_same hb, hb]
/-- The entry is looked for: what it holds, its stamp; a look at it gives the same; a store into it is a store into the map. -/
theorem entry_own (K : KeyLaw P k) (ht : P.underlying t = some (.map k e)) (he : P.underlying e = some (.int .i64)) (hz : ∀ u : World, (zeroValue e).run P u = .ok (.int .i64 0) u) (h : w.ownsMap P k (plainElem P e) b n D) (hn : n < maxLen)
    {key : Value} {kl : Lit} (hkey : keyOf P k key = some kl) {c : Int} (hc : D.atKey kl (.lit (.int .i64 0)) = .lit (.int .i64 c)) :
    ∃ (st : Nat) (es9 : Array MapEntry) (ck9 : Nat), (∀ u : World, u.heap[b]? = w.heap[b]? → (Instr.mapEntry t (.map (some b)) key).run P u = .ok (.tuple #[.int .i64 c, goInt st]) (setBlock u b (.map es9 ck9))) ∧
      (∀ u : World, u.heap[b]? = some (.map es9 ck9) → (Instr.lookup t (.map (some b)) key false).run P u = .ok (.int .i64 c) u) ∧
      ∀ (u : World) (a : Int), (Lit.int .i64 a).wf = true → u.heap[b]? = some (.map es9 ck9) → ∃ o2, (Instr.entryStore t (.map (some b)) (goInt st) (.int .i64 a)).run P u = .ok () (setBlock u b o2) ∧ ∀ u2 : World, u2.heap[b]? = some o2 → u2.ownsMap P k (plainElem P e) b (n + 1) (D.put kl (.lit (.int .i64 a))) := by
  have h0 := h
  obtain ⟨es, clock, hb, F, hs, hD⟩ := h
  have K2 : Keyed P k := Keyed.of_law K
  have hw0 : (Lit.int .i64 0).wf = true := by decide
  obtain ⟨s1, s2, s3⟩ := F.stamped
  have gen : ∀ u : World, u.heap[b]? = w.heap[b]? → ∃ (v0 : Value) (st : Nat) (es1 : Array MapEntry) (clock1 : Nat), (Instr.mapEntry t (.map (some b)) key).run P u = .ok (.tuple #[v0, goInt st]) (setBlock u b (.map es1 clock1)) ∧
      ((∃ e0 ∈ es.toList, e0.key = key ∧ v0 = e0.val) ∨ ((∀ x ∈ es.toList, x.key ≠ key) ∧ v0 = .int .i64 0)) ∧
      ∀ (w2 : World) (val : Value), w2.heap[b]? = some (.map es1 clock1) → ∃ es' clock', (Instr.entryStore t (.map (some b)) (goInt st) val).run P w2 = .ok () (setBlock w2 b (.map es' clock')) ∧
        (Instr.mapUpdate t (.map (some b)) key val).run P u = .ok () (setBlock u b (.map es' clock')) := fun u hu => entry_then_store K ht hz (hu.trans hb) F hkey
  rcases K.find w hkey es.toList F.keys with ⟨h1, h2⟩ | ⟨j, e0, h1, h2, h3⟩
  · -- there was none
    have run1 : ∀ u : World, u.heap[b]? = w.heap[b]? → (Instr.mapEntry t (.map (some b)) key).run P u = .ok (.tuple #[.int .i64 0, goInt clock]) (setBlock u b (.map (es.push ⟨key, .int .i64 0, clock⟩) (clock + 1))) := fun u hu => by
      rcases K.find u hkey es.toList F.keys with ⟨k1, _⟩ | ⟨j, e0, _, k2, k3⟩
      · simp [Instr.mapEntry, run_underlying ht, MapKept.run_getObj_map (hu.trans hb), K.check u false hkey, k1, hz, MapKept.run_setObj_map _ (hu.trans hb), Result.andThen, setBlock]
      · exact absurd k3 (h2 e0 (List.mem_of_getElem? k2))
    have hc0 : c = 0 := by
      rcases fit_look false K2 ht (hz w) hb F hkey with ⟨_, _, hat⟩ | ⟨e0, y, m0, m1, _⟩
      · rw [hD, hat] at hc
        simpa using hc.symm
      · exact absurd m1 (h2 e0 m0)
    subst hc0
    have up : ∀ u : World, u.heap[b]? = w.heap[b]? → ∀ val, (Instr.mapUpdate t (.map (some b)) key val).run P u = .ok () (setBlock u b (.map (es.push ⟨key, val, clock⟩) (clock + 1))) := fun u hu val => by
      rcases K.find u hkey es.toList F.keys with ⟨k1, _⟩ | ⟨j, e0, _, k2, k3⟩
      · simp [Instr.mapUpdate, run_underlying ht, MapKept.run_getObj_map (hu.trans hb), K.check u false hkey, k1, MapKept.run_setObj_map _ (hu.trans hb), Result.andThen, setBlock]
      · exact absurd k3 (h2 e0 (List.mem_of_getElem? k2))
    have owns : ∀ a : Int, (Lit.int .i64 a).wf = true → ∀ u2 : World, u2.heap[b]? = some (.map (es.push ⟨key, .int .i64 a, clock⟩) (clock + 1)) → u2.ownsMap P k (plainElem P e) b (n + 1) (D.put kl (.lit (.int .i64 a))) := fun a ha u2 hu2 => by
      obtain ⟨w', r1, r2, _⟩ := h0.update K2 ht hn hkey (plainElem_int he ha)
      rw [up w rfl] at r1
      cases r1
      exact own_heap r2 (by rw [hu2, heap_setBlock_same hb])
    refine ⟨clock, _, _, run1, fun u hu => ?_, fun u a ha hu => ?_⟩
    · have hu' := owns 0 hw0 u hu
      obtain ⟨c1, q1, q2, _⟩ := hu'.lookup_int K2 ht he (hz u) hkey
      rw [atKey_put_same h0.isMap (K2.key hkey)] at q2
      have : c1 = 0 := by simpa using q2.symm
      rw [q1, this]
    · obtain ⟨v0, st, es1, clock1, r1, _, r3⟩ := gen w rfl
      rw [run1 w rfl] at r1
      simp only [Result.ok.injEq, Value.tuple.injEq] at r1
      obtain ⟨rv, rw1⟩ := r1
      have est : goInt clock = goInt st := by have := congrArg (fun x : Array Value => x.getD 1 undef) rv; exact this
      have eob : some (Obj.map (es.push ⟨key, .int .i64 0, clock⟩) (clock + 1)) = some (Obj.map es1 clock1) := by
        have := congrArg (fun u : World => u.heap[b]?) rw1
        simpa [heap_setBlock_same hb] using this
      obtain ⟨es', clock', p1, p2⟩ := r3 u (.int .i64 a) (hu.trans eob)
      rw [up w rfl] at p2
      refine ⟨_, by rw [est]; exact p1, fun u2 hu2 => owns a ha u2 ?_⟩
      have := congrArg (fun r : Result Unit => match r with | .ok _ v => v.heap[b]? | _ => none) p2
      simp only [heap_setBlock_same hb] at this
      rw [hu2, ← this]
  · -- there was one
    have hj : es[j]? = some e0 := by simpa using h2
    have hce : e0.val = .int .i64 c := by
      rcases fit_look false K2 ht (hz w) hb F hkey with ⟨_, m1, _⟩ | ⟨e1, y, m0, m1, m2, m3, hat, _⟩
      · exact absurd h3 (m1 e0 (List.mem_of_getElem? h2))
      · have e10 : e1.val = e0.val := by
          have q1 : (Instr.lookup t (.map (some b)) key false).run P w = .ok e0.val w := by
            simp [Instr.lookup, run_underlying ht, MapKept.run_getObj_map hb, K2.check w _ hkey, h1, Result.andThen]
          rw [q1] at m2
          simpa using m2.symm
        obtain ⟨a, ea, ez, _⟩ := plainElem_int_inv he m3
        rw [hD, hat, ez] at hc
        have : a = c := by simpa using hc
        rw [← e10, ea, this]
    have hsame : es.modify j (fun e => { e with key := key }) = es := by
      apply Array.ext'
      rw [Array.toList_modify, modify_eq_set _ _ _ _ h2]
      have : ({ e0 with key := key } : MapEntry) = e0 := by rw [← h3]
      rw [this]
      exact WideElems.set_self _ _ _ h2
    have fnd : ∀ u : World, (Instr.findKey k key es.toList).run P u = .ok (some (j, e0.val)) u := fun u => by
      rcases K.find u hkey es.toList F.keys with ⟨_, k1⟩ | ⟨j2, e2, k1, k2, k3⟩
      · exact absurd h3 (k1 e0 (List.mem_of_getElem? h2))
      · obtain ⟨hr1, hr2⟩ : j2 = j ∧ e2 = e0 := by
          have hj2 := (List.getElem?_eq_some_iff.1 k2).1
          have hj1 := (List.getElem?_eq_some_iff.1 h2).1
          by_cases q : j2 = j
          · subst q; rw [k2] at h2; exact ⟨rfl, by simpa using h2⟩
          · have hp := List.pairwise_iff_getElem.1 s3
            have m1 : (es.toList.map (·.key))[j2]'(by simpa using hj2) = key := by
              rw [List.getElem_map, (List.getElem?_eq_some_iff.1 k2).2]; exact k3
            have m2 : (es.toList.map (·.key))[j]'(by simpa using hj1) = key := by
              rw [List.getElem_map, (List.getElem?_eq_some_iff.1 h2).2]; exact h3
            rcases Nat.lt_or_gt_of_ne q with q' | q'
            · exact absurd (m1.trans m2.symm) (hp j2 j (by simpa using hj2) (by simpa using hj1) q')
            · exact absurd (m2.trans m1.symm) (hp j j2 (by simpa using hj1) (by simpa using hj2) q')
        rw [k1, hr1, hr2]
    have run1 : ∀ u : World, u.heap[b]? = w.heap[b]? → (Instr.mapEntry t (.map (some b)) key).run P u = .ok (.tuple #[.int .i64 c, goInt e0.born]) (setBlock u b (.map es clock)) := fun u hu => by
      simp [Instr.mapEntry, run_underlying ht, MapKept.run_getObj_map (hu.trans hb), K.check u false hkey, fnd u, hj, h3, K.stays u hkey, hsame, MapKept.run_setObj_map _ (hu.trans hb), Result.andThen, setBlock, hce]
    refine ⟨e0.born, _, _, run1, fun u hu => ?_, fun u a ha hu => ?_⟩
    · simp [Instr.lookup, run_underlying ht, MapKept.run_getObj_map hu, K2.check u _ hkey, fnd u, Result.andThen, hce]
    · obtain ⟨v0, st, es1, clock1, r1, _, r3⟩ := gen w rfl
      rw [run1 w rfl] at r1
      simp only [Result.ok.injEq, Value.tuple.injEq] at r1
      obtain ⟨rv, rw1⟩ := r1
      have est : goInt e0.born = goInt st := by have := congrArg (fun x : Array Value => x.getD 1 undef) rv; exact this
      have eob : some (Obj.map es clock) = some (Obj.map es1 clock1) := by
        have := congrArg (fun u : World => u.heap[b]?) rw1
        simpa [heap_setBlock_same hb] using this
      obtain ⟨es', clock', p1, p2⟩ := r3 u (.int .i64 a) (hu.trans eob)
      refine ⟨_, by rw [est]; exact p1, fun u2 hu2 => ?_⟩
      obtain ⟨w', q1, q2, _⟩ := h0.update K2 ht hn hkey (plainElem_int he ha)
      rw [p2] at q1
      cases q1
      exact own_heap q2 (by rw [hu2, heap_setBlock_same hb])
end
end Go.Proofs.Ytbabknhccapaoaa.Rt
