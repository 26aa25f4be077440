/-
  The gone records, collected and put in the order of their places.
-/
import Derived.Test.YtdnnenklkfkhcaaShelf
import Derived.Test.YtdnnenklkfkhcaaTc
import Derived.Test.YtdnnenklkfkhcaaUj
import Derived.Lib.OwnBridge
import Derived.Lib.SlKeysI
import Derived.Lib.AppendIntMem
namespace Go.Proofs.Ytdnnenklkfkhcaa
open Go.RowKit Jn Go.Maps Go.Sort Go.Shelf

def Gone (l : List J) : Type := { x : Int // isG l x = true }
def encG (l : List J) (x : Gone l) : Value := .int .i64 x.1
def cfG (f : Int → Option (Int × Int)) (l : List J) (x y : Gone l) : Int := cmpI (plc f x.1) (plc f y.1)
theorem ltG (f : Int → Option (Int × Int)) (l : List J) (x y : Gone l) : ltOf (cfG f l) x y = decide (plc f x.1 < plc f y.1) := by
  unfold ltOf cfG cmpI
  by_cases h1 : plc f x.1 < plc f y.1
  · simp [h1]
  · by_cases h2 : plc f y.1 < plc f x.1 <;> simp [h1, h2]
theorem swoG (f : Int → Option (Int × Int)) (l : List J) : SWO (ltOf (cfG f l)) :=
  ⟨fun x => by rw [ltG]; simp, fun x y z h1 h2 => by rw [ltG] at *; simp at *; omega, fun x y z h1 h2 => by rw [ltG] at *; simp at *; omega⟩
theorem totG {f : Int → Option (Int × Int)} {l : List J} (h : Tells f l) (x y : Gone l) (h1 : ltOf (cfG f l) x y = false) (h2 : ltOf (cfG f l) y x = false) : x = y := by
  rw [ltG] at h1 h2
  simp at h1 h2
  exact Subtype.ext (h.parts x.1 y.1 x.2 y.2 (by omega))

theorem Bk.of_block {w w' : World} {B n : Nat} {f : Int → Option (Int × Int)} (h : Bk w B n f) (e : w'.heap[B]? = w.heap[B]?) : Bk w' B n f := by
  obtain ⟨D, ⟨es, c, h1, h2⟩, hf⟩ := h
  exact ⟨D, ⟨es, c, e.trans h1, h2⟩, hf⟩
theorem heap_sort {α : Type} [Inhabited α] (enc : α → Value) (w : World) (blk off m : Nat) (dk : Array α) (os : Array Obj) (B : Nat) (hne : B ≠ blk) (hB : B < w.heap.size) : (sortWorld enc w blk off m dk os).heap[B]? = w.heap[B]? := by
  unfold sortWorld grow
  show ((putRow enc (Sort.ahead w m) blk off dk).heap ++ os)[B]? = _
  rw [Array.getElem?_append_left (by simpa [putRow, mapBlock, Sort.ahead] using hB)]
  simp [putRow, mapBlock, Sort.ahead, Array.getElem?_modify, Ne.symm hne]
theorem gone_wf {f : Int → Option (Int × Int)} {l : List J} (h : Tells f l) {x : Int} (hx : isG l x = true) : wfI x := by
  have := pers_wf (h.known x hx)
  exact wfI_of (by omega) (by omega)

theorem keys_perm {w : World} {B n : Nat} {f : Int → Option (Int × Int)} {l : List J} {D : DataW Unit} (hT : Tells f l) (hown : w.ownsMap Try.prog 2 pairE B n D)
    (hf : ∀ x, wfI x → Maps.has D (.int .i64 x) = (f x).isSome ∧ D.atKey (.int .i64 x) (pr 0 0) = two (f x)) : (l.map (·.2)).Perm (intKeys D) := by
  refine CollectedI.perm (D0 := D) (left := fun _ => false) ⟨hT.nodup, fun x => ?_⟩ hown key2 Try.underlying2 (fun _ => rfl)
  rw [mem_isG]
  by_cases hx : wfI x
  · rw [(hf x hx).1, hT.held]; simp
  · constructor
    · intro q; exact absurd (gone_wf hT q) hx
    · rintro ⟨q, _⟩
      obtain ⟨es, rfl, hko⟩ := hown.keysOf
      rw [has_eq, List.any_eq_true] at q
      obtain ⟨p, hp, hs⟩ := q
      obtain ⟨v, hv⟩ := hko p hp
      obtain ⟨y, _, hy, hl⟩ := Maps.keyOf_i64 Try.underlying2 hv
      rw [hy] at hs
      have : y = x := by simpa [Lit.sameKey] using hs
      subst this
      exact absurd hl hx
theorem size_keys {D : DataW Unit} : Maps.size D = (intKeys D).length := by
  cases D <;> simp [Maps.size, intKeys]

theorem collect_any (B n Q : Nat) (f : Int → Option (Int × Int)) (l : List J) (w : World) (h : Bk w B n f) (hT : Tells f l) (hbox : w.cell? ⟨Q, 0, none⟩ = some (.map (some B))) (hQ : Q < w.heap.size) (hl : l.length ≤ 1000) :
    Calls Try.prog 86 #[.func (.func 88) #[] #[.pointer (some ⟨Q, 0, none⟩)]] w fun e w' => ∃ (v : Value) (ss : List Int), e = .returned v ∧ ss.Perm (l.map (·.2)) ∧ w'.ownsRow w.heap.size 2 1 v ss.length (ss.map encZ) ∧ (v = .slice none 0 0 ↔ ss = []) ∧ Below w.heap.size w w' := by
  obtain ⟨D, hown, hf⟩ := h
  have hperm := keys_perm hT hown hf
  have hsz : Maps.size D = l.length := by rw [size_keys, ← hperm.length_eq, List.length_map]
  have hseq : SeqGives Fence.wide 1 Try.prog 88 #[.pointer (some ⟨Q, 0, none⟩)] encZ (fun ss => ss.Perm (intKeys D)) (Maps.size D) w :=
    AnyZI.keys_gives (ρ := Try.keysL_ren) { Try.keysL with } Fence.wide _ trivial rfl (by omega) Q B n D w hQ hbox hown
  have hC := AnyZI.collect_in Try.collL Fence.wide 3 trivial trivial rfl (by omega) 88 #[.pointer (some ⟨Q, 0, none⟩)] trivial (enters_of Try.func88 (by kernel_rfl) rfl) _ (Maps.size D) (by rw [hsz]; unfold maxLen; omega) (by omega) w hseq
  refine ((callsIn_wide (n := 3)).1 hC).mono ?_
  rintro e w' ⟨v, ss, rfl, hp, hrow, hnil, hb⟩
  exact ⟨v, ss, rfl, hp.trans hperm.symm, hrow, hnil, hb⟩

set_option maxRecDepth 20000 in
set_option maxHeartbeats 2000000 in
theorem sortf_any (B n Q g cap : Nat) (f : Int → Option (Int × Int)) (l : List J) (ss : List Int) (base : Nat) (w : World) (h : Bk w B n f) (hT : Tells f l) (hbox : w.cell? ⟨Q, 0, none⟩ = some (.map (some B))) (hQ : Q < base) (hB : B < base) (hl : l.length ≤ 1000)
    (hp : ss.Perm (l.map (·.2))) (hne : ss ≠ []) (hrow : w.ownsRow base 2 1 (.slice (some ⟨g, 0, none⟩) ss.length cap) ss.length (ss.map encZ)) :
    Calls Try.prog 87 #[.slice (some ⟨g, 0, none⟩) ss.length cap, .func (.func 81) #[] #[.pointer (some ⟨Q, 0, none⟩)]] w fun e w' => e = .returned (.tuple #[]) ∧ w'.ownsRow base 2 1 (.slice (some ⟨g, 0, none⟩) ss.length cap) ss.length ((l.map (·.2)).map encZ) ∧ (∀ w0, Below base w0 w → Below base w0 w') := by
  have hmem : ∀ x ∈ ss, isG l x = true := fun x hx => (mem_isG l x).1 (hp.subset hx)
  obtain ⟨x0, hx0⟩ := List.exists_mem_of_ne_nil ss hne
  letI : Inhabited (Gone l) := ⟨⟨x0, hmem x0 hx0⟩⟩
  obtain ⟨zs, hzs⟩ : ∃ zs : List (Gone l), zs.map (fun z => z.1) = ss := ⟨ss.attachWith _ hmem, List.attachWith_map_subtype_val hmem⟩
  have hzl : zs.length = ss.length := by rw [← hzs, List.length_map]
  have henc : ss.map encZ = zs.map (encG l) := by rw [← hzs, List.map_map]; rfl
  have hrow2 : w.ownsRow base 2 1 (.slice (some ⟨g, 0, none⟩) ss.length cap) ss.length (zs.map (encG l)) := by rw [← henc]; exact hrow
  obtain ⟨g', cap', e0, hbg, hgl, _, _, _, hH⟩ := Go.Lib.holds_of_ownsRow hrow2 (by simp)
  obtain ⟨rfl, rfl⟩ : g = g' ∧ cap = cap' := by simpa using e0
  have eg : ∀ args w, (callFunc 81 args).run Try.prog w = .ok (.enter 81 args) w := enters_of Try.func81 (by kernel_rfl) rfl
  have hcmp : CmpLays1 Try.prog 81 #[.pointer (some ⟨Q, 0, none⟩)] (encG l) (cfG f l) g 0 zs.toArray.size w := fun m os dk _ x y => by
    have h1 : Bk (sortWorld (encG l) w g 0 m dk os) B n f := h.of_block (heap_sort _ _ _ _ _ _ _ _ (by omega) (by omega))
    have h2 : (sortWorld (encG l) w g 0 m dk os).cell? ⟨Q, 0, none⟩ = some (.map (some B)) := by
      rw [← hbox]
      simp only [World.cell?, heap_sort (encG l) w g 0 m dk os Q (by omega) (by omega)]
    refine (clos_any B n Q f x.1 y.1 _ h1 h2 (gone_wf hT x.2) (gone_wf hT y.2) (by rw [hT.held]; exact x.2) (by rw [hT.held]; exact y.2)).mono ?_
    rintro e w' ⟨rfl, rfl⟩
    exact ⟨rfl, 0, #[], by rw [grow_empty]; rfl⟩
  have hS := Any.slices_SortFunc_total Try.sortL (encG l) (fun _ => rfl) (cfG f l) (swoG f l) 81 #[.pointer (some ⟨Q, 0, none⟩)] g 0 cap zs.toArray w eg hcmp hH hgl (by rw [List.size_toArray, hzl, hp.length_eq, List.length_map]; omega) (totG hT)
  rw [List.size_toArray, hzl] at hS
  refine hS.mono ?_
  rintro e w' ⟨rfl, q, os, rfl⟩
  generalize hys : (zs.mergeSort fun x y => !ltOf (cfG f l) y x) = ys
  have hyp : ys.Perm zs := by rw [← hys]; exact List.mergeSort_perm _ _
  have hyl : ys.length = ss.length := by rw [hyp.length_eq, hzl]
  have hpw : ys.Pairwise (fun x y => (!ltOf (cfG f l) y x) = true) := by
    rw [← hys]
    refine List.pairwise_mergeSort (fun a b c h1 h2 => ?_) (fun a b => ?_) zs
    · rw [ltG] at *; simp at *; omega
    · rw [ltG, ltG]; simp; omega
  have hord : ys.map (fun z => z.1) = l.map (·.2) := by
    refine hT.order _ (((hyp.map _).trans (by rw [hzs])).trans hp) ?_
    rw [List.pairwise_map]
    exact hpw.imp fun {x y} q => by rw [ltG] at q; simpa using q
  have ho := Go.Lib.ownsRow_putRow (q := q) (k := ss.length) hrow2 hyl (Nat.le_refl _)
  rw [List.take_of_length_le (by omega)] at ho
  have hoe : ys.map (encG l) = (l.map (·.2)).map encZ := by rw [← hord, List.map_map]; rfl
  rw [hoe] at ho
  refine ⟨rfl, ?_, fun w0 hb0 => ?_⟩
  · exact Go.Lib.ownsRow_grow ho 0 os
  · exact (Go.Lib.below_putRow hb0 hbg).trans (Go.Lib.below_grow base _ (by simp [putRow, mapBlock, Sort.ahead]; omega) 0 os)

set_option maxRecDepth 20000 in
set_option maxHeartbeats 2000000 in
theorem sorted_any (B n Q Q2 : Nat) (f : Int → Option (Int × Int)) (l : List J) (w : World) (h : Bk w B n f) (hT : Tells f l) (hbox : w.cell? ⟨Q, 0, none⟩ = some (.map (some B))) (hQ : Q < w.heap.size) (hbox2 : w.cell? ⟨Q2, 0, none⟩ = some (.map (some B))) (hQ2 : Q2 < w.heap.size) (hl : l.length ≤ 1000) :
    Calls Try.prog 79 #[.func (.func 88) #[] #[.pointer (some ⟨Q2, 0, none⟩)], .func (.func 81) #[] #[.pointer (some ⟨Q, 0, none⟩)]] w fun e w' => ∃ ad c, e = .returned (.slice ad l.length c) ∧ w'.ownsRow w.heap.size 2 1 (.slice ad l.length c) l.length ((l.map (·.2)).map encZ) ∧ Below w.heap.size w w' := by
  have hC := collect_any B n Q2 f l w h hT hbox2 hQ2 hl
  have hBl := h.lt
  have HB := hidden h
  clear h hbox2
  go_enter Try.func79, Try.ntmps79
  go_wp2_with fail
  refine hC.mono ?_
  rintro e w1 ⟨v, ss, rfl, hp, hrow, hnil, hb⟩
  have hlen : ss.length = l.length := by rw [hp.length_eq, List.length_map]
  clear hC
  rcases Classical.em (ss = []) with he | hne
  · subst he
    obtain rfl : v = .slice none 0 0 := hnil.2 rfl
    have hN := AnyF.slices_SortFunc_none (P := Try.prog) (ρ := Try.sortL_ren) { Try.sortL with } none 0 (.func (.func 81) #[] #[.pointer (some ⟨Q, 0, none⟩)]) w1
    change Calls Try.prog 87 _ _ _ at hN
    obtain rfl : l = [] := List.eq_nil_of_length_eq_zero hlen.symm
    clear hnil
    go_wp2_with fail
    refine hN.mono ?_
    rintro e w2 ⟨rfl, hw2⟩
    have hw3 := hw2.symm
    clear hw2
    subst hw3
    go_wp2_with fail
    go_ret
    exact ⟨_, _, rfl, hrow, hb⟩
  · have hv : v ≠ .slice none 0 0 := fun q => hne (hnil.1 q)
    obtain ⟨g, cap, rfl⟩ : ∃ g cap, v = .slice (some ⟨g, 0, none⟩) ss.length cap := by
      rcases hrow.2 with ⟨e0, _⟩ | ⟨g, cap, _, e0, _⟩
      · exact absurd e0 hv
      · exact ⟨g, cap, e0⟩
    have hS := sortf_any B n Q g cap f l ss w.heap.size w1 (HB.out.below hb) hT ((hb.cell (p := ⟨Q, 0, none⟩) hQ).trans hbox) hQ hBl hl hp hne hrow
    have HLEN := hidden hlen
    clear hv hnil hrow hne hlen hbox hp
    go_wp2_with fail
    refine hS.mono ?_
    rintro e w2 ⟨rfl, ho2, hb2⟩
    have b2 := hb2 _ hb
    go_wp2_with fail
    go_ret
    exact ⟨_, _, by rw [← HLEN.out]; rfl, by rw [← HLEN.out]; exact ho2, b2⟩
end Go.Proofs.Ytdnnenklkfkhcaa
