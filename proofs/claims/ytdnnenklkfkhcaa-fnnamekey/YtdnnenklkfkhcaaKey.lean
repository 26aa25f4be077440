/-
  Plain facts on keys of names, over bytes: no Go in sight but how its text is decoded.
-/
import Derived.Laws.RangeAny
namespace Go.Proofs.Ytdnnenklkfkhcaa.Nk

def isUp (x : Nat) : Bool := 65 ≤ x && x ≤ 90
def isLow (x : Nat) : Bool := 97 ≤ x && x ≤ 122
def vow (x : Nat) : Bool := x == 97 || x == 101 || x == 105 || x == 111 || x == 117 || x == 104 || x == 119 || x == 121
/-- The small letter of a sign; 0 where it is none. -/
def lowOf (x : Nat) : Nat := if isUp x then x + 32 else if isLow x then x else 0
/-- One letter more. -/
def add1 (acc : List Nat) (y : Nat) : List Nat := if acc ≠ [] ∧ (vow y = true ∨ acc.getLast? = some y) then acc else acc ++ [y]
def step (acc : List Nat) (x : Nat) : List Nat := if lowOf x = 0 then acc else add1 acc (lowOf x)
def keyFrom (acc : List Nat) (bs : List Nat) : List Nat := bs.foldl step acc
/-- The key of the bytes bs. -/
def key (bs : List Nat) : List Nat := keyFrom [] bs

theorem step_high (acc : List Nat) (x : Nat) (h : 128 ≤ x) : step acc x = acc := by
  unfold step lowOf isUp isLow
  rw [if_pos]
  rw [if_neg (by simp; omega), if_neg (by simp; omega)]
theorem keyFrom_high (acc : List Nat) (bs : List Nat) (h : ∀ x ∈ bs, 128 ≤ x) : keyFrom acc bs = acc := by
  induction bs with
  | nil => rfl
  | cons b bs ih =>
    rw [keyFrom, List.foldl_cons, step_high acc b (h b (by simp))]
    exact ih (fun x hx => h x (by simp [hx]))
theorem keyFrom_append (acc a b : List Nat) : keyFrom acc (a ++ b) = keyFrom (keyFrom acc a) b := by simp [keyFrom]

theorem lowOf_range (x : Nat) (h : lowOf x ≠ 0) : 97 ≤ lowOf x ∧ lowOf x ≤ 122 := by
  unfold lowOf isUp isLow at *
  split at h
  · rename_i q; rw [if_pos q]; simp at q; omega
  · rename_i q
    rw [if_neg q]
    split at h
    · rename_i p; rw [if_pos p]; simp at p; omega
    · omega
def Small (l : List Nat) : Prop := ∀ x ∈ l, 97 ≤ x ∧ x ≤ 122
theorem step_small (acc : List Nat) (x : Nat) (h : Small acc) : Small (step acc x) := by
  unfold step add1
  split
  · exact h
  · rename_i q
    split
    · exact h
    · intro y hy
      rcases List.mem_append.1 hy with a | a
      · exact h y a
      · rw [List.mem_singleton.1 a]; exact lowOf_range x q
theorem keyFrom_small (acc bs : List Nat) (h : Small acc) : Small (keyFrom acc bs) := by
  induction bs generalizing acc with
  | nil => exact h
  | cons b bs ih => rw [keyFrom, List.foldl_cons]; exact ih _ (step_small acc b h)
theorem step_len (acc : List Nat) (x : Nat) : (step acc x).length ≤ acc.length + 1 := by
  unfold step add1
  split
  · omega
  · split
    · omega
    · simp
theorem keyFrom_len (acc bs : List Nat) : (keyFrom acc bs).length ≤ acc.length + bs.length := by
  induction bs generalizing acc with
  | nil => simp [keyFrom]
  | cons b bs ih =>
    rw [keyFrom, List.foldl_cons]
    have := ih (step acc b)
    rw [keyFrom] at this
    have := step_len acc b
    simp; omega

/-- The bytes of a string, from one place on to another. -/
def nats (s : ByteArray) : List Nat := s.data.toList.map UInt8.toNat
theorem nats_length (s : ByteArray) : (nats s).length = s.size := by unfold nats; rw [List.length_map, Array.length_toList]; rfl
theorem nats_get (s : ByteArray) (i : Nat) (h : i < s.size) : (nats s)[i]? = some (s.get! i).toNat := by
  have h2 : i < s.data.size := h
  unfold nats
  rw [List.getElem?_map, Array.getElem?_toList, Array.getElem?_eq_getElem h2, Option.map_some]
  show some (s.data[i].toNat) = some (s.data[i]!.toNat)
  rw [getElem!_pos s.data i h2]
theorem nats_drop (s : ByteArray) (pos : Nat) (h : pos < s.size) : (nats s).drop pos = (s.get! pos).toNat :: (nats s).drop (pos + 1) := by
  have h1 : pos < (nats s).length := by rw [nats_length]; exact h
  rw [List.drop_eq_getElem_cons h1]
  have h2 := nats_get s pos h
  rw [List.getElem?_eq_getElem h1] at h2
  rw [Option.some.inj h2]

/-- What a range over a string takes at a place. -/
theorem decode_eats (s : ByteArray) (pos : Nat) (h : pos < s.size) (acc : List Nat) :
    1 ≤ (Utf8.decode s pos).2 ∧ pos + (Utf8.decode s pos).2 ≤ s.size ∧ (lowOf (Utf8.decode s pos).1 = lowOf (s.get! pos).toNat) ∧
    keyFrom acc ((nats s).drop pos) = keyFrom (step acc (Utf8.decode s pos).1) ((nats s).drop (pos + (Utf8.decode s pos).2)) := by
  by_cases ha : (s.get! pos).toNat < 128
  · have hd : Utf8.decode s pos = ((s.get! pos).toNat, 1) := by
      unfold Utf8.decode
      simp only [Nat.add_zero]
      rw [if_pos ha]
    rw [hd, nats_drop s pos h]
    refine ⟨Nat.le_refl _, h, rfl, ?_⟩
    rw [keyFrom, List.foldl_cons]
    rfl
  · have hlow0 : lowOf (s.get! pos).toNat = 0 := by
      unfold lowOf isUp isLow
      rw [if_neg (by simp; omega), if_neg (by simp; omega)]
    have key1 : ∀ n k, 128 ≤ n → 1 ≤ k → pos + k ≤ s.size → (∀ j, j < k → 128 ≤ (s.get! (pos + j)).toNat) →
        (1 ≤ k ∧ pos + k ≤ s.size ∧ lowOf n = lowOf (s.get! pos).toNat ∧ keyFrom acc ((nats s).drop pos) = keyFrom (step acc n) ((nats s).drop (pos + k))) := by
      intro n k hn hk hks hj
      have hln : lowOf n = 0 := by unfold lowOf isUp isLow; rw [if_neg (by simp; omega), if_neg (by simp; omega)]
      refine ⟨hk, hks, by rw [hln, hlow0], ?_⟩
      rw [step_high acc n hn]
      have : ∀ j, j ≤ k → keyFrom acc ((nats s).drop pos) = keyFrom acc ((nats s).drop (pos + j)) := by
        intro j
        induction j with
        | zero => intro _; rfl
        | succ j ih =>
          intro hjk
          rw [ih (by omega), nats_drop s (pos + j) (by omega), keyFrom, List.foldl_cons, step_high acc _ (hj j (by omega))]
          rfl
      exact this k (Nat.le_refl _)
    have h0 : 128 ≤ (s.get! (pos + 0)).toNat := by simpa using (by omega : 128 ≤ (s.get! pos).toNat)
    have one : (1 ≤ 1 ∧ pos + 1 ≤ s.size ∧ lowOf Utf8.runeError = lowOf (s.get! pos).toNat ∧ keyFrom acc ((nats s).drop pos) = keyFrom (step acc Utf8.runeError) ((nats s).drop (pos + 1))) :=
      key1 Utf8.runeError 1 (by decide) (Nat.le_refl _) (by omega) (by intro j hj; have : j = 0 := by omega
                                                                       subst this; exact h0)
    unfold Utf8.decode
    simp only [Nat.add_zero]
    rw [if_neg ha]
    split
    · rename_i c1
      simp only [Bool.and_eq_true, decide_eq_true_eq, beq_iff_eq] at c1
      split
      · rename_i c2
        refine key1 _ 2 c2 (by omega) (by omega) ?_
        intro j hj
        have : j = 0 ∨ j = 1 := by omega
        rcases this with rfl | rfl
        · exact h0
        · omega
      · exact one
    · split
      · rename_i c1
        simp only [Bool.and_eq_true, decide_eq_true_eq, beq_iff_eq] at c1
        split
        · rename_i c2
          simp only [Bool.and_eq_true, decide_eq_true_eq] at c2
          refine key1 _ 3 (by omega) (by omega) (by omega) ?_
          intro j hj
          have : j = 0 ∨ j = 1 ∨ j = 2 := by omega
          rcases this with rfl | rfl | rfl
          · exact h0
          · omega
          · omega
        · exact one
      · split
        · rename_i c1
          simp only [Bool.and_eq_true, decide_eq_true_eq, beq_iff_eq] at c1
          split
          · rename_i c2
            simp only [Bool.and_eq_true, decide_eq_true_eq] at c2
            refine key1 _ 4 (by omega) (by omega) (by omega) ?_
            intro j hj
            have : j = 0 ∨ j = 1 ∨ j = 2 ∨ j = 3 := by omega
            rcases this with rfl | rfl | rfl | rfl
            · exact h0
            · omega
            · omega
            · omega
          · exact one
        · exact one

theorem lowOf_small (y : Nat) (h : 97 ≤ y ∧ y ≤ 122) : lowOf y = y := by
  unfold lowOf isUp isLow
  rw [if_neg (by simp; omega), if_pos (by simp; omega)]
theorem key_step (acc : List Nat) (x : Nat) (h : key acc = acc) : key (step acc x) = step acc x := by
  by_cases hz : lowOf x = 0
  · have : step acc x = acc := by unfold step; rw [if_pos hz]
    rw [this, h]
  · have hs := lowOf_range x hz
    unfold step
    rw [if_neg hz]
    unfold add1
    split
    · exact h
    · rename_i q
      unfold key at *
      rw [keyFrom_append, h]
      show step acc (lowOf x) = _
      unfold step
      rw [lowOf_small _ hs, if_neg hz]
      unfold add1
      rw [if_neg q]
theorem key_keyFrom (acc bs : List Nat) (h : key acc = acc) : key (keyFrom acc bs) = keyFrom acc bs := by
  induction bs generalizing acc with
  | nil => exact h
  | cons b bs ih => rw [keyFrom, List.foldl_cons]; exact ih _ (key_step acc b h)
/-- The key of a key is the key. -/
theorem key_key (bs : List Nat) : key (key bs) = key bs := key_keyFrom [] bs rfl

/-- Great letters for small ones. -/
def upOf (x : Nat) : Nat := if isLow x then x - 32 else x
theorem lowOf_up (x : Nat) : lowOf (upOf x) = lowOf x := by
  unfold upOf lowOf isUp isLow
  by_cases h : 97 ≤ x ∧ x ≤ 122
  · have e1 : (decide (97 ≤ x) && decide (x ≤ 122)) = true := by simp; omega
    have e2 : (decide (65 ≤ x) && decide (x ≤ 90)) = false := by simp; omega
    rw [if_pos e1, e1, e2]
    have e3 : (decide (65 ≤ x - 32) && decide (x - 32 ≤ 90)) = true := by simp; omega
    rw [if_pos e3]
    simp; omega
  · have e1 : (decide (97 ≤ x) && decide (x ≤ 122)) = false := by simp; omega
    rw [if_neg (c := (decide (97 ≤ x) && decide (x ≤ 122)) = true) (by rw [e1]; decide)]
theorem step_up (acc : List Nat) (x : Nat) : step acc (upOf x) = step acc x := by unfold step; rw [lowOf_up]
theorem step_dash (acc : List Nat) : step acc 45 = acc := by unfold step; rw [if_pos (by decide)]
def loud (bs : List Nat) : List Nat := bs.flatMap (fun x => [upOf x, 45])
theorem loud_snoc (bs : List Nat) (x : Nat) : loud (bs ++ [x]) = loud bs ++ [upOf x, 45] := by simp [loud]
theorem keyFrom_loud (acc bs : List Nat) : keyFrom acc (loud bs) = keyFrom acc bs := by
  induction bs generalizing acc with
  | nil => rfl
  | cons b bs ih =>
    have : loud (b :: bs) = upOf b :: 45 :: loud bs := rfl
    rw [this, keyFrom, List.foldl_cons, List.foldl_cons, step_up, step_dash]
    exact ih _
theorem key_loud (bs : List Nat) : key (loud bs) = key bs := keyFrom_loud [] bs
end Go.Proofs.Ytdnnenklkfkhcaa.Nk
