/-
  Plain facts on vital signs and their points; no Go in sight.
-/
namespace Go.Proofs.Ytgcpiinmcbdkmaa.Va

structure Vt where
  b : Int
  o : Int
  p : Int
  u : Int
  a : Int
  h : Int

def rng (x lo hi : Int) : Bool := decide (lo ≤ x) && decide (x ≤ hi)
/-- As the specification asks. -/
def vOk (v : Vt) : Bool := rng v.b (-1) 99 && (rng v.o (-1) 100 && (rng v.p (-1) 400 && (rng v.u (-1) 400 && (rng v.a (-1) 1 && (decide (v.h = -1) || rng v.h 200 460)))))
theorem rng_iff {x lo hi : Int} : rng x lo hi = true ↔ lo ≤ x ∧ x ≤ hi := by simp [rng]
theorem vOk_iff {v : Vt} : vOk v = true ↔ (-1 ≤ v.b ∧ v.b ≤ 99) ∧ (-1 ≤ v.o ∧ v.o ≤ 100) ∧ (-1 ≤ v.p ∧ v.p ≤ 400) ∧ (-1 ≤ v.u ∧ v.u ≤ 400) ∧ (-1 ≤ v.a ∧ v.a ≤ 1) ∧ (v.h = -1 ∨ (200 ≤ v.h ∧ v.h ≤ 460)) := by simp [vOk, rng]

def bp (n : Int) : Int := if n ≤ 8 ∨ 25 ≤ n then 3 else if 21 ≤ n then 2 else if n ≤ 11 then 1 else 0
def op (n : Int) : Int := if n ≤ 91 then 3 else if n ≤ 93 then 2 else if n ≤ 95 then 1 else 0
def pp (n : Int) : Int := if n ≤ 90 ∨ 220 ≤ n then 3 else if n ≤ 100 then 2 else if n ≤ 110 then 1 else 0
def up (n : Int) : Int := if n ≤ 40 ∨ 131 ≤ n then 3 else if 111 ≤ n then 2 else if n ≤ 50 ∨ 91 ≤ n then 1 else 0
def ap (n : Int) : Int := if n = 0 then 3 else 0
def hp (n : Int) : Int := if n ≤ 350 then 3 else if 391 ≤ n then 2 else if n ≤ 360 ∨ 381 ≤ n then 1 else 0
/-- The points of a sign, -1 where it was not measured. -/
def pt (f : Int → Int) (n : Int) : Int := if n < 0 then -1 else f n
def six (v : Vt) : List Int := [pt bp v.b, pt op v.o, pt pp v.p, pt up v.u, pt ap v.a, pt hp v.h]

def sumL (l : List Int) : Int := (l.map fun x => if x < 0 then 0 else x).sum
def noneL (l : List Int) : Int := ((l.filter fun x => decide (x < 0)).length : Int)
def threeL (l : List Int) : Bool := l.any fun x => decide (x = 3)
theorem sumL_snoc (l : List Int) (x : Int) : sumL (l ++ [x]) = sumL l + (if x < 0 then 0 else x) := by simp [sumL]
theorem noneL_snoc (l : List Int) (x : Int) : noneL (l ++ [x]) = noneL l + (if x < 0 then 1 else 0) := by
  unfold noneL
  by_cases h : x < 0
  · rw [if_pos h]; simp [List.filter_append, h]
  · rw [if_neg h]; simp [List.filter_append, h]
theorem threeL_snoc (l : List Int) (x : Int) : threeL (l ++ [x]) = (threeL l || decide (x = 3)) := by simp [threeL]

theorem bp_bd (n : Int) : 0 ≤ bp n ∧ bp n ≤ 3 := by unfold bp; split; omega; split; omega; split <;> omega
theorem op_bd (n : Int) : 0 ≤ op n ∧ op n ≤ 3 := by unfold op; split; omega; split; omega; split <;> omega
theorem pp_bd (n : Int) : 0 ≤ pp n ∧ pp n ≤ 3 := by unfold pp; split; omega; split; omega; split <;> omega
theorem up_bd (n : Int) : 0 ≤ up n ∧ up n ≤ 3 := by unfold up; split; omega; split; omega; split <;> omega
theorem ap_bd (n : Int) : 0 ≤ ap n ∧ ap n ≤ 3 := by unfold ap; split <;> omega
theorem hp_bd (n : Int) : 0 ≤ hp n ∧ hp n ≤ 3 := by unfold hp; split; omega; split; omega; split <;> omega
theorem pt_bd {f : Int → Int} (h : ∀ n, 0 ≤ f n ∧ f n ≤ 3) (n : Int) : -1 ≤ pt f n ∧ pt f n ≤ 3 := by
  unfold pt
  split
  · omega
  · have := h n; omega
theorem six_bd (v : Vt) : ∀ x ∈ six v, -1 ≤ x ∧ x ≤ 3 := by
  intro x hx
  simp only [six, List.mem_cons, List.not_mem_nil, or_false] at hx
  rcases hx with rfl | rfl | rfl | rfl | rfl | rfl
  · exact pt_bd bp_bd _
  · exact pt_bd op_bd _
  · exact pt_bd pp_bd _
  · exact pt_bd up_bd _
  · exact pt_bd ap_bd _
  · exact pt_bd hp_bd _
theorem sumL_bd (l : List Int) (h : ∀ x ∈ l, -1 ≤ x ∧ x ≤ 3) : 0 ≤ sumL l ∧ sumL l ≤ 3 * (l.length : Int) := by
  induction l with
  | nil => simp [sumL]
  | cons a l ih =>
    have i := ih fun x hx => h x (List.mem_cons_of_mem _ hx)
    have q := h a List.mem_cons_self
    have e : sumL (a :: l) = (if a < 0 then 0 else a) + sumL l := by simp [sumL]
    rw [e, List.length_cons]
    split <;> omega
theorem noneL_bd (l : List Int) : 0 ≤ noneL l ∧ noneL l ≤ (l.length : Int) := by
  unfold noneL
  have := List.length_filter_le (fun x => decide (x < 0)) l
  omega
theorem take_bd (v : Vt) (i : Nat) : (0 ≤ sumL ((six v).take i) ∧ sumL ((six v).take i) ≤ 18) ∧ (0 ≤ noneL ((six v).take i) ∧ noneL ((six v).take i) ≤ 6) := by
  have a := sumL_bd ((six v).take i) fun x hx => six_bd v x (List.mem_of_mem_take hx)
  have b := noneL_bd ((six v).take i)
  have c : ((six v).take i).length ≤ 6 := by rw [List.length_take]; simp [six]; omega
  omega

def psum (v : Vt) : Int := if vOk v then sumL (six v) else 0
def pnone (v : Vt) : Int := if vOk v then noneL (six v) else 0
def pthree (v : Vt) : Bool := if vOk v then threeL (six v) else false
theorem psum_bd (v : Vt) : 0 ≤ psum v ∧ psum v ≤ 18 := by
  unfold psum
  split
  · exact (take_bd v 6).1
  · omega
theorem pnone_bd (v : Vt) : 0 ≤ pnone v ∧ pnone v ≤ 6 := by
  unfold pnone
  split
  · exact (take_bd v 6).2
  · omega
def urg (v : Vt) : Int := if vOk v then (if 7 ≤ psum v then 1 else if 5 ≤ psum v ∨ pthree v = true then 2 else if 1 ≤ psum v then 3 else if pnone v = 0 then 4 else 5) else 0
theorem urg_bd (v : Vt) : 0 ≤ urg v ∧ urg v ≤ 5 := by
  unfold urg
  split
  · split
    · omega
    · split
      · omega
      · split
        · omega
        · split <;> omega
  · omega
theorem urg_pos {v : Vt} (h : vOk v = true) : 1 ≤ urg v := by
  unfold urg
  rw [if_pos h]
  split
  · omega
  · split
    · omega
    · split
      · omega
      · split <;> omega
/-- The minutes to the next look. -/
def mtl (n : Int) : Int := if n = 2 then 30 else if n = 3 then 60 else if n = 4 then 240 else if n = 5 then 15 else 0
theorem mtl_bd (n : Int) : 0 ≤ mtl n ∧ mtl n ≤ 240 := by unfold mtl; split; omega; split; omega; split; omega; split <;> omega
def tmv (x : Int) : Bool := decide (0 ≤ x) && decide (x ≤ 10000000)
theorem tmv_iff {x : Int} : tmv x = true ↔ 0 ≤ x ∧ x ≤ 10000000 := by simp [tmv]
def look (v : Vt) (t : Int) : Int := if vOk v && tmv t then (if tmv (t + mtl (urg v)) then t + mtl (urg v) else -1) else -1
end Go.Proofs.Ytgcpiinmcbdkmaa.Va
