/-
  Blocks renamed: the operators of two numbers or truths.
-/
import Derived.Test.YtdjnnhdeijnhgabMw6
namespace Go.Proofs.Ytdjnnhdeijnhgab.Rn
open Go
set_option linter.all false

/-- The operators that are served. -/
def opOk : BinOp → Bool
  | .add => true
  | .sub => true
  | .mul => true
  | .quo => true
  | .rem => true
  | .lss => true
  | .leq => true
  | .gtr => true
  | .geq => true
  | .eql => true
  | .neq => true
  | _ => false
def numK : Value → Nat
  | .int _ _ => 1
  | .float _ _ => 2
  | .complex _ _ _ => 3
  | .string _ => 4
  | _ => 0
theorem numK_ren (f : Nat → Nat) (v : Value) : numK (rV f v) = numK v := by
  cases v with
  | pointer a => cases a <;> simp [numK]
  | slice a n c => cases a <;> simp [numK]
  | map a => cases a <;> simp [numK]
  | chan a => cases a <;> simp [numK]
  | _ => simp [numK]
theorem bin_eql (t : TypeId) (x y : Value) (h : ¬ (numK x ≠ 0 ∧ numK y = numK x)) : binOp .eql t x y = (do pure (.bool (← Op.equal t x y))) := by
  cases x <;> cases y <;> first | rfl | (exact absurd ⟨by simp [numK], rfl⟩ h)
theorem bin_neq (t : TypeId) (x y : Value) (h : ¬ (numK x ≠ 0 ∧ numK y = numK x)) : binOp .neq t x y = (do pure (.bool (!(← Op.equal t x y)))) := by
  cases x <;> cases y <;> first | rfl | (exact absurd ⟨by simp [numK], rfl⟩ h)
section
variable {P : Program} {Dd : Nat → Prop} {f : Nat → Nat}
theorem sm_equal (t : TypeId) (hT : NoRaw P t) (x y : Value) (hnp : ∀ i, P.info? t = some i → ∀ u, i.desc ≠ .named "sync.copyChecker" u) (hX : Fix P Dd f) : Sm P Dd f Eq (Op.equal t x y) (Op.equal t (rV f x) (rV f y)) := by
  unfold Op.equal Op.maxDepth Op.equalIn
  refine Sm.bind (sm_underlying' t) ?_
  rintro d d' ⟨hdd, hd⟩
  subst hdd
  rcases hT _ hd with ⟨k, rfl⟩ | rfl
  · cases x with
    | int k1 a =>
      cases y with
      | int k2 b =>
        rw [rV_int, rV_int]
        exact Sm.ite (fun _ => Sm.pure rfl) (fun _ => Sm.stuck)
      | pointer q =>
        rw [rV_int]
        cases q with
        | none => exact Sm.unsupported
        | some q =>
          rw [rV_p]
          by_cases h : a = 0
          · subst h; exact Sm.pure rfl
          · split <;> first | exact Sm.unsupported | (simp_all; done)
      | _ => exact Sm.stuck
    | pointer q =>
      cases q with
      | none => cases y <;> exact Sm.unsupported
      | some q =>
        rw [rV_p]
        cases y with
        | int k2 b =>
          rw [rV_int]
          by_cases h : b = 0
          · subst h; exact Sm.pure rfl
          · split <;> first | exact Sm.unsupported | (simp_all; done)
        | pointer q2 =>
          cases q2 with
          | none => exact Sm.unsupported
          | some q2 =>
            rw [rV_p]
            refine Sm.bind (sm_behind q) ?_
            rintro ⟨a, l⟩ ⟨a', l'⟩ ha
            refine Sm.bind (sm_behind q2) ?_
            rintro ⟨b, m⟩ ⟨b', m'⟩ hb
            refine Sm.bind Sm.program ?_
            rintro p q ⟨hp, hq⟩
            rw [hp, hq]
            have ha2 : RB Dd f a a' := by
              rcases ha with h | h
              · exact Or.inl (congrArg Prod.fst h)
              · exact Or.inr h
            have hb2 : RB Dd f b b' := by
              rcases hb with h | h
              · exact Or.inl (congrArg Prod.fst h)
              · exact Or.inr h
            have fin : ∀ s' : Sem Bool, Sm P Dd f Eq (do
                let i ← typeInfo t
                match i.desc with
                  | TypeDesc.named "sync.copyChecker" underlying => if (a == b) = true then pure true else unsupported Unsupported.addressObserved
                  | x => unsupported Unsupported.addressObserved) s' := by
              intro s' wl wc D Z el ec hW hF hD hZ x wl' el' hr
              rw [runT_bm] at hr
              unfold typeInfo at hr
              rw [runT_bm] at hr
              have e0 : Go.program.runT P wl el = (.ok P wl, el) := rfl
              rw [e0] at hr
              simp only at hr
              cases hi : P.info? t with
              | none => rw [hi] at hr; cases (congrArg Prod.fst hr : (Result.halt _ _ : Result Bool) = _)
              | some i =>
                rw [hi] at hr
                have hr2 : (match i.desc with
                  | TypeDesc.named "sync.copyChecker" underlying => if (a == b) = true then (pure true : Sem Bool) else unsupported Unsupported.addressObserved
                  | x => unsupported Unsupported.addressObserved).runT P wl el = (.ok x wl', el') := hr
                split at hr2
                · rename_i u hu
                  exact absurd hu (hnp i hi u)
                · cases (congrArg Prod.fst hr2 : (Result.halt _ _ : Result Bool) = _)
            by_cases hc : (a.block == b.block && decide (a.block < P.globals.size)) = true
            · simp only [Bool.and_eq_true, beq_iff_eq, decide_eq_true_eq] at hc
              have h1 : a' = a := by
                rcases ha2 with rfl | h
                · unfold rA; rw [hX.id _ hc.2]
                · have := hX.dd _ h; omega
              have h2 : b' = b := by
                rcases hb2 with rfl | h
                · unfold rA; rw [hX.id _ (by omega)]
                · have := hX.dd _ h; omega
              have ea : rA f a = a := by unfold rA; rw [hX.id _ hc.2]
              have eb : rA f b = b := by unfold rA; rw [hX.id _ (by omega)]
              have k1 := sm_byteOf (P := P) (Dd := Dd) (f := f) a
              have k2 := sm_byteOf (P := P) (Dd := Dd) (f := f) b
              rw [ea] at k1
              rw [eb] at k2
              rw [h1, h2]
              have hcc : (a.block == b.block && decide (a.block < P.globals.size)) = true := by simp [hc.1, hc.2]; rw [← hc.1]; exact hc.2
              simp only [hcc, if_true]
              refine Sm.bind k1 ?_
              rintro x _ rfl
              refine Sm.bind k2 ?_
              rintro y _ rfl
              exact Sm.pure rfl
            · simp only [hc, if_false]
              exact fin _
        | _ => exact Sm.unsupported
    | _ =>
      cases y with
      | pointer q => exact Sm.unsupported
      | _ => exact Sm.stuck
  · cases x with
    | bool a =>
      cases y with
      | bool b => rw [rV_bool, rV_bool]; exact Sm.pure rfl
      | _ => exact Sm.stuck
    | _ => exact Sm.stuck
theorem sm_addNum (t : TypeId) (hT : NoRaw P t) (x : Option Addr) (k : IntKind) (n : Int) : Sm P Dd f (RV f) (movedNumber t (.pointer x) (.int k n)) (movedNumber t (rV f (.pointer x)) (.int k n)) := by
  cases x with
  | some a => have := sm_movedNumber (Dd := Dd) (f := f) t hT a (.int k n); rw [rV_int] at this; rw [rV_p]; exact this
  | none =>
    refine Sm.never ?_
    unfold movedNumber
    refine Never.bind fun d => ?_
    have h : Never P (Builtin.unsafeAdd_ #[] t #[.pointer none, .int k n]) := by
      intro w es a w' es' e
      have e1 : Builtin.unsafeAdd_ #[] t #[.pointer none, .int k n] = (if n = 0 then Go.unsupported (.unsafePointer "Add: from nil") else if n < 0 then Go.unsupported (.unsafePointer "Add: a move by a count below zero") else Go.unsupported (.unsafePointer "Add")) := by
        unfold Builtin.unsafeAdd_
        show (asInt (.int k n) >>= _) = _
        show Sem.bind (Sem.pure n) _ = _
        show (if n = 0 then _ else _) = _
        by_cases h : n = 0
        · rw [if_pos h, if_pos h]; rfl
        · rw [if_neg h, if_neg h]
          by_cases h2 : n < 0
          · rw [if_pos h2, if_pos h2]; rfl
          · rw [if_neg h2, if_neg h2]
      rw [e1] at e
      split at e
      · cases (congrArg Prod.fst e : (Result.halt _ _ : Result Value) = _)
      · split at e <;> cases (congrArg Prod.fst e : (Result.halt _ _ : Result Value) = _)
    cases d <;> first | exact h | exact Never.bindL Never.halt | (split <;> first | exact h | exact Never.bindL Never.halt)
theorem sm_addN (t : TypeId) (hT : NoRaw P t) (k : IntKind) (n : Int) : Sm P Dd f (RV f) (movedNumber t (.pointer none) (.int k n)) (movedNumber t (.pointer none) (.int k n)) := by
  have := sm_addNum (Dd := Dd) (f := f) t hT none k n
  rw [rV_pnil] at this
  exact this
theorem sm_addS (t : TypeId) (hT : NoRaw P t) (a : Addr) (k : IntKind) (n : Int) : Sm P Dd f (RV f) (movedNumber t (.pointer (some a)) (.int k n)) (movedNumber t (.pointer (some (rA f a))) (.int k n)) := by
  have := sm_addNum (Dd := Dd) (f := f) t hT (some a) k n
  rw [rV_p] at this
  exact this
set_option maxHeartbeats 4000000 in
theorem sm_binOp (op : BinOp) (ho : opOk op = true) (t : TypeId) (hT : NoRaw P t) (hnp : ∀ i, P.info? t = some i → ∀ u, i.desc ≠ .named "sync.copyChecker" u) (hX : Fix P Dd f) (x y : Value) : Sm P Dd f (RV f) (binOp op t x y) (binOp op t (rV f x) (rV f y)) := by
  have eqq : ∀ g : Bool → Bool, Sm P Dd f (RV f) (do pure (.bool (g (← Op.equal t x y)))) (do pure (.bool (g (← Op.equal t (rV f x) (rV f y))))) := fun g => Sm.bind (sm_equal t hT x y hnp hX) (fun a b e => by subst e; exact Sm.pure (rV_bool f _).symm)
  have ii : ∀ (k k' : IntKind) (s : Sem Value), Air (Shut f) s → Sm P Dd f (RV f) (if k ≠ k' then Go.stuck "BinOp: operands of different kinds" else s) (if k ≠ k' then Go.stuck "BinOp: operands of different kinds" else s) := fun k k' s h => Sm.ite (fun _ => Sm.stuck) (fun _ => Sm.airV h)
  have ff : ∀ (k k' : FloatKind) (s : Sem Value), Air (Shut f) s → Sm P Dd f (RV f) (if k ≠ k' then Go.stuck "BinOp: operands of different kinds" else s) (if k ≠ k' then Go.stuck "BinOp: operands of different kinds" else s) := fun k k' s h => Sm.ite (fun _ => Sm.stuck) (fun _ => Sm.airV h)
  have cmpp : ∀ (op : BinOp) (a b : Addr), Sm P Dd f (RV f) (do Op.addrCmp op (← behindNumber a).1 (← behindNumber b).1) (do Op.addrCmp op (← behindNumber (rA f a)).1 (← behindNumber (rA f b)).1) := fun op a b => by
    refine Sm.bind (sm_behind a) ?_
    rintro x1 x2 h1
    refine Sm.bind (sm_behind b) ?_
    rintro y1 y2 h2
    exact sm_addrCmp hX op (h1.imp (congrArg Prod.fst) id) (h2.imp (congrArg Prod.fst) id)
  have subp : ∀ (a b : Addr), Sm P Dd f (RV f) (do Op.addrSub .u64 (← behindNumber a).1 (← behindNumber b).1) (do Op.addrSub .u64 (← behindNumber (rA f a)).1 (← behindNumber (rA f b)).1) := fun a b => by
    refine Sm.bind (sm_behind a) ?_
    rintro x1 x2 h1
    refine Sm.bind (sm_behind b) ?_
    rintro y1 y2 h2
    exact sm_addrSub hX .u64 (h1.imp (congrArg Prod.fst) id) (h2.imp (congrArg Prod.fst) id)
  have remp : ∀ (a : Addr) (k : IntKind) (n : Int), Sm P Dd f (RV f) (do Op.addrMod k (← behindNumber a).1 n) (do Op.addrMod k (← behindNumber (rA f a)).1 n) := fun a k n => by
    refine Sm.bind (sm_behind a) ?_
    rintro x1 x2 h1
    exact sm_addrMod k n (h1.imp (congrArg Prod.fst) id)
  have addN : ∀ (k : IntKind) (n : Int), Sm P Dd f (RV f) (do if (← underlying t) matches .unsafePointer then movedPointer t (.pointer none) (.int k n) else movedNumber t (.pointer none) (.int k n)) (do if (← underlying t) matches .unsafePointer then movedPointer t (.pointer none) (.int k n) else movedNumber t (.pointer none) (.int k n)) := fun k n => by
    refine Sm.bind (sm_underlying' t) ?_
    rintro d d' ⟨hdd, hd⟩
    subst hdd
    rcases hT _ hd with ⟨k2, rfl⟩ | rfl
    · exact sm_addN t hT k n
    · exact sm_addN t hT k n
  have addS : ∀ (a : Addr) (k : IntKind) (n : Int), Sm P Dd f (RV f) (do if (← underlying t) matches .unsafePointer then movedPointer t (.pointer (some a)) (.int k n) else movedNumber t (.pointer (some a)) (.int k n)) (do if (← underlying t) matches .unsafePointer then movedPointer t (.pointer (some (rA f a))) (.int k n) else movedNumber t (.pointer (some (rA f a))) (.int k n)) := fun a k n => by
    refine Sm.bind (sm_underlying' t) ?_
    rintro d d' ⟨hdd, hd⟩
    subst hdd
    rcases hT _ hd with ⟨k2, rfl⟩ | rfl
    · exact sm_addS t hT a k n
    · exact sm_addS t hT a k n
  cases op <;> first | (simp [opOk] at ho; done) | skip
  case add =>
    cases x with
    | int k a =>
      cases y with
      | int k' b => simp only [rV_int]; exact ii k k' _ (air_int .add k a b).1
      | pointer q => rw [rV_int]; cases q with
        | none => rw [rV_pnil]; exact sm_addN t hT k a
        | some q => rw [rV_p]; exact sm_addS t hT q k a
      | _ => exact Sm.stuck
    | pointer q =>
      cases y with
      | int k b => rw [rV_int]; cases q with
        | none => rw [rV_pnil]; exact addN k b
        | some q => rw [rV_p]; exact addS q k b
      | _ => cases q <;> exact Sm.unsupported
    | float k a => cases y <;> first | exact Sm.unsupported | exact Sm.stuck | (simp only [rV_float]; first | exact ff _ _ _ (air_floatArith .add _ _ _) | exact ff _ _ _ (air_floatCmp .add _ _ _))
    | complex k a b => cases y <;> first | exact Sm.unsupported | exact Sm.stuck | (simp only [rV_complex]; exact ff _ _ _ (air_complex .add _ _ _ _ _))
    | string a => cases y <;> first | exact Sm.unsupported | exact Sm.stuck | (simp only [rV_string]; exact Sm.airV (air_string .add _ _))
    | _ => cases y <;> first | exact Sm.unsupported | exact Sm.stuck
  case sub =>
    cases x with
    | int k a =>
      cases y with
      | int k' b => simp only [rV_int]; exact ii k k' _ (air_int .sub k a b).1
      | pointer q => cases q <;> exact Sm.unsupported
      | _ => exact Sm.stuck
    | pointer q =>
      cases y with
      | int k b => rw [rV_int]; cases q with
        | none => rw [rV_pnil]; exact sm_addN t hT k (-b)
        | some q => rw [rV_p]; exact sm_addS t hT q k (-b)
      | pointer q2 =>
        cases q with
        | none => cases q2 <;> exact Sm.unsupported
        | some q =>
          cases q2 with
          | none => exact Sm.unsupported
          | some q2 => rw [rV_p, rV_p]; exact subp q q2
      | _ => cases q <;> exact Sm.unsupported
    | float k a => cases y <;> first | exact Sm.unsupported | exact Sm.stuck | (simp only [rV_float]; first | exact ff _ _ _ (air_floatArith .sub _ _ _) | exact ff _ _ _ (air_floatCmp .sub _ _ _))
    | complex k a b => cases y <;> first | exact Sm.unsupported | exact Sm.stuck | (simp only [rV_complex]; exact ff _ _ _ (air_complex .sub _ _ _ _ _))
    | string a => cases y <;> first | exact Sm.unsupported | exact Sm.stuck | (simp only [rV_string]; exact Sm.airV (air_string .sub _ _))
    | _ => cases y <;> first | exact Sm.unsupported | exact Sm.stuck
  case mul =>
    cases x with
    | int k a =>
      cases y with
      | int k' b => simp only [rV_int]; exact ii k k' _ (air_int .mul k a b).1
      | pointer q => cases q <;> exact Sm.unsupported
      | _ => exact Sm.stuck
    | pointer q =>
      cases y with
      | int k b => cases q <;> exact Sm.unsupported
      | _ => cases q <;> exact Sm.unsupported
    | float k a => cases y <;> first | exact Sm.unsupported | exact Sm.stuck | (simp only [rV_float]; first | exact ff _ _ _ (air_floatArith .mul _ _ _) | exact ff _ _ _ (air_floatCmp .mul _ _ _))
    | complex k a b => cases y <;> first | exact Sm.unsupported | exact Sm.stuck | (simp only [rV_complex]; exact ff _ _ _ (air_complex .mul _ _ _ _ _))
    | string a => cases y <;> first | exact Sm.unsupported | exact Sm.stuck | (simp only [rV_string]; exact Sm.airV (air_string .mul _ _))
    | _ => cases y <;> first | exact Sm.unsupported | exact Sm.stuck
  case quo =>
    cases x with
    | int k a =>
      cases y with
      | int k' b => simp only [rV_int]; exact ii k k' _ (air_int .quo k a b).2.1
      | pointer q => cases q <;> exact Sm.unsupported
      | _ => exact Sm.stuck
    | pointer q =>
      cases y with
      | int k b => cases q <;> exact Sm.unsupported
      | _ => cases q <;> exact Sm.unsupported
    | float k a => cases y <;> first | exact Sm.unsupported | exact Sm.stuck | (simp only [rV_float]; first | exact ff _ _ _ (air_floatArith .quo _ _ _) | exact ff _ _ _ (air_floatCmp .quo _ _ _))
    | complex k a b => cases y <;> first | exact Sm.unsupported | exact Sm.stuck | (simp only [rV_complex]; exact ff _ _ _ (air_complex .quo _ _ _ _ _))
    | string a => cases y <;> first | exact Sm.unsupported | exact Sm.stuck | (simp only [rV_string]; exact Sm.airV (air_string .quo _ _))
    | _ => cases y <;> first | exact Sm.unsupported | exact Sm.stuck
  case rem =>
    cases x with
    | int k a =>
      cases y with
      | int k' b => simp only [rV_int]; exact ii k k' _ (air_int .rem k a b).2.1
      | pointer q => cases q <;> exact Sm.unsupported
      | _ => exact Sm.stuck
    | pointer q =>
      cases y with
      | int k b => rw [rV_int]; cases q with
        | none => rw [rV_pnil]; exact Sm.unsupported
        | some q => rw [rV_p]; exact remp q k b
      | _ => cases q <;> exact Sm.unsupported
    | float k a => cases y <;> first | exact Sm.unsupported | exact Sm.stuck | (simp only [rV_float]; first | exact ff _ _ _ (air_floatArith .rem _ _ _) | exact ff _ _ _ (air_floatCmp .rem _ _ _))
    | complex k a b => cases y <;> first | exact Sm.unsupported | exact Sm.stuck | (simp only [rV_complex]; exact ff _ _ _ (air_complex .rem _ _ _ _ _))
    | string a => cases y <;> first | exact Sm.unsupported | exact Sm.stuck | (simp only [rV_string]; exact Sm.airV (air_string .rem _ _))
    | _ => cases y <;> first | exact Sm.unsupported | exact Sm.stuck
  case lss =>
    cases x with
    | int k a =>
      cases y with
      | int k' b => simp only [rV_int]; exact ii k k' _ (air_int .lss k a b).2.2
      | pointer q => cases q <;> exact Sm.unsupported
      | _ => exact Sm.stuck
    | pointer q =>
      cases y with
      | int k b => cases q <;> exact Sm.unsupported
      | pointer q2 =>
        cases q with
        | none => cases q2 <;> exact Sm.unsupported
        | some q =>
          cases q2 with
          | none => exact Sm.unsupported
          | some q2 => rw [rV_p, rV_p]; exact cmpp .lss q q2
      | _ => cases q <;> exact Sm.unsupported
    | float k a => cases y <;> first | exact Sm.unsupported | exact Sm.stuck | (simp only [rV_float]; first | exact ff _ _ _ (air_floatCmp .lss _ _ _) | exact ff _ _ _ (air_floatCmp .lss _ _ _))
    | complex k a b => cases y <;> first | exact Sm.unsupported | exact Sm.stuck | (simp only [rV_complex]; exact ff _ _ _ (air_complex .lss _ _ _ _ _))
    | string a => cases y <;> first | exact Sm.unsupported | exact Sm.stuck | (simp only [rV_string]; exact Sm.airV (air_string .lss _ _))
    | _ => cases y <;> first | exact Sm.unsupported | exact Sm.stuck
  case leq =>
    cases x with
    | int k a =>
      cases y with
      | int k' b => simp only [rV_int]; exact ii k k' _ (air_int .leq k a b).2.2
      | pointer q => cases q <;> exact Sm.unsupported
      | _ => exact Sm.stuck
    | pointer q =>
      cases y with
      | int k b => cases q <;> exact Sm.unsupported
      | pointer q2 =>
        cases q with
        | none => cases q2 <;> exact Sm.unsupported
        | some q =>
          cases q2 with
          | none => exact Sm.unsupported
          | some q2 => rw [rV_p, rV_p]; exact cmpp .leq q q2
      | _ => cases q <;> exact Sm.unsupported
    | float k a => cases y <;> first | exact Sm.unsupported | exact Sm.stuck | (simp only [rV_float]; first | exact ff _ _ _ (air_floatCmp .leq _ _ _) | exact ff _ _ _ (air_floatCmp .leq _ _ _))
    | complex k a b => cases y <;> first | exact Sm.unsupported | exact Sm.stuck | (simp only [rV_complex]; exact ff _ _ _ (air_complex .leq _ _ _ _ _))
    | string a => cases y <;> first | exact Sm.unsupported | exact Sm.stuck | (simp only [rV_string]; exact Sm.airV (air_string .leq _ _))
    | _ => cases y <;> first | exact Sm.unsupported | exact Sm.stuck
  case gtr =>
    cases x with
    | int k a =>
      cases y with
      | int k' b => simp only [rV_int]; exact ii k k' _ (air_int .gtr k a b).2.2
      | pointer q => cases q <;> exact Sm.unsupported
      | _ => exact Sm.stuck
    | pointer q =>
      cases y with
      | int k b => cases q <;> exact Sm.unsupported
      | pointer q2 =>
        cases q with
        | none => cases q2 <;> exact Sm.unsupported
        | some q =>
          cases q2 with
          | none => exact Sm.unsupported
          | some q2 => rw [rV_p, rV_p]; exact cmpp .gtr q q2
      | _ => cases q <;> exact Sm.unsupported
    | float k a => cases y <;> first | exact Sm.unsupported | exact Sm.stuck | (simp only [rV_float]; first | exact ff _ _ _ (air_floatCmp .gtr _ _ _) | exact ff _ _ _ (air_floatCmp .gtr _ _ _))
    | complex k a b => cases y <;> first | exact Sm.unsupported | exact Sm.stuck | (simp only [rV_complex]; exact ff _ _ _ (air_complex .gtr _ _ _ _ _))
    | string a => cases y <;> first | exact Sm.unsupported | exact Sm.stuck | (simp only [rV_string]; exact Sm.airV (air_string .gtr _ _))
    | _ => cases y <;> first | exact Sm.unsupported | exact Sm.stuck
  case geq =>
    cases x with
    | int k a =>
      cases y with
      | int k' b => simp only [rV_int]; exact ii k k' _ (air_int .geq k a b).2.2
      | pointer q => cases q <;> exact Sm.unsupported
      | _ => exact Sm.stuck
    | pointer q =>
      cases y with
      | int k b => cases q <;> exact Sm.unsupported
      | pointer q2 =>
        cases q with
        | none => cases q2 <;> exact Sm.unsupported
        | some q =>
          cases q2 with
          | none => exact Sm.unsupported
          | some q2 => rw [rV_p, rV_p]; exact cmpp .geq q q2
      | _ => cases q <;> exact Sm.unsupported
    | float k a => cases y <;> first | exact Sm.unsupported | exact Sm.stuck | (simp only [rV_float]; first | exact ff _ _ _ (air_floatCmp .geq _ _ _) | exact ff _ _ _ (air_floatCmp .geq _ _ _))
    | complex k a b => cases y <;> first | exact Sm.unsupported | exact Sm.stuck | (simp only [rV_complex]; exact ff _ _ _ (air_complex .geq _ _ _ _ _))
    | string a => cases y <;> first | exact Sm.unsupported | exact Sm.stuck | (simp only [rV_string]; exact Sm.airV (air_string .geq _ _))
    | _ => cases y <;> first | exact Sm.unsupported | exact Sm.stuck
  case eql =>
    by_cases h : numK x ≠ 0 ∧ numK y = numK x
    · obtain ⟨h1, h2⟩ := h
      cases x with
      | int k a => cases y <;> first | (simp [numK] at h2; done) | (simp only [rV_int]; exact ii _ _ _ (air_int .eql k a _).2.2)
      | float k a => cases y <;> first | (simp [numK] at h2; done) | (simp only [rV_float]; exact ff _ _ _ (air_floatCmp .eql _ _ _))
      | complex k a b => cases y <;> first | (simp [numK] at h2; done) | (simp only [rV_complex]; exact ff _ _ _ (air_complex .eql _ _ _ _ _))
      | string a => cases y <;> first | (simp [numK] at h2; done) | (simp only [rV_string]; exact Sm.airV (air_string .eql _ _))
      | _ => simp [numK] at h1
    · rw [bin_eql t x y h, bin_eql t (rV f x) (rV f y) (by rw [numK_ren, numK_ren]; exact h)]
      exact eqq (fun b => b)
  case neq =>
    by_cases h : numK x ≠ 0 ∧ numK y = numK x
    · obtain ⟨h1, h2⟩ := h
      cases x with
      | int k a => cases y <;> first | (simp [numK] at h2; done) | (simp only [rV_int]; exact ii _ _ _ (air_int .neq k a _).2.2)
      | float k a => cases y <;> first | (simp [numK] at h2; done) | (simp only [rV_float]; exact ff _ _ _ (air_floatCmp .neq _ _ _))
      | complex k a b => cases y <;> first | (simp [numK] at h2; done) | (simp only [rV_complex]; exact ff _ _ _ (air_complex .neq _ _ _ _ _))
      | string a => cases y <;> first | (simp [numK] at h2; done) | (simp only [rV_string]; exact Sm.airV (air_string .neq _ _))
      | _ => simp [numK] at h1
    · rw [bin_neq t x y h, bin_neq t (rV f x) (rV f y) (by rw [numK_ren, numK_ren]; exact h)]
      exact eqq (fun b => !b)
end
end Go.Proofs.Ytdjnnhdeijnhgab.Rn

/-
  Blocks renamed: a row made, a row grown, a call.
-/
namespace Go.Proofs.Ytdjnnhdeijnhgab.Rn
open Go
set_option linter.all false

section
variable {P : Program} {Dd : Nat → Prop} {f : Nat → Nat}
theorem sm_lenOf (v : Value) : Sm P Dd f Eq (Builtin.lenOf v) (Builtin.lenOf (rV f v)) := by
  cases v with
  | slice a n c => cases a <;> (simp only [rV_s, rV_snil]; exact Sm.pure rfl)
  | string s => rw [rV_string]; exact Sm.pure rfl
  | _ => exact Sm.stuck
theorem sm_firstCells (size n : Nat) (v : Value) : Sm P Dd f (RVs f) (Builtin.firstCells size n v) (Builtin.firstCells size n (rV f v)) := by
  cases v with
  | slice a m c =>
    cases a with
    | none => rw [rV_snil]; exact Sm.pure (by simp)
    | some a => rw [rV_s]; exact sm_loadCells a (n * size)
  | string s =>
    rw [rV_string]
    refine Sm.pure ?_
    show _ = Array.map (rV f) _
    rw [Array.map_map]
    congr 1
    funext b
    exact (rV_int f _ _).symm
  | _ => exact Sm.stuck
theorem zeroCells_ren (zero : Array Value) (n : Nat) (hz : zero.map (rV f) = zero) : (Builtin.zeroCells zero n).map (rV f) = Builtin.zeroCells zero n := by
  unfold Builtin.zeroCells
  exact zeros_ren zero (n * zero.size) hz
/-- Both operands are slices of one make. -/
structure AppOk (P : Program) (argTypes : Array TypeId) : Prop where
  a0 : ∃ t e, argTypes[0]? = some t ∧ P.underlying t = some (.slice e)
  a1 : ∃ t e, argTypes[1]? = some t ∧ P.underlying t = some (.slice e)
theorem sm_append (hC : Closed P f) (argTypes : Array TypeId) (type : TypeId) (args : Array Value) (hA : AppOk P argTypes) : Sm P Dd f (RV f) (Builtin.append_ argTypes type args) (Builtin.append_ argTypes type (args.map (rV f))) := by
  obtain ⟨⟨t, e, ht, he⟩, t1, e1, ht1, he1⟩ := hA
  cases h0 : args[0]? with
  | none =>
    unfold Builtin.append_
    rw [ht, ht1]
    simp only [Array.getElem?_map, h0]
    exact Sm.stuck
  | some s =>
    cases h1 : args[1]? with
    | none =>
      unfold Builtin.append_
      rw [ht, ht1]
      simp only [Array.getElem?_map, h0, h1]
      exact Sm.stuck
    | some x =>
      cases s with
      | slice base sLen sCap =>
        have go : ∀ base' : Option Addr, (base = none ∧ base' = none ∨ ∃ a, base = some a ∧ base' = some (rA f a)) → rV f (.slice base sLen sCap) = .slice base' sLen sCap → Sm P Dd f (RV f) (Builtin.append_ argTypes type args) (Builtin.append_ argTypes type (args.map (rV f))) := by
          intro base' hb hs'
          unfold Builtin.append_
          rw [ht, ht1]
          simp only [Array.getElem?_map, h0, h1, Option.map_some]
          refine Sm.bind (sm_underlying' t) ?_
          rintro d d' ⟨hdd, hd⟩
          subst hdd
          rw [he] at hd
          cases hd
          rw [hs']
          refine Sm.bind (sm_sizeOf e) ?_
          rintro size _ rfl
          refine Sm.bind (sm_underlying' t1) ?_
          rintro d d' ⟨hdd, hd⟩
          subst hdd
          rw [he1] at hd
          cases hd
          refine Sm.bind (Rr := fun a b => a = false ∧ b = false) (Sm.pure ⟨rfl, rfl⟩) ?_
          rintro _ _ ⟨rfl, rfl⟩
          refine Sm.bind (sm_lenOf x) ?_
          rintro n _ rfl
          simp only [Bool.false_eq_true, if_false, Bool.not_false, if_true, false_or]
          refine Sm.ite (fun _ => ?_) (fun _ => ?_)
          · refine Sm.bind (sm_firstCells size n x) ?_
            rintro new _ rfl
            rcases hb with ⟨rfl, rfl⟩ | ⟨a, rfl, rfl⟩
            · exact Sm.pure (rV_snil f _ _).symm
            · have e2 := rA_add f a (sLen * size)
              have e3 : (new.map (rV f)).toList = new.toList.map (rV f) := Array.toList_map
              show Sm P Dd f (RV f) (storeCells (a.add (sLen * size)) new.toList 0 >>= fun _ => pure (Value.slice (some a) (sLen + n) sCap)) (storeCells ((rA f a).add (sLen * size)) (new.map (rV f)).toList 0 >>= fun _ => pure (Value.slice (some (rA f a)) (sLen + n) sCap))
              rw [← e2, e3]
              exact Sm.bind (sm_storeCells _ _ 0) (fun _ _ _ => Sm.pure (rV_s f _ _ _).symm)
          · refine Sm.bind (sm_typeInfo e) ?_
            rintro i j ⟨hj, hi⟩
            subst hj
            refine Sm.ite (fun _ => Sm.never (Never.bindL (never_runtimePanic _))) (fun _ => ?_)
            refine Sm.bind (sm_typeInfo e) ?_
            rintro i2 j2 ⟨hj, hi2⟩
            subst hj
            refine Sm.ite (fun _ => Sm.never (Never.bindL (Never.bind fun m => ?_))) (fun _ => ?_)
            · split
              · exact Never.bind fun _ => Never.halt
              · exact Never.halt
            · refine Sm.bind Sm.choose ?_
              rintro cap _ rfl
              refine Sm.bind (sm_typeInfo e) ?_
              rintro i3 j3 ⟨hj, hi3⟩
              subst hj
              refine Sm.bind Sm.askRoom (fun _ _ _ => ?_)
              rw [← hs']
              refine Sm.bind (sm_firstCells size sLen _) ?_
              rintro old _ rfl
              refine Sm.bind (sm_firstCells size n x) ?_
              rintro new _ rfl
              refine Sm.bind (sm_zeroS hC e) ?_
              rintro z z' ⟨hzz, hz⟩
              subst hzz
              have hz2 := zeroCells_ren (f := f) z'.cells (cap - (sLen + n)) (shut_cells hz)
              refine Sm.bind (Rr := fun a b => b = rA f a) ?_ ?_
              · have := Sm.newRow (P := P) (Dd := Dd) (f := f) (e := e) (cs := old ++ new ++ Builtin.zeroCells z'.cells (cap - (sLen + n)))
                rw [Array.map_append, Array.map_append, hz2] at this
                exact this
              · rintro a _ rfl
                exact Sm.pure (rV_s f _ _ _).symm
        cases base with
        | none => exact go none (Or.inl ⟨rfl, rfl⟩) (rV_snil f _ _)
        | some a => exact go (some (rA f a)) (Or.inr ⟨a, rfl, rfl⟩) (rV_s f _ _ _)
      | _ =>
        unfold Builtin.append_
        rw [ht, ht1]
        simp only [Array.getElem?_map, h0, h1, Option.map_some]
        refine Sm.bind (sm_underlying' t) ?_
        rintro d d' ⟨hdd, hd⟩
        subst hdd
        rw [he] at hd
        cases hd
        exact Sm.stuck
end
end Go.Proofs.Ytdjnnhdeijnhgab.Rn

/-
  Blocks renamed: a row made, a comparison's guard, a call: what an operation yields.
-/
namespace Go.Proofs.Ytdjnnhdeijnhgab.Rn
open Go
set_option linter.all false

section
variable {P : Program} {Dd : Nat → Prop} {f : Nat → Nat}
theorem sm_makeSlice (hC : Closed P f) (t : TypeId) (l c : Value) : Sm P Dd f (RV f) (Instr.makeSlice t l c) (Instr.makeSlice t (rV f l) (rV f c)) := by
  unfold Instr.makeSlice
  refine Sm.bind (sm_underlying' t) ?_
  rintro d d' ⟨hdd, hd⟩
  subst hdd
  cases d' with
  | slice e =>
    refine Sm.bind (sm_asInt l) ?_
    rintro n _ rfl
    refine Sm.bind (sm_asInt c) ?_
    rintro m _ rfl
    refine Sm.bind (sm_typeInfo e) ?_
    rintro i j ⟨hj, hi⟩
    subst hj
    refine Sm.ite (fun _ => ?_) (fun _ => ?_)
    · refine Sm.ite (fun _ => Sm.never (Never.bindL (never_runtimePanic _))) (fun _ => ?_)
      refine Sm.ite (fun _ => Sm.never (Never.bindL (never_runtimePanic _))) (fun _ => ?_)
      exact Sm.never (Never.bind fun _ => Never.bindL (never_runtimePanic _))
    · refine Sm.bind Sm.askRoom (fun _ _ _ => ?_)
      refine Sm.bind (sm_sizeOf e) ?_
      rintro size _ rfl
      have fin : ∀ zero : Array Value, zero.map (rV f) = zero → ∀ k : Nat, Sm P Dd f (RV f) (do
          let a ← newRow e ((Array.range k).map (zero[· % zero.size]!))
          pure (.slice (some a) (IntKind.i64.wrap n).toNat (IntKind.i64.wrap m).toNat)) (do
          let a ← newRow e ((Array.range k).map (zero[· % zero.size]!))
          pure (.slice (some a) (IntKind.i64.wrap n).toNat (IntKind.i64.wrap m).toNat)) := by
        intro zero hz k
        refine Sm.bind (Rr := fun a b => b = rA f a) ?_ ?_
        · have := Sm.newRow (P := P) (Dd := Dd) (f := f) (e := e) (cs := (Array.range k).map (zero[· % zero.size]!))
          rw [zeros_ren zero k hz] at this
          exact this
        · rintro a _ rfl
          exact Sm.pure (rV_s f _ _ _).symm
      refine Sm.ite (fun _ => fin _ (by simp) _) (fun _ => ?_)
      refine Sm.bind (sm_zeroS hC e) ?_
      rintro z z' ⟨hzz, hz⟩
      subst hzz
      exact fin _ (shut_cells hz) _
  | _ => exact Sm.stuck
/-- A type whose values bear no guard. -/
def Plainly (P : Program) (t : TypeId) : Prop := ∃ d, P.underlying t = some d ∧ ((∃ k, d = .int k) ∨ d = .bool)
theorem Plainly.raw {t : TypeId} (h : Plainly P t) : NoRaw P t := by
  obtain ⟨d, h, k⟩ := h
  intro d' h'
  rw [h] at h'
  cases h'
  exact k
def gk : Value → Nat
  | .nilIface => 1
  | .agg _ => 2
  | _ => 0
theorem gk_ren (v : Value) : gk (rV f v) = gk v := by
  cases v with
  | pointer a => cases a <;> simp [gk]
  | slice a n c => cases a <;> simp [gk]
  | map a => cases a <;> simp [gk]
  | chan a => cases a <;> simp [gk]
  | _ => simp [gk]
theorem gk_one {v : Value} (h : gk v = 1) : v = .nilIface := by cases v <;> simp [gk] at h; rfl
theorem gk_two {v : Value} (h : gk v = 2) : ∃ c, v = .agg c := by cases v <;> simp [gk] at h; exact ⟨_, rfl⟩
theorem guard_else (op : BinOp) (t : TypeId) (xo yo : Operand) (x y : Value) (h1 : ¬ (gk x = 1 ∧ gk y = 1)) (h2 : ¬ (gk x = 2 ∧ gk y = 2)) : eqGuard op t xo yo x y = (if !(op matches .eql | .neq) then pure () else pure ()) := by
  unfold eqGuard
  cases x <;> first | rfl | (cases y <;> first | rfl | exact absurd ⟨rfl, rfl⟩ h1 | exact absurd ⟨rfl, rfl⟩ h2)
theorem guardIn_plain (n : Nat) (t : TypeId) (hT : Plainly P t) (a b a' b' : Value) : Sm P Dd f (fun x y => x = false ∧ y = false) (Op.eqGuardIn n t a b) (Op.eqGuardIn n t a' b') := by
  obtain ⟨d, hd, hk⟩ := hT
  cases n with
  | zero => exact Sm.unsupported
  | succ n =>
    unfold Op.eqGuardIn
    refine Sm.bind (sm_underlying' t) ?_
    rintro d1 d2 ⟨hdd, hd1⟩
    subst hdd
    rw [hd] at hd1
    cases hd1
    rcases hk with ⟨k, rfl⟩ | rfl
    · exact Sm.pure ⟨rfl, rfl⟩
    · exact Sm.pure ⟨rfl, rfl⟩
theorem sm_eqGuard (op : BinOp) (t : TypeId) (hT : Plainly P t) (xo yo : Operand) (x y : Value) : Sm P Dd f (fun _ _ => True) (eqGuard op t xo yo x y) (eqGuard op t xo yo (rV f x) (rV f y)) := by
  by_cases h1 : gk x = 1 ∧ gk y = 1
  · rw [gk_one h1.1, gk_one h1.2, rV_nili]
    unfold eqGuard
    refine Sm.ite (fun _ => Sm.pure trivial) (fun _ => ?_)
    refine Sm.ite (fun _ => Sm.pure trivial) (fun _ => ?_)
    refine Sm.bind (guardIn_plain _ t hT _ _ _ _) ?_
    rintro _ _ ⟨rfl, rfl⟩
    exact Sm.pure trivial
  · by_cases h2 : gk x = 2 ∧ gk y = 2
    · obtain ⟨c, rfl⟩ := gk_two h2.1
      obtain ⟨c', rfl⟩ := gk_two h2.2
      rw [rV_agg, rV_agg]
      unfold eqGuard
      refine Sm.ite (fun _ => Sm.pure trivial) (fun _ => ?_)
      refine Sm.bind Sm.program ?_
      rintro _ _ ⟨rfl, rfl⟩
      refine Sm.bind Sm.program ?_
      rintro _ _ ⟨rfl, rfl⟩
      refine Sm.ite (fun _ => Sm.pure trivial) (fun _ => ?_)
      refine Sm.bind (guardIn_plain _ t hT _ _ _ _) ?_
      rintro _ _ ⟨rfl, rfl⟩
      exact Sm.pure trivial
    · rw [guard_else op t xo yo x y h1 h2, guard_else op t xo yo (rV f x) (rV f y) (by rw [gk_ren, gk_ren]; exact h1) (by rw [gk_ren, gk_ren]; exact h2)]
      exact Sm.ite (fun _ => Sm.pure trivial) (fun _ => Sm.pure trivial)
end
end Go.Proofs.Ytdjnnhdeijnhgab.Rn
