/-
  Merged: U39.
-/
import Derived.Test.YtmcekefoedgboaaDoorMg23
namespace Go.Proofs.YtmcekefoedgboaaDoor
open Go.RowKit Va Uo
set_option linter.all false
def wdC (ds : List Ds) (x : Dd) (oo : Od) : Int :=
  if ¬ oo.s = 2 then 5 else if ¬ x.p = oo.p then 6 else if ¬ x.d = oo.d then 7 else if ¬ x.n = oo.n then 8 else if (jo ds x.m oo oo.c.toNat).length = 0 then 9
  else if ¬ zav oo.two x.b x.a = true then 10 else if ¬ za2 ds x.m = false then 11 else if ds.length = 500 then 12 else 0
def WD (base : Nat) (vb : Value) (os : List Od) (ds : List Ds) (x : Dd) (oo : Od) (w : World) (e : Ending) (w' : World) : Prop :=
  (¬ wdC ds x oo = 0 ∧ e = .panicked [{ v := ku x.k (wdC ds x oo), recovered := false }] ∧ Below w.heap.size w w') ∨ (wdC ds x oo = 0 ∧ ∃ v2, e = .returned (.agg #[vb, v2]) ∧ Cp.zq w' base vb v2 os (ds ++ [⟨x.id, ((jo ds x.m oo oo.c.toNat).getD 0 default).t, x.m, x.b, x.a⟩]) ∧ Below base w w')
theorem zch {base : Nat} {vb : Value} {os : List Od} {ds : List Ds} {x : Dd} {oo : Od} {w w' : World} {e : Ending} (c : Int) (hc : wdC ds x oo = c) (h0 : ¬ c = 0) (he : e = .panicked [{ v := ku x.k c, recovered := false }]) (hb : Below w.heap.size w w') : WD base vb os ds x oo w e w' := Or.inl ⟨hc ▸ h0, hc ▸ he, hb⟩
theorem zid {w : World} {base c g : Nat} {D : List Du} (h : w.ownsRow base 97 3 (.slice (some ⟨g, 0, none⟩) D.length c) D.length (ja 3 je D)) (hn : ¬ D.length = 0) : ∃ cs, PB w g cs 97 ∧ cs[1]? = some (.int .i64 (D.getD 0 default).t) := by
  obtain ⟨q, ⟨q1, q2⟩ | ⟨g', cap, cur, q1, hb, hg, hc, hm, hs, ht⟩⟩ := h
  · cases q1
  · simp only [Value.slice.injEq, Option.some.injEq, Addr.mk.injEq, and_true, true_and] at q1
    obtain ⟨rfl, -⟩ := q1
    refine ⟨cur, hg, ?_⟩
    obtain ⟨d, hd⟩ : ∃ d, D[0]? = some d := ⟨_, List.getElem?_eq_getElem (by omega)⟩
    have h1 := jh (cs := je) (s := 3) D 0 d hd 1 (by decide)
    rw [← ht, List.getElem?_take, if_pos (by omega), Array.getElem?_toList] at h1
    rw [zd0 hd]
    exact h1
theorem PB.ty {W : World} {B : Nat} {vs vs' : Array Value} {t t' : TypeId} (h : PB W B vs t) (h' : PB W B vs' t') : t = t' := by
  unfold PB at h h'
  rw [h] at h'
  simp only [Option.some.injEq, Obj.cells.injEq] at h'
  exact h'.2.1
theorem dose_end {w W : World} {tm : Array Value} {base B : Nat} {v1 v2 : Value} {os : List Od} {ds : List Ds} {x : Dd} {oo : Od} (hc : wdC ds x oo = 0) (p : PB W B #[.slice none 0 0, .slice none 0 0] 27) (hl : base ≤ B) (hb : Below base w W) (hN : Cp.zq W base v1 v2 os (ds ++ [⟨x.id, ((jo ds x.m oo oo.c.toNat).getD 0 default).t, x.m, x.b, x.a⟩])) (h4 : tm.getD 4 undef = .pointer (some ⟨B, 0, none⟩)) :
    bodyPost Tryd.prog Tryd.f56 (WD base v1 os ds x oo w) Exit.ret ⟨tm, []⟩ ((W.setCell ⟨B, 0, none⟩ v1).setCell ⟨B, 1, none⟩ v2) := by
  have p4 : PB ((W.setCell ⟨B, 0, none⟩ v1).setCell ⟨B, 1, none⟩ v2) B #[v1, v2] 27 := (p.set 0 v1).set 1 v2
  refine bodyPost_ret (v := .agg #[v1, v2]) (results_cell_row Tryd.results56 _ _ B 27 _ (0, 0) _ h4 p4 Tryd.underlying27 rfl (by kernel_rfl)) rfl (Or.inr ⟨hc, v2, rfl, ⟨?_, ?_⟩, (hb.setCell (p := ⟨B, 0, none⟩) hl _).setCell (p := ⟨B, 1, none⟩) hl _⟩)
  · exact Cp.jm (Cp.jm hN.1 (jc hN.1 p (by decide)) _ _) (jc hN.1 p (by decide)) _ _
  · exact Cp.jm (Cp.jm hN.2 (jc hN.2 p (by decide)) _ _) (jc hN.2 p (by decide)) _ _
set_option maxRecDepth 20000 in
set_option maxHeartbeats 8000000 in
theorem zka (vb vs : Value) (os : List Od) (ds : List Ds) (base : Nat) (x : Dd) (w : World) (h : Cp.zq w base vb vs os ds) (hbase : base ≤ w.heap.size) (hn : os.length ≤ 100) (hr : Ris os) (hat : atO os x.id < 0) :
    Calls Tryd.prog 56 #[.agg #[vb, vs], aDd x] w fun e w' => e = .panicked [{ v := ku x.k 4, recovered := false }] ∧ Below w.heap.size w w' := by
  obtain ⟨a1, c1, a2, c2, rfl, rfl⟩ := h.form
  have hb0 : Below w.heap.size w (((w.alloc (.cells #[.slice a1 os.length c1, .slice a2 ds.length c2] 27)).alloc (.cells #[.int .i64 x.k, .int .i64 x.o.id, .int .i64 x.o.p, .int .i64 x.o.d, .int .i64 x.o.n, .int .i64 x.o.f, .int .i64 x.o.e, .int .i64 x.o.c, .int .i64 x.o.s, .bool x.o.two, .int .i64 x.id, .int .i64 x.p, .int .i64 x.d, .int .i64 x.n, .int .i64 x.m, .int .i64 x.b, .int .i64 x.a] 31)).alloc (.cells #[.slice none 0 0, .slice none 0 0] 27)) := (((Below.refl _ _).alloc (Nat.le_refl _) _).alloc (by simp) _).alloc (by simp; omega) _
  have p2 : PB (((w.alloc (.cells #[.slice a1 os.length c1, .slice a2 ds.length c2] 27)).alloc (.cells #[.int .i64 x.k, .int .i64 x.o.id, .int .i64 x.o.p, .int .i64 x.o.d, .int .i64 x.o.n, .int .i64 x.o.f, .int .i64 x.o.e, .int .i64 x.o.c, .int .i64 x.o.s, .bool x.o.two, .int .i64 x.id, .int .i64 x.p, .int .i64 x.d, .int .i64 x.n, .int .i64 x.m, .int .i64 x.b, .int .i64 x.a] 31)).alloc (.cells #[.slice none 0 0, .slice none 0 0] 27)) w.heap.size #[.slice a1 os.length c1, .slice a2 ds.length c2] 27 := ((PB.new w #[.slice a1 os.length c1, .slice a2 ds.length c2] 27).alloc _).alloc _
  have p3 : PB (((w.alloc (.cells #[.slice a1 os.length c1, .slice a2 ds.length c2] 27)).alloc (.cells #[.int .i64 x.k, .int .i64 x.o.id, .int .i64 x.o.p, .int .i64 x.o.d, .int .i64 x.o.n, .int .i64 x.o.f, .int .i64 x.o.e, .int .i64 x.o.c, .int .i64 x.o.s, .bool x.o.two, .int .i64 x.id, .int .i64 x.p, .int .i64 x.d, .int .i64 x.n, .int .i64 x.m, .int .i64 x.b, .int .i64 x.a] 31)).alloc (.cells #[.slice none 0 0, .slice none 0 0] 27)) (w.heap.size + 1) #[.int .i64 x.k, .int .i64 x.o.id, .int .i64 x.o.p, .int .i64 x.o.d, .int .i64 x.o.n, .int .i64 x.o.f, .int .i64 x.o.e, .int .i64 x.o.c, .int .i64 x.o.s, .bool x.o.two, .int .i64 x.id, .int .i64 x.p, .int .i64 x.d, .int .i64 x.n, .int .i64 x.m, .int .i64 x.b, .int .i64 x.a] 31 := by
    have := (PB.new (w.alloc (.cells #[.slice a1 os.length c1, .slice a2 ds.length c2] 27)) #[.int .i64 x.k, .int .i64 x.o.id, .int .i64 x.o.p, .int .i64 x.o.d, .int .i64 x.o.n, .int .i64 x.o.f, .int .i64 x.o.e, .int .i64 x.o.c, .int .i64 x.o.s, .bool x.o.two, .int .i64 x.id, .int .i64 x.p, .int .i64 x.d, .int .i64 x.n, .int .i64 x.m, .int .i64 x.b, .int .i64 x.a] 31).alloc (.cells #[.slice none 0 0, .slice none 0 0] 27)
    simpa using this
  have p4 : PB (((w.alloc (.cells #[.slice a1 os.length c1, .slice a2 ds.length c2] 27)).alloc (.cells #[.int .i64 x.k, .int .i64 x.o.id, .int .i64 x.o.p, .int .i64 x.o.d, .int .i64 x.o.n, .int .i64 x.o.f, .int .i64 x.o.e, .int .i64 x.o.c, .int .i64 x.o.s, .bool x.o.two, .int .i64 x.id, .int .i64 x.p, .int .i64 x.d, .int .i64 x.n, .int .i64 x.m, .int .i64 x.b, .int .i64 x.a] 31)).alloc (.cells #[.slice none 0 0, .slice none 0 0] 27)) (w.heap.size + 1 + 1) #[.slice none 0 0, .slice none 0 0] 27 := by
    have := PB.new ((w.alloc (.cells #[.slice a1 os.length c1, .slice a2 ds.length c2] 27)).alloc (.cells #[.int .i64 x.k, .int .i64 x.o.id, .int .i64 x.o.p, .int .i64 x.o.d, .int .i64 x.o.n, .int .i64 x.o.f, .int .i64 x.o.e, .int .i64 x.o.c, .int .i64 x.o.s, .bool x.o.two, .int .i64 x.id, .int .i64 x.p, .int .i64 x.d, .int .i64 x.n, .int .i64 x.m, .int .i64 x.b, .int .i64 x.a] 31)) #[.slice none 0 0, .slice none 0 0] 27
    simpa using this
  have hN0 := h.below hb0
  have HN := hidden hN0
  have hsz0 : w.heap.size + 1 + 1 + 1 = (((w.alloc (.cells #[.slice a1 os.length c1, .slice a2 ds.length c2] 27)).alloc (.cells #[.int .i64 x.k, .int .i64 x.o.id, .int .i64 x.o.p, .int .i64 x.o.d, .int .i64 x.o.n, .int .i64 x.o.f, .int .i64 x.o.e, .int .i64 x.o.c, .int .i64 x.o.s, .bool x.o.two, .int .i64 x.id, .int .i64 x.p, .int .i64 x.d, .int .i64 x.n, .int .i64 x.m, .int .i64 x.b, .int .i64 x.a] 31)).alloc (.cells #[.slice none 0 0, .slice none 0 0] 27)).heap.size := by simp
  unfold aDd
  clear h hN0
  go_enter Tryd.func56, Tryd.ntmps56
  go_upto_region 1 with fail
  generalize (((w.alloc (.cells #[.slice a1 os.length c1, .slice a2 ds.length c2] 27)).alloc (.cells #[.int .i64 x.k, .int .i64 x.o.id, .int .i64 x.o.p, .int .i64 x.o.d, .int .i64 x.o.n, .int .i64 x.o.f, .int .i64 x.o.e, .int .i64 x.o.c, .int .i64 x.o.s, .bool x.o.two, .int .i64 x.id, .int .i64 x.p, .int .i64 x.d, .int .i64 x.n, .int .i64 x.m, .int .i64 x.b, .int .i64 x.a] 31)).alloc (.cells #[.slice none 0 0, .slice none 0 0] 27)) = W0 at *
  have z0 := hb0.size
  have HB0 := hidden hb0
  have P2 := hidden p2
  have P3 := hidden p3
  have P4 := hidden p4
  have e20 : W0.cell? ⟨w.heap.size, 0, none⟩ = some _ := p2.cell 0
  have e21 : W0.cell? ⟨w.heap.size, 1, none⟩ = some _ := p2.cell 1
  obtain ⟨d0, ⟨d1, d2, d3, d4, d5, d6, d7, d8, d9⟩, da, db, dc, dd, de, df, dg⟩ := p3.deed
  clear p2 p3 p4 hb0
  have hPL := zby a1 os.length c1 (.slice a2 ds.length c2) os x.id W0 (zaa rfl HN.out.1).row (by omega) hr ⟨_, _, _, rfl⟩
  have HNO : Hid (∀ k', Cut os x.id k' → qi os x.id k' = false) := fun k' hc => by
    cases hq : qi os x.id k' with
    | false => rfl
    | true => have := (zbw hr hc hq).1; omega
  have kS := fun W => zb5 x 4 W
  clear hat hr
  clear d0 d1 d2 d3 d4 d5 d6 d7 d8 d9 db dc dd de df dg
  go_upto_region 2 with (go_at_call 63; refine hPL.mono ?_; rintro e w1 ⟨k', hcut, rfl, hb1⟩; rw [HNO.out k' hcut]; have bA := onto HB0.out hb1; have P21 := hidden (P2.out.below hb1); have P31 := hidden (P3.out.below hb1); have P41 := hidden (P4.out.below hb1); have N1 := hidden (HN.out.below hb1); have z1 := hb1.size; clear hb1 hcut)
  clear da
  go_wp2_with (first | (refine wpList_load_row rfl 31 (.tmp 3) rfl (w.heap.size + 1) rfl 31 #[.int .i64 x.k, .int .i64 x.o.id, .int .i64 x.o.p, .int .i64 x.o.d, .int .i64 x.o.n, .int .i64 x.o.f, .int .i64 x.o.e, .int .i64 x.o.c, .int .i64 x.o.s, .bool x.o.two, .int .i64 x.id, .int .i64 x.p, .int .i64 x.d, .int .i64 x.n, .int .i64 x.m, .int .i64 x.b, .int .i64 x.a] (0, 0) _ P31.out Tryd.underlying31 rfl (by kernel_rfl) ?_) | (go_at_call 53; with_reducible refine (kS _).mono ?_; rintro e w2 ⟨rfl, hb2⟩; have bB := onto bA hb2; clear hb2))
  exact ⟨rfl, rfl, bB⟩
end Go.Proofs.YtmcekefoedgboaaDoor
