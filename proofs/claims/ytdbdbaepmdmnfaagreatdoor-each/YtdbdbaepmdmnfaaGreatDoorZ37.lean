import Derived.Test.YtdbdbaepmdmnfaaGreatDoorZ06
import Derived.Deep.DeepCutAuto
namespace Go.Proofs.YtdbdbaepmdmnfaaGreatDoor
open Go.RowKit
/-- A use: a name, its place, what it is used as. -/
abbrev Use := ByteArray × Nat × Nat
def useC (u : Use) : List Value := [.string u.1, .int .i64 u.2.1, .int .i64 u.2.2]
def usC (us : List Use) : List Value := us.flatMap useC
theorem usC_snoc (us : List Use) (u : Use) : usC (us ++ [u]) = usC us ++ [.string u.1, .int .i64 u.2.1, .int .i64 u.2.2] := by simp [usC, useC]
/-- A checker's block. -/
def UAtL (w : World) (cb M : Nat) (v : Value) (lp : Nat) (rec : Bool) : Prop :=
  w.heap[cb]? = some (.cells #[.map (some M), .slice none 0 0, v, .slice none 0 0, .int .i64 lp, .bool false, .bool rec] 159 (0, 0)) ∧ w.heap[M]? = some (.map #[] 0)
theorem UAtL.ne {w cb M v lp rec} (h : UAtL w cb M v lp rec) : M ≠ cb := fun e => by have h1 := h.1; have h2 := h.2; rw [e, h1] at h2; cases h2
theorem UAtL.only {w w' cb M v lp rec D} (h : UAtL w cb M v lp rec) (ho : Only D w w') (h1 : ¬ D cb) (h2 : ¬ D M) : UAtL w' cb M v lp rec := ⟨(ho.block _ (heap_lt h.1) h1).trans h.1, (ho.block _ (heap_lt h.2) h2).trans h.2⟩
/-- A checker at work: since W0 only its block has turned, and rows made since. -/
def UJ (W0 : World) (cb M lp : Nat) (rec : Bool) (us : List Use) (w : World) : Prop :=
  ∃ v, UAtL w cb M v lp rec ∧ w.ownsRow W0.heap.size 227 3 v us.length (usC us) ∧ Only (fun k => k = cb) W0 w ∧ M < W0.heap.size
theorem UJ.calm {W0 cb M lp rec us w w'} (h : UJ W0 cb M lp rec us w) (ho : Only (fun _ => False) w w') : UJ W0 cb M lp rec us w' := by
  obtain ⟨v, h1, h2, h3, h4⟩ := h
  exact ⟨v, h1.only ho (fun e => e) (fun e => e), ownsRow_of h2 (fun k hk => ho.block k (h2.lt k hk).2 (fun e => e)), h3.trans ho (fun _ _ e => e.elim), h4⟩
/-- Blocks that are neither the checker's nor rows of uses stand. -/
def UK (cb : Nat) (w w' : World) : Prop := ∀ k c t f, w.heap[k]? = some (.cells c t f) → t ≠ 227 → k ≠ cb → w'.heap[k]? = some (.cells c t f)
theorem UK.refl (cb : Nat) (w : World) : UK cb w w := fun _ _ _ _ h _ _ => h
theorem UK.trans {cb : Nat} {a b c : World} (h : UK cb a b) (k : UK cb b c) : UK cb a c := fun q x t f hq ht hc => k q x t f (h q x t f hq ht hc) ht hc
theorem UK.ofOnly {cb : Nat} {a b : World} (h : Only (fun k => k = cb) a b) : UK cb a b := fun q _ _ _ hq _ hc => (h.block q (heap_lt hq) hc).trans hq
theorem isFunction_noL (cb M : Nat) (v : Value) (lp : Nat) (rec : Bool) (x : ByteArray) (w : World) (h : UAtL w cb M v lp rec) :
    Calls Tryz.prog 109 #[.pointer (some ⟨cb, 0, none⟩), .string x] w fun en w' => en = .returned (.bool false) ∧ w' = w.alloc (.cells #[.string ⟨#[]⟩, .int .i64 0, .slice none 0 0, .slice none 0 0] 97) := by
  have c0 : w.cell? ⟨cb, 0, none⟩ = some (.map (some M)) := cell_of h.1 rfl
  have hl := look262 h.2 x
  clear h
  go_enter Tryz.func109, Tryz.ntmps109
  go_wp2
  go_ret
  exact ⟨rfl, rfl⟩
set_option maxRecDepth 20000 in
set_option maxHeartbeats 8000000 in
theorem uname_any (W0 : World) (cb M lp : Nat) (rec : Bool) (us : List Use) (hus : us.length ≤ 1000) (x : ByteArray) (a ak : Nat) (w : World) (h : UJ W0 cb M lp rec us w) :
    Calls Tryz.prog 186 #[.pointer (some ⟨cb, 0, none⟩), .agg #[.string x, .int .i64 a], .int .i64 ak] w fun en w' => en = .returned (.tuple #[]) ∧ UJ W0 cb M lp rec (us ++ [(x, a, ak)]) w' ∧ UK cb w w' := by
  obtain ⟨v, hu0, hrow0, hO0, hM0⟩ := h
  obtain ⟨i0, hi0, hz0, hz1, hz2⟩ := info_parts info357
  have c1 : w.cell? ⟨cb, 1, none⟩ = some (.slice none 0 0) := cell_of hu0.1 rfl
  have hl := heap_lt hu0.1
  have HU := hide hu0
  have HRow := hide hrow0
  have HO0 := hide hO0
  have HPo := hide (paramOf_none x)
  clear hu0 hrow0 hO0
  go_enter Tryz.func186, Tryz.ntmps186
  go_upto_region 1 with fail
  go_cut [7] (fun s7 wc => s7 = .bool false ∧ Only (fun _ => False) w wc ∧ wc.heap[w.heap.size]? = some (.cells #[.string x, .int .i64 a] 92 (0, 0)))
  case first =>
    go_region_with (go_at_call 112; refine (HPo.out _).mono ?_; rintro en w2 ⟨rfl, hw2⟩; subst hw2)
    all_goals
      go_wp2_with fail
      go_meet
      exact ⟨rfl, toDrew (((onlyA _ _).alloc _).alloc _), (Below.heap_alloc _ _ _ (by simp <;> omega)).trans ((Below.heap_alloc _ _ _ (by simp <;> omega)).trans (new0 w _))⟩
  case rest =>
    obtain ⟨rfl, ho, hb⟩ := hcut
    have hu := HU.out.only ho (fun e => e) (fun e => e)
    have HF := hide (isFunction_noL cb M v lp rec x wc hu)
    have b0 : wc.cell? ⟨w.heap.size, 0, none⟩ = some (.string x) := cell_of hb rfl
    have b1 : wc.cell? ⟨w.heap.size, 1, none⟩ = some (.int .i64 a) := cell_of hb rfl
    have c2 : wc.cell? ⟨cb, 2, none⟩ = some v := cell_of hu.1 rfl
    have cf := free_of hu.1
    have hz := ho.size
    have hbl := heap_lt hb
    have hcl := heap_lt hu.1
    have hml := heap_lt hu.2
    have HRow2 : Hid (wc.ownsRow W0.heap.size 227 3 v us.length (usC us)) := hide (ownsRow_of HRow.out (fun k hk => ho.block k (HRow.out.lt k hk).2 (fun e => e)))
    have hv0 := own_tag HRow2.out hu.1 (by decide)
    have hvT : ∀ (k : Nat) (c : Array Value) (t : TypeId) (f : Nat × Nat), w.heap[k]? = some (Obj.cells c t f) → t ≠ 227 → v.ownBlock ≠ some k := fun k c t f hk ht e => by
      obtain ⟨c', hc'⟩ := row_tag HRow.out k e.symm
      rw [hk] at hc'
      cases hc'
      exact ht rfl
    have HKc : Hid (∀ (k : Nat) (c : Array Value) (t : TypeId) (f : Nat × Nat), w.heap[k]? = some (Obj.cells c t f) → wc.heap[k]? = some (Obj.cells c t f)) := hide (fun k c t f hk => (ho.block k (heap_lt hk) (fun e => e)).trans hk)
    have hvM : v.ownBlock ≠ some M := fun e => by
      have h1 := (HRow2.out.lt M e).1
      omega
    have hzW : W0.heap.size ≤ wc.heap.size := Nat.le_trans HO0.out.size hz
    have HU2 := hide hu
    have HO : Hid (Only (fun k => k = cb) W0 wc) := hide (HO0.out.trans ho (fun _ _ e => e.elim))
    clear hu ho hb c1 HPo HU HRow HO0
    obtain ⟨po, cap, rfl⟩ := ownsRow_slice HRow2.out
    go_wp2_with (go_at_call 109; refine (HF.out).mono ?_; rintro en w2 ⟨rfl, hw2⟩; subst hw2)
    go_region_law (refine step_append_lies _ (by rfl) _ _ _ (by rfl) W0.heap.size 227 i0 _ 3 32 Tryz.underlying157 hi0 hz0 hz1 hz2 rfl (by omega) (.slice po us.length cap) us.length (usC us) (by rfl) ((HRow2.out.alloc _).alloc _) ⟨wc.heap.size + 1, 0, none⟩ 1 1 [.string x, .int .i64 a, .int .i64 ak] (by rfl) (by rfl) (World.news_of_block (cs := #[.string x, .int .i64 a, .int .i64 ak]) (t := 227) (fr := (0, 0)) (new_at2 (by simp) _)) (by intro u hu; simp at hu; rcases hu with rfl | rfl | rfl <;> rfl) (by omega) (by unfold maxLen; omega) (by omega) (by simp; omega) _ rfl ?_; intro gg cap2 w3 hown1 hgrow hat hlt; have hb3 := (hgrow.block cb (by simp; omega) (fun e => hv0 e.symm)).trans ((Below.heap_alloc _ _ _ (by simp; omega)).trans ((Below.heap_alloc _ _ _ (by omega)).trans HU2.out.1)); have t1 : w3.cell? ⟨cb, 2, none⟩ = some (.slice po us.length cap) := cell_of hb3 rfl; have tf := free_of hb3; have HB3 := hide hb3; clear hb3)
    all_goals
      have hne := own_tag hown1 HB3.out (by decide)
      have hM := hide ((hgrow.block M (by simp; omega) (fun e => hvM e.symm)).trans ((Below.heap_alloc _ _ _ (by simp; omega)).trans ((Below.heap_alloc _ _ _ hml).trans HU2.out.2)))
      have hO3 := hide ((toDrew ((HO.out.alloc _).alloc _)).grown hgrow (fun q hq hq2 => by have := (HRow2.out.lt q hq).1; omega))
      have HOw := hide hown1
      have HK3 : Hid (UK cb w w3) := hide (fun k c t f hk ht hc => (hgrow.block k (by have := heap_lt (HKc.out k c t f hk); simp; omega) (fun e => hvT k c t f hk ht e.symm)).trans ((Below.heap_alloc _ _ _ (by have := heap_lt (HKc.out k c t f hk); simp; omega)).trans ((Below.heap_alloc _ _ _ (heap_lt (HKc.out k c t f hk))).trans (HKc.out k c t f hk))))
      clear hown1 hgrow hat
      go_wp2
      go_end0
      refine ⟨rfl, ⟨.slice (some ⟨gg, 0, none⟩) (us.length + 1) cap2, ⟨heap_setCell_same HB3.out _, ?_⟩, ?_, ?_, hM0⟩, fun k c t f hk ht hc => (Below.heap_setCell _ _ _ _ hc).trans (HK3.out k c t f hk ht hc)⟩
      · exact (Below.heap_setCell _ _ _ _ (by exact HU2.out.ne)).trans hM.out
      · rw [usC_snoc, List.length_append]
        exact ownsRow_of HOw.out (fun k hk => Below.heap_setCell _ _ _ _ (fun e => hne (by rw [hk, e])))
      · exact hO3.out.setCell (p := ⟨cb, 2, none⟩) (fun _ => rfl) _
end Go.Proofs.YtdbdbaepmdmnfaaGreatDoor

