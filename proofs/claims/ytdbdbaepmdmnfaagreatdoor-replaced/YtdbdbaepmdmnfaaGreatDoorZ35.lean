import Derived.Test.YtdbdbaepmdmnfaaGreatDoorZ20
import Derived.Deep.DeepCutAuto
import Derived.Test.YtdbdbaepmdmnfaaGreatDoorZ29
import Derived.Deep.RegionHeld3
namespace Go.Proofs.YtdbdbaepmdmnfaaGreatDoor
open Go.RowKit
/-- A use: a name, its place, what it is used as. -/
abbrev Use := ByteArray × Nat × Nat
def useC (u : Use) : List Value := [.string u.1, .int .i64 u.2.1, .int .i64 u.2.2]
def usC (us : List Use) : List Value := us.flatMap useC
theorem usC_snoc (us : List Use) (u : Use) : usC (us ++ [u]) = usC us ++ [.string u.1, .int .i64 u.2.1, .int .i64 u.2.2] := by simp [usC, useC]
/-- A checker's block. -/
def UAtL (w : World) (cb M : Nat) (v : Value) (lp : Nat) (rec : Bool) : Prop :=
  w.heap[cb]? = some (.cells #[.map (some M), .slice none 0 0, v, .slice none 0 0, .int .i64 lp, .bool false, .bool rec] 159 (0, 0)) ∧ w.heap[M]? = some (.map #[] 0)
theorem UAtL.ne {w cb M v lp rec} (h : UAtL w cb M v lp rec) : M ≠ cb := fun e => by have h1 := h.1; have h2 := h.2; rw [e, h1] at h2; cases h2
theorem UAtL.only {w w' cb M v lp rec D} (h : UAtL w cb M v lp rec) (ho : Only D w w') (h1 : ¬ D cb) (h2 : ¬ D M) : UAtL w' cb M v lp rec := ⟨(ho.block _ (heap_lt h.1) h1).trans h.1, (ho.block _ (heap_lt h.2) h2).trans h.2⟩
/-- A checker at work: since W0 only its block has turned, and rows made since. -/
def UJ (W0 : World) (cb M lp : Nat) (rec : Bool) (us : List Use) (w : World) : Prop :=
  ∃ v, UAtL w cb M v lp rec ∧ w.ownsRow W0.heap.size 227 3 v us.length (usC us) ∧ Only (fun k => k = cb) W0 w ∧ M < W0.heap.size
theorem UJ.calm {W0 cb M lp rec us w w'} (h : UJ W0 cb M lp rec us w) (ho : Only (fun _ => False) w w') : UJ W0 cb M lp rec us w' := by
  obtain ⟨v, h1, h2, h3, h4⟩ := h
  exact ⟨v, h1.only ho (fun e => e) (fun e => e), ownsRow_of h2 (fun k hk => ho.block k (h2.lt k hk).2 (fun e => e)), h3.trans ho (fun _ _ e => e.elim), h4⟩
/-- Blocks that are neither the checker's nor rows of uses stand. -/
def UK (cb : Nat) (w w' : World) : Prop := ∀ k c t f, w.heap[k]? = some (.cells c t f) → t ≠ 227 → k ≠ cb → w'.heap[k]? = some (.cells c t f)
theorem UK.refl (cb : Nat) (w : World) : UK cb w w := fun _ _ _ _ h _ _ => h
theorem UK.trans {cb : Nat} {a b c : World} (h : UK cb a b) (k : UK cb b c) : UK cb a c := fun q x t f hq ht hc => k q x t f (h q x t f hq ht hc) ht hc
theorem UK.ofOnly {cb : Nat} {a b : World} (h : Only (fun k => k = cb) a b) : UK cb a b := fun q _ _ _ hq _ hc => (h.block q (heap_lt hq) hc).trans hq
theorem isFunction_noL (cb M : Nat) (v : Value) (lp : Nat) (rec : Bool) (x : ByteArray) (w : World) (h : UAtL w cb M v lp rec) :
    Calls Tryz.prog 109 #[.pointer (some ⟨cb, 0, none⟩), .string x] w fun en w' => en = .returned (.bool false) ∧ w' = w.alloc (.cells #[.string ⟨#[]⟩, .int .i64 0, .slice none 0 0, .slice none 0 0] 97) := by
  have c0 : w.cell? ⟨cb, 0, none⟩ = some (.map (some M)) := cell_of h.1 rfl
  have hl := look262 h.2 x
  clear h
  go_enter Tryz.func109, Tryz.ntmps109
  go_wp2
  go_ret
  exact ⟨rfl, rfl⟩
set_option maxRecDepth 20000 in
set_option maxHeartbeats 8000000 in
theorem uname_any (W0 : World) (cb M lp : Nat) (rec : Bool) (us : List Use) (hus : us.length ≤ 1000) (x : ByteArray) (a ak : Nat) (w : World) (h : UJ W0 cb M lp rec us w) :
    Calls Tryz.prog 186 #[.pointer (some ⟨cb, 0, none⟩), .agg #[.string x, .int .i64 a], .int .i64 ak] w fun en w' => en = .returned (.tuple #[]) ∧ UJ W0 cb M lp rec (us ++ [(x, a, ak)]) w' ∧ UK cb w w' := by
  obtain ⟨v, hu0, hrow0, hO0, hM0⟩ := h
  obtain ⟨i0, hi0, hz0, hz1, hz2⟩ := info_parts info357
  have c1 : w.cell? ⟨cb, 1, none⟩ = some (.slice none 0 0) := cell_of hu0.1 rfl
  have hl := heap_lt hu0.1
  have HU := hide hu0
  have HRow := hide hrow0
  have HO0 := hide hO0
  have HPo := hide (paramOf_none x)
  clear hu0 hrow0 hO0
  go_enter Tryz.func186, Tryz.ntmps186
  go_upto_region 1 with fail
  go_cut [7] (fun s7 wc => s7 = .bool false ∧ Only (fun _ => False) w wc ∧ wc.heap[w.heap.size]? = some (.cells #[.string x, .int .i64 a] 92 (0, 0)))
  case first =>
    go_region_with (go_at_call 112; refine (HPo.out _).mono ?_; rintro en w2 ⟨rfl, hw2⟩; subst hw2)
    all_goals
      go_wp2_with fail
      go_meet
      exact ⟨rfl, toDrew (((onlyA _ _).alloc _).alloc _), (Below.heap_alloc _ _ _ (by simp <;> omega)).trans ((Below.heap_alloc _ _ _ (by simp <;> omega)).trans (new0 w _))⟩
  case rest =>
    obtain ⟨rfl, ho, hb⟩ := hcut
    have hu := HU.out.only ho (fun e => e) (fun e => e)
    have HF := hide (isFunction_noL cb M v lp rec x wc hu)
    have b0 : wc.cell? ⟨w.heap.size, 0, none⟩ = some (.string x) := cell_of hb rfl
    have b1 : wc.cell? ⟨w.heap.size, 1, none⟩ = some (.int .i64 a) := cell_of hb rfl
    have c2 : wc.cell? ⟨cb, 2, none⟩ = some v := cell_of hu.1 rfl
    have cf := free_of hu.1
    have hz := ho.size
    have hbl := heap_lt hb
    have hcl := heap_lt hu.1
    have hml := heap_lt hu.2
    have HRow2 : Hid (wc.ownsRow W0.heap.size 227 3 v us.length (usC us)) := hide (ownsRow_of HRow.out (fun k hk => ho.block k (HRow.out.lt k hk).2 (fun e => e)))
    have hv0 := own_tag HRow2.out hu.1 (by decide)
    have hvT : ∀ (k : Nat) (c : Array Value) (t : TypeId) (f : Nat × Nat), w.heap[k]? = some (Obj.cells c t f) → t ≠ 227 → v.ownBlock ≠ some k := fun k c t f hk ht e => by
      obtain ⟨c', hc'⟩ := row_tag HRow.out k e.symm
      rw [hk] at hc'
      cases hc'
      exact ht rfl
    have HKc : Hid (∀ (k : Nat) (c : Array Value) (t : TypeId) (f : Nat × Nat), w.heap[k]? = some (Obj.cells c t f) → wc.heap[k]? = some (Obj.cells c t f)) := hide (fun k c t f hk => (ho.block k (heap_lt hk) (fun e => e)).trans hk)
    have hvM : v.ownBlock ≠ some M := fun e => by
      have h1 := (HRow2.out.lt M e).1
      omega
    have hzW : W0.heap.size ≤ wc.heap.size := Nat.le_trans HO0.out.size hz
    have HU2 := hide hu
    have HO : Hid (Only (fun k => k = cb) W0 wc) := hide (HO0.out.trans ho (fun _ _ e => e.elim))
    clear hu ho hb c1 HPo HU HRow HO0
    obtain ⟨po, cap, rfl⟩ := ownsRow_slice HRow2.out
    go_wp2_with (go_at_call 109; refine (HF.out).mono ?_; rintro en w2 ⟨rfl, hw2⟩; subst hw2)
    go_region_law (refine step_append_lies _ (by rfl) _ _ _ (by rfl) W0.heap.size 227 i0 _ 3 32 Tryz.underlying157 hi0 hz0 hz1 hz2 rfl (by omega) (.slice po us.length cap) us.length (usC us) (by rfl) ((HRow2.out.alloc _).alloc _) ⟨wc.heap.size + 1, 0, none⟩ 1 1 [.string x, .int .i64 a, .int .i64 ak] (by rfl) (by rfl) (World.news_of_block (cs := #[.string x, .int .i64 a, .int .i64 ak]) (t := 227) (fr := (0, 0)) (new_at2 (by simp) _)) (by intro u hu; simp at hu; rcases hu with rfl | rfl | rfl <;> rfl) (by omega) (by unfold maxLen; omega) (by omega) (by simp; omega) _ rfl ?_; intro gg cap2 w3 hown1 hgrow hat hlt; have hb3 := (hgrow.block cb (by simp; omega) (fun e => hv0 e.symm)).trans ((Below.heap_alloc _ _ _ (by simp; omega)).trans ((Below.heap_alloc _ _ _ (by omega)).trans HU2.out.1)); have t1 : w3.cell? ⟨cb, 2, none⟩ = some (.slice po us.length cap) := cell_of hb3 rfl; have tf := free_of hb3; have HB3 := hide hb3; clear hb3)
    all_goals
      have hne := own_tag hown1 HB3.out (by decide)
      have hM := hide ((hgrow.block M (by simp; omega) (fun e => hvM e.symm)).trans ((Below.heap_alloc _ _ _ (by simp; omega)).trans ((Below.heap_alloc _ _ _ hml).trans HU2.out.2)))
      have hO3 := hide ((toDrew ((HO.out.alloc _).alloc _)).grown hgrow (fun q hq hq2 => by have := (HRow2.out.lt q hq).1; omega))
      have HOw := hide hown1
      have HK3 : Hid (UK cb w w3) := hide (fun k c t f hk ht hc => (hgrow.block k (by have := heap_lt (HKc.out k c t f hk); simp; omega) (fun e => hvT k c t f hk ht e.symm)).trans ((Below.heap_alloc _ _ _ (by have := heap_lt (HKc.out k c t f hk); simp; omega)).trans ((Below.heap_alloc _ _ _ (heap_lt (HKc.out k c t f hk))).trans (HKc.out k c t f hk))))
      clear hown1 hgrow hat
      go_wp2
      go_end0
      refine ⟨rfl, ⟨.slice (some ⟨gg, 0, none⟩) (us.length + 1) cap2, ⟨heap_setCell_same HB3.out _, ?_⟩, ?_, ?_, hM0⟩, fun k c t f hk ht hc => (Below.heap_setCell _ _ _ _ hc).trans (HK3.out k c t f hk ht hc)⟩
      · exact (Below.heap_setCell _ _ _ _ (by exact HU2.out.ne)).trans hM.out
      · rw [usC_snoc, List.length_append]
        exact ownsRow_of HOw.out (fun k hk => Below.heap_setCell _ _ _ _ (fun e => hne (by rw [hk, e])))
      · exact hO3.out.setCell (p := ⟨cb, 2, none⟩) (fun _ => rfl) _
end Go.Proofs.YtdbdbaepmdmnfaaGreatDoor

namespace Go.Proofs.YtdbdbaepmdmnfaaGreatDoor
open Go.RowKit
/-- What the checker does with an expression: it adds the uses ns. -/
def UseE (W0 : World) (cb M lp : Nat) (rec : Bool) (e : Value) (ns : List Use) : Prop :=
  ∀ (us : List Use) (w : World), us.length + ns.length ≤ 900 → UJ W0 cb M lp rec us w → Calls Tryz.prog 145 #[.pointer (some ⟨cb, 0, none⟩), e] w fun en w' => en = .returned (.tuple #[]) ∧ UJ W0 cb M lp rec (us ++ ns) w' ∧ UK cb w w'
theorem UK.alloc {cb : Nat} {a b : World} (h : UK cb a b) (o : Obj) : UK cb a (b.alloc o) := fun q x t f hq ht hc => (Below.heap_alloc _ _ _ (heap_lt (h q x t f hq ht hc))).trans (h q x t f hq ht hc)
theorem UK.fromAlloc {cb : Nat} {a b : World} {o : Obj} (h : UK cb (a.alloc o) b) : UK cb a b := fun q x t f hq ht hc => h q x t f ((Below.heap_alloc _ _ _ (heap_lt hq)).trans hq) ht hc
set_option maxRecDepth 20000 in
set_option maxHeartbeats 4000000 in
theorem useE_name (W0 : World) (cb M lp : Nat) (rec : Bool) (x : ByteArray) (a : Nat) : UseE W0 cb M lp rec (nameV x a) [(x, a, 0)] := by
  intro us w hl h
  have q0 := te188_188 (.agg #[.string x, .int .i64 a])
  have HN := hide (uname_any W0 cb M lp rec us (by simp at hl; omega) x a 0 _ (h.calm (onlyA w (.cells #[.string x, .int .i64 a] 92))))
  clear h
  unfold nameV
  go_enter Tryz.func145, Tryz.ntmps145
  go_wp2_with (go_at_call 186; refine (HN.out).mono ?_; rintro en w2 ⟨rfl, h1, h2⟩; have H1 := hide h1; have H2 := hide h2; clear h1 h2)
  go_end0
  exact ⟨rfl, H1.out, H2.out.fromAlloc⟩
end Go.Proofs.YtdbdbaepmdmnfaaGreatDoor

namespace Go.Proofs.YtdbdbaepmdmnfaaGreatDoor
open Go.RowKit
theorem UJ.lt {W0 cb M lp rec us w} (h : UJ W0 cb M lp rec us w) : cb < w.heap.size := by
  obtain ⟨v0, hu0, _, _, _⟩ := h
  exact heap_lt hu0.1
set_option maxRecDepth 20000 in
set_option maxHeartbeats 4000000 in
theorem useE_store (W0 : World) (cb M lp : Nat) (rec : Bool) (t1 t2 : TypeId) (u1 u2 : Value) (x : ByteArray) (n1 n2 : List Use) (h1 : UseE W0 cb M lp rec (.iface t1 u1) n1) (h2 : UseE W0 cb M lp rec (.iface t2 u2) n2) : UseE W0 cb M lp rec (storeT (.iface t1 u1) x (.iface t2 u2)) (n1 ++ n2) := by
  intro us w hl h
  rw [List.length_append] at hl
  have hcl := UJ.lt h
  have HE := hide (h1 us _ (by omega) (h.calm (onlyA w (.cells #[.iface t1 u1, .string x, .iface t2 u2] 326))))
  have H2 := hide h2
  clear h h1 h2
  unfold storeT
  have e1 : ∀ W, (Instr.typeAssert (.iface 326 (.agg #[.iface t1 u1, .string x, .iface t2 u2])) 238 92 true).run Tryz.prog W = .ok (.tuple #[.agg #[.string ⟨#[]⟩, .int .i64 0], .bool false]) W := fun W => by kernel_rfl
  have e2 : ∀ W, (Instr.typeAssert (.iface 326 (.agg #[.iface t1 u1, .string x, .iface t2 u2])) 238 306 true).run Tryz.prog W = .ok (.tuple #[.agg #[.string ⟨#[]⟩, .int .i64 0, .slice none 0 0], .bool false]) W := fun W => by kernel_rfl
  have e3 : ∀ W, (Instr.typeAssert (.iface 326 (.agg #[.iface t1 u1, .string x, .iface t2 u2])) 238 309 true).run Tryz.prog W = .ok (.tuple #[.agg #[.nilIface], .bool false]) W := fun W => by kernel_rfl
  have e4 : ∀ W, (Instr.typeAssert (.iface 326 (.agg #[.iface t1 u1, .string x, .iface t2 u2])) 238 311 true).run Tryz.prog W = .ok (.tuple #[.agg #[.string ⟨#[]⟩, .int .i64 0, .slice none 0 0], .bool false]) W := fun W => by kernel_rfl
  have e5 : ∀ W, (Instr.typeAssert (.iface 326 (.agg #[.iface t1 u1, .string x, .iface t2 u2])) 238 312 true).run Tryz.prog W = .ok (.tuple #[.agg #[.string ⟨#[]⟩, .int .i64 0, .slice none 0 0], .bool false]) W := fun W => by kernel_rfl
  have e6 : ∀ W, (Instr.typeAssert (.iface 326 (.agg #[.iface t1 u1, .string x, .iface t2 u2])) 238 314 true).run Tryz.prog W = .ok (.tuple #[.agg #[.string ⟨#[]⟩, .nilIface], .bool false]) W := fun W => by kernel_rfl
  have e7 : ∀ W, (Instr.typeAssert (.iface 326 (.agg #[.iface t1 u1, .string x, .iface t2 u2])) 238 316 true).run Tryz.prog W = .ok (.tuple #[.agg #[.nilIface, .string ⟨#[]⟩, .nilIface], .bool false]) W := fun W => by kernel_rfl
  have e8 : ∀ W, (Instr.typeAssert (.iface 326 (.agg #[.iface t1 u1, .string x, .iface t2 u2])) 238 319 true).run Tryz.prog W = .ok (.tuple #[.agg #[.nilIface, .nilIface], .bool false]) W := fun W => by kernel_rfl
  have e9 : ∀ W, (Instr.typeAssert (.iface 326 (.agg #[.iface t1 u1, .string x, .iface t2 u2])) 238 321 true).run Tryz.prog W = .ok (.tuple #[.agg #[.nilIface, .string ⟨#[]⟩, .int .i64 0], .bool false]) W := fun W => by kernel_rfl
  have e10 : ∀ W, (Instr.typeAssert (.iface 326 (.agg #[.iface t1 u1, .string x, .iface t2 u2])) 238 323 true).run Tryz.prog W = .ok (.tuple #[.agg #[.nilIface, .nilIface, .nilIface], .bool false]) W := fun W => by kernel_rfl
  have ey : ∀ W, (Instr.typeAssert (.iface 326 (.agg #[.iface t1 u1, .string x, .iface t2 u2])) 238 326 true).run Tryz.prog W = .ok (.tuple #[.agg #[.iface t1 u1, .string x, .iface t2 u2], .bool true]) W := fun W => by kernel_rfl
  go_enter Tryz.func145, Tryz.ntmps145
  go_wp2_with fail
  refine (HE.out).mono ?_
  rintro en w2 ⟨rfl, hj, hk⟩
  have hb := hk w.heap.size _ _ _ (new0 w _) (by decide) (by omega)
  have b2 : w2.cell? ⟨w.heap.size, 2, none⟩ = some (.iface t2 u2) := cell_of hb rfl
  have HE2 := hide (H2.out (us ++ n1) w2 (by rw [List.length_append]; omega) hj)
  have HK := hide hk
  clear hj hk hb
  go_wp2_with fail
  refine (HE2.out).mono ?_
  rintro en w3 ⟨rfl, hj, hk⟩
  have HJ := hide hj
  have HK2 := hide hk
  clear hj hk
  go_wp2
  go_end0
  rw [← List.append_assoc]
  exact ⟨rfl, HJ.out, (HK.out.fromAlloc).trans HK2.out⟩
end Go.Proofs.YtdbdbaepmdmnfaaGreatDoor

namespace Go.Proofs.YtdbdbaepmdmnfaaGreatDoor
open Go.RowKit
set_option maxRecDepth 20000 in
set_option maxHeartbeats 4000000 in
theorem ustmt_printL (cb : Nat) (po : Option Addr) (n cap : Nat) (Q : World → Prop) (w : World) (h1 : Calls Tryz.prog 114 #[.pointer (some ⟨cb, 0, none⟩), .slice po n cap] (w.alloc (.cells #[.slice po n cap, .nilIface] 285)) fun en w' => en = .returned (.tuple #[]) ∧ Q w') (hQ : ∀ W, Q W → ∃ a, W.heap[w.heap.size]? = some (.cells #[a, .nilIface] 285 (0, 0))) :
    Calls Tryz.prog 144 #[.pointer (some ⟨cb, 0, none⟩), .iface 285 (.agg #[.slice po n cap, .nilIface])] w fun en w' => en = .returned (.tuple #[]) ∧ Q w' := by
  have q0 := ts419_191 (.agg #[.slice po n cap, .nilIface])
  have q1 := ts419_424 (.agg #[.slice po n cap, .nilIface])
  have q2 := ts419_427 (.agg #[.slice po n cap, .nilIface])
  have q3 := ts419_429 (.agg #[.slice po n cap, .nilIface])
  have q4 := ts419_432 (.agg #[.slice po n cap, .nilIface])
  have q5 := ts419_507 (.agg #[.slice po n cap, .nilIface])
  have q6 := ts419_419 (.agg #[.slice po n cap, .nilIface])
  have H1 := hide h1
  have H2 := hide (uexpr_nil (some ⟨cb, 0, none⟩))
  have HQ := hide hQ
  clear h1 hQ
  go_enter Tryz.func144, Tryz.ntmps144
  go_wp2_with fail
  refine (H1.out).mono ?_
  rintro en w2 ⟨rfl, h3⟩
  obtain ⟨a, hb⟩ := HQ.out _ h3
  have c1 : w2.cell? ⟨w.heap.size, 1, none⟩ = some .nilIface := cell_of hb rfl
  have H3 := hide h3
  clear h3 hb
  go_wp2_with (go_at_call 145; refine (H2.out _).mono ?_; rintro en w' ⟨rfl, h3⟩; subst w')
  go_end0
  exact ⟨rfl, H3.out⟩
end Go.Proofs.YtdbdbaepmdmnfaaGreatDoor

namespace Go.Proofs.YtdbdbaepmdmnfaaGreatDoor
open Go.RowKit
/-- What the checker does with a statement. -/
def UseS (W0 : World) (cb M lp : Nat) (rec : Bool) (s : Value) (ns : List Use) : Prop :=
  ∀ (us : List Use) (w : World), us.length + ns.length ≤ 900 → UJ W0 cb M lp rec us w → Calls Tryz.prog 144 #[.pointer (some ⟨cb, 0, none⟩), s] w fun en w' => en = .returned (.tuple #[]) ∧ UJ W0 cb M lp rec (us ++ ns) w' ∧ UK cb w w'
theorem take_flat {α : Type} (nss : List (List α)) (k : Nat) (ns : List α) (h : nss[k]? = some ns) : (nss.take (k + 1)).flatten = (nss.take k).flatten ++ ns := by
  obtain ⟨hk, e⟩ := List.getElem?_eq_some_iff.1 h
  rw [List.take_succ_eq_append_getElem hk, List.flatten_append, e]
  simp
theorem take_flat_len {α : Type} (nss : List (List α)) (k : Nat) : (nss.take k).flatten.length ≤ nss.flatten.length := by
  conv => rhs; rw [← List.take_append_drop k nss, List.flatten_append, List.length_append]
  omega
set_option maxRecDepth 20000 in
set_option maxHeartbeats 4000000 in
theorem useEs (W0 : World) (cb M lp : Nat) (rec : Bool) (g cap : Nat) (es : List Value) (nss : List (List Use)) (hnl : nss.length = es.length) (hel : es.length ≤ 900) (hE : ∀ (i : Nat) e ns, es[i]? = some e → nss[i]? = some ns → UseE W0 cb M lp rec e ns) (hif : ∀ (i : Nat) e, es[i]? = some e → ∃ t x, e = .iface t x)
    (us : List Use) (w : World) (hl : us.length + nss.flatten.length ≤ 900) (h : UJ W0 cb M lp rec us w) (c : Array Value) (t : TypeId) (hb : w.heap[g]? = some (.cells c t (0, 0))) (ht : t ≠ 227) (hg : g ≠ cb) (hc : ∀ (i : Nat) e, es[i]? = some e → c[i]? = some e) :
    Calls Tryz.prog 114 #[.pointer (some ⟨cb, 0, none⟩), .slice (some ⟨g, 0, none⟩) es.length cap] w fun en w' => en = .returned (.tuple #[]) ∧ UJ W0 cb M lp rec (us ++ nss.flatten) w' ∧ UK cb w w' := by
  have HE := hide hE
  have HI := hide hif
  have HJ := hide h
  have HB := hide hb
  have HC := hide hc
  have HL := hide hl
  have HNL := hide hnl
  clear hE hif h hb hc hl hnl
  go_enter Tryz.func114, Tryz.ntmps114
  go_wp2
  go_loopg [8] es.length (fun gh s wr => ∃ k : Nat, k ≤ es.length ∧ gh = es.length - k ∧ s = .int .i64 k ∧ UJ W0 cb M lp rec (us ++ (nss.take k).flatten) wr ∧ UK cb w wr)
  case atStart => exact ⟨0, Nat.zero_le _, rfl, rfl, by simpa using HJ.out, UK.refl _ _⟩
  case round =>
    obtain ⟨k, hk, hgh, rfl, hj, hu⟩ := hrel
    by_cases hlt : k < es.length
    · obtain ⟨e, he⟩ : ∃ e, es[k]? = some e := ⟨_, List.getElem?_eq_getElem hlt⟩
      obtain ⟨ns, hns⟩ : ∃ ns, nss[k]? = some ns := ⟨_, List.getElem?_eq_getElem (by rw [HNL.out]; exact hlt)⟩
      obtain ⟨ti, xi, rfl⟩ := HI.out k e he
      have ck : wr.cell? ⟨g, k, none⟩ = some (.iface ti xi) := cell_of (hu g c t (0, 0) HB.out ht hg) (HC.out k _ he)
      have hfl := take_flat nss k ns hns
      have h1 := HE.out k _ ns he hns (us ++ (nss.take k).flatten) wr (by
        have h8 := take_flat_len nss (k + 1)
        have h9 := HL.out
        rw [hfl, List.length_append] at h8
        rw [List.length_append]
        omega) hj
      rw [List.append_assoc, ← hfl] at h1
      have H1 := hide h1
      have HU := hide hu
      have hki : (k : Int) < (es.length : Int) := by omega
      have HG := hide hgh
      clear h1 hj hu he hns hfl hgh
      go_wp2_with (go_at_call 145; refine (H1.out).mono ?_; rintro en w2 ⟨rfl, h3, h4⟩; have H3 := hide h3; have H4 := hide h4; clear h3 h4)
      go_roundg (es.length - (k + 1))
      case measure => rw [HG.out]; omega
      case rel => exact ⟨k + 1, by omega, rfl, by go_num, H3.out, HU.out.trans H4.out⟩
    · obtain rfl : k = es.length := by omega
      have hki : ¬ (es.length : Int) < (es.length : Int) := by omega
      have HJ2 := hide hj
      have HU := hide hu
      clear hj hu
      go_wp2
      go_end0
      have := HJ2.out
      rw [← HNL.out, List.take_length] at this
      exact ⟨rfl, this, HU.out⟩
set_option maxRecDepth 20000 in
set_option maxHeartbeats 4000000 in
theorem useSs (W0 : World) (cb M lp : Nat) (rec : Bool) (g cap : Nat) (es : List Value) (nss : List (List Use)) (hnl : nss.length = es.length) (hel : es.length ≤ 900) (hE : ∀ (i : Nat) e ns, es[i]? = some e → nss[i]? = some ns → UseS W0 cb M lp rec e ns) (hif : ∀ (i : Nat) e, es[i]? = some e → ∃ t x, e = .iface t x)
    (us : List Use) (w : World) (hl : us.length + nss.flatten.length ≤ 900) (h : UJ W0 cb M lp rec us w) (c : Array Value) (t : TypeId) (hb : w.heap[g]? = some (.cells c t (0, 0))) (ht : t ≠ 227) (hg : g ≠ cb) (hc : ∀ (i : Nat) e, es[i]? = some e → c[i]? = some e) :
    Calls Tryz.prog 113 #[.pointer (some ⟨cb, 0, none⟩), .slice (some ⟨g, 0, none⟩) es.length cap] w fun en w' => en = .returned (.tuple #[]) ∧ UJ W0 cb M lp rec (us ++ nss.flatten) w' ∧ UK cb w w' := by
  have HE := hide hE
  have HI := hide hif
  have HJ := hide h
  have HB := hide hb
  have HC := hide hc
  have HL := hide hl
  have HNL := hide hnl
  clear hE hif h hb hc hl hnl
  go_enter Tryz.func113, Tryz.ntmps113
  go_wp2
  go_loopg [8] es.length (fun gh s wr => ∃ k : Nat, k ≤ es.length ∧ gh = es.length - k ∧ s = .int .i64 k ∧ UJ W0 cb M lp rec (us ++ (nss.take k).flatten) wr ∧ UK cb w wr)
  case atStart => exact ⟨0, Nat.zero_le _, rfl, rfl, by simpa using HJ.out, UK.refl _ _⟩
  case round =>
    obtain ⟨k, hk, hgh, rfl, hj, hu⟩ := hrel
    by_cases hlt : k < es.length
    · obtain ⟨e, he⟩ : ∃ e, es[k]? = some e := ⟨_, List.getElem?_eq_getElem hlt⟩
      obtain ⟨ns, hns⟩ : ∃ ns, nss[k]? = some ns := ⟨_, List.getElem?_eq_getElem (by rw [HNL.out]; exact hlt)⟩
      obtain ⟨ti, xi, rfl⟩ := HI.out k e he
      have ck : wr.cell? ⟨g, k, none⟩ = some (.iface ti xi) := cell_of (hu g c t (0, 0) HB.out ht hg) (HC.out k _ he)
      have hfl := take_flat nss k ns hns
      have h1 := HE.out k _ ns he hns (us ++ (nss.take k).flatten) wr (by
        have h8 := take_flat_len nss (k + 1)
        have h9 := HL.out
        rw [hfl, List.length_append] at h8
        rw [List.length_append]
        omega) hj
      rw [List.append_assoc, ← hfl] at h1
      have H1 := hide h1
      have HU := hide hu
      have hki : (k : Int) < (es.length : Int) := by omega
      have HG := hide hgh
      clear h1 hj hu he hns hfl hgh
      go_wp2_with (go_at_call 144; refine (H1.out).mono ?_; rintro en w2 ⟨rfl, h3, h4⟩; have H3 := hide h3; have H4 := hide h4; clear h3 h4)
      go_roundg (es.length - (k + 1))
      case measure => rw [HG.out]; omega
      case rel => exact ⟨k + 1, by omega, rfl, by go_num, H3.out, HU.out.trans H4.out⟩
    · obtain rfl : k = es.length := by omega
      have hki : ¬ (es.length : Int) < (es.length : Int) := by omega
      have HJ2 := hide hj
      have HU := hide hu
      clear hj hu
      go_wp2
      go_end0
      have := HJ2.out
      rw [← HNL.out, List.take_length] at this
      exact ⟨rfl, this, HU.out⟩
end Go.Proofs.YtdbdbaepmdmnfaaGreatDoor

namespace Go.Proofs.YtdbdbaepmdmnfaaGreatDoor
open Go.RowKit
/-- A row of trees, as it lies since W0. -/
theorem row_block {W0 w : World} {cb : Nat} {B : Nat} {e : TypeId} {v : Value} {n : Nat} {xs : List Value} (h : W0.ownsRow B e 1 v n xs) (hn : 0 < n) (hcb : v.ownBlock ≠ some cb) (ho : Only (fun k => k = cb) W0 w) : ∃ g cap c, v = .slice (some ⟨g, 0, none⟩) n cap ∧ g ≠ cb ∧ w.heap[g]? = some (.cells c e (0, 0)) ∧ ∀ (i : Nat) x, xs[i]? = some x → c[i]? = some x := by
  rcases h.2 with ⟨rfl, h1⟩ | ⟨g, cap, cur, rfl, h1, h2, h3, h4, h5, h6⟩
  · omega
  · refine ⟨g, cap, cur, rfl, fun e => hcb (by rw [e]; rfl), (ho.block g (heap_lt h2) (fun e => hcb (by rw [e]; rfl))).trans h2, fun i x hx => ?_⟩
    have hl := (List.getElem?_eq_some_iff.1 hx).1
    have : (cur.toList.take (n * 1))[i]? = some x := by rw [h6]; exact hx
    rw [List.getElem?_take] at this
    split at this
    · rw [Array.getElem?_toList] at this
      exact this
    · cases this
set_option maxRecDepth 20000 in
set_option maxHeartbeats 4000000 in
theorem useS_printL (W0 : World) (cb M lp : Nat) (rec : Bool) (pb : Nat) (r : Value) (t1 : TypeId) (u1 : Value) (ns : List Use) (hr : Row pb [.iface t1 u1] W0 r) (hcb : r.ownBlock ≠ some cb) (hE : UseE W0 cb M lp rec (.iface t1 u1) ns) : UseS W0 cb M lp rec (.iface 285 (.agg #[r, .nilIface])) ns := by
  intro us w hl h
  have hlc := UJ.lt h
  obtain ⟨g, cap, c, rfl, hg, hb, hc⟩ := row_block hr.1 (by simp) hcb (by obtain ⟨_, _, _, ho, _⟩ := h; exact ho)
  have hb2 := (Below.heap_alloc w (.cells #[.slice (some ⟨g, 0, none⟩) 1 cap, .nilIface] 285) g (heap_lt hb)).trans hb
  have h1 := useEs W0 cb M lp rec g cap [.iface t1 u1] [ns] rfl (by simp) (fun i e n h1 h2 => by
    cases i with
    | zero => cases h1; cases h2; exact hE
    | succ i => cases h1) (fun i e h1 => by
    cases i with
    | zero => cases h1; exact ⟨_, _, rfl⟩
    | succ i => cases h1) us _ (by simpa using hl) (h.calm (onlyA w (.cells #[.slice (some ⟨g, 0, none⟩) 1 cap, .nilIface] 285))) c _ hb2 (by decide) hg hc
  refine (ustmt_printL cb (some ⟨g, 0, none⟩) 1 cap (fun w' => UJ W0 cb M lp rec (us ++ ns) w' ∧ UK cb (w.alloc (.cells #[.slice (some ⟨g, 0, none⟩) 1 cap, .nilIface] 285)) w') w (h1.mono (fun en w' hh => ⟨hh.1, by simpa using hh.2.1, hh.2.2⟩)) (fun W hW => ⟨_, hW.2 w.heap.size _ _ _ (new0 w _) (by decide) (by omega)⟩)).mono ?_
  rintro en w' ⟨rfl, h2, h3⟩
  exact ⟨rfl, h2, h3.fromAlloc⟩
theorem useS_print (W0 : World) (cb M lp : Nat) (rec : Bool) : UseS W0 cb M lp rec printV [] := by
  intro us w hl h
  refine (ustmt_print (some ⟨cb, 0, none⟩) w).mono ?_
  rintro en w' ⟨rfl, h2⟩
  rw [List.append_nil]
  exact ⟨rfl, h.calm h2, UK.ofOnly (h2.mono (fun _ _ e => e.elim))⟩
theorem useS_work (W0 : World) (cb M lp : Nat) (rec : Bool) (t : TypeId) (u : Value) (ns : List Use) (hE : UseE W0 cb M lp rec (.iface t u) ns) : UseS W0 cb M lp rec (.iface 350 (.agg #[.iface t u])) ns := by
  intro us w hl h
  refine (ustmt_work cb t u (fun w' => UJ W0 cb M lp rec (us ++ ns) w' ∧ UK cb w w') w (fun W hW => (hE us W hl (h.calm hW)).mono (fun en w' hh => ⟨hh.1, hh.2.1, (UK.ofOnly (hW.mono (fun _ _ e => e.elim))).trans hh.2.2⟩))).mono ?_
  rintro en w' hh
  exact hh
end Go.Proofs.YtdbdbaepmdmnfaaGreatDoor

namespace Go.Proofs.YtdbdbaepmdmnfaaGreatDoor
open Go.RowKit
theorem UK.setCell {cb : Nat} {a b : World} (h : UK cb a b) (o : Nat) (u : Value) : UK cb a (b.setCell ⟨cb, o, none⟩ u) := fun q x t f hq ht hc => (Below.heap_setCell _ _ _ _ hc).trans (h q x t f hq ht hc)
end Go.Proofs.YtdbdbaepmdmnfaaGreatDoor

namespace Go.Proofs.YtdbdbaepmdmnfaaGreatDoor
open Go.RowKit
set_option maxRecDepth 20000 in
set_option maxHeartbeats 4000000 in
theorem cmp_int (x y : Int) (h : y < x) (w : World) : Calls Tryz.prog 117 #[.int .i64 x, .int .i64 y] w fun en w' => en = .returned (.int .i64 1) ∧ w' = w := by
  have h1 : ¬ x < y := by omega
  go_enter Tryz.func117, Tryz.ntmps117
  go_wp2
  go_ret
  exact ⟨rfl, rfl⟩
set_option maxRecDepth 20000 in
set_option maxHeartbeats 4000000 in
theorem cmp_use (x y : ByteArray) (a b i j : Nat) (h : b < a) (w : World) : Calls Tryz.prog 116 #[.agg #[.string x, .int .i64 a, .int .i64 i], .agg #[.string y, .int .i64 b, .int .i64 j]] w fun en w' => en = .returned (.int .i64 1) ∧ Only (fun _ => False) w w' := by
  have HC := hide (cmp_int a b (by omega))
  go_enter Tryz.func116, Tryz.ntmps116
  go_wp2_with (go_at_call 117; refine (HC.out _).mono ?_; rintro en w' ⟨rfl, h3⟩; subst w')
  go_ret
  exact ⟨rfl, (onlyA _ _).alloc _⟩
theorem keepD {w w' : World} (ho : Only (fun _ => False) w.drew w') {p : Addr} {v : Value} (h : w.cell? p = some v) : w'.cell? p = some v := (ho.cell (p := p) (World.block_lt_of_cell? w p h) (fun e => e)).trans h
theorem cf_cmp (args : Array Value) (w : World) : (callFunc 116 args).run Tryz.prog w = .ok (.enter 116 args) w := callFunc_in Tryz.func116 (by kernel_rfl) rfl args w
/-- The uses stand in the order of their places. -/
def Rising (us : List Use) : Prop := ∀ (i : Nat) u v, us[i]? = some u → us[i + 1]? = some v → u.2.1 < v.2.1
set_option maxRecDepth 20000 in
set_option maxHeartbeats 8000000 in
theorem insert_rising (g cap : Nat) (us : List Use) (hn : us.length ≤ 12) (hr : Rising us) (w : World) (hc : ∀ (i : Nat) u, us[i]? = some u → w.cell? ⟨g, i * 3, none⟩ = some (.string u.1) ∧ w.cell? ⟨g, i * 3 + 1, none⟩ = some (.int .i64 u.2.1) ∧ w.cell? ⟨g, i * 3 + 2, none⟩ = some (.int .i64 u.2.2)) (hg : g < w.heap.size) :
    Calls Tryz.prog 190 #[.slice (some ⟨g, 0, none⟩) us.length cap, .int .i64 0, .int .i64 us.length, .func (.func 116) #[] #[]] w fun en w' => en = .returned (.tuple #[]) ∧ Only (fun _ => False) w w' := by
  have HR := hide hr
  have HC := hide hc
  have hcf := cf_cmp
  clear hr hc
  go_enter Tryz.func190, Tryz.ntmps190
  go_wp2
  go_loopw [8] (fun s wr => ∃ m : Nat, s = .int .i64 (m : Int) ∧ 1 ≤ m ∧ m ≤ us.length + 1 ∧ Only (fun _ => False) w wr) (fun s _ => us.length - (intOf s).toNat)
  case atStart => exact ⟨1, rfl, Nat.le_refl _, by omega, Only.refl _ _⟩
  case round =>
    obtain ⟨m, rfl, hm1, hk, ho⟩ := hrel
    by_cases hlt : m < us.length
    · obtain ⟨k, rfl⟩ : ∃ k, m = k + 1 := ⟨m - 1, by omega⟩
      obtain ⟨u, hu⟩ : ∃ u, us[k]? = some u := ⟨_, List.getElem?_eq_getElem (by omega)⟩
      obtain ⟨v, hv⟩ : ∃ v, us[k + 1]? = some v := ⟨_, List.getElem?_eq_getElem hlt⟩
      have hcm := HR.out k u v hu hv
      have keep : ∀ (o : Nat) x, w.cell? ⟨g, o, none⟩ = some x → wr.cell? ⟨g, o, none⟩ = some x := fun o x h => (ho.cell (p := ⟨g, o, none⟩) hg (fun e => e)).trans h
      have a0 := keep _ _ (HC.out k u hu).1
      have a1 := keep _ _ (HC.out k u hu).2.1
      have a2 := keep _ _ (HC.out k u hu).2.2
      have b0 := keep _ _ (HC.out (k + 1) v hv).1
      have b1 := keep _ _ (HC.out (k + 1) v hv).2.1
      have b2 := keep _ _ (HC.out (k + 1) v hv).2.2
      have HK := hide (cmp_use v.1 u.1 v.2.1 u.2.1 v.2.2 u.2.2 hcm)
      have HO := hide ho
      have hq : (k + 1) - 1 = k := by omega
      rw [← hq] at a0 a1 a2
      generalize hmm : k + 1 = m at *
      have hw1 : IntKind.i64.wrap ((m : Int) - 1) = (m : Int) - 1 := IntWalk.i64_in _ ⟨by omega, by omega⟩
      have hp0 : (0 : Int) ≤ (m : Int) - 1 := by omega
      have hp1 : (m : Int) - 1 < (us.length : Int) := by omega
      have hki : (m : Int) < (us.length : Int) := by omega
      have hk0 : 0 < m := by omega
      have hk9 : m - 1 < us.length := by omega
      have hk10 : m ≤ us.length := by omega
      have hk11 : (m : Int) ≤ (us.length : Int) := by omega
      have hk12 : 1 ≤ m := by omega
      have hk13 : (1 : Int) ≤ (m : Int) := by omega
      have hk1 : (0 : Int) < (m : Int) := by omega
      clear ho keep hcm hu hv hq hmm
      go_wp2_with fail
      go_loop [9] (fun s => s = .int .i64 (m : Int)) (fun _ => 0)
      case atStart => exact rfl
      case round =>
        subst hrel
        go_wp2_with fail
        have a0d : wr.drew.cell? ⟨g, (m - 1) * 3, none⟩ = some (.string u.1) := a0
        have a1d : wr.drew.cell? ⟨g, (m - 1) * 3 + 1, none⟩ = some (.int .i64 u.2.1) := a1
        have a2d : wr.drew.cell? ⟨g, (m - 1) * 3 + 2, none⟩ = some (.int .i64 u.2.2) := a2
        have b0d : wr.drew.cell? ⟨g, m * 3, none⟩ = some (.string v.1) := b0
        have b1d : wr.drew.cell? ⟨g, m * 3 + 1, none⟩ = some (.int .i64 v.2.1) := b1
        have b2d : wr.drew.cell? ⟨g, m * 3 + 2, none⟩ = some (.int .i64 v.2.2) := b2
        go_region_held3 (fun W => W.cell? ⟨g, (m - 1) * 3, none⟩ = some (.string u.1) ∧ W.cell? ⟨g, (m - 1) * 3 + 1, none⟩ = some (.int .i64 u.2.1) ∧ W.cell? ⟨g, (m - 1) * 3 + 2, none⟩ = some (.int .i64 u.2.2) ∧ W.cell? ⟨g, m * 3, none⟩ = some (.string v.1) ∧ W.cell? ⟨g, m * 3 + 1, none⟩ = some (.int .i64 v.2.1) ∧ W.cell? ⟨g, m * 3 + 2, none⟩ = some (.int .i64 v.2.2)) (first | (refine ⟨?_, ?_, ?_, ?_, ?_, ?_⟩ <;> (with_reducible assumption)))
          (first | (go_at_call 116; refine (HK.out _).mono ?_; rintro en w2 ⟨rfl, ho2⟩; have c0 := keepD ho2 a0; have c1 := keepD ho2 a1; have c2 := keepD ho2 a2; have c3 := keepD ho2 b0; have c4 := keepD ho2 b1; have c5 := keepD ho2 b2; have HO2 := hide ho2; clear ho2))
        all_goals
          go_wp2_with fail
          refine ⟨⟨m + 1, by go_num, by omega, by omega, HO.out.trans (fromDrew HO2.out) (fun _ _ e => e)⟩, ?_⟩
          simp [intOf]
          omega
    · have hki : ¬ (m : Int) < (us.length : Int) := by omega
      have HO := hide ho
      clear ho
      go_wp2
      go_end0
      exact ⟨rfl, HO.out⟩
end Go.Proofs.YtdbdbaepmdmnfaaGreatDoor

namespace Go.Proofs.YtdbdbaepmdmnfaaGreatDoor
open Go.RowKit
/-- What the judge knows: nothing, or that i is a variable. -/
def MapI (w : World) (M : Nat) (b : Bool) : Prop := w.heap[M]? = some (if b then .map #[⟨.string ix, .int .i64 0, 0⟩] 1 else .map #[] 0)
theorem MapI.only {w w' : World} {M : Nat} {b : Bool} {D : Nat → Prop} (h : MapI w M b) (ho : Only D w w') (hd : ¬ D M) : MapI w' M b := (ho.block M (heap_lt h) hd).trans h
end Go.Proofs.YtdbdbaepmdmnfaaGreatDoor

namespace Go.Proofs.YtdbdbaepmdmnfaaGreatDoor
open Go.RowKit
theorem UJ.setRec {W0 cb M lp rec us w} (h : UJ W0 cb M lp rec us w) (r : Bool) : UJ W0 cb M lp r us (w.setCell ⟨cb, 6, none⟩ (.bool r)) := by
  obtain ⟨v, h1, h2, h3, h4⟩ := h
  refine ⟨v, ⟨heap_setCell_same h1.1 _, (Below.heap_setCell _ _ _ _ h1.ne).trans h1.2⟩, ownsRow_of h2 (fun k hk => Below.heap_setCell _ _ _ _ (fun e => own_tag h2 h1.1 (by decide) (by rw [hk, e]))), h3.setCell (p := ⟨cb, 6, none⟩) (fun _ => rfl) _, h4⟩
end Go.Proofs.YtdbdbaepmdmnfaaGreatDoor

namespace Go.Proofs.YtdbdbaepmdmnfaaGreatDoor
open Go.RowKit
set_option maxRecDepth 20000 in
set_option maxHeartbeats 4000000 in
theorem len_3 (w : World) : Calls Tryz.prog 147 #[.int .u64 3] w fun en w' => (∃ l, en = .returned (.int .i64 l)) ∧ w' = w := by
  go_enter Tryz.func147, Tryz.ntmps147
  go_wp2
  go_ret
  exact ⟨⟨_, rfl⟩, rfl⟩
set_option maxRecDepth 20000 in
set_option maxHeartbeats 4000000 in
theorem pdq_rising3 (g cap : Nat) (us : List Use) (hn : us.length = 3) (hr : Rising us) (l : Int) (w : World) (hc : ∀ (i : Nat) u, us[i]? = some u → w.cell? ⟨g, i * 3, none⟩ = some (.string u.1) ∧ w.cell? ⟨g, i * 3 + 1, none⟩ = some (.int .i64 u.2.1) ∧ w.cell? ⟨g, i * 3 + 2, none⟩ = some (.int .i64 u.2.2)) (hg : g < w.heap.size) :
    Calls Tryz.prog 146 #[.slice (some ⟨g, 0, none⟩) 3 cap, .int .i64 0, .int .i64 3, .int .i64 l, .func (.func 116) #[] #[]] w fun en w' => en = .returned (.tuple #[]) ∧ Only (fun _ => False) w w' := by
  have hI := insert_rising g cap us (by omega) hr w hc hg
  rw [hn] at hI
  have HI : Hid (Calls Tryz.prog 190 #[.slice (some ⟨g, 0, none⟩) 3 cap, .int .i64 0, .int .i64 3, .func (.func 116) #[] #[]] w fun en w' => en = .returned (.tuple #[]) ∧ Only (fun _ => False) w w') := hide hI
  clear hI hc hr
  go_enter Tryz.func146, Tryz.ntmps146
  go_wp2
  go_loop [1, 2] (fun s1 s2 => s1 = .int .i64 0 ∧ s2 = .int .i64 3) (fun _ _ => 0)
  case atStart => exact ⟨rfl, rfl⟩
  case round =>
    obtain ⟨rfl, rfl⟩ := hrel
    go_wp2_with (go_at_call 190; refine (HI.out).mono ?_; rintro en w2 ⟨rfl, h3⟩; have H3 := hide h3; clear h3)
    refine bodyPost_ret (results_none rfl _ _ _) rfl ?_
    exact ⟨rfl, H3.out⟩
set_option maxRecDepth 20000 in
set_option maxHeartbeats 4000000 in
theorem sort_rising3 (g cap : Nat) (us : List Use) (hn : us.length = 3) (hr : Rising us) (w : World) (hc : ∀ (i : Nat) u, us[i]? = some u → w.cell? ⟨g, i * 3, none⟩ = some (.string u.1) ∧ w.cell? ⟨g, i * 3 + 1, none⟩ = some (.int .i64 u.2.1) ∧ w.cell? ⟨g, i * 3 + 2, none⟩ = some (.int .i64 u.2.2)) (hg : g < w.heap.size) :
    Calls Tryz.prog 115 #[.slice (some ⟨g, 0, none⟩) 3 cap, .func (.func 116) #[] #[]] w fun en w' => en = .returned (.tuple #[]) ∧ Only (fun _ => False) w w' := by
  have HL := hide len_3
  have HP := hide (fun l => pdq_rising3 g cap us hn hr l w hc hg)
  clear hc hr
  go_enter Tryz.func115, Tryz.ntmps115
  go_wp2_with (first | (go_at_call 147; refine (HL.out _).mono ?_; rintro en w' ⟨⟨l, rfl⟩, rfl⟩) | (go_at_call 146; refine (HP.out _).mono ?_; rintro en w2 ⟨rfl, h3⟩; have H3 := hide h3; clear h3))
  go_end0
  exact ⟨rfl, H3.out⟩
def usR (m : Nat) : List Use := [(FSr, 8, 0), (nr, 22, 0), (nr, 46 + m, 0)]
/-- What the judge knows: nothing, or that n is a variable. -/
def MapR (w : World) (M : Nat) (b : Bool) : Prop := w.heap[M]? = some (if b then .map #[⟨.string nr, .int .i64 0, 0⟩] 1 else .map #[] 0)
theorem MapR.only {w w' : World} {M : Nat} {b : Bool} {D : Nat → Prop} (h : MapR w M b) (ho : Only D w w') (hd : ¬ D M) : MapR w' M b := (ho.block M (heap_lt h) hd).trans h
theorem look_fsR {w : World} {M : Nat} (h : MapR w M false) : (Instr.lookup 230 (.map (some M)) (.string FSr) true).run Tryz.prog w = .ok (.tuple #[.int .i64 0, .bool false]) w := look360 h FSr
theorem look_nR {w : World} {M : Nat} {b : Bool} (h : MapR w M b) : (Instr.lookup 230 (.map (some M)) (.string nr) true).run Tryz.prog w = .ok (.tuple #[.int .i64 0, .bool b]) w := by
  cases b with
  | false => exact look360 h nr
  | true =>
    have h1 := MapKept.run_getObj_map (P := Tryz.prog) h
    have h2 : (Instr.checkKey false 10000 9 (.string nr)).run Tryz.prog w = .ok () w := MapKept.run_checkKey (d := .string) Tryz.underlying9 (by simp [MapKept.IsKey]) false 9999
    have h3 : (Instr.findKey 9 (.string nr) [⟨.string nr, .int .i64 0, 0⟩]).run Tryz.prog w = .ok (some (0, .int .i64 0)) w := MapKept.run_findKey Tryz.underlying9 (by kernel_rfl)
    simp [Instr.lookup, go_sem, h1, h2, h3]
set_option maxRecDepth 20000 in
set_option maxHeartbeats 1000000 in
theorem there_fsR (w : World) : Calls Tryz.prog 110 #[.string FSr] w fun en w' => en = .returned (.bool true) ∧ w' = w := by
  unfold FSr ofB
  go_enter Tryz.func110, Tryz.ntmps110
  go_wp2
  go_ret
  exact ⟨rfl, rfl⟩
set_option maxRecDepth 20000 in
set_option maxHeartbeats 1000000 in
theorem there_nR (w : World) : Calls Tryz.prog 110 #[.string nr] w fun en w' => en = .returned (.bool false) ∧ w' = w := by
  unfold nr ofB
  go_enter Tryz.func110, Tryz.ntmps110
  go_wp2
  go_ret
  exact ⟨rfl, rfl⟩
theorem risingR (m : Nat) : Rising (usR m) := by
  intro i u v h1 h2
  match i with
  | 0 => cases h1; cases h2; decide
  | 1 => cases h1; cases h2; show 22 < 46 + m; omega
  | k + 2 => cases h2
theorem uscR (m : Nat) {B : Nat} {w : World} {v : Value} (h : w.ownsRow B 227 3 v 3 (usC (usR m))) : ∃ g cap, v = .slice (some ⟨g, 0, none⟩) 3 cap ∧ g < w.heap.size ∧ ∀ (i : Nat) u, (usR m)[i]? = some u → w.cell? ⟨g, i * 3, none⟩ = some (.string u.1) ∧ w.cell? ⟨g, i * 3 + 1, none⟩ = some (.int .i64 u.2.1) ∧ w.cell? ⟨g, i * 3 + 2, none⟩ = some (.int .i64 u.2.2) := by
  obtain ⟨g, cap, rfl, hg, hc⟩ := own_at h (by omega)
  refine ⟨g, cap, rfl, hg, fun i u hu => ?_⟩
  match i with
  | 0 => cases hu; exact ⟨hc 0 _ rfl, hc 1 _ rfl, hc 2 _ rfl⟩
  | 1 => cases hu; exact ⟨hc 3 _ rfl, hc 4 _ rfl, hc 5 _ rfl⟩
  | 2 => cases hu; exact ⟨hc 6 _ rfl, hc 7 _ rfl, hc 8 _ rfl⟩
  | k + 3 => cases hu
set_option maxRecDepth 20000 in
set_option maxHeartbeats 8000000 in
theorem judgeR (m : Nat) (W0 : World) (cb M lp : Nat) (rec : Bool) (w : World) (h : UJ W0 cb M lp rec (usR m) w) :
    Calls Tryz.prog 78 #[.pointer (some ⟨cb, 0, none⟩)] w fun en w' => en = .returned (.tuple #[]) ∧ Only (fun _ => False) w w' := by
  have hmm := @run_makeMap Tryz.prog
  obtain ⟨v, h1, h2, _, _⟩ := h
  obtain ⟨g, cap, rfl, hg, hc⟩ := uscR m h2
  have hcl := heap_lt h1.1
  have c2 : w.cell? ⟨cb, 2, none⟩ = some (.slice (some ⟨g, 0, none⟩) 3 cap) := cell_of h1.1 rfl
  have HS := hide (sort_rising3 g cap (usR m) rfl (risingR m) w hc hg)
  have HTn := hide there_fsR
  have HTi := hide there_nR
  have HC := hide hc
  clear h1 h2 hc
  go_enter Tryz.func78, Tryz.ntmps78
  go_wp2_with fail
  refine (HS.out).mono ?_
  rintro en w1 ⟨rfl, ho1⟩
  have d2 : w1.cell? ⟨cb, 2, none⟩ = some (.slice (some ⟨g, 0, none⟩) 3 cap) := (ho1.cell (p := ⟨cb, 2, none⟩) hcl (fun e => e)).trans c2
  have hz1 := ho1.size
  have hcl1 : cb < w1.heap.size := by omega
  have HO1 := hide ho1
  clear ho1 HS c2
  go_wp2_with fail
  go_loopg [19] 3 (fun gh s wr => ∃ k : Nat, k ≤ 3 ∧ gh = 3 - k ∧ s = .int .i64 k ∧ MapR wr w1.heap.size (decide (2 ≤ k)) ∧ Only (fun _ => False) w1 wr)
  case atStart => exact ⟨0, by omega, rfl, rfl, new0 w1 _, onlyA _ _⟩
  case round =>
    obtain ⟨k, hk, hgh, rfl, hM, ho⟩ := hrel
    have hMl := heap_lt hM
    have keep : ∀ (o : Nat) x, w.cell? ⟨g, o, none⟩ = some x → wr.cell? ⟨g, o, none⟩ = some x := fun o x h => (ho.cell (p := ⟨g, o, none⟩) (by show g < _; omega) (fun e => e)).trans ((HO1.out.cell (p := ⟨g, o, none⟩) hg (fun e => e)).trans h)
    have HM := hide hM
    have HO := hide ho
    have HG := hide hgh
    match k, hk with
    | 0, _ =>
      have a0 := keep _ _ (HC.out 0 (FSr, 8, 0) rfl).1
      have a1 := keep _ _ (HC.out 0 (FSr, 8, 0) rfl).2.1
      have a2 := keep _ _ (HC.out 0 (FSr, 8, 0) rfl).2.2
      clear hM ho hgh keep
      have hl := look_fsR (HM.out.only (onlyA wr (.cells #[.string FSr, .int .i64 8, .int .i64 0] 227)) (fun e => e))
      go_wp2_with (go_at_call 110; refine (HTn.out _).mono ?_; rintro en w' ⟨rfl, h3⟩; subst w')
      go_roundg 2
      case measure => rw [HG.out]; omega
      case rel => exact ⟨1, by omega, rfl, rfl, HM.out.only (onlyA _ _) (fun e => e), HO.out.alloc _⟩
    | 1, _ =>
      have a0 := keep _ _ (HC.out 1 (nr, 22, 0) rfl).1
      have a1 := keep _ _ (HC.out 1 (nr, 22, 0) rfl).2.1
      have a2 := keep _ _ (HC.out 1 (nr, 22, 0) rfl).2.2
      clear hM ho hgh keep
      have hl := look_nR (HM.out.only (onlyA wr (.cells #[.string nr, .int .i64 22, .int .i64 0] 227)) (fun e => e))
      go_wp2_with (go_at_call 110; refine (HTi.out _).mono ?_; rintro en w' ⟨rfl, h3⟩; subst w')
      have hM2 : ((wr.alloc (.cells #[.string nr, .int .i64 22, .int .i64 0] 227)).drew).heap[w1.heap.size]? = some (.map #[] 0) := HM.out.only (D := fun _ => False) (toDrew (onlyA _ _)) (fun e => e)
      obtain ⟨W3, hmu, ho3, hM3⟩ : ∃ W3, (Instr.mapUpdate 230 (.map (some w1.heap.size)) (.string nr) (.int .i64 0)).run Tryz.prog ((wr.alloc (.cells #[.string nr, .int .i64 22, .int .i64 0] 227)).drew) = .ok () W3 ∧ Only (fun k => k = w1.heap.size) ((wr.alloc (.cells #[.string nr, .int .i64 22, .int .i64 0] 227)).drew) W3 ∧ MapR W3 w1.heap.size true := by
        refine ⟨_, run_mapUpdate_first _ 230 9 225 w1.heap.size 0 nr (.int .i64 0) Tryz.underlying230 Tryz.underlying9 hM2, ⟨rfl, rfl, rfl, by simp, fun k _ hk => ?_⟩, ?_⟩
        · simp [Ne.symm hk]
        · unfold MapR
          have hlt2 := heap_lt hM2
          rw [Array.getElem?_setIfInBounds, if_pos rfl, if_pos hlt2]
          rfl
      have hb3 := (ho3.block wr.heap.size (by simp [World.drew]) (by omega)).trans (new0 wr (.cells #[.string nr, .int .i64 22, .int .i64 0] 227))
      have e2 : W3.cell? ⟨wr.heap.size, 2, none⟩ = some (.int .i64 0) := cell_of hb3 rfl
      have HO3 : Hid (Only (fun _ => False) w1 W3) := hide ((toDrew (HO.out.alloc _)).trans ho3 (fun i hi e => absurd hi (by omega)))
      have HM3 := hide hM3
      clear ho3 hb3 hM3 hM2
      go_region
      all_goals
        go_wp2
        go_roundg 1
        case measure => rw [HG.out]; omega
        case rel => exact ⟨2, by omega, rfl, rfl, HM3.out, HO3.out⟩
    | 2, _ =>
      have a0 := keep _ _ (HC.out 2 (nr, 46 + m, 0) rfl).1
      have a1 := keep _ _ (HC.out 2 (nr, 46 + m, 0) rfl).2.1
      have a2 := keep _ _ (HC.out 2 (nr, 46 + m, 0) rfl).2.2
      clear hM ho hgh keep
      have hl := look_nR (HM.out.only (onlyA wr (.cells #[.string nr, .int .i64 (46 + (m : Int)), .int .i64 0] 227)) (fun e => e))
      go_wp2_with (go_at_call 110; refine (HTi.out _).mono ?_; rintro en w' ⟨rfl, h3⟩; subst w')
      go_roundg 0
      case measure => rw [HG.out]; omega
      case rel => exact ⟨3, by omega, rfl, rfl, HM.out.only (onlyA _ _) (fun e => e), HO.out.alloc _⟩
    | 3, _ =>
      clear keep
      go_wp2
      go_end0
      exact ⟨rfl, HO1.out.trans HO.out (fun _ _ e => e)⟩
end Go.Proofs.YtdbdbaepmdmnfaaGreatDoor

namespace Go.Proofs.YtdbdbaepmdmnfaaGreatDoor
open Go.RowKit
set_option maxRecDepth 20000 in
set_option maxHeartbeats 4000000 in
theorem uown_gsub2 (cb : Nat) (a : Nat) (p q : Value) (g cap : Nat) (w : World) (hg : g < w.heap.size) (e0 : w.cell? ⟨g, 0, none⟩ = some (.iface 303 p)) (e1 : w.cell? ⟨g, 1, none⟩ = some (.iface 303 q)) :
    Calls Tryz.prog 189 #[.pointer (some ⟨cb, 0, none⟩), .agg #[.string ⟨#[103, 115, 117, 98]⟩, .int .i64 a, .slice (some ⟨g, 0, none⟩) 2 cap]] w fun en w' => en = .returned (.tuple #[]) ∧ Only (fun _ => False) w w' := by
  have HC := hide argCounts_gsub
  have HI := hide isReplacing_gsub
  have HA := hide (fun (W : World) t e D h => uarg_plain cb ⟨#[103, 115, 117, 98]⟩ a t e D W h)
  go_enter Tryz.func189, Tryz.ntmps189
  go_wp2_with (first | (go_at_call 256; refine (HC.out _).mono ?_; rintro en w' ⟨rfl, rfl⟩) | (go_at_call 257; refine (HI.out _).mono ?_; rintro en w' ⟨rfl, rfl⟩))
  go_loopg [59] 2 (fun gh s59 wr => ∃ k : Nat, k ≤ 2 ∧ gh = 2 - k ∧ s59 = .int .i64 k ∧ Only (fun _ => False) (w.alloc (.cells #[.string ⟨#[103, 115, 117, 98]⟩, .int .i64 a, .slice (some ⟨g, 0, none⟩) 2 cap] 312)) wr)
  case atStart => exact ⟨0, by omega, rfl, rfl, Only.refl _ _⟩
  case round =>
    obtain ⟨k, hk, hgh, rfl, ho⟩ := hrel
    have hb := (ho.block w.heap.size (by simp) (fun e => e)).trans (new0 w (.cells #[.string ⟨#[103, 115, 117, 98]⟩, .int .i64 a, .slice (some ⟨g, 0, none⟩) 2 cap] 312))
    have b0 : wr.cell? ⟨w.heap.size, 0, none⟩ = some (.string ⟨#[103, 115, 117, 98]⟩) := cell_of hb rfl
    have b1 : wr.cell? ⟨w.heap.size, 1, none⟩ = some (.int .i64 a) := cell_of hb rfl
    have HO := hide ho
    have hz : w.heap.size + 1 ≤ wr.heap.size := by have := ho.size; simpa using this
    have e0' : wr.cell? ⟨g, 0, none⟩ = some (.iface 303 p) := ((ho.cell (p := ⟨g, 0, none⟩) (by simp; omega) (fun e => e)).trans (World.cell?_alloc_past _ _ _ hg)).trans e0
    have e1' : wr.cell? ⟨g, 1, none⟩ = some (.iface 303 q) := ((ho.cell (p := ⟨g, 1, none⟩) (by simp; omega) (fun e => e)).trans (World.cell?_alloc_past _ _ _ hg)).trans e1
    clear hb ho
    by_cases h0 : k = 0
    · subst h0
      have HAr := hide (HA.out wr 303 p (fun _ => False) (fun W _ => (uexpr_str _ p W).mono (fun _ _ h => ⟨h.1, h.2 ▸ Only.refl _ _⟩)))
      go_wp2_with (go_at_call 255; refine (HAr.out).mono ?_; rintro en w2 ⟨rfl, h3⟩; have H3 := hide h3; clear h3)
      go_roundg 1
      case measure => omega
      case rel => exact ⟨1, by omega, rfl, rfl, HO.out.trans H3.out (fun _ _ e => e)⟩
    · by_cases h1 : k = 1
      · subst h1
        have HAr := hide (HA.out wr 303 q (fun _ => False) (fun W _ => (uexpr_str _ q W).mono (fun _ _ h => ⟨h.1, h.2 ▸ Only.refl _ _⟩)))
        go_wp2_with (go_at_call 255; refine (HAr.out).mono ?_; rintro en w2 ⟨rfl, h3⟩; have H3 := hide h3; clear h3)
        go_roundg 0
        case measure => omega
        case rel => exact ⟨2, by omega, rfl, rfl, HO.out.trans H3.out (fun _ _ e => e)⟩
      · obtain rfl : k = 2 := by omega
        go_wp2
        go_end0
        exact ⟨rfl, fromAlloc HO.out⟩
set_option maxRecDepth 20000 in
set_option maxHeartbeats 4000000 in
theorem useE_gsub (W0 : World) (cb M lp : Nat) (rec : Bool) (pb : Nat) (a : Nat) (p q : Value) (r : Value) (hr : Row pb [.iface 303 p, .iface 303 q] W0 r) (hcb : r.ownBlock ≠ some cb) : UseE W0 cb M lp rec (.iface 312 (.agg #[.string ⟨#[103, 115, 117, 98]⟩, .int .i64 a, r])) [] := by
  intro us w hl h
  have hlc := UJ.lt h
  obtain ⟨g, cap, c, rfl, hg, hb, hc⟩ := row_block hr.1 (by simp) hcb (by obtain ⟨_, _, _, ho, _⟩ := h; exact ho)
  have hb' := (Below.heap_alloc w (.cells #[.string ⟨#[103, 115, 117, 98]⟩, .int .i64 a, .slice (some ⟨g, 0, none⟩) 2 cap] 312) _ (heap_lt hb)).trans hb
  have H1 := hide (uown_gsub2 cb a p q g cap (w.alloc (.cells #[.string ⟨#[103, 115, 117, 98]⟩, .int .i64 a, .slice (some ⟨g, 0, none⟩) 2 cap] 312)) (heap_lt hb') (cell_of hb' (hc 0 _ rfl)) (cell_of hb' (hc 1 _ rfl)))
  have HJ := hide h
  clear h hb hc hr hb'
  have e0 : ∀ W, (Instr.typeAssert (.iface 312 (.agg #[.string ⟨#[103, 115, 117, 98]⟩, .int .i64 a, .slice (some ⟨g, 0, none⟩) 2 cap])) 238 92 true).run Tryz.prog W = .ok (.tuple #[.agg #[.string ⟨#[]⟩, .int .i64 0], .bool false]) W := fun W => by kernel_rfl
  have e1 : ∀ W, (Instr.typeAssert (.iface 312 (.agg #[.string ⟨#[103, 115, 117, 98]⟩, .int .i64 a, .slice (some ⟨g, 0, none⟩) 2 cap])) 238 306 true).run Tryz.prog W = .ok (.tuple #[.agg #[.string ⟨#[]⟩, .int .i64 0, .slice none 0 0], .bool false]) W := fun W => by kernel_rfl
  have e2 : ∀ W, (Instr.typeAssert (.iface 312 (.agg #[.string ⟨#[103, 115, 117, 98]⟩, .int .i64 a, .slice (some ⟨g, 0, none⟩) 2 cap])) 238 309 true).run Tryz.prog W = .ok (.tuple #[.agg #[.nilIface], .bool false]) W := fun W => by kernel_rfl
  have e3 : ∀ W, (Instr.typeAssert (.iface 312 (.agg #[.string ⟨#[103, 115, 117, 98]⟩, .int .i64 a, .slice (some ⟨g, 0, none⟩) 2 cap])) 238 311 true).run Tryz.prog W = .ok (.tuple #[.agg #[.string ⟨#[]⟩, .int .i64 0, .slice none 0 0], .bool false]) W := fun W => by kernel_rfl
  have ey : ∀ W, (Instr.typeAssert (.iface 312 (.agg #[.string ⟨#[103, 115, 117, 98]⟩, .int .i64 a, .slice (some ⟨g, 0, none⟩) 2 cap])) 238 312 true).run Tryz.prog W = .ok (.tuple #[.agg #[.string ⟨#[103, 115, 117, 98]⟩, .int .i64 a, .slice (some ⟨g, 0, none⟩) 2 cap], .bool true]) W := fun W => by kernel_rfl
  go_enter Tryz.func145, Tryz.ntmps145
  go_wp2_with (go_at_call 189; refine (H1.out).mono ?_; rintro en w2 ⟨rfl, h3⟩; have H3 := hide h3; clear h3)
  go_end0
  rw [List.append_nil]
  exact ⟨rfl, HJ.out.calm (fromAlloc H3.out), UK.ofOnly ((fromAlloc H3.out).mono (fun _ _ e => e.elim))⟩
end Go.Proofs.YtdbdbaepmdmnfaaGreatDoor

namespace Go.Proofs.YtdbdbaepmdmnfaaGreatDoor
open Go.RowKit
set_option maxRecDepth 20000 in
set_option maxHeartbeats 4000000 in
theorem uruleK (W0 : World) (cb M : Nat) (kd : Nat) (rc : Bool) (hkd : ((kd : Int) == 0) = rc) (us ns : List Use) (body : Value) (hsl : ∃ po n cap, body = .slice po n cap) (w : World) (h : UJ W0 cb M 0 false us w)
    (h1 : ∀ W, UJ W0 cb M 0 rc us W → Calls Tryz.prog 113 #[.pointer (some ⟨cb, 0, none⟩), body] W fun en w' => en = .returned (.tuple #[]) ∧ UJ W0 cb M 0 rc (us ++ ns) w' ∧ UK cb W w') :
    Calls Tryz.prog 77 #[.pointer (some ⟨cb, 0, none⟩), .agg #[.int .i64 kd, .slice none 0 0, body]] w fun en w' => en = .returned (.tuple #[]) ∧ UJ W0 cb M 0 false (us ++ ns) w' := by
  obtain ⟨po, n, cap, rfl⟩ := hsl
  have HE := hide (uexprs_nil (some ⟨cb, 0, none⟩))
  have hu0 := (h.setRec rc).calm (onlyA _ (.cells #[.int .i64 kd, .slice none 0 0, .slice po n cap] 102))
  have hlc := h.lt
  have c6 : w.cell? ⟨cb, 6, none⟩ = some (.bool false) := by obtain ⟨v, h1, _⟩ := h; exact cell_of h1.1 rfl
  have cf : ∀ o, w.frozen? ⟨cb, o, none⟩ = false := by obtain ⟨v, h1, _⟩ := h; exact free_of h1.1
  have H1 := hide (h1 _ hu0)
  clear h h1 hu0
  go_enter Tryz.func77, Tryz.ntmps77
  go_wp2_with (go_at_call 114; refine (HE.out _).mono ?_; rintro en w2 ⟨rfl, h3⟩; subst h3)
  refine (H1.out).mono ?_
  rintro en w2 ⟨rfl, hu2, _⟩
  have d6 : w2.cell? ⟨cb, 6, none⟩ = some (.bool rc) := by obtain ⟨v, h1, _⟩ := hu2; exact cell_of h1.1 rfl
  have df : ∀ o, w2.frozen? ⟨cb, o, none⟩ = false := by obtain ⟨v, h1, _⟩ := hu2; exact free_of h1.1
  have HU2 := hide hu2
  clear hu2 H1
  go_wp2
  go_end0
  exact ⟨rfl, HU2.out.setRec false⟩
set_option maxRecDepth 20000 in
set_option maxHeartbeats 8000000 in
/-- The check of a program of two rules. -/
theorem leastTwo (kd : Nat → Nat) (rc : Nat → Bool) (hkd : ∀ i, ((kd i : Int) == 0) = rc i) (V : Nat → World → Value → Prop) (hsl : ∀ i, IsSl (V i)) (n1 n2 : List Use) (v : Value) (w : World) (h : ProgN 2 kd V w v)
    (hB1 : ∀ u, V 0 w u → ∀ W0 W cb M, Only (fun _ => False) w W0 → w.heap.size ≤ cb → UJ W0 cb M 0 (rc 0) [] W → Calls Tryz.prog 113 #[.pointer (some ⟨cb, 0, none⟩), u] W fun en w' => en = .returned (.tuple #[]) ∧ UJ W0 cb M 0 (rc 0) n1 w' ∧ UK cb W w')
    (hB2 : ∀ u, V 1 w u → ∀ W0 W cb M, Only (fun _ => False) w W0 → w.heap.size ≤ cb → UJ W0 cb M 0 (rc 1) n1 W → Calls Tryz.prog 113 #[.pointer (some ⟨cb, 0, none⟩), u] W fun en w' => en = .returned (.tuple #[]) ∧ UJ W0 cb M 0 (rc 1) (n1 ++ n2) w' ∧ UK cb W w')
    (hj : ∀ W0 W cb M, UJ W0 cb M 0 false (n1 ++ n2) W → Calls Tryz.prog 78 #[.pointer (some ⟨cb, 0, none⟩)] W fun en w' => en = .returned (.tuple #[]) ∧ Only (fun _ => False) W w') :
    Calls Tryz.prog 46 #[v] w fun en w' => en = .returned (.tuple #[.int .i64 0, .bool false]) ∧ Only (fun _ => False) w w' := by
  have hmm := @run_makeMap Tryz.prog
  obtain ⟨rs, us, rfl, hr, hu⟩ := h
  have hu1 := hu 0 (by omega)
  have hu2 := hu 1 (by omega)
  obtain ⟨po, n, cap, e1⟩ := hsl 0 _ _ hu1
  obtain ⟨po2, n2', cap2, e2⟩ := hsl 1 _ _ hu2
  obtain ⟨g, cr, rfl, hg, hc⟩ := own_at hr (by omega)
  have g0 : w.cell? ⟨g, 0, none⟩ = some (.int .i64 (kd 0)) := hc 0 _ rfl
  have g1 : w.cell? ⟨g, 1, none⟩ = some (.slice none 0 0) := hc 1 _ rfl
  have g2 : w.cell? ⟨g, 2, none⟩ = some (.slice po n cap) := by rw [← e1]; exact hc 2 _ rfl
  have g3 : w.cell? ⟨g, 3, none⟩ = some (.int .i64 (kd 1)) := hc 3 _ rfl
  have g4 : w.cell? ⟨g, 4, none⟩ = some (.slice none 0 0) := hc 4 _ rfl
  have g5 : w.cell? ⟨g, 5, none⟩ = some (.slice po2 n2' cap2) := by rw [← e2]; exact hc 5 _ rfl
  rw [e1] at hu1
  rw [e2] at hu2
  have HB1 := hide (hB1 _ hu1)
  have HB2 := hide (hB2 _ hu2)
  have HJ := hide hj
  have HK := hide hkd
  clear hr hu hu1 hu2 hc hB1 hB2 hj hsl e1 e2 hkd
  go_enter Tryz.func46, Tryz.ntmps46
  go_wp2
  go_loop [16] (fun s => s = .int .i64 0) (fun _ => 0)
  case atStart => exact rfl
  case round =>
    subst hrel
    go_wp2
    go_loop [26] (fun s => s = .int .i64 0) (fun _ => 0)
    case atStart => exact rfl
    case round =>
      subst hrel
      go_wp2
      obtain ⟨WW, HW⟩ : ∃ WW, Hid (WW = (((w.alloc (.cells #[.slice none 0 0, .slice (some ⟨g, 0, none⟩) 2 cr] 60)).alloc (.map #[] 0)).alloc (.cells #[.map (some (w.heap.size + 1)), .slice none 0 0, .slice none 0 0, .slice none 0 0, .int .i64 0, .bool false, .bool false] 159))) := ⟨_, rfl⟩
      have hO0 : Only (fun _ => False) w WW := by rw [HW.out]; exact ((onlyA w _).alloc _).alloc _
      have hux : UJ WW (w.heap.size + 1 + 1) (w.heap.size + 1) 0 false [] WW := by
        rw [HW.out]
        exact ⟨.slice none 0 0, ⟨new_at2 (W := (w.alloc _).alloc _) (by simp) _, (Below.heap_alloc _ _ _ (by simp)).trans (new_at2 (W := w.alloc _) (by simp) _)⟩, World.ownsRow_nil _ _ _ _, Only.refl _ _, by simp⟩
      rw [← HW.out]
      have HO0 := hide hO0
      have HR1 : ∀ W, UJ WW (w.heap.size + 1 + 1) (w.heap.size + 1) 0 false [] W → Hid (Calls Tryz.prog 77 #[.pointer (some ⟨w.heap.size + 1 + 1, 0, none⟩), .agg #[.int .i64 (kd 0), .slice none 0 0, .slice po n cap]] W fun en w' => en = .returned (.tuple #[]) ∧ UJ WW (w.heap.size + 1 + 1) (w.heap.size + 1) 0 false n1 w') := fun W hW => by
        have := uruleK WW (w.heap.size + 1 + 1) (w.heap.size + 1) (kd 0) (rc 0) (HK.out 0) [] n1 (.slice po n cap) ⟨po, n, cap, rfl⟩ W hW (fun W' hW' => HB1.out WW W' _ _ HO0.out (by omega) hW')
        exact this
      have HR2 : ∀ W, UJ WW (w.heap.size + 1 + 1) (w.heap.size + 1) 0 false n1 W → Hid (Calls Tryz.prog 77 #[.pointer (some ⟨w.heap.size + 1 + 1, 0, none⟩), .agg #[.int .i64 (kd 1), .slice none 0 0, .slice po2 n2' cap2]] W fun en w' => en = .returned (.tuple #[]) ∧ UJ WW (w.heap.size + 1 + 1) (w.heap.size + 1) 0 false (n1 ++ n2) w') := fun W hW =>
        uruleK WW (w.heap.size + 1 + 1) (w.heap.size + 1) (kd 1) (rc 1) (HK.out 1) n1 n2 (.slice po2 n2' cap2) ⟨po2, n2', cap2, rfl⟩ W hW (fun W' hW' => HB2.out WW W' _ _ HO0.out (by omega) hW')
      have HUx := hide hux
      clear hux hO0
      go_loopg [36] 2 (fun gh s wr => ∃ k : Nat, k ≤ 2 ∧ gh = 2 - k ∧ s = .int .i64 k ∧ UJ WW (w.heap.size + 1 + 1) (w.heap.size + 1) 0 false (match k with | 0 => [] | 1 => n1 | _ => n1 ++ n2) wr)
      case atStart => exact ⟨0, by omega, rfl, rfl, HUx.out⟩
      case round =>
        obtain ⟨k, hk, hgh, rfl, hux⟩ := hrel
        have hoW : Only (fun k => k = w.heap.size + 1 + 1) WW wr := by obtain ⟨_, _, _, h3, _⟩ := hux; exact h3
        have hzW := HO0.out.size
        have keep : ∀ (o : Nat) x, w.cell? ⟨g, o, none⟩ = some x → wr.cell? ⟨g, o, none⟩ = some x := fun o x h => (hoW.cell (p := ⟨g, o, none⟩) (by show g < _; omega) (by show ¬ g = w.heap.size + 1 + 1; omega)).trans ((HO0.out.cell (p := ⟨g, o, none⟩) hg (fun e => e)).trans h)
        have HG := hide hgh
        have hzr := hoW.size
        match k, hk with
        | 0, _ =>
          have k0 := keep _ _ g0
          have k1 := keep _ _ g1
          have k2 := keep _ _ g2
          have HR := HR1 _ (hux.calm (onlyA wr (.cells #[.int .i64 (kd 0), .slice none 0 0, .slice po n cap] 102)))
          clear hux hoW keep hgh HR1 HR2
          go_wp2_with (go_at_call 77; refine (HR.out).mono ?_; rintro en w2 ⟨rfl, h2⟩; have H2 := hide h2; clear h2)
          go_roundg 1
          case measure => rw [HG.out]; omega
          case rel => exact ⟨1, by omega, rfl, rfl, H2.out⟩
        | 1, _ =>
          have k0 := keep _ _ g3
          have k1 := keep _ _ g4
          have k2 := keep _ _ g5
          have HR := HR2 _ (hux.calm (onlyA wr (.cells #[.int .i64 (kd 1), .slice none 0 0, .slice po2 n2' cap2] 102)))
          clear hux hoW keep hgh HR1 HR2
          go_wp2_with (go_at_call 77; refine (HR.out).mono ?_; rintro en w2 ⟨rfl, h2⟩; have H2 := hide h2; clear h2)
          go_roundg 0
          case measure => rw [HG.out]; omega
          case rel => exact ⟨2, by omega, rfl, rfl, H2.out⟩
        | 2, _ =>
          have HJ2 := hide (HJ.out _ _ _ _ hux)
          have HU := hide hux
          have HO := hide (show Only (fun _ => False) w wr from HO0.out.trans hoW (fun i hi e => absurd hi (by omega)))
          clear hux HR1 HR2 HJ hoW keep hgh
          go_wp2_with fail
          refine (HJ2.out).mono ?_
          rintro en w3 ⟨rfl, ho3⟩
          have c3 : w3.cell? ⟨w.heap.size + 1 + 1, 3, none⟩ = some (.slice none 0 0) := by obtain ⟨v, h1, _⟩ := HU.out.calm ho3; exact cell_of h1.1 rfl
          have HO3 := hide ho3
          clear ho3 HJ2
          go_wp2
          go_ret2
          exact ⟨rfl, HO.out.trans HO3.out (fun _ _ e => e)⟩
end Go.Proofs.YtdbdbaepmdmnfaaGreatDoor

namespace Go.Proofs.YtdbdbaepmdmnfaaGreatDoor
open Go.RowKit
theorem progN_calm {n : Nat} {kd : Nat → Nat} {V : Nat → World → Value → Prop} (hV3 : ∀ i, Stab3 (V i)) {w w' : World} {v : Value} (h : ProgN n kd V w v) (ho : Only (fun _ => False) w w') : ProgN n kd V w' v := progN_only hV3 h ho (fun _ e => e.elim)
set_option maxRecDepth 20000 in
set_option maxHeartbeats 8000000 in
theorem readProgram_okN (T : ByteArray) (hT : T.size ≤ 600) (n : Nat) (kd : Nat → Nat) (V : Nat → Nat → World → Value → Prop) (hV3 : ∀ pb i, Stab3 (V pb i)) (w : World)
    (hr : ∀ W, Calls Tryz.prog 45 #[.string T] W fun en w' => ∃ pb v, en = .returned (.tuple #[v, .int .i64 0, .bool true]) ∧ ProgN n kd (V pb) w' v ∧ Only (fun _ => False) W w')
    (hl : ∀ pb W v, ProgN n kd (V pb) W v → Calls Tryz.prog 46 #[v] W fun en w' => en = .returned (.tuple #[.int .i64 0, .bool false]) ∧ Only (fun _ => False) W w') :
    Calls Tryz.prog 34 #[.string T] w fun en w' => ∃ pb v, en = .returned (.tuple #[v, .int .i64 0, .int .i64 0]) ∧ ProgN n kd (V pb) w' v ∧ Only (fun _ => False) w w' := by
  have hli : ¬ (600 : Int) < (T.size : Int) := by omega
  have HR := hide (hr (w.alloc (.cells #[.slice none 0 0, .slice none 0 0] 60)))
  have HL := hide hl
  have HV3 := hide hV3
  clear hr hl hV3
  go_enter Tryz.func34, Tryz.ntmps34
  go_wp2_with fail
  refine (HR.out).mono ?_
  rintro en w1 ⟨pb, v, rfl, hp, ho⟩
  have hp0 := hp
  obtain ⟨rs, u, rfl, hrow, hu⟩ := hp
  obtain ⟨pr, cr, rfl⟩ := ownsRow_slice hrow
  have hpA := progN_calm (HV3.out pb) hp0 (onlyA w1 (.cells #[.slice none 0 0, .slice pr n cr] 60))
  have HLs := hide (HL.out pb _ _ hpA)
  have HPA := hide hpA
  have HO := hide ho
  have hz1 : w.heap.size + 1 ≤ w1.heap.size := by have := ho.size; simpa using this
  clear hrow hu hp0 hpA ho HR HL
  go_wp2_with fail
  refine (HLs.out).mono ?_
  rintro en w2 ⟨rfl, ho2⟩
  have hb5 := (ho2.block w1.heap.size (by simp) (fun e => e)).trans (new0 w1 (.cells #[.slice none 0 0, .slice pr n cr] 60))
  have hb2 := (ho2.block w.heap.size (by simp; omega) (fun e => e)).trans ((Below.heap_alloc _ _ _ (by omega)).trans ((HO.out.block w.heap.size (by simp) (fun e => e)).trans (new0 w (.cells #[.slice none 0 0, .slice none 0 0] 60))))
  have c0 : w2.cell? ⟨w1.heap.size, 0, none⟩ = some (.slice none 0 0) := cell_of hb5 rfl
  have c1 : w2.cell? ⟨w1.heap.size, 1, none⟩ = some (.slice pr n cr) := cell_of hb5 rfl
  have d0 : w2.cell? ⟨w.heap.size, 0, none⟩ = some (.slice none 0 0) := cell_of hb2 rfl
  have d1 : w2.cell? ⟨w.heap.size, 1, none⟩ = some (.slice none 0 0) := cell_of hb2 rfl
  have df := free_of hb2
  have HB2 := hide hb2
  have HP2 := hide (progN_calm (HV3.out pb) HPA.out ho2)
  have HO2 := hide ho2
  clear hb5 hb2 ho2 HLs
  go_wp2
  refine bodyPost_ret (v := .tuple #[.agg #[.slice none 0 0, .slice pr n cr], .int .i64 0, .int .i64 0]) (by simp [results, Tryz.results34, go_sem, d0, d1]) rfl ⟨pb, _, rfl, ?_, ?_⟩
  · refine progN_only (HV3.out pb) (D := fun k => k = w.heap.size) HP2.out (((Only.refl (fun k => k = w.heap.size) w2).setCell (p := ⟨w.heap.size, 0, none⟩) (fun _ => rfl) _).setCell (p := ⟨w.heap.size, 1, none⟩) (fun _ => rfl) _) ?_
    rintro k rfl
    exact ⟨_, _, HB2.out, by decide, by decide, by decide⟩
  · exact (((((onlyA w _).trans HO.out (fun _ _ e => e)).alloc _).trans HO2.out (fun _ _ e => e)).setCell (p := ⟨w.heap.size, 0, none⟩) (fun h => absurd h (Nat.lt_irrefl _)) _).setCell (p := ⟨w.heap.size, 1, none⟩) (fun h => absurd h (Nat.lt_irrefl _)) _
theorem row_at2 {pb : Nat} {vs : List Value} {w W0 : World} {r : Value} {cb : Nat} (h : Row pb vs w r) (ho : Only (fun _ => False) w W0) (hcb : w.heap.size ≤ cb) : Row pb vs W0 r ∧ r.ownBlock ≠ some cb := by
  refine ⟨row_stab pb vs w W0 r h (ho.mono (fun _ _ e => e.elim)), fun e => ?_⟩
  have := (h.1.lt cb e).2
  omega
theorem useE_strR (W0 : World) (cb M lp : Nat) (rec : Bool) (x : ByteArray) : UseE W0 cb M lp rec (strT x) [] := by
  intro us w hl h
  refine (uexpr_str _ _ w).mono ?_
  rintro en w' ⟨rfl, rfl⟩
  rw [List.append_nil]
  exact ⟨rfl, h, UK.refl _ _⟩
theorem useB (W0 w : World) (cb M : Nat) : ∀ (i : Nat) (s : Value) (ns : List Use), VB i w s → [[((FSr, 8, 0) : Use)]][i]? = some ns → UseS W0 cb M 0 false s ns
  | 0, s, ns, h, hn => by
    cases hn
    obtain ⟨u, rfl, hu⟩ := h
    obtain rfl : u = setFS := hu
    exact useS_work W0 cb M 0 false _ _ [(FSr, 8, 0)] (useE_store W0 cb M 0 false _ _ _ _ eqx [(FSr, 8, 0)] [] (useE_name W0 cb M 0 false FSr 8) (useE_strR W0 cb M 0 false (ofB [10])))
  | k + 1, s, ns, h, hn => by cases hn
def nssM (m : Nat) : List (List Use) := [[(nr, 22, 0)], [(nr, 46 + m, 0)], []]
theorem useM (S : List UInt8) (W0 w : World) (cb M pb : Nat) (ho : Only (fun _ => False) w W0) (hcb : w.heap.size ≤ cb) : ∀ (i : Nat) (s : Value) (ns : List Use), VM pb S i w s → (nssM S.length)[i]? = some ns → UseS W0 cb M 0 true s ns
  | 0, s, ns, h, hn => by
    cases hn
    obtain ⟨u, rfl, l, r, rfl, hl, ⟨r2, rfl, hr2⟩⟩ := h
    obtain rfl : l = nameV nr 22 := hl
    obtain ⟨h3, h4⟩ := row_at2 hr2 ho hcb
    exact useS_work W0 cb M 0 true _ _ [(nr, 22, 0)] (useE_store W0 cb M 0 true _ _ _ _ eqx [(nr, 22, 0)] [] (useE_name W0 cb M 0 true nr 22) (useE_gsub W0 cb M 0 true pb 26 _ _ r2 h3 h4))
  | 1, s, ns, h, hn => by
    cases hn
    obtain ⟨r, rfl, hr⟩ := h
    obtain ⟨h1, h2⟩ := row_at2 hr ho hcb
    exact useS_printL W0 cb M 0 true pb r _ _ _ h1 h2 (useE_name W0 cb M 0 true nr (46 + S.length))
  | 2, s, ns, h, hn => by
    cases hn
    obtain rfl : s = printV := h
    exact useS_print W0 cb M 0 true
  | k + 3, s, ns, h, hn => by cases hn
def rcR : Nat → Bool
  | 0 => false
  | _ => true
theorem leastR (pb : Nat) (S : List UInt8) (w : World) (v : Value) (h : ProgN 2 kdR (BR pb S) w v) : Calls Tryz.prog 46 #[v] w fun en w' => en = .returned (.tuple #[.int .i64 0, .bool false]) ∧ Only (fun _ => False) w w' := by
  refine leastTwo kdR rcR (fun i => by cases i <;> rfl) (BR pb S) (br_sl pb S) [(FSr, 8, 0)] [(nr, 22, 0), (nr, 46 + S.length, 0)] v w h ?_ ?_ (fun W0 W cb M hJ => judgeR S.length W0 cb M 0 false W hJ)
  · rintro u ⟨vs, hl, hr, hb, hv⟩ W0 W cb M ho hcb hJ
    have hr0 : W0.ownsRow 0 235 1 u 1 vs := ownsRow_of hr (fun k hk => ho.block k (hr.lt k hk).2 (fun e => e))
    have hne : u.ownBlock ≠ some cb := fun e => by have := (hr.lt cb e).2; omega
    obtain ⟨g, cap, c, rfl, hg, hbk, hc⟩ := row_block hr0 (by omega) hne (by obtain ⟨_, _, _, h3, _⟩ := hJ; exact h3)
    have := useSs W0 cb M 0 false g cap vs [[(FSr, 8, 0)]] (by rw [hl]; rfl) (by omega) (fun i s ns h1 h2 => useB W0 w cb M i s ns (hv i s h1) h2) (fun i s h1 => work_if w s (hv i s h1)) [] W (by decide) hJ c _ hbk (by decide) hg hc
    rw [hl, List.nil_append] at this
    exact this
  · rintro u ⟨vs, hl, hr, hb, hv⟩ W0 W cb M ho hcb hJ
    have hr0 : W0.ownsRow 0 235 1 u 3 vs := ownsRow_of hr (fun k hk => ho.block k (hr.lt k hk).2 (fun e => e))
    have hne : u.ownBlock ≠ some cb := fun e => by have := (hr.lt cb e).2; omega
    obtain ⟨g, cap, c, rfl, hg, hbk, hc⟩ := row_block hr0 (by omega) hne (by obtain ⟨_, _, _, h3, _⟩ := hJ; exact h3)
    have := useSs W0 cb M 0 true g cap vs (nssM S.length) (by rw [hl]; rfl) (by omega) (fun i s ns h1 h2 => useM S W0 w cb M pb ho hcb i s ns (hv i s h1) h2) (fun i s h1 => vm_if pb S i (by have := (List.getElem?_eq_some_iff.1 h1).1; omega) w s (hv i s h1)) [(FSr, 8, 0)] W (by simp [nssM]) hJ c _ hbk (by decide) hg hc
    rw [hl] at this
    exact this
/-- The program of Replaced is read and in order. -/
theorem readProgramR (S : List UInt8) (hm : S.length ≤ 100) (hS : ∀ c ∈ S, plainB c = true) (w : World) : Calls Tryz.prog 34 #[.string (TR S)] w fun en w' => ∃ pb v, en = .returned (.tuple #[v, .int .i64 0, .int .i64 0]) ∧ ProgN 2 kdR (BR pb S) w' v ∧ Only (fun _ => False) w w' :=
  readProgram_okN (TR S) (by rw [TR_size]; omega) 2 kdR (fun pb => BR pb S) (fun pb i => br_stab3 pb S i) w (readR S hm hS) (fun pb W v h => leastR pb S W v h)
end Go.Proofs.YtdbdbaepmdmnfaaGreatDoor

