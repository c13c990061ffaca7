import Derived.Test.YtdbdbaepmdmnfaaGreatDoorQ11
import Derived.MapKept
import Derived.Deep.RegionWith
import Derived.Deep.DeepCutAuto
namespace Go.Proofs.YtdbdbaepmdmnfaaGreatDoor
open Go.RowKit
theorem look262 {w : World} {M n : Nat} (h : w.heap[M]? = some (.map #[] n)) (x : ByteArray) : (Instr.lookup 156 (.map (some M)) (.string x) true).run Tryz.prog w = .ok (.tuple #[.agg #[.string ⟨#[]⟩, .int .i64 0, .slice none 0 0, .slice none 0 0], .bool false]) w := by
  have h1 := MapKept.run_getObj_map (P := Tryz.prog) h
  have h2 : (Instr.checkKey true 10000 9 (.string x)).run Tryz.prog w = .ok () w := MapKept.run_checkKey (d := .string) Tryz.underlying9 (by simp [MapKept.IsKey]) true 9999
  have h3 : (Instr.findKey 9 (.string x) []).run Tryz.prog w = .ok none w := MapKept.run_findKey Tryz.underlying9 rfl
  simp [Instr.lookup, go_sem, h1, h2, h3]
/-- A checker: no function is known, no parameter; us are the uses so far; nothing is wrong. -/
def UAt (w : World) (cb M : Nat) (us : Value) (rec : Bool) : Prop :=
  w.heap[cb]? = some (.cells #[.map (some M), .slice none 0 0, us, .slice none 0 0, .int .i64 0, .bool false, .bool rec] 159 (0, 0)) ∧ w.heap[M]? = some (.map #[] 0)
theorem UAt.ne {w cb M us rec} (h : UAt w cb M us rec) : M ≠ cb := fun e => by have h1 := h.1; have h2 := h.2; rw [e, h1] at h2; cases h2
theorem UAt.only {w w' cb M us rec D} (h : UAt w cb M us rec) (ho : Only D w w') (h1 : ¬ D cb) (h2 : ¬ D M) : UAt w' cb M us rec := ⟨(ho.block _ (heap_lt h.1) h1).trans h.1, (ho.block _ (heap_lt h.2) h2).trans h.2⟩
theorem UAt.alloc {w cb M us rec} (h : UAt w cb M us rec) (o : Obj) : UAt (w.alloc o) cb M us rec := h.only (onlyA w o) (fun e => e) (fun e => e)
set_option maxHeartbeats 1000000 in
theorem isFunction_no (cb M : Nat) (us : Value) (rec : Bool) (x : ByteArray) (w : World) (h : UAt w cb M us rec) :
    Calls Tryz.prog 109 #[.pointer (some ⟨cb, 0, none⟩), .string x] w fun en w' => en = .returned (.bool false) ∧ w' = w.alloc (.cells #[.string ⟨#[]⟩, .int .i64 0, .slice none 0 0, .slice none 0 0] 97) := by
  have c0 : w.cell? ⟨cb, 0, none⟩ = some (.map (some M)) := cell_of h.1 rfl
  have hl := look262 h.2 x
  clear h
  go_enter Tryz.func109, Tryz.ntmps109
  go_wp2
  go_ret
  exact ⟨rfl, rfl⟩
set_option maxHeartbeats 1000000 in
theorem paramOf_none (x : ByteArray) (w : World) :
    Calls Tryz.prog 112 #[.slice none 0 0, .string x] w fun en w' => en = .returned (.tuple #[.agg #[.string ⟨#[]⟩, .int .i64 0, .bool false], .bool false]) ∧ w' = w.alloc (.cells #[.string ⟨#[]⟩, .int .i64 0, .bool false] 164) := by
  go_enter Tryz.func112, Tryz.ntmps112
  go_wp2
  go_loop [10] (fun s => s = .int .i64 0) (fun _ => 0)
  case atStart => exact rfl
  case round =>
    subst hrel
    go_wp2
    exact bodyPost_ret (v := .tuple #[.agg #[.string ⟨#[]⟩, .int .i64 0, .bool false], .bool false]) (by simp [results, Tryz.results112, go_sem]) rfl ⟨rfl, rfl⟩
theorem info357 : (Tryz.prog.info? 227).map (fun i => (i.zero, i.size, i.bytes)) = some (some (.agg #[.string ⟨#[]⟩, .int .i64 0, .int .i64 0]), 3, 32) := by kernel_rfl
theorem toDrew {D : Nat → Prop} {w w' : World} (h : Only D w w') : Only D w w'.drew := ⟨h.os, h.tape, h.output, h.size, h.block⟩
/-- The uses: none, or the one of x at a. -/
def UsT (x : ByteArray) (a : Nat) (w : World) (v : Value) : Prop := w.ownsRow 0 227 3 v 1 [.string x, .int .i64 a, .int .i64 0]
set_option maxRecDepth 20000 in
set_option maxHeartbeats 4000000 in
theorem uname_first (cb M : Nat) (rec : Bool) (x : ByteArray) (a : Nat) (w : World) (h : UAt w cb M (.slice none 0 0) rec) :
    Calls Tryz.prog 186 #[.pointer (some ⟨cb, 0, none⟩), .agg #[.string x, .int .i64 a], .int .i64 0] w fun en w' => en = .returned (.tuple #[]) ∧ ∃ v, UsT x a w' v ∧ UAt w' cb M v rec ∧ Only (fun k => k = cb) w w' := by
  obtain ⟨i0, hi0, hz0, hz1, hz2⟩ := info_parts info357
  have c1 : w.cell? ⟨cb, 1, none⟩ = some (.slice none 0 0) := cell_of h.1 rfl
  have hl := heap_lt h.1
  have HU := hide h
  have HPo := hide (paramOf_none x)
  clear h
  go_enter Tryz.func186, Tryz.ntmps186
  go_upto_region 1 with fail
  go_cut [7] (fun s7 wc => s7 = .bool false ∧ Only (fun _ => False) w wc ∧ wc.heap[w.heap.size]? = some (.cells #[.string x, .int .i64 a] 92 (0, 0)))
  case first =>
    go_region_with (go_at_call 112; refine (HPo.out _).mono ?_; rintro en w2 ⟨rfl, hw2⟩; subst hw2)
    all_goals
      go_wp2_with fail
      go_meet
      exact ⟨rfl, toDrew (((onlyA _ _).alloc _).alloc _), (Below.heap_alloc _ _ _ (by simp <;> omega)).trans ((Below.heap_alloc _ _ _ (by simp <;> omega)).trans (new0 w _))⟩
  case rest =>
    obtain ⟨rfl, ho, hb⟩ := hcut
    have hu := HU.out.only ho (fun e => e) (fun e => e)
    have HF := hide (isFunction_no cb M (.slice none 0 0) rec x wc hu)
    have b0 : wc.cell? ⟨w.heap.size, 0, none⟩ = some (.string x) := cell_of hb rfl
    have b1 : wc.cell? ⟨w.heap.size, 1, none⟩ = some (.int .i64 a) := cell_of hb rfl
    have c2 : wc.cell? ⟨cb, 2, none⟩ = some (.slice none 0 0) := cell_of hu.1 rfl
    have cf := free_of hu.1
    have hz := ho.size
    have hbl := heap_lt hb
    have hcl := heap_lt hu.1
    have HU2 := hide hu
    have HO := hide ho
    clear hu ho hb c1 HPo HU
    go_wp2_with (go_at_call 109; refine (HF.out).mono ?_; rintro en w2 ⟨rfl, hw2⟩; subst hw2)
    go_region_law (refine step_append_lies _ (by rfl) _ _ _ (by rfl) 0 227 i0 _ 3 32 Tryz.underlying157 hi0 hz0 hz1 hz2 rfl (by omega) (.slice none 0 0) 0 [] (by rfl) (World.ownsRow_nil _ _ _ _) ⟨wc.heap.size + 1, 0, none⟩ 1 1 [.string x, .int .i64 a, .int .i64 0] (by rfl) (by rfl) (World.news_of_block (cs := #[.string x, .int .i64 a, .int .i64 0]) (t := 227) (fr := (0, 0)) (new_at2 (by simp) _)) (by intro u hu; simp at hu; rcases hu with rfl | rfl | rfl <;> rfl) (by omega) (by unfold maxLen; omega) (by omega) (Nat.zero_le _) _ rfl ?_; intro gg cap2 w3 hown1 hgrow hat hlt; have hb3 := (hgrow.block cb (by simp; omega) (fun e => by cases e)).trans ((Below.heap_alloc _ _ _ (by simp; omega)).trans ((Below.heap_alloc _ _ _ (by omega)).trans HU2.out.1)); have t1 : w3.cell? ⟨cb, 2, none⟩ = some (.slice none 0 0) := cell_of hb3 rfl; have tf := free_of hb3; have HB3 := hide hb3; clear hb3)
    all_goals
      have hne := own_tag hown1 HB3.out (by decide)
      have hM := hide ((hgrow.block M (by have := heap_lt HU2.out.2; simp; omega) (fun e => by cases e)).trans ((Below.heap_alloc _ _ _ (by have := heap_lt HU2.out.2; simp; omega)).trans ((Below.heap_alloc _ _ _ (heap_lt HU2.out.2)).trans HU2.out.2)))
      have hO3 := hide ((toDrew ((HO.out.alloc _).alloc _)).grown hgrow (fun q hq _ => by cases hq))
      have HOw := hide hown1
      clear hown1 hgrow hat
      go_wp2
      go_end0
      refine ⟨rfl, .slice (some ⟨gg, 0, none⟩) 1 cap2, ?_, ⟨heap_setCell_same HB3.out _, ?_⟩, ?_⟩
      · exact ownsRow_of HOw.out (fun k hk => Below.heap_setCell _ _ _ _ (fun e => hne (by rw [hk, e])))
      · exact (Below.heap_setCell _ _ _ _ (by exact HU2.out.ne)).trans hM.out
      · exact (hO3.out.mono (E := fun k => k = cb) (fun _ _ e => e.elim)).setCell (p := ⟨cb, 2, none⟩) (fun _ => rfl) _
end Go.Proofs.YtdbdbaepmdmnfaaGreatDoor
