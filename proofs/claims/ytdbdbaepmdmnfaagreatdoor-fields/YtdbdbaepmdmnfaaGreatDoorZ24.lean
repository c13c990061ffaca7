import Derived.Test.YtdbdbaepmdmnfaaGreatDoorZ23
namespace Go.Proofs.YtdbdbaepmdmnfaaGreatDoor
open Go.RowKit
/-- A made field, whose number I tells. -/
def FieldK (I : Nat → World → Value → Prop) (B : Nat) (w : World) (v : Value) : Prop := ∃ nb g x y, v = .agg #[.func (.func 386) #[] #[.pointer (some ⟨g, 0, none⟩)], .func (.func 317) #[] #[.pointer (some ⟨nb, 0, none⟩)]] ∧ B ≤ nb ∧ B ≤ g ∧ w.heap[nb]? = some (.cells #[x, y] 338 (0, 0)) ∧ w.heap[g]? = some (.cells #[.func (.func 317) #[] #[.pointer (some ⟨nb, 0, none⟩)]] 336 (0, 0)) ∧ I B w (.agg #[x, y])
theorem fieldk_keeps {I : Nat → World → Value → Prop} (hI : KeepsE I) : KeepsE (FieldK I) where
  shape := fun _ _ _ ⟨_, _, _, _, e, _⟩ => ⟨_, _, e, rfl, rfl⟩
  keep := fun B w w' v ⟨nb, g, x, y, e, h1, h2, h3, h4, h5⟩ ho => ⟨nb, g, x, y, e, h1, h2, (ho.block nb (heap_lt h3) (by omega)).trans h3, (ho.block g (heap_lt h4) (by omega)).trans h4, hI.keep _ _ _ _ h5 ho⟩
  down := fun A B w v ⟨nb, g, x, y, e, h1, h2, h3, h4, h5⟩ hA => ⟨nb, g, x, y, e, by omega, by omega, h3, h4, hI.down _ _ _ _ h5 hA⟩
set_option maxRecDepth 20000 in
set_option maxHeartbeats 4000000 in
theorem fieldk_made (t : TypeId) (u : Value) (I : Nat → World → Value → Prop) (hI : KeepsE I) (vs vs' : Array MapEntry) (hE : MakesE (.iface t u) I vs vs') (kb mv ma mf sg : Nat) (w : World) (h : MkV w kb mv ma mf sg vs) :
    Calls Tryz.prog 220 #[.pointer (some ⟨kb, 0, none⟩), .agg #[.iface t u]] w fun en w' => ∃ v, en = .returned v ∧ FieldK I w.heap.size w' v ∧ MkV w' kb mv ma mf sg vs' ∧ Only (fun q => q = mv) w w' := by
  have hmf := hmfT
  have hsf := hsfT
  have hsn := hsnT
  have hml := heap_lt h.v
  have hkl := heap_lt h.k
  have hal := heap_lt h.a
  have HR := hide (fun W (hW : Only (fun _ => False) w W) => hE kb mv ma mf sg W (h.calm hW))
  have HF := hide (found_made 317)
  clear h hE
  go_enter Tryz.func220, Tryz.ntmps220
  go_wp2_with fail
  refine (HR.out _ ((onlyA w _).alloc _)).mono ?_
  rintro en w2 ⟨v, rfl, hv, hk, ho⟩
  obtain ⟨x1, y1, rfl, hx1, hy1⟩ := hI.shape _ _ _ hv
  have hb := (ho.block (w.heap.size + 1) (by simp) (by omega)).trans (new_at2 (W := w.alloc (.cells #[.iface t u] 309)) (by simp) (.cells #[.nilFunc, .nilFunc] 338))
  have r0 : w2.cell? ⟨w.heap.size + 1, 0, none⟩ = some .nilFunc := cell_of hb rfl
  have r1 : w2.cell? ⟨w.heap.size + 1, 1, none⟩ = some .nilFunc := cell_of hb rfl
  have rf := free_of hb
  have rl := heap_lt hb
  have s1 : ∀ (a : Addr) (W : World), (store a x1).run Tryz.prog W = stored Tryz.prog W a x1 .plain := fun a W => run_store _ W a _ _ hx1
  have s2 : ∀ (a : Addr) (W : World), (store a y1).run Tryz.prog W = stored Tryz.prog W a y1 .plain := fun a W => run_store _ W a _ _ hy1
  have hz := ho.size
  have hz2 : w.heap.size + 1 + 1 ≤ w2.heap.size := by simpa using hz
  have HV := hide hv
  have HK := hide hk
  have HO := hide ho
  clear hv ho HR hk hz
  have HB := hide hb
  clear hb
  go_wp2_with (go_at_call 306; refine (HF.out _ _).mono ?_; rintro en w3 ⟨rfl, hw3⟩; have hO3 : Only (fun _ => False) w2 w3 := hw3 ▸ ((onlyA w2 _).alloc _).alloc _; have hn3 : w3.heap[w2.heap.size]? = some (.cells #[x1, y1] 338 (0, 0)) := hw3 ▸ (Below.heap_alloc _ _ _ (by simp <;> omega)).trans ((Below.heap_alloc _ _ _ (by simp)).trans (new0 w2 _)); have hg3 : w3.heap[w2.heap.size + 1]? = some (.cells #[.func (.func 317) #[] #[.pointer (some ⟨w2.heap.size, 0, none⟩)]] 336 (0, 0)) := hw3 ▸ (Below.heap_alloc _ _ _ (by simp)).trans (new_at2 (by simp) _); have hb3 := (hO3.block (w.heap.size + 1) rl (fun e => e)).trans HB.out; have r0 : w3.cell? ⟨w.heap.size + 1, 0, none⟩ = some .nilFunc := cell_of hb3 rfl; have r1 : w3.cell? ⟨w.heap.size + 1, 1, none⟩ = some .nilFunc := cell_of hb3 rfl; have rf := free_of hb3; have rl3 := heap_lt hb3; have HN3 := hide hn3; have HG3 := hide hg3; have HO3 := hide hO3; clear hw3 hn3 hg3 hb3 hO3)
  have hF : Only (fun q => q = w.heap.size + 1) w3 ((w3.setCell ⟨w.heap.size + 1, 0, none⟩ (.func (.func 386) #[] #[.pointer (some ⟨w2.heap.size + 1, 0, none⟩)])).setCell ⟨w.heap.size + 1, 1, none⟩ (.func (.func 317) #[] #[.pointer (some ⟨w2.heap.size, 0, none⟩)])) := ((Only.refl (fun q => q = w.heap.size + 1) w3).setCell (p := ⟨w.heap.size + 1, 0, none⟩) (fun _ => rfl) _).setCell (p := ⟨w.heap.size + 1, 1, none⟩) (fun _ => rfl) _
  have hIv : I w.heap.size ((w3.setCell ⟨w.heap.size + 1, 0, none⟩ (.func (.func 386) #[] #[.pointer (some ⟨w2.heap.size + 1, 0, none⟩)])).setCell ⟨w.heap.size + 1, 1, none⟩ (.func (.func 317) #[] #[.pointer (some ⟨w2.heap.size, 0, none⟩)])) (.agg #[x1, y1]) := hI.down _ _ _ _ (hI.keep _ _ _ _ (hI.keep _ _ _ _ HV.out (HO3.out.mono (fun _ _ e => e.elim))) (hF.mono (fun i _ e => by rw [e]; simp))) (by simp; omega)
  refine bodyPost_ret (v := .agg #[.func (.func 386) #[] #[.pointer (some ⟨w2.heap.size + 1, 0, none⟩)], .func (.func 317) #[] #[.pointer (some ⟨w2.heap.size, 0, none⟩)]]) (by simp [results, Tryz.results220, go_sem, r0, r1]) rfl ⟨_, rfl, ⟨w2.heap.size, w2.heap.size + 1, x1, y1, rfl, by omega, by omega, (hF.block _ (heap_lt HN3.out) (by omega)).trans HN3.out, (hF.block _ (heap_lt HG3.out) (by omega)).trans HG3.out, hIv⟩, (HK.out.calm HO3.out).far hF (by omega) (by omega) (by omega), ?_⟩
  exact only_box ((onlyA w _).alloc _) (HO.out.trans HO3.out (fun _ _ e => e.elim)) hF (by omega)
end Go.Proofs.YtdbdbaepmdmnfaaGreatDoor

namespace Go.Proofs.YtdbdbaepmdmnfaaGreatDoor
open Go.RowKit
set_option maxRecDepth 20000 in
set_option maxHeartbeats 4000000 in
theorem mkx_field (t : TypeId) (u : Value) (I : Nat → World → Value → Prop) (hI : KeepsE I) (vs vs' : Array MapEntry) (hM : ∀ kb mv ma mf sg W, MkV W kb mv ma mf sg vs → Calls Tryz.prog 220 #[.pointer (some ⟨kb, 0, none⟩), (.agg #[.iface t u])] W fun en w' => ∃ v, en = .returned v ∧ I W.heap.size w' v ∧ MkV w' kb mv ma mf sg vs' ∧ Only (fun q => q = mv) W w') : MakesE (.iface 309 (.agg #[.iface t u])) I vs vs' := by
  intro kb mv ma mf sg w h
  have hmf := hmfT
  have hsf := hsfT
  have hsn := hsnT
  have hml := heap_lt h.v
  have hkl := heap_lt h.k
  have hal := heap_lt h.a
  have e0 : ∀ W, (Instr.typeAssert (.iface 309 (.agg #[.iface t u])) 238 300 true).run Tryz.prog W = .ok (.tuple #[.agg #[.int .i64 0], .bool false]) W := fun W => by kernel_rfl
  have e1 : ∀ W, (Instr.typeAssert (.iface 309 (.agg #[.iface t u])) 238 303 true).run Tryz.prog W = .ok (.tuple #[.agg #[.string ⟨#[]⟩], .bool false]) W := fun W => by kernel_rfl
  have e2 : ∀ W, (Instr.typeAssert (.iface 309 (.agg #[.iface t u])) 238 304 true).run Tryz.prog W = .ok (.tuple #[.agg #[.string ⟨#[]⟩], .bool false]) W := fun W => by kernel_rfl
  have e3 : ∀ W, (Instr.typeAssert (.iface 309 (.agg #[.iface t u])) 238 92 true).run Tryz.prog W = .ok (.tuple #[.agg #[.string ⟨#[]⟩, .int .i64 0], .bool false]) W := fun W => by kernel_rfl
  have e4 : ∀ W, (Instr.typeAssert (.iface 309 (.agg #[.iface t u])) 238 306 true).run Tryz.prog W = .ok (.tuple #[.agg #[.string ⟨#[]⟩, .int .i64 0, .slice none 0 0], .bool false]) W := fun W => by kernel_rfl
  have ey : ∀ W, (Instr.typeAssert (.iface 309 (.agg #[.iface t u])) 238 309 true).run Tryz.prog W = .ok (.tuple #[.agg #[.iface t u], .bool true]) W := fun W => by kernel_rfl
  have HR := hide (fun W (hW : Only (fun _ => False) w W) => hM kb mv ma mf sg W (h.calm hW))
  clear h hM
  go_enter Tryz.func163, Tryz.ntmps163
  go_wp2_with fail
  refine (HR.out _ ((onlyA w _).alloc _)).mono ?_
  rintro en w2 ⟨v, rfl, hv, hk, ho⟩
  obtain ⟨x1, y1, rfl, hx1, hy1⟩ := hI.shape _ _ _ hv
  have hb := (ho.block w.heap.size (by simp; omega) (by omega)).trans ((Below.heap_alloc _ _ _ (by simp)).trans (new0 w _))
  have r0 : w2.cell? ⟨w.heap.size, 0, none⟩ = some .nilFunc := cell_of hb rfl
  have r1 : w2.cell? ⟨w.heap.size, 1, none⟩ = some .nilFunc := cell_of hb rfl
  have rf := free_of hb
  have rl := heap_lt hb
  have s1 : ∀ (a : Addr) (W : World), (store a x1).run Tryz.prog W = stored Tryz.prog W a x1 .plain := fun a W => run_store _ W a _ _ hx1
  have s2 : ∀ (a : Addr) (W : World), (store a y1).run Tryz.prog W = stored Tryz.prog W a y1 .plain := fun a W => run_store _ W a _ _ hy1
  have HV := hide hv
  have HK := hide hk
  have HO := hide ho
  clear hv ho hb HR hk
  go_wp2
  have hF : Only (fun q => q = w.heap.size) w2 ((w2.setCell ⟨w.heap.size, 0, none⟩ x1).setCell ⟨w.heap.size, 1, none⟩ y1) := ((Only.refl (fun q => q = w.heap.size) w2).setCell (p := ⟨w.heap.size, 0, none⟩) (fun _ => rfl) _).setCell (p := ⟨w.heap.size, 1, none⟩) (fun _ => rfl) _
  refine bodyPost_ret (v := .agg #[x1, y1]) (by simp [results, Tryz.results163, go_sem, r0, r1]) rfl ⟨_, rfl, hI.down _ _ _ _ (hI.keep _ _ _ _ HV.out (hF.mono (fun i _ e => by rw [e]; simp; omega))) (by simp; omega), HK.out.far hF (by omega) (by omega) (by omega), ?_⟩
  exact only_box ((onlyA w _).alloc _) HO.out hF (Nat.le_refl _)
set_option maxRecDepth 20000 in
set_option maxHeartbeats 4000000 in
theorem mkx_bin (t1 t2 : TypeId) (u1 u2 : Value) (x : ByteArray) (I : Nat → World → Value → Prop) (hI : KeepsE I) (vs vs' : Array MapEntry) (hM : ∀ kb mv ma mf sg W, MkV W kb mv ma mf sg vs → Calls Tryz.prog 224 #[.pointer (some ⟨kb, 0, none⟩), (.agg #[.iface t1 u1, .string x, .iface t2 u2])] W fun en w' => ∃ v, en = .returned v ∧ I W.heap.size w' v ∧ MkV w' kb mv ma mf sg vs' ∧ Only (fun q => q = mv) W w') : MakesE (.iface 316 (.agg #[.iface t1 u1, .string x, .iface t2 u2])) I vs vs' := by
  intro kb mv ma mf sg w h
  have hmf := hmfT
  have hsf := hsfT
  have hsn := hsnT
  have hml := heap_lt h.v
  have hkl := heap_lt h.k
  have hal := heap_lt h.a
  have e0 : ∀ W, (Instr.typeAssert (.iface 316 (.agg #[.iface t1 u1, .string x, .iface t2 u2])) 238 300 true).run Tryz.prog W = .ok (.tuple #[.agg #[.int .i64 0], .bool false]) W := fun W => by kernel_rfl
  have e1 : ∀ W, (Instr.typeAssert (.iface 316 (.agg #[.iface t1 u1, .string x, .iface t2 u2])) 238 303 true).run Tryz.prog W = .ok (.tuple #[.agg #[.string ⟨#[]⟩], .bool false]) W := fun W => by kernel_rfl
  have e2 : ∀ W, (Instr.typeAssert (.iface 316 (.agg #[.iface t1 u1, .string x, .iface t2 u2])) 238 304 true).run Tryz.prog W = .ok (.tuple #[.agg #[.string ⟨#[]⟩], .bool false]) W := fun W => by kernel_rfl
  have e3 : ∀ W, (Instr.typeAssert (.iface 316 (.agg #[.iface t1 u1, .string x, .iface t2 u2])) 238 92 true).run Tryz.prog W = .ok (.tuple #[.agg #[.string ⟨#[]⟩, .int .i64 0], .bool false]) W := fun W => by kernel_rfl
  have e4 : ∀ W, (Instr.typeAssert (.iface 316 (.agg #[.iface t1 u1, .string x, .iface t2 u2])) 238 306 true).run Tryz.prog W = .ok (.tuple #[.agg #[.string ⟨#[]⟩, .int .i64 0, .slice none 0 0], .bool false]) W := fun W => by kernel_rfl
  have e5 : ∀ W, (Instr.typeAssert (.iface 316 (.agg #[.iface t1 u1, .string x, .iface t2 u2])) 238 309 true).run Tryz.prog W = .ok (.tuple #[.agg #[.nilIface], .bool false]) W := fun W => by kernel_rfl
  have e6 : ∀ W, (Instr.typeAssert (.iface 316 (.agg #[.iface t1 u1, .string x, .iface t2 u2])) 238 311 true).run Tryz.prog W = .ok (.tuple #[.agg #[.string ⟨#[]⟩, .int .i64 0, .slice none 0 0], .bool false]) W := fun W => by kernel_rfl
  have e7 : ∀ W, (Instr.typeAssert (.iface 316 (.agg #[.iface t1 u1, .string x, .iface t2 u2])) 238 312 true).run Tryz.prog W = .ok (.tuple #[.agg #[.string ⟨#[]⟩, .int .i64 0, .slice none 0 0], .bool false]) W := fun W => by kernel_rfl
  have e8 : ∀ W, (Instr.typeAssert (.iface 316 (.agg #[.iface t1 u1, .string x, .iface t2 u2])) 238 314 true).run Tryz.prog W = .ok (.tuple #[.agg #[.string ⟨#[]⟩, .nilIface], .bool false]) W := fun W => by kernel_rfl
  have ey : ∀ W, (Instr.typeAssert (.iface 316 (.agg #[.iface t1 u1, .string x, .iface t2 u2])) 238 316 true).run Tryz.prog W = .ok (.tuple #[.agg #[.iface t1 u1, .string x, .iface t2 u2], .bool true]) W := fun W => by kernel_rfl
  have HR := hide (fun W (hW : Only (fun _ => False) w W) => hM kb mv ma mf sg W (h.calm hW))
  clear h hM
  go_enter Tryz.func163, Tryz.ntmps163
  go_wp2_with fail
  refine (HR.out _ ((onlyA w _).alloc _)).mono ?_
  rintro en w2 ⟨v, rfl, hv, hk, ho⟩
  obtain ⟨x1, y1, rfl, hx1, hy1⟩ := hI.shape _ _ _ hv
  have hb := (ho.block w.heap.size (by simp; omega) (by omega)).trans ((Below.heap_alloc _ _ _ (by simp)).trans (new0 w _))
  have r0 : w2.cell? ⟨w.heap.size, 0, none⟩ = some .nilFunc := cell_of hb rfl
  have r1 : w2.cell? ⟨w.heap.size, 1, none⟩ = some .nilFunc := cell_of hb rfl
  have rf := free_of hb
  have rl := heap_lt hb
  have s1 : ∀ (a : Addr) (W : World), (store a x1).run Tryz.prog W = stored Tryz.prog W a x1 .plain := fun a W => run_store _ W a _ _ hx1
  have s2 : ∀ (a : Addr) (W : World), (store a y1).run Tryz.prog W = stored Tryz.prog W a y1 .plain := fun a W => run_store _ W a _ _ hy1
  have HV := hide hv
  have HK := hide hk
  have HO := hide ho
  clear hv ho hb HR hk
  go_wp2
  have hF : Only (fun q => q = w.heap.size) w2 ((w2.setCell ⟨w.heap.size, 0, none⟩ x1).setCell ⟨w.heap.size, 1, none⟩ y1) := ((Only.refl (fun q => q = w.heap.size) w2).setCell (p := ⟨w.heap.size, 0, none⟩) (fun _ => rfl) _).setCell (p := ⟨w.heap.size, 1, none⟩) (fun _ => rfl) _
  refine bodyPost_ret (v := .agg #[x1, y1]) (by simp [results, Tryz.results163, go_sem, r0, r1]) rfl ⟨_, rfl, hI.down _ _ _ _ (hI.keep _ _ _ _ HV.out (hF.mono (fun i _ e => by rw [e]; simp; omega))) (by simp; omega), HK.out.far hF (by omega) (by omega) (by omega), ?_⟩
  exact only_box ((onlyA w _).alloc _) HO.out hF (Nat.le_refl _)
set_option maxRecDepth 20000 in
set_option maxHeartbeats 4000000 in
theorem mkx_store (t1 t2 : TypeId) (u1 u2 : Value) (x : ByteArray) (I : Nat → World → Value → Prop) (hI : KeepsE I) (vs vs' : Array MapEntry) (hM : ∀ kb mv ma mf sg W, MkV W kb mv ma mf sg vs → Calls Tryz.prog 228 #[.pointer (some ⟨kb, 0, none⟩), (.agg #[.iface t1 u1, .string x, .iface t2 u2])] W fun en w' => ∃ v, en = .returned v ∧ I W.heap.size w' v ∧ MkV w' kb mv ma mf sg vs' ∧ Only (fun q => q = mv) W w') : MakesE (.iface 326 (.agg #[.iface t1 u1, .string x, .iface t2 u2])) I vs vs' := by
  intro kb mv ma mf sg w h
  have hmf := hmfT
  have hsf := hsfT
  have hsn := hsnT
  have hml := heap_lt h.v
  have hkl := heap_lt h.k
  have hal := heap_lt h.a
  have e0 : ∀ W, (Instr.typeAssert (.iface 326 (.agg #[.iface t1 u1, .string x, .iface t2 u2])) 238 300 true).run Tryz.prog W = .ok (.tuple #[.agg #[.int .i64 0], .bool false]) W := fun W => by kernel_rfl
  have e1 : ∀ W, (Instr.typeAssert (.iface 326 (.agg #[.iface t1 u1, .string x, .iface t2 u2])) 238 303 true).run Tryz.prog W = .ok (.tuple #[.agg #[.string ⟨#[]⟩], .bool false]) W := fun W => by kernel_rfl
  have e2 : ∀ W, (Instr.typeAssert (.iface 326 (.agg #[.iface t1 u1, .string x, .iface t2 u2])) 238 304 true).run Tryz.prog W = .ok (.tuple #[.agg #[.string ⟨#[]⟩], .bool false]) W := fun W => by kernel_rfl
  have e3 : ∀ W, (Instr.typeAssert (.iface 326 (.agg #[.iface t1 u1, .string x, .iface t2 u2])) 238 92 true).run Tryz.prog W = .ok (.tuple #[.agg #[.string ⟨#[]⟩, .int .i64 0], .bool false]) W := fun W => by kernel_rfl
  have e4 : ∀ W, (Instr.typeAssert (.iface 326 (.agg #[.iface t1 u1, .string x, .iface t2 u2])) 238 306 true).run Tryz.prog W = .ok (.tuple #[.agg #[.string ⟨#[]⟩, .int .i64 0, .slice none 0 0], .bool false]) W := fun W => by kernel_rfl
  have e5 : ∀ W, (Instr.typeAssert (.iface 326 (.agg #[.iface t1 u1, .string x, .iface t2 u2])) 238 309 true).run Tryz.prog W = .ok (.tuple #[.agg #[.nilIface], .bool false]) W := fun W => by kernel_rfl
  have e6 : ∀ W, (Instr.typeAssert (.iface 326 (.agg #[.iface t1 u1, .string x, .iface t2 u2])) 238 311 true).run Tryz.prog W = .ok (.tuple #[.agg #[.string ⟨#[]⟩, .int .i64 0, .slice none 0 0], .bool false]) W := fun W => by kernel_rfl
  have e7 : ∀ W, (Instr.typeAssert (.iface 326 (.agg #[.iface t1 u1, .string x, .iface t2 u2])) 238 312 true).run Tryz.prog W = .ok (.tuple #[.agg #[.string ⟨#[]⟩, .int .i64 0, .slice none 0 0], .bool false]) W := fun W => by kernel_rfl
  have e8 : ∀ W, (Instr.typeAssert (.iface 326 (.agg #[.iface t1 u1, .string x, .iface t2 u2])) 238 314 true).run Tryz.prog W = .ok (.tuple #[.agg #[.string ⟨#[]⟩, .nilIface], .bool false]) W := fun W => by kernel_rfl
  have e9 : ∀ W, (Instr.typeAssert (.iface 326 (.agg #[.iface t1 u1, .string x, .iface t2 u2])) 238 316 true).run Tryz.prog W = .ok (.tuple #[.agg #[.nilIface, .string ⟨#[]⟩, .nilIface], .bool false]) W := fun W => by kernel_rfl
  have e10 : ∀ W, (Instr.typeAssert (.iface 326 (.agg #[.iface t1 u1, .string x, .iface t2 u2])) 238 319 true).run Tryz.prog W = .ok (.tuple #[.agg #[.nilIface, .nilIface], .bool false]) W := fun W => by kernel_rfl
  have e11 : ∀ W, (Instr.typeAssert (.iface 326 (.agg #[.iface t1 u1, .string x, .iface t2 u2])) 238 321 true).run Tryz.prog W = .ok (.tuple #[.agg #[.nilIface, .string ⟨#[]⟩, .int .i64 0], .bool false]) W := fun W => by kernel_rfl
  have e12 : ∀ W, (Instr.typeAssert (.iface 326 (.agg #[.iface t1 u1, .string x, .iface t2 u2])) 238 323 true).run Tryz.prog W = .ok (.tuple #[.agg #[.nilIface, .nilIface, .nilIface], .bool false]) W := fun W => by kernel_rfl
  have ey : ∀ W, (Instr.typeAssert (.iface 326 (.agg #[.iface t1 u1, .string x, .iface t2 u2])) 238 326 true).run Tryz.prog W = .ok (.tuple #[.agg #[.iface t1 u1, .string x, .iface t2 u2], .bool true]) W := fun W => by kernel_rfl
  have HR := hide (fun W (hW : Only (fun _ => False) w W) => hM kb mv ma mf sg W (h.calm hW))
  clear h hM
  go_enter Tryz.func163, Tryz.ntmps163
  go_wp2_with fail
  refine (HR.out _ ((onlyA w _).alloc _)).mono ?_
  rintro en w2 ⟨v, rfl, hv, hk, ho⟩
  obtain ⟨x1, y1, rfl, hx1, hy1⟩ := hI.shape _ _ _ hv
  have hb := (ho.block w.heap.size (by simp; omega) (by omega)).trans ((Below.heap_alloc _ _ _ (by simp)).trans (new0 w _))
  have r0 : w2.cell? ⟨w.heap.size, 0, none⟩ = some .nilFunc := cell_of hb rfl
  have r1 : w2.cell? ⟨w.heap.size, 1, none⟩ = some .nilFunc := cell_of hb rfl
  have rf := free_of hb
  have rl := heap_lt hb
  have s1 : ∀ (a : Addr) (W : World), (store a x1).run Tryz.prog W = stored Tryz.prog W a x1 .plain := fun a W => run_store _ W a _ _ hx1
  have s2 : ∀ (a : Addr) (W : World), (store a y1).run Tryz.prog W = stored Tryz.prog W a y1 .plain := fun a W => run_store _ W a _ _ hy1
  have HV := hide hv
  have HK := hide hk
  have HO := hide ho
  clear hv ho hb HR hk
  go_wp2
  have hF : Only (fun q => q = w.heap.size) w2 ((w2.setCell ⟨w.heap.size, 0, none⟩ x1).setCell ⟨w.heap.size, 1, none⟩ y1) := ((Only.refl (fun q => q = w.heap.size) w2).setCell (p := ⟨w.heap.size, 0, none⟩) (fun _ => rfl) _).setCell (p := ⟨w.heap.size, 1, none⟩) (fun _ => rfl) _
  refine bodyPost_ret (v := .agg #[x1, y1]) (by simp [results, Tryz.results163, go_sem, r0, r1]) rfl ⟨_, rfl, hI.down _ _ _ _ (hI.keep _ _ _ _ HV.out (hF.mono (fun i _ e => by rw [e]; simp; omega))) (by simp; omega), HK.out.far hF (by omega) (by omega) (by omega), ?_⟩
  exact only_box ((onlyA w _).alloc _) HO.out hF (Nat.le_refl _)
theorem makesE_field (t : TypeId) (u : Value) (I : Nat → World → Value → Prop) (hI : KeepsE I) (vs vs' : Array MapEntry) (hE : MakesE (.iface t u) I vs vs') : MakesE (fieldT (.iface t u)) (FieldK I) vs vs' :=
  mkx_field t u (FieldK I) (fieldk_keeps hI) vs vs' (fun kb mv ma mf sg W h => fieldk_made t u I hI vs vs' hE kb mv ma mf sg W h)
end Go.Proofs.YtdbdbaepmdmnfaaGreatDoor

