import Derived.Test.YtdbdbaepmdmnfaaGreatDoorZ23
import Derived.Deep.RegionHeld3
namespace Go.Proofs.YtdbdbaepmdmnfaaGreatDoor
open Go.RowKit
variable {wT : World}
/-- What empties an array. -/
def DelK (B : Nat) (w : World) (v : Value) : Prop := ∃ ab z, v = .func (.func 292) #[] #[.pointer (some ⟨ab, 0, none⟩)] ∧ B ≤ ab ∧ w.heap[ab]? = some (.cells #[z] 430 (0, 0)) ∧ ArrK 0 B w (.agg #[z])
theorem delK_keeps : Keeps DelK where
  isF := fun _ _ _ ⟨_, _, e, _⟩ => ⟨_, _, e⟩
  keep := fun B w w' x ⟨ab, z, e, k, h, hr⟩ ho => ⟨ab, z, e, k, (ho.block ab (heap_lt h) (by omega)).trans h, arrK_keep hr ho⟩
  down := fun A B w x ⟨ab, z, e, k, h, hr⟩ hA => ⟨ab, z, e, by omega, h, arrK_down hr hA⟩
set_option maxRecDepth 20000 in
set_option maxHeartbeats 4000000 in
theorem del_made (x : ByteArray) (a : Int) (vs : VA) (a' : Array MapEntry) (hN : NumOK x 0 vs.a a') (kb mv ma mf sg : Nat) (w : World) (h : MkV wT w kb mv ma mf sg vs) :
    Calls Tryz.prog 214 #[.pointer (some ⟨kb, 0, none⟩), .agg #[.string x, .int .i64 a, .slice none 0 0]] w fun en w' => ∃ v, en = .returned (.agg #[v]) ∧ DelK w.heap.size w' v ∧ MkV wT w' kb mv ma mf sg ⟨vs.v, a'⟩ ∧ Only (fun q => q = mv ∨ q = ma) w w' := by
  have hmf := hmfT
  have hsf := hsfT
  have hsn := hsnT
  have hml := heap_lt h.v
  have hkl := heap_lt h.k
  have hal := heap_lt h.a
  have hw0 := h.t.size
  have HA := hide (fun W (hW : Only (fun _ => False) w W) => arrk_made kb mv ma mf sg x 0 vs a' hN a W (h.calm hW))
  clear h
  go_enter Tryz.func214, Tryz.ntmps214
  go_wp2_with fail
  refine (HA.out _ ((onlyA w _).alloc _)).mono ?_
  rintro en w1 ⟨v, rfl, hv, hk, ho⟩
  obtain ⟨nb, rfl, hnb, hnb2⟩ := hv
  have hz1 := ho.size
  have hz1' : w.heap.size + 1 + 1 ≤ w1.heap.size := by simpa using hz1
  have hb := (ho.block (w.heap.size + 1) (by simp) (by omega)).trans (new_at2 (W := w.alloc _) (by simp) (.cells #[.nilFunc] 185))
  have r0 : w1.cell? ⟨w.heap.size + 1, 0, none⟩ = some .nilFunc := cell_of hb rfl
  have rf := free_of hb
  have rl := heap_lt hb
  have HK := hide hk
  have HN := hide hnb2
  have HO1 : Hid (Only (fun q => q = mv ∨ q = ma) w w1) := hide (fromAlloc (fromAlloc ho))
  clear hk ho hnb2 HA hz1 hb
  go_wp2
  have hF : Only (fun q => q = w.heap.size + 1) w1 (w1.setCell ⟨w.heap.size + 1, 0, none⟩ (.func (.func 292) #[] #[.pointer (some ⟨w1.heap.size, 0, none⟩)])) := (Only.refl (fun q => q = w.heap.size + 1) w1).setCell (p := ⟨w.heap.size + 1, 0, none⟩) (fun _ => rfl) _
  simp at hnb
  have hnl := heap_lt HN.out
  refine bodyPost_ret (v := .agg #[.func (.func 292) #[] #[.pointer (some ⟨w1.heap.size, 0, none⟩)]]) (by simp [results, Tryz.results214, go_sem, r0, rl]) rfl ⟨_, rfl, ⟨w1.heap.size, _, rfl, by omega, new_at2 (by simp) _, ⟨nb, rfl, by omega, (Below.heap_alloc _ _ _ (by simp; omega)).trans ((hF.block nb hnl (by omega)).trans HN.out)⟩⟩, ((HK.out.far hF (by omega) (by omega) (by omega) (by omega))).allocV _, ?_⟩
  exact (HO1.out.trans hF (fun i hi e => absurd hi (by omega))).alloc _
set_option maxRecDepth 20000 in
set_option maxHeartbeats 4000000 in
theorem counted_del (x : ByteArray) (a : Nat) (vs vs2 : VA) (kb mv ma mf sg : Nat) (wS : World) (H : ∀ W, MkV wT W kb mv ma mf sg vs → Only (fun q => q = mv ∨ q = ma) wS W → Calls Tryz.prog 214 #[.pointer (some ⟨kb, 0, none⟩), .agg #[.string x, .int .i64 a, .slice none 0 0]] W fun en w' => ∃ v, en = .returned (.agg #[v]) ∧ DelK W.heap.size w' v ∧ MkV wT w' kb mv ma mf sg vs2 ∧ Only (fun q => q = mv ∨ q = ma) W w') : MadeS wT 161 kb mv ma mf sg wS (.iface 356 (.agg #[.string x, .int .i64 a, .slice none 0 0])) (DelK) vs vs2 := by
  intro w h hO
  have hmf := hmfT
  have hsf := hsfT
  have hsn := hsnT
  have hml := heap_lt h.v
  have hkl := heap_lt h.k
  have hal := heap_lt h.a
  have hw0 := h.t.size
  have q0 : ∀ W, (Instr.typeAssert (.iface 356 (.agg #[.string x, .int .i64 a, .slice none 0 0])) 235 290 true).run Tryz.prog W = .ok (.tuple #[.agg #[.nilIface, .slice none 0 0, .bool false, .slice none 0 0], .bool false]) W := fun W => by kernel_rfl
  have q1 : ∀ W, (Instr.typeAssert (.iface 356 (.agg #[.string x, .int .i64 a, .slice none 0 0])) 235 293 true).run Tryz.prog W = .ok (.tuple #[.agg #[.nilIface, .slice none 0 0], .bool false]) W := fun W => by kernel_rfl
  have q2 : ∀ W, (Instr.typeAssert (.iface 356 (.agg #[.string x, .int .i64 a, .slice none 0 0])) 235 295 true).run Tryz.prog W = .ok (.tuple #[.agg #[.nilIface, .nilIface, .nilIface, .slice none 0 0], .bool false]) W := fun W => by kernel_rfl
  have q3 : ∀ W, (Instr.typeAssert (.iface 356 (.agg #[.string x, .int .i64 a, .slice none 0 0])) 235 298 true).run Tryz.prog W = .ok (.tuple #[.agg #[.string ⟨#[]⟩, .int .i64 0, .string ⟨#[]⟩, .int .i64 0, .slice none 0 0], .bool false]) W := fun W => by kernel_rfl
  have q4 : ∀ W, (Instr.typeAssert (.iface 356 (.agg #[.string x, .int .i64 a, .slice none 0 0])) 235 285 true).run Tryz.prog W = .ok (.tuple #[.agg #[.slice none 0 0, .nilIface], .bool false]) W := fun W => by kernel_rfl
  have q5 : ∀ W, (Instr.typeAssert (.iface 356 (.agg #[.string x, .int .i64 a, .slice none 0 0])) 235 352 true).run Tryz.prog W = .ok (.tuple #[.agg #[.string ⟨#[]⟩, .int .i64 0], .bool false]) W := fun W => by kernel_rfl
  have q6 : ∀ W, (Instr.typeAssert (.iface 356 (.agg #[.string x, .int .i64 a, .slice none 0 0])) 235 353 true).run Tryz.prog W = .ok (.tuple #[.agg #[.nilIface], .bool false]) W := fun W => by kernel_rfl
  have q7 : ∀ W, (Instr.typeAssert (.iface 356 (.agg #[.string x, .int .i64 a, .slice none 0 0])) 235 355 true).run Tryz.prog W = .ok (.tuple #[.agg #[.nilIface, .int .i64 0], .bool false]) W := fun W => by kernel_rfl
  have qy : ∀ W, (Instr.typeAssert (.iface 356 (.agg #[.string x, .int .i64 a, .slice none 0 0])) 235 356 true).run Tryz.prog W = .ok (.tuple #[.agg #[.string x, .int .i64 a, .slice none 0 0], .bool true]) W := fun W => by kernel_rfl
  have HR := hide (fun W (hW : Only (fun _ => False) w W) => H W (h.calm hW) (hO.trans hW (fun _ _ e => e.elim)))
  have HKe := hide delK_keeps
  clear h H
  go_enter Tryz.func161, Tryz.ntmps161
  go_wp2_with fail
  refine (HR.out _ ((onlyA w _).alloc _)).mono ?_
  rintro en w2 ⟨v, rfl, hv, hk, ho⟩
  obtain ⟨F, cp, rfl⟩ := HKe.out.isF _ _ _ hv
  have hb := (ho.block w.heap.size (by simp; omega) (by omega)).trans ((Below.heap_alloc _ _ _ (by simp)).trans (new0 w _))
  have r0 : w2.cell? ⟨w.heap.size, 0, none⟩ = some .nilFunc := cell_of hb rfl
  have rf := free_of hb
  have rl := heap_lt hb
  have HV := hide hv
  have HO := hide ho
  have HK := hide hk
  clear hv hk ho hb HR
  go_wp2
  refine bodyPost_ret (v := .agg #[.func (.func F) #[] cp]) (by simp [results, Tryz.results161, go_sem, r0]) rfl ⟨_, rfl, HKe.out.down _ _ _ _ (HKe.out.keep _ _ _ _ HV.out ((Only.refl _ w2).setCell (p := ⟨w.heap.size, 0, none⟩) (fun _ => by show w.heap.size < _; simp; omega) _)) (by simp; omega), HK.out.far (b := w.heap.size) ((Only.refl (fun q => q = w.heap.size) w2).setCell (p := ⟨w.heap.size, 0, none⟩) (fun _ => rfl) _) (by omega) (by omega) (by omega) (by omega), ?_⟩
  exact (((((onlyA w _).alloc _).mono (fun _ _ e => e.elim)).trans HO.out (fun _ _ e => e)).setCell (p := ⟨w.heap.size, 0, none⟩) (fun h => absurd h (by show ¬ w.heap.size < w.heap.size; omega)) _)
set_option maxRecDepth 20000 in
set_option maxHeartbeats 4000000 in
theorem counted_in (K : Nat → World → Value → Prop) (hK : Keeps K) (kx : ByteArray) (ka : Nat) (x : ByteArray) (a : Nat) (po : Option Addr) (n cap : Nat) (vs vs2 : VA) (kb mv ma mf sg : Nat) (wS : World) (H : ∀ W, MkV wT W kb mv ma mf sg vs → Only (fun q => q = mv ∨ q = ma) wS W → Calls Tryz.prog 209 #[.pointer (some ⟨kb, 0, none⟩), .agg #[.string kx, .int .i64 ka, .string x, .int .i64 a, .slice po n cap]] W fun en w' => ∃ v, en = .returned (.agg #[v]) ∧ K W.heap.size w' v ∧ MkV wT w' kb mv ma mf sg vs2 ∧ Only (fun q => q = mv ∨ q = ma) W w') : MadeS wT 161 kb mv ma mf sg wS (.iface 298 (.agg #[.string kx, .int .i64 ka, .string x, .int .i64 a, .slice po n cap])) (K) vs vs2 := by
  intro w h hO
  have hmf := hmfT
  have hsf := hsfT
  have hsn := hsnT
  have hml := heap_lt h.v
  have hkl := heap_lt h.k
  have hal := heap_lt h.a
  have hw0 := h.t.size
  have q0 : ∀ W, (Instr.typeAssert (.iface 298 (.agg #[.string kx, .int .i64 ka, .string x, .int .i64 a, .slice po n cap])) 235 290 true).run Tryz.prog W = .ok (.tuple #[.agg #[.nilIface, .slice none 0 0, .bool false, .slice none 0 0], .bool false]) W := fun W => by kernel_rfl
  have q1 : ∀ W, (Instr.typeAssert (.iface 298 (.agg #[.string kx, .int .i64 ka, .string x, .int .i64 a, .slice po n cap])) 235 293 true).run Tryz.prog W = .ok (.tuple #[.agg #[.nilIface, .slice none 0 0], .bool false]) W := fun W => by kernel_rfl
  have q2 : ∀ W, (Instr.typeAssert (.iface 298 (.agg #[.string kx, .int .i64 ka, .string x, .int .i64 a, .slice po n cap])) 235 295 true).run Tryz.prog W = .ok (.tuple #[.agg #[.nilIface, .nilIface, .nilIface, .slice none 0 0], .bool false]) W := fun W => by kernel_rfl
  have qy : ∀ W, (Instr.typeAssert (.iface 298 (.agg #[.string kx, .int .i64 ka, .string x, .int .i64 a, .slice po n cap])) 235 298 true).run Tryz.prog W = .ok (.tuple #[.agg #[.string kx, .int .i64 ka, .string x, .int .i64 a, .slice po n cap], .bool true]) W := fun W => by kernel_rfl
  have HR := hide (fun W (hW : Only (fun _ => False) w W) => H W (h.calm hW) (hO.trans hW (fun _ _ e => e.elim)))
  have HKe := hide hK
  clear h H
  go_enter Tryz.func161, Tryz.ntmps161
  go_wp2_with fail
  refine (HR.out _ ((onlyA w _).alloc _)).mono ?_
  rintro en w2 ⟨v, rfl, hv, hk, ho⟩
  obtain ⟨F, cp, rfl⟩ := HKe.out.isF _ _ _ hv
  have hb := (ho.block w.heap.size (by simp; omega) (by omega)).trans ((Below.heap_alloc _ _ _ (by simp)).trans (new0 w _))
  have r0 : w2.cell? ⟨w.heap.size, 0, none⟩ = some .nilFunc := cell_of hb rfl
  have rf := free_of hb
  have rl := heap_lt hb
  have HV := hide hv
  have HO := hide ho
  have HK := hide hk
  clear hv hk ho hb HR
  go_wp2
  refine bodyPost_ret (v := .agg #[.func (.func F) #[] cp]) (by simp [results, Tryz.results161, go_sem, r0]) rfl ⟨_, rfl, HKe.out.down _ _ _ _ (HKe.out.keep _ _ _ _ HV.out ((Only.refl _ w2).setCell (p := ⟨w.heap.size, 0, none⟩) (fun _ => by show w.heap.size < _; simp; omega) _)) (by simp; omega), HK.out.far (b := w.heap.size) ((Only.refl (fun q => q = w.heap.size) w2).setCell (p := ⟨w.heap.size, 0, none⟩) (fun _ => rfl) _) (by omega) (by omega) (by omega) (by omega), ?_⟩
  exact (((((onlyA w _).alloc _).mono (fun _ _ e => e.elim)).trans HO.out (fun _ _ e => e)).setCell (p := ⟨w.heap.size, 0, none⟩) (fun h => absurd h (by show ¬ w.heap.size < w.heap.size; omega)) _)
theorem made_del (x : ByteArray) (a : Nat) (vs : VA) (a' : Array MapEntry) (hN : NumOK x 0 vs.a a') (kb mv ma mf sg : Nat) (wS : World) : MadeS wT 161 kb mv ma mf sg wS (delT x a) DelK vs ⟨vs.v, a'⟩ :=
  counted_del x a vs ⟨vs.v, a'⟩ kb mv ma mf sg wS (fun W hW _ => del_made x a vs a' hN kb mv ma mf sg W hW)
end Go.Proofs.YtdbdbaepmdmnfaaGreatDoor

namespace Go.Proofs.YtdbdbaepmdmnfaaGreatDoor
open Go.RowKit
variable {wT : World}
set_option maxRecDepth 20000 in
set_option maxHeartbeats 1000000 in
/-- What cuts by FS. -/
theorem cutting_made (kp : Option Addr) (po : Option Addr) (cap : Nat) (w : World) : Calls Tryz.prog 397 #[.pointer kp, .slice po 0 cap] w fun en w' => en = .returned (.func (.func 437) #[] #[]) ∧ w' = w := by
  have hmf := hmfT
  go_enter Tryz.func397, Tryz.ntmps397
  go_wp2
  go_ret
  exact ⟨rfl, rfl⟩
set_option maxRecDepth 20000 in
set_option maxHeartbeats 4000000 in
theorem mkx_own (x : ByteArray) (a : Int) (po : Option Addr) (n cap : Nat) (I : Nat → World → Value → Prop) (hI : KeepsE I) (vs vs' : VA) (hM : ∀ kb mv ma mf sg W, MkV wT W kb mv ma mf sg vs → Calls Tryz.prog 222 #[.pointer (some ⟨kb, 0, none⟩), (.agg #[.string x, .int .i64 a, .slice po n cap])] W fun en w' => ∃ v, en = .returned v ∧ I W.heap.size w' v ∧ MkV wT w' kb mv ma mf sg vs' ∧ Only (fun q => q = mv ∨ q = ma) W w') : MakesE wT (.iface 312 (.agg #[.string x, .int .i64 a, .slice po n cap])) I vs vs' := by
  intro kb mv ma mf sg w h
  have hmf := hmfT
  have hsf := hsfT
  have hsn := hsnT
  have hml := heap_lt h.v
  have hkl := heap_lt h.k
  have hal := heap_lt h.a
  have hw0 := h.t.size
  have e0 : ∀ W, (Instr.typeAssert (.iface 312 (.agg #[.string x, .int .i64 a, .slice po n cap])) 238 300 true).run Tryz.prog W = .ok (.tuple #[.agg #[.int .i64 0], .bool false]) W := fun W => by kernel_rfl
  have e1 : ∀ W, (Instr.typeAssert (.iface 312 (.agg #[.string x, .int .i64 a, .slice po n cap])) 238 303 true).run Tryz.prog W = .ok (.tuple #[.agg #[.string ⟨#[]⟩], .bool false]) W := fun W => by kernel_rfl
  have e2 : ∀ W, (Instr.typeAssert (.iface 312 (.agg #[.string x, .int .i64 a, .slice po n cap])) 238 304 true).run Tryz.prog W = .ok (.tuple #[.agg #[.string ⟨#[]⟩], .bool false]) W := fun W => by kernel_rfl
  have e3 : ∀ W, (Instr.typeAssert (.iface 312 (.agg #[.string x, .int .i64 a, .slice po n cap])) 238 92 true).run Tryz.prog W = .ok (.tuple #[.agg #[.string ⟨#[]⟩, .int .i64 0], .bool false]) W := fun W => by kernel_rfl
  have e4 : ∀ W, (Instr.typeAssert (.iface 312 (.agg #[.string x, .int .i64 a, .slice po n cap])) 238 306 true).run Tryz.prog W = .ok (.tuple #[.agg #[.string ⟨#[]⟩, .int .i64 0, .slice none 0 0], .bool false]) W := fun W => by kernel_rfl
  have e5 : ∀ W, (Instr.typeAssert (.iface 312 (.agg #[.string x, .int .i64 a, .slice po n cap])) 238 309 true).run Tryz.prog W = .ok (.tuple #[.agg #[.nilIface], .bool false]) W := fun W => by kernel_rfl
  have e6 : ∀ W, (Instr.typeAssert (.iface 312 (.agg #[.string x, .int .i64 a, .slice po n cap])) 238 311 true).run Tryz.prog W = .ok (.tuple #[.agg #[.string ⟨#[]⟩, .int .i64 0, .slice none 0 0], .bool false]) W := fun W => by kernel_rfl
  have ey : ∀ W, (Instr.typeAssert (.iface 312 (.agg #[.string x, .int .i64 a, .slice po n cap])) 238 312 true).run Tryz.prog W = .ok (.tuple #[.agg #[.string x, .int .i64 a, .slice po n cap], .bool true]) W := fun W => by kernel_rfl
  have HR := hide (fun W (hW : Only (fun _ => False) w W) => hM kb mv ma mf sg W (h.calm hW))
  clear h hM
  go_enter Tryz.func163, Tryz.ntmps163
  go_wp2_with fail
  refine (HR.out _ ((onlyA w _).alloc _)).mono ?_
  rintro en w2 ⟨v, rfl, hv, hk, ho⟩
  obtain ⟨x1, y1, rfl, hx1, hy1⟩ := hI.shape _ _ _ hv
  have hb := (ho.block w.heap.size (by simp; omega) (by omega)).trans ((Below.heap_alloc _ _ _ (by simp)).trans (new0 w _))
  have r0 : w2.cell? ⟨w.heap.size, 0, none⟩ = some .nilFunc := cell_of hb rfl
  have r1 : w2.cell? ⟨w.heap.size, 1, none⟩ = some .nilFunc := cell_of hb rfl
  have rf := free_of hb
  have rl := heap_lt hb
  have s1 : ∀ (a : Addr) (W : World), (store a x1).run Tryz.prog W = stored Tryz.prog W a x1 .plain := fun a W => run_store _ W a _ _ hx1
  have s2 : ∀ (a : Addr) (W : World), (store a y1).run Tryz.prog W = stored Tryz.prog W a y1 .plain := fun a W => run_store _ W a _ _ hy1
  have HV := hide hv
  have HK := hide hk
  have HO := hide ho
  clear hv ho hb HR hk
  go_wp2
  have hF : Only (fun q => q = w.heap.size) w2 ((w2.setCell ⟨w.heap.size, 0, none⟩ x1).setCell ⟨w.heap.size, 1, none⟩ y1) := ((Only.refl (fun q => q = w.heap.size) w2).setCell (p := ⟨w.heap.size, 0, none⟩) (fun _ => rfl) _).setCell (p := ⟨w.heap.size, 1, none⟩) (fun _ => rfl) _
  refine bodyPost_ret (v := .agg #[x1, y1]) (by simp [results, Tryz.results163, go_sem, r0, r1]) rfl ⟨_, rfl, hI.down _ _ _ _ (hI.keep _ _ _ _ HV.out (hF.mono (fun i _ e => by rw [e]; simp; omega))) (by simp; omega), HK.out.far hF (by omega) (by omega) (by omega) (by omega), ?_⟩
  exact only_box ((onlyA w _).alloc _) HO.out hF (Nat.le_refl _)
set_option maxRecDepth 20000 in
set_option maxHeartbeats 4000000 in
/-- The own call split, made, given how it is made of its arguments. -/
theorem own_split (a : Int) (po : Option Addr) (n cap : Nat) (I : Nat → World → Value → Prop) (hI : KeepsE I) (vs vs' : VA) (hM : ∀ kb mv ma mf sg W, MkV wT W kb mv ma mf sg vs → Calls Tryz.prog 329 #[.pointer (some ⟨kb, 0, none⟩), .slice po n cap] W fun en w' => ∃ v, en = .returned v ∧ I W.heap.size w' v ∧ MkV wT w' kb mv ma mf sg vs' ∧ Only (fun q => q = mv ∨ q = ma) W w') (kb mv ma mf sg : Nat) (w : World) (h : MkV wT w kb mv ma mf sg vs) :
    Calls Tryz.prog 222 #[.pointer (some ⟨kb, 0, none⟩), .agg #[.string ⟨#[115, 112, 108, 105, 116]⟩, .int .i64 a, .slice po n cap]] w fun en w' => ∃ v, en = .returned v ∧ I w.heap.size w' v ∧ MkV wT w' kb mv ma mf sg vs' ∧ Only (fun q => q = mv ∨ q = ma) w w' := by
  have hmf := hmfT
  have hsf := hsfT
  have hsn := hsnT
  have hml := heap_lt h.v
  have hkl := heap_lt h.k
  have hal := heap_lt h.a
  have hw0 := h.t.size
  have HR := hide (fun W (hW : Only (fun _ => False) w W) => hM kb mv ma mf sg W (h.calm hW))
  clear h hM
  go_enter Tryz.func222, Tryz.ntmps222
  go_wp2_with fail
  refine (HR.out _ ((onlyA w _).alloc _)).mono ?_
  rintro en w2 ⟨v, rfl, hv, hk, ho⟩
  obtain ⟨x1, y1, rfl, hx1, hy1⟩ := hI.shape _ _ _ hv
  have hb := (ho.block (w.heap.size + 1) (by simp) (by omega)).trans (new_at2 (W := w.alloc _) (by simp) (.cells #[.nilFunc, .nilFunc] 338))
  have r0 : w2.cell? ⟨w.heap.size + 1, 0, none⟩ = some .nilFunc := cell_of hb rfl
  have r1 : w2.cell? ⟨w.heap.size + 1, 1, none⟩ = some .nilFunc := cell_of hb rfl
  have rf := free_of hb
  have rl := heap_lt hb
  have s1 : ∀ (a : Addr) (W : World), (store a x1).run Tryz.prog W = stored Tryz.prog W a x1 .plain := fun a W => run_store _ W a _ _ hx1
  have s2 : ∀ (a : Addr) (W : World), (store a y1).run Tryz.prog W = stored Tryz.prog W a y1 .plain := fun a W => run_store _ W a _ _ hy1
  have HV := hide hv
  have HK := hide hk
  have HO := hide ho
  clear hv ho hb HR hk
  go_wp2
  have hF : Only (fun q => q = w.heap.size + 1) w2 ((w2.setCell ⟨w.heap.size + 1, 0, none⟩ x1).setCell ⟨w.heap.size + 1, 1, none⟩ y1) := ((Only.refl (fun q => q = w.heap.size + 1) w2).setCell (p := ⟨w.heap.size + 1, 0, none⟩) (fun _ => rfl) _).setCell (p := ⟨w.heap.size + 1, 1, none⟩) (fun _ => rfl) _
  refine bodyPost_ret (v := .agg #[x1, y1]) (by simp [results, Tryz.results222, go_sem, r0, r1]) rfl ⟨_, rfl, hI.down _ _ _ _ (hI.keep _ _ _ _ HV.out (hF.mono (fun i _ e => by rw [e]; simp))) (by simp; omega), HK.out.far hF (by omega) (by omega) (by omega) (by omega), ?_⟩
  exact only_box ((onlyA w _).alloc _) HO.out hF (by omega)
end Go.Proofs.YtdbdbaepmdmnfaaGreatDoor

namespace Go.Proofs.YtdbdbaepmdmnfaaGreatDoor
open Go.RowKit
theorem Shut.mk' {p : Prop} (h : p) : Shut p := h
def leftB (m : Bool) (j : Nat) : List Nat := if m then [] else [j]
def oneB (m : Bool) : Nat := if m then 0 else 1
/-- Three calls one behind the other, three boxes that are made in between: each operation is looked at once. -/
theorem boxes3 {P : Program} {ops : Array Oper} {Q : Exit → Act → World → Prop} {S : World → Prop} (Lf : Nat → Bool → Bool → Bool → Array Bool) (ic : Nat → Nat) (j1 j2 j3 k : Nat) (I : Nat → Bool → Bool → Bool → Act → World → Prop)
    (hr : ∀ c m1 m2 m3, c ≤ 3 → Region.ready .any ops (Lf c m1 m2 m3) = (if c < 3 then [ic c] else []) ++ leftB m1 j1 ++ leftB m2 j2 ++ leftB m3 j3 ∨ (c = 3 ∧ m1 = true ∧ m2 = true ∧ m3 = true))
    (hsc : ∀ c m1 m2 m3, c < 3 → (Lf c m1 m2 m3).setIfInBounds (ic c) true = Lf (c + 1) m1 m2 m3)
    (hs1 : ∀ c m2 m3, c ≤ 3 → (Lf c false m2 m3).setIfInBounds j1 true = Lf c true m2 m3)
    (hs2 : ∀ c m1 m3, c ≤ 3 → (Lf c m1 false m3).setIfInBounds j2 true = Lf c m1 true m3)
    (hs3 : ∀ c m1 m2, c ≤ 3 → (Lf c m1 m2 false).setIfInBounds j3 true = Lf c m1 m2 true)
    (hc : ∀ c m1 m2 m3 a w, c < 3 → I c m1 m2 m3 a w → wpOp P ops Q (ic c) (fun a' w' => S w' ∧ I (c + 1) m1 m2 m3 a' w') a w)
    (h1 : ∀ c m2 m3 a w, c ≤ 3 → I c false m2 m3 a w → wpOp P ops Q j1 (fun a' w' => S w' ∧ I c true m2 m3 a' w') a w)
    (h2 : ∀ c m1 m3 a w, c ≤ 3 → I c m1 false m3 a w → wpOp P ops Q j2 (fun a' w' => S w' ∧ I c m1 true m3 a' w') a w)
    (h3 : ∀ c m1 m2 a w, c ≤ 3 → I c m1 m2 false a w → wpOp P ops Q j3 (fun a' w' => S w' ∧ I c m1 m2 true a' w') a w)
    (he : ∀ a w, I 3 true true true a w → wpAnyH P .any ops Q S k (Lf 3 true true true) a w) :
    ∀ (n c : Nat) (m1 m2 m3 : Bool) (a : Act) (w : World), c ≤ 3 → n = 3 - c + oneB m1 + oneB m2 + oneB m3 → I c m1 m2 m3 a w → wpAnyH P .any ops Q S (k + n) (Lf c m1 m2 m3) a w := by
  intro n
  induction n with
  | zero =>
    intro c m1 m2 m3 a w hc3 hn hI
    have e1 : m1 = true := by cases m1 <;> first | rfl | (exfalso; simp only [oneB] at hn; simp at hn; try omega)
    have e2 : m2 = true := by cases m2 <;> first | rfl | (exfalso; simp only [oneB] at hn; simp at hn; try omega)
    have e3 : m3 = true := by cases m3 <;> first | rfl | (exfalso; simp only [oneB] at hn; simp at hn; try omega)
    subst e1 e2 e3
    have e0 : c = 3 := by simp [oneB] at hn; omega
    subst e0
    exact he a w hI
  | succ n ih =>
    intro c m1 m2 m3 a w hc3 hn hI
    rcases hr c m1 m2 m3 hc3 with hR | ⟨rfl, rfl, rfl, rfl⟩
    · refine wpAnyH_all hR ?_ ?_
      · intro h0
        simp only [List.append_eq_nil_iff] at h0
        obtain ⟨⟨⟨z0, z1⟩, z2⟩, z3⟩ := h0
        have hc4 : ¬ c < 3 := by intro h; simp [h] at z0
        cases m1 <;> cases m2 <;> cases m3 <;> simp [leftB, oneB] at z1 z2 z3 hn
        omega
      · intro i hi
        simp only [List.mem_append] at hi
        rcases hi with ((hi | hi) | hi) | hi
        · by_cases hlt : c < 3
          · simp only [hlt, if_true, List.mem_singleton] at hi
            subst hi
            refine wpOp_mono (fun a' w' h => ⟨h.1, ?_⟩) (hc c m1 m2 m3 a w hlt hI)
            rw [hsc c m1 m2 m3 hlt]
            exact ih (c + 1) m1 m2 m3 a' w' (by omega) (by omega) h.2
          · simp [hlt] at hi
        · cases m1 with
          | true => simp [leftB] at hi
          | false =>
            simp [leftB] at hi
            subst hi
            refine wpOp_mono (fun a' w' h => ⟨h.1, ?_⟩) (h1 c m2 m3 a w hc3 hI)
            rw [hs1 c m2 m3 hc3]
            exact ih c true m2 m3 a' w' hc3 (by simp [oneB] at hn ⊢; omega) h.2
        · cases m2 with
          | true => simp [leftB] at hi
          | false =>
            simp [leftB] at hi
            subst hi
            refine wpOp_mono (fun a' w' h => ⟨h.1, ?_⟩) (h2 c m1 m3 a w hc3 hI)
            rw [hs2 c m1 m3 hc3]
            exact ih c m1 true m3 a' w' hc3 (by simp [oneB] at hn ⊢; omega) h.2
        · cases m3 with
          | true => simp [leftB] at hi
          | false =>
            simp [leftB] at hi
            subst hi
            refine wpOp_mono (fun a' w' h => ⟨h.1, ?_⟩) (h3 c m1 m2 a w hc3 hI)
            rw [hs3 c m1 m2 hc3]
            exact ih c m1 m2 true a' w' hc3 (by simp [oneB] at hn ⊢; omega) h.2
    · simp [oneB] at hn
/-- The same, from the beginning on. -/
theorem boxes3_go {P : Program} {ops : Array Oper} {Q : Exit → Act → World → Prop} {S : World → Prop} (Lf : Nat → Bool → Bool → Bool → Array Bool) (ic : Nat → Nat) (j1 j2 j3 k F : Nat) (L : Array Bool) (a : Act) (w : World) (I : Nat → Bool → Bool → Bool → Act → World → Prop) (hF : F = k + 6) (hL : L = Lf 0 false false false)
    (hr : ∀ c m1 m2 m3, c ≤ 3 → Region.ready .any ops (Lf c m1 m2 m3) = (if c < 3 then [ic c] else []) ++ leftB m1 j1 ++ leftB m2 j2 ++ leftB m3 j3 ∨ (c = 3 ∧ m1 = true ∧ m2 = true ∧ m3 = true))
    (hsc : ∀ c m1 m2 m3, c < 3 → (Lf c m1 m2 m3).setIfInBounds (ic c) true = Lf (c + 1) m1 m2 m3)
    (hs1 : ∀ c m2 m3, c ≤ 3 → (Lf c false m2 m3).setIfInBounds j1 true = Lf c true m2 m3)
    (hs2 : ∀ c m1 m3, c ≤ 3 → (Lf c m1 false m3).setIfInBounds j2 true = Lf c m1 true m3)
    (hs3 : ∀ c m1 m2, c ≤ 3 → (Lf c m1 m2 false).setIfInBounds j3 true = Lf c m1 m2 true)
    (hI : I 0 false false false a w)
    (hc : ∀ c m1 m2 m3 a w, c < 3 → I c m1 m2 m3 a w → wpOp P ops Q (ic c) (fun a' w' => S w' ∧ I (c + 1) m1 m2 m3 a' w') a w)
    (h1 : ∀ c m2 m3 a w, c ≤ 3 → I c false m2 m3 a w → wpOp P ops Q j1 (fun a' w' => S w' ∧ I c true m2 m3 a' w') a w)
    (h2 : ∀ c m1 m3 a w, c ≤ 3 → I c m1 false m3 a w → wpOp P ops Q j2 (fun a' w' => S w' ∧ I c m1 true m3 a' w') a w)
    (h3 : ∀ c m1 m2 a w, c ≤ 3 → I c m1 m2 false a w → wpOp P ops Q j3 (fun a' w' => S w' ∧ I c m1 m2 true a' w') a w)
    (he : ∀ a w, I 3 true true true a w → wpAnyH P .any ops Q S k (Lf 3 true true true) a w) : wpAnyH P .any ops Q S F L a w := by
  subst hF hL
  exact boxes3 Lf ic j1 j2 j3 k I hr hsc hs1 hs2 hs3 hc h1 h2 h3 he 6 0 false false false a w (by omega) (by simp [oneB]) hI
/-- A box that is made: zeros, or not yet. -/
def BoxAt (base : Nat) (z : Array Value) (t : TypeId) (m : Bool) (w : World) (p : Value) : Prop := m = true → ∃ b, p = .pointer (some ⟨b, 0, none⟩) ∧ base ≤ b ∧ w.heap[b]? = some (.cells z t (0, 0))
theorem BoxAt.keep {base : Nat} {z : Array Value} {t : TypeId} {m : Bool} {w w' : World} {p : Value} {D : Nat → Prop} (h : BoxAt base z t m w p) (ho : Only D w w') (hD : ∀ q, D q → q < base) : BoxAt base z t m w' p := fun hm => by
  obtain ⟨b, e, hb, hh⟩ := h hm
  exact ⟨b, e, hb, (ho.block b (heap_lt hh) (fun hd => absurd (hD b hd) (by omega))).trans hh⟩
theorem BoxAt.no {base : Nat} {z : Array Value} {t : TypeId} {w : World} {p : Value} : BoxAt base z t false w p := fun h => by cases h
theorem BoxAt.alloc {base : Nat} {z : Array Value} {t : TypeId} {m : Bool} {w : World} {p : Value} (h : BoxAt base z t m w p) (o : Obj) : BoxAt base z t m (w.alloc o) p := h.keep (onlyA w o) (fun _ e => e.elim)
theorem BoxAt.new {base : Nat} {z : Array Value} {t : TypeId} {w : World} (hb : base ≤ w.heap.size) : BoxAt base z t true (w.alloc (.cells z t)) (.pointer (some ⟨w.heap.size, 0, none⟩)) := fun _ => ⟨_, rfl, hb, new0 w _⟩
/-- A box lies ahead of B or from hi on. -/
def Off (p : Value) (m : Bool) (B hi : Nat) : Prop := m = true → ∀ b, p = .pointer (some ⟨b, 0, none⟩) → b < B ∨ hi ≤ b
/-- What a call has made, apart from the three boxes. -/
def ResAt (base : Nat) (V : World → Value → Prop) (m1 m2 m3 : Bool) (p1 p2 p3 : Value) (w : World) (x : Value) : Prop := ∃ B hi, base ≤ B ∧ hi ≤ w.heap.size ∧ (∀ w', Only (fun q => q < B ∨ hi ≤ q) w w' → V w' x) ∧ Off p1 m1 B hi ∧ Off p2 m2 B hi ∧ Off p3 m3 B hi
theorem ResAt.keep {base : Nat} {V : World → Value → Prop} {m1 m2 m3 : Bool} {p1 p2 p3 : Value} {w w' : World} {x : Value} {D : Nat → Prop} (h : ResAt base V m1 m2 m3 p1 p2 p3 w x) (ho : Only D w w') (hD : ∀ q, D q → q < base) : ResAt base V m1 m2 m3 p1 p2 p3 w' x := by
  obtain ⟨B, hi, hb, hh, hV, o1, o2, o3⟩ := h
  refine ⟨B, hi, hb, Nat.le_trans hh ho.size, fun w'' h2 => hV w'' ?_, o1, o2, o3⟩
  exact (ho.mono (fun q _ e => Or.inl (Nat.lt_of_lt_of_le (hD q e) hb))).trans h2 (fun _ _ e => e)
theorem Off.new {B hi n : Nat} (h : hi ≤ n) : Off (.pointer (some ⟨n, 0, none⟩)) true B hi := fun _ b e => by
  injection e with e
  injection e with e
  injection e with e
  exact Or.inr (by omega)
theorem ResAt.box1 {base : Nat} {V : World → Value → Prop} {m2 m3 : Bool} {p1 p2 p3 : Value} {w : World} {x : Value} (h : ResAt base V false m2 m3 p1 p2 p3 w x) (o : Obj) : ResAt base V true m2 m3 (.pointer (some ⟨w.heap.size, 0, none⟩)) p2 p3 (w.alloc o) x := by
  obtain ⟨B, hi, hb, hh, hV, o1, o2, o3⟩ := h
  exact ⟨B, hi, hb, Nat.le_trans hh (onlyA w o).size, fun w'' h2 => hV w'' (((onlyA w o).mono (fun _ _ e => e.elim)).trans h2 (fun _ _ e => e)), Off.new hh, o2, o3⟩
theorem ResAt.box2 {base : Nat} {V : World → Value → Prop} {m1 m3 : Bool} {p1 p2 p3 : Value} {w : World} {x : Value} (h : ResAt base V m1 false m3 p1 p2 p3 w x) (o : Obj) : ResAt base V m1 true m3 p1 (.pointer (some ⟨w.heap.size, 0, none⟩)) p3 (w.alloc o) x := by
  obtain ⟨B, hi, hb, hh, hV, o1, o2, o3⟩ := h
  exact ⟨B, hi, hb, Nat.le_trans hh (onlyA w o).size, fun w'' h2 => hV w'' (((onlyA w o).mono (fun _ _ e => e.elim)).trans h2 (fun _ _ e => e)), o1, Off.new hh, o3⟩
theorem ResAt.box3 {base : Nat} {V : World → Value → Prop} {m1 m2 : Bool} {p1 p2 p3 : Value} {w : World} {x : Value} (h : ResAt base V m1 m2 false p1 p2 p3 w x) (o : Obj) : ResAt base V m1 m2 true p1 p2 (.pointer (some ⟨w.heap.size, 0, none⟩)) (w.alloc o) x := by
  obtain ⟨B, hi, hb, hh, hV, o1, o2, o3⟩ := h
  exact ⟨B, hi, hb, Nat.le_trans hh (onlyA w o).size, fun w'' h2 => hV w'' (((onlyA w o).mono (fun _ _ e => e.elim)).trans h2 (fun _ _ e => e)), o1, o2, Off.new hh⟩
theorem BoxAt.off {base : Nat} {z : Array Value} {t : TypeId} {m : Bool} {w : World} {p : Value} (h : BoxAt base z t m w p) (hi : Nat) : Off p m w.heap.size hi := fun hm b e => by
  obtain ⟨b', e', _, hh⟩ := h hm
  rw [e'] at e
  injection e with e
  injection e with e
  injection e with e
  exact Or.inl (e ▸ heap_lt hh)
theorem ResAt.made {base : Nat} {V : World → Value → Prop} {m1 m2 m3 : Bool} {p1 p2 p3 : Value} {z1 z2 z3 : Array Value} {t1 t2 t3 : TypeId} {W w' : World} {x : Value} (hV : ∀ w'', Only (fun q => q < W.heap.size) w' w'' → V w'' x) (hb : base ≤ W.heap.size) (h1 : BoxAt base z1 t1 m1 W p1) (h2 : BoxAt base z2 t2 m2 W p2) (h3 : BoxAt base z3 t3 m3 W p3) : ResAt base V m1 m2 m3 p1 p2 p3 w' x :=
  ⟨W.heap.size, w'.heap.size, hb, Nat.le_refl _, fun w'' h => hV w'' (h.mono (fun q hq e => by omega)), h1.off _, h2.off _, h3.off _⟩
/-- The boxes turn: what the calls have made stands. -/
theorem ResAt.end {base : Nat} {V : World → Value → Prop} {b1 b2 b3 : Nat} {w w' : World} {x : Value} (h : ResAt base V true true true (.pointer (some ⟨b1, 0, none⟩)) (.pointer (some ⟨b2, 0, none⟩)) (.pointer (some ⟨b3, 0, none⟩)) w x) (ho : Only (fun q => q = b1 ∨ q = b2 ∨ q = b3) w w') : V w' x := by
  obtain ⟨B, hi, hb, hh, hV, o1, o2, o3⟩ := h
  refine hV w' (ho.mono (fun q _ e => ?_))
  rcases e with rfl | rfl | rfl
  · exact o1 rfl _ rfl
  · exact o2 rfl _ rfl
  · exact o3 rfl _ rfl
theorem ResAt.now {base : Nat} {V : World → Value → Prop} {m1 m2 m3 : Bool} {p1 p2 p3 : Value} {w : World} {x : Value} (h : ResAt base V m1 m2 m3 p1 p2 p3 w x) : V w x := by
  obtain ⟨B, hi, hb, hh, hV, o1, o2, o3⟩ := h
  exact hV w (Only.refl _ _)
end Go.Proofs.YtdbdbaepmdmnfaaGreatDoor

namespace Go.Proofs.YtdbdbaepmdmnfaaGreatDoor
open Go.RowKit
variable {wT : World}
theorem setP1 {W : World} {b t : Nat} {p : Value} (h : W.heap[b]? = some (.cells #[p] t (0, 0))) (x : Value) : (W.setCell ⟨b, 0, none⟩ x).heap[b]? = some (.cells #[x] t (0, 0)) := heap_setCell_same h x
/-- A loop over keys, made. -/
def InK (k : Nat) (K : Nat → World → Value → Prop) (B : Nat) (w : World) (v : Value) : Prop := ∃ ab kq bb x y z z2, v = .func (.func 278) #[] #[.pointer (some ⟨ab, 0, none⟩), .pointer (some ⟨kq, 0, none⟩), .pointer (some ⟨bb, 0, none⟩)] ∧ (B ≤ ab ∧ B ≤ kq ∧ B ≤ bb) ∧ w.heap[ab]? = some (.cells #[z] 430 (0, 0)) ∧ w.heap[kq]? = some (.cells #[x, y] 338 (0, 0)) ∧ w.heap[bb]? = some (.cells #[z2] 185 (0, 0)) ∧ ArrK 0 B w (.agg #[z]) ∧ VarK k B w (.agg #[x, y]) ∧ K B w z2
theorem inK_keeps {k : Nat} {K : Nat → World → Value → Prop} (hK : Keeps K) : Keeps (InK k K) where
  isF := fun _ _ _ ⟨_, _, _, _, _, _, _, e, _⟩ => ⟨_, _, e⟩
  keep := fun B w w' v ⟨ab, kq, bb, x, y, z, z2, e, ⟨k1, k2, k3⟩, h1, h2, h3, h4, h5, h6⟩ ho => ⟨ab, kq, bb, x, y, z, z2, e, ⟨k1, k2, k3⟩, (ho.block ab (heap_lt h1) (by omega)).trans h1, (ho.block kq (heap_lt h2) (by omega)).trans h2, (ho.block bb (heap_lt h3) (by omega)).trans h3, arrK_keep h4 ho, vark_keep h5 ho, hK.keep _ _ _ _ h6 ho⟩
  down := fun A B w v ⟨ab, kq, bb, x, y, z, z2, e, ⟨k1, k2, k3⟩, h1, h2, h3, h4, h5, h6⟩ hA => ⟨ab, kq, bb, x, y, z, z2, e, ⟨by omega, by omega, by omega⟩, h1, h2, h3, arrK_down h4 hA, vark_down h5 hA, hK.down _ _ _ _ h6 hA⟩
set_option linter.unusedSimpArgs false in
set_option maxRecDepth 20000 in
set_option maxHeartbeats 16000000 in
theorem keyLoop_made (kx : ByteArray) (ka : Int) (k : Nat) (x : ByteArray) (a : Int) (K : Nat → World → Value → Prop) (hK : Keeps K) (vs : VA) (v' a' : Array MapEntry) (vs' : VA) (hNk : NumOK kx k vs.v v') (hN : NumOK x 0 vs.a a') (kb mv ma mf sg : Nat) (r n cap : Nat) (wS : World) (hB : MadeS wT 91 kb mv ma mf sg wS (.slice (some ⟨r, 0, none⟩) n cap) K ⟨v', a'⟩ vs') (w : World) (h : MkV wT w kb mv ma mf sg vs) (hO : Only (fun q => q = mv ∨ q = ma) wS w) :
    Calls Tryz.prog 209 #[.pointer (some ⟨kb, 0, none⟩), .agg #[.string kx, .int .i64 ka, .string x, .int .i64 a, .slice (some ⟨r, 0, none⟩) n cap]] w fun en w' => ∃ v, en = .returned (.agg #[v]) ∧ InK k K w.heap.size w' v ∧ MkV wT w' kb mv ma mf sg vs' ∧ Only (fun q => q = mv ∨ q = ma) w w' := by
  have hmf := hmfT
  have hsf := hsfT
  have hsn := hsnT
  have hml := heap_lt h.v
  have hkl := heap_lt h.k
  have hal := heap_lt h.a
  have hw0 := h.t.size
  obtain ⟨VS, e0, e1, e2, e3⟩ : ∃ VS : Nat → VA, VS 0 = vs ∧ VS 1 = ⟨v', vs.a⟩ ∧ VS 2 = ⟨v', a'⟩ ∧ VS 3 = vs' := ⟨fun | 0 => vs | 1 => ⟨v', vs.a⟩ | 2 => ⟨v', a'⟩ | _ => vs', rfl, rfl, rfl, rfl⟩
  have HR1 := hide (fun W (hW : MkV wT W kb mv ma mf sg (VS 0)) => vark_made kb mv ma mf sg kx k vs v' hNk ka W (e0 ▸ hW))
  have HR2 := hide (fun W (hW : MkV wT W kb mv ma mf sg (VS 1)) => arrk_made kb mv ma mf sg x 0 ⟨v', vs.a⟩ a' hN a W (e1 ▸ hW))
  have HR3 := hide (fun W (hW : MkV wT W kb mv ma mf sg (VS 2)) (hO : Only (fun q => q = mv ∨ q = ma) wS W) => hB W (e2 ▸ hW) hO)
  have HE0 := hide (show MkV wT w kb mv ma mf sg (VS 0) from e0 ▸ h)
  have HE1 := hide e1
  have HE2 := hide e2
  have HE3 := hide e3
  have HOS := hide hO
  have HKp := hide hK
  clear h hB hO hK e0 e1 e2 e3
  go_enter Tryz.func209, Tryz.ntmps209
  go_wp2_with fail
  have n0 : ((w.alloc (.cells #[.string kx, .int .i64 ka, .string x, .int .i64 a, .slice (some ⟨r, 0, none⟩) n cap] 298)).alloc (.cells #[.nilFunc] 185)).drew.cell? ⟨w.heap.size, 0, none⟩ = some (.string kx) := past (cell_of (new0 w _) rfl) _
  have n1 : ((w.alloc (.cells #[.string kx, .int .i64 ka, .string x, .int .i64 a, .slice (some ⟨r, 0, none⟩) n cap] 298)).alloc (.cells #[.nilFunc] 185)).drew.cell? ⟨w.heap.size, 1, none⟩ = some (.int .i64 ka) := past (cell_of (new0 w _) rfl) _
  have n2 : ((w.alloc (.cells #[.string kx, .int .i64 ka, .string x, .int .i64 a, .slice (some ⟨r, 0, none⟩) n cap] 298)).alloc (.cells #[.nilFunc] 185)).drew.cell? ⟨w.heap.size, 2, none⟩ = some (.string x) := past (cell_of (new0 w _) rfl) _
  have n3 : ((w.alloc (.cells #[.string kx, .int .i64 ka, .string x, .int .i64 a, .slice (some ⟨r, 0, none⟩) n cap] 298)).alloc (.cells #[.nilFunc] 185)).drew.cell? ⟨w.heap.size, 3, none⟩ = some (.int .i64 a) := past (cell_of (new0 w _) rfl) _
  have n4 : ((w.alloc (.cells #[.string kx, .int .i64 ka, .string x, .int .i64 a, .slice (some ⟨r, 0, none⟩) n cap] 298)).alloc (.cells #[.nilFunc] 185)).drew.cell? ⟨w.heap.size, 4, none⟩ = some (.slice (some ⟨r, 0, none⟩) n cap) := past (cell_of (new0 w _) rfl) _
  go_cut [5, 6, 7] (fun s5 s6 s7 wc => ∃ kq ab bb x1 y1 z z2, s5 = .pointer (some ⟨kq, 0, none⟩) ∧ s6 = .pointer (some ⟨ab, 0, none⟩) ∧ s7 = .pointer (some ⟨bb, 0, none⟩) ∧ (w.heap.size + 1 < kq ∧ w.heap.size + 1 < ab ∧ w.heap.size + 1 < bb) ∧ wc.heap[kq]? = some (.cells #[x1, y1] 338 (0, 0)) ∧ wc.heap[ab]? = some (.cells #[z] 430 (0, 0)) ∧ wc.heap[bb]? = some (.cells #[z2] 185 (0, 0)) ∧ VarK k (w.heap.size + 1 + 1) wc (.agg #[x1, y1]) ∧ ArrK 0 (w.heap.size + 1 + 1) wc (.agg #[z]) ∧ K (w.heap.size + 1 + 1) wc z2 ∧ MkV wT wc kb mv ma mf sg vs' ∧ wc.heap[w.heap.size + 1]? = some (.cells #[.nilFunc] 185 (0, 0)) ∧ Only (fun q => q = mv ∨ q = ma) w wc)
  case first =>
    have hw1 : w.heap.size < ((w.alloc (.cells #[.string kx, .int .i64 ka, .string x, .int .i64 a, .slice (some ⟨r, 0, none⟩) n cap] 298)).alloc (.cells #[.nilFunc] 185)).drew.heap.size := by simp <;> omega
    have hw2 : ¬ (w.heap.size = mv ∨ w.heap.size = ma) := by omega
    have hDb : ∀ q, (q = mv ∨ q = ma) → q < (w.heap.size + 1 + 1) := fun q e => by omega
    have hz0 : (w.heap.size + 1 + 1) ≤ ((w.alloc (.cells #[.string kx, .int .i64 ka, .string x, .int .i64 a, .slice (some ⟨r, 0, none⟩) n cap] 298)).alloc (.cells #[.nilFunc] 185)).drew.heap.size := by simp
    refine wp_region_held_drew (S := fun W => W.cell? ⟨w.heap.size, 0, none⟩ = some (.string kx) ∧ W.cell? ⟨w.heap.size, 1, none⟩ = some (.int .i64 ka) ∧ W.cell? ⟨w.heap.size, 2, none⟩ = some (.string x) ∧ W.cell? ⟨w.heap.size, 3, none⟩ = some (.int .i64 a) ∧ W.cell? ⟨w.heap.size, 4, none⟩ = some (.slice (some ⟨r, 0, none⟩) n cap)) (by kernel_rfl) ⟨n0, n1, n2, n3, n4⟩ (fun hHeld => ?_)
    refine wpAnyH_take (i := 0) (v := ?_) rfl (by kernel_rfl) (by kernel_rfl) (by kernel_rfl) (fun _ _ _ h => h) (Or.inl ⟨by rfl, ?_⟩) (by assumption) ?_; rotate_left; (focus (intro w hSw; (try dsimp only at hSw); go_simp; (try with_reducible rfl))); (try simp only [Act.put, List.getElem_toArray, List.getElem_cons_zero, List.getElem_cons_succ, List.setIfInBounds_toArray, List.set_cons_zero, List.set_cons_succ])
    refine wpAnyH_take (i := 1) (v := ?_) rfl (by kernel_rfl) (by kernel_rfl) (by kernel_rfl) (fun _ _ _ h => h) (Or.inl ⟨by rfl, ?_⟩) (by assumption) ?_; rotate_left; (focus (intro w hSw; (try dsimp only at hSw); go_simp; (try with_reducible rfl))); (try simp only [Act.put, List.getElem_toArray, List.getElem_cons_zero, List.getElem_cons_succ, List.setIfInBounds_toArray, List.set_cons_zero, List.set_cons_succ])
    refine wpAnyH_take (i := 2) (v := ?_) rfl (by kernel_rfl) (by kernel_rfl) (by kernel_rfl) (fun _ _ _ h => h) (Or.inl ⟨by rfl, ?_⟩) (by assumption) ?_; rotate_left; (focus (intro w hSw; (try dsimp only at hSw); go_simp; (try with_reducible rfl))); (try simp only [Act.put, List.getElem_toArray, List.getElem_cons_zero, List.getElem_cons_succ, List.setIfInBounds_toArray, List.set_cons_zero, List.set_cons_succ])
    refine wpAnyH_take (i := 4) (v := ?_) rfl (by kernel_rfl) (by kernel_rfl) (by kernel_rfl) (fun _ _ _ h => h) (Or.inl ⟨by rfl, ?_⟩) (by assumption) ?_; rotate_left; (focus (intro w hSw; (try dsimp only at hSw); go_simp; (try with_reducible rfl))); (try simp only [Act.put, List.getElem_toArray, List.getElem_cons_zero, List.getElem_cons_succ, List.setIfInBounds_toArray, List.set_cons_zero, List.set_cons_succ])
    refine wpAnyH_take (i := 5) (v := ?_) rfl (by kernel_rfl) (by kernel_rfl) (by kernel_rfl) (fun _ _ _ h => h) (Or.inl ⟨by rfl, ?_⟩) (by assumption) ?_; rotate_left; (focus (intro w hSw; (try dsimp only at hSw); go_simp; (try with_reducible rfl))); (try simp only [Act.put, List.getElem_toArray, List.getElem_cons_zero, List.getElem_cons_succ, List.setIfInBounds_toArray, List.set_cons_zero, List.set_cons_succ])
    refine wpAnyH_take (i := 6) (v := ?_) rfl (by kernel_rfl) (by kernel_rfl) (by kernel_rfl) (fun _ _ _ h => h) (Or.inl ⟨by rfl, ?_⟩) (by assumption) ?_; rotate_left; (focus (intro w hSw; (try dsimp only at hSw); go_simp; (try with_reducible rfl))); (try simp only [Act.put, List.getElem_toArray, List.getElem_cons_zero, List.getElem_cons_succ, List.setIfInBounds_toArray, List.set_cons_zero, List.set_cons_succ])
    refine wpAnyH_take (i := 8) (v := ?_) rfl (by kernel_rfl) (by kernel_rfl) (by kernel_rfl) (fun _ _ _ h => h) (Or.inl ⟨by rfl, ?_⟩) (by assumption) ?_; rotate_left; (focus (intro w hSw; (try dsimp only at hSw); go_simp; (try with_reducible rfl))); (try simp only [Act.put, List.getElem_toArray, List.getElem_cons_zero, List.getElem_cons_succ, List.setIfInBounds_toArray, List.set_cons_zero, List.set_cons_succ])
    refine wpAnyH_take (i := 9) (v := ?_) rfl (by kernel_rfl) (by kernel_rfl) (by kernel_rfl) (fun _ _ _ h => h) (Or.inl ⟨by rfl, ?_⟩) (by assumption) ?_; rotate_left; (focus (intro w hSw; (try dsimp only at hSw); go_simp; (try with_reducible rfl))); (try simp only [Act.put, List.getElem_toArray, List.getElem_cons_zero, List.getElem_cons_succ, List.setIfInBounds_toArray, List.set_cons_zero, List.set_cons_succ])
    refine wpAnyH_take (i := 10) (v := ?_) rfl (by kernel_rfl) (by kernel_rfl) (by kernel_rfl) (fun _ _ _ h => h) (Or.inl ⟨by rfl, ?_⟩) (by assumption) ?_; rotate_left; (focus (intro w hSw; (try dsimp only at hSw); go_simp; (try with_reducible rfl))); (try simp only [Act.put, List.getElem_toArray, List.getElem_cons_zero, List.getElem_cons_succ, List.setIfInBounds_toArray, List.set_cons_zero, List.set_cons_succ])
    refine boxes3_go (fun c m1 m2 m3 => #[true, true, true, decide (0 < c), true, true, true, decide (1 < c), true, true, true, decide (2 < c), m1, m2, m3, false, false, false]) (fun c => 3 + 4 * c) 12 13 14 3 _ _ _ _ (fun c m1 m2 m3 A W => ∃ x1 x2 x3 p1 p2 p3, A = ⟨#[.pointer (some ⟨kb, 0, none⟩), .agg #[.string kx, .int .i64 ka, .string x, .int .i64 a, .slice (some ⟨r, 0, none⟩) n cap], undef, .pointer (some ⟨w.heap.size, 0, none⟩), .pointer (some ⟨w.heap.size + 1, 0, none⟩), p1, p2, p3, .pointer (some ⟨kb, 0, none⟩), .pointer (some ⟨w.heap.size, 0, none⟩), .agg #[.string kx, .int .i64 ka], x1, .pointer (some ⟨kb, 0, none⟩), .pointer (some ⟨w.heap.size, 2, none⟩), .agg #[.string x, .int .i64 a], x2, .pointer (some ⟨kb, 0, none⟩), .pointer (some ⟨w.heap.size, 4, none⟩), .slice (some ⟨r, 0, none⟩) n cap, x3, undef, undef], []⟩ ∧ BoxAt (w.heap.size + 1 + 1) #[.nilFunc, .nilFunc] 338 m1 W p1 ∧ BoxAt (w.heap.size + 1 + 1) #[.nilFunc] 430 m2 W p2 ∧ BoxAt (w.heap.size + 1 + 1) #[.nilFunc] 185 m3 W p3 ∧ (0 < c → ResAt (w.heap.size + 1 + 1) (fun W v => VarK k (w.heap.size + 1 + 1) W v) m1 m2 m3 p1 p2 p3 W x1) ∧ (1 < c → ResAt (w.heap.size + 1 + 1) (fun W v => ArrK 0 (w.heap.size + 1 + 1) W v) m1 m2 m3 p1 p2 p3 W x2) ∧ (2 < c → ResAt (w.heap.size + 1 + 1) (fun W v => ∃ z2, v = .agg #[z2] ∧ K (w.heap.size + 1 + 1) W z2) m1 m2 m3 p1 p2 p3 W x3) ∧ MkV wT W kb mv ma mf sg (VS c) ∧ Only (fun q => q = mv ∨ q = ma) ((w.alloc (.cells #[.string kx, .int .i64 ka, .string x, .int .i64 a, .slice (some ⟨r, 0, none⟩) n cap] 298)).alloc (.cells #[.nilFunc] 185)).drew W) rfl (by kernel_rfl) ?hr ?hsc ?hs1 ?hs2 ?hs3 ?hI ?hc ?h1 ?h2 ?h3 ?he
    case hr =>
      intro c m1 m2 m3 hc
      have hcc : c = 0 ∨ c = 1 ∨ c = 2 ∨ c = 3 := by omega
      rcases hcc with rfl | rfl | rfl | rfl <;> cases m1 <;> cases m2 <;> cases m3 <;> first | exact Or.inr ⟨rfl, rfl, rfl, rfl⟩ | exact Or.inl (by kernel_rfl)
    case hsc =>
      intro c m1 m2 m3 hc
      have hcc : c = 0 ∨ c = 1 ∨ c = 2 := by omega
      rcases hcc with rfl | rfl | rfl <;> rfl
    case hs1 => exact fun c m2 m3 _ => rfl
    case hs2 => exact fun c m1 m3 _ => rfl
    case hs3 => exact fun c m1 m2 _ => rfl
    case hI => exact ⟨undef, undef, undef, undef, undef, undef, rfl, BoxAt.no, BoxAt.no, BoxAt.no, fun h => absurd h (by omega), fun h => absurd h (by omega), fun h => absurd h (by omega), MkV.drewV ((HE0.out.allocV _).allocV _), Only.refl _ _⟩
    case hc =>
      intro c m1 m2 m3 A W hc
      rintro ⟨x1, x2, x3, p1, p2, p3, rfl, b1, b2, b3, r1, r2, r3, hk, ho⟩
      have hcc : c = 0 ∨ c = 1 ∨ c = 2 := by omega
      have hbw : (w.heap.size + 1 + 1) ≤ W.heap.size := Nat.le_trans hz0 ho.size
      rcases hcc with rfl | rfl | rfl
      · refine wpOp_step rfl (fun J hJ => ?_)
        have HJ := Shut.mk' hJ
        clear hJ
        go_simp
        go_at_call 218
        refine (HR1.out W hk).mono ?_
        rintro en w2 ⟨v, rfl, hv, hk2, ho2⟩
        refine HJ.out _ _ ⟨?_, v, x2, x3, p1, p2, p3, rfl, b1.keep ho2 hDb, b2.keep ho2 hDb, b3.keep ho2 hDb, fun _ => ?_, fun h => absurd h (by omega), fun h => absurd h (by omega), HE1.out ▸ hk2, ho.trans ho2 (fun _ _ e => e)⟩
        · have HOo := ho.trans ho2 (fun _ _ e => e)
          exact ⟨(HOo.cell (p := ⟨w.heap.size, 0, none⟩) hw1 hw2).trans n0, (HOo.cell (p := ⟨w.heap.size, 1, none⟩) hw1 hw2).trans n1, (HOo.cell (p := ⟨w.heap.size, 2, none⟩) hw1 hw2).trans n2, (HOo.cell (p := ⟨w.heap.size, 3, none⟩) hw1 hw2).trans n3, (HOo.cell (p := ⟨w.heap.size, 4, none⟩) hw1 hw2).trans n4⟩
        · exact ResAt.made (W := W) (fun w'' h => vark_down (vark_keep hv h) hbw) hbw b1 b2 b3
      · refine wpOp_step rfl (fun J hJ => ?_)
        have HJ := Shut.mk' hJ
        clear hJ
        go_simp
        go_at_call 277
        refine (HR2.out W hk).mono ?_
        rintro en w2 ⟨v, rfl, hv, hk2, ho2⟩
        refine HJ.out _ _ ⟨?_, x1, v, x3, p1, p2, p3, rfl, b1.keep ho2 hDb, b2.keep ho2 hDb, b3.keep ho2 hDb, fun _ => (r1 (by omega)).keep ho2 hDb, fun _ => ?_, fun h => absurd h (by omega), HE2.out ▸ hk2, ho.trans ho2 (fun _ _ e => e)⟩
        · have HOo := ho.trans ho2 (fun _ _ e => e)
          exact ⟨(HOo.cell (p := ⟨w.heap.size, 0, none⟩) hw1 hw2).trans n0, (HOo.cell (p := ⟨w.heap.size, 1, none⟩) hw1 hw2).trans n1, (HOo.cell (p := ⟨w.heap.size, 2, none⟩) hw1 hw2).trans n2, (HOo.cell (p := ⟨w.heap.size, 3, none⟩) hw1 hw2).trans n3, (HOo.cell (p := ⟨w.heap.size, 4, none⟩) hw1 hw2).trans n4⟩
        · exact ResAt.made (W := W) (fun w'' h => arrK_down (arrK_keep hv h) hbw) hbw b1 b2 b3
      · refine wpOp_step rfl (fun J hJ => ?_)
        have HJ := Shut.mk' hJ
        clear hJ
        go_simp
        go_at_call 91
        have hOw : Only (fun q => q = mv ∨ q = ma) wS W := HOS.out.trans ((toDrew (((Only.refl (fun q => q = mv ∨ q = ma) w).alloc _).alloc _)).trans ho (fun _ _ e => e)) (fun _ _ e => e)
        refine (HR3.out W hk hOw).mono ?_
        rintro en w2 ⟨v, rfl, hv, hk2, ho2⟩
        refine HJ.out _ _ ⟨?_, x1, x2, .agg #[v], p1, p2, p3, rfl, b1.keep ho2 hDb, b2.keep ho2 hDb, b3.keep ho2 hDb, fun _ => (r1 (by omega)).keep ho2 hDb, fun _ => (r2 (by omega)).keep ho2 hDb, fun _ => ?_, HE3.out ▸ hk2, ho.trans ho2 (fun _ _ e => e)⟩
        · have HOo := ho.trans ho2 (fun _ _ e => e)
          exact ⟨(HOo.cell (p := ⟨w.heap.size, 0, none⟩) hw1 hw2).trans n0, (HOo.cell (p := ⟨w.heap.size, 1, none⟩) hw1 hw2).trans n1, (HOo.cell (p := ⟨w.heap.size, 2, none⟩) hw1 hw2).trans n2, (HOo.cell (p := ⟨w.heap.size, 3, none⟩) hw1 hw2).trans n3, (HOo.cell (p := ⟨w.heap.size, 4, none⟩) hw1 hw2).trans n4⟩
        · exact ResAt.made (W := W) (fun w'' h => ⟨v, rfl, HKp.out.down _ _ _ _ (HKp.out.keep _ _ _ _ hv h) hbw⟩) hbw b1 b2 b3
    case h1 =>
      intro c m2 m3 A W hc
      rintro ⟨x1, x2, x3, p1, p2, p3, rfl, b1, b2, b3, r1, r2, r3, hk, ho⟩
      have hbw : (w.heap.size + 1 + 1) ≤ W.heap.size := Nat.le_trans hz0 ho.size
      refine wpOp_step rfl (fun J hJ => ?_)
      have HJ := Shut.mk' hJ
      clear hJ
      go_simp
      refine HJ.out _ _ ⟨?_, x1, x2, x3, _, p2, p3, rfl, BoxAt.new hbw, b2.alloc _, b3.alloc _, fun h => (r1 h).box1 _, fun h => (r2 h).box1 _, fun h => (r3 h).box1 _, hk.allocV _, ho.alloc _⟩
      have HOo := ho.alloc (.cells #[.nilFunc, .nilFunc] 338)
      exact ⟨(HOo.cell (p := ⟨w.heap.size, 0, none⟩) hw1 hw2).trans n0, (HOo.cell (p := ⟨w.heap.size, 1, none⟩) hw1 hw2).trans n1, (HOo.cell (p := ⟨w.heap.size, 2, none⟩) hw1 hw2).trans n2, (HOo.cell (p := ⟨w.heap.size, 3, none⟩) hw1 hw2).trans n3, (HOo.cell (p := ⟨w.heap.size, 4, none⟩) hw1 hw2).trans n4⟩
    case h2 =>
      intro c m1 m3 A W hc
      rintro ⟨x1, x2, x3, p1, p2, p3, rfl, b1, b2, b3, r1, r2, r3, hk, ho⟩
      have hbw : (w.heap.size + 1 + 1) ≤ W.heap.size := Nat.le_trans hz0 ho.size
      refine wpOp_step rfl (fun J hJ => ?_)
      have HJ := Shut.mk' hJ
      clear hJ
      go_simp
      refine HJ.out _ _ ⟨?_, x1, x2, x3, p1, _, p3, rfl, b1.alloc _, BoxAt.new hbw, b3.alloc _, fun h => (r1 h).box2 _, fun h => (r2 h).box2 _, fun h => (r3 h).box2 _, hk.allocV _, ho.alloc _⟩
      have HOo := ho.alloc (.cells #[.nilFunc] 430)
      exact ⟨(HOo.cell (p := ⟨w.heap.size, 0, none⟩) hw1 hw2).trans n0, (HOo.cell (p := ⟨w.heap.size, 1, none⟩) hw1 hw2).trans n1, (HOo.cell (p := ⟨w.heap.size, 2, none⟩) hw1 hw2).trans n2, (HOo.cell (p := ⟨w.heap.size, 3, none⟩) hw1 hw2).trans n3, (HOo.cell (p := ⟨w.heap.size, 4, none⟩) hw1 hw2).trans n4⟩
    case h3 =>
      intro c m1 m2 A W hc
      rintro ⟨x1, x2, x3, p1, p2, p3, rfl, b1, b2, b3, r1, r2, r3, hk, ho⟩
      have hbw : (w.heap.size + 1 + 1) ≤ W.heap.size := Nat.le_trans hz0 ho.size
      refine wpOp_step rfl (fun J hJ => ?_)
      have HJ := Shut.mk' hJ
      clear hJ
      go_simp
      refine HJ.out _ _ ⟨?_, x1, x2, x3, p1, p2, _, rfl, b1.alloc _, b2.alloc _, BoxAt.new hbw, fun h => (r1 h).box3 _, fun h => (r2 h).box3 _, fun h => (r3 h).box3 _, hk.allocV _, ho.alloc _⟩
      have HOo := ho.alloc (.cells #[.nilFunc] 185)
      exact ⟨(HOo.cell (p := ⟨w.heap.size, 0, none⟩) hw1 hw2).trans n0, (HOo.cell (p := ⟨w.heap.size, 1, none⟩) hw1 hw2).trans n1, (HOo.cell (p := ⟨w.heap.size, 2, none⟩) hw1 hw2).trans n2, (HOo.cell (p := ⟨w.heap.size, 3, none⟩) hw1 hw2).trans n3, (HOo.cell (p := ⟨w.heap.size, 4, none⟩) hw1 hw2).trans n4⟩
    case he =>
      intro A W
      rintro ⟨x1, x2, x3, p1, p2, p3, rfl, b1, b2, b3, r1, r2, r3, hk, ho⟩
      obtain ⟨q1, rfl, l1, h1⟩ := b1 rfl
      obtain ⟨q2, rfl, l2, h2⟩ := b2 rfl
      obtain ⟨q3, rfl, l3, h3⟩ := b3 rfl
      have R1 := r1 (by omega)
      have R2 := r2 (by omega)
      have R3 := r3 (by omega)
      obtain ⟨u1, y1, rfl, hu1, hy1⟩ := (vark_keeps k).shape _ _ _ R1.now
      have hA2 := R2.now
      unfold ArrK at hA2
      obtain ⟨nb, rfl, _, _⟩ := hA2
      obtain ⟨z2, rfl, hz2⟩ := R3.now
      obtain ⟨F, fc, rfl⟩ := HKp.out.isF _ _ _ hz2
      have d12 : q1 ≠ q2 := fun e => by rw [e, h2] at h1; cases h1
      have d13 : q1 ≠ q3 := fun e => by rw [e, h3] at h1; cases h1
      have d23 : q2 ≠ q3 := fun e => by rw [e, h3] at h2; cases h2
      have g1 := heap_lt h1
      have g2 := heap_lt h2
      have g3 := heap_lt h3
      have c10 := cell_of (o := 0) h1 rfl
      have c11 := cell_of (o := 1) h1 rfl
      have c20 := cell_of (o := 0) h2 rfl
      have c30 := cell_of (o := 0) h3 rfl
      have f1 := free_of h1
      have f2 := free_of h2
      have f3 := free_of h3
      have d21 := Ne.symm d12
      have d31 := Ne.symm d13
      have d32 := Ne.symm d23
      have s1 : ∀ (a : Addr) (W : World), (store a u1).run Tryz.prog W = stored Tryz.prog W a u1 .plain := fun a W => run_store _ W a _ _ hu1
      have s2 : ∀ (a : Addr) (W : World), (store a y1).run Tryz.prog W = stored Tryz.prog W a y1 .plain := fun a W => run_store _ W a _ _ hy1
      have H1 := hide h1
      have H2 := hide h2
      have H3 := hide h3
      have HR1 := hide R1
      have HR2 := hide R2
      have HR3 := hide R3
      have HKk := hide hk
      have HO := hide ho
      have t0 := (ho.cell (p := ⟨w.heap.size, 0, none⟩) hw1 hw2).trans n0
      have t1 := (ho.cell (p := ⟨w.heap.size, 1, none⟩) hw1 hw2).trans n1
      have t2 := (ho.cell (p := ⟨w.heap.size, 2, none⟩) hw1 hw2).trans n2
      have t3 := (ho.cell (p := ⟨w.heap.size, 3, none⟩) hw1 hw2).trans n3
      have t4 := (ho.cell (p := ⟨w.heap.size, 4, none⟩) hw1 hw2).trans n4
      clear h1 h2 h3 R1 R2 R3 r1 r2 r3 b1 b2 b3 hk ho hz2
      refine wpAnyH_ready (rs := [15]) (by kernel_rfl) (by simp) (AllReadyH.cons rfl (fun J hJ => ?_) AllReadyH.nil)
      go_simp
      refine hJ.out _ _ ?_ (fun hHeld => ?_)
      · (repeat (first | (with_reducible assumption) | ((with_reducible refine farC ?_ ?_); (rotate_left; focus (simp <;> omega))) | (with_reducible refine And.intro ?_ ?_)))
      clear hJ J
      (try simp only [Act.put, List.getElem_toArray, List.getElem_cons_zero, List.getElem_cons_succ, List.setIfInBounds_toArray, List.set_cons_zero, List.set_cons_succ])
      refine wpAnyH_ready (rs := [16]) (by kernel_rfl) (by simp) (AllReadyH.cons rfl (fun J hJ => ?_) AllReadyH.nil)
      go_simp
      refine hJ.out _ _ ?_ (fun hHeld => ?_)
      · (repeat (first | (with_reducible assumption) | ((with_reducible refine farC ?_ ?_); (rotate_left; focus (simp <;> omega))) | (with_reducible refine And.intro ?_ ?_)))
      clear hJ J
      (try simp only [Act.put, List.getElem_toArray, List.getElem_cons_zero, List.getElem_cons_succ, List.setIfInBounds_toArray, List.set_cons_zero, List.set_cons_succ])
      refine wpAnyH_ready (rs := [17]) (by kernel_rfl) (by simp) (AllReadyH.cons rfl (fun J hJ => ?_) AllReadyH.nil)
      go_simp
      refine hJ.out _ _ ?_ (fun hHeld => ?_)
      · (repeat (first | (with_reducible assumption) | ((with_reducible refine farC ?_ ?_); (rotate_left; focus (simp <;> omega))) | (with_reducible refine And.intro ?_ ?_)))
      clear hJ J
      (try simp only [Act.put, List.getElem_toArray, List.getElem_cons_zero, List.getElem_cons_succ, List.setIfInBounds_toArray, List.set_cons_zero, List.set_cons_succ])
      refine wpAnyH_done (by kernel_rfl) ?_ _
      go_wp2_with fail
      go_meet
      have hA : Only (fun q => q = q1 ∨ q = q2 ∨ q = q3) W ((((W.setCell ⟨q1, 0, none⟩ u1).setCell ⟨q1, 1, none⟩ y1).setCell ⟨q2, 0, none⟩ (.func (.func 371) #[] #[.pointer (some ⟨nb, 0, none⟩)])).setCell ⟨q3, 0, none⟩ (.func (.func F) #[] fc)) := ((((Only.refl _ W).setCell (p := ⟨q1, 0, none⟩) (fun _ => Or.inl rfl) _).setCell (p := ⟨q1, 1, none⟩) (fun _ => Or.inl rfl) _).setCell (p := ⟨q2, 0, none⟩) (fun _ => Or.inr (Or.inl rfl)) _).setCell (p := ⟨q3, 0, none⟩) (fun _ => Or.inr (Or.inr rfl)) _
      obtain ⟨z2, e2, hKz⟩ := HR3.out.end hA
      obtain rfl : Value.func (.func F) #[] fc = z2 := by injection e2 with e2; injection e2 with e2; injection e2
      refine ⟨q1, q2, q3, u1, y1, _, _, rfl, rfl, rfl, ⟨by omega, by omega, by omega⟩, ?_, ?_, ?_, HR1.out.end hA, HR2.out.end hA, hKz, ?_, ?_, ?_⟩
      · exact (Below.heap_setCell _ _ _ _ d13).trans ((Below.heap_setCell _ _ _ _ d12).trans (setP2 H1.out _ _))
      · exact (Below.heap_setCell _ _ _ _ d23).trans (setP1 ((Below.heap_setCell _ _ _ _ d21).trans ((Below.heap_setCell _ _ _ _ d21).trans H2.out)) _)
      · exact setP1 ((Below.heap_setCell _ _ _ _ d32).trans ((Below.heap_setCell _ _ _ _ d31).trans ((Below.heap_setCell _ _ _ _ d31).trans H3.out))) _
      · exact (((((HE3.out ▸ HKk.out : MkV wT W kb mv ma mf sg vs').setV _ _ _ (by omega) (by omega) (by omega) (by omega)).setV _ _ _ (by omega) (by omega) (by omega) (by omega)).setV _ _ _ (by omega) (by omega) (by omega) (by omega)).setV _ _ _ (by omega) (by omega) (by omega) (by omega))
      · exact (hA.block _ (Nat.lt_of_lt_of_le (by simp) HO.out.size) (by omega)).trans ((HO.out.block _ (by simp) (by omega)).trans (heapD (new_at2 (by simp) _)))
      · exact ((toDrew (((Only.refl (fun q => q = mv ∨ q = ma) w).alloc _).alloc _)).trans HO.out (fun _ _ e => e)).trans hA (fun q hq e => absurd hq (by omega))
  case rest =>
    obtain ⟨kq, ab, bb, x1, y1, z, z2, rfl, rfl, rfl, ⟨l1, l2, l3⟩, h1, h2, h3, h4, h5, h6, h7, h8, ho⟩ := hcut
    have r0 : wc.cell? ⟨w.heap.size + 1, 0, none⟩ = some .nilFunc := cell_of h8 rfl
    have rf := free_of h8
    have rl := heap_lt h8
    have H1 := hide h1
    have H2 := hide h2
    have H3 := hide h3
    have H4 := hide h4
    have H5 := hide h5
    have H6 := hide h6
    have H7 := hide h7
    have HO := hide ho
    clear h1 h2 h3 h4 h5 h6 h7 h8 ho HR1 HR2 HR3 HOS HE0 HE1 HE2 HE3 n0 n1 n2 n3 n4
    go_wp2
    have hF : Only (fun q => q = w.heap.size + 1) wc (wc.setCell ⟨w.heap.size + 1, 0, none⟩ (.func (.func 278) #[] #[.pointer (some ⟨ab, 0, none⟩), .pointer (some ⟨kq, 0, none⟩), .pointer (some ⟨bb, 0, none⟩)])) := (Only.refl (fun q => q = w.heap.size + 1) wc).setCell (p := ⟨w.heap.size + 1, 0, none⟩) (fun _ => rfl) _
    refine bodyPost_ret (v := .agg #[.func (.func 278) #[] #[.pointer (some ⟨ab, 0, none⟩), .pointer (some ⟨kq, 0, none⟩), .pointer (some ⟨bb, 0, none⟩)]]) (by simp [results, Tryz.results209, go_sem, r0]) rfl ⟨_, rfl, ⟨ab, kq, bb, x1, y1, z, z2, rfl, ⟨by omega, by omega, by omega⟩, (hF.block ab (heap_lt H2.out) (by omega)).trans H2.out, (hF.block kq (heap_lt H1.out) (by omega)).trans H1.out, (hF.block bb (heap_lt H3.out) (by omega)).trans H3.out, arrK_down (arrK_keep H5.out (hF.mono (fun i _ e => by omega))) (by omega), vark_down (vark_keep H4.out (hF.mono (fun i _ e => by omega))) (by omega), HKp.out.down _ _ _ _ (HKp.out.keep _ _ _ _ H6.out (hF.mono (fun i _ e => by omega))) (by omega)⟩, H7.out.far hF (by omega) (by omega) (by omega) (by omega), ?_⟩
    exact HO.out.trans hF (fun i hi e => absurd hi (by omega))
theorem made_forIn (kx : ByteArray) (ka k : Nat) (x : ByteArray) (a : Nat) (K : Nat → World → Value → Prop) (hK : Keeps K) (vs : VA) (v' a' : Array MapEntry) (vs' : VA) (hNk : NumOK kx k vs.v v') (hN : NumOK x 0 vs.a a') (kb mv ma mf sg : Nat) (r n cap : Nat) (wS : World) (hB : MadeS wT 91 kb mv ma mf sg wS (.slice (some ⟨r, 0, none⟩) n cap) K ⟨v', a'⟩ vs') : MadeS wT 161 kb mv ma mf sg wS (.iface 298 (.agg #[.string kx, .int .i64 ka, .string x, .int .i64 a, .slice (some ⟨r, 0, none⟩) n cap])) (InK k K) vs vs' :=
  counted_in (InK k K) (inK_keeps hK) kx ka x a (some ⟨r, 0, none⟩) n cap vs vs' kb mv ma mf sg wS (fun W hW hO => keyLoop_made kx ka k x a K hK vs v' a' vs' hNk hN kb mv ma mf sg r n cap wS hB W hW hO)
end Go.Proofs.YtdbdbaepmdmnfaaGreatDoor

