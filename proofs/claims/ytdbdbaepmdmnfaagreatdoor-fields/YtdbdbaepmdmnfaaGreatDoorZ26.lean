import Derived.Test.YtdbdbaepmdmnfaaGreatDoorZ25
namespace Go.Proofs.YtdbdbaepmdmnfaaGreatDoor
open Go.RowKit
set_option maxRecDepth 20000 in
set_option maxHeartbeats 4000000 in
theorem bin_le (t1 t2 : TypeId) (u1 u2 : Value) (I J : Nat → World → Value → Prop) (hI : KeepsE I) (hJ : KeepsE J) (vs vs1 vs2 : Array MapEntry) (hE : MakesE (.iface t1 u1) I vs vs1) (hE2 : MakesE (.iface t2 u2) J vs1 vs2) (kb mv ma mf sg : Nat) (w : World) (h : MkV w kb mv ma mf sg vs) :
    Calls Tryz.prog 224 #[.pointer (some ⟨kb, 0, none⟩), .agg #[.iface t1 u1, .string ⟨#[60, 61]⟩, .iface t2 u2]] w fun en w' => ∃ v, en = .returned v ∧ LeK I J w.heap.size w' v ∧ MkV w' kb mv ma mf sg vs2 ∧ Only (fun q => q = mv) w w' := by
  have hmf := hmfT
  have hsf := hsfT
  have hsn := hsnT
  have hml := heap_lt h.v
  have hkl := heap_lt h.k
  have hal := heap_lt h.a
  have HR := hide (fun W (hW : Only (fun _ => False) w W) => cmpk_made t1 t2 u1 u2 I J hI hJ vs vs1 vs2 hE hE2 kb mv ma mf sg W (h.calm hW))
  clear h hE hE2
  go_enter Tryz.func224, Tryz.ntmps224
  go_wp2_with fail
  refine (HR.out _ ((onlyA w _).alloc _)).mono ?_
  rintro en w2 ⟨v, rfl, hv, hk, ho⟩
  obtain ⟨x1, y1, rfl, hx1, hy1⟩ := (lek_keeps hI hJ).shape _ _ _ hv
  have hb := (ho.block (w.heap.size + 1) (by simp) (by omega)).trans (new_at2 (W := w.alloc (.cells #[.iface t1 u1, .string ⟨#[60, 61]⟩, .iface t2 u2] 316)) (by simp) (.cells #[.nilFunc, .nilFunc] 338))
  have r0 : w2.cell? ⟨w.heap.size + 1, 0, none⟩ = some .nilFunc := cell_of hb rfl
  have r1 : w2.cell? ⟨w.heap.size + 1, 1, none⟩ = some .nilFunc := cell_of hb rfl
  have rf := free_of hb
  have rl := heap_lt hb
  have s1 : ∀ (a : Addr) (W : World), (store a x1).run Tryz.prog W = stored Tryz.prog W a x1 .plain := fun a W => run_store _ W a _ _ hx1
  have s2 : ∀ (a : Addr) (W : World), (store a y1).run Tryz.prog W = stored Tryz.prog W a y1 .plain := fun a W => run_store _ W a _ _ hy1
  have HV := hide hv
  have HK := hide hk
  have HO := hide ho
  clear hv ho hb HR hk
  go_wp2
  have hF : Only (fun q => q = w.heap.size + 1) w2 ((w2.setCell ⟨w.heap.size + 1, 0, none⟩ x1).setCell ⟨w.heap.size + 1, 1, none⟩ y1) := ((Only.refl (fun q => q = w.heap.size + 1) w2).setCell (p := ⟨w.heap.size + 1, 0, none⟩) (fun _ => rfl) _).setCell (p := ⟨w.heap.size + 1, 1, none⟩) (fun _ => rfl) _
  refine bodyPost_ret (v := .agg #[x1, y1]) (by simp [results, Tryz.results224, go_sem, r0, r1]) rfl ⟨_, rfl, (lek_keeps hI hJ).down _ _ _ _ ((lek_keeps hI hJ).keep _ _ _ _ HV.out (hF.mono (fun i _ e => by rw [e]; simp))) (by simp; omega), HK.out.far hF (by omega) (by omega) (by omega), ?_⟩
  exact only_box ((onlyA w _).alloc _) HO.out hF (by omega)
theorem makesE_le (t1 t2 : TypeId) (u1 u2 : Value) (I J : Nat → World → Value → Prop) (hI : KeepsE I) (hJ : KeepsE J) (vs vs1 vs2 : Array MapEntry) (hE : MakesE (.iface t1 u1) I vs vs1) (hE2 : MakesE (.iface t2 u2) J vs1 vs2) : MakesE (binT (.iface t1 u1) ⟨#[60, 61]⟩ (.iface t2 u2)) (LeK I J) vs vs2 :=
  mkx_bin t1 t2 u1 u2 ⟨#[60, 61]⟩ (LeK I J) (lek_keeps hI hJ) vs vs2 (fun kb mv ma mf sg W h => bin_le t1 t2 u1 u2 I J hI hJ vs vs1 vs2 hE hE2 kb mv ma mf sg W h)
end Go.Proofs.YtdbdbaepmdmnfaaGreatDoor

