import Derived.Test.YtdbdbaepmdmnfaaGreatDoorZ22
namespace Go.Proofs.YtdbdbaepmdmnfaaGreatDoor
open Go.RowKit
variable {wT : World}
/-- A made store: into what I tells, of what J tells. -/
def JoinK (I J : Nat → World → Value → Prop) (B : Nat) (w : World) (v : Value) : Prop := ∃ lb rb x1 y1 x2 y2, v = .agg #[.func (.func 346) #[] #[.pointer (some ⟨lb, 0, none⟩), .pointer (some ⟨rb, 0, none⟩)], .nilFunc] ∧ (B ≤ lb ∧ B ≤ rb) ∧ w.heap[lb]? = some (.cells #[x1, y1] 338 (0, 0)) ∧ w.heap[rb]? = some (.cells #[x2, y2] 338 (0, 0)) ∧ I B w (.agg #[x1, y1]) ∧ J B w (.agg #[x2, y2])
theorem joink_keeps {I J : Nat → World → Value → Prop} (hI : KeepsE I) (hJ : KeepsE J) : KeepsE (JoinK I J) where
  shape := fun _ _ _ ⟨_, _, _, _, _, _, e, _⟩ => ⟨_, _, e, rfl, rfl⟩
  keep := fun B w w' v ⟨lb, rb, x1, y1, x2, y2, e, ⟨k2, k4⟩, h2, h4, h5, h6⟩ ho => ⟨lb, rb, x1, y1, x2, y2, e, ⟨k2, k4⟩, (ho.block lb (heap_lt h2) (by omega)).trans h2, (ho.block rb (heap_lt h4) (by omega)).trans h4, hI.keep _ _ _ _ h5 ho, hJ.keep _ _ _ _ h6 ho⟩
  down := fun A B w v ⟨lb, rb, x1, y1, x2, y2, e, ⟨k2, k4⟩, h2, h4, h5, h6⟩ hA => ⟨lb, rb, x1, y1, x2, y2, e, ⟨by omega, by omega⟩, h2, h4, hI.down _ _ _ _ h5 hA, hJ.down _ _ _ _ h6 hA⟩
set_option maxRecDepth 20000 in
set_option maxHeartbeats 16000000 in
theorem joink_made (t1 t2 : TypeId) (u1 u2 : Value) (I J : Nat → World → Value → Prop) (hI : KeepsE I) (hJ : KeepsE J) (vs vs1 vs2 : VA) (hE : MakesE wT (.iface t1 u1) I vs vs1) (hE2 : MakesE wT (.iface t2 u2) J vs1 vs2) (kb mv ma mf sg : Nat) (w : World) (h : MkV wT w kb mv ma mf sg vs) :
    Calls Tryz.prog 225 #[.pointer (some ⟨kb, 0, none⟩), .agg #[.iface t1 u1, .iface t2 u2]] w fun en w' => ∃ v, en = .returned v ∧ JoinK I J w.heap.size w' v ∧ MkV wT w' kb mv ma mf sg vs2 ∧ Only (fun q => q = mv ∨ q = ma) w w' := by
  have hmf := hmfT
  have hsf := hsfT
  have hsn := hsnT
  have hml := heap_lt h.v
  have hkl := heap_lt h.k
  have hal := heap_lt h.a
  have hw0 := h.t.size
  have HR := hide (fun W (hW : Only (fun _ => False) w W) => hE kb mv ma mf sg W (h.calm hW))
  have HR2 := hide (hE2 kb mv ma mf sg)
  clear h hE hE2
  go_enter Tryz.func225, Tryz.ntmps225
  go_wp2_with fail
  have n1 : ((w.alloc (.cells #[.iface t1 u1, .iface t2 u2] 319)).alloc (.cells #[.nilFunc, .nilFunc] 338)).drew.cell? ⟨w.heap.size, 0, none⟩ = some (.iface t1 u1) := past (cell_of (new0 w _) rfl) _
  have n0 : ((w.alloc (.cells #[.iface t1 u1, .iface t2 u2] 319)).alloc (.cells #[.nilFunc, .nilFunc] 338)).drew.cell? ⟨w.heap.size, 1, none⟩ = some (.iface t2 u2) := past (cell_of (new0 w _) rfl) _
  have m1 : ((w.alloc (.cells #[.iface t1 u1, .iface t2 u2] 319)).alloc (.cells #[.nilFunc, .nilFunc] 338)).cell? ⟨w.heap.size, 0, none⟩ = some (.iface t1 u1) := past (cell_of (new0 w _) rfl) _
  have m0 : ((w.alloc (.cells #[.iface t1 u1, .iface t2 u2] 319)).alloc (.cells #[.nilFunc, .nilFunc] 338)).cell? ⟨w.heap.size, 1, none⟩ = some (.iface t2 u2) := past (cell_of (new0 w _) rfl) _
  go_cut [5, 6] (fun s5 s6 wc => ∃ lb rb x1 y1 x2 y2, s5 = .pointer (some ⟨lb, 0, none⟩) ∧ s6 = .pointer (some ⟨rb, 0, none⟩) ∧ (w.heap.size + 1 < lb ∧ w.heap.size + 1 < rb) ∧ wc.heap[lb]? = some (.cells #[x1, y1] 338 (0, 0)) ∧ wc.heap[rb]? = some (.cells #[x2, y2] 338 (0, 0)) ∧ I (w.heap.size + 1 + 1) wc (.agg #[x1, y1]) ∧ J (w.heap.size + 1 + 1) wc (.agg #[x2, y2]) ∧ MkV wT wc kb mv ma mf sg vs2 ∧ wc.heap[w.heap.size]? = some (.cells #[.iface t1 u1, .iface t2 u2] 319 (0, 0)) ∧ wc.heap[w.heap.size + 1]? = some (.cells #[.nilFunc, .nilFunc] 338 (0, 0)) ∧ Only (fun q => q = mv ∨ q = ma) w wc)
  case first =>
    go_region_held3 (fun W => W.cell? ⟨w.heap.size, 0, none⟩ = some (.iface t1 u1) ∧ W.cell? ⟨w.heap.size, 1, none⟩ = some (.iface t2 u2)) (repeat (first | (with_reducible assumption) | (with_reducible refine past ?_ _) | (with_reducible refine pastD ?_ _) | ((with_reducible refine farC ?_ ?_); (rotate_left; focus (simp <;> omega))) | (with_reducible refine And.intro ?_ ?_)))
      (first | (go_at_call 163; with_reducible show Calls Tryz.prog 163 #[.pointer (some ⟨kb, 0, none⟩), .iface t1 u1] _ _; refine (HR.out _ (by repeat (first | with_reducible exact Only.refl _ _ | with_reducible refine Only.alloc ?_ _ | with_reducible refine toDrew ?_))).mono ?_; rintro en w2 ⟨v, rfl, hv, hk, ho⟩; obtain ⟨x1, y1, rfl, hx1, hy1⟩ := hI.shape _ _ _ hv; have hz := ho.size; have hzz : w.heap.size + 1 + 1 ≤ w2.heap.size := Nat.le_trans (by first | exact Nat.le_refl _ | omega | (simp; done) | (simp; omega)) hz; have qa0 : w2.cell? ⟨w.heap.size, 0, none⟩ = some (.iface t1 u1) := (ho.cell (p := ⟨w.heap.size, 0, none⟩) (by show w.heap.size < _; first | omega | (simp; done) | (simp; omega)) (by show ¬ (w.heap.size = mv ∨ w.heap.size = ma); omega)).trans (by repeat (first | (with_reducible assumption) | (with_reducible refine past ?_ _) | (with_reducible refine pastD ?_ _))); have qa2 : w2.cell? ⟨w.heap.size, 1, none⟩ = some (.iface t2 u2) := (ho.cell (p := ⟨w.heap.size, 1, none⟩) (by show w.heap.size < _; first | omega | (simp; done) | (simp; omega)) (by show ¬ (w.heap.size = mv ∨ w.heap.size = ma); omega)).trans (by repeat (first | (with_reducible assumption) | (with_reducible refine past ?_ _) | (with_reducible refine pastD ?_ _))); (try (refine lay (P := w2.heap[w.heap.size + 1 + 1]? = some (.cells #[.nilFunc, .nilFunc] 338 (0, 0))) ?_ (fun bA => ?_); (focus (refine (ho.block _ ?_ ?_).trans ?_; (focus (first | omega | (simp; done) | (simp; omega))); (focus (show ¬ (w.heap.size + 1 + 1 = mv ∨ w.heap.size + 1 + 1 = ma); omega)); (repeat (first | ((with_reducible refine new_at2D ?_ _); focus (simp; done)) | ((with_reducible refine (heap_allocD _ _ ?_).trans ?_); (focus (first | omega | (simp; done) | (simp; omega)))) | ((with_reducible refine new_at2 ?_ _); focus (simp; done)) | ((with_reducible refine (Below.heap_alloc _ _ _ ?_).trans ?_); (focus (first | omega | (simp; done) | (simp; omega)))))); done)); have bAa := cell_of (o := 0) bA rfl; have bAb := cell_of (o := 1) bA rfl; have bAf := free_of bA; have bAl := heap_lt bA; have HbA := hide bA; clear bA)); (try (refine lay (P := w2.heap[w.heap.size + 1 + 1 + 1]? = some (.cells #[.nilFunc, .nilFunc] 338 (0, 0))) ?_ (fun bB => ?_); (focus (refine (ho.block _ ?_ ?_).trans ?_; (focus (first | omega | (simp; done) | (simp; omega))); (focus (show ¬ (w.heap.size + 1 + 1 + 1 = mv ∨ w.heap.size + 1 + 1 + 1 = ma); omega)); (repeat (first | ((with_reducible refine new_at2D ?_ _); focus (simp; done)) | ((with_reducible refine (heap_allocD _ _ ?_).trans ?_); (focus (first | omega | (simp; done) | (simp; omega)))) | ((with_reducible refine new_at2 ?_ _); focus (simp; done)) | ((with_reducible refine (Below.heap_alloc _ _ _ ?_).trans ?_); (focus (first | omega | (simp; done) | (simp; omega)))))); done)); have bBa := cell_of (o := 0) bB rfl; have bBb := cell_of (o := 1) bB rfl; have bBf := free_of bB; have bBl := heap_lt bB; have HbB := hide bB; clear bB)); have s1 : ∀ (a : Addr) (W : World), (store a x1).run Tryz.prog W = stored Tryz.prog W a x1 .plain := fun a W => run_store _ W a _ _ hx1; have s2 : ∀ (a : Addr) (W : World), (store a y1).run Tryz.prog W = stored Tryz.prog W a y1 .plain := fun a W => run_store _ W a _ _ hy1; have HX1 : Hid (w2.heap[w.heap.size]? = some (.cells #[.iface t1 u1, .iface t2 u2] 319 (0, 0))) := hide ((ho.block (w.heap.size) (by first | omega | (simp; done) | (simp; omega)) (by show ¬ (w.heap.size = mv ∨ w.heap.size = ma); omega)).trans (by (repeat (first | ((with_reducible refine new_at2D ?_ _); focus (simp; done)) | ((with_reducible refine (heap_allocD _ _ ?_).trans ?_); (focus (first | omega | (simp; done) | (simp; omega)))) | ((with_reducible refine new_at2 ?_ _); focus (simp; done)) | ((with_reducible refine (Below.heap_alloc _ _ _ ?_).trans ?_); (focus (first | omega | (simp; done) | (simp; omega)))))))); have HY1 : Hid (w2.heap[w.heap.size + 1]? = some (.cells #[.nilFunc, .nilFunc] 338 (0, 0))) := hide ((ho.block (w.heap.size + 1) (by first | omega | (simp; done) | (simp; omega)) (by show ¬ (w.heap.size + 1 = mv ∨ w.heap.size + 1 = ma); omega)).trans (by (repeat (first | ((with_reducible refine new_at2D ?_ _); focus (simp; done)) | ((with_reducible refine (heap_allocD _ _ ?_).trans ?_); (focus (first | omega | (simp; done) | (simp; omega)))) | ((with_reducible refine new_at2 ?_ _); focus (simp; done)) | ((with_reducible refine (Below.heap_alloc _ _ _ ?_).trans ?_); (focus (first | omega | (simp; done) | (simp; omega)))))))); obtain ⟨B1, hv, hB1⟩ := lower hv; (try simp at hB1); have HV := hide hv; have HK := hide hk; have HO : Hid (Only (fun q => q = mv ∨ q = ma) w w2) := hide (Only.trans (by repeat (first | with_reducible exact Only.refl _ _ | with_reducible refine Only.alloc ?_ _ | with_reducible refine toDrew ?_)) ho (fun _ _ e => e)); clear hv hk ho hz) | (go_at_call 163; with_reducible show Calls Tryz.prog 163 #[.pointer (some ⟨kb, 0, none⟩), .iface t2 u2] _ _; refine (HR2.out _ (by repeat (first | (with_reducible exact HK.out) | (with_reducible refine MkV.allocV ?_ _) | (with_reducible refine MkV.drewV ?_)))).mono ?_; rintro en w3 ⟨v, rfl, hv, hk, ho⟩; obtain ⟨x2, y2, rfl, hx2, hy2⟩ := hJ.shape _ _ _ hv; have hz := ho.size; have hzz2 : w2.heap.size ≤ w3.heap.size := Nat.le_trans (by first | exact Nat.le_refl _ | omega | (simp; done) | (simp; omega)) hz; have qb0 : w3.cell? ⟨w.heap.size, 0, none⟩ = some (.iface t1 u1) := (ho.cell (p := ⟨w.heap.size, 0, none⟩) (by show w.heap.size < _; first | omega | (simp; done) | (simp; omega)) (by show ¬ (w.heap.size = mv ∨ w.heap.size = ma); omega)).trans (by repeat (first | (with_reducible assumption) | (with_reducible refine past ?_ _) | (with_reducible refine pastD ?_ _))); have qb2 : w3.cell? ⟨w.heap.size, 1, none⟩ = some (.iface t2 u2) := (ho.cell (p := ⟨w.heap.size, 1, none⟩) (by show w.heap.size < _; first | omega | (simp; done) | (simp; omega)) (by show ¬ (w.heap.size = mv ∨ w.heap.size = ma); omega)).trans (by repeat (first | (with_reducible assumption) | (with_reducible refine past ?_ _) | (with_reducible refine pastD ?_ _))); (try (refine lay (P := w3.heap[w.heap.size + 1 + 1]? = some (.cells #[.nilFunc, .nilFunc] 338 (0, 0))) ?_ (fun bC => ?_); (focus (refine (ho.block _ ?_ ?_).trans ?_; (focus (first | omega | (simp; done) | (simp; omega))); (focus (show ¬ (w.heap.size + 1 + 1 = mv ∨ w.heap.size + 1 + 1 = ma); omega)); (repeat (first | ((with_reducible refine new_at2D ?_ _); focus (simp; done)) | ((with_reducible refine (heap_allocD _ _ ?_).trans ?_); (focus (first | omega | (simp; done) | (simp; omega)))) | ((with_reducible refine new_at2 ?_ _); focus (simp; done)) | ((with_reducible refine (Below.heap_alloc _ _ _ ?_).trans ?_); (focus (first | omega | (simp; done) | (simp; omega)))) | (with_reducible exact HbA.out) | (with_reducible exact HbB.out))); done)); have bCa := cell_of (o := 0) bC rfl; have bCb := cell_of (o := 1) bC rfl; have bCf := free_of bC; have bCl := heap_lt bC; have HbC := hide bC; clear bC)); (try (refine lay (P := w3.heap[w.heap.size + 1 + 1 + 1]? = some (.cells #[.nilFunc, .nilFunc] 338 (0, 0))) ?_ (fun bD => ?_); (focus (refine (ho.block _ ?_ ?_).trans ?_; (focus (first | omega | (simp; done) | (simp; omega))); (focus (show ¬ (w.heap.size + 1 + 1 + 1 = mv ∨ w.heap.size + 1 + 1 + 1 = ma); omega)); (repeat (first | ((with_reducible refine new_at2D ?_ _); focus (simp; done)) | ((with_reducible refine (heap_allocD _ _ ?_).trans ?_); (focus (first | omega | (simp; done) | (simp; omega)))) | ((with_reducible refine new_at2 ?_ _); focus (simp; done)) | ((with_reducible refine (Below.heap_alloc _ _ _ ?_).trans ?_); (focus (first | omega | (simp; done) | (simp; omega)))) | (with_reducible exact HbA.out) | (with_reducible exact HbB.out))); done)); have bDa := cell_of (o := 0) bD rfl; have bDb := cell_of (o := 1) bD rfl; have bDf := free_of bD; have bDl := heap_lt bD; have HbD := hide bD; clear bD)); (try (refine lay (P := w3.heap[w2.heap.size]? = some (.cells #[.nilFunc, .nilFunc] 338 (0, 0))) ?_ (fun bE => ?_); (focus (refine (ho.block _ ?_ ?_).trans ?_; (focus (first | omega | (simp; done) | (simp; omega))); (focus (show ¬ (w2.heap.size = mv ∨ w2.heap.size = ma); omega)); (repeat (first | ((with_reducible refine new_at2D ?_ _); focus (simp; done)) | ((with_reducible refine (heap_allocD _ _ ?_).trans ?_); (focus (first | omega | (simp; done) | (simp; omega)))) | ((with_reducible refine new_at2 ?_ _); focus (simp; done)) | ((with_reducible refine (Below.heap_alloc _ _ _ ?_).trans ?_); (focus (first | omega | (simp; done) | (simp; omega)))) | (with_reducible exact HbA.out) | (with_reducible exact HbB.out))); done)); have bEa := cell_of (o := 0) bE rfl; have bEb := cell_of (o := 1) bE rfl; have bEf := free_of bE; have bEl := heap_lt bE; have HbE := hide bE; clear bE)); (try (refine lay (P := w3.heap[w2.heap.size + 1]? = some (.cells #[.nilFunc, .nilFunc] 338 (0, 0))) ?_ (fun bF => ?_); (focus (refine (ho.block _ ?_ ?_).trans ?_; (focus (first | omega | (simp; done) | (simp; omega))); (focus (show ¬ (w2.heap.size + 1 = mv ∨ w2.heap.size + 1 = ma); omega)); (repeat (first | ((with_reducible refine new_at2D ?_ _); focus (simp; done)) | ((with_reducible refine (heap_allocD _ _ ?_).trans ?_); (focus (first | omega | (simp; done) | (simp; omega)))) | ((with_reducible refine new_at2 ?_ _); focus (simp; done)) | ((with_reducible refine (Below.heap_alloc _ _ _ ?_).trans ?_); (focus (first | omega | (simp; done) | (simp; omega)))) | (with_reducible exact HbA.out) | (with_reducible exact HbB.out))); done)); have bFa := cell_of (o := 0) bF rfl; have bFb := cell_of (o := 1) bF rfl; have bFf := free_of bF; have bFl := heap_lt bF; have HbF := hide bF; clear bF)); have s3 : ∀ (a : Addr) (W : World), (store a x2).run Tryz.prog W = stored Tryz.prog W a x2 .plain := fun a W => run_store _ W a _ _ hx2; have s4 : ∀ (a : Addr) (W : World), (store a y2).run Tryz.prog W = stored Tryz.prog W a y2 .plain := fun a W => run_store _ W a _ _ hy2; have HX2 : Hid (w3.heap[w.heap.size]? = some (.cells #[.iface t1 u1, .iface t2 u2] 319 (0, 0))) := hide ((ho.block (w.heap.size) (by first | omega | (simp; done) | (simp; omega)) (by show ¬ (w.heap.size = mv ∨ w.heap.size = ma); omega)).trans (by (repeat (first | ((with_reducible refine new_at2D ?_ _); focus (simp; done)) | ((with_reducible refine (heap_allocD _ _ ?_).trans ?_); (focus (first | omega | (simp; done) | (simp; omega)))) | ((with_reducible refine new_at2 ?_ _); focus (simp; done)) | ((with_reducible refine (Below.heap_alloc _ _ _ ?_).trans ?_); (focus (first | omega | (simp; done) | (simp; omega)))) | (with_reducible exact HX1.out) | (with_reducible exact HY1.out))))); have HY2 : Hid (w3.heap[w.heap.size + 1]? = some (.cells #[.nilFunc, .nilFunc] 338 (0, 0))) := hide ((ho.block (w.heap.size + 1) (by first | omega | (simp; done) | (simp; omega)) (by show ¬ (w.heap.size + 1 = mv ∨ w.heap.size + 1 = ma); omega)).trans (by (repeat (first | ((with_reducible refine new_at2D ?_ _); focus (simp; done)) | ((with_reducible refine (heap_allocD _ _ ?_).trans ?_); (focus (first | omega | (simp; done) | (simp; omega)))) | ((with_reducible refine new_at2 ?_ _); focus (simp; done)) | ((with_reducible refine (Below.heap_alloc _ _ _ ?_).trans ?_); (focus (first | omega | (simp; done) | (simp; omega)))) | (with_reducible exact HX1.out) | (with_reducible exact HY1.out))))); obtain ⟨B2, hv, hB2⟩ := lower hv; (try simp at hB2); have HV2 := hide hv; have HK2 := hide hk; have HO2 : Hid (Only (fun q => q = mv ∨ q = ma) w2 w3) := hide (Only.trans (by repeat (first | with_reducible exact Only.refl _ _ | with_reducible refine Only.alloc ?_ _ | with_reducible refine toDrew ?_)) ho (fun _ _ e => e)); clear hv hk ho hz))
    all_goals
      go_wp2_with fail
      go_meet
      refine ⟨_, _, x1, y1, x2, y2, rfl, rfl, ⟨by omega, by omega⟩, ?_, ?_, ?_, ?_, ?_, ?_, ?_, ?_⟩
      · (repeat (first | (with_reducible exact HX2.out) | (with_reducible exact HY2.out) | (with_reducible exact HbC.out) | (with_reducible exact HbD.out) | (with_reducible exact HbE.out) | (with_reducible exact HbF.out) | (with_reducible refine setP2 (p := .nilFunc) (q := .nilFunc) ?_ _ _) | ((with_reducible refine (Below.heap_setCell _ _ _ _ ?_).trans ?_); (focus (first | (dsimp only; omega) | (simp; omega)))) | ((with_reducible refine new_at2 ?_ _); focus (first | rfl | (simp; done))) | ((with_reducible refine (Below.heap_alloc _ _ _ ?_).trans ?_); (focus (first | omega | (simp; done) | (simp; omega))))))
      · (repeat (first | (with_reducible exact HX2.out) | (with_reducible exact HY2.out) | (with_reducible exact HbC.out) | (with_reducible exact HbD.out) | (with_reducible exact HbE.out) | (with_reducible exact HbF.out) | (with_reducible refine setP2 (p := .nilFunc) (q := .nilFunc) ?_ _ _) | ((with_reducible refine (Below.heap_setCell _ _ _ _ ?_).trans ?_); (focus (first | (dsimp only; omega) | (simp; omega)))) | ((with_reducible refine new_at2 ?_ _); focus (first | rfl | (simp; done))) | ((with_reducible refine (Below.heap_alloc _ _ _ ?_).trans ?_); (focus (first | omega | (simp; done) | (simp; omega))))))
      · refine hI.down _ _ _ _ (hI.keep _ _ _ _ HV.out ?_) (by omega)
        exact Only.trans (HO2.out.mono (fun _ _ e => by omega)) (by repeat (first | (with_reducible exact Only.refl _ _) | (with_reducible refine Only.alloc ?_ _) | ((with_reducible refine Only.setCell ?_ ?_ _); (rotate_left; focus (dsimp only; intro h; omega)))) : Only (fun q => q < B1 ∨ w2.heap.size ≤ q) w3 _) (fun i hi e => by omega)
      · refine hJ.down _ _ _ _ (hJ.keep _ _ _ _ HV2.out ?_) (by omega)
        exact (by repeat (first | (with_reducible exact Only.refl _ _) | (with_reducible refine Only.alloc ?_ _) | ((with_reducible refine Only.setCell ?_ ?_ _); (rotate_left; focus (dsimp only; intro h; omega)))))
      · exact (by repeat (first | (with_reducible exact HK2.out) | (with_reducible refine MkV.allocV ?_ _) | ((with_reducible refine MkV.setV ?_ _ _ _ ?_ ?_ ?_ ?_); (rotate_left; (focus omega); (focus omega); (focus omega); (focus omega)))))
      · (repeat (first | (with_reducible exact HX2.out) | (with_reducible exact HY2.out) | (with_reducible exact HbC.out) | (with_reducible exact HbD.out) | (with_reducible exact HbE.out) | (with_reducible exact HbF.out) | (with_reducible refine setP2 (p := .nilFunc) (q := .nilFunc) ?_ _ _) | ((with_reducible refine (Below.heap_setCell _ _ _ _ ?_).trans ?_); (focus (first | (dsimp only; omega) | (simp; omega)))) | ((with_reducible refine new_at2 ?_ _); focus (first | rfl | (simp; done))) | ((with_reducible refine (Below.heap_alloc _ _ _ ?_).trans ?_); (focus (first | omega | (simp; done) | (simp; omega))))))
      · (repeat (first | (with_reducible exact HX2.out) | (with_reducible exact HY2.out) | (with_reducible exact HbC.out) | (with_reducible exact HbD.out) | (with_reducible exact HbE.out) | (with_reducible exact HbF.out) | (with_reducible refine setP2 (p := .nilFunc) (q := .nilFunc) ?_ _ _) | ((with_reducible refine (Below.heap_setCell _ _ _ _ ?_).trans ?_); (focus (first | (dsimp only; omega) | (simp; omega)))) | ((with_reducible refine new_at2 ?_ _); focus (first | rfl | (simp; done))) | ((with_reducible refine (Below.heap_alloc _ _ _ ?_).trans ?_); (focus (first | omega | (simp; done) | (simp; omega))))))
      · exact Only.trans (HO.out.trans HO2.out (fun _ _ e => e)) (by repeat (first | (with_reducible exact Only.refl _ _) | (with_reducible refine Only.alloc ?_ _) | ((with_reducible refine Only.setCell ?_ ?_ _); (rotate_left; focus (dsimp only; intro h; omega)))) : Only (fun q => w.heap.size ≤ q) w3 _) (fun i hi e => by omega)
  case rest =>
    obtain ⟨lb, rb, x1, y1, x2, y2, rfl, rfl, ⟨hl1, hl2⟩, h1, h2, h3, h4, h5, h6, h7, ho⟩ := hcut
    have rl := heap_lt h7
    have H1 := hide h1
    have H2 := hide h2
    have H3 := hide h3
    have H4 := hide h4
    have H5 := hide h5
    have H7 := hide h7
    have HO := hide ho
    have hzc := ho.size
    have r0 : wc.cell? ⟨w.heap.size + 1, 0, none⟩ = some .nilFunc := cell_of h7 rfl
    have r1 : wc.cell? ⟨w.heap.size + 1, 1, none⟩ = some .nilFunc := cell_of h7 rfl
    have rf := free_of h7
    clear h1 h2 h3 h4 h5 h6 h7 ho HR HR2 n0 n1 m0 m1
    go_wp2_with fail
    have hF : Only (fun q => q = w.heap.size + 1) wc ((wc.setCell ⟨w.heap.size + 1, 0, none⟩ (.func (.func 346) #[] #[.pointer (some ⟨lb, 0, none⟩), .pointer (some ⟨rb, 0, none⟩)])).setCell ⟨w.heap.size + 1, 1, none⟩ .nilFunc) := ((Only.refl (fun q => q = w.heap.size + 1) wc).setCell (p := ⟨w.heap.size + 1, 0, none⟩) (fun _ => rfl) _).setCell (p := ⟨w.heap.size + 1, 1, none⟩) (fun _ => rfl) _
    have f1 := (hF.block lb (heap_lt H1.out) (by omega)).trans H1.out
    have f2 := (hF.block rb (heap_lt H2.out) (by omega)).trans H2.out
    have f5 : I w.heap.size ((wc.setCell ⟨w.heap.size + 1, 0, none⟩ (.func (.func 346) #[] #[.pointer (some ⟨lb, 0, none⟩), .pointer (some ⟨rb, 0, none⟩)])).setCell ⟨w.heap.size + 1, 1, none⟩ .nilFunc) (.agg #[x1, y1]) := hI.down _ _ _ _ (hI.keep _ _ _ _ H3.out (hF.mono (fun i _ e => by omega))) (by omega)
    have f6 : J w.heap.size ((wc.setCell ⟨w.heap.size + 1, 0, none⟩ (.func (.func 346) #[] #[.pointer (some ⟨lb, 0, none⟩), .pointer (some ⟨rb, 0, none⟩)])).setCell ⟨w.heap.size + 1, 1, none⟩ .nilFunc) (.agg #[x2, y2]) := hJ.down _ _ _ _ (hJ.keep _ _ _ _ H4.out (hF.mono (fun i _ e => by omega))) (by omega)
    refine bodyPost_ret (v := .agg #[.func (.func 346) #[] #[.pointer (some ⟨lb, 0, none⟩), .pointer (some ⟨rb, 0, none⟩)], .nilFunc]) (by simp [results, Tryz.results225, go_sem, r0, r1]) rfl ⟨_, rfl, ⟨lb, rb, x1, y1, x2, y2, rfl, ⟨by omega, by omega⟩, f1, f2, f5, f6⟩, H5.out.far hF (by omega) (by omega) (by omega) (by omega), ?_⟩
    exact HO.out.trans hF (fun i hi e => absurd hi (by omega))
set_option maxRecDepth 20000 in
set_option maxHeartbeats 4000000 in
theorem mkx_join (t1 t2 : TypeId) (u1 u2 : Value) (I : Nat → World → Value → Prop) (hI : KeepsE I) (vs vs' : VA) (hM : ∀ kb mv ma mf sg W, MkV wT W kb mv ma mf sg vs → Calls Tryz.prog 225 #[.pointer (some ⟨kb, 0, none⟩), (.agg #[.iface t1 u1, .iface t2 u2])] W fun en w' => ∃ v, en = .returned v ∧ I W.heap.size w' v ∧ MkV wT w' kb mv ma mf sg vs' ∧ Only (fun q => q = mv ∨ q = ma) W w') : MakesE wT (.iface 319 (.agg #[.iface t1 u1, .iface t2 u2])) I vs vs' := by
  intro kb mv ma mf sg w h
  have hmf := hmfT
  have hsf := hsfT
  have hsn := hsnT
  have hml := heap_lt h.v
  have hkl := heap_lt h.k
  have hal := heap_lt h.a
  have hw0 := h.t.size
  have e0 : ∀ W, (Instr.typeAssert (.iface 319 (.agg #[.iface t1 u1, .iface t2 u2])) 238 300 true).run Tryz.prog W = .ok (.tuple #[.agg #[.int .i64 0], .bool false]) W := fun W => by kernel_rfl
  have e1 : ∀ W, (Instr.typeAssert (.iface 319 (.agg #[.iface t1 u1, .iface t2 u2])) 238 303 true).run Tryz.prog W = .ok (.tuple #[.agg #[.string ⟨#[]⟩], .bool false]) W := fun W => by kernel_rfl
  have e2 : ∀ W, (Instr.typeAssert (.iface 319 (.agg #[.iface t1 u1, .iface t2 u2])) 238 304 true).run Tryz.prog W = .ok (.tuple #[.agg #[.string ⟨#[]⟩], .bool false]) W := fun W => by kernel_rfl
  have e3 : ∀ W, (Instr.typeAssert (.iface 319 (.agg #[.iface t1 u1, .iface t2 u2])) 238 92 true).run Tryz.prog W = .ok (.tuple #[.agg #[.string ⟨#[]⟩, .int .i64 0], .bool false]) W := fun W => by kernel_rfl
  have e4 : ∀ W, (Instr.typeAssert (.iface 319 (.agg #[.iface t1 u1, .iface t2 u2])) 238 306 true).run Tryz.prog W = .ok (.tuple #[.agg #[.string ⟨#[]⟩, .int .i64 0, .slice none 0 0], .bool false]) W := fun W => by kernel_rfl
  have e5 : ∀ W, (Instr.typeAssert (.iface 319 (.agg #[.iface t1 u1, .iface t2 u2])) 238 309 true).run Tryz.prog W = .ok (.tuple #[.agg #[.nilIface], .bool false]) W := fun W => by kernel_rfl
  have e6 : ∀ W, (Instr.typeAssert (.iface 319 (.agg #[.iface t1 u1, .iface t2 u2])) 238 311 true).run Tryz.prog W = .ok (.tuple #[.agg #[.string ⟨#[]⟩, .int .i64 0, .slice none 0 0], .bool false]) W := fun W => by kernel_rfl
  have e7 : ∀ W, (Instr.typeAssert (.iface 319 (.agg #[.iface t1 u1, .iface t2 u2])) 238 312 true).run Tryz.prog W = .ok (.tuple #[.agg #[.string ⟨#[]⟩, .int .i64 0, .slice none 0 0], .bool false]) W := fun W => by kernel_rfl
  have e8 : ∀ W, (Instr.typeAssert (.iface 319 (.agg #[.iface t1 u1, .iface t2 u2])) 238 314 true).run Tryz.prog W = .ok (.tuple #[.agg #[.string ⟨#[]⟩, .nilIface], .bool false]) W := fun W => by kernel_rfl
  have ez : ∀ W, (Instr.typeAssert (.iface 319 (.agg #[.iface t1 u1, .iface t2 u2])) 238 316 true).run Tryz.prog W = .ok (.tuple #[.agg #[.nilIface, .string ⟨#[]⟩, .nilIface], .bool false]) W := fun W => by kernel_rfl
  have ey : ∀ W, (Instr.typeAssert (.iface 319 (.agg #[.iface t1 u1, .iface t2 u2])) 238 319 true).run Tryz.prog W = .ok (.tuple #[.agg #[.iface t1 u1, .iface t2 u2], .bool true]) W := fun W => by kernel_rfl
  have HR := hide (fun W (hW : Only (fun _ => False) w W) => hM kb mv ma mf sg W (h.calm hW))
  clear h hM
  go_enter Tryz.func163, Tryz.ntmps163
  go_wp2_with fail
  refine (HR.out _ ((onlyA w _).alloc _)).mono ?_
  rintro en w2 ⟨v, rfl, hv, hk, ho⟩
  obtain ⟨x1, y1, rfl, hx1, hy1⟩ := hI.shape _ _ _ hv
  have hb := (ho.block w.heap.size (by simp; omega) (by omega)).trans ((Below.heap_alloc _ _ _ (by simp)).trans (new0 w _))
  have r0 : w2.cell? ⟨w.heap.size, 0, none⟩ = some .nilFunc := cell_of hb rfl
  have r1 : w2.cell? ⟨w.heap.size, 1, none⟩ = some .nilFunc := cell_of hb rfl
  have rf := free_of hb
  have rl := heap_lt hb
  have s1 : ∀ (a : Addr) (W : World), (store a x1).run Tryz.prog W = stored Tryz.prog W a x1 .plain := fun a W => run_store _ W a _ _ hx1
  have s2 : ∀ (a : Addr) (W : World), (store a y1).run Tryz.prog W = stored Tryz.prog W a y1 .plain := fun a W => run_store _ W a _ _ hy1
  have HV := hide hv
  have HK := hide hk
  have HO := hide ho
  clear hv ho hb HR hk
  go_wp2
  have hF : Only (fun q => q = w.heap.size) w2 ((w2.setCell ⟨w.heap.size, 0, none⟩ x1).setCell ⟨w.heap.size, 1, none⟩ y1) := ((Only.refl (fun q => q = w.heap.size) w2).setCell (p := ⟨w.heap.size, 0, none⟩) (fun _ => rfl) _).setCell (p := ⟨w.heap.size, 1, none⟩) (fun _ => rfl) _
  refine bodyPost_ret (v := .agg #[x1, y1]) (by simp [results, Tryz.results163, go_sem, r0, r1]) rfl ⟨_, rfl, hI.down _ _ _ _ (hI.keep _ _ _ _ HV.out (hF.mono (fun i _ e => by rw [e]; simp; omega))) (by simp; omega), HK.out.far hF (by omega) (by omega) (by omega) (by omega), ?_⟩
  exact only_box ((onlyA w _).alloc _) HO.out hF (Nat.le_refl _)
theorem makesE_join (t1 t2 : TypeId) (u1 u2 : Value) (I J : Nat → World → Value → Prop) (hI : KeepsE I) (hJ : KeepsE J) (vs vs1 vs2 : VA) (hE : MakesE wT (.iface t1 u1) I vs vs1) (hE2 : MakesE wT (.iface t2 u2) J vs1 vs2) : MakesE wT (joinT (.iface t1 u1) (.iface t2 u2)) (JoinK I J) vs vs2 :=
  mkx_join t1 t2 u1 u2 (JoinK I J) (joink_keeps hI hJ) vs vs2 (fun kb mv ma mf sg W h => joink_made t1 t2 u1 u2 I J hI hJ vs vs1 vs2 hE hE2 kb mv ma mf sg W h)
end Go.Proofs.YtdbdbaepmdmnfaaGreatDoor

namespace Go.Proofs.YtdbdbaepmdmnfaaGreatDoor
open Go.RowKit
variable {wT : World}
theorem mk252two (W : World) : (Instr.makeSlice 252 (.int .i64 2) (.int .i64 2)).run Tryz.prog W = .ok (.slice (some ⟨W.heap.size, 0, none⟩) 2 2) (W.alloc (.cells #[.nilFunc, .nilFunc, .nilFunc, .nilFunc] 338)) := by kernel_rfl
theorem setP4a {W : World} {b t : Nat} {p q r s : Value} (h : W.heap[b]? = some (.cells #[p, q, r, s] t (0, 0))) (x y : Value) : ((W.setCell ⟨b, 0, none⟩ x).setCell ⟨b, 1, none⟩ y).heap[b]? = some (.cells #[x, y, r, s] t (0, 0)) := heap_setCell_same (heap_setCell_same h x) y
theorem setP4b {W : World} {b t : Nat} {p q r s : Value} (h : W.heap[b]? = some (.cells #[p, q, r, s] t (0, 0))) (x y : Value) : ((W.setCell ⟨b, 2, none⟩ x).setCell ⟨b, 3, none⟩ y).heap[b]? = some (.cells #[p, q, x, y] t (0, 0)) := heap_setCell_same (heap_setCell_same h x) y
set_option maxRecDepth 20000 in
set_option maxHeartbeats 4000000 in
/-- A list of two expressions made. -/
theorem exprs2_made (t t2 : TypeId) (u u2 : Value) (I J : Nat → World → Value → Prop) (hI : KeepsE I) (hJ : KeepsE J) (vs vs1 vs' : VA) (hE : MakesE wT (.iface t u) I vs vs1) (hE2 : MakesE wT (.iface t2 u2) J vs1 vs') (kb mv ma mf sg : Nat) (g cap : Nat) (w : World) (h : MkV wT w kb mv ma mf sg vs) (hg : w.cell? ⟨g, 0, none⟩ = some (.iface t u)) (hg1 : w.cell? ⟨g, 1, none⟩ = some (.iface t2 u2)) (hgn : ¬ (g = mv ∨ g = ma)) :
    Calls Tryz.prog 128 #[.pointer (some ⟨kb, 0, none⟩), .slice (some ⟨g, 0, none⟩) 2 cap] w fun en w' => ∃ x y x' y', en = .returned (.slice (some ⟨w.heap.size, 0, none⟩) 2 2) ∧ w'.heap[w.heap.size]? = some (.cells #[x, y, x', y'] 338 (0, 0)) ∧ I (w.heap.size + 1) w' (.agg #[x, y]) ∧ J (w.heap.size + 1) w' (.agg #[x', y']) ∧ MkV wT w' kb mv ma mf sg vs' ∧ Only (fun q => q = mv ∨ q = ma) w w' := by
  have hm := mk252two
  have hsf := hsfT
  have hgl := World.block_lt_of_cell? w ⟨g, 0, none⟩ hg
  simp only at hgl
  have hml := heap_lt h.v
  have hkl := heap_lt h.k
  have hal := heap_lt h.a
  have hw0 := h.t.size
  have HE := hide (fun W (hW : Only (fun _ => False) w W) => hE kb mv ma mf sg W (h.calm hW))
  have HE2 := hide (hE2 kb mv ma mf sg)
  clear h hE hE2
  go_enter Tryz.func128, Tryz.ntmps128
  go_wp2
  go_loopg [13] 2 (fun gh s13 wr => (gh = 2 ∧ s13 = .int .i64 0 ∧ wr = w.alloc (.cells #[.nilFunc, .nilFunc, .nilFunc, .nilFunc] 338)) ∨ (gh = 1 ∧ s13 = .int .i64 1 ∧ ∃ x y, wr.heap[w.heap.size]? = some (.cells #[x, y, .nilFunc, .nilFunc] 338 (0, 0)) ∧ I (w.heap.size + 1) wr (.agg #[x, y]) ∧ MkV wT wr kb mv ma mf sg vs1 ∧ Only (fun q => q = mv ∨ q = ma) w wr) ∨ (gh = 0 ∧ s13 = .int .i64 2 ∧ ∃ x y x' y', wr.heap[w.heap.size]? = some (.cells #[x, y, x', y'] 338 (0, 0)) ∧ I (w.heap.size + 1) wr (.agg #[x, y]) ∧ J (w.heap.size + 1) wr (.agg #[x', y']) ∧ MkV wT wr kb mv ma mf sg vs' ∧ Only (fun q => q = mv ∨ q = ma) w wr))
  case atStart => exact Or.inl ⟨rfl, rfl, rfl⟩
  case round =>
    rcases hrel with ⟨hgh, rfl, hw⟩ | ⟨hgh, rfl, x, y, h1, h2, h3, h4⟩ | ⟨hgh, rfl, x, y, x', y', h1, h2, h2', h3, h4⟩
    · subst hw
      go_wp2_with (go_at_call 163; refine (HE.out _ (onlyA w _)).mono ?_; rintro en w2 ⟨v, rfl, hv, hk, ho⟩; obtain ⟨x1, y1, rfl, hx1, hy1⟩ := hI.shape _ _ _ hv; have s1 : ∀ (a : Addr) (W : World), (store a x1).run Tryz.prog W = stored Tryz.prog W a x1 .plain := fun a W => run_store _ W a _ _ hx1; have s2 : ∀ (a : Addr) (W : World), (store a y1).run Tryz.prog W = stored Tryz.prog W a y1 .plain := fun a W => run_store _ W a _ _ hy1; have hb := (ho.block w.heap.size (by simp) (by omega)).trans (new0 w _); have r0 : w2.cell? ⟨w.heap.size, 0, none⟩ = some .nilFunc := cell_of hb rfl; have r1 : w2.cell? ⟨w.heap.size, 1, none⟩ = some .nilFunc := cell_of hb rfl; have rf := free_of hb; have rl := heap_lt hb; have HV := hide hv; have HB := hide hb; have HO := hide ho; have HK := hide hk; clear hv hb ho hk)
      have hF : Only (fun q => q = w.heap.size) w2 ((w2.setCell ⟨w.heap.size, 0, none⟩ x1).setCell ⟨w.heap.size, 1, none⟩ y1) := ((Only.refl (fun q => q = w.heap.size) w2).setCell (p := ⟨w.heap.size, 0, none⟩) (fun _ => rfl) _).setCell (p := ⟨w.heap.size, 1, none⟩) (fun _ => rfl) _
      go_roundg 1
      case measure => omega
      case rel => exact Or.inr (Or.inl ⟨rfl, rfl, _, _, setP4a HB.out _ _, hI.down _ _ _ _ (hI.keep _ _ _ _ HV.out (hF.mono (fun i _ e => by rw [e]; simp))) (by simp), HK.out.far hF (by omega) (by omega) (by omega) (by omega), only_box (onlyA w _) HO.out hF (Nat.le_refl _)⟩)
    · have g1 : wr.cell? ⟨g, 1, none⟩ = some (.iface t2 u2) := (h4.cell (p := ⟨g, 1, none⟩) hgl hgn).trans hg1
      have hzr := heap_lt h1
      have HE3 := hide (HE2.out wr h3)
      have H1 := hide h1
      have H2 := hide h2
      have H4 := hide h4
      clear h1 h2 h3 h4
      go_wp2_with (go_at_call 163; refine (HE3.out).mono ?_; rintro en w2 ⟨v, rfl, hv, hk, ho⟩; obtain ⟨x1, y1, rfl, hx1, hy1⟩ := hJ.shape _ _ _ hv; have s1 : ∀ (a : Addr) (W : World), (store a x1).run Tryz.prog W = stored Tryz.prog W a x1 .plain := fun a W => run_store _ W a _ _ hx1; have s2 : ∀ (a : Addr) (W : World), (store a y1).run Tryz.prog W = stored Tryz.prog W a y1 .plain := fun a W => run_store _ W a _ _ hy1; have hb := (ho.block w.heap.size (by omega) (by omega)).trans H1.out; have r0 : w2.cell? ⟨w.heap.size, 2, none⟩ = some .nilFunc := cell_of hb rfl; have r1 : w2.cell? ⟨w.heap.size, 3, none⟩ = some .nilFunc := cell_of hb rfl; have rf := free_of hb; have rl := heap_lt hb; have HV := hide hv; have HB := hide hb; have HO := hide ho; have HK := hide hk; clear hv hb ho hk)
      have hF : Only (fun q => q = w.heap.size) w2 ((w2.setCell ⟨w.heap.size, 2, none⟩ x1).setCell ⟨w.heap.size, 3, none⟩ y1) := ((Only.refl (fun q => q = w.heap.size) w2).setCell (p := ⟨w.heap.size, 2, none⟩) (fun _ => rfl) _).setCell (p := ⟨w.heap.size, 3, none⟩) (fun _ => rfl) _
      go_roundg 0
      case measure => omega
      case rel => exact Or.inr (Or.inr ⟨rfl, rfl, _, _, _, _, setP4b HB.out _ _, hI.keep _ _ _ _ H2.out ((HO.out.mono (fun i _ e => by omega)).trans hF (fun i _ e => by omega)), hJ.down _ _ _ _ (hJ.keep _ _ _ _ HV.out (hF.mono (fun i _ e => by omega))) (by omega), HK.out.far hF (by omega) (by omega) (by omega) (by omega), (H4.out.trans HO.out (fun _ _ e => e)).trans hF (fun i hi e => absurd hi (by omega))⟩)
    · go_wp2
      go_ret
      exact ⟨x, y, x', y', rfl, h1, h2, h2', h3, h4⟩
/-- What prints two expressions. -/
def PrintK2 (I J : Nat → World → Value → Prop) (B : Nat) (w : World) (v : Value) : Prop := ∃ lb eb c g x y x' y' z, v = .func (.func 280) #[] #[.pointer (some ⟨lb, 0, none⟩), .pointer (some ⟨eb, 0, none⟩)] ∧ (B ≤ lb ∧ B ≤ eb ∧ B ≤ c ∧ B ≤ g) ∧ w.heap[lb]? = some (.cells #[.slice (some ⟨g, 0, none⟩) 2 2] 252 (0, 0)) ∧ w.heap[g]? = some (.cells #[x, y, x', y'] 338 (0, 0)) ∧ I B w (.agg #[x, y]) ∧ J B w (.agg #[x', y']) ∧ w.heap[eb]? = some (.cells #[.func (.func 298) #[] #[.pointer (some ⟨c, 0, none⟩)], z] 338 (0, 0)) ∧ w.heap[c]? = some (.cells #[.int .i64 0, .int .i64 0, .string ⟨#[]⟩] 203 (0, 0))
theorem printK2_keeps {I J : Nat → World → Value → Prop} (hI : KeepsE I) (hJ : KeepsE J) : Keeps (PrintK2 I J) where
  isF := fun _ _ _ ⟨_, _, _, _, _, _, _, _, _, e, _⟩ => ⟨_, _, e⟩
  keep := fun B w w' x ⟨lb, eb, c, g, x1, y1, x2, y2, z, e, ⟨k1, k2, k3, k4⟩, h1, h2, h3, h3', h4, h5⟩ ho => ⟨lb, eb, c, g, x1, y1, x2, y2, z, e, ⟨k1, k2, k3, k4⟩, (ho.block lb (heap_lt h1) (by omega)).trans h1, (ho.block g (heap_lt h2) (by omega)).trans h2, hI.keep _ _ _ _ h3 ho, hJ.keep _ _ _ _ h3' ho, (ho.block eb (heap_lt h4) (by omega)).trans h4, (ho.block c (heap_lt h5) (by omega)).trans h5⟩
  down := fun A B w x ⟨lb, eb, c, g, x1, y1, x2, y2, z, e, ⟨k1, k2, k3, k4⟩, h1, h2, h3, h3', h⟩ hA => ⟨lb, eb, c, g, x1, y1, x2, y2, z, e, ⟨by omega, by omega, by omega, by omega⟩, h1, h2, hI.down _ _ _ _ h3 hA, hJ.down _ _ _ _ h3' hA, h⟩
set_option maxRecDepth 20000 in
set_option maxHeartbeats 4000000 in
theorem print2_made (t t2 : TypeId) (u u2 : Value) (I J : Nat → World → Value → Prop) (hI : KeepsE I) (hJ : KeepsE J) (vs vs1 vs' : VA) (hE : MakesE wT (.iface t u) I vs vs1) (hE2 : MakesE wT (.iface t2 u2) J vs1 vs') (kb mv ma mf sg : Nat) (g cap : Nat) (w : World) (h : MkV wT w kb mv ma mf sg vs) (hg : w.cell? ⟨g, 0, none⟩ = some (.iface t u)) (hg1 : w.cell? ⟨g, 1, none⟩ = some (.iface t2 u2)) (hgn : ¬ (g = mv ∨ g = ma)) : Calls Tryz.prog 210 #[.pointer (some ⟨kb, 0, none⟩), .agg #[.slice (some ⟨g, 0, none⟩) 2 cap, .nilIface]] w fun en w' => ∃ v, en = .returned (.agg #[v]) ∧ PrintK2 I J w.heap.size w' v ∧ MkV wT w' kb mv ma mf sg vs' ∧ Only (fun q => q = mv ∨ q = ma) w w' := by
  have hmf := hmfT
  have hsf := hsfT
  have hsn := hsnT
  have hgl := World.block_lt_of_cell? w ⟨g, 0, none⟩ hg
  simp only at hgl
  have hml := heap_lt h.v
  have hkl := heap_lt h.k
  have hal := heap_lt h.a
  have hw0 := h.t.size
  have O2 := (onlyA w (.cells #[.slice (some ⟨g, 0, none⟩) 2 cap, .nilIface] 285)).alloc (.cells #[.nilFunc] 185)
  have HE := hide (exprs2_made t t2 u u2 I J hI hJ vs vs1 vs' hE hE2 kb mv ma mf sg g cap _ (h.calm O2) ((O2.cell (p := ⟨g, 0, none⟩) hgl (fun e => e)).trans hg) ((O2.cell (p := ⟨g, 1, none⟩) hgl (fun e => e)).trans hg1) hgn)
  have HC := hide (exprOr_nil (some ⟨kb, 0, none⟩) 0 0 ⟨#[]⟩)
  have HO2 := hide O2
  have HZ := hide (new0 w (.cells #[.slice (some ⟨g, 0, none⟩) 2 cap, .nilIface] 285))
  clear h O2 hE hE2
  go_enter Tryz.func210, Tryz.ntmps210
  go_wp2_with fail
  refine (HE.out).mono ?_
  rintro en w2 ⟨x, y, x', y', rfl, hb, hv, hv', hk, ho⟩
  simp only [World.size_alloc] at hb hv hv'
  have h0 := (ho.block w.heap.size (by simp; omega) (by omega)).trans ((Below.heap_alloc _ _ _ (by simp)).trans HZ.out)
  have h1 := (ho.block (w.heap.size + 1) (by simp) (by omega)).trans (new_at2 (W := w.alloc (.cells #[.slice (some ⟨g, 0, none⟩) 2 cap, .nilIface] 285)) (by simp) (.cells #[.nilFunc] 185))
  have m1 : w2.cell? ⟨w.heap.size, 1, none⟩ = some .nilIface := cell_of h0 rfl
  have hzz : w.heap.size + 1 + 1 ≤ w2.heap.size := by have := ho.size; simpa using this
  have hl0 : w.heap.size < w2.heap.size := by omega
  have hl1 : w.heap.size + 1 < w2.heap.size := by omega
  have HB := hide hb
  have HV := hide hv
  have HV' := hide hv'
  have H1 := hide h1
  have HO : Hid (Only (fun q => q = mv ∨ q = ma) w w2) := hide ((HO2.out.mono (fun _ _ e => e.elim)).trans ho (fun _ _ e => e))
  have HK := hide hk
  clear hb hv hv' hk h0 h1 ho HE
  go_wp2_with fail
  refine (HC.out _).mono ?_
  rintro en w3 ⟨rfl, hb3, ho3⟩
  simp only [World.size_alloc] at hb3
  have hO3 : Only (fun _ => False) w2 w3 := fromAlloc ho3
  have hz3 : w2.heap.size + 1 ≤ w3.heap.size := by have := ho3.size; simpa using this
  have hr := (hO3.block _ (heap_lt H1.out) (fun e => e)).trans H1.out
  have hl := (ho3.block w2.heap.size (by simp) (fun e => e)).trans (new0 w2 (.cells #[.slice (some ⟨w.heap.size + 1 + 1, 0, none⟩) 2 2] 252))
  have hgb := (hO3.block _ (heap_lt HB.out) (fun e => e)).trans HB.out
  have hvr := hI.keep _ _ _ _ HV.out (hO3.mono (fun _ _ e => e.elim))
  have hvr' := hJ.keep _ _ _ _ HV'.out (hO3.mono (fun _ _ e => e.elim))
  have r0 : w3.cell? ⟨w.heap.size + 1, 0, none⟩ = some .nilFunc := cell_of hr rfl
  have rf := free_of hr
  have hrl := heap_lt hr
  have HB3 := hide hb3
  have HL := hide hl
  have HGB := hide hgb
  have HVR := hide hvr
  have HVR' := hide hvr'
  have HO3 : Hid (Only (fun q => q = mv ∨ q = ma) w w3) := hide (HO.out.trans hO3 (fun _ _ e => e.elim))
  have HK3 := hide (HK.out.calm hO3)
  clear hb3 hr hl hgb hvr hvr' ho3 HC hO3
  go_wp2
  refine bodyPost_ret (v := .agg #[.func (.func 280) #[] #[.pointer (some ⟨w2.heap.size, 0, none⟩), .pointer (some ⟨w3.heap.size, 0, none⟩)]]) (by simp [results, Tryz.results210, go_sem, r0, hrl]) rfl ⟨_, rfl, ⟨w2.heap.size, w3.heap.size, w2.heap.size + 1 + 1 + 1, w.heap.size + 1 + 1, x, y, x', y', .nilFunc, rfl, ⟨by omega, by omega, by omega, by omega⟩, ?_, ?_, ?_, ?_, ?_, ?_⟩, ?_, ?_⟩
  · exact (Below.heap_alloc _ _ _ (by rw [size_setCell]; omega)).trans ((Below.heap_setCell _ _ _ _ (by show w2.heap.size ≠ w.heap.size + 1; omega)).trans HL.out)
  · exact (Below.heap_alloc _ _ _ (by rw [size_setCell]; have := heap_lt HGB.out; omega)).trans ((Below.heap_setCell _ _ _ _ (by show w.heap.size + 1 + 1 ≠ w.heap.size + 1; omega)).trans HGB.out)
  · exact hI.down _ _ _ _ (hI.keep _ _ _ _ HVR.out (((Only.refl _ w3).setCell (p := ⟨w.heap.size + 1, 0, none⟩) (fun _ => by show w.heap.size + 1 < _; omega) _).alloc _)) (by omega)
  · exact hJ.down _ _ _ _ (hJ.keep _ _ _ _ HVR'.out (((Only.refl _ w3).setCell (p := ⟨w.heap.size + 1, 0, none⟩) (fun _ => by show w.heap.size + 1 < _; omega) _).alloc _)) (by omega)
  · exact new_at2 (by simp) _
  · exact (Below.heap_alloc _ _ _ (by rw [size_setCell]; have := heap_lt HB3.out; omega)).trans ((Below.heap_setCell _ _ _ _ (by show w2.heap.size + 1 + 1 + 1 ≠ w.heap.size + 1; omega)).trans HB3.out)
  · exact (HK3.out.far (b := w.heap.size + 1) ((Only.refl (fun q => q = w.heap.size + 1) w3).setCell (p := ⟨w.heap.size + 1, 0, none⟩) (fun _ => rfl) _) (by omega) (by omega) (by omega) (by omega)).calm (onlyA _ _)
  · exact (HO3.out.setCell (p := ⟨w.heap.size + 1, 0, none⟩) (fun h => absurd h (by show ¬ w.heap.size + 1 < w.heap.size; omega)) _).alloc _
set_option maxRecDepth 20000 in
set_option maxHeartbeats 4000000 in
theorem counted_print2 (t t2 : TypeId) (u u2 : Value) (I J : Nat → World → Value → Prop) (hI : KeepsE I) (hJ : KeepsE J) (vs vs1 vs' : VA) (hE : MakesE wT (.iface t u) I vs vs1) (hE2 : MakesE wT (.iface t2 u2) J vs1 vs') (kb mv ma mf sg : Nat) (g cap : Nat) (w : World) (h : MkV wT w kb mv ma mf sg vs) (hg : w.cell? ⟨g, 0, none⟩ = some (.iface t u)) (hg1 : w.cell? ⟨g, 1, none⟩ = some (.iface t2 u2)) (hgn : ¬ (g = mv ∨ g = ma)) :
    Calls Tryz.prog 161 #[.pointer (some ⟨kb, 0, none⟩), .iface 285 (.agg #[.slice (some ⟨g, 0, none⟩) 2 cap, .nilIface])] w fun en w' => ∃ x, en = .returned (.agg #[x]) ∧ PrintK2 I J w.heap.size w' x ∧ MkV wT w' kb mv ma mf sg vs' ∧ Only (fun q => q = mv ∨ q = ma) w w' := by
  have hmf := hmfT
  have hsf := hsfT
  have hsn := hsnT
  have q1 := ts419_424
  have q2 := ts419_427
  have q3 := ts419_429
  have q4 := ts419_432
  have q5 := ts419_419
  have hgl := World.block_lt_of_cell? w ⟨g, 0, none⟩ hg
  simp only at hgl
  have hml := heap_lt h.v
  have hkl := heap_lt h.k
  have hal := heap_lt h.a
  have hw0 := h.t.size
  have HR := hide (fun W (hW : Only (fun _ => False) w W) => print2_made t t2 u u2 I J hI hJ vs vs1 vs' hE hE2 kb mv ma mf sg g cap W (h.calm hW) ((hW.cell (p := ⟨g, 0, none⟩) hgl (fun e => e)).trans hg) ((hW.cell (p := ⟨g, 1, none⟩) hgl (fun e => e)).trans hg1) hgn)
  clear h hE hE2
  go_enter Tryz.func161, Tryz.ntmps161
  go_wp2_with fail
  refine (HR.out _ ((onlyA w _).alloc _)).mono ?_
  rintro en w2 ⟨v, rfl, hv, hk, ho⟩
  have hv2 := hv
  obtain ⟨lb, eb, c, g2, x, y, x', y', z, rfl, _⟩ := hv2
  have hb := (ho.block w.heap.size (by simp; omega) (by omega)).trans ((Below.heap_alloc _ _ _ (by simp)).trans (new0 w _))
  have r0 : w2.cell? ⟨w.heap.size, 0, none⟩ = some .nilFunc := cell_of hb rfl
  have rf := free_of hb
  have rl := heap_lt hb
  have HV := hide hv
  have HO := hide ho
  have HK := hide hk
  clear hv hk ho hb HR
  go_wp2
  refine bodyPost_ret (v := .agg #[.func (.func 280) #[] #[.pointer (some ⟨lb, 0, none⟩), .pointer (some ⟨eb, 0, none⟩)]]) (by simp [results, Tryz.results161, go_sem, r0]) rfl ⟨_, rfl, (printK2_keeps hI hJ).down _ _ _ _ ((printK2_keeps hI hJ).keep _ _ _ _ HV.out ((Only.refl _ w2).setCell (p := ⟨w.heap.size, 0, none⟩) (fun _ => by show w.heap.size < _; simp; omega) _)) (by simp; omega), HK.out.far (b := w.heap.size) ((Only.refl (fun q => q = w.heap.size) w2).setCell (p := ⟨w.heap.size, 0, none⟩) (fun _ => rfl) _) (by omega) (by omega) (by omega) (by omega), ?_⟩
  exact (((((onlyA w _).alloc _).mono (fun _ _ e => e.elim)).trans HO.out (fun _ _ e => e)).setCell (p := ⟨w.heap.size, 0, none⟩) (fun h => absurd h (by show ¬ w.heap.size < w.heap.size; omega)) _)
end Go.Proofs.YtdbdbaepmdmnfaaGreatDoor

