import Derived.Test.YtdbdbaepmdmnfaaGreatDoorZ18
import Derived.Test.YtdbdbaepmdmnfaaGreatDoorZ08
import Derived.Deep.RegionHeldLaw
namespace Go.Proofs.YtdbdbaepmdmnfaaGreatDoor
open Go.RowKit
variable {wT : World}
set_option maxRecDepth 20000 in
set_option maxHeartbeats 1000000 in
theorem trim_pl (W : World) : Calls Tryz.prog 352 #[.string ⟨#[43, 61]⟩, .string ⟨#[61]⟩] W fun en w' => en = .returned (.string ⟨#[43]⟩) ∧ w' = W := by
  have he : (⟨#[43, 61]⟩ : ByteArray).extract 1 2 = ⟨#[61]⟩ := by decide
  have he2 : (⟨#[43, 61]⟩ : ByteArray).extract 0 1 = ⟨#[43]⟩ := by decide
  go_enter Tryz.func352, Tryz.ntmps352
  go_wp2
  go_ret
  exact ⟨rfl, rfl⟩
set_option maxRecDepth 20000 in
set_option maxHeartbeats 1000000 in
theorem reckoning_made (F : Nat) (cap : Array Value) (w : World) : Calls Tryz.prog 415 #[.func (.func F) #[] cap] w fun en w' => en = .returned (.func (.func 455) #[] #[.pointer (some ⟨w.heap.size, 0, none⟩)]) ∧ w'.heap[w.heap.size]? = some (.cells #[.func (.func F) #[] cap] 511 (0, 0)) ∧ Only (fun _ => False) w w' := by
  have hmf := hmfT
  have hsf := hsfT
  have hsn := hsnT
  go_enter Tryz.func415, Tryz.ntmps415
  go_wp2
  go_ret
  exact ⟨rfl, new0 w _, onlyA _ _⟩
set_option maxRecDepth 20000 in
set_option maxHeartbeats 1000000 in
theorem reckOf_pl (w : World) : Calls Tryz.prog 344 #[.string ⟨#[43]⟩] w fun en w' => en = .returned (.func (.func 455) #[] #[.pointer (some ⟨w.heap.size, 0, none⟩)]) ∧ w'.heap[w.heap.size]? = some (.cells #[.func (.func 416) #[] #[]] 511 (0, 0)) ∧ Only (fun _ => False) w w' := by
  have hmf := hmfT
  have HR := hide reckoning_made
  go_enter Tryz.func344, Tryz.ntmps344
  go_wp2_with (go_at_call 415; refine (HR.out _ _ _).mono ?_; rintro en w2 ⟨rfl, h1, h2⟩; have H1 := hide h1; have H2 := hide h2; clear h1 h2)
  go_ret
  exact ⟨rfl, H1.out, H2.out⟩
/-- A made store that adds: to what I tells, what J tells. -/
def AddK (I J : Nat → World → Value → Prop) (B : Nat) (w : World) (v : Value) : Prop := ∃ lb rb kb ob x1 y1 x2 y2, v = .agg #[.func (.func 353) #[] #[.pointer (some ⟨lb, 0, none⟩), .pointer (some ⟨rb, 0, none⟩), .pointer (some ⟨kb, 0, none⟩)], .nilFunc] ∧ (B ≤ lb ∧ B ≤ rb ∧ B ≤ kb ∧ B ≤ ob) ∧ w.heap[lb]? = some (.cells #[x1, y1] 338 (0, 0)) ∧ w.heap[rb]? = some (.cells #[x2, y2] 338 (0, 0)) ∧ w.heap[kb]? = some (.cells #[.func (.func 455) #[] #[.pointer (some ⟨ob, 0, none⟩)]] 476 (0, 0)) ∧ w.heap[ob]? = some (.cells #[.func (.func 416) #[] #[]] 511 (0, 0)) ∧ I B w (.agg #[x1, y1]) ∧ J B w (.agg #[x2, y2])
theorem addk_keeps {I J : Nat → World → Value → Prop} (hI : KeepsE I) (hJ : KeepsE J) : KeepsE (AddK I J) where
  shape := fun _ _ _ ⟨_, _, _, _, _, _, _, _, e, _⟩ => ⟨_, _, e, rfl, rfl⟩
  keep := fun B w w' v ⟨lb, rb, kb, ob, x1, y1, x2, y2, e, ⟨k1, k2, k3, k4⟩, h1, h2, h3, h4, h5, h6⟩ ho => ⟨lb, rb, kb, ob, x1, y1, x2, y2, e, ⟨k1, k2, k3, k4⟩, (ho.block lb (heap_lt h1) (by omega)).trans h1, (ho.block rb (heap_lt h2) (by omega)).trans h2, (ho.block kb (heap_lt h3) (by omega)).trans h3, (ho.block ob (heap_lt h4) (by omega)).trans h4, hI.keep _ _ _ _ h5 ho, hJ.keep _ _ _ _ h6 ho⟩
  down := fun A B w v ⟨lb, rb, kb, ob, x1, y1, x2, y2, e, ⟨k1, k2, k3, k4⟩, h1, h2, h3, h4, h5, h6⟩ hA => ⟨lb, rb, kb, ob, x1, y1, x2, y2, e, ⟨by omega, by omega, by omega, by omega⟩, h1, h2, h3, h4, hI.down _ _ _ _ h5 hA, hJ.down _ _ _ _ h6 hA⟩
set_option maxRecDepth 20000 in
set_option maxHeartbeats 16000000 in
theorem addk_made (t1 t2 : TypeId) (u1 u2 : Value) (I J : Nat → World → Value → Prop) (hI : KeepsE I) (hJ : KeepsE J) (vs vs1 vs2 : VA) (hE : MakesE wT (.iface t1 u1) I vs vs1) (hE2 : MakesE wT (.iface t2 u2) J vs1 vs2) (kb mv ma mf sg : Nat) (w : World) (h : MkV wT w kb mv ma mf sg vs) :
    Calls Tryz.prog 228 #[.pointer (some ⟨kb, 0, none⟩), .agg #[.iface t1 u1, .string ⟨#[43, 61]⟩, .iface t2 u2]] w fun en w' => ∃ v, en = .returned v ∧ AddK I J w.heap.size w' v ∧ MkV wT w' kb mv ma mf sg vs2 ∧ Only (fun q => q = mv ∨ q = ma) w w' := by
  have hmf := hmfT
  have hsf := hsfT
  have hsn := hsnT
  have hml := heap_lt h.v
  have hkl := heap_lt h.k
  have hal := heap_lt h.a
  have hw0 := h.t.size
  have HR := hide (fun W (hW : Only (fun _ => False) w W) => hE kb mv ma mf sg W (h.calm hW))
  have HR2 := hide (hE2 kb mv ma mf sg)
  clear h hE hE2
  go_enter Tryz.func228, Tryz.ntmps228
  go_wp2_with fail
  have n1 : ((w.alloc (.cells #[.iface t1 u1, .string ⟨#[43, 61]⟩, .iface t2 u2] 326)).alloc (.cells #[.nilFunc, .nilFunc] 338)).drew.cell? ⟨w.heap.size, 0, none⟩ = some (.iface t1 u1) := past (cell_of (new0 w _) rfl) _
  have n0 : ((w.alloc (.cells #[.iface t1 u1, .string ⟨#[43, 61]⟩, .iface t2 u2] 326)).alloc (.cells #[.nilFunc, .nilFunc] 338)).drew.cell? ⟨w.heap.size, 2, none⟩ = some (.iface t2 u2) := past (cell_of (new0 w _) rfl) _
  have m1 : ((w.alloc (.cells #[.iface t1 u1, .string ⟨#[43, 61]⟩, .iface t2 u2] 326)).alloc (.cells #[.nilFunc, .nilFunc] 338)).cell? ⟨w.heap.size, 0, none⟩ = some (.iface t1 u1) := past (cell_of (new0 w _) rfl) _
  have m0 : ((w.alloc (.cells #[.iface t1 u1, .string ⟨#[43, 61]⟩, .iface t2 u2] 326)).alloc (.cells #[.nilFunc, .nilFunc] 338)).cell? ⟨w.heap.size, 2, none⟩ = some (.iface t2 u2) := past (cell_of (new0 w _) rfl) _
  go_cut [5, 6] (fun s5 s6 wc => ∃ lb rb x1 y1 x2 y2, s5 = .pointer (some ⟨lb, 0, none⟩) ∧ s6 = .pointer (some ⟨rb, 0, none⟩) ∧ (w.heap.size + 1 < lb ∧ w.heap.size + 1 < rb) ∧ wc.heap[lb]? = some (.cells #[x1, y1] 338 (0, 0)) ∧ wc.heap[rb]? = some (.cells #[x2, y2] 338 (0, 0)) ∧ I (w.heap.size + 1 + 1) wc (.agg #[x1, y1]) ∧ J (w.heap.size + 1 + 1) wc (.agg #[x2, y2]) ∧ MkV wT wc kb mv ma mf sg vs2 ∧ wc.heap[w.heap.size]? = some (.cells #[.iface t1 u1, .string ⟨#[43, 61]⟩, .iface t2 u2] 326 (0, 0)) ∧ wc.heap[w.heap.size + 1]? = some (.cells #[.nilFunc, .nilFunc] 338 (0, 0)) ∧ Only (fun q => q = mv ∨ q = ma) w wc)
  case first =>
    go_region_held3 (fun W => W.cell? ⟨w.heap.size, 0, none⟩ = some (.iface t1 u1) ∧ W.cell? ⟨w.heap.size, 2, none⟩ = some (.iface t2 u2)) (repeat (first | (with_reducible assumption) | (with_reducible refine past ?_ _) | (with_reducible refine pastD ?_ _) | ((with_reducible refine farC ?_ ?_); (rotate_left; focus (simp <;> omega))) | (with_reducible refine And.intro ?_ ?_)))
      (first | (go_at_call 163; with_reducible show Calls Tryz.prog 163 #[.pointer (some ⟨kb, 0, none⟩), .iface t1 u1] _ _; refine (HR.out _ (by repeat (first | with_reducible exact Only.refl _ _ | with_reducible refine Only.alloc ?_ _ | with_reducible refine toDrew ?_))).mono ?_; rintro en w2 ⟨v, rfl, hv, hk, ho⟩; obtain ⟨x1, y1, rfl, hx1, hy1⟩ := hI.shape _ _ _ hv; have hz := ho.size; have hzz : w.heap.size + 1 + 1 ≤ w2.heap.size := Nat.le_trans (by first | exact Nat.le_refl _ | omega | (simp; done) | (simp; omega)) hz; have qa0 : w2.cell? ⟨w.heap.size, 0, none⟩ = some (.iface t1 u1) := (ho.cell (p := ⟨w.heap.size, 0, none⟩) (by show w.heap.size < _; first | omega | (simp; done) | (simp; omega)) (by show ¬ (w.heap.size = mv ∨ w.heap.size = ma); omega)).trans (by repeat (first | (with_reducible assumption) | (with_reducible refine past ?_ _) | (with_reducible refine pastD ?_ _))); have qa2 : w2.cell? ⟨w.heap.size, 2, none⟩ = some (.iface t2 u2) := (ho.cell (p := ⟨w.heap.size, 2, none⟩) (by show w.heap.size < _; first | omega | (simp; done) | (simp; omega)) (by show ¬ (w.heap.size = mv ∨ w.heap.size = ma); omega)).trans (by repeat (first | (with_reducible assumption) | (with_reducible refine past ?_ _) | (with_reducible refine pastD ?_ _))); (try (refine lay (P := w2.heap[w.heap.size + 1 + 1]? = some (.cells #[.nilFunc, .nilFunc] 338 (0, 0))) ?_ (fun bA => ?_); (focus (refine (ho.block _ ?_ ?_).trans ?_; (focus (first | omega | (simp; done) | (simp; omega))); (focus (show ¬ (w.heap.size + 1 + 1 = mv ∨ w.heap.size + 1 + 1 = ma); omega)); (repeat (first | ((with_reducible refine new_at2D ?_ _); focus (simp; done)) | ((with_reducible refine (heap_allocD _ _ ?_).trans ?_); (focus (first | omega | (simp; done) | (simp; omega)))) | ((with_reducible refine new_at2 ?_ _); focus (simp; done)) | ((with_reducible refine (Below.heap_alloc _ _ _ ?_).trans ?_); (focus (first | omega | (simp; done) | (simp; omega)))))); done)); have bAa := cell_of (o := 0) bA rfl; have bAb := cell_of (o := 1) bA rfl; have bAf := free_of bA; have bAl := heap_lt bA; have HbA := hide bA; clear bA)); (try (refine lay (P := w2.heap[w.heap.size + 1 + 1 + 1]? = some (.cells #[.nilFunc, .nilFunc] 338 (0, 0))) ?_ (fun bB => ?_); (focus (refine (ho.block _ ?_ ?_).trans ?_; (focus (first | omega | (simp; done) | (simp; omega))); (focus (show ¬ (w.heap.size + 1 + 1 + 1 = mv ∨ w.heap.size + 1 + 1 + 1 = ma); omega)); (repeat (first | ((with_reducible refine new_at2D ?_ _); focus (simp; done)) | ((with_reducible refine (heap_allocD _ _ ?_).trans ?_); (focus (first | omega | (simp; done) | (simp; omega)))) | ((with_reducible refine new_at2 ?_ _); focus (simp; done)) | ((with_reducible refine (Below.heap_alloc _ _ _ ?_).trans ?_); (focus (first | omega | (simp; done) | (simp; omega)))))); done)); have bBa := cell_of (o := 0) bB rfl; have bBb := cell_of (o := 1) bB rfl; have bBf := free_of bB; have bBl := heap_lt bB; have HbB := hide bB; clear bB)); have s1 : ∀ (a : Addr) (W : World), (store a x1).run Tryz.prog W = stored Tryz.prog W a x1 .plain := fun a W => run_store _ W a _ _ hx1; have s2 : ∀ (a : Addr) (W : World), (store a y1).run Tryz.prog W = stored Tryz.prog W a y1 .plain := fun a W => run_store _ W a _ _ hy1; have HX1 : Hid (w2.heap[w.heap.size]? = some (.cells #[.iface t1 u1, .string ⟨#[43, 61]⟩, .iface t2 u2] 326 (0, 0))) := hide ((ho.block (w.heap.size) (by first | omega | (simp; done) | (simp; omega)) (by show ¬ (w.heap.size = mv ∨ w.heap.size = ma); omega)).trans (by (repeat (first | ((with_reducible refine new_at2D ?_ _); focus (simp; done)) | ((with_reducible refine (heap_allocD _ _ ?_).trans ?_); (focus (first | omega | (simp; done) | (simp; omega)))) | ((with_reducible refine new_at2 ?_ _); focus (simp; done)) | ((with_reducible refine (Below.heap_alloc _ _ _ ?_).trans ?_); (focus (first | omega | (simp; done) | (simp; omega)))))))); have HY1 : Hid (w2.heap[w.heap.size + 1]? = some (.cells #[.nilFunc, .nilFunc] 338 (0, 0))) := hide ((ho.block (w.heap.size + 1) (by first | omega | (simp; done) | (simp; omega)) (by show ¬ (w.heap.size + 1 = mv ∨ w.heap.size + 1 = ma); omega)).trans (by (repeat (first | ((with_reducible refine new_at2D ?_ _); focus (simp; done)) | ((with_reducible refine (heap_allocD _ _ ?_).trans ?_); (focus (first | omega | (simp; done) | (simp; omega)))) | ((with_reducible refine new_at2 ?_ _); focus (simp; done)) | ((with_reducible refine (Below.heap_alloc _ _ _ ?_).trans ?_); (focus (first | omega | (simp; done) | (simp; omega)))))))); obtain ⟨B1, hv, hB1⟩ := lower hv; (try simp at hB1); have HV := hide hv; have HK := hide hk; have HO : Hid (Only (fun q => q = mv ∨ q = ma) w w2) := hide (Only.trans (by repeat (first | with_reducible exact Only.refl _ _ | with_reducible refine Only.alloc ?_ _ | with_reducible refine toDrew ?_)) ho (fun _ _ e => e)); clear hv hk ho hz) | (go_at_call 163; with_reducible show Calls Tryz.prog 163 #[.pointer (some ⟨kb, 0, none⟩), .iface t2 u2] _ _; refine (HR2.out _ (by repeat (first | (with_reducible exact HK.out) | (with_reducible refine MkV.allocV ?_ _) | (with_reducible refine MkV.drewV ?_)))).mono ?_; rintro en w3 ⟨v, rfl, hv, hk, ho⟩; obtain ⟨x2, y2, rfl, hx2, hy2⟩ := hJ.shape _ _ _ hv; have hz := ho.size; have hzz2 : w2.heap.size ≤ w3.heap.size := Nat.le_trans (by first | exact Nat.le_refl _ | omega | (simp; done) | (simp; omega)) hz; have qb0 : w3.cell? ⟨w.heap.size, 0, none⟩ = some (.iface t1 u1) := (ho.cell (p := ⟨w.heap.size, 0, none⟩) (by show w.heap.size < _; first | omega | (simp; done) | (simp; omega)) (by show ¬ (w.heap.size = mv ∨ w.heap.size = ma); omega)).trans (by repeat (first | (with_reducible assumption) | (with_reducible refine past ?_ _) | (with_reducible refine pastD ?_ _))); have qb2 : w3.cell? ⟨w.heap.size, 2, none⟩ = some (.iface t2 u2) := (ho.cell (p := ⟨w.heap.size, 2, none⟩) (by show w.heap.size < _; first | omega | (simp; done) | (simp; omega)) (by show ¬ (w.heap.size = mv ∨ w.heap.size = ma); omega)).trans (by repeat (first | (with_reducible assumption) | (with_reducible refine past ?_ _) | (with_reducible refine pastD ?_ _))); (try (refine lay (P := w3.heap[w.heap.size + 1 + 1]? = some (.cells #[.nilFunc, .nilFunc] 338 (0, 0))) ?_ (fun bC => ?_); (focus (refine (ho.block _ ?_ ?_).trans ?_; (focus (first | omega | (simp; done) | (simp; omega))); (focus (show ¬ (w.heap.size + 1 + 1 = mv ∨ w.heap.size + 1 + 1 = ma); omega)); (repeat (first | ((with_reducible refine new_at2D ?_ _); focus (simp; done)) | ((with_reducible refine (heap_allocD _ _ ?_).trans ?_); (focus (first | omega | (simp; done) | (simp; omega)))) | ((with_reducible refine new_at2 ?_ _); focus (simp; done)) | ((with_reducible refine (Below.heap_alloc _ _ _ ?_).trans ?_); (focus (first | omega | (simp; done) | (simp; omega)))) | (with_reducible exact HbA.out) | (with_reducible exact HbB.out))); done)); have bCa := cell_of (o := 0) bC rfl; have bCb := cell_of (o := 1) bC rfl; have bCf := free_of bC; have bCl := heap_lt bC; have HbC := hide bC; clear bC)); (try (refine lay (P := w3.heap[w.heap.size + 1 + 1 + 1]? = some (.cells #[.nilFunc, .nilFunc] 338 (0, 0))) ?_ (fun bD => ?_); (focus (refine (ho.block _ ?_ ?_).trans ?_; (focus (first | omega | (simp; done) | (simp; omega))); (focus (show ¬ (w.heap.size + 1 + 1 + 1 = mv ∨ w.heap.size + 1 + 1 + 1 = ma); omega)); (repeat (first | ((with_reducible refine new_at2D ?_ _); focus (simp; done)) | ((with_reducible refine (heap_allocD _ _ ?_).trans ?_); (focus (first | omega | (simp; done) | (simp; omega)))) | ((with_reducible refine new_at2 ?_ _); focus (simp; done)) | ((with_reducible refine (Below.heap_alloc _ _ _ ?_).trans ?_); (focus (first | omega | (simp; done) | (simp; omega)))) | (with_reducible exact HbA.out) | (with_reducible exact HbB.out))); done)); have bDa := cell_of (o := 0) bD rfl; have bDb := cell_of (o := 1) bD rfl; have bDf := free_of bD; have bDl := heap_lt bD; have HbD := hide bD; clear bD)); (try (refine lay (P := w3.heap[w2.heap.size]? = some (.cells #[.nilFunc, .nilFunc] 338 (0, 0))) ?_ (fun bE => ?_); (focus (refine (ho.block _ ?_ ?_).trans ?_; (focus (first | omega | (simp; done) | (simp; omega))); (focus (show ¬ (w2.heap.size = mv ∨ w2.heap.size = ma); omega)); (repeat (first | ((with_reducible refine new_at2D ?_ _); focus (simp; done)) | ((with_reducible refine (heap_allocD _ _ ?_).trans ?_); (focus (first | omega | (simp; done) | (simp; omega)))) | ((with_reducible refine new_at2 ?_ _); focus (simp; done)) | ((with_reducible refine (Below.heap_alloc _ _ _ ?_).trans ?_); (focus (first | omega | (simp; done) | (simp; omega)))) | (with_reducible exact HbA.out) | (with_reducible exact HbB.out))); done)); have bEa := cell_of (o := 0) bE rfl; have bEb := cell_of (o := 1) bE rfl; have bEf := free_of bE; have bEl := heap_lt bE; have HbE := hide bE; clear bE)); (try (refine lay (P := w3.heap[w2.heap.size + 1]? = some (.cells #[.nilFunc, .nilFunc] 338 (0, 0))) ?_ (fun bF => ?_); (focus (refine (ho.block _ ?_ ?_).trans ?_; (focus (first | omega | (simp; done) | (simp; omega))); (focus (show ¬ (w2.heap.size + 1 = mv ∨ w2.heap.size + 1 = ma); omega)); (repeat (first | ((with_reducible refine new_at2D ?_ _); focus (simp; done)) | ((with_reducible refine (heap_allocD _ _ ?_).trans ?_); (focus (first | omega | (simp; done) | (simp; omega)))) | ((with_reducible refine new_at2 ?_ _); focus (simp; done)) | ((with_reducible refine (Below.heap_alloc _ _ _ ?_).trans ?_); (focus (first | omega | (simp; done) | (simp; omega)))) | (with_reducible exact HbA.out) | (with_reducible exact HbB.out))); done)); have bFa := cell_of (o := 0) bF rfl; have bFb := cell_of (o := 1) bF rfl; have bFf := free_of bF; have bFl := heap_lt bF; have HbF := hide bF; clear bF)); have s3 : ∀ (a : Addr) (W : World), (store a x2).run Tryz.prog W = stored Tryz.prog W a x2 .plain := fun a W => run_store _ W a _ _ hx2; have s4 : ∀ (a : Addr) (W : World), (store a y2).run Tryz.prog W = stored Tryz.prog W a y2 .plain := fun a W => run_store _ W a _ _ hy2; have HX2 : Hid (w3.heap[w.heap.size]? = some (.cells #[.iface t1 u1, .string ⟨#[43, 61]⟩, .iface t2 u2] 326 (0, 0))) := hide ((ho.block (w.heap.size) (by first | omega | (simp; done) | (simp; omega)) (by show ¬ (w.heap.size = mv ∨ w.heap.size = ma); omega)).trans (by (repeat (first | ((with_reducible refine new_at2D ?_ _); focus (simp; done)) | ((with_reducible refine (heap_allocD _ _ ?_).trans ?_); (focus (first | omega | (simp; done) | (simp; omega)))) | ((with_reducible refine new_at2 ?_ _); focus (simp; done)) | ((with_reducible refine (Below.heap_alloc _ _ _ ?_).trans ?_); (focus (first | omega | (simp; done) | (simp; omega)))) | (with_reducible exact HX1.out) | (with_reducible exact HY1.out))))); have HY2 : Hid (w3.heap[w.heap.size + 1]? = some (.cells #[.nilFunc, .nilFunc] 338 (0, 0))) := hide ((ho.block (w.heap.size + 1) (by first | omega | (simp; done) | (simp; omega)) (by show ¬ (w.heap.size + 1 = mv ∨ w.heap.size + 1 = ma); omega)).trans (by (repeat (first | ((with_reducible refine new_at2D ?_ _); focus (simp; done)) | ((with_reducible refine (heap_allocD _ _ ?_).trans ?_); (focus (first | omega | (simp; done) | (simp; omega)))) | ((with_reducible refine new_at2 ?_ _); focus (simp; done)) | ((with_reducible refine (Below.heap_alloc _ _ _ ?_).trans ?_); (focus (first | omega | (simp; done) | (simp; omega)))) | (with_reducible exact HX1.out) | (with_reducible exact HY1.out))))); obtain ⟨B2, hv, hB2⟩ := lower hv; (try simp at hB2); have HV2 := hide hv; have HK2 := hide hk; have HO2 : Hid (Only (fun q => q = mv ∨ q = ma) w2 w3) := hide (Only.trans (by repeat (first | with_reducible exact Only.refl _ _ | with_reducible refine Only.alloc ?_ _ | with_reducible refine toDrew ?_)) ho (fun _ _ e => e)); clear hv hk ho hz))
    all_goals
      go_wp2_with fail
      go_meet
      refine ⟨_, _, x1, y1, x2, y2, rfl, rfl, ⟨by omega, by omega⟩, ?_, ?_, ?_, ?_, ?_, ?_, ?_, ?_⟩
      · (repeat (first | (with_reducible exact HX2.out) | (with_reducible exact HY2.out) | (with_reducible exact HbC.out) | (with_reducible exact HbD.out) | (with_reducible exact HbE.out) | (with_reducible exact HbF.out) | (with_reducible refine setP2 (p := .nilFunc) (q := .nilFunc) ?_ _ _) | ((with_reducible refine (Below.heap_setCell _ _ _ _ ?_).trans ?_); (focus (first | (dsimp only; omega) | (simp; omega)))) | ((with_reducible refine new_at2 ?_ _); focus (first | rfl | (simp; done))) | ((with_reducible refine (Below.heap_alloc _ _ _ ?_).trans ?_); (focus (first | omega | (simp; done) | (simp; omega))))))
      · (repeat (first | (with_reducible exact HX2.out) | (with_reducible exact HY2.out) | (with_reducible exact HbC.out) | (with_reducible exact HbD.out) | (with_reducible exact HbE.out) | (with_reducible exact HbF.out) | (with_reducible refine setP2 (p := .nilFunc) (q := .nilFunc) ?_ _ _) | ((with_reducible refine (Below.heap_setCell _ _ _ _ ?_).trans ?_); (focus (first | (dsimp only; omega) | (simp; omega)))) | ((with_reducible refine new_at2 ?_ _); focus (first | rfl | (simp; done))) | ((with_reducible refine (Below.heap_alloc _ _ _ ?_).trans ?_); (focus (first | omega | (simp; done) | (simp; omega))))))
      · refine hI.down _ _ _ _ (hI.keep _ _ _ _ HV.out ?_) (by omega)
        exact Only.trans (HO2.out.mono (fun _ _ e => by omega)) (by repeat (first | (with_reducible exact Only.refl _ _) | (with_reducible refine Only.alloc ?_ _) | ((with_reducible refine Only.setCell ?_ ?_ _); (rotate_left; focus (dsimp only; intro h; omega)))) : Only (fun q => q < B1 ∨ w2.heap.size ≤ q) w3 _) (fun i hi e => by omega)
      · refine hJ.down _ _ _ _ (hJ.keep _ _ _ _ HV2.out ?_) (by omega)
        exact (by repeat (first | (with_reducible exact Only.refl _ _) | (with_reducible refine Only.alloc ?_ _) | ((with_reducible refine Only.setCell ?_ ?_ _); (rotate_left; focus (dsimp only; intro h; omega)))))
      · exact (by repeat (first | (with_reducible exact HK2.out) | (with_reducible refine MkV.allocV ?_ _) | ((with_reducible refine MkV.setV ?_ _ _ _ ?_ ?_ ?_ ?_); (rotate_left; (focus omega); (focus omega); (focus omega); (focus omega)))))
      · (repeat (first | (with_reducible exact HX2.out) | (with_reducible exact HY2.out) | (with_reducible exact HbC.out) | (with_reducible exact HbD.out) | (with_reducible exact HbE.out) | (with_reducible exact HbF.out) | (with_reducible refine setP2 (p := .nilFunc) (q := .nilFunc) ?_ _ _) | ((with_reducible refine (Below.heap_setCell _ _ _ _ ?_).trans ?_); (focus (first | (dsimp only; omega) | (simp; omega)))) | ((with_reducible refine new_at2 ?_ _); focus (first | rfl | (simp; done))) | ((with_reducible refine (Below.heap_alloc _ _ _ ?_).trans ?_); (focus (first | omega | (simp; done) | (simp; omega))))))
      · (repeat (first | (with_reducible exact HX2.out) | (with_reducible exact HY2.out) | (with_reducible exact HbC.out) | (with_reducible exact HbD.out) | (with_reducible exact HbE.out) | (with_reducible exact HbF.out) | (with_reducible refine setP2 (p := .nilFunc) (q := .nilFunc) ?_ _ _) | ((with_reducible refine (Below.heap_setCell _ _ _ _ ?_).trans ?_); (focus (first | (dsimp only; omega) | (simp; omega)))) | ((with_reducible refine new_at2 ?_ _); focus (first | rfl | (simp; done))) | ((with_reducible refine (Below.heap_alloc _ _ _ ?_).trans ?_); (focus (first | omega | (simp; done) | (simp; omega))))))
      · exact Only.trans (HO.out.trans HO2.out (fun _ _ e => e)) (by repeat (first | (with_reducible exact Only.refl _ _) | (with_reducible refine Only.alloc ?_ _) | ((with_reducible refine Only.setCell ?_ ?_ _); (rotate_left; focus (dsimp only; intro h; omega)))) : Only (fun q => w.heap.size ≤ q) w3 _) (fun i hi e => by omega)
  case rest =>
    obtain ⟨lb, rb, x1, y1, x2, y2, rfl, rfl, ⟨hl1, hl2⟩, h1, h2, h3, h4, h5, h6, h7, ho⟩ := hcut
    have b1 : wc.cell? ⟨w.heap.size, 1, none⟩ = some (.string ⟨#[43, 61]⟩) := cell_of h6 rfl
    have rl := heap_lt h7
    have H1 := hide h1
    have H2 := hide h2
    have H3 := hide h3
    have H4 := hide h4
    have H5 := hide h5
    have H7 := hide h7
    have HO := hide ho
    have hzc := ho.size
    have HC := hide trim_pl
    have HT := hide reckOf_pl
    clear h1 h2 h3 h4 h5 h6 h7 ho HR HR2 n0 n1 m0 m1
    go_wp2_with (first | (go_at_call 352; refine (HC.out _).mono ?_; rintro en w' ⟨rfl, h3⟩; subst w'))
    refine (HT.out _).mono ?_
    rintro en w3 ⟨rfl, ht, ho3⟩
    have hb := (ho3.block _ rl (fun e => e)).trans H7.out
    have r0 : w3.cell? ⟨w.heap.size + 1, 0, none⟩ = some .nilFunc := cell_of hb rfl
    have r1 : w3.cell? ⟨w.heap.size + 1, 1, none⟩ = some .nilFunc := cell_of hb rfl
    have rf := free_of hb
    have rl3 := heap_lt hb
    have hz3 := ho3.size
    have HTb := hide ht
    have HO3 := hide ho3
    have HB3 := hide hb
    clear ht ho3 hb
    go_wp2
    have hS : Only (fun q => q = w.heap.size + 1) w3 ((w3.setCell ⟨w.heap.size + 1, 0, none⟩ (.func (.func 353) #[] #[.pointer (some ⟨lb, 0, none⟩), .pointer (some ⟨rb, 0, none⟩), .pointer (some ⟨w3.heap.size, 0, none⟩)])).setCell ⟨w.heap.size + 1, 1, none⟩ .nilFunc) := ((Only.refl (fun q => q = w.heap.size + 1) w3).setCell (p := ⟨w.heap.size + 1, 0, none⟩) (fun _ => rfl) _).setCell (p := ⟨w.heap.size + 1, 1, none⟩) (fun _ => rfl) _
    have hsz : ((w3.setCell ⟨w.heap.size + 1, 0, none⟩ (.func (.func 353) #[] #[.pointer (some ⟨lb, 0, none⟩), .pointer (some ⟨rb, 0, none⟩), .pointer (some ⟨w3.heap.size, 0, none⟩)])).setCell ⟨w.heap.size + 1, 1, none⟩ .nilFunc).heap.size = w3.heap.size := by simp
    have hF : Only (fun q => q = w.heap.size + 1) w3 (((w3.setCell ⟨w.heap.size + 1, 0, none⟩ (.func (.func 353) #[] #[.pointer (some ⟨lb, 0, none⟩), .pointer (some ⟨rb, 0, none⟩), .pointer (some ⟨w3.heap.size, 0, none⟩)])).setCell ⟨w.heap.size + 1, 1, none⟩ .nilFunc).alloc (.cells #[.func (.func 455) #[] #[.pointer (some ⟨wc.heap.size, 0, none⟩)]] 476)) := hS.alloc _
    have f1 := (hF.block lb (by have := heap_lt H1.out; omega) (by omega)).trans ((HO3.out.block lb (heap_lt H1.out) (fun e => e)).trans H1.out)
    have f2 := (hF.block rb (by have := heap_lt H2.out; omega) (by omega)).trans ((HO3.out.block rb (heap_lt H2.out) (fun e => e)).trans H2.out)
    have f3 : (((w3.setCell ⟨w.heap.size + 1, 0, none⟩ (.func (.func 353) #[] #[.pointer (some ⟨lb, 0, none⟩), .pointer (some ⟨rb, 0, none⟩), .pointer (some ⟨w3.heap.size, 0, none⟩)])).setCell ⟨w.heap.size + 1, 1, none⟩ .nilFunc).alloc (.cells #[.func (.func 455) #[] #[.pointer (some ⟨wc.heap.size, 0, none⟩)]] 476)).heap[w3.heap.size]? = some (.cells #[.func (.func 455) #[] #[.pointer (some ⟨wc.heap.size, 0, none⟩)]] 476 (0, 0)) := new_at2 hsz _
    have f4 := (hF.block _ (heap_lt HTb.out) (by omega)).trans HTb.out
    have f5 : I w.heap.size (((w3.setCell ⟨w.heap.size + 1, 0, none⟩ (.func (.func 353) #[] #[.pointer (some ⟨lb, 0, none⟩), .pointer (some ⟨rb, 0, none⟩), .pointer (some ⟨w3.heap.size, 0, none⟩)])).setCell ⟨w.heap.size + 1, 1, none⟩ .nilFunc).alloc (.cells #[.func (.func 455) #[] #[.pointer (some ⟨wc.heap.size, 0, none⟩)]] 476)) (.agg #[x1, y1]) := hI.down _ _ _ _ (hI.keep _ _ _ _ (hI.keep _ _ _ _ H3.out (HO3.out.mono (fun _ _ e => e.elim))) (hF.mono (fun i _ e => by omega))) (by omega)
    have f6 : J w.heap.size (((w3.setCell ⟨w.heap.size + 1, 0, none⟩ (.func (.func 353) #[] #[.pointer (some ⟨lb, 0, none⟩), .pointer (some ⟨rb, 0, none⟩), .pointer (some ⟨w3.heap.size, 0, none⟩)])).setCell ⟨w.heap.size + 1, 1, none⟩ .nilFunc).alloc (.cells #[.func (.func 455) #[] #[.pointer (some ⟨wc.heap.size, 0, none⟩)]] 476)) (.agg #[x2, y2]) := hJ.down _ _ _ _ (hJ.keep _ _ _ _ (hJ.keep _ _ _ _ H4.out (HO3.out.mono (fun _ _ e => e.elim))) (hF.mono (fun i _ e => by omega))) (by omega)
    have hres : (((w3.setCell ⟨w.heap.size + 1, 0, none⟩ (.func (.func 353) #[] #[.pointer (some ⟨lb, 0, none⟩), .pointer (some ⟨rb, 0, none⟩), .pointer (some ⟨w3.heap.size, 0, none⟩)])).setCell ⟨w.heap.size + 1, 1, none⟩ .nilFunc).alloc (.cells #[.func (.func 455) #[] #[.pointer (some ⟨wc.heap.size, 0, none⟩)]] 476)).heap[w.heap.size + 1]? = some (.cells #[(.func (.func 353) #[] #[.pointer (some ⟨lb, 0, none⟩), .pointer (some ⟨rb, 0, none⟩), .pointer (some ⟨w3.heap.size, 0, none⟩)]), .nilFunc] 338 (0, 0)) := (Below.heap_alloc _ _ _ (by rw [hsz]; exact rl3)).trans (setP2 HB3.out _ _)
    have e0 : (((w3.setCell ⟨w.heap.size + 1, 0, none⟩ (.func (.func 353) #[] #[.pointer (some ⟨lb, 0, none⟩), .pointer (some ⟨rb, 0, none⟩), .pointer (some ⟨w3.heap.size, 0, none⟩)])).setCell ⟨w.heap.size + 1, 1, none⟩ .nilFunc).alloc (.cells #[.func (.func 455) #[] #[.pointer (some ⟨wc.heap.size, 0, none⟩)]] 476)).cell? ⟨w.heap.size + 1, 0, none⟩ = some (.func (.func 353) #[] #[.pointer (some ⟨lb, 0, none⟩), .pointer (some ⟨rb, 0, none⟩), .pointer (some ⟨w3.heap.size, 0, none⟩)]) := cell_of hres rfl
    have e1 : (((w3.setCell ⟨w.heap.size + 1, 0, none⟩ (.func (.func 353) #[] #[.pointer (some ⟨lb, 0, none⟩), .pointer (some ⟨rb, 0, none⟩), .pointer (some ⟨w3.heap.size, 0, none⟩)])).setCell ⟨w.heap.size + 1, 1, none⟩ .nilFunc).alloc (.cells #[.func (.func 455) #[] #[.pointer (some ⟨wc.heap.size, 0, none⟩)]] 476)).cell? ⟨w.heap.size + 1, 1, none⟩ = some .nilFunc := cell_of hres rfl
    refine bodyPost_ret (v := .agg #[.func (.func 353) #[] #[.pointer (some ⟨lb, 0, none⟩), .pointer (some ⟨rb, 0, none⟩), .pointer (some ⟨w3.heap.size, 0, none⟩)], .nilFunc]) (by simp [results, Tryz.results228, go_sem, e0, e1]) rfl ⟨_, rfl, ⟨lb, rb, w3.heap.size, wc.heap.size, x1, y1, x2, y2, rfl, ⟨by omega, by omega, by omega, by omega⟩, f1, f2, f3, f4, f5, f6⟩, (H5.out.calm HO3.out).far hF (by omega) (by omega) (by omega) (by omega), ?_⟩
    exact (HO.out.trans HO3.out (fun _ _ e => e.elim)).trans hF (fun i hi e => absurd hi (by omega))
theorem makesE_add (t1 t2 : TypeId) (u1 u2 : Value) (I J : Nat → World → Value → Prop) (hI : KeepsE I) (hJ : KeepsE J) (vs vs1 vs2 : VA) (hE : MakesE wT (.iface t1 u1) I vs vs1) (hE2 : MakesE wT (.iface t2 u2) J vs1 vs2) : MakesE wT (storeT (.iface t1 u1) ⟨#[43, 61]⟩ (.iface t2 u2)) (AddK I J) vs vs2 :=
  mkx_store t1 t2 u1 u2 ⟨#[43, 61]⟩ (AddK I J) (addk_keeps hI hJ) vs vs2 (fun kb mv ma mf sg W h => addk_made t1 t2 u1 u2 I J hI hJ vs vs1 vs2 hE hE2 kb mv ma mf sg W h)
end Go.Proofs.YtdbdbaepmdmnfaaGreatDoor

namespace Go.Proofs.YtdbdbaepmdmnfaaGreatDoor
open Go.RowKit
variable {wT : World}
set_option maxRecDepth 20000 in
set_option maxHeartbeats 4000000 in
/-- A list of one expression made. -/
theorem exprsk_made (t : TypeId) (u : Value) (I : Nat → World → Value → Prop) (hI : KeepsE I) (vs vs' : VA) (hE : MakesE wT (.iface t u) I vs vs') (kb mv ma mf sg : Nat) (g cap : Nat) (w : World) (h : MkV wT w kb mv ma mf sg vs) (hg : w.cell? ⟨g, 0, none⟩ = some (.iface t u)) :
    Calls Tryz.prog 128 #[.pointer (some ⟨kb, 0, none⟩), .slice (some ⟨g, 0, none⟩) 1 cap] w fun en w' => ∃ x y, en = .returned (.slice (some ⟨w.heap.size, 0, none⟩) 1 1) ∧ w'.heap[w.heap.size]? = some (.cells #[x, y] 338 (0, 0)) ∧ I (w.heap.size + 1) w' (.agg #[x, y]) ∧ MkV wT w' kb mv ma mf sg vs' ∧ Only (fun q => q = mv ∨ q = ma) w w' := by
  have hm := mk380one
  have hsf := hsfT
  have hgl := World.block_lt_of_cell? w ⟨g, 0, none⟩ hg
  simp only at hgl
  have hml := heap_lt h.v
  have hkl := heap_lt h.k
  have hal := heap_lt h.a
  have hw0 := h.t.size
  have HE := hide (fun W (hW : Only (fun _ => False) w W) => hE kb mv ma mf sg W (h.calm hW))
  clear h hE
  go_enter Tryz.func128, Tryz.ntmps128
  go_wp2
  go_loopg [13] 1 (fun gh s13 wr => (gh = 1 ∧ s13 = .int .i64 0 ∧ wr = w.alloc (.cells #[.nilFunc, .nilFunc] 338)) ∨ (gh = 0 ∧ s13 = .int .i64 1 ∧ ∃ x y, wr.heap[w.heap.size]? = some (.cells #[x, y] 338 (0, 0)) ∧ I (w.heap.size + 1) wr (.agg #[x, y]) ∧ MkV wT wr kb mv ma mf sg vs' ∧ Only (fun q => q = mv ∨ q = ma) w wr))
  case atStart => exact Or.inl ⟨rfl, rfl, rfl⟩
  case round =>
    rcases hrel with ⟨hgh, rfl, hw⟩ | ⟨hgh, rfl, x, y, h1, h2, h3, h4⟩
    · subst hw
      go_wp2_with (go_at_call 163; refine (HE.out _ (onlyA w _)).mono ?_; rintro en w2 ⟨v, rfl, hv, hk, ho⟩; obtain ⟨x1, y1, rfl, hx1, hy1⟩ := hI.shape _ _ _ hv; have s1 : ∀ (a : Addr) (W : World), (store a x1).run Tryz.prog W = stored Tryz.prog W a x1 .plain := fun a W => run_store _ W a _ _ hx1; have s2 : ∀ (a : Addr) (W : World), (store a y1).run Tryz.prog W = stored Tryz.prog W a y1 .plain := fun a W => run_store _ W a _ _ hy1; have hb := (ho.block w.heap.size (by simp) (by omega)).trans (new0 w _); have r0 : w2.cell? ⟨w.heap.size, 0, none⟩ = some .nilFunc := cell_of hb rfl; have r1 : w2.cell? ⟨w.heap.size, 1, none⟩ = some .nilFunc := cell_of hb rfl; have rf := free_of hb; have rl := heap_lt hb; have HV := hide hv; have HB := hide hb; have HO := hide ho; have HK := hide hk; clear hv hb ho hk)
      have hF : Only (fun q => q = w.heap.size) w2 ((w2.setCell ⟨w.heap.size, 0, none⟩ x1).setCell ⟨w.heap.size, 1, none⟩ y1) := ((Only.refl (fun q => q = w.heap.size) w2).setCell (p := ⟨w.heap.size, 0, none⟩) (fun _ => rfl) _).setCell (p := ⟨w.heap.size, 1, none⟩) (fun _ => rfl) _
      go_roundg 0
      case measure => omega
      case rel => exact Or.inr ⟨rfl, rfl, _, _, setP2 HB.out _ _, hI.down _ _ _ _ (hI.keep _ _ _ _ HV.out (hF.mono (fun i _ e => by rw [e]; simp))) (by simp), HK.out.far hF (by omega) (by omega) (by omega) (by omega), only_box (onlyA w _) HO.out hF (Nat.le_refl _)⟩
    · go_wp2
      go_ret
      exact ⟨x, y, rfl, h1, h2, h3, h4⟩
end Go.Proofs.YtdbdbaepmdmnfaaGreatDoor

namespace Go.Proofs.YtdbdbaepmdmnfaaGreatDoor
open Go.RowKit
variable {wT : World}
/-- What making a statement does: f is counted, statement or block. -/
def MadeS (wT : World) (f : Nat) (kb mv ma mf sg : Nat) (w0 : World) (s : Value) (K : Nat → World → Value → Prop) (vs vs' : VA) : Prop := ∀ W, MkV wT W kb mv ma mf sg vs → Only (fun q => q = mv ∨ q = ma) w0 W → Calls Tryz.prog f #[.pointer (some ⟨kb, 0, none⟩), s] W fun en w' => ∃ x, en = .returned (.agg #[x]) ∧ K W.heap.size w' x ∧ MkV wT w' kb mv ma mf sg vs' ∧ Only (fun q => q = mv ∨ q = ma) W w'
/-- What prints an expression. -/
def PrintK (I : Nat → World → Value → Prop) (B : Nat) (w : World) (v : Value) : Prop := ∃ lb eb c g x y z, v = .func (.func 280) #[] #[.pointer (some ⟨lb, 0, none⟩), .pointer (some ⟨eb, 0, none⟩)] ∧ (B ≤ lb ∧ B ≤ eb ∧ B ≤ c ∧ B ≤ g) ∧ w.heap[lb]? = some (.cells #[.slice (some ⟨g, 0, none⟩) 1 1] 252 (0, 0)) ∧ w.heap[g]? = some (.cells #[x, y] 338 (0, 0)) ∧ I B w (.agg #[x, y]) ∧ w.heap[eb]? = some (.cells #[.func (.func 298) #[] #[.pointer (some ⟨c, 0, none⟩)], z] 338 (0, 0)) ∧ w.heap[c]? = some (.cells #[.int .i64 0, .int .i64 0, .string ⟨#[]⟩] 203 (0, 0))
theorem printK_keeps {I : Nat → World → Value → Prop} (hI : KeepsE I) : Keeps (PrintK I) where
  isF := fun _ _ _ ⟨_, _, _, _, _, _, _, e, _⟩ => ⟨_, _, e⟩
  keep := fun B w w' x ⟨lb, eb, c, g, x1, y1, z, e, ⟨k1, k2, k3, k4⟩, h1, h2, h3, h4, h5⟩ ho => ⟨lb, eb, c, g, x1, y1, z, e, ⟨k1, k2, k3, k4⟩, (ho.block lb (heap_lt h1) (by omega)).trans h1, (ho.block g (heap_lt h2) (by omega)).trans h2, hI.keep _ _ _ _ h3 ho, (ho.block eb (heap_lt h4) (by omega)).trans h4, (ho.block c (heap_lt h5) (by omega)).trans h5⟩
  down := fun A B w x ⟨lb, eb, c, g, x1, y1, z, e, ⟨k1, k2, k3, k4⟩, h1, h2, h3, h⟩ hA => ⟨lb, eb, c, g, x1, y1, z, e, ⟨by omega, by omega, by omega, by omega⟩, h1, h2, hI.down _ _ _ _ h3 hA, h⟩
set_option maxRecDepth 20000 in
set_option maxHeartbeats 4000000 in
theorem print_madeK (t : TypeId) (u : Value) (I : Nat → World → Value → Prop) (hI : KeepsE I) (vs vs' : VA) (hE : MakesE wT (.iface t u) I vs vs') (kb mv ma mf sg : Nat) (g cap : Nat) (w : World) (h : MkV wT w kb mv ma mf sg vs) (hg : w.cell? ⟨g, 0, none⟩ = some (.iface t u)) : Calls Tryz.prog 210 #[.pointer (some ⟨kb, 0, none⟩), .agg #[.slice (some ⟨g, 0, none⟩) 1 cap, .nilIface]] w fun en w' => ∃ v, en = .returned (.agg #[v]) ∧ PrintK I w.heap.size w' v ∧ MkV wT w' kb mv ma mf sg vs' ∧ Only (fun q => q = mv ∨ q = ma) w w' := by
  have hmf := hmfT
  have hsf := hsfT
  have hsn := hsnT
  have hgl := World.block_lt_of_cell? w ⟨g, 0, none⟩ hg
  simp only at hgl
  have hml := heap_lt h.v
  have hkl := heap_lt h.k
  have hal := heap_lt h.a
  have hw0 := h.t.size
  have O2 := (onlyA w (.cells #[.slice (some ⟨g, 0, none⟩) 1 cap, .nilIface] 285)).alloc (.cells #[.nilFunc] 185)
  have HE := hide (exprsk_made t u I hI vs vs' hE kb mv ma mf sg g cap _ (h.calm O2) ((O2.cell (p := ⟨g, 0, none⟩) hgl (fun e => e)).trans hg))
  have HC := hide (exprOr_nil (some ⟨kb, 0, none⟩) 0 0 ⟨#[]⟩)
  have HO2 := hide O2
  have HZ := hide (new0 w (.cells #[.slice (some ⟨g, 0, none⟩) 1 cap, .nilIface] 285))
  clear h O2 hE
  go_enter Tryz.func210, Tryz.ntmps210
  go_wp2_with fail
  refine (HE.out).mono ?_
  rintro en w2 ⟨x, y, rfl, hb, hv, hk, ho⟩
  simp only [World.size_alloc] at hb hv
  have h0 := (ho.block w.heap.size (by simp; omega) (by omega)).trans ((Below.heap_alloc _ _ _ (by simp)).trans HZ.out)
  have h1 := (ho.block (w.heap.size + 1) (by simp) (by omega)).trans (new_at2 (W := w.alloc (.cells #[.slice (some ⟨g, 0, none⟩) 1 cap, .nilIface] 285)) (by simp) (.cells #[.nilFunc] 185))
  have m1 : w2.cell? ⟨w.heap.size, 1, none⟩ = some .nilIface := cell_of h0 rfl
  have hzz : w.heap.size + 1 + 1 ≤ w2.heap.size := by have := ho.size; simpa using this
  have hl0 : w.heap.size < w2.heap.size := by omega
  have hl1 : w.heap.size + 1 < w2.heap.size := by omega
  have HB := hide hb
  have HV := hide hv
  have H1 := hide h1
  have HO : Hid (Only (fun q => q = mv ∨ q = ma) w w2) := hide ((HO2.out.mono (fun _ _ e => e.elim)).trans ho (fun _ _ e => e))
  have HK := hide hk
  clear hb hv hk h0 h1 ho HE
  go_wp2_with fail
  refine (HC.out _).mono ?_
  rintro en w3 ⟨rfl, hb3, ho3⟩
  simp only [World.size_alloc] at hb3
  have hO3 : Only (fun _ => False) w2 w3 := fromAlloc ho3
  have hz3 : w2.heap.size + 1 ≤ w3.heap.size := by have := ho3.size; simpa using this
  have hr := (hO3.block _ (heap_lt H1.out) (fun e => e)).trans H1.out
  have hl := (ho3.block w2.heap.size (by simp) (fun e => e)).trans (new0 w2 (.cells #[.slice (some ⟨w.heap.size + 1 + 1, 0, none⟩) 1 1] 252))
  have hgb := (hO3.block _ (heap_lt HB.out) (fun e => e)).trans HB.out
  have hvr := hI.keep _ _ _ _ HV.out (hO3.mono (fun _ _ e => e.elim))
  have r0 : w3.cell? ⟨w.heap.size + 1, 0, none⟩ = some .nilFunc := cell_of hr rfl
  have rf := free_of hr
  have hrl := heap_lt hr
  have HB3 := hide hb3
  have HL := hide hl
  have HGB := hide hgb
  have HVR := hide hvr
  have HO3 : Hid (Only (fun q => q = mv ∨ q = ma) w w3) := hide (HO.out.trans hO3 (fun _ _ e => e.elim))
  have HK3 := hide (HK.out.calm hO3)
  clear hb3 hr hl hgb hvr ho3 HC hO3
  go_wp2
  refine bodyPost_ret (v := .agg #[.func (.func 280) #[] #[.pointer (some ⟨w2.heap.size, 0, none⟩), .pointer (some ⟨w3.heap.size, 0, none⟩)]]) (by simp [results, Tryz.results210, go_sem, r0, hrl]) rfl ⟨_, rfl, ⟨w2.heap.size, w3.heap.size, w2.heap.size + 1 + 1 + 1, w.heap.size + 1 + 1, x, y, .nilFunc, rfl, ⟨by omega, by omega, by omega, by omega⟩, ?_, ?_, ?_, ?_, ?_⟩, ?_, ?_⟩
  · exact (Below.heap_alloc _ _ _ (by rw [size_setCell]; omega)).trans ((Below.heap_setCell _ _ _ _ (by show w2.heap.size ≠ w.heap.size + 1; omega)).trans HL.out)
  · exact (Below.heap_alloc _ _ _ (by rw [size_setCell]; have := heap_lt HGB.out; omega)).trans ((Below.heap_setCell _ _ _ _ (by show w.heap.size + 1 + 1 ≠ w.heap.size + 1; omega)).trans HGB.out)
  · exact hI.down _ _ _ _ (hI.keep _ _ _ _ HVR.out (((Only.refl _ w3).setCell (p := ⟨w.heap.size + 1, 0, none⟩) (fun _ => by show w.heap.size + 1 < _; omega) _).alloc _)) (by omega)
  · exact new_at2 (by simp) _
  · exact (Below.heap_alloc _ _ _ (by rw [size_setCell]; have := heap_lt HB3.out; omega)).trans ((Below.heap_setCell _ _ _ _ (by show w2.heap.size + 1 + 1 + 1 ≠ w.heap.size + 1; omega)).trans HB3.out)
  · exact (HK3.out.far (b := w.heap.size + 1) ((Only.refl (fun q => q = w.heap.size + 1) w3).setCell (p := ⟨w.heap.size + 1, 0, none⟩) (fun _ => rfl) _) (by omega) (by omega) (by omega) (by omega)).calm (onlyA _ _)
  · exact (HO3.out.setCell (p := ⟨w.heap.size + 1, 0, none⟩) (fun h => absurd h (by show ¬ w.heap.size + 1 < w.heap.size; omega)) _).alloc _
set_option maxRecDepth 20000 in
set_option maxHeartbeats 4000000 in
theorem counted_printK (t : TypeId) (u : Value) (I : Nat → World → Value → Prop) (hI : KeepsE I) (vs vs' : VA) (hE : MakesE wT (.iface t u) I vs vs') (kb mv ma mf sg : Nat) (g cap : Nat) (w : World) (h : MkV wT w kb mv ma mf sg vs) (hg : w.cell? ⟨g, 0, none⟩ = some (.iface t u)) :
    Calls Tryz.prog 161 #[.pointer (some ⟨kb, 0, none⟩), .iface 285 (.agg #[.slice (some ⟨g, 0, none⟩) 1 cap, .nilIface])] w fun en w' => ∃ x, en = .returned (.agg #[x]) ∧ PrintK I w.heap.size w' x ∧ MkV wT w' kb mv ma mf sg vs' ∧ Only (fun q => q = mv ∨ q = ma) w w' := by
  have hmf := hmfT
  have hsf := hsfT
  have hsn := hsnT
  have t1 := ts419_424
  have t2 := ts419_427
  have t3 := ts419_429
  have t4 := ts419_432
  have t5 := ts419_419
  have hgl := World.block_lt_of_cell? w ⟨g, 0, none⟩ hg
  simp only at hgl
  have hml := heap_lt h.v
  have hkl := heap_lt h.k
  have hal := heap_lt h.a
  have hw0 := h.t.size
  have HR := hide (fun W (hW : Only (fun _ => False) w W) => print_madeK t u I hI vs vs' hE kb mv ma mf sg g cap W (h.calm hW) ((hW.cell (p := ⟨g, 0, none⟩) hgl (fun e => e)).trans hg))
  clear h hE
  go_enter Tryz.func161, Tryz.ntmps161
  go_wp2_with fail
  refine (HR.out _ ((onlyA w _).alloc _)).mono ?_
  rintro en w2 ⟨v, rfl, hv, hk, ho⟩
  have hv2 := hv
  obtain ⟨lb, eb, c, g2, x, y, z, rfl, _⟩ := hv2
  have hb := (ho.block w.heap.size (by simp; omega) (by omega)).trans ((Below.heap_alloc _ _ _ (by simp)).trans (new0 w _))
  have r0 : w2.cell? ⟨w.heap.size, 0, none⟩ = some .nilFunc := cell_of hb rfl
  have rf := free_of hb
  have rl := heap_lt hb
  have HV := hide hv
  have HO := hide ho
  have HK := hide hk
  clear hv hk ho hb HR
  go_wp2
  refine bodyPost_ret (v := .agg #[.func (.func 280) #[] #[.pointer (some ⟨lb, 0, none⟩), .pointer (some ⟨eb, 0, none⟩)]]) (by simp [results, Tryz.results161, go_sem, r0]) rfl ⟨_, rfl, (printK_keeps hI).down _ _ _ _ ((printK_keeps hI).keep _ _ _ _ HV.out ((Only.refl _ w2).setCell (p := ⟨w.heap.size, 0, none⟩) (fun _ => by show w.heap.size < _; simp; omega) _)) (by simp; omega), HK.out.far (b := w.heap.size) ((Only.refl (fun q => q = w.heap.size) w2).setCell (p := ⟨w.heap.size, 0, none⟩) (fun _ => rfl) _) (by omega) (by omega) (by omega) (by omega), ?_⟩
  exact (((((onlyA w _).alloc _).mono (fun _ _ e => e.elim)).trans HO.out (fun _ _ e => e)).setCell (p := ⟨w.heap.size, 0, none⟩) (fun h => absurd h (by show ¬ w.heap.size < w.heap.size; omega)) _)
end Go.Proofs.YtdbdbaepmdmnfaaGreatDoor

