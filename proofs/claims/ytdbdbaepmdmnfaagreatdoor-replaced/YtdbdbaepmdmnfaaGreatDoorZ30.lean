import Derived.Test.YtdbdbaepmdmnfaaGreatDoorZ28
import Derived.Deep.RegionHeld3
import Derived.Deep.DeepCutAuto
import Derived.Test.YtdbdbaepmdmnfaaGreatDoorZ29
namespace Go.Proofs.YtdbdbaepmdmnfaaGreatDoor
open Go.RowKit
set_option maxRecDepth 20000 in
set_option maxHeartbeats 1000000 in
theorem ixf_none (f : Value) (w : World) : Calls Tryz.prog 381 #[.slice none 0 0, f] w fun en w' => en = .returned (.int .i64 (-1)) ∧ w' = w := by
  go_enter Tryz.func381, Tryz.ntmps381
  go_wp2
  go_loop [8] (fun s => s = .int .i64 0) (fun _ => 0)
  case atStart => exact rfl
  case round =>
    subst hrel
    go_wp2
    go_ret
    exact ⟨rfl, rfl⟩
set_option maxRecDepth 20000 in
set_option maxHeartbeats 1000000 in
theorem kparam_none (kb : Nat) (x : ByteArray) (a : Int) (w : World) (h : w.cell? ⟨kb, 4, none⟩ = some (.slice none 0 0)) : Calls Tryz.prog 303 #[.pointer (some ⟨kb, 0, none⟩), .agg #[.string x, .int .i64 a]] w fun en w' => en = .returned (.int .i64 (-1)) ∧ w' = w.alloc (.cells #[.string x, .int .i64 a] 92) := by
  have hmf := hmfT
  have kl := World.block_lt_of_cell? w ⟨kb, 4, none⟩ h
  simp only at kl
  have HI := hide ixf_none
  go_enter Tryz.func303, Tryz.ntmps303
  go_wp2_with (go_at_call 381; refine (HI.out _ _).mono ?_; rintro en w2 ⟨rfl, hw2⟩; subst hw2)
  go_ret
  exact ⟨rfl, rfl⟩
theorem MkAt.only {W W' : World} {kb mv ma mf sg : Nat} (h : MkAt W kb mv ma mf sg) (ho : Only (fun _ => False) W W') : MkAt W' kb mv ma mf sg := ⟨(ho.block kb (heap_lt h.k) (fun e => e)).trans h.k, (ho.block mv (heap_lt h.v) (fun e => e)).trans h.v, (ho.block ma (heap_lt h.a) (fun e => e)).trans h.a⟩
set_option maxRecDepth 100000 in
theorem mk380one (w : World) : (Instr.makeSlice 252 (.int .i64 1) (.int .i64 1)).run Tryz.prog w = .ok (.slice (some ⟨w.heap.size, 0, none⟩) 1 1) (w.alloc (.cells #[.nilFunc, .nilFunc] 338)) := by kernel_rfl
end Go.Proofs.YtdbdbaepmdmnfaaGreatDoor

namespace Go.Proofs.YtdbdbaepmdmnfaaGreatDoor
open Go.RowKit
variable {wT : World}
/-- What a maker has numbered: the variables, the arrays. -/
structure VA where
  v : Array MapEntry
  a : Array MapEntry
/-- A maker that has numbered the variables and the arrays vs. -/
structure MkV (wT : World) (W : World) (kb mv ma mf sg : Nat) (vs : VA) : Prop where
  k : W.heap[kb]? = some (.cells #[.map (some mv), .map (some ma), .map (some mf), .slice (some ⟨sg, 0, none⟩) 0 0, .slice none 0 0] 182 (0, 0))
  v : W.heap[mv]? = some (.map vs.v vs.v.size)
  a : W.heap[ma]? = some (.map vs.a vs.a.size)
  nea : ma ≠ mv
  lv : wT.heap.size ≤ mv
  la : wT.heap.size ≤ ma
  t : Only (fun _ => False) wT W
theorem MkV.ne {W kb mv ma mf sg vs} (h : MkV wT W kb mv ma mf sg vs) : ¬ (kb = mv ∨ kb = ma) := fun e => by
  have h1 := h.k
  rcases e with e | e
  · rw [e, h.v] at h1; cases h1
  · rw [e, h.a] at h1; cases h1
theorem MkV.calm {W W' kb mv ma mf sg vs} (h : MkV wT W kb mv ma mf sg vs) (ho : Only (fun _ => False) W W') : MkV wT W' kb mv ma mf sg vs := ⟨(ho.block kb (heap_lt h.k) (fun e => e)).trans h.k, (ho.block mv (heap_lt h.v) (fun e => e)).trans h.v, (ho.block ma (heap_lt h.a) (fun e => e)).trans h.a, h.nea, h.lv, h.la, h.t.trans ho (fun _ _ e => e)⟩
theorem look_vs {w : World} {M n : Nat} {vs : Array MapEntry} {x : ByteArray} {i : Nat} {v : Value} (hne : vs.isEmpty = false) (h : w.heap[M]? = some (.map vs n)) (hf : Instr.findNow .string (.string x) vs.toList 0 = some (some (i, v))) : (Instr.lookup 178 (.map (some M)) (.string x) true).run Tryz.prog w = .ok (.tuple #[v, .bool true]) w := by
  have h1 := MapKept.run_getObj_map (P := Tryz.prog) h
  have h2 : (Instr.checkKey false 10000 9 (.string x)).run Tryz.prog w = .ok () w := MapKept.run_checkKey (d := .string) Tryz.underlying9 (by simp [MapKept.IsKey]) false 9999
  have h3 : (Instr.findKey 9 (.string x) vs.toList).run Tryz.prog w = .ok (some (i, v)) w := MapKept.run_findKey Tryz.underlying9 hf
  simp [Instr.lookup, go_sem, h1, h2, h3, hne]
theorem look_vs_no {w : World} {M n : Nat} {vs : Array MapEntry} {x : ByteArray} (hne : vs.isEmpty = false) (h : w.heap[M]? = some (.map vs n)) (hf : Instr.findNow .string (.string x) vs.toList 0 = some none) : (Instr.lookup 178 (.map (some M)) (.string x) true).run Tryz.prog w = .ok (.tuple #[.int .i64 0, .bool false]) w := by
  have h1 := MapKept.run_getObj_map (P := Tryz.prog) h
  have h2 : (Instr.checkKey false 10000 9 (.string x)).run Tryz.prog w = .ok () w := MapKept.run_checkKey (d := .string) Tryz.underlying9 (by simp [MapKept.IsKey]) false 9999
  have h3 : (Instr.findKey 9 (.string x) vs.toList).run Tryz.prog w = .ok none w := MapKept.run_findKey Tryz.underlying9 hf
  simp [Instr.lookup, go_sem, h1, h2, h3, hne]
theorem upd_vs {w : World} {M n : Nat} {vs : Array MapEntry} {x : ByteArray} (v : Value) (h : w.heap[M]? = some (.map vs n)) (hf : Instr.findNow .string (.string x) vs.toList 0 = some none) : ∃ W, (Instr.mapUpdate 178 (.map (some M)) (.string x) v).run Tryz.prog w = .ok () W ∧ Only (fun k => k = M) w W ∧ W.heap[M]? = some (.map (vs.push ⟨.string x, v, n⟩) (n + 1)) := by
  have hc : (Instr.checkKey false 10000 9 (.string x)).run Tryz.prog w = .ok () w := MapKept.run_checkKey (k := .string x) Tryz.underlying9 (by simp [MapKept.IsKey]) false 9999
  refine ⟨{ w with heap := w.heap.setIfInBounds M (.map (vs.push ⟨.string x, v, n⟩) (n + 1)) }, ?_, ⟨rfl, rfl, rfl, by simp, fun k _ hk => ?_⟩, ?_⟩
  · simp [Instr.mapUpdate, run_underlying Tryz.underlying178, MapKept.run_getObj_map h, hc, MapKept.run_findKey Tryz.underlying9 hf, MapKept.run_setObj_map _ h, Result.andThen]
  · simp [Ne.symm hk]
  · rw [Array.getElem?_setIfInBounds, if_pos rfl, if_pos (heap_lt h)]
/-- What numbering a name does. -/
def NumOK (x : ByteArray) (k : Nat) (vs vs' : Array MapEntry) : Prop := ∀ (mv : Nat) (a : Int) (W : World), W.heap[mv]? = some (.map vs vs.size) → Calls Tryz.prog 305 #[.map (some mv), .agg #[.string x, .int .i64 a]] W fun en w' => en = .returned (.int .i64 k) ∧ w'.heap[mv]? = some (.map vs' vs'.size) ∧ Only (fun q => q = mv) W w'
set_option maxRecDepth 20000 in
set_option maxHeartbeats 1000000 in
theorem num_known (x : ByteArray) (k i : Nat) (vs : Array MapEntry) (hne : vs.isEmpty = false) (hf : Instr.findNow .string (.string x) vs.toList 0 = some (some (i, .int .i64 k))) : NumOK x k vs vs := by
  intro mv a w h
  have hl := look_vs (w := w.alloc (.cells #[.string x, .int .i64 a] 92)) hne ((Below.heap_alloc _ _ _ (heap_lt h)).trans h) hf
  have HM := hide ((Below.heap_alloc _ (.cells #[.string x, .int .i64 a] 92) _ (heap_lt h)).trans h)
  clear h
  go_enter Tryz.func305, Tryz.ntmps305
  go_wp2
  go_ret
  exact ⟨rfl, HM.out, (onlyA _ _).mono (fun _ _ e => e.elim)⟩
set_option maxRecDepth 20000 in
set_option maxHeartbeats 1000000 in
theorem num_new (x : ByteArray) (vs : Array MapEntry) (hne : vs.isEmpty = false) (hf : Instr.findNow .string (.string x) vs.toList 0 = some none) : NumOK x vs.size vs (vs.push ⟨.string x, .int .i64 vs.size, vs.size⟩) := by
  intro mv a w h
  have hm := (Below.heap_alloc _ (.cells #[.string x, .int .i64 a] 92) _ (heap_lt h)).trans h
  have hl := look_vs_no (w := w.alloc (.cells #[.string x, .int .i64 a] 92)) hne hm hf
  have hg := len287G (w.alloc (.cells #[.string x, .int .i64 a] 92)) mv vs vs.size hm
  obtain ⟨W2, hmu, ho, hM2⟩ := upd_vs (w := w.alloc (.cells #[.string x, .int .i64 a] 92)) (.int .i64 vs.size) hm hf
  have HM := hide hM2
  have HO := hide ho
  clear h hm hM2 ho
  go_enter Tryz.func305, Tryz.ntmps305
  go_wp2_with fail
  go_ret
  exact ⟨rfl, by rw [Array.size_push]; exact HM.out, ((onlyA w _).mono (fun _ _ e => e.elim)).trans HO.out (fun _ _ e => e)⟩
end Go.Proofs.YtdbdbaepmdmnfaaGreatDoor

namespace Go.Proofs.YtdbdbaepmdmnfaaGreatDoor
open Go.RowKit
variable {wT : World}
/-- The made variable of number k. -/
def VarK (k B : Nat) (w : World) (v : Value) : Prop := ∃ g nb, v = .agg #[.func (.func 386) #[] #[.pointer (some ⟨g, 0, none⟩)], .func (.func 307) #[] #[.pointer (some ⟨nb, 0, none⟩)]] ∧ B ≤ g ∧ B ≤ nb ∧ w.heap[g]? = some (.cells #[.func (.func 307) #[] #[.pointer (some ⟨nb, 0, none⟩)]] 336 (0, 0)) ∧ w.heap[nb]? = some (.cells #[.int .i64 k] 3 (0, 0))
theorem vark_keep {k B : Nat} {w w' : World} {v : Value} (h : VarK k B w v) (ho : Only (fun q => q < B) w w') : VarK k B w' v := by
  obtain ⟨g, nb, e, k1, k2, h1, h2⟩ := h
  exact ⟨g, nb, e, k1, k2, (ho.block g (heap_lt h1) (by omega)).trans h1, (ho.block nb (heap_lt h2) (by omega)).trans h2⟩
theorem vark_down {k A B : Nat} {w : World} {v : Value} (h : VarK k B w v) (hA : A ≤ B) : VarK k A w v := by
  obtain ⟨g, nb, e, k1, k2, h1, h2⟩ := h
  exact ⟨g, nb, e, by omega, by omega, h1, h2⟩
set_option maxRecDepth 20000 in
set_option maxHeartbeats 4000000 in
theorem vark_made (kb mv ma mf sg : Nat) (x : ByteArray) (k : Nat) (vs : VA) (v' : Array MapEntry) (hN : NumOK x k vs.v v') (a : Int) (w : World) (h : MkV wT w kb mv ma mf sg vs) : Calls Tryz.prog 218 #[.pointer (some ⟨kb, 0, none⟩), .agg #[.string x, .int .i64 a]] w fun en w' => ∃ v, en = .returned v ∧ VarK k w.heap.size w' v ∧ MkV wT w' kb mv ma mf sg ⟨v', vs.a⟩ ∧ Only (fun q => q = mv ∨ q = ma) w w' := by
  have hmf := hmfT
  have hsf := hsfT
  have hsn := hsnT
  have k0 : w.cell? ⟨kb, 0, none⟩ = some (.map (some mv)) := cell_of h.k rfl
  have k4 : w.cell? ⟨kb, 4, none⟩ = some (.slice none 0 0) := cell_of h.k rfl
  have kl := heap_lt h.k
  have O2 := (onlyA w (.cells #[.string x, .int .i64 a] 92)).alloc (.cells #[.nilFunc, .nilFunc] 338)
  have HP := hide (kparam_none kb x a _ ((O2.cell (p := ⟨kb, 4, none⟩) kl (fun e => e)).trans k4))
  have O3 := O2.alloc (.cells #[.string x, .int .i64 a] 92)
  have HN := hide (fun W (hW : Only (fun _ => False) w W) => hN mv a W ((hW.block mv (heap_lt h.v) (fun e => e)).trans h.v))
  have hvl := heap_lt h.v
  have hkm : kb ≠ mv := fun e => h.ne (Or.inl e)
  have HK := hide h
  have HF := hide (found_made 307)
  have HO3 := hide O3
  clear h O2 O3 hN
  go_enter Tryz.func218, Tryz.ntmps218
  go_wp2_with (first | (go_at_call 303; refine (HP.out).mono ?_; rintro en w2 ⟨rfl, hw2⟩; subst hw2))
  have d0 : (((w.alloc (.cells #[.string x, .int .i64 a] 92)).alloc (.cells #[.nilFunc, .nilFunc] 338)).alloc (.cells #[.string x, .int .i64 a] 92)).drew.cell? ⟨kb, 0, none⟩ = some (.map (some mv)) := (HO3.out.cell (p := ⟨kb, 0, none⟩) kl (fun e => e)).trans k0
  have d1 : (((w.alloc (.cells #[.string x, .int .i64 a] 92)).alloc (.cells #[.nilFunc, .nilFunc] 338)).alloc (.cells #[.string x, .int .i64 a] 92)).drew.cell? ⟨w.heap.size, 0, none⟩ = some (.string x) := past (past (cell_of (new0 w _) rfl) _) _
  have d2 : (((w.alloc (.cells #[.string x, .int .i64 a] 92)).alloc (.cells #[.nilFunc, .nilFunc] 338)).alloc (.cells #[.string x, .int .i64 a] 92)).drew.cell? ⟨w.heap.size, 1, none⟩ = some (.int .i64 a) := past (past (cell_of (new0 w _) rfl) _) _
  have n0 : (((w.alloc (.cells #[.string x, .int .i64 a] 92)).alloc (.cells #[.nilFunc, .nilFunc] 338)).alloc (.cells #[.string x, .int .i64 a] 92)).cell? ⟨kb, 0, none⟩ = some (.map (some mv)) := (HO3.out.cell (p := ⟨kb, 0, none⟩) kl (fun e => e)).trans k0
  have n1 : (((w.alloc (.cells #[.string x, .int .i64 a] 92)).alloc (.cells #[.nilFunc, .nilFunc] 338)).alloc (.cells #[.string x, .int .i64 a] 92)).cell? ⟨w.heap.size, 0, none⟩ = some (.string x) := past (past (cell_of (new0 w _) rfl) _) _
  have n2 : (((w.alloc (.cells #[.string x, .int .i64 a] 92)).alloc (.cells #[.nilFunc, .nilFunc] 338)).alloc (.cells #[.string x, .int .i64 a] 92)).cell? ⟨w.heap.size, 1, none⟩ = some (.int .i64 a) := past (past (cell_of (new0 w _) rfl) _) _
  go_cut [6] (fun s6 wc => ∃ nb, s6 = .pointer (some ⟨nb, 0, none⟩) ∧ w.heap.size + 1 < nb ∧ wc.heap[nb]? = some (.cells #[.int .i64 k] 3 (0, 0)) ∧ wc.heap[w.heap.size + 1]? = some (.cells #[.nilFunc, .nilFunc] 338 (0, 0)) ∧ wc.heap[mv]? = some (.map v' v'.size) ∧ Only (fun q => q = mv) w wc)
  case first =>
    go_region_held3 (fun W => W.cell? ⟨kb, 0, none⟩ = some (.map (some mv)) ∧ W.cell? ⟨w.heap.size, 0, none⟩ = some (.string x) ∧ W.cell? ⟨w.heap.size, 1, none⟩ = some (.int .i64 a)) (repeat (first | (with_reducible assumption) | (with_reducible refine past ?_ _) | (with_reducible refine pastD ?_ _) | (with_reducible refine And.intro ?_ ?_) | ((with_reducible refine farC ?_ ?_); (rotate_left; focus (simp <;> omega)))))
      (first | (go_at_call 305; refine (HN.out _ (by repeat (first | with_reducible exact Only.refl _ _ | with_reducible refine Only.alloc ?_ _ | with_reducible refine toDrew ?_))).mono ?_; rintro en w2 ⟨rfl, hm2, ho2⟩; have q0 : w2.cell? ⟨kb, 0, none⟩ = some (.map (some mv)) := (ho2.cell (p := ⟨kb, 0, none⟩) (by show kb < _; simp <;> omega) hkm).trans (by repeat (first | (with_reducible assumption) | (with_reducible refine past ?_ _) | (with_reducible refine pastD ?_ _))); have q1 : w2.cell? ⟨w.heap.size, 0, none⟩ = some (.string x) := (ho2.cell (p := ⟨w.heap.size, 0, none⟩) (by show w.heap.size < _; simp <;> omega) (by show ¬ w.heap.size = mv; omega)).trans (by repeat (first | (with_reducible assumption) | (with_reducible refine past ?_ _) | (with_reducible refine pastD ?_ _))); have q2 : w2.cell? ⟨w.heap.size, 1, none⟩ = some (.int .i64 a) := (ho2.cell (p := ⟨w.heap.size, 1, none⟩) (by show w.heap.size < _; simp <;> omega) (by show ¬ w.heap.size = mv; omega)).trans (by repeat (first | (with_reducible assumption) | (with_reducible refine past ?_ _) | (with_reducible refine pastD ?_ _))); (try (refine lay (P := w2.heap[w.heap.size + 1 + 1 + 1]? = some (.cells #[.int .i64 0] 3 (0, 0))) ?_ (fun bq => ?_); (focus (refine (ho2.block _ ?_ ?_).trans ?_; (focus (first | (simp; done) | (simp; omega))); (focus (show ¬ w.heap.size + 1 + 1 + 1 = mv; omega)); (repeat (first | ((with_reducible refine new_at2D ?_ _); focus (simp; done)) | ((with_reducible refine (heap_allocD _ _ ?_).trans ?_); (focus (first | (simp; done) | (simp; omega)))) | ((with_reducible refine new_at2 ?_ _); focus (simp; done)) | ((with_reducible refine (Below.heap_alloc _ _ _ ?_).trans ?_); (focus (first | (simp; done) | (simp; omega)))))); done)); have bc : w2.cell? ⟨w.heap.size + 1 + 1 + 1, 0, none⟩ = some (.int .i64 0) := cell_of bq rfl; have bf := free_of bq; have bl := heap_lt bq; have HBq := hide bq; clear bq)); have HB1 : Hid (w2.heap[w.heap.size + 1]? = some (.cells #[.nilFunc, .nilFunc] 338 (0, 0))) := hide ((ho2.block (w.heap.size + 1) (by simp <;> omega) (by show ¬ w.heap.size + 1 = mv; omega)).trans (by (repeat (first | ((with_reducible refine new_at2D ?_ _); focus (simp; done)) | ((with_reducible refine (heap_allocD _ _ ?_).trans ?_); (focus (first | (simp; done) | (simp; omega)))) | ((with_reducible refine new_at2 ?_ _); focus (simp; done)) | ((with_reducible refine (Below.heap_alloc _ _ _ ?_).trans ?_); (focus (first | (simp; done) | (simp; omega)))))))); have HOw : Hid (Only (fun q => q = mv) w w2) := hide (Only.trans (by repeat (first | with_reducible exact Only.refl _ _ | with_reducible refine Only.alloc ?_ _ | with_reducible refine toDrew ?_)) ho2 (fun _ _ e => e)); have hz2 := HOw.out.size; have hz3 := heap_lt HB1.out; have HM2 := hide hm2; have HO2 := hide ho2; clear hm2 ho2))
    all_goals
      go_wp2_with fail
      go_meet
      first
        | exact ⟨w2.heap.size, rfl, by omega, new0 w2 _, (Below.heap_alloc _ _ _ hz3).trans HB1.out, (Below.heap_alloc _ _ _ (by omega)).trans HM2.out, HOw.out.alloc _⟩
        | exact ⟨w.heap.size + 1 + 1 + 1, rfl, by omega, heap_setCell_same HBq.out _, (Below.heap_setCell _ _ _ _ (by show w.heap.size + 1 ≠ w.heap.size + 1 + 1 + 1; omega)).trans HB1.out, (Below.heap_setCell _ _ _ _ (by show mv ≠ w.heap.size + 1 + 1 + 1; omega)).trans HM2.out, HOw.out.setCell (p := ⟨w.heap.size + 1 + 1 + 1, 0, none⟩) (fun h => absurd h (by show ¬ w.heap.size + 1 + 1 + 1 < w.heap.size; omega)) _⟩
  case rest =>
    obtain ⟨nb, rfl, hnb, h1, h2, h5, ho⟩ := hcut
    have H5 := hide h5
    have H1 := hide h1
    have H2 := hide h2
    have HO := hide ho
    clear h1 h2 h5 ho HP HN HO3 k0 k4 d0 d1 d2 n0 n1 n2
    go_wp2_with (go_at_call 306; refine (HF.out _ _).mono ?_; rintro en w2 ⟨rfl, hw2⟩; have hO2 : Only (fun _ => False) wc w2 := hw2 ▸ (onlyA wc _).alloc _; have hg : w2.heap[wc.heap.size]? = some (.cells #[.func (.func 307) #[] #[.pointer (some ⟨nb, 0, none⟩)]] 336 (0, 0)) := hw2 ▸ (Below.heap_alloc _ _ _ (by simp)).trans (new0 wc _); have hb := (hO2.block _ (heap_lt H2.out) (fun e => e)).trans H2.out; have hn := (hO2.block _ (heap_lt H1.out) (fun e => e)).trans H1.out; have r0 : w2.cell? ⟨w.heap.size + 1, 0, none⟩ = some .nilFunc := cell_of hb rfl; have r1 : w2.cell? ⟨w.heap.size + 1, 1, none⟩ = some .nilFunc := cell_of hb rfl; have rf := free_of hb; have rl := heap_lt hb; have HG := hide hg; have HNb := hide hn; have HO2 := hide hO2; clear hw2 hg hb hn hO2)
    have hzc := HO.out.size
    refine bodyPost_ret (v := .agg #[.func (.func 386) #[] #[.pointer (some ⟨wc.heap.size, 0, none⟩)], .func (.func 307) #[] #[.pointer (some ⟨nb, 0, none⟩)]]) (by simp [results, Tryz.results218, go_sem, r0, r1]) rfl ⟨_, rfl, ⟨wc.heap.size, nb, rfl, by omega, by omega, ?_, ?_⟩, ⟨?_, ?_, ?_, HK.out.nea, HK.out.lv, HK.out.la, ?_⟩, ?_⟩
    · exact (Below.heap_setCell _ _ _ _ (by show _ ≠ w.heap.size + 1; have := heap_lt H2.out; omega)).trans ((Below.heap_setCell _ _ _ _ (by show _ ≠ w.heap.size + 1; have := heap_lt H2.out; omega)).trans HG.out)
    · exact (Below.heap_setCell _ _ _ _ (by show nb ≠ w.heap.size + 1; omega)).trans ((Below.heap_setCell _ _ _ _ (by show nb ≠ w.heap.size + 1; omega)).trans HNb.out)
    · exact (Below.heap_setCell _ _ _ _ (by show kb ≠ w.heap.size + 1; omega)).trans ((Below.heap_setCell _ _ _ _ (by show kb ≠ w.heap.size + 1; omega)).trans (((HO.out.trans HO2.out (fun _ _ e => e.elim)).block kb kl hkm).trans HK.out.k))
    · exact (Below.heap_setCell _ _ _ _ (by show mv ≠ w.heap.size + 1; omega)).trans ((Below.heap_setCell _ _ _ _ (by show mv ≠ w.heap.size + 1; omega)).trans ((HO2.out.block mv (heap_lt H5.out) (fun e => e)).trans H5.out))
    · exact (Below.heap_setCell _ _ _ _ (by show ma ≠ w.heap.size + 1; have := heap_lt HK.out.a; omega)).trans ((Below.heap_setCell _ _ _ _ (by show ma ≠ w.heap.size + 1; have := heap_lt HK.out.a; omega)).trans (((HO.out.trans HO2.out (fun _ _ e => e.elim)).block ma (heap_lt HK.out.a) HK.out.nea).trans HK.out.a))
    · exact HK.out.t.trans ((((HO.out.trans HO2.out (fun _ _ e => e.elim)).setCell (p := ⟨w.heap.size + 1, 0, none⟩) (fun h => absurd h (by show ¬ w.heap.size + 1 < w.heap.size; omega)) _).setCell (p := ⟨w.heap.size + 1, 1, none⟩) (fun h => absurd h (by show ¬ w.heap.size + 1 < w.heap.size; omega)) _) : Only (fun q => q = mv) w _) (fun i hi e => by have := HK.out.lv; have := HK.out.la; omega)
    · exact Only.mono (D := fun q => q = mv) (((HO.out.trans HO2.out (fun _ _ e => e.elim)).setCell (p := ⟨w.heap.size + 1, 0, none⟩) (fun h => absurd h (by show ¬ w.heap.size + 1 < w.heap.size; omega)) _).setCell (p := ⟨w.heap.size + 1, 1, none⟩) (fun h => absurd h (by show ¬ w.heap.size + 1 < w.heap.size; omega)) _) (fun _ _ e => Or.inl e)
end Go.Proofs.YtdbdbaepmdmnfaaGreatDoor

namespace Go.Proofs.YtdbdbaepmdmnfaaGreatDoor
open Go.RowKit
variable {wT : World}
/-- What is told of a made expression stays. -/
structure KeepsE (I : Nat → World → Value → Prop) : Prop where
  shape : ∀ B w v, I B w v → ∃ x y, v = .agg #[x, y] ∧ x.oneCell' = true ∧ y.oneCell' = true
  keep : ∀ B w w' v, I B w v → Only (fun q => q < B) w w' → I B w' v
  down : ∀ A B w v, I B w v → A ≤ B → I A w v
theorem vark_keeps (k : Nat) : KeepsE (VarK k) where
  shape := fun _ _ _ ⟨_, _, e, _⟩ => ⟨_, _, e, rfl, rfl⟩
  keep := fun _ _ _ _ h ho => vark_keep h ho
  down := fun _ _ _ _ h hA => vark_down h hA
theorem MkV.far {W W' kb mv ma mf sg vs b} (h : MkV wT W kb mv ma mf sg vs) (ho : Only (fun q => q = b) W W') (h1 : kb ≠ b) (h2 : mv ≠ b) (h3 : ma ≠ b) (h4 : wT.heap.size ≤ b) : MkV wT W' kb mv ma mf sg vs := ⟨(ho.block kb (heap_lt h.k) h1).trans h.k, (ho.block mv (heap_lt h.v) h2).trans h.v, (ho.block ma (heap_lt h.a) h3).trans h.a, h.nea, h.lv, h.la, h.t.trans ho (fun i hi e => absurd hi (by omega))⟩
theorem only_box {w w1 w2 w3 : World} {mv ma b : Nat} (h0 : Only (fun _ => False) w w1) (h1 : Only (fun q => q = mv ∨ q = ma) w1 w2) (h2 : Only (fun q => q = b) w2 w3) (hb : w.heap.size ≤ b) : Only (fun q => q = mv ∨ q = ma) w w3 :=
  (h0.mono (E := fun q => q = mv ∨ q = ma) (fun _ _ e => e.elim)).trans h1 (fun _ _ e => e) |>.trans h2 (fun i hi e => absurd hi (by omega))
/-- What making an expression does. -/
def MakesE (wT : World) (e : Value) (I : Nat → World → Value → Prop) (vs vs' : VA) : Prop := ∀ kb mv ma mf sg W, MkV wT W kb mv ma mf sg vs → Calls Tryz.prog 163 #[.pointer (some ⟨kb, 0, none⟩), e] W fun en w' => ∃ v, en = .returned v ∧ I W.heap.size w' v ∧ MkV wT w' kb mv ma mf sg vs' ∧ Only (fun q => q = mv ∨ q = ma) W w'
set_option maxRecDepth 20000 in
set_option maxHeartbeats 4000000 in
theorem mkx_var (x : ByteArray) (a : Int) (I : Nat → World → Value → Prop) (hI : KeepsE I) (vs vs' : VA) (hM : ∀ kb mv ma mf sg W, MkV wT W kb mv ma mf sg vs → Calls Tryz.prog 218 #[.pointer (some ⟨kb, 0, none⟩), (.agg #[.string x, .int .i64 a])] W fun en w' => ∃ v, en = .returned v ∧ I W.heap.size w' v ∧ MkV wT w' kb mv ma mf sg vs' ∧ Only (fun q => q = mv ∨ q = ma) W w') : MakesE wT (.iface 92 (.agg #[.string x, .int .i64 a])) I vs vs' := by
  intro kb mv ma mf sg w h
  have hmf := hmfT
  have hsf := hsfT
  have hsn := hsnT
  have hml := heap_lt h.v
  have hkl := heap_lt h.k
  have hal := heap_lt h.a
  have hw0 := h.t.size
  have e0 : ∀ W, (Instr.typeAssert (.iface 92 (.agg #[.string x, .int .i64 a])) 238 300 true).run Tryz.prog W = .ok (.tuple #[.agg #[.int .i64 0], .bool false]) W := fun W => by kernel_rfl
  have e1 : ∀ W, (Instr.typeAssert (.iface 92 (.agg #[.string x, .int .i64 a])) 238 303 true).run Tryz.prog W = .ok (.tuple #[.agg #[.string ⟨#[]⟩], .bool false]) W := fun W => by kernel_rfl
  have e2 : ∀ W, (Instr.typeAssert (.iface 92 (.agg #[.string x, .int .i64 a])) 238 304 true).run Tryz.prog W = .ok (.tuple #[.agg #[.string ⟨#[]⟩], .bool false]) W := fun W => by kernel_rfl
  have ey : ∀ W, (Instr.typeAssert (.iface 92 (.agg #[.string x, .int .i64 a])) 238 92 true).run Tryz.prog W = .ok (.tuple #[.agg #[.string x, .int .i64 a], .bool true]) W := fun W => by kernel_rfl
  have HR := hide (fun W (hW : Only (fun _ => False) w W) => hM kb mv ma mf sg W (h.calm hW))
  clear h hM
  go_enter Tryz.func163, Tryz.ntmps163
  go_wp2_with fail
  refine (HR.out _ ((onlyA w _).alloc _)).mono ?_
  rintro en w2 ⟨v, rfl, hv, hk, ho⟩
  obtain ⟨x1, y1, rfl, hx1, hy1⟩ := hI.shape _ _ _ hv
  have hb := (ho.block w.heap.size (by simp; omega) (by omega)).trans ((Below.heap_alloc _ _ _ (by simp)).trans (new0 w _))
  have r0 : w2.cell? ⟨w.heap.size, 0, none⟩ = some .nilFunc := cell_of hb rfl
  have r1 : w2.cell? ⟨w.heap.size, 1, none⟩ = some .nilFunc := cell_of hb rfl
  have rf := free_of hb
  have rl := heap_lt hb
  have s1 : ∀ (a : Addr) (W : World), (store a x1).run Tryz.prog W = stored Tryz.prog W a x1 .plain := fun a W => run_store _ W a _ _ hx1
  have s2 : ∀ (a : Addr) (W : World), (store a y1).run Tryz.prog W = stored Tryz.prog W a y1 .plain := fun a W => run_store _ W a _ _ hy1
  have HV := hide hv
  have HK := hide hk
  have HO := hide ho
  clear hv ho hb HR hk
  go_wp2
  have hF : Only (fun q => q = w.heap.size) w2 ((w2.setCell ⟨w.heap.size, 0, none⟩ x1).setCell ⟨w.heap.size, 1, none⟩ y1) := ((Only.refl (fun q => q = w.heap.size) w2).setCell (p := ⟨w.heap.size, 0, none⟩) (fun _ => rfl) _).setCell (p := ⟨w.heap.size, 1, none⟩) (fun _ => rfl) _
  refine bodyPost_ret (v := .agg #[x1, y1]) (by simp [results, Tryz.results163, go_sem, r0, r1]) rfl ⟨_, rfl, hI.down _ _ _ _ (hI.keep _ _ _ _ HV.out (hF.mono (fun i _ e => by rw [e]; simp; omega))) (by simp; omega), HK.out.far hF (by omega) (by omega) (by omega) (by omega), ?_⟩
  exact only_box ((onlyA w _).alloc _) HO.out hF (Nat.le_refl _)
theorem makesE_name (x : ByteArray) (a k : Nat) (vs : VA) (v' : Array MapEntry) (hN : NumOK x k vs.v v') : MakesE wT (nameV x a) (VarK k) vs ⟨v', vs.a⟩ :=
  mkx_var x a (VarK k) (vark_keeps k) vs ⟨v', vs.a⟩ (fun kb mv ma mf sg W h => vark_made kb mv ma mf sg x k vs v' hN a W h)
theorem const_keeps (k n : Int) (s : ByteArray) : KeepsE (fun B w v => ConstE B w v k n s) where
  shape := fun _ _ _ ⟨_, e, _⟩ => ⟨_, _, e, rfl, rfl⟩
  keep := fun _ _ _ _ h ho => const_keep h ho
  down := fun _ _ _ _ h hA => const_down h hA
end Go.Proofs.YtdbdbaepmdmnfaaGreatDoor

namespace Go.Proofs.YtdbdbaepmdmnfaaGreatDoor
open Go.RowKit
variable {wT : World}
set_option maxRecDepth 20000 in
set_option maxHeartbeats 4000000 in
theorem mkx_store (t1 t2 : TypeId) (u1 u2 : Value) (x : ByteArray) (I : Nat → World → Value → Prop) (hI : KeepsE I) (vs vs' : VA) (hM : ∀ kb mv ma mf sg W, MkV wT W kb mv ma mf sg vs → Calls Tryz.prog 228 #[.pointer (some ⟨kb, 0, none⟩), (.agg #[.iface t1 u1, .string x, .iface t2 u2])] W fun en w' => ∃ v, en = .returned v ∧ I W.heap.size w' v ∧ MkV wT w' kb mv ma mf sg vs' ∧ Only (fun q => q = mv ∨ q = ma) W w') : MakesE wT (.iface 326 (.agg #[.iface t1 u1, .string x, .iface t2 u2])) I vs vs' := by
  intro kb mv ma mf sg w h
  have hmf := hmfT
  have hsf := hsfT
  have hsn := hsnT
  have hml := heap_lt h.v
  have hkl := heap_lt h.k
  have hal := heap_lt h.a
  have hw0 := h.t.size
  have e0 : ∀ W, (Instr.typeAssert (.iface 326 (.agg #[.iface t1 u1, .string x, .iface t2 u2])) 238 300 true).run Tryz.prog W = .ok (.tuple #[.agg #[.int .i64 0], .bool false]) W := fun W => by kernel_rfl
  have e1 : ∀ W, (Instr.typeAssert (.iface 326 (.agg #[.iface t1 u1, .string x, .iface t2 u2])) 238 303 true).run Tryz.prog W = .ok (.tuple #[.agg #[.string ⟨#[]⟩], .bool false]) W := fun W => by kernel_rfl
  have e2 : ∀ W, (Instr.typeAssert (.iface 326 (.agg #[.iface t1 u1, .string x, .iface t2 u2])) 238 304 true).run Tryz.prog W = .ok (.tuple #[.agg #[.string ⟨#[]⟩], .bool false]) W := fun W => by kernel_rfl
  have e3 : ∀ W, (Instr.typeAssert (.iface 326 (.agg #[.iface t1 u1, .string x, .iface t2 u2])) 238 92 true).run Tryz.prog W = .ok (.tuple #[.agg #[.string ⟨#[]⟩, .int .i64 0], .bool false]) W := fun W => by kernel_rfl
  have e4 : ∀ W, (Instr.typeAssert (.iface 326 (.agg #[.iface t1 u1, .string x, .iface t2 u2])) 238 306 true).run Tryz.prog W = .ok (.tuple #[.agg #[.string ⟨#[]⟩, .int .i64 0, .slice none 0 0], .bool false]) W := fun W => by kernel_rfl
  have e5 : ∀ W, (Instr.typeAssert (.iface 326 (.agg #[.iface t1 u1, .string x, .iface t2 u2])) 238 309 true).run Tryz.prog W = .ok (.tuple #[.agg #[.nilIface], .bool false]) W := fun W => by kernel_rfl
  have e6 : ∀ W, (Instr.typeAssert (.iface 326 (.agg #[.iface t1 u1, .string x, .iface t2 u2])) 238 311 true).run Tryz.prog W = .ok (.tuple #[.agg #[.string ⟨#[]⟩, .int .i64 0, .slice none 0 0], .bool false]) W := fun W => by kernel_rfl
  have e7 : ∀ W, (Instr.typeAssert (.iface 326 (.agg #[.iface t1 u1, .string x, .iface t2 u2])) 238 312 true).run Tryz.prog W = .ok (.tuple #[.agg #[.string ⟨#[]⟩, .int .i64 0, .slice none 0 0], .bool false]) W := fun W => by kernel_rfl
  have e8 : ∀ W, (Instr.typeAssert (.iface 326 (.agg #[.iface t1 u1, .string x, .iface t2 u2])) 238 314 true).run Tryz.prog W = .ok (.tuple #[.agg #[.string ⟨#[]⟩, .nilIface], .bool false]) W := fun W => by kernel_rfl
  have e9 : ∀ W, (Instr.typeAssert (.iface 326 (.agg #[.iface t1 u1, .string x, .iface t2 u2])) 238 316 true).run Tryz.prog W = .ok (.tuple #[.agg #[.nilIface, .string ⟨#[]⟩, .nilIface], .bool false]) W := fun W => by kernel_rfl
  have e10 : ∀ W, (Instr.typeAssert (.iface 326 (.agg #[.iface t1 u1, .string x, .iface t2 u2])) 238 319 true).run Tryz.prog W = .ok (.tuple #[.agg #[.nilIface, .nilIface], .bool false]) W := fun W => by kernel_rfl
  have e11 : ∀ W, (Instr.typeAssert (.iface 326 (.agg #[.iface t1 u1, .string x, .iface t2 u2])) 238 321 true).run Tryz.prog W = .ok (.tuple #[.agg #[.nilIface, .string ⟨#[]⟩, .int .i64 0], .bool false]) W := fun W => by kernel_rfl
  have e12 : ∀ W, (Instr.typeAssert (.iface 326 (.agg #[.iface t1 u1, .string x, .iface t2 u2])) 238 323 true).run Tryz.prog W = .ok (.tuple #[.agg #[.nilIface, .nilIface, .nilIface], .bool false]) W := fun W => by kernel_rfl
  have ey : ∀ W, (Instr.typeAssert (.iface 326 (.agg #[.iface t1 u1, .string x, .iface t2 u2])) 238 326 true).run Tryz.prog W = .ok (.tuple #[.agg #[.iface t1 u1, .string x, .iface t2 u2], .bool true]) W := fun W => by kernel_rfl
  have HR := hide (fun W (hW : Only (fun _ => False) w W) => hM kb mv ma mf sg W (h.calm hW))
  clear h hM
  go_enter Tryz.func163, Tryz.ntmps163
  go_wp2_with fail
  refine (HR.out _ ((onlyA w _).alloc _)).mono ?_
  rintro en w2 ⟨v, rfl, hv, hk, ho⟩
  obtain ⟨x1, y1, rfl, hx1, hy1⟩ := hI.shape _ _ _ hv
  have hb := (ho.block w.heap.size (by simp; omega) (by omega)).trans ((Below.heap_alloc _ _ _ (by simp)).trans (new0 w _))
  have r0 : w2.cell? ⟨w.heap.size, 0, none⟩ = some .nilFunc := cell_of hb rfl
  have r1 : w2.cell? ⟨w.heap.size, 1, none⟩ = some .nilFunc := cell_of hb rfl
  have rf := free_of hb
  have rl := heap_lt hb
  have s1 : ∀ (a : Addr) (W : World), (store a x1).run Tryz.prog W = stored Tryz.prog W a x1 .plain := fun a W => run_store _ W a _ _ hx1
  have s2 : ∀ (a : Addr) (W : World), (store a y1).run Tryz.prog W = stored Tryz.prog W a y1 .plain := fun a W => run_store _ W a _ _ hy1
  have HV := hide hv
  have HK := hide hk
  have HO := hide ho
  clear hv ho hb HR hk
  go_wp2
  have hF : Only (fun q => q = w.heap.size) w2 ((w2.setCell ⟨w.heap.size, 0, none⟩ x1).setCell ⟨w.heap.size, 1, none⟩ y1) := ((Only.refl (fun q => q = w.heap.size) w2).setCell (p := ⟨w.heap.size, 0, none⟩) (fun _ => rfl) _).setCell (p := ⟨w.heap.size, 1, none⟩) (fun _ => rfl) _
  refine bodyPost_ret (v := .agg #[x1, y1]) (by simp [results, Tryz.results163, go_sem, r0, r1]) rfl ⟨_, rfl, hI.down _ _ _ _ (hI.keep _ _ _ _ HV.out (hF.mono (fun i _ e => by rw [e]; simp; omega))) (by simp; omega), HK.out.far hF (by omega) (by omega) (by omega) (by omega), ?_⟩
  exact only_box ((onlyA w _).alloc _) HO.out hF (Nat.le_refl _)
end Go.Proofs.YtdbdbaepmdmnfaaGreatDoor

namespace Go.Proofs.YtdbdbaepmdmnfaaGreatDoor
open Go.RowKit
variable {wT : World}
theorem setP2 {W : World} {b t : Nat} {p q : Value} (h : W.heap[b]? = some (.cells #[p, q] t (0, 0))) (x y : Value) : ((W.setCell ⟨b, 0, none⟩ x).setCell ⟨b, 1, none⟩ y).heap[b]? = some (.cells #[x, y] t (0, 0)) := heap_setCell_same (heap_setCell_same h x) y
theorem lower {I : Nat → World → Value → Prop} {B : Nat} {w : World} {v : Value} (h : I B w v) : ∃ B', I B' w v ∧ B' = B := ⟨B, h, rfl⟩
theorem MkV.drewV {W kb mv ma mf sg vs} (h : MkV wT W kb mv ma mf sg vs) : MkV wT W.drew kb mv ma mf sg vs := ⟨h.k, h.v, h.a, h.nea, h.lv, h.la, toDrew h.t⟩
theorem MkV.setV {W kb mv ma mf sg vs} (h : MkV wT W kb mv ma mf sg vs) (b o : Nat) (x : Value) (h1 : kb ≠ b) (h2 : mv ≠ b) (h3 : ma ≠ b) (h4 : wT.heap.size ≤ b) : MkV wT (W.setCell ⟨b, o, none⟩ x) kb mv ma mf sg vs := ⟨(Below.heap_setCell _ _ _ _ h1).trans h.k, (Below.heap_setCell _ _ _ _ h2).trans h.v, (Below.heap_setCell _ _ _ _ h3).trans h.a, h.nea, h.lv, h.la, h.t.setCell (p := ⟨b, o, none⟩) (fun h => absurd h (by show ¬ b < _; omega)) _⟩
theorem MkV.allocV {W kb mv ma mf sg vs} (h : MkV wT W kb mv ma mf sg vs) (o : Obj) : MkV wT (W.alloc o) kb mv ma mf sg vs := h.calm (onlyA _ _)
end Go.Proofs.YtdbdbaepmdmnfaaGreatDoor

