import Derived.Test.YtdbdbaepmdmnfaaGreatDoorQ35
import Derived.Test.YtdbdbaepmdmnfaaGreatDoorQ33
import Derived.Deep.RegionHeldLaw
namespace Go.Proofs.YtdbdbaepmdmnfaaGreatDoor
open Go.RowKit
theorem look161 {w : World} {M : Nat} (h : w.heap[M]? = some (.map firstVs 7)) : (Instr.lookup 178 (.map (some M)) (.string ⟨#[78, 82]⟩) true).run Tryz.prog w = .ok (.tuple #[.int .i64 0, .bool true]) w := by
  have h1 := MapKept.run_getObj_map (P := Tryz.prog) h
  have h2 : (Instr.checkKey false 10000 9 (.string ⟨#[78, 82]⟩)).run Tryz.prog w = .ok () w := MapKept.run_checkKey (d := .string) Tryz.underlying9 (by simp [MapKept.IsKey]) false 9999
  have h3 : (Instr.findKey 9 (.string ⟨#[78, 82]⟩) firstVs.toList).run Tryz.prog w = .ok (some (0, .int .i64 0)) w := MapKept.run_findKey Tryz.underlying9 rfl
  have h4 : firstVs.isEmpty = false := rfl
  simp [Instr.lookup, go_sem, h1, h2, h3, h4]
set_option maxRecDepth 20000 in
set_option maxHeartbeats 1000000 in
theorem ixf_none (f : Value) (w : World) : Calls Tryz.prog 381 #[.slice none 0 0, f] w fun en w' => en = .returned (.int .i64 (-1)) ∧ w' = w := by
  go_enter Tryz.func381, Tryz.ntmps381
  go_wp2
  go_loop [8] (fun s => s = .int .i64 0) (fun _ => 0)
  case atStart => exact rfl
  case round =>
    subst hrel
    go_wp2
    go_ret
    exact ⟨rfl, rfl⟩
set_option maxRecDepth 20000 in
set_option maxHeartbeats 1000000 in
theorem kparam_none (kb : Nat) (x : ByteArray) (a : Int) (w : World) (h : w.cell? ⟨kb, 4, none⟩ = some (.slice none 0 0)) : Calls Tryz.prog 303 #[.pointer (some ⟨kb, 0, none⟩), .agg #[.string x, .int .i64 a]] w fun en w' => en = .returned (.int .i64 (-1)) ∧ w' = w.alloc (.cells #[.string x, .int .i64 a] 92) := by
  have hmf := hmfT
  have kl := World.block_lt_of_cell? w ⟨kb, 4, none⟩ h
  simp only at kl
  have HI := hide ixf_none
  go_enter Tryz.func303, Tryz.ntmps303
  go_wp2_with (go_at_call 381; refine (HI.out _ _).mono ?_; rintro en w2 ⟨rfl, hw2⟩; subst hw2)
  go_ret
  exact ⟨rfl, rfl⟩
set_option maxRecDepth 20000 in
set_option maxHeartbeats 1000000 in
theorem number_nr (mv : Nat) (a : Int) (w : World) (h : w.heap[mv]? = some (.map firstVs 7)) : Calls Tryz.prog 305 #[.map (some mv), .agg #[.string ⟨#[78, 82]⟩, .int .i64 a]] w fun en w' => en = .returned (.int .i64 0) ∧ w' = w.alloc (.cells #[.string ⟨#[78, 82]⟩, .int .i64 a] 92) := by
  have hl := look161 (w := w.alloc (.cells #[.string ⟨#[78, 82]⟩, .int .i64 a] 92)) ((Below.heap_alloc _ _ _ (heap_lt h)).trans h)
  clear h
  go_enter Tryz.func305, Tryz.ntmps305
  go_wp2
  go_ret
  exact ⟨rfl, rfl⟩
theorem MkAt.only {W W' : World} {kb mv ma mf sg : Nat} (h : MkAt W kb mv ma mf sg) (ho : Only (fun _ => False) W W') : MkAt W' kb mv ma mf sg := ⟨(ho.block kb (heap_lt h.k) (fun e => e)).trans h.k, (ho.block mv (heap_lt h.v) (fun e => e)).trans h.v, (ho.block ma (heap_lt h.a) (fun e => e)).trans h.a⟩
/-- The made variable NR. -/
def VarE (B : Nat) (w : World) (v : Value) : Prop := ∃ g nb, v = .agg #[.func (.func 386) #[] #[.pointer (some ⟨g, 0, none⟩)], .func (.func 307) #[] #[.pointer (some ⟨nb, 0, none⟩)]] ∧ B ≤ g ∧ B ≤ nb ∧ w.heap[g]? = some (.cells #[.func (.func 307) #[] #[.pointer (some ⟨nb, 0, none⟩)]] 336 (0, 0)) ∧ w.heap[nb]? = some (.cells #[.int .i64 0] 3 (0, 0))
theorem var_keep {B : Nat} {w w' : World} {v : Value} (h : VarE B w v) (ho : Only (fun q => q < B) w w') : VarE B w' v := by
  obtain ⟨g, nb, e, k1, k2, h1, h2⟩ := h
  exact ⟨g, nb, e, k1, k2, (ho.block g (heap_lt h1) (by omega)).trans h1, (ho.block nb (heap_lt h2) (by omega)).trans h2⟩
theorem var_down {A B : Nat} {w : World} {v : Value} (h : VarE B w v) (hA : A ≤ B) : VarE A w v := by
  obtain ⟨g, nb, e, k1, k2, h1, h2⟩ := h
  exact ⟨g, nb, e, by omega, by omega, h1, h2⟩
set_option maxRecDepth 20000 in
set_option maxHeartbeats 4000000 in
theorem var_made (kb mv ma mf sg : Nat) (a : Int) (w : World) (h : MkAt w kb mv ma mf sg) : Calls Tryz.prog 218 #[.pointer (some ⟨kb, 0, none⟩), .agg #[.string ⟨#[78, 82]⟩, .int .i64 a]] w fun en w' => ∃ v, en = .returned v ∧ VarE w.heap.size w' v ∧ Only (fun _ => False) w w' := by
  have hmf := hmfT
  have hsf := hsfT
  have hsn := hsnT
  have k0 : w.cell? ⟨kb, 0, none⟩ = some (.map (some mv)) := cell_of h.k rfl
  have k4 : w.cell? ⟨kb, 4, none⟩ = some (.slice none 0 0) := cell_of h.k rfl
  have kl := heap_lt h.k
  have O2 := (onlyA w (.cells #[.string ⟨#[78, 82]⟩, .int .i64 a] 92)).alloc (.cells #[.nilFunc, .nilFunc] 338)
  have HP := hide (kparam_none kb ⟨#[78, 82]⟩ a _ ((O2.cell (p := ⟨kb, 4, none⟩) kl (fun e => e)).trans k4))
  have O3 := O2.alloc (.cells #[.string ⟨#[78, 82]⟩, .int .i64 a] 92)
  have HN := hide (fun W (hW : Only (fun _ => False) w W) => number_nr mv a W ((hW.block mv (heap_lt h.v) (fun e => e)).trans h.v))
  have HF := hide (found_made 307)
  have HO3 := hide O3
  clear h O2 O3
  go_enter Tryz.func218, Tryz.ntmps218
  go_wp2_with (first | (go_at_call 303; refine (HP.out).mono ?_; rintro en w2 ⟨rfl, hw2⟩; subst hw2))
  have d0 : (((w.alloc (.cells #[.string ⟨#[78, 82]⟩, .int .i64 a] 92)).alloc (.cells #[.nilFunc, .nilFunc] 338)).alloc (.cells #[.string ⟨#[78, 82]⟩, .int .i64 a] 92)).drew.cell? ⟨kb, 0, none⟩ = some (.map (some mv)) := (HO3.out.cell (p := ⟨kb, 0, none⟩) kl (fun e => e)).trans k0
  have d1 : (((w.alloc (.cells #[.string ⟨#[78, 82]⟩, .int .i64 a] 92)).alloc (.cells #[.nilFunc, .nilFunc] 338)).alloc (.cells #[.string ⟨#[78, 82]⟩, .int .i64 a] 92)).drew.cell? ⟨w.heap.size, 0, none⟩ = some (.string ⟨#[78, 82]⟩) := past (past (cell_of (new0 w _) rfl) _) _
  have d2 : (((w.alloc (.cells #[.string ⟨#[78, 82]⟩, .int .i64 a] 92)).alloc (.cells #[.nilFunc, .nilFunc] 338)).alloc (.cells #[.string ⟨#[78, 82]⟩, .int .i64 a] 92)).drew.cell? ⟨w.heap.size, 1, none⟩ = some (.int .i64 a) := past (past (cell_of (new0 w _) rfl) _) _
  have n0 : (((w.alloc (.cells #[.string ⟨#[78, 82]⟩, .int .i64 a] 92)).alloc (.cells #[.nilFunc, .nilFunc] 338)).alloc (.cells #[.string ⟨#[78, 82]⟩, .int .i64 a] 92)).cell? ⟨kb, 0, none⟩ = some (.map (some mv)) := (HO3.out.cell (p := ⟨kb, 0, none⟩) kl (fun e => e)).trans k0
  have n1 : (((w.alloc (.cells #[.string ⟨#[78, 82]⟩, .int .i64 a] 92)).alloc (.cells #[.nilFunc, .nilFunc] 338)).alloc (.cells #[.string ⟨#[78, 82]⟩, .int .i64 a] 92)).cell? ⟨w.heap.size, 0, none⟩ = some (.string ⟨#[78, 82]⟩) := past (past (cell_of (new0 w _) rfl) _) _
  have n2 : (((w.alloc (.cells #[.string ⟨#[78, 82]⟩, .int .i64 a] 92)).alloc (.cells #[.nilFunc, .nilFunc] 338)).alloc (.cells #[.string ⟨#[78, 82]⟩, .int .i64 a] 92)).cell? ⟨w.heap.size, 1, none⟩ = some (.int .i64 a) := past (past (cell_of (new0 w _) rfl) _) _
  go_cut [6] (fun s6 wc => ∃ nb, s6 = .pointer (some ⟨nb, 0, none⟩) ∧ w.heap.size + 1 < nb ∧ wc.heap[nb]? = some (.cells #[.int .i64 0] 3 (0, 0)) ∧ wc.heap[w.heap.size + 1]? = some (.cells #[.nilFunc, .nilFunc] 338 (0, 0)) ∧ Only (fun _ => False) w wc)
  case first =>
    go_region_held3 (fun W => W.cell? ⟨kb, 0, none⟩ = some (.map (some mv)) ∧ W.cell? ⟨w.heap.size, 0, none⟩ = some (.string ⟨#[78, 82]⟩) ∧ W.cell? ⟨w.heap.size, 1, none⟩ = some (.int .i64 a)) (repeat (first | (with_reducible assumption) | (with_reducible refine past ?_ _) | (with_reducible refine pastD ?_ _) | (with_reducible refine And.intro ?_ ?_)))
      (first | (go_at_call 305; refine (HN.out _ (by repeat (first | with_reducible exact Only.refl _ _ | with_reducible refine Only.alloc ?_ _ | with_reducible refine toDrew ?_))).mono ?_; rintro en w2 ⟨rfl, hw2⟩; subst hw2))
    all_goals
      go_wp2_with fail
      go_meet
      refine ⟨_, rfl, by omega, ?_, ?_, ?_⟩
      · (repeat (first | ((with_reducible refine new_at2 ?_ _); focus (simp; done)) | ((with_reducible refine (Below.heap_alloc _ _ _ ?_).trans ?_); (focus (first | (simp; done) | (simp; omega)))) | ((with_reducible refine new_at2D ?_ _); focus (simp; done)) | ((with_reducible refine (heap_allocD _ _ ?_).trans ?_); (focus (first | (simp; done) | (simp; omega))))))
      · (repeat (first | ((with_reducible refine new_at2 ?_ _); focus (simp; done)) | ((with_reducible refine (Below.heap_alloc _ _ _ ?_).trans ?_); (focus (first | (simp; done) | (simp; omega)))) | ((with_reducible refine new_at2D ?_ _); focus (simp; done)) | ((with_reducible refine (heap_allocD _ _ ?_).trans ?_); (focus (first | (simp; done) | (simp; omega))))))
      · (repeat (first | (with_reducible exact Only.refl _ _) | (with_reducible refine Only.alloc ?_ _) | (with_reducible refine toDrew ?_)))
  case rest =>
    obtain ⟨nb, rfl, hnb, h1, h2, ho⟩ := hcut
    have H1 := hide h1
    have H2 := hide h2
    have HO := hide ho
    clear h1 h2 ho HP HN HO3 k0 k4 d0 d1 d2 n0 n1 n2
    go_wp2_with (go_at_call 306; refine (HF.out _ _).mono ?_; rintro en w2 ⟨rfl, hw2⟩; have hO2 : Only (fun _ => False) wc w2 := hw2 ▸ (onlyA wc _).alloc _; have hg : w2.heap[wc.heap.size]? = some (.cells #[.func (.func 307) #[] #[.pointer (some ⟨nb, 0, none⟩)]] 336 (0, 0)) := hw2 ▸ (Below.heap_alloc _ _ _ (by simp)).trans (new0 wc _); have hb := (hO2.block _ (heap_lt H2.out) (fun e => e)).trans H2.out; have hn := (hO2.block _ (heap_lt H1.out) (fun e => e)).trans H1.out; have r0 : w2.cell? ⟨w.heap.size + 1, 0, none⟩ = some .nilFunc := cell_of hb rfl; have r1 : w2.cell? ⟨w.heap.size + 1, 1, none⟩ = some .nilFunc := cell_of hb rfl; have rf := free_of hb; have rl := heap_lt hb; have HG := hide hg; have HNb := hide hn; have HO2 := hide hO2; clear hw2 hg hb hn hO2)
    have hzc := HO.out.size
    refine bodyPost_ret (v := .agg #[.func (.func 386) #[] #[.pointer (some ⟨wc.heap.size, 0, none⟩)], .func (.func 307) #[] #[.pointer (some ⟨nb, 0, none⟩)]]) (by simp [results, Tryz.results218, go_sem, r0, r1]) rfl ⟨_, rfl, ⟨wc.heap.size, nb, rfl, by omega, by omega, ?_, ?_⟩, ?_⟩
    · exact (Below.heap_setCell _ _ _ _ (by show _ ≠ w.heap.size + 1; have := heap_lt H2.out; omega)).trans ((Below.heap_setCell _ _ _ _ (by show _ ≠ w.heap.size + 1; have := heap_lt H2.out; omega)).trans HG.out)
    · exact (Below.heap_setCell _ _ _ _ (by show nb ≠ w.heap.size + 1; omega)).trans ((Below.heap_setCell _ _ _ _ (by show nb ≠ w.heap.size + 1; omega)).trans HNb.out)
    · exact (((HO.out.trans HO2.out (fun _ _ e => e)).setCell (p := ⟨w.heap.size + 1, 0, none⟩) (fun h => absurd h (by show ¬ w.heap.size + 1 < w.heap.size; omega)) _).setCell (p := ⟨w.heap.size + 1, 1, none⟩) (fun h => absurd h (by show ¬ w.heap.size + 1 < w.heap.size; omega)) _)
set_option maxRecDepth 100000 in
theorem te98_297 (v : Value) (w : World) : (Instr.typeAssert (.iface 92 v) 238 300 true).run Tryz.prog w = .ok (.tuple #[.agg #[.int .i64 0], .bool false]) w := by kernel_rfl
set_option maxRecDepth 100000 in
theorem te98_300 (v : Value) (w : World) : (Instr.typeAssert (.iface 92 v) 238 303 true).run Tryz.prog w = .ok (.tuple #[.agg #[.string ⟨#[]⟩], .bool false]) w := by kernel_rfl
set_option maxRecDepth 100000 in
theorem te98_301 (v : Value) (w : World) : (Instr.typeAssert (.iface 92 v) 238 304 true).run Tryz.prog w = .ok (.tuple #[.agg #[.string ⟨#[]⟩], .bool false]) w := by kernel_rfl
set_option maxRecDepth 20000 in
set_option maxHeartbeats 4000000 in
theorem expr_nr (kb mv ma mf sg : Nat) (a : Int) (w : World) (h : MkAt w kb mv ma mf sg) :
    Calls Tryz.prog 163 #[.pointer (some ⟨kb, 0, none⟩), .iface 92 (.agg #[.string ⟨#[78, 82]⟩, .int .i64 a])] w fun en w' => ∃ v, en = .returned v ∧ VarE w.heap.size w' v ∧ Only (fun _ => False) w w' := by
  have hmf := hmfT
  have hsf := hsfT
  have hsn := hsnT
  have t1 := te98_297
  have t2 := te98_300
  have t3 := te98_301
  have t4 := te188_188
  have HR := hide (fun W (hW : Only (fun _ => False) w W) => var_made kb mv ma mf sg a W (h.only hW))
  clear h
  go_enter Tryz.func163, Tryz.ntmps163
  go_wp2_with fail
  refine (HR.out _ ((onlyA w _).alloc _)).mono ?_
  rintro en w2 ⟨v, rfl, hv, ho⟩
  have hv2 := hv
  obtain ⟨g, nb, rfl, _⟩ := hv2
  have hb := (ho.block w.heap.size (by simp; omega) (fun e => e)).trans ((Below.heap_alloc _ _ _ (by simp)).trans (new0 w _))
  have r0 : w2.cell? ⟨w.heap.size, 0, none⟩ = some .nilFunc := cell_of hb rfl
  have r1 : w2.cell? ⟨w.heap.size, 1, none⟩ = some .nilFunc := cell_of hb rfl
  have rf := free_of hb
  have rl := heap_lt hb
  have HV := hide hv
  have HO := hide ho
  clear hv ho hb HR
  go_wp2
  refine bodyPost_ret (v := .agg #[.func (.func 386) #[] #[.pointer (some ⟨g, 0, none⟩)], .func (.func 307) #[] #[.pointer (some ⟨nb, 0, none⟩)]]) (by simp [results, Tryz.results163, go_sem, r0, r1]) rfl ⟨_, rfl, var_down (var_keep HV.out (((Only.refl _ w2).setCell (p := ⟨w.heap.size, 0, none⟩) (fun _ => by show w.heap.size < _; simp; omega) _).setCell (p := ⟨w.heap.size, 1, none⟩) (fun _ => by show w.heap.size < _; simp; omega) _)) (by simp; omega), ?_⟩
  exact (((((onlyA w _).alloc _).trans HO.out (fun _ _ e => e)).setCell (p := ⟨w.heap.size, 0, none⟩) (fun h => absurd h (by show ¬ w.heap.size < w.heap.size; omega)) _).setCell (p := ⟨w.heap.size, 1, none⟩) (fun h => absurd h (by show ¬ w.heap.size < w.heap.size; omega)) _)
set_option maxRecDepth 100000 in
theorem mk380one (w : World) : (Instr.makeSlice 252 (.int .i64 1) (.int .i64 1)).run Tryz.prog w = .ok (.slice (some ⟨w.heap.size, 0, none⟩) 1 1) (w.alloc (.cells #[.nilFunc, .nilFunc] 338)) := by kernel_rfl
set_option maxRecDepth 20000 in
set_option maxHeartbeats 4000000 in
theorem exprs_nr (kb mv ma mf sg : Nat) (a : Int) (g cap : Nat) (w : World) (h : MkAt w kb mv ma mf sg) (hg : w.cell? ⟨g, 0, none⟩ = some (.iface 92 (.agg #[.string ⟨#[78, 82]⟩, .int .i64 a]))) :
    Calls Tryz.prog 128 #[.pointer (some ⟨kb, 0, none⟩), .slice (some ⟨g, 0, none⟩) 1 cap] w fun en w' => ∃ x y, en = .returned (.slice (some ⟨w.heap.size, 0, none⟩) 1 1) ∧ w'.heap[w.heap.size]? = some (.cells #[x, y] 338 (0, 0)) ∧ VarE (w.heap.size + 1) w' (.agg #[x, y]) ∧ Only (fun _ => False) w w' := by
  have hm := mk380one
  have hsf := hsfT
  have hgl := World.block_lt_of_cell? w ⟨g, 0, none⟩ hg
  simp only at hgl
  have HE := hide (fun W (hW : Only (fun _ => False) w W) => expr_nr kb mv ma mf sg a W (h.only hW))
  clear h
  go_enter Tryz.func128, Tryz.ntmps128
  go_wp2
  go_loopg [13] 1 (fun gh s13 wr => (gh = 1 ∧ s13 = .int .i64 0 ∧ wr = w.alloc (.cells #[.nilFunc, .nilFunc] 338)) ∨ (gh = 0 ∧ s13 = .int .i64 1 ∧ ∃ x y, wr.heap[w.heap.size]? = some (.cells #[x, y] 338 (0, 0)) ∧ VarE (w.heap.size + 1) wr (.agg #[x, y]) ∧ Only (fun _ => False) w wr))
  case atStart => exact Or.inl ⟨rfl, rfl, rfl⟩
  case round =>
    rcases hrel with ⟨hgh, rfl, hw⟩ | ⟨hgh, rfl, x, y, h1, h2, h3⟩
    · subst hw
      go_wp2_with (go_at_call 163; refine (HE.out _ (onlyA w _)).mono ?_; rintro en w2 ⟨v, rfl, hv, ho⟩; have hv2 := hv; obtain ⟨vg, nb, rfl, _⟩ := hv2; have hb := (ho.block w.heap.size (by simp) (fun e => e)).trans (new0 w _); have r0 : w2.cell? ⟨w.heap.size, 0, none⟩ = some .nilFunc := cell_of hb rfl; have r1 : w2.cell? ⟨w.heap.size, 1, none⟩ = some .nilFunc := cell_of hb rfl; have rf := free_of hb; have rl := heap_lt hb; have HV := hide hv; have HB := hide hb; have HO := hide ho; clear hv hb ho)
      go_roundg 0
      case measure => omega
      case rel => exact Or.inr ⟨rfl, rfl, _, _, set2 HB.out _ _, var_keep (by have := HV.out; simpa using this) (((Only.refl _ w2).setCell (p := ⟨w.heap.size, 0, none⟩) (fun _ => by show w.heap.size < _; omega) _).setCell (p := ⟨w.heap.size, 1, none⟩) (fun _ => by show w.heap.size < _; omega) _), (((onlyA w _).trans HO.out (fun _ _ e => e)).setCell (p := ⟨w.heap.size, 0, none⟩) (fun h => absurd h (by show ¬ w.heap.size < w.heap.size; omega)) _).setCell (p := ⟨w.heap.size, 1, none⟩) (fun h => absurd h (by show ¬ w.heap.size < w.heap.size; omega)) _⟩
    · go_wp2
      go_ret
      exact ⟨x, y, rfl, h1, h2, h3⟩
end Go.Proofs.YtdbdbaepmdmnfaaGreatDoor
namespace Go.Proofs.YtdbdbaepmdmnfaaGreatDoor
open Go.RowKit
/-- What prints NR. -/
def PrintN (B : Nat) (w : World) (v : Value) : Prop := ∃ lb eb c g x y z, v = .func (.func 280) #[] #[.pointer (some ⟨lb, 0, none⟩), .pointer (some ⟨eb, 0, none⟩)] ∧ (B ≤ lb ∧ B ≤ eb ∧ B ≤ c ∧ B ≤ g) ∧ w.heap[lb]? = some (.cells #[.slice (some ⟨g, 0, none⟩) 1 1] 252 (0, 0)) ∧ w.heap[g]? = some (.cells #[x, y] 338 (0, 0)) ∧ VarE B w (.agg #[x, y]) ∧ w.heap[eb]? = some (.cells #[.func (.func 298) #[] #[.pointer (some ⟨c, 0, none⟩)], z] 338 (0, 0)) ∧ w.heap[c]? = some (.cells #[.int .i64 0, .int .i64 0, .string ⟨#[]⟩] 203 (0, 0))
theorem printN_keeps : Keeps PrintN where
  isF := fun _ _ _ ⟨_, _, _, _, _, _, _, e, _⟩ => ⟨_, _, e⟩
  keep := fun B w w' x ⟨lb, eb, c, g, x1, y1, z, e, ⟨k1, k2, k3, k4⟩, h1, h2, h3, h4, h5⟩ ho => ⟨lb, eb, c, g, x1, y1, z, e, ⟨k1, k2, k3, k4⟩, (ho.block lb (heap_lt h1) (by omega)).trans h1, (ho.block g (heap_lt h2) (by omega)).trans h2, var_keep h3 ho, (ho.block eb (heap_lt h4) (by omega)).trans h4, (ho.block c (heap_lt h5) (by omega)).trans h5⟩
  down := fun A B w x ⟨lb, eb, c, g, x1, y1, z, e, ⟨k1, k2, k3, k4⟩, h1, h2, h3, h⟩ hA => ⟨lb, eb, c, g, x1, y1, z, e, ⟨by omega, by omega, by omega, by omega⟩, h1, h2, var_down h3 hA, h⟩
set_option maxRecDepth 20000 in
set_option maxHeartbeats 4000000 in
theorem print_madeN (kb mv ma mf sg : Nat) (a : Int) (g cap : Nat) (w : World) (h : MkAt w kb mv ma mf sg) (hg : w.cell? ⟨g, 0, none⟩ = some (.iface 92 (.agg #[.string ⟨#[78, 82]⟩, .int .i64 a]))) : Calls Tryz.prog 210 #[.pointer (some ⟨kb, 0, none⟩), .agg #[.slice (some ⟨g, 0, none⟩) 1 cap, .nilIface]] w fun en w' => ∃ v, en = .returned (.agg #[v]) ∧ PrintN w.heap.size w' v ∧ Only (fun _ => False) w w' := by
  have hmf := hmfT
  have hsf := hsfT
  have hsn := hsnT
  have hgl := World.block_lt_of_cell? w ⟨g, 0, none⟩ hg
  simp only at hgl
  have O2 := (onlyA w (.cells #[.slice (some ⟨g, 0, none⟩) 1 cap, .nilIface] 285)).alloc (.cells #[.nilFunc] 185)
  have HE := hide (exprs_nr kb mv ma mf sg a g cap _ (h.only O2) ((O2.cell (p := ⟨g, 0, none⟩) hgl (fun e => e)).trans hg))
  have HC := hide (exprOr_nil (some ⟨kb, 0, none⟩) 0 0 ⟨#[]⟩)
  have HO2 := hide O2
  have HZ := hide (new0 w (.cells #[.slice (some ⟨g, 0, none⟩) 1 cap, .nilIface] 285))
  clear h O2
  go_enter Tryz.func210, Tryz.ntmps210
  go_wp2_with fail
  refine (HE.out).mono ?_
  rintro en w2 ⟨x, y, rfl, hb, hv, ho⟩
  simp only [World.size_alloc] at hb hv
  have h0 := (ho.block w.heap.size (by simp; omega) (fun e => e)).trans ((Below.heap_alloc _ _ _ (by simp)).trans HZ.out)
  have h1 := (ho.block (w.heap.size + 1) (by simp) (fun e => e)).trans (new_at2 (W := w.alloc (.cells #[.slice (some ⟨g, 0, none⟩) 1 cap, .nilIface] 285)) (by simp) (.cells #[.nilFunc] 185))
  have m1 : w2.cell? ⟨w.heap.size, 1, none⟩ = some .nilIface := cell_of h0 rfl
  have hzz : w.heap.size + 1 + 1 ≤ w2.heap.size := by have := ho.size; simpa using this
  have hl0 : w.heap.size < w2.heap.size := by omega
  have hl1 : w.heap.size + 1 < w2.heap.size := by omega
  have HB := hide hb
  have HV := hide hv
  have H1 := hide h1
  have HO := hide (HO2.out.trans ho (fun _ _ e => e))
  clear hb hv h0 h1 ho HE
  go_wp2_with fail
  refine (HC.out _).mono ?_
  rintro en w3 ⟨rfl, hb3, ho3⟩
  simp only [World.size_alloc] at hb3
  have hO3 : Only (fun _ => False) w2 w3 := fromAlloc ho3
  have hz3 : w2.heap.size + 1 ≤ w3.heap.size := by have := ho3.size; simpa using this
  have hr := (hO3.block _ (heap_lt H1.out) (fun e => e)).trans H1.out
  have hl := (ho3.block w2.heap.size (by simp) (fun e => e)).trans (new0 w2 (.cells #[.slice (some ⟨w.heap.size + 1 + 1, 0, none⟩) 1 1] 252))
  have hgb := (hO3.block _ (heap_lt HB.out) (fun e => e)).trans HB.out
  have hvr := var_keep HV.out (hO3.mono (fun _ _ e => e.elim))
  have r0 : w3.cell? ⟨w.heap.size + 1, 0, none⟩ = some .nilFunc := cell_of hr rfl
  have rf := free_of hr
  have hrl := heap_lt hr
  have HB3 := hide hb3
  have HL := hide hl
  have HGB := hide hgb
  have HVR := hide hvr
  have HO3 : Hid (Only (fun _ => False) w w3) := hide (HO.out.trans hO3 (fun _ _ e => e))
  clear hb3 hr hl hgb hvr ho3 HC hO3
  go_wp2
  refine bodyPost_ret (v := .agg #[.func (.func 280) #[] #[.pointer (some ⟨w2.heap.size, 0, none⟩), .pointer (some ⟨w3.heap.size, 0, none⟩)]]) (by simp [results, Tryz.results210, go_sem, r0, hrl]) rfl ⟨_, rfl, ⟨w2.heap.size, w3.heap.size, w2.heap.size + 1 + 1 + 1, w.heap.size + 1 + 1, x, y, .nilFunc, rfl, ⟨by omega, by omega, by omega, by omega⟩, ?_, ?_, ?_, ?_, ?_⟩, ?_⟩
  · exact (Below.heap_alloc _ _ _ (by rw [size_setCell]; omega)).trans ((Below.heap_setCell _ _ _ _ (by show w2.heap.size ≠ w.heap.size + 1; omega)).trans HL.out)
  · exact (Below.heap_alloc _ _ _ (by rw [size_setCell]; have := heap_lt HGB.out; omega)).trans ((Below.heap_setCell _ _ _ _ (by show w.heap.size + 1 + 1 ≠ w.heap.size + 1; omega)).trans HGB.out)
  · exact var_down (var_keep HVR.out (((Only.refl _ w3).setCell (p := ⟨w.heap.size + 1, 0, none⟩) (fun _ => by show w.heap.size + 1 < _; omega) _).alloc _)) (by omega)
  · exact new_at2 (by simp) _
  · exact (Below.heap_alloc _ _ _ (by rw [size_setCell]; have := heap_lt HB3.out; omega)).trans ((Below.heap_setCell _ _ _ _ (by show w2.heap.size + 1 + 1 + 1 ≠ w.heap.size + 1; omega)).trans HB3.out)
  · exact (HO3.out.setCell (p := ⟨w.heap.size + 1, 0, none⟩) (fun h => absurd h (by show ¬ w.heap.size + 1 < w.heap.size; omega)) _).alloc _
set_option maxRecDepth 20000 in
set_option maxHeartbeats 4000000 in
theorem counted_printN (kb mv ma mf sg : Nat) (a : Int) (g cap : Nat) (w : World) (h : MkAt w kb mv ma mf sg) (hg : w.cell? ⟨g, 0, none⟩ = some (.iface 92 (.agg #[.string ⟨#[78, 82]⟩, .int .i64 a]))) :
    Calls Tryz.prog 161 #[.pointer (some ⟨kb, 0, none⟩), .iface 285 (.agg #[.slice (some ⟨g, 0, none⟩) 1 cap, .nilIface])] w fun en w' => ∃ x, en = .returned (.agg #[x]) ∧ PrintN w.heap.size w' x ∧ Only (fun _ => False) w w' := by
  have hmf := hmfT
  have hsf := hsfT
  have hsn := hsnT
  have t1 := ts419_424
  have t2 := ts419_427
  have t3 := ts419_429
  have t4 := ts419_432
  have t5 := ts419_419
  have hgl := World.block_lt_of_cell? w ⟨g, 0, none⟩ hg
  simp only at hgl
  have HR := hide (fun W (hW : Only (fun _ => False) w W) => print_madeN kb mv ma mf sg a g cap W (h.only hW) ((hW.cell (p := ⟨g, 0, none⟩) hgl (fun e => e)).trans hg))
  clear h
  go_enter Tryz.func161, Tryz.ntmps161
  go_wp2_with fail
  refine (HR.out _ ((onlyA w _).alloc _)).mono ?_
  rintro en w2 ⟨v, rfl, hv, ho⟩
  have hv2 := hv
  obtain ⟨lb, eb, c, g2, x, y, z, rfl, _⟩ := hv2
  have hb := (ho.block w.heap.size (by simp; omega) (fun e => e)).trans ((Below.heap_alloc _ _ _ (by simp)).trans (new0 w _))
  have r0 : w2.cell? ⟨w.heap.size, 0, none⟩ = some .nilFunc := cell_of hb rfl
  have rf := free_of hb
  have rl := heap_lt hb
  have HV := hide hv
  have HO := hide ho
  clear hv ho hb HR
  go_wp2
  refine bodyPost_ret (v := .agg #[.func (.func 280) #[] #[.pointer (some ⟨lb, 0, none⟩), .pointer (some ⟨eb, 0, none⟩)]]) (by simp [results, Tryz.results161, go_sem, r0]) rfl ⟨_, rfl, printN_keeps.down _ _ _ _ (printN_keeps.keep _ _ _ _ HV.out ((Only.refl _ w2).setCell (p := ⟨w.heap.size, 0, none⟩) (fun _ => by show w.heap.size < _; simp; omega) _)) (by simp; omega), ?_⟩
  exact ((((onlyA w _).alloc _).trans HO.out (fun _ _ e => e)).setCell (p := ⟨w.heap.size, 0, none⟩) (fun h => absurd h (by show ¬ w.heap.size < w.heap.size; omega)) _)
/-- The block of the program that counts. -/
def KN : Nat → World → Value → Prop := BlockF1 (StF PrintN)
theorem kn_keeps : Keeps KN := block1_keeps (st_keeps printN_keeps)
theorem bodyN_ok (kb mv ma mf sg : Nat) (a : Int) (r cap g gcap : Nat) (w : World) (h : MkAt w kb mv ma mf sg) (e0 : w.cell? ⟨r, 0, none⟩ = some (.iface 285 (.agg #[.slice (some ⟨g, 0, none⟩) 1 gcap, .nilIface]))) (hg : w.cell? ⟨g, 0, none⟩ = some (.iface 92 (.agg #[.string ⟨#[78, 82]⟩, .int .i64 a]))) : BodyOK (some ⟨kb, 0, none⟩) w (.slice (some ⟨r, 0, none⟩) 1 cap) KN := fun W hW => by
  have hrl := World.block_lt_of_cell? w ⟨r, 0, none⟩ e0
  have hgl := World.block_lt_of_cell? w ⟨g, 0, none⟩ hg
  refine block1_made _ (StF PrintN) (st_keeps printN_keeps) r cap 285 _ W (Nat.lt_of_lt_of_le hrl hW.size) ((hW.cell (p := ⟨r, 0, none⟩) hrl (fun e => e)).trans e0) ?_
  intro W2 h2
  have hW2 := hW.trans h2 (fun _ _ e => e)
  exact stmt_made _ _ printN_keeps 285 _ W2 (ts419_191 _) (tx419_470 _) (fun W3 h3 => counted_printN kb mv ma mf sg a g gcap W3 (h.only (hW2.trans h3 (fun _ _ e => e))) (((hW2.trans h3 (fun _ _ e => e)).cell (p := ⟨g, 0, none⟩) hgl (fun e => e)).trans hg))
set_option maxRecDepth 100000 in
theorem info168 : (Tryz.prog.info? 185).map (fun i => (i.zero, i.size, i.bytes)) = some (some (.agg #[.nilFunc]), 1, 8) := by kernel_rfl
/-- A program of one rule for the end. -/
def EndG (K : Nat → World → Value → Prop) (B : Nat) (w : World) (a b c : Value) : Prop := a = .slice none 0 0 ∧ b = .slice none 0 0 ∧ ∃ x, w.ownsRow 0 185 1 c 1 [x] ∧ K B w x
theorem endG_keeps {K : Nat → World → Value → Prop} (hK : Keeps K) : KeepsG (EndG K) where
  keep := fun B w w' a b c pb x ⟨e1, e2, y, h1, h2⟩ hp hlt ho => ⟨e1, e2, y, ownsRow_of h1 (fun k hk => ho.block k (h1.lt k hk).2 (fun e => own_tag h1 hp (by decide) (by rw [hk, e]))), hK.keep _ _ _ _ h2 (ho.mono (fun q _ e => by omega))⟩
  down := fun A B w a b c ⟨e1, e2, y, h1, h2⟩ hA => ⟨e1, e2, y, h1, hK.down _ _ _ _ h2 hA⟩
end Go.Proofs.YtdbdbaepmdmnfaaGreatDoor
