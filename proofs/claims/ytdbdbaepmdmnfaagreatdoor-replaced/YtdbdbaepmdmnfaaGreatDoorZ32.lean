import Derived.Test.YtdbdbaepmdmnfaaGreatDoorZ31
import Derived.Test.YtdbdbaepmdmnfaaGreatDoorZ25
import Derived.Deep.RegionHeldLaw
namespace Go.Proofs.YtdbdbaepmdmnfaaGreatDoor
open Go.RowKit
variable {wT : World}
set_option maxRecDepth 20000 in
set_option maxHeartbeats 4000000 in
/-- A list of one expression made. -/
theorem exprsk_made (t : TypeId) (u : Value) (I : Nat → World → Value → Prop) (hI : KeepsE I) (vs vs' : VA) (hE : MakesE wT (.iface t u) I vs vs') (kb mv ma mf sg : Nat) (g cap : Nat) (w : World) (h : MkV wT w kb mv ma mf sg vs) (hg : w.cell? ⟨g, 0, none⟩ = some (.iface t u)) :
    Calls Tryz.prog 128 #[.pointer (some ⟨kb, 0, none⟩), .slice (some ⟨g, 0, none⟩) 1 cap] w fun en w' => ∃ x y, en = .returned (.slice (some ⟨w.heap.size, 0, none⟩) 1 1) ∧ w'.heap[w.heap.size]? = some (.cells #[x, y] 338 (0, 0)) ∧ I (w.heap.size + 1) w' (.agg #[x, y]) ∧ MkV wT w' kb mv ma mf sg vs' ∧ Only (fun q => q = mv ∨ q = ma) w w' := by
  have hm := mk380one
  have hsf := hsfT
  have hgl := World.block_lt_of_cell? w ⟨g, 0, none⟩ hg
  simp only at hgl
  have hml := heap_lt h.v
  have hkl := heap_lt h.k
  have hal := heap_lt h.a
  have hw0 := h.t.size
  have HE := hide (fun W (hW : Only (fun _ => False) w W) => hE kb mv ma mf sg W (h.calm hW))
  clear h hE
  go_enter Tryz.func128, Tryz.ntmps128
  go_wp2
  go_loopg [13] 1 (fun gh s13 wr => (gh = 1 ∧ s13 = .int .i64 0 ∧ wr = w.alloc (.cells #[.nilFunc, .nilFunc] 338)) ∨ (gh = 0 ∧ s13 = .int .i64 1 ∧ ∃ x y, wr.heap[w.heap.size]? = some (.cells #[x, y] 338 (0, 0)) ∧ I (w.heap.size + 1) wr (.agg #[x, y]) ∧ MkV wT wr kb mv ma mf sg vs' ∧ Only (fun q => q = mv ∨ q = ma) w wr))
  case atStart => exact Or.inl ⟨rfl, rfl, rfl⟩
  case round =>
    rcases hrel with ⟨hgh, rfl, hw⟩ | ⟨hgh, rfl, x, y, h1, h2, h3, h4⟩
    · subst hw
      go_wp2_with (go_at_call 163; refine (HE.out _ (onlyA w _)).mono ?_; rintro en w2 ⟨v, rfl, hv, hk, ho⟩; obtain ⟨x1, y1, rfl, hx1, hy1⟩ := hI.shape _ _ _ hv; have s1 : ∀ (a : Addr) (W : World), (store a x1).run Tryz.prog W = stored Tryz.prog W a x1 .plain := fun a W => run_store _ W a _ _ hx1; have s2 : ∀ (a : Addr) (W : World), (store a y1).run Tryz.prog W = stored Tryz.prog W a y1 .plain := fun a W => run_store _ W a _ _ hy1; have hb := (ho.block w.heap.size (by simp) (by omega)).trans (new0 w _); have r0 : w2.cell? ⟨w.heap.size, 0, none⟩ = some .nilFunc := cell_of hb rfl; have r1 : w2.cell? ⟨w.heap.size, 1, none⟩ = some .nilFunc := cell_of hb rfl; have rf := free_of hb; have rl := heap_lt hb; have HV := hide hv; have HB := hide hb; have HO := hide ho; have HK := hide hk; clear hv hb ho hk)
      have hF : Only (fun q => q = w.heap.size) w2 ((w2.setCell ⟨w.heap.size, 0, none⟩ x1).setCell ⟨w.heap.size, 1, none⟩ y1) := ((Only.refl (fun q => q = w.heap.size) w2).setCell (p := ⟨w.heap.size, 0, none⟩) (fun _ => rfl) _).setCell (p := ⟨w.heap.size, 1, none⟩) (fun _ => rfl) _
      go_roundg 0
      case measure => omega
      case rel => exact Or.inr ⟨rfl, rfl, _, _, setP2 HB.out _ _, hI.down _ _ _ _ (hI.keep _ _ _ _ HV.out (hF.mono (fun i _ e => by rw [e]; simp))) (by simp), HK.out.far hF (by omega) (by omega) (by omega) (by omega), only_box (onlyA w _) HO.out hF (Nat.le_refl _)⟩
    · go_wp2
      go_ret
      exact ⟨x, y, rfl, h1, h2, h3, h4⟩
end Go.Proofs.YtdbdbaepmdmnfaaGreatDoor

namespace Go.Proofs.YtdbdbaepmdmnfaaGreatDoor
open Go.RowKit
variable {wT : World}
/-- What making a statement does: f is counted, statement or block. -/
def MadeS (wT : World) (f : Nat) (kb mv ma mf sg : Nat) (w0 : World) (s : Value) (K : Nat → World → Value → Prop) (vs vs' : VA) : Prop := ∀ W, MkV wT W kb mv ma mf sg vs → Only (fun q => q = mv ∨ q = ma) w0 W → Calls Tryz.prog f #[.pointer (some ⟨kb, 0, none⟩), s] W fun en w' => ∃ x, en = .returned (.agg #[x]) ∧ K W.heap.size w' x ∧ MkV wT w' kb mv ma mf sg vs' ∧ Only (fun q => q = mv ∨ q = ma) W w'
/-- What prints an expression. -/
def PrintK (I : Nat → World → Value → Prop) (B : Nat) (w : World) (v : Value) : Prop := ∃ lb eb c g x y z, v = .func (.func 280) #[] #[.pointer (some ⟨lb, 0, none⟩), .pointer (some ⟨eb, 0, none⟩)] ∧ (B ≤ lb ∧ B ≤ eb ∧ B ≤ c ∧ B ≤ g) ∧ w.heap[lb]? = some (.cells #[.slice (some ⟨g, 0, none⟩) 1 1] 252 (0, 0)) ∧ w.heap[g]? = some (.cells #[x, y] 338 (0, 0)) ∧ I B w (.agg #[x, y]) ∧ w.heap[eb]? = some (.cells #[.func (.func 298) #[] #[.pointer (some ⟨c, 0, none⟩)], z] 338 (0, 0)) ∧ w.heap[c]? = some (.cells #[.int .i64 0, .int .i64 0, .string ⟨#[]⟩] 203 (0, 0))
theorem printK_keeps {I : Nat → World → Value → Prop} (hI : KeepsE I) : Keeps (PrintK I) where
  isF := fun _ _ _ ⟨_, _, _, _, _, _, _, e, _⟩ => ⟨_, _, e⟩
  keep := fun B w w' x ⟨lb, eb, c, g, x1, y1, z, e, ⟨k1, k2, k3, k4⟩, h1, h2, h3, h4, h5⟩ ho => ⟨lb, eb, c, g, x1, y1, z, e, ⟨k1, k2, k3, k4⟩, (ho.block lb (heap_lt h1) (by omega)).trans h1, (ho.block g (heap_lt h2) (by omega)).trans h2, hI.keep _ _ _ _ h3 ho, (ho.block eb (heap_lt h4) (by omega)).trans h4, (ho.block c (heap_lt h5) (by omega)).trans h5⟩
  down := fun A B w x ⟨lb, eb, c, g, x1, y1, z, e, ⟨k1, k2, k3, k4⟩, h1, h2, h3, h⟩ hA => ⟨lb, eb, c, g, x1, y1, z, e, ⟨by omega, by omega, by omega, by omega⟩, h1, h2, hI.down _ _ _ _ h3 hA, h⟩
set_option maxRecDepth 20000 in
set_option maxHeartbeats 4000000 in
theorem print_madeK (t : TypeId) (u : Value) (I : Nat → World → Value → Prop) (hI : KeepsE I) (vs vs' : VA) (hE : MakesE wT (.iface t u) I vs vs') (kb mv ma mf sg : Nat) (g cap : Nat) (w : World) (h : MkV wT w kb mv ma mf sg vs) (hg : w.cell? ⟨g, 0, none⟩ = some (.iface t u)) : Calls Tryz.prog 210 #[.pointer (some ⟨kb, 0, none⟩), .agg #[.slice (some ⟨g, 0, none⟩) 1 cap, .nilIface]] w fun en w' => ∃ v, en = .returned (.agg #[v]) ∧ PrintK I w.heap.size w' v ∧ MkV wT w' kb mv ma mf sg vs' ∧ Only (fun q => q = mv ∨ q = ma) w w' := by
  have hmf := hmfT
  have hsf := hsfT
  have hsn := hsnT
  have hgl := World.block_lt_of_cell? w ⟨g, 0, none⟩ hg
  simp only at hgl
  have hml := heap_lt h.v
  have hkl := heap_lt h.k
  have hal := heap_lt h.a
  have hw0 := h.t.size
  have O2 := (onlyA w (.cells #[.slice (some ⟨g, 0, none⟩) 1 cap, .nilIface] 285)).alloc (.cells #[.nilFunc] 185)
  have HE := hide (exprsk_made t u I hI vs vs' hE kb mv ma mf sg g cap _ (h.calm O2) ((O2.cell (p := ⟨g, 0, none⟩) hgl (fun e => e)).trans hg))
  have HC := hide (exprOr_nil (some ⟨kb, 0, none⟩) 0 0 ⟨#[]⟩)
  have HO2 := hide O2
  have HZ := hide (new0 w (.cells #[.slice (some ⟨g, 0, none⟩) 1 cap, .nilIface] 285))
  clear h O2 hE
  go_enter Tryz.func210, Tryz.ntmps210
  go_wp2_with fail
  refine (HE.out).mono ?_
  rintro en w2 ⟨x, y, rfl, hb, hv, hk, ho⟩
  simp only [World.size_alloc] at hb hv
  have h0 := (ho.block w.heap.size (by simp; omega) (by omega)).trans ((Below.heap_alloc _ _ _ (by simp)).trans HZ.out)
  have h1 := (ho.block (w.heap.size + 1) (by simp) (by omega)).trans (new_at2 (W := w.alloc (.cells #[.slice (some ⟨g, 0, none⟩) 1 cap, .nilIface] 285)) (by simp) (.cells #[.nilFunc] 185))
  have m1 : w2.cell? ⟨w.heap.size, 1, none⟩ = some .nilIface := cell_of h0 rfl
  have hzz : w.heap.size + 1 + 1 ≤ w2.heap.size := by have := ho.size; simpa using this
  have hl0 : w.heap.size < w2.heap.size := by omega
  have hl1 : w.heap.size + 1 < w2.heap.size := by omega
  have HB := hide hb
  have HV := hide hv
  have H1 := hide h1
  have HO : Hid (Only (fun q => q = mv ∨ q = ma) w w2) := hide ((HO2.out.mono (fun _ _ e => e.elim)).trans ho (fun _ _ e => e))
  have HK := hide hk
  clear hb hv hk h0 h1 ho HE
  go_wp2_with fail
  refine (HC.out _).mono ?_
  rintro en w3 ⟨rfl, hb3, ho3⟩
  simp only [World.size_alloc] at hb3
  have hO3 : Only (fun _ => False) w2 w3 := fromAlloc ho3
  have hz3 : w2.heap.size + 1 ≤ w3.heap.size := by have := ho3.size; simpa using this
  have hr := (hO3.block _ (heap_lt H1.out) (fun e => e)).trans H1.out
  have hl := (ho3.block w2.heap.size (by simp) (fun e => e)).trans (new0 w2 (.cells #[.slice (some ⟨w.heap.size + 1 + 1, 0, none⟩) 1 1] 252))
  have hgb := (hO3.block _ (heap_lt HB.out) (fun e => e)).trans HB.out
  have hvr := hI.keep _ _ _ _ HV.out (hO3.mono (fun _ _ e => e.elim))
  have r0 : w3.cell? ⟨w.heap.size + 1, 0, none⟩ = some .nilFunc := cell_of hr rfl
  have rf := free_of hr
  have hrl := heap_lt hr
  have HB3 := hide hb3
  have HL := hide hl
  have HGB := hide hgb
  have HVR := hide hvr
  have HO3 : Hid (Only (fun q => q = mv ∨ q = ma) w w3) := hide (HO.out.trans hO3 (fun _ _ e => e.elim))
  have HK3 := hide (HK.out.calm hO3)
  clear hb3 hr hl hgb hvr ho3 HC hO3
  go_wp2
  refine bodyPost_ret (v := .agg #[.func (.func 280) #[] #[.pointer (some ⟨w2.heap.size, 0, none⟩), .pointer (some ⟨w3.heap.size, 0, none⟩)]]) (by simp [results, Tryz.results210, go_sem, r0, hrl]) rfl ⟨_, rfl, ⟨w2.heap.size, w3.heap.size, w2.heap.size + 1 + 1 + 1, w.heap.size + 1 + 1, x, y, .nilFunc, rfl, ⟨by omega, by omega, by omega, by omega⟩, ?_, ?_, ?_, ?_, ?_⟩, ?_, ?_⟩
  · exact (Below.heap_alloc _ _ _ (by rw [size_setCell]; omega)).trans ((Below.heap_setCell _ _ _ _ (by show w2.heap.size ≠ w.heap.size + 1; omega)).trans HL.out)
  · exact (Below.heap_alloc _ _ _ (by rw [size_setCell]; have := heap_lt HGB.out; omega)).trans ((Below.heap_setCell _ _ _ _ (by show w.heap.size + 1 + 1 ≠ w.heap.size + 1; omega)).trans HGB.out)
  · exact hI.down _ _ _ _ (hI.keep _ _ _ _ HVR.out (((Only.refl _ w3).setCell (p := ⟨w.heap.size + 1, 0, none⟩) (fun _ => by show w.heap.size + 1 < _; omega) _).alloc _)) (by omega)
  · exact new_at2 (by simp) _
  · exact (Below.heap_alloc _ _ _ (by rw [size_setCell]; have := heap_lt HB3.out; omega)).trans ((Below.heap_setCell _ _ _ _ (by show w2.heap.size + 1 + 1 + 1 ≠ w.heap.size + 1; omega)).trans HB3.out)
  · exact (HK3.out.far (b := w.heap.size + 1) ((Only.refl (fun q => q = w.heap.size + 1) w3).setCell (p := ⟨w.heap.size + 1, 0, none⟩) (fun _ => rfl) _) (by omega) (by omega) (by omega) (by omega)).calm (onlyA _ _)
  · exact (HO3.out.setCell (p := ⟨w.heap.size + 1, 0, none⟩) (fun h => absurd h (by show ¬ w.heap.size + 1 < w.heap.size; omega)) _).alloc _
set_option maxRecDepth 20000 in
set_option maxHeartbeats 4000000 in
theorem counted_printK (t : TypeId) (u : Value) (I : Nat → World → Value → Prop) (hI : KeepsE I) (vs vs' : VA) (hE : MakesE wT (.iface t u) I vs vs') (kb mv ma mf sg : Nat) (g cap : Nat) (w : World) (h : MkV wT w kb mv ma mf sg vs) (hg : w.cell? ⟨g, 0, none⟩ = some (.iface t u)) :
    Calls Tryz.prog 161 #[.pointer (some ⟨kb, 0, none⟩), .iface 285 (.agg #[.slice (some ⟨g, 0, none⟩) 1 cap, .nilIface])] w fun en w' => ∃ x, en = .returned (.agg #[x]) ∧ PrintK I w.heap.size w' x ∧ MkV wT w' kb mv ma mf sg vs' ∧ Only (fun q => q = mv ∨ q = ma) w w' := by
  have hmf := hmfT
  have hsf := hsfT
  have hsn := hsnT
  have t1 := ts419_424
  have t2 := ts419_427
  have t3 := ts419_429
  have t4 := ts419_432
  have t5 := ts419_419
  have hgl := World.block_lt_of_cell? w ⟨g, 0, none⟩ hg
  simp only at hgl
  have hml := heap_lt h.v
  have hkl := heap_lt h.k
  have hal := heap_lt h.a
  have hw0 := h.t.size
  have HR := hide (fun W (hW : Only (fun _ => False) w W) => print_madeK t u I hI vs vs' hE kb mv ma mf sg g cap W (h.calm hW) ((hW.cell (p := ⟨g, 0, none⟩) hgl (fun e => e)).trans hg))
  clear h hE
  go_enter Tryz.func161, Tryz.ntmps161
  go_wp2_with fail
  refine (HR.out _ ((onlyA w _).alloc _)).mono ?_
  rintro en w2 ⟨v, rfl, hv, hk, ho⟩
  have hv2 := hv
  obtain ⟨lb, eb, c, g2, x, y, z, rfl, _⟩ := hv2
  have hb := (ho.block w.heap.size (by simp; omega) (by omega)).trans ((Below.heap_alloc _ _ _ (by simp)).trans (new0 w _))
  have r0 : w2.cell? ⟨w.heap.size, 0, none⟩ = some .nilFunc := cell_of hb rfl
  have rf := free_of hb
  have rl := heap_lt hb
  have HV := hide hv
  have HO := hide ho
  have HK := hide hk
  clear hv hk ho hb HR
  go_wp2
  refine bodyPost_ret (v := .agg #[.func (.func 280) #[] #[.pointer (some ⟨lb, 0, none⟩), .pointer (some ⟨eb, 0, none⟩)]]) (by simp [results, Tryz.results161, go_sem, r0]) rfl ⟨_, rfl, (printK_keeps hI).down _ _ _ _ ((printK_keeps hI).keep _ _ _ _ HV.out ((Only.refl _ w2).setCell (p := ⟨w.heap.size, 0, none⟩) (fun _ => by show w.heap.size < _; simp; omega) _)) (by simp; omega), HK.out.far (b := w.heap.size) ((Only.refl (fun q => q = w.heap.size) w2).setCell (p := ⟨w.heap.size, 0, none⟩) (fun _ => rfl) _) (by omega) (by omega) (by omega) (by omega), ?_⟩
  exact (((((onlyA w _).alloc _).mono (fun _ _ e => e.elim)).trans HO.out (fun _ _ e => e)).setCell (p := ⟨w.heap.size, 0, none⟩) (fun h => absurd h (by show ¬ w.heap.size < w.heap.size; omega)) _)
end Go.Proofs.YtdbdbaepmdmnfaaGreatDoor

namespace Go.Proofs.YtdbdbaepmdmnfaaGreatDoor
open Go.RowKit
variable {wT : World}
set_option maxRecDepth 20000 in
set_option maxHeartbeats 4000000 in
/-- A statement made of what is counted. -/
theorem made_stmt (kb mv ma mf sg : Nat) (w0 : World) (ty : Nat) (u : Value) (I : Nat → World → Value → Prop) (hI : Keeps I) (vs vs' : VA) (h1 : ∀ W, (Instr.typeAssert (.iface ty u) 235 95 true).run Tryz.prog W = .ok (.tuple #[.slice none 0 0, .bool false]) W) (h2 : ∀ W, (Instr.typeAssert (.iface ty u) 235 334 true).run Tryz.prog W = .ok (.tuple #[.agg #[], .bool false]) W)
    (H : MadeS wT 161 kb mv ma mf sg w0 (.iface ty u) I vs vs') : MadeS wT 126 kb mv ma mf sg w0 (.iface ty u) (StF I) vs vs' := by
  intro w h hO
  have hmf := hmfT
  have hsf := hsfT
  have hsn := hsnT
  have hml := heap_lt h.v
  have hkl := heap_lt h.k
  have hal := heap_lt h.a
  have hw0 := h.t.size
  have HR := hide (H _ (h.calm (onlyA w (.cells #[.nilFunc] 185))) (hO.trans (onlyA w (.cells #[.nilFunc] 185)) (fun _ _ e => e.elim)))
  have HI := hide hI
  clear hI H h hO
  go_enter Tryz.func126, Tryz.ntmps126
  go_wp2_with fail
  refine (HR.out).mono ?_
  rintro en w2 ⟨x, rfl, hv, hk, ho⟩
  obtain ⟨F, cap, rfl⟩ := HI.out.isF _ _ _ hv
  have hb := (ho.block w.heap.size (by simp) (by omega)).trans (new0 w _)
  have r0 : w2.cell? ⟨w.heap.size, 0, none⟩ = some .nilFunc := cell_of hb rfl
  have rf := free_of hb
  have rl := heap_lt hb
  have HV := hide hv
  have HO := hide ho
  have HK := hide hk
  clear hv ho hb HR hk
  go_wp2
  have hzw : w.heap.size + 1 ≤ w2.heap.size := by have := HO.out.size; simpa using this
  refine bodyPost_ret (v := .agg #[.func (.func 162) #[] #[.pointer (some ⟨w2.heap.size, 0, none⟩)]]) (by simp [results, Tryz.results126, go_sem, r0, rl]) rfl ⟨_, rfl, ⟨w2.heap.size, _, rfl, by omega, new_at2 (by simp) _, HI.out.down _ _ _ _ (HI.out.keep _ _ _ _ HV.out (((Only.refl _ w2).setCell (p := ⟨w.heap.size, 0, none⟩) (fun _ => by show w.heap.size < _; simp) _).alloc _)) (by simp)⟩, (HK.out.far (b := w.heap.size) ((Only.refl (fun q => q = w.heap.size) w2).setCell (p := ⟨w.heap.size, 0, none⟩) (fun _ => rfl) _) (by omega) (by omega) (by omega) (by omega)).calm (onlyA _ _), ?_⟩
  exact (((((onlyA w _).mono (fun _ _ e => e.elim)).trans HO.out (fun _ _ e => e)).setCell (p := ⟨w.heap.size, 0, none⟩) (fun h => absurd h (by show ¬ w.heap.size < w.heap.size; omega)) _).alloc _)
/-- What works an expression out. -/
def WorkK (I : Nat → World → Value → Prop) (B : Nat) (w : World) (v : Value) : Prop := ∃ ec x y, v = .func (.func 297) #[] #[.pointer (some ⟨ec, 0, none⟩)] ∧ B ≤ ec ∧ w.heap[ec]? = some (.cells #[x, y] 338 (0, 0)) ∧ I B w (.agg #[x, y])
theorem workK_keeps {I : Nat → World → Value → Prop} (hI : KeepsE I) : Keeps (WorkK I) where
  isF := fun _ _ _ ⟨_, _, _, e, _⟩ => ⟨_, _, e⟩
  keep := fun B w w' x ⟨ec, y, z, e, k, h, hr⟩ ho => ⟨ec, y, z, e, k, (ho.block ec (heap_lt h) (by omega)).trans h, hI.keep _ _ _ _ hr ho⟩
  down := fun A B w x ⟨ec, y, z, e, k, h, hr⟩ hA => ⟨ec, y, z, e, by omega, h, hI.down _ _ _ _ hr hA⟩
set_option maxRecDepth 20000 in
set_option maxHeartbeats 1000000 in
theorem work_made2 (x y : Value) (w : World) : Calls Tryz.prog 215 #[.agg #[x, y]] w fun en w' => en = .returned (.agg #[.func (.func 297) #[] #[.pointer (some ⟨w.heap.size, 0, none⟩)]]) ∧ w' = (w.alloc (.cells #[x, y] 338)).alloc (.cells #[.func (.func 297) #[] #[.pointer (some ⟨w.heap.size, 0, none⟩)]] 185) := by
  have hmf := hmfT
  have hsf := hsfT
  have hsn := hsnT
  go_enter Tryz.func215, Tryz.ntmps215
  go_wp2
  exact bodyPost_ret (v := .agg #[.func (.func 297) #[] #[.pointer (some ⟨w.heap.size, 0, none⟩)]]) (by simp [results, Tryz.results215, go_sem]) rfl ⟨rfl, rfl⟩
set_option maxRecDepth 20000 in
set_option maxHeartbeats 4000000 in
/-- An expression as a statement, made. -/
theorem made_work (t : TypeId) (u : Value) (I : Nat → World → Value → Prop) (hI : KeepsE I) (vs vs' : VA) (hE : MakesE wT (.iface t u) I vs vs') (kb mv ma mf sg : Nat) (w0 : World) : MadeS wT 161 kb mv ma mf sg w0 (.iface 350 (.agg #[.iface t u])) (WorkK I) vs vs' := by
  intro w h hO
  have hmf := hmfT
  have hsf := hsfT
  have hsn := hsnT
  have t1 := ts507_424
  have t2 := ts507_427
  have t3 := ts507_429
  have t4 := ts507_432
  have t5 := tx507_419
  have t6 := tx507_509
  have t7 := tx507_510
  have t8 := tx507_512
  have t9 := tx507_513
  have t10 := ts507_507
  have hml := heap_lt h.v
  have hkl := heap_lt h.k
  have hal := heap_lt h.a
  have hw0 := h.t.size
  have HR := hide (fun W (hW : Only (fun _ => False) w W) => hE kb mv ma mf sg W (h.calm hW))
  have HW := hide work_made2
  clear hE h hO
  go_enter Tryz.func161, Tryz.ntmps161
  go_wp2_with fail
  refine (HR.out _ ((onlyA w _).alloc _)).mono ?_
  rintro en w2 ⟨v, rfl, hv, hk, ho⟩
  obtain ⟨x1, y1, rfl, hx1, hy1⟩ := hI.shape _ _ _ hv
  have hb := (ho.block w.heap.size (by simp; omega) (by omega)).trans ((Below.heap_alloc _ _ _ (by simp)).trans (new0 w _))
  have r0 : w2.cell? ⟨w.heap.size, 0, none⟩ = some .nilFunc := cell_of hb rfl
  have rf := free_of hb
  have rl := heap_lt hb
  have HV := hide hv
  have HO := hide ho
  have HK := hide hk
  clear hv ho hb HR hk
  go_wp2_with (go_at_call 215; refine (HW.out _ _ _).mono ?_; rintro en w3 ⟨rfl, hw3⟩; subst hw3)
  have hzw : w.heap.size + 1 + 1 ≤ w2.heap.size := by have := HO.out.size; simpa using this
  refine bodyPost_ret (v := .agg #[.func (.func 297) #[] #[.pointer (some ⟨w2.heap.size, 0, none⟩)]]) (by simp [results, Tryz.results161, go_sem, r0, rl]) rfl ⟨_, rfl, ⟨w2.heap.size, _, _, rfl, by omega, (Below.heap_alloc _ _ _ (by simp)).trans (new_at2 (by simp) _), hI.down _ _ _ _ (hI.keep _ _ _ _ HV.out ((((Only.refl _ w2).setCell (p := ⟨w.heap.size, 0, none⟩) (fun _ => by show w.heap.size < _; simp; omega) _).alloc _).alloc _)) (by simp; omega)⟩, ((HK.out.far (b := w.heap.size) ((Only.refl (fun q => q = w.heap.size) w2).setCell (p := ⟨w.heap.size, 0, none⟩) (fun _ => rfl) _) (by omega) (by omega) (by omega) (by omega)).calm (onlyA _ _)).calm (onlyA _ _), ?_⟩
  exact ((((((onlyA w _).alloc _).mono (fun _ _ e => e.elim)).trans HO.out (fun _ _ e => e)).setCell (p := ⟨w.heap.size, 0, none⟩) (fun h => absurd h (by show ¬ w.heap.size < w.heap.size; omega)) _).alloc _).alloc _
/-- The bare print, made. -/
theorem made_bare (kb mv ma mf sg : Nat) (w0 : World) (vs : VA) : MadeS wT 161 kb mv ma mf sg w0 printV PrintF vs vs := fun W h _ => (counted_print (some ⟨kb, 0, none⟩) W).mono (fun _ _ ⟨x, e, hp, ho⟩ => ⟨x, e, hp, h.calm ho, ho.mono (fun _ _ e => e.elim)⟩)
/-- A made block of n statements. -/
def BlockK (Ks : Nat → Nat → World → Value → Prop) (n : Nat) (B : Nat) (w : World) (v : Value) : Prop := ∃ lc g cs, v = .func (.func 127) #[] #[.pointer (some ⟨lc, 0, none⟩)] ∧ (B ≤ lc ∧ B ≤ g) ∧ w.heap[lc]? = some (.cells #[.slice (some ⟨g, 0, none⟩) n n] 132 (0, 0)) ∧ w.heap[g]? = some (.cells cs 185 (0, 0)) ∧ ∀ i : Nat, i < n → ∃ x, cs[i]? = some x ∧ Ks i B w x
theorem blockK_keeps {Ks : Nat → Nat → World → Value → Prop} {n : Nat} (hK : ∀ i, i < n → Keeps (Ks i)) : Keeps (BlockK Ks n) where
  isF := fun _ _ _ ⟨_, _, _, e, _⟩ => ⟨_, _, e⟩
  keep := fun B w w' x ⟨lc, g, cs, e, ⟨k1, k2⟩, h1, h2, h3⟩ ho => ⟨lc, g, cs, e, ⟨k1, k2⟩, (ho.block lc (heap_lt h1) (by omega)).trans h1, (ho.block g (heap_lt h2) (by omega)).trans h2, fun i hi => let ⟨y, a, b⟩ := h3 i hi; ⟨y, a, (hK i hi).keep _ _ _ _ b ho⟩⟩
  down := fun A B w x ⟨lc, g, cs, e, ⟨k1, k2⟩, h1, h2, h3⟩ hA => ⟨lc, g, cs, e, ⟨by omega, by omega⟩, h1, h2, fun i hi => let ⟨y, a, b⟩ := h3 i hi; ⟨y, a, (hK i hi).down _ _ _ _ b hA⟩⟩
set_option maxRecDepth 20000 in
set_option maxHeartbeats 4000000 in
theorem made_block (kb mv ma mf sg : Nat) (w0 : World) (Ks : Nat → Nat → World → Value → Prop) (vss : Nat → VA) (es : List Value) (hK : ∀ i, i < es.length → Keeps (Ks i)) (hel : es.length ≤ 900) (r cap : Nat) (hrl : r < w0.heap.size) (hrm : ¬ (r = mv ∨ r = ma))
    (hmk : ∀ W, (Instr.makeSlice 132 (.int .i64 es.length) (.int .i64 es.length)).run Tryz.prog W = .ok (.slice (some ⟨W.heap.size, 0, none⟩) es.length es.length) (W.alloc (.cells (Array.replicate es.length .nilFunc) 185)))
    (hif : ∀ (i : Nat) e, es[i]? = some e → ∃ t x, e = .iface t x) (hc : ∀ (i : Nat) e, es[i]? = some e → w0.cell? ⟨r, i, none⟩ = some e)
    (H : ∀ (i : Nat) e, es[i]? = some e → MadeS wT 126 kb mv ma mf sg w0 e (Ks i) (vss i) (vss (i + 1))) : MadeS wT 91 kb mv ma mf sg w0 (.slice (some ⟨r, 0, none⟩) es.length cap) (BlockK Ks es.length) (vss 0) (vss es.length) := by
  intro w h hO
  have hmf := hmfT
  have hsf := hsfT
  have hsn := hsnT
  have hml := heap_lt h.v
  have hkl := heap_lt h.k
  have hal := heap_lt h.a
  have hw0 := h.t.size
  have hr : r < w.heap.size := Nat.lt_of_lt_of_le hrl hO.size
  have HIF := hide hif
  have HC := hide (fun i e he => (hO.cell (p := ⟨r, i, none⟩) hrl hrm).trans (hc i e he))
  have HH := hide H
  have HM := hide h
  have HO0 := hide hO
  have HKs := hide hK
  clear hif hc H h hO hK
  go_enter Tryz.func91, Tryz.ntmps91
  go_wp2
  go_loopg [13] es.length (fun gh s13 wr => ∃ (k : Nat) (cs : Array Value), k ≤ es.length ∧ gh = es.length - k ∧ s13 = .int .i64 k ∧ cs.size = es.length ∧ wr.heap[w.heap.size]? = some (.cells #[.nilFunc] 185 (0, 0)) ∧ wr.heap[w.heap.size + 1]? = some (.cells cs 185 (0, 0)) ∧ wr.heap[w.heap.size + 1 + 1]? = some (.cells #[.slice (some ⟨w.heap.size + 1, 0, none⟩) es.length es.length] 132 (0, 0)) ∧ (∀ i : Nat, i < k → ∃ x, cs[i]? = some x ∧ Ks i (w.heap.size + 1 + 1 + 1) wr x) ∧ MkV wT wr kb mv ma mf sg (vss k) ∧ Only (fun q => q = mv ∨ q = ma) w wr)
  case atStart =>
    refine ⟨0, Array.replicate es.length .nilFunc, by omega, rfl, rfl, by simp, ?_, ?_, ?_, (by omega), HM.out.calm (((onlyA w _).alloc _).alloc _), (((onlyA w _).alloc _).alloc _).mono (fun _ _ e => e.elim)⟩
    · exact (Below.heap_alloc _ _ _ (by simp <;> omega)).trans ((Below.heap_alloc _ _ _ (by simp <;> omega)).trans (new0 w _))
    · exact (Below.heap_alloc _ _ _ (by simp <;> omega)).trans (new_at2 (by simp) _)
    · exact new_at2 (by simp) _
  case round =>
    obtain ⟨k, cs, hk, hgh, rfl, hcs, h0, h1, h2, hx, hmk2, ho⟩ := hrel
    have hzz := heap_lt h2
    have hrr : r < wr.heap.size := by omega
    have l0 : wr.cell? ⟨w.heap.size + 1 + 1, 0, none⟩ = some (.slice (some ⟨w.heap.size + 1, 0, none⟩) es.length es.length) := cell_of h2 rfl
    by_cases hlt : k < es.length
    · obtain ⟨e, he⟩ : ∃ e, es[k]? = some e := ⟨_, List.getElem?_eq_getElem hlt⟩
      obtain ⟨ti, xi, rfl⟩ := HIF.out k e he
      have q0 : wr.cell? ⟨r, k, none⟩ = some (.iface ti xi) := (ho.cell (p := ⟨r, k, none⟩) hr hrm).trans (HC.out k _ he)
      have K0 := hide (fun W hW hO => HH.out k _ he W hW hO)
      obtain ⟨xk, hxk⟩ : ∃ x, cs[k]? = some x := ⟨_, Array.getElem?_eq_getElem (by omega)⟩
      have hKk := HKs.out k hlt
      have HOW := hide (HO0.out.trans ho (fun _ _ e => e))
      have B0 := hide h0
      have B1 := hide h1
      have B2 := hide h2
      have X0 := hide hx
      have HO := hide ho
      have HG := hide hgh
      have HM2 := hide hmk2
      have HXK := hide hxk
      have hki : (k : Int) < (es.length : Int) := by omega
      clear h0 h1 h2 hx ho hgh hmk2 he hxk
      go_upto_region 5 with fail
      go_region_held3 (fun W => W.cell? ⟨w.heap.size + 1 + 1, 0, none⟩ = some (.slice (some ⟨w.heap.size + 1, 0, none⟩) es.length es.length)) (first | (with_reducible assumption) | go_keep | skip)
        (first | (go_at_call 126; refine (K0.out _ HM2.out.drewV (toDrew HOW.out)).mono ?_; rintro en w2 ⟨z, rfl, hz, hm2, ho2⟩; obtain ⟨F, fcap, rfl⟩ := hKk.isF _ _ _ hz; have hb0 := (ho2.block w.heap.size (heap_lt B0.out) (by omega)).trans B0.out; have hb1 := (ho2.block (w.heap.size + 1) (heap_lt B1.out) (by omega)).trans B1.out; have hb2 := (ho2.block (w.heap.size + 1 + 1) (heap_lt B2.out) (by omega)).trans B2.out; have m0 : w2.cell? ⟨w.heap.size + 1 + 1, 0, none⟩ = some (.slice (some ⟨w.heap.size + 1, 0, none⟩) es.length es.length) := cell_of hb2 rfl; have m1 : w2.cell? ⟨w.heap.size + 1, k, none⟩ = some xk := cell_of hb1 HXK.out; have mf := free_of hb1; have ml := heap_lt hb1; have C0 := hide hb0; have C1 := hide hb1; have C2 := hide hb2; have HZ := hide hz; have HO2 := hide ho2; have HM3 := hide hm2; clear hb0 hb1 hb2 hz ho2 hm2))
      all_goals
        go_wp2
        go_roundg (es.length - (k + 1))
        case measure => rw [HG.out]; omega
        case rel =>
          have hF : Only (fun q => q = w.heap.size + 1) w2 (w2.setCell ⟨w.heap.size + 1, k, none⟩ (.func (.func F) #[] fcap)) := (Only.refl (fun q => q = w.heap.size + 1) w2).setCell (p := ⟨w.heap.size + 1, k, none⟩) (fun _ => rfl) _
          refine ⟨k + 1, cs.setIfInBounds k (.func (.func F) #[] fcap), by omega, rfl, by go_num, by simpa using hcs, (hF.block _ (heap_lt C0.out) (by omega)).trans C0.out, heap_setCell_same C1.out _, (hF.block _ (heap_lt C2.out) (by omega)).trans C2.out, ?_, HM3.out.far hF (by omega) (by omega) (by omega) (by omega), (HO.out.trans (fromDrew HO2.out) (fun _ _ e => e)).trans hF (fun i hi e => absurd hi (by omega))⟩
          intro i hi
          by_cases hik : i = k
          · subst hik
            exact ⟨_, by rw [Array.getElem?_setIfInBounds, if_pos rfl, if_pos (by omega)], hKk.keep _ _ _ _ (hKk.down _ _ _ _ HZ.out (by show _ ≤ wr.heap.size; omega)) (hF.mono (fun q _ e => by omega))⟩
          · obtain ⟨y, hy1, hy2⟩ := X0.out i (by omega)
            exact ⟨y, by rw [Array.getElem?_setIfInBounds, if_neg (by omega)]; exact hy1, (HKs.out i (by omega)).keep _ _ _ _ ((HKs.out i (by omega)).keep _ _ _ _ hy2 ((fromDrew HO2.out).mono (fun q _ e => by omega))) (hF.mono (fun q _ e => by omega))⟩
    · obtain rfl : k = es.length := by omega
      have hki : ¬ (es.length : Int) < (es.length : Int) := by omega
      have B0 := hide h0
      have B1 := hide h1
      have B2 := hide h2
      have X0 := hide hx
      have HO := hide ho
      have HM2 := hide hmk2
      clear h0 h1 h2 hx ho hmk2
      have r0 : wr.cell? ⟨w.heap.size, 0, none⟩ = some .nilFunc := cell_of B0.out rfl
      have rf := free_of B0.out
      have rl := heap_lt B0.out
      go_wp2
      have hF : Only (fun q => q = w.heap.size) wr (wr.setCell ⟨w.heap.size, 0, none⟩ (.func (.func 127) #[] #[.pointer (some ⟨w.heap.size + 1 + 1, 0, none⟩)])) := (Only.refl (fun q => q = w.heap.size) wr).setCell (p := ⟨w.heap.size, 0, none⟩) (fun _ => rfl) _
      refine bodyPost_ret (v := .agg #[.func (.func 127) #[] #[.pointer (some ⟨w.heap.size + 1 + 1, 0, none⟩)]]) (by simp [results, Tryz.results91, go_sem, r0]) rfl ⟨_, rfl, (blockK_keeps HKs.out).down w.heap.size (w.heap.size + 1) _ _ ((blockK_keeps HKs.out).keep _ wr _ _ ⟨w.heap.size + 1 + 1, w.heap.size + 1, cs, rfl, ⟨by omega, by omega⟩, B2.out, B1.out, fun i hi => let ⟨y, a, b⟩ := X0.out i hi; ⟨y, a, (HKs.out i hi).down _ _ _ _ b (by omega)⟩⟩ (hF.mono (fun q _ e => by omega))) (by omega), HM2.out.far hF (by omega) (by omega) (by omega) (by omega), HO.out.trans hF (fun i hi e => absurd hi (by omega))⟩
end Go.Proofs.YtdbdbaepmdmnfaaGreatDoor

