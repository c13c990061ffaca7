import Derived.Test.YtdbdbaepmdmnfaaGreatDoorZ19
import Derived.Test.YtdbdbaepmdmnfaaGreatDoorZ17
import Derived.Test.YtdbdbaepmdmnfaaGreatDoorZ05
import Derived.Test.YtdbdbaepmdmnfaaGreatDoorZ04
import Derived.Test.YtdbdbaepmdmnfaaGreatDoorZ07
import Derived.Deep.RegionHeld3
import Derived.Deep.DeepCutAuto
import Derived.Deep.AppendLies
namespace Go.Proofs.YtdbdbaepmdmnfaaGreatDoor
open Go.RowKit
variable {wT : World}
set_option maxRecDepth 20000 in
set_option maxHeartbeats 4000000 in
/-- A statement made of what is counted. -/
theorem made_stmt (kb mv ma mf sg : Nat) (w0 : World) (ty : Nat) (u : Value) (I : Nat → World → Value → Prop) (hI : Keeps I) (vs vs' : VA) (h1 : ∀ W, (Instr.typeAssert (.iface ty u) 235 95 true).run Tryz.prog W = .ok (.tuple #[.slice none 0 0, .bool false]) W) (h2 : ∀ W, (Instr.typeAssert (.iface ty u) 235 334 true).run Tryz.prog W = .ok (.tuple #[.agg #[], .bool false]) W)
    (H : MadeS wT 161 kb mv ma mf sg w0 (.iface ty u) I vs vs') : MadeS wT 126 kb mv ma mf sg w0 (.iface ty u) (StF I) vs vs' := by
  intro w h hO
  have hmf := hmfT
  have hsf := hsfT
  have hsn := hsnT
  have hml := heap_lt h.v
  have hkl := heap_lt h.k
  have hal := heap_lt h.a
  have hw0 := h.t.size
  have HR := hide (H _ (h.calm (onlyA w (.cells #[.nilFunc] 185))) (hO.trans (onlyA w (.cells #[.nilFunc] 185)) (fun _ _ e => e.elim)))
  have HI := hide hI
  clear hI H h hO
  go_enter Tryz.func126, Tryz.ntmps126
  go_wp2_with fail
  refine (HR.out).mono ?_
  rintro en w2 ⟨x, rfl, hv, hk, ho⟩
  obtain ⟨F, cap, rfl⟩ := HI.out.isF _ _ _ hv
  have hb := (ho.block w.heap.size (by simp) (by omega)).trans (new0 w _)
  have r0 : w2.cell? ⟨w.heap.size, 0, none⟩ = some .nilFunc := cell_of hb rfl
  have rf := free_of hb
  have rl := heap_lt hb
  have HV := hide hv
  have HO := hide ho
  have HK := hide hk
  clear hv ho hb HR hk
  go_wp2
  have hzw : w.heap.size + 1 ≤ w2.heap.size := by have := HO.out.size; simpa using this
  refine bodyPost_ret (v := .agg #[.func (.func 162) #[] #[.pointer (some ⟨w2.heap.size, 0, none⟩)]]) (by simp [results, Tryz.results126, go_sem, r0, rl]) rfl ⟨_, rfl, ⟨w2.heap.size, _, rfl, by omega, new_at2 (by simp) _, HI.out.down _ _ _ _ (HI.out.keep _ _ _ _ HV.out (((Only.refl _ w2).setCell (p := ⟨w.heap.size, 0, none⟩) (fun _ => by show w.heap.size < _; simp) _).alloc _)) (by simp)⟩, (HK.out.far (b := w.heap.size) ((Only.refl (fun q => q = w.heap.size) w2).setCell (p := ⟨w.heap.size, 0, none⟩) (fun _ => rfl) _) (by omega) (by omega) (by omega) (by omega)).calm (onlyA _ _), ?_⟩
  exact (((((onlyA w _).mono (fun _ _ e => e.elim)).trans HO.out (fun _ _ e => e)).setCell (p := ⟨w.heap.size, 0, none⟩) (fun h => absurd h (by show ¬ w.heap.size < w.heap.size; omega)) _).alloc _)
/-- What works an expression out. -/
def WorkK (I : Nat → World → Value → Prop) (B : Nat) (w : World) (v : Value) : Prop := ∃ ec x y, v = .func (.func 297) #[] #[.pointer (some ⟨ec, 0, none⟩)] ∧ B ≤ ec ∧ w.heap[ec]? = some (.cells #[x, y] 338 (0, 0)) ∧ I B w (.agg #[x, y])
theorem workK_keeps {I : Nat → World → Value → Prop} (hI : KeepsE I) : Keeps (WorkK I) where
  isF := fun _ _ _ ⟨_, _, _, e, _⟩ => ⟨_, _, e⟩
  keep := fun B w w' x ⟨ec, y, z, e, k, h, hr⟩ ho => ⟨ec, y, z, e, k, (ho.block ec (heap_lt h) (by omega)).trans h, hI.keep _ _ _ _ hr ho⟩
  down := fun A B w x ⟨ec, y, z, e, k, h, hr⟩ hA => ⟨ec, y, z, e, by omega, h, hI.down _ _ _ _ hr hA⟩
set_option maxRecDepth 20000 in
set_option maxHeartbeats 1000000 in
theorem work_made2 (x y : Value) (w : World) : Calls Tryz.prog 215 #[.agg #[x, y]] w fun en w' => en = .returned (.agg #[.func (.func 297) #[] #[.pointer (some ⟨w.heap.size, 0, none⟩)]]) ∧ w' = (w.alloc (.cells #[x, y] 338)).alloc (.cells #[.func (.func 297) #[] #[.pointer (some ⟨w.heap.size, 0, none⟩)]] 185) := by
  have hmf := hmfT
  have hsf := hsfT
  have hsn := hsnT
  go_enter Tryz.func215, Tryz.ntmps215
  go_wp2
  exact bodyPost_ret (v := .agg #[.func (.func 297) #[] #[.pointer (some ⟨w.heap.size, 0, none⟩)]]) (by simp [results, Tryz.results215, go_sem]) rfl ⟨rfl, rfl⟩
set_option maxRecDepth 20000 in
set_option maxHeartbeats 4000000 in
/-- An expression as a statement, made. -/
theorem made_work (t : TypeId) (u : Value) (I : Nat → World → Value → Prop) (hI : KeepsE I) (vs vs' : VA) (hE : MakesE wT (.iface t u) I vs vs') (kb mv ma mf sg : Nat) (w0 : World) : MadeS wT 161 kb mv ma mf sg w0 (.iface 350 (.agg #[.iface t u])) (WorkK I) vs vs' := by
  intro w h hO
  have hmf := hmfT
  have hsf := hsfT
  have hsn := hsnT
  have t1 := ts507_424
  have t2 := ts507_427
  have t3 := ts507_429
  have t4 := ts507_432
  have t5 := tx507_419
  have t6 := tx507_509
  have t7 := tx507_510
  have t8 := tx507_512
  have t9 := tx507_513
  have t10 := ts507_507
  have hml := heap_lt h.v
  have hkl := heap_lt h.k
  have hal := heap_lt h.a
  have hw0 := h.t.size
  have HR := hide (fun W (hW : Only (fun _ => False) w W) => hE kb mv ma mf sg W (h.calm hW))
  have HW := hide work_made2
  clear hE h hO
  go_enter Tryz.func161, Tryz.ntmps161
  go_wp2_with fail
  refine (HR.out _ ((onlyA w _).alloc _)).mono ?_
  rintro en w2 ⟨v, rfl, hv, hk, ho⟩
  obtain ⟨x1, y1, rfl, hx1, hy1⟩ := hI.shape _ _ _ hv
  have hb := (ho.block w.heap.size (by simp; omega) (by omega)).trans ((Below.heap_alloc _ _ _ (by simp)).trans (new0 w _))
  have r0 : w2.cell? ⟨w.heap.size, 0, none⟩ = some .nilFunc := cell_of hb rfl
  have rf := free_of hb
  have rl := heap_lt hb
  have HV := hide hv
  have HO := hide ho
  have HK := hide hk
  clear hv ho hb HR hk
  go_wp2_with (go_at_call 215; refine (HW.out _ _ _).mono ?_; rintro en w3 ⟨rfl, hw3⟩; subst hw3)
  have hzw : w.heap.size + 1 + 1 ≤ w2.heap.size := by have := HO.out.size; simpa using this
  refine bodyPost_ret (v := .agg #[.func (.func 297) #[] #[.pointer (some ⟨w2.heap.size, 0, none⟩)]]) (by simp [results, Tryz.results161, go_sem, r0, rl]) rfl ⟨_, rfl, ⟨w2.heap.size, _, _, rfl, by omega, (Below.heap_alloc _ _ _ (by simp)).trans (new_at2 (by simp) _), hI.down _ _ _ _ (hI.keep _ _ _ _ HV.out ((((Only.refl _ w2).setCell (p := ⟨w.heap.size, 0, none⟩) (fun _ => by show w.heap.size < _; simp; omega) _).alloc _).alloc _)) (by simp; omega)⟩, ((HK.out.far (b := w.heap.size) ((Only.refl (fun q => q = w.heap.size) w2).setCell (p := ⟨w.heap.size, 0, none⟩) (fun _ => rfl) _) (by omega) (by omega) (by omega) (by omega)).calm (onlyA _ _)).calm (onlyA _ _), ?_⟩
  exact ((((((onlyA w _).alloc _).mono (fun _ _ e => e.elim)).trans HO.out (fun _ _ e => e)).setCell (p := ⟨w.heap.size, 0, none⟩) (fun h => absurd h (by show ¬ w.heap.size < w.heap.size; omega)) _).alloc _).alloc _
/-- A made block of n statements. -/
def BlockK (Ks : Nat → Nat → World → Value → Prop) (n : Nat) (B : Nat) (w : World) (v : Value) : Prop := ∃ lc g cs, v = .func (.func 127) #[] #[.pointer (some ⟨lc, 0, none⟩)] ∧ (B ≤ lc ∧ B ≤ g) ∧ w.heap[lc]? = some (.cells #[.slice (some ⟨g, 0, none⟩) n n] 132 (0, 0)) ∧ w.heap[g]? = some (.cells cs 185 (0, 0)) ∧ ∀ i : Nat, i < n → ∃ x, cs[i]? = some x ∧ Ks i B w x
theorem blockK_keeps {Ks : Nat → Nat → World → Value → Prop} {n : Nat} (hK : ∀ i, i < n → Keeps (Ks i)) : Keeps (BlockK Ks n) where
  isF := fun _ _ _ ⟨_, _, _, e, _⟩ => ⟨_, _, e⟩
  keep := fun B w w' x ⟨lc, g, cs, e, ⟨k1, k2⟩, h1, h2, h3⟩ ho => ⟨lc, g, cs, e, ⟨k1, k2⟩, (ho.block lc (heap_lt h1) (by omega)).trans h1, (ho.block g (heap_lt h2) (by omega)).trans h2, fun i hi => let ⟨y, a, b⟩ := h3 i hi; ⟨y, a, (hK i hi).keep _ _ _ _ b ho⟩⟩
  down := fun A B w x ⟨lc, g, cs, e, ⟨k1, k2⟩, h1, h2, h3⟩ hA => ⟨lc, g, cs, e, ⟨by omega, by omega⟩, h1, h2, fun i hi => let ⟨y, a, b⟩ := h3 i hi; ⟨y, a, (hK i hi).down _ _ _ _ b hA⟩⟩
set_option maxRecDepth 20000 in
set_option maxHeartbeats 4000000 in
theorem made_block (kb mv ma mf sg : Nat) (w0 : World) (Ks : Nat → Nat → World → Value → Prop) (vss : Nat → VA) (es : List Value) (hK : ∀ i, i < es.length → Keeps (Ks i)) (hel : es.length ≤ 900) (r cap : Nat) (hrl : r < w0.heap.size) (hrm : ¬ (r = mv ∨ r = ma))
    (hmk : ∀ W, (Instr.makeSlice 132 (.int .i64 es.length) (.int .i64 es.length)).run Tryz.prog W = .ok (.slice (some ⟨W.heap.size, 0, none⟩) es.length es.length) (W.alloc (.cells (Array.replicate es.length .nilFunc) 185)))
    (hif : ∀ (i : Nat) e, es[i]? = some e → ∃ t x, e = .iface t x) (hc : ∀ (i : Nat) e, es[i]? = some e → w0.cell? ⟨r, i, none⟩ = some e)
    (H : ∀ (i : Nat) e, es[i]? = some e → MadeS wT 126 kb mv ma mf sg w0 e (Ks i) (vss i) (vss (i + 1))) : MadeS wT 91 kb mv ma mf sg w0 (.slice (some ⟨r, 0, none⟩) es.length cap) (BlockK Ks es.length) (vss 0) (vss es.length) := by
  intro w h hO
  have hmf := hmfT
  have hsf := hsfT
  have hsn := hsnT
  have hml := heap_lt h.v
  have hkl := heap_lt h.k
  have hal := heap_lt h.a
  have hw0 := h.t.size
  have hr : r < w.heap.size := Nat.lt_of_lt_of_le hrl hO.size
  have HIF := hide hif
  have HC := hide (fun i e he => (hO.cell (p := ⟨r, i, none⟩) hrl hrm).trans (hc i e he))
  have HH := hide H
  have HM := hide h
  have HO0 := hide hO
  have HKs := hide hK
  clear hif hc H h hO hK
  go_enter Tryz.func91, Tryz.ntmps91
  go_wp2
  go_loopg [13] es.length (fun gh s13 wr => ∃ (k : Nat) (cs : Array Value), k ≤ es.length ∧ gh = es.length - k ∧ s13 = .int .i64 k ∧ cs.size = es.length ∧ wr.heap[w.heap.size]? = some (.cells #[.nilFunc] 185 (0, 0)) ∧ wr.heap[w.heap.size + 1]? = some (.cells cs 185 (0, 0)) ∧ wr.heap[w.heap.size + 1 + 1]? = some (.cells #[.slice (some ⟨w.heap.size + 1, 0, none⟩) es.length es.length] 132 (0, 0)) ∧ (∀ i : Nat, i < k → ∃ x, cs[i]? = some x ∧ Ks i (w.heap.size + 1 + 1 + 1) wr x) ∧ MkV wT wr kb mv ma mf sg (vss k) ∧ Only (fun q => q = mv ∨ q = ma) w wr)
  case atStart =>
    refine ⟨0, Array.replicate es.length .nilFunc, by omega, rfl, rfl, by simp, ?_, ?_, ?_, (by omega), HM.out.calm (((onlyA w _).alloc _).alloc _), (((onlyA w _).alloc _).alloc _).mono (fun _ _ e => e.elim)⟩
    · exact (Below.heap_alloc _ _ _ (by simp <;> omega)).trans ((Below.heap_alloc _ _ _ (by simp <;> omega)).trans (new0 w _))
    · exact (Below.heap_alloc _ _ _ (by simp <;> omega)).trans (new_at2 (by simp) _)
    · exact new_at2 (by simp) _
  case round =>
    obtain ⟨k, cs, hk, hgh, rfl, hcs, h0, h1, h2, hx, hmk2, ho⟩ := hrel
    have hzz := heap_lt h2
    have hrr : r < wr.heap.size := by omega
    have l0 : wr.cell? ⟨w.heap.size + 1 + 1, 0, none⟩ = some (.slice (some ⟨w.heap.size + 1, 0, none⟩) es.length es.length) := cell_of h2 rfl
    by_cases hlt : k < es.length
    · obtain ⟨e, he⟩ : ∃ e, es[k]? = some e := ⟨_, List.getElem?_eq_getElem hlt⟩
      obtain ⟨ti, xi, rfl⟩ := HIF.out k e he
      have q0 : wr.cell? ⟨r, k, none⟩ = some (.iface ti xi) := (ho.cell (p := ⟨r, k, none⟩) hr hrm).trans (HC.out k _ he)
      have K0 := hide (fun W hW hO => HH.out k _ he W hW hO)
      obtain ⟨xk, hxk⟩ : ∃ x, cs[k]? = some x := ⟨_, Array.getElem?_eq_getElem (by omega)⟩
      have hKk := HKs.out k hlt
      have HOW := hide (HO0.out.trans ho (fun _ _ e => e))
      have B0 := hide h0
      have B1 := hide h1
      have B2 := hide h2
      have X0 := hide hx
      have HO := hide ho
      have HG := hide hgh
      have HM2 := hide hmk2
      have HXK := hide hxk
      have hki : (k : Int) < (es.length : Int) := by omega
      clear h0 h1 h2 hx ho hgh hmk2 he hxk
      go_upto_region 5 with fail
      go_region_held3 (fun W => W.cell? ⟨w.heap.size + 1 + 1, 0, none⟩ = some (.slice (some ⟨w.heap.size + 1, 0, none⟩) es.length es.length)) (first | (with_reducible assumption) | go_keep | skip)
        (first | (go_at_call 126; refine (K0.out _ HM2.out.drewV (toDrew HOW.out)).mono ?_; rintro en w2 ⟨z, rfl, hz, hm2, ho2⟩; obtain ⟨F, fcap, rfl⟩ := hKk.isF _ _ _ hz; have hb0 := (ho2.block w.heap.size (heap_lt B0.out) (by omega)).trans B0.out; have hb1 := (ho2.block (w.heap.size + 1) (heap_lt B1.out) (by omega)).trans B1.out; have hb2 := (ho2.block (w.heap.size + 1 + 1) (heap_lt B2.out) (by omega)).trans B2.out; have m0 : w2.cell? ⟨w.heap.size + 1 + 1, 0, none⟩ = some (.slice (some ⟨w.heap.size + 1, 0, none⟩) es.length es.length) := cell_of hb2 rfl; have m1 : w2.cell? ⟨w.heap.size + 1, k, none⟩ = some xk := cell_of hb1 HXK.out; have mf := free_of hb1; have ml := heap_lt hb1; have C0 := hide hb0; have C1 := hide hb1; have C2 := hide hb2; have HZ := hide hz; have HO2 := hide ho2; have HM3 := hide hm2; clear hb0 hb1 hb2 hz ho2 hm2))
      all_goals
        go_wp2
        go_roundg (es.length - (k + 1))
        case measure => rw [HG.out]; omega
        case rel =>
          have hF : Only (fun q => q = w.heap.size + 1) w2 (w2.setCell ⟨w.heap.size + 1, k, none⟩ (.func (.func F) #[] fcap)) := (Only.refl (fun q => q = w.heap.size + 1) w2).setCell (p := ⟨w.heap.size + 1, k, none⟩) (fun _ => rfl) _
          refine ⟨k + 1, cs.setIfInBounds k (.func (.func F) #[] fcap), by omega, rfl, by go_num, by simpa using hcs, (hF.block _ (heap_lt C0.out) (by omega)).trans C0.out, heap_setCell_same C1.out _, (hF.block _ (heap_lt C2.out) (by omega)).trans C2.out, ?_, HM3.out.far hF (by omega) (by omega) (by omega) (by omega), (HO.out.trans (fromDrew HO2.out) (fun _ _ e => e)).trans hF (fun i hi e => absurd hi (by omega))⟩
          intro i hi
          by_cases hik : i = k
          · subst hik
            exact ⟨_, by rw [Array.getElem?_setIfInBounds, if_pos rfl, if_pos (by omega)], hKk.keep _ _ _ _ (hKk.down _ _ _ _ HZ.out (by show _ ≤ wr.heap.size; omega)) (hF.mono (fun q _ e => by omega))⟩
          · obtain ⟨y, hy1, hy2⟩ := X0.out i (by omega)
            exact ⟨y, by rw [Array.getElem?_setIfInBounds, if_neg (by omega)]; exact hy1, (HKs.out i (by omega)).keep _ _ _ _ ((HKs.out i (by omega)).keep _ _ _ _ hy2 ((fromDrew HO2.out).mono (fun q _ e => by omega))) (hF.mono (fun q _ e => by omega))⟩
    · obtain rfl : k = es.length := by omega
      have hki : ¬ (es.length : Int) < (es.length : Int) := by omega
      have B0 := hide h0
      have B1 := hide h1
      have B2 := hide h2
      have X0 := hide hx
      have HO := hide ho
      have HM2 := hide hmk2
      clear h0 h1 h2 hx ho hmk2
      have r0 : wr.cell? ⟨w.heap.size, 0, none⟩ = some .nilFunc := cell_of B0.out rfl
      have rf := free_of B0.out
      have rl := heap_lt B0.out
      go_wp2
      have hF : Only (fun q => q = w.heap.size) wr (wr.setCell ⟨w.heap.size, 0, none⟩ (.func (.func 127) #[] #[.pointer (some ⟨w.heap.size + 1 + 1, 0, none⟩)])) := (Only.refl (fun q => q = w.heap.size) wr).setCell (p := ⟨w.heap.size, 0, none⟩) (fun _ => rfl) _
      refine bodyPost_ret (v := .agg #[.func (.func 127) #[] #[.pointer (some ⟨w.heap.size + 1 + 1, 0, none⟩)]]) (by simp [results, Tryz.results91, go_sem, r0]) rfl ⟨_, rfl, (blockK_keeps HKs.out).down w.heap.size (w.heap.size + 1) _ _ ((blockK_keeps HKs.out).keep _ wr _ _ ⟨w.heap.size + 1 + 1, w.heap.size + 1, cs, rfl, ⟨by omega, by omega⟩, B2.out, B1.out, fun i hi => let ⟨y, a, b⟩ := X0.out i hi; ⟨y, a, (HKs.out i hi).down _ _ _ _ b (by omega)⟩⟩ (hF.mono (fun q _ e => by omega))) (by omega), HM2.out.far hF (by omega) (by omega) (by omega) (by omega), HO.out.trans hF (fun i hi e => absurd hi (by omega))⟩
end Go.Proofs.YtdbdbaepmdmnfaaGreatDoor

namespace Go.Proofs.YtdbdbaepmdmnfaaGreatDoor
open Go.RowKit
set_option maxRecDepth 20000 in
set_option maxHeartbeats 4000000 in
/-- What is stored: YtdbdbaepmdmnfaaGreatDoor = expr, and the like. -/
theorem expr_store (pb : Nat) (T : ByteArray) (ge : Bool) (s s1 s2 s3 : TS) (t1 t2 : TypeId) (u1 u2 : Value) (hI : IsPl (Is (.iface t1 u1)) true) (hq : seen s1 [63] = false) (m : Nat) (hm : m < 6) (hno : ∀ i t, i < m → [⟨#[61]⟩, ⟨#[43, 61]⟩, ⟨#[45, 61]⟩, ⟨#[42, 61]⟩, ⟨#[47, 61]⟩, (⟨#[37, 61]⟩ : ByteArray)][i]? = some t → seen s1 t.data.toList = false) (hyes : ∀ t, [⟨#[61]⟩, ⟨#[43, 61]⟩, ⟨#[45, 61]⟩, ⟨#[42, 61]⟩, ⟨#[47, 61]⟩, (⟨#[37, 61]⟩ : ByteArray)][m]? = some t → seen s1 t.data.toList = true) (h1 : Reads 182 pb T ge s s1 (Is (.iface t1 u1))) (hn : Nx pb T s1 s2) (h2 : Reads 143 pb T ge s2 s3 (Is (.iface t2 u2))) : Reads 143 pb T ge s s3 (Is (storeT (.iface t1 u1) s1.x (.iface t2 u2))) := by
  intro w h
  have HR := hide (h1 w h)
  have HI := hide hI
  have H2 := hide h2
  have HX := hide hn
  have HNo := hide hno
  have HYes := hide hyes
  have HQ := hide hq
  have e1 := fld188
  clear h1 h hI h2 hn hno hyes hq
  unfold storeT
  go_enter Tryz.func143, Tryz.ntmps143
  go_wp2_with fail
  refine (HR.out).mono ?_
  rintro en w1 ⟨v, rfl, hv, hp, ho⟩
  obtain rfl := hv
  have hl1 := hp.lt
  have HPs := hide (passes_no pb T s1 ge ⟨#[63]⟩ HQ.out w1 hp)
  have HIs := hide (HI.out w1 _ rfl)
  have HS := hide (oneOf_yes pb T s1 ge w1.heap.size 6 [⟨#[61]⟩, ⟨#[43, 61]⟩, ⟨#[45, 61]⟩, ⟨#[42, 61]⟩, ⟨#[47, 61]⟩, ⟨#[37, 61]⟩] (by decide) m hm HNo.out HYes.out _ (Reads.alloc_at hp _) (strs_new w1 [⟨#[61]⟩, ⟨#[43, 61]⟩, ⟨#[45, 61]⟩, ⟨#[42, 61]⟩, ⟨#[47, 61]⟩, ⟨#[37, 61]⟩]))
  have HT := hide (take_yes pb T s1 s2 ge HX.out _ (Reads.alloc_at hp (.cells #[.string ⟨#[61]⟩, .string ⟨#[43, 61]⟩, .string ⟨#[45, 61]⟩, .string ⟨#[42, 61]⟩, .string ⟨#[47, 61]⟩, .string ⟨#[37, 61]⟩] 9)))
  have HO := hide ho
  clear hp ho HR HI
  go_wp2_with (first | (go_at_call 106; refine (HPs.out).mono ?_; rintro en w2 ⟨rfl, h2⟩; subst w2) | (go_at_call 183; refine (HIs.out).mono ?_; rintro en w2 ⟨rfl, h2⟩; subst w2) | (go_at_call 184; refine (HS.out).mono ?_; rintro en w2 ⟨rfl, h2⟩; subst w2) | (go_at_call 139; refine (HT.out).mono ?_; rintro en w3 ⟨rfl, hp, ho⟩; have HP3 := hide hp; have HO3 : Hid (Only (fun k => k = pb) w w3) := hide ((HO.out.alloc _).trans ho (fun _ _ e => e)); clear hp ho) | (go_at_call 143; refine (H2.out _ HP3.out).mono ?_; rintro en w4 ⟨v, rfl, hv, hp, ho⟩; obtain rfl := hv; have HP4 := hide hp; have HO4 : Hid (Only (fun k => k = pb) w w4) := hide (HO3.out.trans ho (fun _ _ e => e)); clear hp ho))
  go_ret
  exact ⟨_, rfl, rfl, HP4.out, HO4.out⟩
set_option maxRecDepth 20000 in
set_option maxHeartbeats 4000000 in
theorem ahead_rd (pb : Nat) (T : ByteArray) (ge : Bool) (s s1 : TS) (V : World → Value → Prop) (t : ByteArray) (hs : seen s t.data.toList = false) (h1 : Reads 143 pb T ge s s1 V) (w : World) (h : PAt w pb T s ge) :
    Calls Tryz.prog 357 #[.pointer (some ⟨pb, 0, none⟩), .string t] w fun en w' => ∃ v, en = .returned v ∧ V w' v ∧ PAt w' pb T s1 ge ∧ Only (fun k => k = pb) w w' := by
  have HS := hide (sees_at pb T s ge t false hs w h)
  have HR := hide (h1 w h)
  clear hs h1 h
  go_enter Tryz.func357, Tryz.ntmps357
  go_wp2_with (first | (go_at_call 137; refine (HS.out).mono ?_; rintro en w2 ⟨rfl, h2⟩; subst w2) | (go_at_call 143; refine (HR.out).mono ?_; rintro en w1 ⟨v, rfl, hv, hp, ho⟩; have Hv := hide hv; have HP := hide hp; have HO := hide ho; clear hv hp ho))
  go_ret
  exact ⟨_, rfl, Hv.out, HP.out, HO.out⟩
/-- As Reads; the row that is answered is new. -/
def ReadsN (f : Nat) (pb : Nat) (T : ByteArray) (ge : Bool) (s s' : TS) (V : World → Value → Prop) : Prop :=
  ∀ w, PAt w pb T s ge → Calls Tryz.prog f #[.pointer (some ⟨pb, 0, none⟩)] w fun en w' => ∃ v, en = .returned v ∧ V w' v ∧ (∀ q, v.ownBlock = some q → w.heap.size ≤ q ∧ q < w'.heap.size) ∧ PAt w' pb T s' ge ∧ Only (fun k => k = pb) w w'
set_option maxRecDepth 20000 in
set_option maxHeartbeats 4000000 in
/-- A body that is one statement. -/
theorem body_one (pb : Nat) (T : ByteArray) (ge : Bool) (s s1 : TS) (V : World → Value → Prop) (hI : IsIf V) (hV2 : Stab2 V) (hs : seen s [123] = false) (h1 : Reads 181 pb T ge s s1 V) : ReadsN 249 pb T ge s s1 (BlockT pb 1 (fun _ => V)) := by
  intro w h
  have HS := hide (sees_at pb T s ge ⟨#[123]⟩ false hs w h)
  have HR := hide (h1 w h)
  have HI := hide hI
  have HV := hide hV2
  clear hs h1 h hI hV2
  go_enter Tryz.func249, Tryz.ntmps249
  go_wp2_with fail
  refine (HS.out).mono ?_
  rintro en w2 ⟨rfl, h2⟩
  subst w2
  go_wp2_with fail
  refine (HR.out).mono ?_
  rintro en w1 ⟨v, rfl, hv, hp, ho⟩
  obtain ⟨ti, xi, rfl⟩ := HI.out _ _ hv
  have hl1 := hp.lt
  have Hv := hide hv
  have HP := hide hp
  have HO := hide ho
  clear hv hp ho
  go_wp2
  go_ret
  refine ⟨_, rfl, ⟨[.iface ti xi], rfl, made_one (Nat.zero_le _), ?_, ?_⟩, ?_, Reads.alloc_at HP.out _, HO.out.alloc _⟩
  rotate_left 2
  · intro q hq
    have : w1.heap.size = q := Option.some.inj hq
    have := HO.out.size
    simp
    omega
  · intro e
    have : w1.heap.size = pb := Option.some.inj e
    omega
  · intro i u hu
    cases i with
    | zero =>
      cases hu
      exact HV.out _ _ _ (fun _ => False) Hv.out (onlyA _ _) (fun _ e => e.elim)
    | succ i => cases hu
end Go.Proofs.YtdbdbaepmdmnfaaGreatDoor

namespace Go.Proofs.YtdbdbaepmdmnfaaGreatDoor
open Go.RowKit
/-- An element of an array. -/
def ElemT (pb : Nat) (x : ByteArray) (a : Nat) (vs : List Value) : World → Value → Prop := fun w v => ∃ r, v = .iface 306 (.agg #[.string x, .int .i64 a, r]) ∧ Row pb vs w r
theorem elem_stab (pb : Nat) (x : ByteArray) (a : Nat) (vs : List Value) : Stab pb (ElemT pb x a vs) := fun w w' _ ⟨r, e, h⟩ ho => ⟨r, e, row_stab pb vs w w' r h ho⟩
set_option maxRecDepth 20000 in
set_option maxHeartbeats 4000000 in
theorem varEl_yes (pb : Nat) (T : ByteArray) (ge : Bool) (s s0 s1 s2 s3 : TS) (vs : List Value) (hn : Nx pb T s s0) (hb : seen s0 [91] = true) (hn0 : Nx pb T s0 s1) (h1 : Reads 424 pb T false s1 s2 (Row pb vs)) (ht : seen s2 [93] = true) (hn2 : Nx pb T s2 s3) : Reads 498 pb T ge s s3 (ElemT pb s.x s.xa vs) := by
  intro w h
  have HT := hide (take_yes pb T s s0 ge hn w h)
  have HPn : ∀ W, PAt W pb T s0 ge → Hid (Calls Tryz.prog 106 #[.pointer (some ⟨pb, 0, none⟩), .string ⟨#[91]⟩] W fun en w' => en = .returned (.bool true) ∧ PAt w' pb T s1 ge ∧ Only (fun k => k = pb) W w') := fun W hW => passes_yes pb T s0 s1 ge ⟨#[91]⟩ hb hn0 W hW
  have HL : ∀ W, PAt W pb T s1 ge → Hid (Calls Tryz.prog 426 #[.pointer (some ⟨pb, 0, none⟩), .string ⟨#[93]⟩] W fun en w' => ∃ v, en = .returned v ∧ Row pb vs w' v ∧ PAt w' pb T s3 ge ∧ Only (fun k => k = pb) W w') := fun W hW => listUp pb T ge s1 s2 s3 (Row pb vs) (row_stab pb vs) ⟨#[93]⟩ h1 ht hn2 W hW
  clear h hn hb h1 ht hn0 hn2
  go_enter Tryz.func498, Tryz.ntmps498
  go_wp2_with fail
  refine (HT.out).mono ?_
  rintro en w1 ⟨rfl, hp, ho⟩
  have HPs := HPn _ (Reads.alloc_at hp (.cells #[.string s.x, .int .i64 s.xa] 92))
  have HO := hide ho
  have hz := heap_lt hp
  clear hp ho HT HPn
  go_wp2_with fail
  refine (HPs.out).mono ?_
  rintro en w2 ⟨rfl, hp2, ho2⟩
  have hb2 := (ho2.block w1.heap.size (by simp) (by omega)).trans (new0 w1 (.cells #[.string s.x, .int .i64 s.xa] 92))
  have b0 : w2.cell? ⟨w1.heap.size, 0, none⟩ = some (.string s.x) := cell_of hb2 rfl
  have b1 : w2.cell? ⟨w1.heap.size, 1, none⟩ = some (.int .i64 s.xa) := cell_of hb2 rfl
  have bl := heap_lt hb2
  have b0d : w2.drew.cell? ⟨w1.heap.size, 0, none⟩ = some (.string s.x) := b0
  have b1d : w2.drew.cell? ⟨w1.heap.size, 1, none⟩ = some (.int .i64 s.xa) := b1
  have HLs := HL w2.drew (show PAt w2.drew pb T s1 ge from hp2)
  have HO2 := hide ((HO.out.alloc (.cells #[.string s.x, .int .i64 s.xa] 92)).trans ho2 (fun _ _ e => e))
  have HB2 := hide hb2
  clear hp2 ho2 hb2 HPs HL
  go_upto_region 3 with fail
  go_region_held3 (fun W => W.cell? ⟨w1.heap.size, 0, none⟩ = some (.string s.x) ∧ W.cell? ⟨w1.heap.size, 1, none⟩ = some (.int .i64 s.xa)) (first | (refine ⟨?_, ?_⟩ <;> (with_reducible assumption)))
    (first | (go_at_call 426; refine (HLs.out).mono ?_; rintro en w3 ⟨v, rfl, hv, hp3, ho3⟩; obtain ⟨po, cap, rfl⟩ := ownsRow_slice hv.1; have u0 := (ho3.cell (p := ⟨w1.heap.size, 0, none⟩) bl (by show ¬ w1.heap.size = pb; omega)).trans b0d; have u1 := (ho3.cell (p := ⟨w1.heap.size, 1, none⟩) bl (by show ¬ w1.heap.size = pb; omega)).trans b1d; have Hv := hide hv; have HP3 := hide hp3; have HO3 := hide (HO2.out.trans (fromDrew ho3) (fun _ _ e => e)); clear hv hp3 ho3))
  all_goals
    go_wp2
    go_ret
    exact ⟨_, rfl, ⟨_, rfl, Hv.out⟩, HP3.out, HO3.out⟩
set_option maxRecDepth 20000 in
set_option maxHeartbeats 4000000 in
theorem prim_elem (pb : Nat) (T : ByteArray) (ge : Bool) (s s0 s1 s2 s3 : TS) (vs : List Value) (hk : s.k = 5) (hn : Nx pb T s s0) (hb : seen s0 [91] = true) (hn0 : Nx pb T s0 s1) (h1 : Reads 424 pb T false s1 s2 (Row pb vs)) (ht : seen s2 [93] = true) (hn2 : Nx pb T s2 s3) : Reads 496 pb T ge s s3 (ElemT pb s.x s.xa vs) := by
  intro w h
  have r3 : w.cell? ⟨pb, 3, none⟩ = some (.int .i64 5) := by have := cell_of (o := 3) h rfl; rw [this, hk]; rfl
  have HT := hide (varEl_yes pb T ge s s0 s1 s2 s3 vs hn hb hn0 h1 ht hn2 w h)
  clear h hn hk hb hn0 h1 ht hn2
  go_enter Tryz.func496, Tryz.ntmps496
  go_wp2_with (go_at_call 498; refine (HT.out).mono ?_; rintro en w1 ⟨v, rfl, hv, hp, ho⟩; have Hv := hide hv; have HP := hide hp; have HO := hide ho; clear hv hp ho)
  go_ret
  exact ⟨_, rfl, Hv.out, HP.out, HO.out⟩
end Go.Proofs.YtdbdbaepmdmnfaaGreatDoor

namespace Go.Proofs.YtdbdbaepmdmnfaaGreatDoor
open Go.RowKit
set_option maxRecDepth 20000 in
set_option maxHeartbeats 4000000 in
theorem name_yes (pb : Nat) (T : ByteArray) (ge : Bool) (s s' : TS) (hk : s.k = 5) (hn : Nx pb T s s') (w : World) (h : PAt w pb T s ge) : Calls Tryz.prog 246 #[.pointer (some ⟨pb, 0, none⟩)] w fun en w' => en = .returned (.agg #[.string s.x, .int .i64 s.xa]) ∧ PAt w' pb T s' ge ∧ Only (fun k => k = pb) w w' := by
  have r3 : w.cell? ⟨pb, 3, none⟩ = some (.int .i64 5) := by have := cell_of (o := 3) h rfl; rw [this, hk]; rfl
  have HT := hide (fun W (hW : PAt W pb T s ge) => take_yes pb T s s' ge hn W hW)
  have HP := hide h
  have hl := h.lt
  clear h hn hk
  go_enter Tryz.func246, Tryz.ntmps246
  go_wp2_with fail
  refine (HT.out _ (Reads.alloc_at HP.out _)).mono ?_
  rintro en w1 ⟨rfl, hp1, ho1⟩
  have hb := (ho1.block w.heap.size (by simp) (by omega)).trans (new0 w (.cells #[.string ⟨#[]⟩, .int .i64 0] 92))
  have b0 : w1.cell? ⟨w.heap.size, 0, none⟩ = some (.string ⟨#[]⟩) := cell_of hb rfl
  have b1 : w1.cell? ⟨w.heap.size, 1, none⟩ = some (.int .i64 0) := cell_of hb rfl
  have bf := free_of hb
  have bl := heap_lt hb
  have HP1 := hide hp1
  have HO1 := hide (((Only.refl (fun k => k = pb) w).alloc (.cells #[.string ⟨#[]⟩, .int .i64 0] 92)).trans ho1 (fun _ _ e => e))
  clear hp1 ho1 hb
  go_wp2
  refine bodyPost_ret (v := .agg #[.string s.x, .int .i64 s.xa]) (by simp [results, Tryz.results246, go_sem, b0, b1]) rfl ⟨rfl, ?_, ?_⟩
  · exact (Below.heap_setCell _ _ _ _ (by show pb ≠ w.heap.size; omega)).trans ((Below.heap_setCell _ _ _ _ (by show pb ≠ w.heap.size; omega)).trans HP1.out)
  · exact (HO1.out.setCell (p := ⟨w.heap.size, 0, none⟩) (fun h => absurd h (by show ¬ w.heap.size < w.heap.size; omega)) _).setCell (p := ⟨w.heap.size, 1, none⟩) (fun h => absurd h (by show ¬ w.heap.size < w.heap.size; omega)) _
/-- A key in an array. -/
def inT (key : Value) (x : ByteArray) (a : Nat) : Value := .iface 321 (.agg #[key, .string x, .int .i64 a])
set_option maxRecDepth 20000 in
set_option maxHeartbeats 4000000 in
theorem matched_in (pb : Nat) (T : ByteArray) (ge : Bool) (s s1 s2 s3 : TS) (t : TypeId) (u : Value) (h1 : Reads 428 pb T ge s s1 (Is (.iface t u))) (n1 : seen s1 [126] = false) (n2 : seen s1 [33, 126] = false) (hi : seen s1 [105, 110] = true) (hn1 : Nx pb T s1 s2) (hk : s2.k = 5) (hn2 : Nx pb T s2 s3) (hi3 : seen s3 [105, 110] = false) : Reads 362 pb T ge s s3 (Is (inT (.iface t u) s2.x s2.xa)) := by
  intro w h
  have hl := h.lt
  have HR : Hid (Calls Tryz.prog 427 #[.pointer (some ⟨pb, 0, none⟩), .func (.func 428) #[.pointer (some ⟨pb, 0, none⟩)] #[], .slice (some ⟨w.heap.size, 0, none⟩) 2 2] (w.alloc (.cells #[.string ⟨#[126]⟩, .string ⟨#[33, 126]⟩] 9)) fun en w' => ∃ v, en = .returned v ∧ Is (.iface t u) w' v ∧ PAt w' pb T s1 ge ∧ Only (fun k => k = pb) (w.alloc (.cells #[.string ⟨#[126]⟩, .string ⟨#[33, 126]⟩] 9)) w') :=
    pair_no 428 cf606 pb T ge s s1 _ (is_stab pb _) h1 [⟨#[126]⟩, ⟨#[33, 126]⟩] (by decide) (fun t ht => by simp at ht; rcases ht with rfl | rfl; exact n1; exact n2) w.heap.size 2 _ (Reads.alloc_at h _) (by simp) (by omega) (strs_new w [⟨#[126]⟩, ⟨#[33, 126]⟩])
  have HNm := hide (fun W (hW : PAt W pb T s2 ge) => name_yes pb T ge s2 s3 hk hn2 W hW)
  have HPn := hide (fun W (hW : PAt W pb T s3 ge) => passes_no pb T s3 ge ⟨#[105, 110]⟩ hi3 W hW)
  have HPy := hide (fun W (hW : PAt W pb T s1 ge) => passes_yes pb T s1 s2 ge ⟨#[105, 110]⟩ hi hn1 W hW)
  clear n1 n2 h1 h hi hn1 hk hn2 hi3
  unfold inT
  go_enter Tryz.func362, Tryz.ntmps362
  go_wp2_with fail
  refine (HR.out).mono ?_
  rintro en w1 ⟨v, rfl, hv, hp, ho⟩
  obtain rfl : v = .iface t u := hv
  have HPs := hide (HPy.out w1 hp)
  have HO : Hid (Only (fun k => k = pb) w w1) := ((Only.refl _ w).alloc _).trans ho (fun _ _ e => e)
  clear hp ho HR
  go_wp2
  go_loopg [3] 1 (fun gh s3' wr => (gh = 1 ∧ s3' = .iface t u ∧ wr = w1) ∨ (gh = 0 ∧ s3' = .iface 321 (.agg #[.iface t u, .string s2.x, .int .i64 s2.xa]) ∧ Hid (PAt wr pb T s3 ge ∧ Only (fun k => k = pb) w wr)))
  case atStart => exact Or.inl ⟨rfl, rfl, rfl⟩
  case round =>
    rcases hrel with ⟨rfl, rfl, rfl⟩ | ⟨rfl, rfl, HR⟩
    · go_wp2_with fail
      refine (HPs.out).mono ?_
      rintro en w2 ⟨rfl, hp2, ho2⟩
      have HO2 := hide (HO.out.trans ho2 (fun _ _ e => e))
      have HN2 := hide (HNm.out w2 hp2)
      clear hp2 ho2 HPs
      go_wp2_with (go_at_call 246; refine (HN2.out).mono ?_; rintro en w3 ⟨rfl, hp3, ho3⟩; have HR3 := hide (And.intro hp3 (HO2.out.trans ho3 (fun _ _ e => e))); clear hp3 ho3)
      go_roundg 0
      case measure => omega
      case rel => exact Or.inr ⟨rfl, rfl, HR3⟩
    · have HPs2 := hide (HPn.out _ HR.out.1)
      go_wp2_with (go_at_call 106; refine (HPs2.out).mono ?_; rintro en w2 ⟨rfl, rfl⟩)
      go_ret
      exact ⟨_, rfl, rfl, HR.out.1, HR.out.2⟩
end Go.Proofs.YtdbdbaepmdmnfaaGreatDoor

namespace Go.Proofs.YtdbdbaepmdmnfaaGreatDoor
open Go.RowKit
/-- An array is emptied. -/
def delT (x : ByteArray) (a : Nat) : Value := .iface 356 (.agg #[.string x, .int .i64 a, .slice none 0 0])
set_option maxRecDepth 20000 in
set_option maxHeartbeats 4000000 in
theorem deletion_all (pb : Nat) (T : ByteArray) (ge : Bool) (s s' : TS) (hk : s.k = 5) (hn : Nx pb T s s') (hb : seen s' [91] = false) : Reads 361 pb T ge s s' (Is (delT s.x s.xa)) := by
  intro w h
  have HNm := hide (fun W (hW : PAt W pb T s ge) => name_yes pb T ge s s' hk hn W hW)
  have HPn := hide (fun W (hW : PAt W pb T s' ge) => passes_no pb T s' ge ⟨#[91]⟩ hb W hW)
  have HP := hide h
  have hl := h.lt
  clear h hk hn hb
  unfold delT
  go_enter Tryz.func361, Tryz.ntmps361
  go_wp2_with fail
  refine (HNm.out w HP.out).mono ?_
  rintro en w1 ⟨rfl, hp1, ho1⟩
  have HPs := hide (HPn.out _ (Reads.alloc_at hp1 (.cells #[.string s.x, .int .i64 s.xa, .slice none 0 0] 356)))
  have HP1 := hide hp1
  have HO1 := hide ho1
  clear hp1 ho1 HNm HPn
  go_wp2_with (go_at_call 106; refine (HPs.out).mono ?_; rintro en w2 ⟨rfl, rfl⟩)
  go_ret
  exact ⟨_, rfl, rfl, Reads.alloc_at HP1.out _, HO1.out.alloc _⟩
end Go.Proofs.YtdbdbaepmdmnfaaGreatDoor

namespace Go.Proofs.YtdbdbaepmdmnfaaGreatDoor
open Go.RowKit
theorem ta_in (v : Value) (w : World) : (Instr.typeAssert (.iface 321 v) 238 321 true).run Tryz.prog w = .ok (.tuple #[v, .bool true]) w := by kernel_rfl
theorem ta_key (v : Value) (w : World) : (Instr.typeAssert (.iface 92 v) 238 92 true).run Tryz.prog w = .ok (.tuple #[v, .bool true]) w := by kernel_rfl
set_option maxRecDepth 20000 in
set_option maxHeartbeats 4000000 in
theorem keyAnd_yes (kd : Int) (t : ByteArray) (kx x : ByteArray) (ka a : Nat) (w : World) : Calls Tryz.prog 358 #[.agg #[.int .i64 kd, .string t, .int .i64 ka], inT (nameV kx ka) x a] w fun en w' => en = .returned (.tuple #[.agg #[.string kx, .int .i64 ka], .agg #[.string x, .int .i64 a], .bool true]) ∧ Only (fun _ => False) w w' := by
  have h1 := ta_in
  have h2 := ta_key
  unfold inT nameV
  go_enter Tryz.func358, Tryz.ntmps358
  go_upto_region 5 with fail
  go_region
  go_wp2
  refine bodyPost_ret (v := .tuple #[.agg #[.string kx, .int .i64 ka], .agg #[.string x, .int .i64 a], .bool true]) (by simp [results, Tryz.results358, go_sem]) rfl ⟨rfl, ?_⟩
  exact toDrew (((((onlyA w _).alloc _).alloc _).alloc _).alloc _)
end Go.Proofs.YtdbdbaepmdmnfaaGreatDoor

namespace Go.Proofs.YtdbdbaepmdmnfaaGreatDoor
open Go.RowKit
/-- No word of a statement ahead of delete. -/
def NoWordD (s : TS) : Prop := ∀ t ∈ [[112, 114, 105, 110, 116], [110, 101, 120, 116], [98, 114, 101, 97, 107], [99, 111, 110, 116, 105, 110, 117, 101], [101, 120, 105, 116], [114, 101, 116, 117, 114, 110]], seen s t = false
set_option maxRecDepth 20000 in
set_option maxHeartbeats 4000000 in
theorem simple_delete (pb : Nat) (T : ByteArray) (ge : Bool) (s s1 s2 : TS) (V : World → Value → Prop) (hw : NoWordD s) (hd : seen s [100, 101, 108, 101, 116, 101] = true) (hn : Nx pb T s s1) (h1 : Reads 361 pb T ge s1 s2 V) : Reads 251 pb T ge s s2 V := by
  intro w h
  have hl := h.lt
  have r5 : w.cell? ⟨pb, 5, none⟩ = some (.int .i64 s.xa) := cell_of h rfl
  have HPp := hide (passes_no pb T s ge ⟨#[112, 114, 105, 110, 116]⟩ (hw _ (by simp)) w h)
  have HS := hide (oneOf_no pb T s ge w.heap.size 3 [⟨#[110, 101, 120, 116]⟩, ⟨#[98, 114, 101, 97, 107]⟩, ⟨#[99, 111, 110, 116, 105, 110, 117, 101]⟩] (by decide) (fun t ht => hw _ (by simp at ht; rcases ht with rfl | rfl | rfl <;> simp)) _ (Reads.alloc_at h _) (strs_new w [⟨#[110, 101, 120, 116]⟩, ⟨#[98, 114, 101, 97, 107]⟩, ⟨#[99, 111, 110, 116, 105, 110, 117, 101]⟩]))
  have hp2 := Reads.alloc_at h (.cells #[.string ⟨#[110, 101, 120, 116]⟩, .string ⟨#[98, 114, 101, 97, 107]⟩, .string ⟨#[99, 111, 110, 116, 105, 110, 117, 101]⟩] 9)
  have HPe := hide (passes_no pb T s ge ⟨#[101, 120, 105, 116]⟩ (hw _ (by simp)) _ hp2)
  have HPr := hide (passes_no pb T s ge ⟨#[114, 101, 116, 117, 114, 110]⟩ (hw _ (by simp)) _ hp2)
  have HPd := hide (passes_yes pb T s s1 ge ⟨#[100, 101, 108, 101, 116, 101]⟩ hd hn _ hp2)
  have HA := hide h1
  clear h hw h1 hp2 hd hn
  go_enter Tryz.func251, Tryz.ntmps251
  go_wp2_with fail
  refine (HPp.out).mono ?_
  rintro en w1 ⟨rfl, rfl⟩
  go_wp2_with fail
  refine (HS.out).mono ?_
  rintro en w1 ⟨rfl, rfl⟩
  go_wp2_with fail
  refine (HPe.out).mono ?_
  rintro en w1 ⟨rfl, rfl⟩
  go_wp2_with fail
  refine (HPr.out).mono ?_
  rintro en w1 ⟨rfl, rfl⟩
  go_wp2_with fail
  refine (HPd.out).mono ?_
  rintro en w1 ⟨rfl, hp1, ho1⟩
  have HA1 := hide (HA.out w1 hp1)
  have HO1 := hide (fromAlloc ho1)
  clear hp1 ho1 HA HPp HS HPe HPr HPd
  go_wp2_with fail
  refine (HA1.out).mono ?_
  rintro en w2 ⟨v, rfl, hv, hp2, ho2⟩
  have Hv := hide hv
  have HP2 := hide hp2
  have HO2 := hide (HO1.out.trans ho2 (fun _ _ e => e))
  clear hv hp2 ho2 HA1
  go_wp2
  go_ret
  exact ⟨_, rfl, Hv.out, HP2.out, HO2.out⟩
end Go.Proofs.YtdbdbaepmdmnfaaGreatDoor

namespace Go.Proofs.YtdbdbaepmdmnfaaGreatDoor
open Go.RowKit
/-- What V tells stands while other rows of statements than those of R grow. -/
def Stab2X (R : Value → Nat → Prop) (V : World → Value → Prop) : Prop := ∀ w w' v (D : Nat → Prop), V w v → Only D w w' → (∀ k, D k → (∃ c, w.heap[k]? = some (.cells c 235 (0, 0))) ∧ ¬ R v k) → V w' v
/-- As Reads; the rows of R are new. -/
def ReadsX (R : Value → Nat → Prop) (f : Nat) (pb : Nat) (T : ByteArray) (ge : Bool) (s s' : TS) (V : World → Value → Prop) : Prop :=
  ∀ w, PAt w pb T s ge → Calls Tryz.prog f #[.pointer (some ⟨pb, 0, none⟩)] w fun en w' => ∃ v, en = .returned v ∧ V w' v ∧ (∀ q, R v q → w.heap.size ≤ q ∧ q < w'.heap.size) ∧ PAt w' pb T s' ge ∧ Only (fun k => k = pb) w w'
theorem Stab2.x {R : Value → Nat → Prop} {V : World → Value → Prop} (h : Stab2 V) : Stab2X R V := fun w w' v D hv ho hD => h w w' v D hv ho (fun k hk => (hD k hk).1)
theorem Reads.x {R : Value → Nat → Prop} {f pb : Nat} {T : ByteArray} {ge : Bool} {s s' : TS} {V : World → Value → Prop} (h : Reads f pb T ge s s' V) (hn : ∀ w v q, V w v → ¬ R v q) : ReadsX R f pb T ge s s' V := fun w hw => (h w hw).mono (fun _ _ ⟨v, e, hv, hp, ho⟩ => ⟨v, e, hv, fun q hq => absurd hq (hn _ _ q hv), hp, ho⟩)
set_option maxRecDepth 20000 in
set_option maxHeartbeats 8000000 in
theorem block_rdX (R : Value → Nat → Prop) (pb : Nat) (T : ByteArray) (ge : Bool) (s : TS) (n : Nat) (hn100 : n ≤ 100) (S : Nat → TS) (se : TS) (Vf : Nat → World → Value → Prop) (hV : ∀ i, i < n → Stab pb (Vf i)) (hV2 : ∀ i, i < n → Stab2X R (Vf i)) (hI : ∀ i, i < n → IsIf (Vf i)) (ho' : seen s [123] = true) (hn0 : Nx pb T s (S 0))
    (hr : ∀ i, i < n → ReadsX R 181 pb T ge (S i) (S (i + 1)) (Vf i)) (hno : ∀ i, i < n → seen (S i) [125] = false) (hyes : seen (S n) [125] = true) (hne : Nx pb T (S n) se) : ReadsN 142 pb T ge s se (BlockT pb n Vf) := by
  obtain ⟨i0, hi0, hz0, hz1, hz2⟩ := info_parts info363
  intro w h
  have HNd := hide (need_yes pb T s (S 0) ge ⟨#[123]⟩ ho' hn0 w h)
  have HPy : ∀ W, PAt W pb T (S n) ge → Hid (Calls Tryz.prog 106 #[.pointer (some ⟨pb, 0, none⟩), .string ⟨#[125]⟩] W fun en w' => en = .returned (.bool true) ∧ PAt w' pb T se ge ∧ Only (fun k => k = pb) W w') := fun W hW => passes_yes pb T (S n) se ge ⟨#[125]⟩ hyes hne W hW
  have HPn : ∀ i, i < n → ∀ W, PAt W pb T (S i) ge → Hid (Calls Tryz.prog 106 #[.pointer (some ⟨pb, 0, none⟩), .string ⟨#[125]⟩] W fun en w' => en = .returned (.bool false) ∧ w' = W) := fun i hi W hW => passes_no pb T (S i) ge ⟨#[125]⟩ (hno i hi) W hW
  have HRd := hide hr
  have HV := hide hV
  have HI := hide hI
  have HV2 := hide hV2
  clear h ho' hn0 hr hno hyes hne hV hI hV2
  go_enter Tryz.func142, Tryz.ntmps142
  go_wp2_with fail
  refine (HNd.out).mono ?_
  rintro en w1 ⟨rfl, hp1, ho1⟩
  have HP1 := hide hp1
  have HO1 := hide ho1
  clear hp1 ho1 HNd
  go_wp2
  go_loopg [3] n (fun g s3 wr => ∃ (k : Nat) (vs : List Value) (sv : Value), sv = s3 ∧ k ≤ n ∧ g = n - k ∧ vs.length = k ∧ wr.ownsRow w.heap.size 235 1 s3 k vs ∧ (∀ i u, vs[i]? = some u → Vf i wr u ∧ ∀ q, R u q → q < wr.heap.size ∧ s3.ownBlock ≠ some q) ∧ PAt wr pb T (S k) ge ∧ Only (fun k => k = pb) w wr)
  case atStart => exact ⟨0, [], _, rfl, Nat.zero_le _, rfl, rfl, World.ownsRow_nil _ _ _ _, fun i u hu => by simp at hu, HP1.out, HO1.out⟩
  case round =>
    obtain ⟨k, vs, sv, rfl, hk, hg, hvl, hrow, hvs, hp, ho⟩ := hrel
    have HG := hide hg
    have HRow := hide hrow
    have HVs := hide hvs
    have HO := hide ho
    have hlp := hp.lt
    have hnp := own_tag (t := 154) hrow hp (by decide)
    have hzw := ho.size
    by_cases hlt : k < n
    · have HPs := HPn k hlt _ hp
      have HSt := hide (HRd.out k hlt _ hp)
      clear hg hrow hvs hp ho
      go_wp2_with (first | (go_at_call 106; refine (HPs.out).mono ?_; rintro en w2 ⟨rfl, rfl⟩))
      refine (HSt.out).mono ?_
      rintro en w3 ⟨u, rfl, hu, hfr, hp3, ho3⟩
      obtain ⟨t, x, rfl⟩ := HI.out k hlt _ _ hu
      have hz3 := ho3.size
      have hrow3 := row_keep HRow.out hnp ho3
      have HRow3 := hide hrow3
      have Hu := hide hu
      have HP3 := hide hp3
      have HO3 : Hid (Only (fun k => k = pb) w w3) := HO.out.trans ho3 (fun _ _ e => e)
      have HVs3 : Hid (∀ i u, vs[i]? = some u → Vf i w3 u ∧ ∀ q, R u q → q < w3.heap.size ∧ sv.ownBlock ≠ some q) := fun i u hiu => ⟨HV.out i (by have := (List.getElem?_eq_some_iff.1 hiu).1; omega) _ _ _ (HVs.out i u hiu).1 ho3, fun q hq => ⟨Nat.lt_of_lt_of_le ((HVs.out i u hiu).2 q hq).1 hz3, ((HVs.out i u hiu).2 q hq).2⟩⟩
      have HFr := hide hfr
      have hl3 := hp3.lt
      clear hu hp3 ho3 hrow3 HSt HPs hfr
      go_wp2_with (at_builtin; refine wpList_append_lies _ rfl (.tmp 9) (.tmp 12) 95 rfl w.heap.size 235 i0 .nilIface 1 16 Tryz.underlying95 hi0 hz0 hz1 hz2 rfl (by decide) _ _ _ rfl (HRow3.out.alloc _) _ 1 1 [.iface t x] rfl rfl (news_oneR _ _ _) (fun u hu => by simp at hu; subst hu; rfl) (by decide) (by unfold maxLen; omega) (by omega) (by simp; omega) (w3.heap.size + 1) (by simp) ?_; intro g' cap' w4 hown' hgrow hlie hgl)
      have hp4 : PAt w4 pb T (S (k + 1)) ge := (hgrow.block pb (by simp; omega) (fun e => hnp e.symm)).trans (Reads.alloc_at HP3.out _)
      have ho34 : Only (fun q => some q = _) _ w4 := (Only.refl (fun q => some q = _) _).grown hgrow (fun q hq _ => hq.symm)
      have hD := row_tag (HRow3.out.alloc (.cells #[.iface t x] 235))
      have hz4 := hgrow.size
      have hz4' : w3.heap.size + 1 ≤ w4.heap.size := by simpa using hz4
      have hrl := HRow.out.lt
      have HVs4 : Hid (∀ i u, (vs ++ [.iface t x])[i]? = some u → Vf i w4 u ∧ ∀ q, R u q → q < w4.heap.size ∧ (Value.slice (some ⟨g', 0, none⟩) (k + 1) cap').ownBlock ≠ some q) := fun i u hiu => by
        by_cases hi : i < vs.length
        · rw [List.getElem?_append_left hi] at hiu
          have h0 := HVs3.out i u hiu
          refine ⟨HV2.out i (by omega) _ _ _ _ (HV2.out i (by omega) _ _ _ (fun _ => False) h0.1 (onlyA _ _) (fun _ e => e.elim)) ho34 (fun q hq => ⟨hD q hq, fun hf => (h0.2 q hf).2 hq.symm⟩), fun q hq => ⟨by have := (h0.2 q hq).1; omega, fun e => ?_⟩⟩
          have e2 : g' = q := Option.some.inj e
          rcases hlie with h | h
          · exact (h0.2 q hq).2 (by rw [← e2]; exact h)
          · have := (h0.2 q hq).1
            omega
        · rw [List.getElem?_append_right (by omega)] at hiu
          have hik : i = k := by have := (List.getElem?_eq_some_iff.1 hiu).1; simp at this; omega
          subst hik
          rw [hvl, Nat.sub_self] at hiu
          simp at hiu
          subst hiu
          have hne : ∀ q, R (.iface t x) q → sv.ownBlock ≠ some q := fun q hq e => by
            have h1 := (HFr.out q hq).1
            have h2 := (hrl q e).2
            omega
          refine ⟨HV2.out i (by omega) _ _ _ _ (HV2.out i (by omega) _ _ _ (fun _ => False) Hu.out (onlyA _ _) (fun _ e => e.elim)) ho34 (fun q hq => ⟨hD q hq, fun hf => hne q hf hq.symm⟩), fun q hq => ⟨by have := (HFr.out q hq).2; omega, fun e => ?_⟩⟩
          have e2 : g' = q := Option.some.inj e
          rcases hlie with h | h
          · exact hne q hq (by rw [← e2]; exact h)
          · have := (HFr.out q hq).2
            omega
      have ho4 : Only (fun k => k = pb) w w4 := (HO3.out.alloc _).grown hgrow (fun q hq hlt => by have := (HRow3.out.lt q hq).1; omega)
      have HP4 := hide hp4
      have HO4 := hide ho4
      have HR4 := hide hown'
      clear hp4 ho4 hown' hgrow hlie hgl ho34 hD hz4 hz4' hrl
      go_wp2
      go_roundg (n - (k + 1))
      case measure => rw [HG.out]; omega
      case rel => exact ⟨k + 1, vs ++ [.iface t x], _, rfl, by omega, rfl, by simp; omega, HR4.out, HVs4.out, HP4.out, HO4.out⟩
    · obtain rfl : k = n := by omega
      have HPs := HPy _ hp
      clear hg hrow hvs hp ho
      go_wp2_with (go_at_call 106; refine (HPs.out).mono ?_; rintro en w2 ⟨rfl, hp2, ho2⟩; have HP2 := hide hp2; have HO2 := hide ho2; clear hp2 ho2)
      go_ret
      refine ⟨_, rfl, ⟨vs, hvl, base0 (row_keep HRow.out hnp HO2.out), hnp, fun i u hiu => HV.out i (by have := (List.getElem?_eq_some_iff.1 hiu).1; omega) _ _ _ (HVs.out i u hiu).1 HO2.out⟩, fun q hq => ⟨(HRow.out.lt q hq).1, Nat.lt_of_lt_of_le (HRow.out.lt q hq).2 HO2.out.size⟩, HP2.out, HO.out.trans HO2.out (fun _ _ e => e)⟩
end Go.Proofs.YtdbdbaepmdmnfaaGreatDoor

