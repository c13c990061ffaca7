import Derived.Test.YtdbdbaepmdmnfaaGreatDoorZ30
namespace Go.Proofs.YtdbdbaepmdmnfaaGreatDoor
open Go.RowKit
set_option maxRecDepth 20000 in
set_option maxHeartbeats 1000000 in
theorem set_variable_on (p : Pl8) (s : St8) (k : Nat) (hk : k < 8) (h1 : k ≠ 1) (a n : Int) (t : ByteArray) (x0 x1 x2 : Value) (e0 : s.cs[k * 3]? = some x0) (e1 : s.cs[k * 3 + 1]? = some x1) (e2 : s.cs[k * 3 + 2]? = some x2) (w : World) (h : On8 p s w) :
    Calls Tryz.prog 311 #[.pointer (some ⟨p.m, 0, none⟩), .int .i64 k, .agg #[.int .i64 a, .int .i64 n, .string t]] w fun en w' => en = .returned (.tuple #[]) ∧ On8 p { s with cs := setVar s.cs k a n t } w' ∧ Kept p w w' := by
  obtain ⟨fv, hM, _⟩ := h.M
  have c1 : w.cell? ⟨p.m, 1, none⟩ = some (.slice (some ⟨p.vb, 0, none⟩) 8 8) := cell_of hM rfl
  have ml := heap_lt hM
  have v0 := h.V.cell e0
  have v1 := h.V.cell e1
  have v2 := h.V.cell e2
  have vl := heap_lt h.V
  have vf := free_of h.V
  have hli : 0 ≤ (k : Int) ∧ (k : Int) < 8 := by omega
  have hk1 : ((k : Int) == 1) = false := by rw [beq_eq_false_iff_ne]; omega
  have H := hide h
  have hvn : p.vb ≠ w.heap.size := by omega
  clear h hM e0 e1 e2
  go_enter Tryz.func311, Tryz.ntmps311
  go_upto_region 3 with fail
  go_region
  go_wp2
  go_end0
  have hO : Only (fun q => q = p.vb) w _ := toDrew (((((Only.refl (fun q => q = p.vb) w).setCell (p := ⟨p.vb, k * 3, none⟩) (fun _ => rfl) (.int .i64 a)).setCell (p := ⟨p.vb, k * 3 + 1, none⟩) (fun _ => rfl) (.int .i64 n)).setCell (p := ⟨p.vb, k * 3 + 2, none⟩) (fun _ => rfl) (.string t)).alloc (.cells #[.int .i64 a, .int .i64 n, .string t] 203))
  have hV := ((H.out.V.set (k * 3) (.int .i64 a)).set (k * 3 + 1) (.int .i64 n)).set (k * 3 + 2) (.string t)
  exact ⟨rfl, H.out.turnV hO (heapD ((Below.heap_alloc _ _ _ (heap_lt hV)).trans hV)), Kept.ofV (fun q e => Or.inr (Or.inl e)) hO⟩
set_option maxRecDepth 20000 in
set_option maxHeartbeats 1000000 in
/-- Storing to a variable. -/
theorem stores_var (p : Pl8) (s : St8) (k : Nat) (hk : k < 8) (h1 : k ≠ 1) (a n : Int) (t : ByteArray) (x0 x1 x2 : Value) (e0 : s.cs[k * 3]? = some x0) (e1 : s.cs[k * 3 + 1]? = some x1) (e2 : s.cs[k * 3 + 2]? = some x2) : StoresK p s { s with cs := setVar s.cs k a n t } 310 k (.agg #[.int .i64 a, .int .i64 n, .string t]) := by
  refine ⟨cf310, fun w b2 nb h g2 g4 => ?_⟩
  have l2 := heap_lt g2
  have l4 := heap_lt g4
  have c2 : w.cell? ⟨b2, 0, none⟩ = some (.pointer (some ⟨p.m, 0, none⟩)) := cell_of g2 rfl
  have c4 : w.cell? ⟨nb, 0, none⟩ = some (.int .i64 k) := cell_of g4 rfl
  have HR := hide (set_variable_on p s k hk h1 a n t x0 x1 x2 e0 e1 e2 _ (h.calm (onlyA w (.cells #[.int .i64 a, .int .i64 n, .string t] 203))))
  clear h e0 e1 e2 g2 g4 hk h1
  go_enter Tryz.func310, Tryz.ntmps310
  go_wp2_with fail
  refine (HR.out).mono ?_
  rintro en w2 ⟨rfl, hq, hk⟩
  have HQ := hide hq
  have HK := hide hk
  clear hq hk
  go_wp2
  go_end0
  exact ⟨rfl, HQ.out, (Kept.of (onlyA w _)).trans HK.out⟩
set_option maxRecDepth 20000 in
set_option maxHeartbeats 2000000 in
/-- What was made of a store. -/
theorem works_setG (p : Pl8) (s s' : St8) (ft fst k lb rb : Nat) (x1 y1 x2 y2 : Value) (a n : Int) (t : ByteArray) (hl : p.wN.heap[lb]? = some (.cells #[x1, y1] 338 (0, 0))) (hr : p.wN.heap[rb]? = some (.cells #[x2, y2] 338 (0, 0))) (hF : FindsK p s ft fst k y1) (hG : Gives p s x2 (.agg #[.int .i64 a, .int .i64 n, .string t])) (hS : StoresK p s s' fst k (.agg #[.int .i64 a, .int .i64 n, .string t])) : Works p s s' (.func (.func 351) #[] #[.pointer (some ⟨lb, 0, none⟩), .pointer (some ⟨rb, 0, none⟩)]) (.agg #[.int .i64 a, .int .i64 n, .string t]) := by
  refine ⟨351, [.pointer (some ⟨lb, 0, none⟩), .pointer (some ⟨rb, 0, none⟩)], rfl, cf351, fun w h => ?_⟩
  obtain ⟨F1, caps1, rfl, hcf1, hF⟩ := hF
  obtain ⟨F2, caps2, rfl, hcf2, hG⟩ := hG
  obtain ⟨hcf3, hS⟩ := hS
  unfold Enters at hcf1 hcf2 hcf3
  have hmf := hmfT
  have hsf := hsfT
  have hsn := hsnT
  have hlw := (h.O.block lb (heap_lt hl) (fun e => e)).trans hl
  have hrw := (h.O.block rb (heap_lt hr) (fun e => e)).trans hr
  have el : w.cell? ⟨lb, 1, none⟩ = some (.func (.func F1) #[] caps1.toArray) := cell_of hlw rfl
  have er : w.cell? ⟨rb, 0, none⟩ = some (.func (.func F2) #[] caps2.toArray) := cell_of hrw rfl
  have ll := heap_lt hlw
  have rl := heap_lt hrw
  have HH := hide h
  have HF := hide (fun W (hW : Only (fun _ => False) w W) => hF W (h.calm hW))
  have HG := hide (fun W (hW : Only (fun _ => False) w W) => hG W (h.calm hW))
  have HS := hide (fun W b2 nb (hW : Only (fun _ => False) w W) => hS W b2 nb (h.calm hW))
  clear h hlw hrw hF hG hS hl hr
  go_enter Tryz.func351, Tryz.ntmps351
  go_wp2_with fail
  refine (HF.out _ (onlyA w _)).mono ?_
  rintro en w1 ⟨tk, st, rfl, ⟨b2, nb, rfl, rfl, h2, h4⟩, ho1⟩
  have hO1 := (onlyA w _).trans ho1 (fun _ _ e => e)
  have el1 := (hO1.cell (p := ⟨lb, 1, none⟩) ll (fun e => e)).trans el
  have er1 := (hO1.cell (p := ⟨rb, 0, none⟩) rl (fun e => e)).trans er
  have hb0 := (ho1.block w.heap.size (by simp) (fun e => e)).trans (new0 w _)
  have HB0 := hide hb0
  have HO1 := hide hO1
  have H2 := hide h2
  have H4 := hide h4
  have z1 := ho1.size
  simp at z1
  have rl1 : rb < w1.heap.size := by omega
  clear ho1 hO1 hb0 h2 h4 z1
  go_wp2_with fail
  refine (HG.out _ (HO1.out.alloc _)).mono ?_
  rintro en w2 ⟨rfl, ho2⟩
  have hO2 := (HO1.out.alloc _).trans ho2 (fun _ _ e => e)
  have hfb := (ho2.block w1.heap.size (by simp) (fun e => e)).trans (new0 w1 _)
  have f0 : w2.cell? ⟨w1.heap.size, 1, none⟩ = some (.func (.func fst) #[] #[.pointer (some ⟨b2, 0, none⟩), .pointer (some ⟨nb, 0, none⟩)]) := cell_of hfb rfl
  have fl := heap_lt hfb
  have o12 := ((Only.refl (fun _ => False) w1).alloc _).trans ho2 (fun _ _ e => e)
  have hb2 := (o12.block b2 (heap_lt H2.out) (fun e => e)).trans H2.out
  have hb4 := (o12.block nb (heap_lt H4.out) (fun e => e)).trans H4.out
  have hbr := (o12.block w.heap.size (heap_lt HB0.out) (fun e => e)).trans HB0.out
  have z2 := o12.size
  have HBr := hide hbr
  have HO2 := hide hO2
  have H22 := hide hb2
  have H24 := hide hb4
  have z0 := heap_lt HB0.out
  clear ho2 hO2 hfb o12 hb2 hb4 hbr H2 H4 HB0
  go_wp2_with fail
  refine (HS.out _ b2 nb (HO2.out.alloc _) ((Below.heap_alloc _ _ _ (heap_lt H22.out)).trans H22.out) ((Below.heap_alloc _ _ _ (heap_lt H24.out)).trans H24.out)).mono ?_
  rintro en w3 ⟨rfl, h3, k3⟩
  have hv3 := k3.new HH.out (q := w2.heap.size) (by omega) (by decide) (by decide) (new0 w2 _)
  have hr3 := k3.new HH.out (q := w.heap.size) (by omega) (by decide) (by decide) ((Below.heap_alloc _ _ _ (heap_lt HBr.out)).trans HBr.out)
  have v0 : w3.cell? ⟨w2.heap.size, 0, none⟩ = some (.int .i64 a) := cell_of hv3 rfl
  have v1 : w3.cell? ⟨w2.heap.size, 1, none⟩ = some (.int .i64 n) := cell_of hv3 rfl
  have v2 : w3.cell? ⟨w2.heap.size, 2, none⟩ = some (.string t) := cell_of hv3 rfl
  have vl := heap_lt hv3
  have r0 : w3.cell? ⟨w.heap.size, 0, none⟩ = some (.int .i64 0) := cell_of hr3 rfl
  have r1 : w3.cell? ⟨w.heap.size, 1, none⟩ = some (.int .i64 0) := cell_of hr3 rfl
  have r2 : w3.cell? ⟨w.heap.size, 2, none⟩ = some (.string ⟨#[]⟩) := cell_of hr3 rfl
  have rf := free_of hr3
  have rl3 := heap_lt hr3
  have H3 := hide h3
  have HR3 := hide hr3
  have K3 := hide ((Kept.of (HO2.out.alloc _)).trans k3)
  clear h3 k3 hv3 hr3
  go_wp2
  refine bodyPost_ret (v := .agg #[.int .i64 a, .int .i64 n, .string t]) (by simp [results, Tryz.results351, go_sem, r0, r1, r2]) rfl ⟨rfl, HH.out.box3 H3.out HR3.out (Nat.le_refl _) _ _ _, ((K3.out.set (Nat.le_refl _) _).set (Nat.le_refl _) _).set (Nat.le_refl _) _⟩
end Go.Proofs.YtdbdbaepmdmnfaaGreatDoor

