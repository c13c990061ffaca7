import Derived.Test.YthkknpjoifoanaaGreatDoorQ30
namespace Go.Proofs.YthkknpjoifoanaaGreatDoor
open Go.RowKit
theorem cf558 (args : Array Value) (w : World) : (callFunc 362 args).run Tryz.prog w = .ok (.enter 362 args) w := callFunc_in Tryz.func362 (by kernel_rfl) rfl args w
theorem cf499 (args : Array Value) (w : World) : (callFunc 301 args).run Tryz.prog w = .ok (.enter 301 args) w := callFunc_in Tryz.func301 (by kernel_rfl) rfl args w
theorem cf501 (args : Array Value) (w : World) : (callFunc 303 args).run Tryz.prog w = .ok (.enter 303 args) w := callFunc_in Tryz.func303 (by kernel_rfl) rfl args w
theorem cf503 (args : Array Value) (w : World) : (callFunc 305 args).run Tryz.prog w = .ok (.enter 305 args) w := callFunc_in Tryz.func305 (by kernel_rfl) rfl args w
theorem cf514 (args : Array Value) (w : World) : (callFunc 316 args).run Tryz.prog w = .ok (.enter 316 args) w := callFunc_in Tryz.func316 (by kernel_rfl) rfl args w
theorem LensOK.only {w w' : World} {v : Value} {f : Nat} (h : LensOK w v f) (ho : Only (fun _ => False) w w') : LensOK w' v f := fun W hW => h W (ho.trans hW (fun _ _ e => e))
def outX : ByteArray := ⟨#[45, 97, 45, 99, 45]⟩
set_option maxRecDepth 20000 in
set_option maxHeartbeats 8000000 in
theorem repl_do (G : Nat → World → Value → Nat → Prop) (hGL : ∀ C W v f, G C W v f → LensOK W v f) (B : Nat) (b7 b8 b9 b5 : Nat) (x7 x8 y8 x9 y9 : Value) (m ab vb : Nat) (po : Option Addr) (pn pc : Nat) (lst : Value) (size n code : Nat) (cs : List Value) (x3 x4 x5 : Value) (w : World)
    (g7 : w.heap[b7]? = some (.cells #[x7] 441 (0, 0))) (gp : PatE G B w x7) (g8 : w.heap[b8]? = some (.cells #[x8, y8] 329 (0, 0))) (gc : ConstE B w (.agg #[x8, y8]) 2 0 ⟨#[45]⟩) (g9 : w.heap[b9]? = some (.cells #[x9, y9] 329 (0, 0))) (gf : FieldE B w (.agg #[x9, y9])) (g5 : w.heap[b5]? = some (.cells #[.func (.func 316) #[] #[]] 496 (0, 0)))
    (h : MAt w m ab vb ⟨#[97, 98, 99]⟩ (.slice po pn pc) lst size n code) (hv : VAt w vb cs) (h3 : cs[3]? = some x3) (h4 : cs[4]? = some x4) (h5 : cs[5]? = some x5) (f0 : cs[6]? = some (.int .i64 2)) (f1 : cs[7]? = some (.int .i64 0)) (f2 : cs[8]? = some (.string ⟨#[32]⟩)) (hne : m ≠ vb) :
    Calls Tryz.prog 385 #[.pointer (some ⟨m, 0, none⟩), .pointer (some ⟨b7, 0, none⟩), .pointer (some ⟨b8, 0, none⟩), .pointer (some ⟨b9, 0, none⟩), .pointer (some ⟨b5, 0, none⟩)] w fun en w' => (∃ v, en = .returned v) ∧ MRec w' m ab vb outX lst size n code ∧ VAt w' vb (((cs.set 3 (.int .i64 1)).set 4 (.int .i64 (words [] outX.data.toList).length)).set 5 (.string ⟨#[]⟩)) ∧ Only (fun k => k = m ∨ k = vb) w w' := by
  obtain ⟨pp, gg, nn, cc, ff, rfl, _, hpp, C, _, hG⟩ := gp
  obtain ⟨c8, e8, _, hc8⟩ := gc
  obtain ⟨nb, c9, g9', e9, _, _, hnb, hc9⟩ := gf
  cases e8
  cases e9
  have hcf1 := cf558
  have hcf2 := cf480
  have hcf3 := cf499
  have hcf4 := cf501
  have hcf5 := cf514
  have hcf6 := cf503
  have hsf := hsfT
  have a7 : w.cell? ⟨b7, 0, none⟩ = some (.func (.func 362) #[] #[.pointer (some ⟨pp, 0, none⟩)]) := cell_of g7 rfl
  have a8 : w.cell? ⟨b8, 0, none⟩ = some (.func (.func 282) #[] #[.pointer (some ⟨c8, 0, none⟩)]) := cell_of g8 rfl
  have a9 : w.cell? ⟨b9, 1, none⟩ = some (.func (.func 301) #[] #[.pointer (some ⟨nb, 0, none⟩)]) := cell_of g9 rfl
  have l7 := heap_lt g7
  have l8 := heap_lt g8
  have l9 := heap_lt g9
  have l7a := Nat.lt_add_right 1 l7
  have l7b := Nat.lt_add_right 1 l7a
  have l7c := Nat.lt_add_right 1 l7b
  have l7d := Nat.lt_add_right 1 l7c
  have l7e := Nat.lt_add_right 1 l7d
  have l8a := Nat.lt_add_right 1 l8
  have l8b := Nat.lt_add_right 1 l8a
  have l8c := Nat.lt_add_right 1 l8b
  have l8d := Nat.lt_add_right 1 l8c
  have l8e := Nat.lt_add_right 1 l8d
  have l9a := Nat.lt_add_right 1 l9
  have l9b := Nat.lt_add_right 1 l9a
  have l9c := Nat.lt_add_right 1 l9b
  have l9d := Nat.lt_add_right 1 l9c
  have l9e := Nat.lt_add_right 1 l9d
  have O1 := onlyA w (.cells #[.int .i64 0, .int .i64 0, .string ⟨#[]⟩] 186)
  have HPt := hide (pat_do (some ⟨m, 0, none⟩) pp gg nn cc ff _ ((O1.block pp (heap_lt hpp) (fun e => e)).trans hpp))
  have O2 := ((onlyA w (.cells #[.int .i64 0, .int .i64 0, .string ⟨#[]⟩] 186)).alloc (.cells #[.slice (some ⟨gg, 0, none⟩) nn cc, .int .i64 (ff : Nat)] 47)).alloc (.cells #[.slice (some ⟨gg, 0, none⟩) nn cc, .int .i64 (ff : Nat)] 47)
  have hb8 := (O2.block c8 (heap_lt hc8) (fun e => e)).trans hc8
  have HCn := hide (const_do (some ⟨m, 0, none⟩) c8 2 0 ⟨#[45]⟩ _ (cell_of hb8 rfl) (cell_of hb8 rfl) (cell_of hb8 rfl))
  have HTx := hide (fun W => text_any 2 0 ⟨#[45]⟩ W (by decide))
  have HL := hide (hGL C w _ ff hG)
  have HNb := hide hnb
  have HC9 := hide hc9
  have H5 := hide g5
  have H9 := hide g9
  have HM := hide h
  have HV := hide hv
  have HS := hide (fun W po1 pn1 pc1 hM hV => set_zero m ab vb ⟨#[97, 98, 99]⟩ outX po1 pn1 pc1 lst size n code cs x3 x4 x5 (by decide) (by decide) W hM hV h3 h4 h5 f0 f1 f2 hne)
  have HNe := hide hne
  clear g7 g8 g9 g5 hpp hc8 hnb hc9 hG h hv h3 h4 h5 f0 f1 f2 hne O1 O2 hb8 hGL
  go_enter Tryz.func385, Tryz.ntmps385
  go_wp2_with (first | (go_at_call 362; refine (HPt.out).mono ?_; rintro en w1 ⟨rfl, hw1⟩; subst hw1) | (go_at_call 282; refine (HCn.out).mono ?_; rintro en w1 ⟨rfl, hw1⟩; subst hw1))
  refine (HTx.out _).mono ?_
  rintro en w2 ⟨rfl, hb2⟩
  have ho2 : Only (fun _ => False) w w2 := ((((onlyA w _).alloc _).alloc _).alloc _).trans (Only.ofBelow hb2 (fun _ => False)) (fun _ _ e => e)
  have hr2 : w2.heap[w.heap.size]? = some (.cells #[.int .i64 0, .int .i64 0, .string ⟨#[]⟩] 186 (0, 0)) := ((Only.ofBelow hb2 (fun _ => False)).block w.heap.size (by simp; omega) (fun e => e)).trans ((Below.heap_alloc _ _ _ (by simp <;> omega)).trans ((Below.heap_alloc _ _ _ (by simp <;> omega)).trans ((Below.heap_alloc _ _ _ (by simp <;> omega)).trans (new0 w _))))
  have hp2 : w2.heap[w.heap.size + 1 + 1]? = some (.cells #[.slice (some ⟨gg, 0, none⟩) nn cc, .int .i64 (ff : Nat)] 47 (0, 0)) := ((Only.ofBelow hb2 (fun _ => False)).block (w.heap.size + 1 + 1) (by simp) (fun e => e)).trans ((Below.heap_alloc _ _ _ (by simp <;> omega)).trans (new_at2 (by simp) _))
  have z2 := heap_lt hp2
  have q9 := (ho2.cell (p := ⟨b9, 1, none⟩) l9 (fun e => e)).trans a9
  have l92 : b9 < w2.heap.size := by omega
  have HFd := hide (find_do m nb c9 w2 ((ho2.block nb (heap_lt HNb.out) (fun e => e)).trans HNb.out) ((ho2.block c9 (heap_lt HC9.out) (fun e => e)).trans HC9.out))
  have HR2 := hide hr2
  have HP2 := hide hp2
  have HO2 := hide ho2
  clear hr2 hp2 ho2 hb2
  go_wp2_with fail
  refine (HFd.out).mono ?_
  rintro en w3 ⟨b2, b4, rfl, hb2, hb4, ho3⟩
  have z3 : w2.heap.size ≤ w3.heap.size := ho3.size
  have ho30 : Only (fun _ => False) w w3 := HO2.out.trans ho3 (fun _ _ e => e)
  have hr3 := (ho3.block _ (heap_lt HR2.out) (fun e => e)).trans HR2.out
  have hp3 := (ho3.block _ (heap_lt HP2.out) (fun e => e)).trans HP2.out
  have h53 := (ho30.block b5 (heap_lt H5.out) (fun e => e)).trans H5.out
  have i5 := heap_lt h53
  have i2 := heap_lt hb2
  have i4 := heap_lt hb4
  have HO4 : Hid (Only (fun _ => False) w (w3.alloc (.cells #[.func (.func 303) #[] #[.pointer (some ⟨b2, 0, none⟩), .pointer (some ⟨b4, 0, none⟩)], .func (.func 305) #[] #[.pointer (some ⟨b2, 0, none⟩), .pointer (some ⟨b4, 0, none⟩)]] 428))) := ho30.alloc _
  have HM4 : Hid (MAt (w3.alloc (.cells #[.func (.func 303) #[] #[.pointer (some ⟨b2, 0, none⟩), .pointer (some ⟨b4, 0, none⟩)], .func (.func 305) #[] #[.pointer (some ⟨b2, 0, none⟩), .pointer (some ⟨b4, 0, none⟩)]] 428)).drew m ab vb ⟨#[97, 98, 99]⟩ (.slice po pn pc) lst size n code) := HM.out.only (D := fun _ => False) (toDrew HO4.out) (fun e => e)
  have t2 : (w3.alloc (.cells #[.func (.func 303) #[] #[.pointer (some ⟨b2, 0, none⟩), .pointer (some ⟨b4, 0, none⟩)], .func (.func 305) #[] #[.pointer (some ⟨b2, 0, none⟩), .pointer (some ⟨b4, 0, none⟩)]] 428)).drew.cell? ⟨b2, 0, none⟩ = some (.pointer (some ⟨m, 0, none⟩)) := pastD (cell_of hb2 rfl) _
  have t4 : (w3.alloc (.cells #[.func (.func 303) #[] #[.pointer (some ⟨b2, 0, none⟩), .pointer (some ⟨b4, 0, none⟩)], .func (.func 305) #[] #[.pointer (some ⟨b2, 0, none⟩), .pointer (some ⟨b4, 0, none⟩)]] 428)).drew.cell? ⟨b4, 0, none⟩ = some (.int .i64 0) := pastD (cell_of hb4 rfl) _
  have t2l : b2 < (w3.alloc (.cells #[.func (.func 303) #[] #[.pointer (some ⟨b2, 0, none⟩), .pointer (some ⟨b4, 0, none⟩)], .func (.func 305) #[] #[.pointer (some ⟨b2, 0, none⟩), .pointer (some ⟨b4, 0, none⟩)]] 428)).drew.heap.size := by simp; omega
  have t4l : b4 < (w3.alloc (.cells #[.func (.func 303) #[] #[.pointer (some ⟨b2, 0, none⟩), .pointer (some ⟨b4, 0, none⟩)], .func (.func 305) #[] #[.pointer (some ⟨b2, 0, none⟩), .pointer (some ⟨b4, 0, none⟩)]] 428)).drew.heap.size := by simp; omega
  have sa : (w3.alloc (.cells #[.func (.func 303) #[] #[.pointer (some ⟨b2, 0, none⟩), .pointer (some ⟨b4, 0, none⟩)], .func (.func 305) #[] #[.pointer (some ⟨b2, 0, none⟩), .pointer (some ⟨b4, 0, none⟩)]] 428)).drew.cell? ⟨b5, 0, none⟩ = some (.func (.func 316) #[] #[]) := pastD (cell_of h53 rfl) _
  have sb : (w3.alloc (.cells #[.func (.func 303) #[] #[.pointer (some ⟨b2, 0, none⟩), .pointer (some ⟨b4, 0, none⟩)], .func (.func 305) #[] #[.pointer (some ⟨b2, 0, none⟩), .pointer (some ⟨b4, 0, none⟩)]] 428)).drew.cell? ⟨w.heap.size + 1 + 1, 0, none⟩ = some (.slice (some ⟨gg, 0, none⟩) nn cc) := pastD (cell_of hp3 rfl) _
  have sc : (w3.alloc (.cells #[.func (.func 303) #[] #[.pointer (some ⟨b2, 0, none⟩), .pointer (some ⟨b4, 0, none⟩)], .func (.func 305) #[] #[.pointer (some ⟨b2, 0, none⟩), .pointer (some ⟨b4, 0, none⟩)]] 428)).drew.cell? ⟨w.heap.size + 1 + 1, 1, none⟩ = some (.int .i64 (ff : Nat)) := pastD (cell_of hp3 rfl) _
  have sd : (w3.alloc (.cells #[.func (.func 303) #[] #[.pointer (some ⟨b2, 0, none⟩), .pointer (some ⟨b4, 0, none⟩)], .func (.func 305) #[] #[.pointer (some ⟨b2, 0, none⟩), .pointer (some ⟨b4, 0, none⟩)]] 428)).drew.cell? ⟨w3.heap.size, 0, none⟩ = some (.func (.func 303) #[] #[.pointer (some ⟨b2, 0, none⟩), .pointer (some ⟨b4, 0, none⟩)]) := cell_of (new0 w3 _) rfl
  have HB2 := hide hb2
  have HB4 := hide hb4
  have HR3 := hide hr3
  have HO3 := hide ho30
  clear hb2 hb4 hr3 hp3 h53 ho3 ho30 HPt HCn HTx HFd
  go_upto_region 4 with fail
  go_region_held3 (fun W => W.cell? ⟨b5, 0, none⟩ = some (.func (.func 316) #[] #[]) ∧ W.cell? ⟨w.heap.size + 1 + 1, 0, none⟩ = some (.slice (some ⟨gg, 0, none⟩) nn cc) ∧ W.cell? ⟨w.heap.size + 1 + 1, 1, none⟩ = some (.int .i64 (ff : Nat)) ∧ W.cell? ⟨w3.heap.size, 0, none⟩ = some (.func (.func 303) #[] #[.pointer (some ⟨b2, 0, none⟩), .pointer (some ⟨b4, 0, none⟩)])) (first | (refine ⟨?_, ?_, ?_, ?_⟩ <;> (with_reducible assumption)))
    (first | (go_at_call 303; refine (take_do b2 b4 m ab vb ⟨#[97, 98, 99]⟩ (.slice po pn pc) lst size n code (by decide) (by decide) _ (HM4.out) t2 t4 t2l t4l).mono ?_; rintro en w5 ⟨rfl, ho5⟩; have z5 : w3.heap.size + 1 ≤ w5.heap.size := (by have := ho5.size; simpa using this); have ua := (ho5.cell (p := ⟨b5, 0, none⟩) (by simp <;> omega) (fun e => e)).trans sa; have ub := (ho5.cell (p := ⟨w.heap.size + 1 + 1, 0, none⟩) (by simp <;> omega) (fun e => e)).trans sb; have uc := (ho5.cell (p := ⟨w.heap.size + 1 + 1, 1, none⟩) (by simp <;> omega) (fun e => e)).trans sc; have ud := (ho5.cell (p := ⟨w3.heap.size, 0, none⟩) (by simp <;> omega) (fun e => e)).trans sd; have O5 := hide ho5; clear ho5) | (go_at_call 219; refine (text_any 2 0 ⟨#[97, 98, 99]⟩ _ (by decide)).mono ?_; rintro en w6 ⟨rfl, hb6⟩; have ho6 := Only.ofBelow hb6 (fun _ => False); have z6 : w5.heap.size ≤ w6.heap.size := ho6.size; have ya := (ho6.cell (p := ⟨b5, 0, none⟩) (by simp <;> omega) (fun e => e)).trans ua; have yb := (ho6.cell (p := ⟨w.heap.size + 1 + 1, 0, none⟩) (by simp <;> omega) (fun e => e)).trans ub; have yc := (ho6.cell (p := ⟨w.heap.size + 1 + 1, 1, none⟩) (by simp <;> omega) (fun e => e)).trans uc; have yd := (ho6.cell (p := ⟨w3.heap.size, 0, none⟩) (by simp <;> omega) (fun e => e)).trans ud; have O6 := hide ho6; clear ho6 hb6) | (go_at_call 316; refine (all_abc gg nn cc ff _ (HL.out.only (HO4.out.trans ((fromDrew O5.out).trans O6.out (fun _ _ e => e)) (fun _ _ e => e)))).mono ?_; rintro en w7 ⟨rfl, ho7⟩; have z7 : w6.heap.size ≤ w7.heap.size := ho7.size; have xa := (ho7.cell (p := ⟨b5, 0, none⟩) (by simp <;> omega) (fun e => e)).trans ya; have xb := (ho7.cell (p := ⟨w.heap.size + 1 + 1, 0, none⟩) (by simp <;> omega) (fun e => e)).trans yb; have xc := (ho7.cell (p := ⟨w.heap.size + 1 + 1, 1, none⟩) (by simp <;> omega) (fun e => e)).trans yc; have xd := (ho7.cell (p := ⟨w3.heap.size, 0, none⟩) (by simp <;> omega) (fun e => e)).trans yd; have O7 := hide ho7; clear ho7))
  all_goals
    have hO7 : Only (fun _ => False) w w7 := (HO4.out.trans ((fromDrew O5.out).trans (O6.out.trans O7.out (fun _ _ e => e)) (fun _ _ e => e)) (fun _ _ e => e))
    have hO47 : Only (fun _ => False) (w3.alloc (.cells #[.func (.func 303) #[] #[.pointer (some ⟨b2, 0, none⟩), .pointer (some ⟨b4, 0, none⟩)], .func (.func 305) #[] #[.pointer (some ⟨b2, 0, none⟩), .pointer (some ⟨b4, 0, none⟩)]] 428)) w7 := (fromDrew O5.out).trans (O6.out.trans O7.out (fun _ _ e => e)) (fun _ _ e => e)
    have hO37 : Only (fun _ => False) w3 w7 := (onlyA w3 _).trans hO47 (fun _ _ e => e)
    have d1 : w7.cell? ⟨w3.heap.size, 1, none⟩ = some (.func (.func 305) #[] #[.pointer (some ⟨b2, 0, none⟩), .pointer (some ⟨b4, 0, none⟩)]) := (hO47.cell (p := ⟨w3.heap.size, 1, none⟩) (by simp) (fun e => e)).trans (cell_of (new0 w3 _) rfl)
    have d2 : w7.cell? ⟨b2, 0, none⟩ = some (.pointer (some ⟨m, 0, none⟩)) := cell_of ((hO37.block b2 i2 (fun e => e)).trans HB2.out) rfl
    have d4 : w7.cell? ⟨b4, 0, none⟩ = some (.int .i64 0) := cell_of ((hO37.block b4 i4 (fun e => e)).trans HB4.out) rfl
    have hr7 := (hO37.block _ (heap_lt HR3.out) (fun e => e)).trans HR3.out
    have d1d : w7.drew.cell? ⟨w3.heap.size, 1, none⟩ = some (.func (.func 305) #[] #[.pointer (some ⟨b2, 0, none⟩), .pointer (some ⟨b4, 0, none⟩)]) := d1
    have d2d : w7.drew.cell? ⟨b2, 0, none⟩ = some (.pointer (some ⟨m, 0, none⟩)) := d2
    have d4d : w7.drew.cell? ⟨b4, 0, none⟩ = some (.int .i64 0) := d4
    have i27 : b2 < w7.heap.size := by omega
    have i47 : b4 < w7.heap.size := by omega
    have i37 : w3.heap.size < w7.heap.size := by omega
    have hml := heap_lt HM.out
    have hvl := heap_lt HV.out
    have HR7 := hide hr7
    have HR7d : Hid (w7.drew.heap[w.heap.size]? = some (.cells #[.int .i64 0, .int .i64 0, .string ⟨#[]⟩] 186 (0, 0))) := HR7.out
    have hwl := heap_lt HR7.out
    have HSet : Hid (∀ W, Only (fun _ => False) w W → W.heap[w.heap.size]? = some (.cells #[.int .i64 0, .int .i64 0, .string ⟨#[]⟩] 186 (0, 0)) → Calls Tryz.prog 306 #[.pointer (some ⟨m, 0, none⟩), .int .i64 0, .agg #[.int .i64 2, .int .i64 0, .string outX]] W fun en w' => en = .returned (.tuple #[]) ∧ (fun w' => MRec w' m ab vb outX lst size n code ∧ VAt w' vb (((cs.set 3 (.int .i64 1)).set 4 (.int .i64 (words [] outX.data.toList).length)).set 5 (.string ⟨#[]⟩)) ∧ Only (fun k => k = m ∨ k = vb) w w' ∧ w'.heap[w.heap.size]? = some (.cells #[.int .i64 0, .int .i64 0, .string ⟨#[]⟩] 186 (0, 0))) w') := fun W hW hR => (HS.out W po pn pc (HM.out.only hW (fun e => e)) (HV.out.only hW (fun e => e))).mono (fun en w' h => ⟨h.1, h.2.1, h.2.2.1, (hW.mono (E := fun k => k = m ∨ k = vb) (fun _ _ e => e.elim)).trans h.2.2.2 (fun _ _ e => e), (h.2.2.2.block w.heap.size (heap_lt hR) (by intro e; rcases e with e | e <;> omega)).trans hR⟩)
    have HOw7 := hide hO7
    have HCk := hide (check_nil (some ⟨m, 0, none⟩))
    have HOt := hide (ofText outX)
    have HCt := hide (of_count 3)
    clear hO7 hO47 hO37 hr7 ua ub uc ud ya yb yc yd xa xb xc xd sa sb sc sd t2 t4 t2l t4l
    unfold outX at HOt
    go_upto_region 7 with (go_at_call 150; refine (HCk.out _).mono ?_; rintro en w' ⟨rfl, h3⟩; subst w')
    go_region_with (first | (go_at_call 75; refine (HOt.out _).mono ?_; rintro en w8 ⟨rfl, hw8⟩; subst hw8) | (go_at_call 305; refine (set_do b2 b4 m outX (fun w' => MRec w' m ab vb outX lst size n code ∧ VAt w' vb (((cs.set 3 (.int .i64 1)).set 4 (.int .i64 (words [] outX.data.toList).length)).set 5 (.string ⟨#[]⟩)) ∧ Only (fun k => k = m ∨ k = vb) w w' ∧ w'.heap[w.heap.size]? = some (.cells #[.int .i64 0, .int .i64 0, .string ⟨#[]⟩] 186 (0, 0))) _ (by repeat (first | (with_reducible assumption) | (with_reducible refine past ?_ _) | (with_reducible refine pastD ?_ _))) (by repeat (first | (with_reducible assumption) | (with_reducible refine past ?_ _) | (with_reducible refine pastD ?_ _))) (by simp <;> omega) (by simp <;> omega) (fun W hW => HSet.out W (HOw7.out.trans (Only.trans (by repeat (first | with_reducible exact Only.refl _ _ | with_reducible refine Only.alloc ?_ _ | with_reducible refine toDrew ?_)) hW (fun _ _ e => e)) (fun _ _ e => e)) ((hW.block _ (by simp <;> omega) (fun e => e)).trans (by repeat (first | (with_reducible exact HR7.out) | (with_reducible exact HR7d.out) | ((with_reducible refine (heap_allocD _ _ ?_).trans ?_); (focus (first | omega | (simp; done) | (simp; omega)))) | ((with_reducible refine (Below.heap_alloc _ _ _ ?_).trans ?_); (focus (first | omega | (simp; done) | (simp; omega))))))))).mono ?_; rintro en w9 ⟨rfl, hq⟩; have HQ9 := hide hq; clear hq))
    all_goals
      have hr9 : w9.heap[w.heap.size]? = some (.cells #[.int .i64 0, .int .i64 0, .string ⟨#[]⟩] 186 (0, 0)) := HQ9.out.2.2.2
      have r0 : w9.cell? ⟨w.heap.size, 0, none⟩ = some (.int .i64 0) := cell_of hr9 rfl
      have r1 : w9.cell? ⟨w.heap.size, 1, none⟩ = some (.int .i64 0) := cell_of hr9 rfl
      have r2 : w9.cell? ⟨w.heap.size, 2, none⟩ = some (.string ⟨#[]⟩) := cell_of hr9 rfl
      have rf := free_of hr9
      have rl := heap_lt hr9
      clear hr9
      go_wp2_with (go_at_call 380; refine (HCt.out _).mono ?_; rintro en w8 ⟨rfl, hw8⟩; subst hw8)
      have hnv : vb ≠ w.heap.size := by omega
      have hnm : m ≠ w.heap.size := by omega
      have hol : Only (fun k => k = w.heap.size) w9 _ := ((((Only.refl (fun k => k = w.heap.size) w9).setCell (p := ⟨w.heap.size, 0, none⟩) (fun _ => rfl) (.int .i64 1)).setCell (p := ⟨w.heap.size, 1, none⟩) (fun _ => rfl) (.int .i64 3)).setCell (p := ⟨w.heap.size, 2, none⟩) (fun _ => rfl) (.string ⟨#[]⟩) |>.alloc (.cells #[.int .i64 1, .int .i64 3, .string ⟨#[]⟩] 186)).alloc (.cells #[.int .i64 1, .int .i64 3, .string ⟨#[]⟩] 186)
      obtain ⟨⟨po9, cap9, hM9⟩, hV9, hO9, _⟩ := HQ9.out
      refine bodyPost_ret (v := .agg #[.int .i64 1, .int .i64 3, .string ⟨#[]⟩]) (by simp [results, Tryz.results385, go_sem, r0, r1, r2, rl]) rfl ⟨⟨_, rfl⟩, ⟨po9, cap9, hM9.only hol hnm⟩, hV9.only hol hnv, hO9.trans hol (fun q h e => by omega)⟩
end Go.Proofs.YthkknpjoifoanaaGreatDoor

namespace Go.Proofs.YthkknpjoifoanaaGreatDoor
open Go.RowKit
theorem cf304 (args : Array Value) (w : World) : (callFunc 146 args).run Tryz.prog w = .ok (.enter 146 args) w := callFunc_in Tryz.func146 (by kernel_rfl) rfl args w
theorem cf479 (args : Array Value) (w : World) : (callFunc 281 args).run Tryz.prog w = .ok (.enter 281 args) w := callFunc_in Tryz.func281 (by kernel_rfl) rfl args w
theorem cf579 (args : Array Value) (w : World) : (callFunc 385 args).run Tryz.prog w = .ok (.enter 385 args) w := callFunc_in Tryz.func385 (by kernel_rfl) rfl args w
theorem cf462 (args : Array Value) (w : World) : (callFunc 264 args).run Tryz.prog w = .ok (.enter 264 args) w := callFunc_in Tryz.func264 (by kernel_rfl) rfl args w
theorem cf236 (args : Array Value) (w : World) : (callFunc 111 args).run Tryz.prog w = .ok (.enter 111 args) w := callFunc_in Tryz.func111 (by kernel_rfl) rfl args w
def abcX : ByteArray := ⟨#[97, 98, 99]⟩
/-- A run under way: what was there when the program was ready stands; the machine's three blocks are younger. -/
structure Under (wN wS W : World) (m ab vb sb : Nat) (txt : ByteArray) (size n : Nat) (sv : Value) (cs : List Value) : Prop where
  hm : wN.heap.size ≤ m
  hv : wN.heap.size ≤ vb
  hs : wN.heap.size ≤ sb
  nmv : m ≠ vb
  nms : m ≠ sb
  nvs : vb ≠ sb
  hM : ∃ po pn pc, MAt W m ab vb txt (.slice po pn pc) (.slice (some ⟨sb, 0, none⟩) 1 1) size n 0
  hV : VAt W vb cs
  hS : W.heap[sb]? = some (.cells #[.string ⟨#[]⟩, sv] 125 (0, 0))
  hO : Only (fun _ => False) wN W
  hT : Only (fun k => k = m ∨ k = vb ∨ k = sb) wS W
theorem Under.calm {wN wS W W' m ab vb sb txt size n sv cs} (h : Under wN wS W m ab vb sb txt size n sv cs) (ho : Only (fun _ => False) W W') : Under wN wS W' m ab vb sb txt size n sv cs := by
  obtain ⟨po, pn, pc, hM⟩ := h.hM
  exact ⟨h.hm, h.hv, h.hs, h.nmv, h.nms, h.nvs, ⟨po, pn, pc, hM.only ho (fun e => e)⟩, h.hV.only ho (fun e => e), (ho.block sb (heap_lt h.hS) (fun e => e)).trans h.hS, h.hO.trans ho (fun _ _ e => e), h.hT.trans ho (fun _ _ e => e.elim)⟩
theorem Under.step {wN wS W m ab vb sb txt size n sv cs} (h : Under wN wS W m ab vb sb txt size (n + 1) sv cs) : Under wN wS (W.setCell ⟨m, 7, none⟩ (.int .i64 n)) m ab vb sb txt size n sv cs := by
  obtain ⟨po, pn, pc, hM⟩ := h.hM
  have ho : Only (fun k => k = m) W (W.setCell ⟨m, 7, none⟩ (.int .i64 n)) := (Only.refl (fun k => k = m) W).setCell (p := ⟨m, 7, none⟩) (fun _ => rfl) _
  have hm := h.hm
  exact ⟨h.hm, h.hv, h.hs, h.nmv, h.nms, h.nvs, ⟨po, pn, pc, hM.setFuel n⟩, h.hV.only ho (fun e => h.nmv e.symm), (ho.block sb (heap_lt h.hS) (fun e => h.nms e.symm)).trans h.hS, h.hO.trans ho (fun q hq e => by omega), h.hT.trans ho (fun _ _ e => Or.inl e)⟩
/-- The variables are those that a run begins with, but for the first two. -/
def Vs (cs : List Value) : Prop := (∃ x3 x4 x5, cs[3]? = some x3 ∧ cs[4]? = some x4 ∧ cs[5]? = some x5) ∧ cs[6]? = some (.int .i64 2) ∧ cs[7]? = some (.int .i64 0) ∧ cs[8]? = some (.string ⟨#[32]⟩) ∧ cs[12]? = some (.int .i64 2) ∧ cs[13]? = some (.int .i64 0) ∧ cs[14]? = some (.string ⟨#[10]⟩)
theorem Vs.set345 {cs : List Value} (h : Vs cs) (a b c : Value) : Vs (((cs.set 3 a).set 4 b).set 5 c) := by
  obtain ⟨⟨x3, x4, x5, h3, h4, h5⟩, f0, f1, f2, g0, g1, g2⟩ := h
  have l3 := (List.getElem?_eq_some_iff.1 h3).1
  have l4 := (List.getElem?_eq_some_iff.1 h4).1
  have l5 := (List.getElem?_eq_some_iff.1 h5).1
  refine ⟨⟨a, b, c, ?_, ?_, ?_⟩, setNe (setNe (setNe f0 (by decide)) (by decide)) (by decide), setNe (setNe (setNe f1 (by decide)) (by decide)) (by decide), setNe (setNe (setNe f2 (by decide)) (by decide)) (by decide), setNe (setNe (setNe g0 (by decide)) (by decide)) (by decide), setNe (setNe (setNe g1 (by decide)) (by decide)) (by decide), setNe (setNe (setNe g2 (by decide)) (by decide)) (by decide)⟩
  · rw [List.getElem?_set_ne (by decide), List.getElem?_set_ne (by decide), List.getElem?_set_self (by simpa using l3)]
  · rw [List.getElem?_set_ne (by decide), List.getElem?_set_self (by simpa using l4)]
  · rw [List.getElem?_set_self (by simpa using l5)]
/-- The replacing statement, done. -/
theorem work_stmt_do (G : Nat → World → Value → Nat → Prop) (hG : Calm G) (hGL : ∀ C W v f, G C W v f → LensOK W v f) (B : Nat) (wN wS : World) (x : Value) (hx : StF (WorkF G ⟨#[45]⟩) B wN x) (m ab vb sb size n : Nat) (sv : Value) (cs : List Value) (hcs : Vs cs) (hn : n ≤ 100000) (W : World) (h : Under wN wS W m ab vb sb abcX size (n + 1) sv cs) :
    ∃ F caps, x = .func (.func F) #[] (caps : List Value).toArray ∧ F = 146 ∧ Calls Tryz.prog F (.pointer (some ⟨m, 0, none⟩) :: caps).toArray W fun en w' => en = .returned (.int .i64 0) ∧ ∃ cs', Vs cs' ∧ Under wN wS w' m ab vb sb outX size n sv cs' := by
  have hS := h.step
  have hx2 := (st_keeps (work_keeps hG ⟨#[45]⟩)).keep _ _ _ _ hx (hS.hO.mono (fun _ _ e => e.elim))
  obtain ⟨bN, fN, eN, _, hbN, ecN, yN, zN, eF, _⟩ := hx
  obtain ⟨b, f, e, _, hb, ec, y, z, rfl, _, hec, hr⟩ := hx2
  obtain ⟨b7, b8, b9, b5, x7, x8, y8, x9, y9, e2, _, h7, hp, h8, hc, h9, hf, h5⟩ := hr
  cases e2
  rw [eN] at e
  cases e
  subst eN
  have hbm : bN ≠ m := fun e => by have := heap_lt hbN; have := h.hm; omega
  have hbW := (h.hO.block bN (heap_lt hbN) (fun e => e)).trans hbN
  have hfe : fN = .func (.func 281) #[] #[.pointer (some ⟨ec, 0, none⟩)] := by
    have h1 := (hS.hO.block bN (heap_lt hbN) (fun e => e)).trans hbN
    rw [hb] at h1; cases h1; rfl
  rw [hfe] at hbW
  obtain ⟨po, pn, pc, hM⟩ := h.hM
  refine ⟨146, [.pointer (some ⟨bN, 0, none⟩)], rfl, rfl, ?_⟩
  refine stmt_do m ab vb bN 281 cf479 [.pointer (some ⟨ec, 0, none⟩)] abcX (.slice po pn pc) (.slice (some ⟨sb, 0, none⟩) 1 1) size n 0 hn _ W hM hbm (cell_of hbW rfl) ?_
  refine working_do m ec 385 cf579 [.pointer (some ⟨b7, 0, none⟩), .pointer (some ⟨b8, 0, none⟩), .pointer (some ⟨b9, 0, none⟩), .pointer (some ⟨b5, 0, none⟩)] _ _ (cell_of hec rfl) ?_
  obtain ⟨po1, pn1, pc1, hM1⟩ := hS.hM
  have hcs2 := hcs
  obtain ⟨⟨x3, x4, x5, i3, i4, i5⟩, f0, f1, f2, _⟩ := hcs2
  refine (repl_do G hGL B b7 b8 b9 b5 x7 x8 y8 x9 y9 m ab vb po1 pn1 pc1 (.slice (some ⟨sb, 0, none⟩) 1 1) size n 0 cs x3 x4 x5 _ h7 hp h8 hc h9 hf h5 hM1 hS.hV i3 i4 i5 f0 f1 f2 hS.nmv).mono ?_
  rintro en w' ⟨hv, ⟨po2, cap2, hM2⟩, hV2, hO2⟩
  have hm := hS.hm
  have hvv := hS.hv
  exact ⟨hv, _, hcs.set345 _ _ _, ⟨hS.hm, hS.hv, hS.hs, hS.nmv, hS.nms, hS.nvs, ⟨po2, _, cap2, hM2⟩, hV2, (hO2.block sb (heap_lt hS.hS) (fun e => e.elim (fun e => hS.nms e.symm) (fun e => hS.nvs e.symm))).trans hS.hS, hS.hO.trans hO2 (fun q hq e => by omega), hS.hT.trans hO2 (fun _ _ e => e.elim Or.inl (fun e => Or.inr (Or.inl e)))⟩⟩
end Go.Proofs.YthkknpjoifoanaaGreatDoor

