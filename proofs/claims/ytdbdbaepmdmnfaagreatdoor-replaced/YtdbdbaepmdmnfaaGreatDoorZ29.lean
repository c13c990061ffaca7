import Derived.Test.YtdbdbaepmdmnfaaGreatDoorZ17
import Derived.Test.YtdbdbaepmdmnfaaGreatDoorZ18
import Derived.Test.YtdbdbaepmdmnfaaGreatDoorZ21
import Derived.Deep.AppendLies
import Derived.Deep.RegionHeld3
import Derived.Deep.DeepCutAuto
import Derived.Test.YtdbdbaepmdmnfaaGreatDoorZ20
import Derived.Test.YtdbdbaepmdmnfaaGreatDoorZ06
import Derived.Test.YtdbdbaepmdmnfaaGreatDoorProg
import Derived.KernelRfl
import Derived.Shelf.LaysC
import Derived.Shelf.Strconv.ParseIntPublic10
namespace Go.Proofs.YtdbdbaepmdmnfaaGreatDoor
open Go.RowKit
def opA : List (List UInt8) := [[43], [45], [42], [47], [37], [36], [40]]
def opB : List (List UInt8) := [[124, 124], [38, 38], [126], [33, 126], [105, 110], [60], [60, 61], [61, 61], [33, 61], [62, 61], [62], [43], [45], [42], [47], [37], [36], [40]]
/-- A token with which an operand of a comparison has ended. -/
def EndsA (s : TS) : Prop := (∀ t ∈ opA, seen s t = false) ∧ ¬ s.k = 2 ∧ ¬ s.k = 3 ∧ ¬ s.k = 5 ∧ ¬ s.k = 6 ∧ ¬ s.k = 8
/-- A token with which what is stored into has ended. -/
def EndsB (s : TS) : Prop := (∀ t ∈ opB, seen s t = false) ∧ ¬ s.k = 2 ∧ ¬ s.k = 3 ∧ ¬ s.k = 5 ∧ ¬ s.k = 6 ∧ ¬ s.k = 8
theorem EndsB.a {s : TS} (h : EndsB s) : EndsA s := ⟨fun t ht => h.1 t (by revert t; decide), h.2⟩
set_option maxRecDepth 20000 in
set_option maxHeartbeats 4000000 in
theorem sum_rdA (pb : Nat) (T : ByteArray) (ge : Bool) (s s' : TS) (V : World → Value → Prop) (hV : Stab pb V) (he : EndsA s') (h1 : Reads 482 pb T ge s s' V) : Reads 458 pb T ge s s' V := by
  intro w h
  have hl := h.lt
  have HR : Hid (Calls Tryz.prog 252 #[.pointer (some ⟨pb, 0, none⟩), .func (.func 482) #[.pointer (some ⟨pb, 0, none⟩)] #[], .slice (some ⟨w.heap.size, 0, none⟩) 2 2] (w.alloc (.cells #[.string ⟨#[43]⟩, .string ⟨#[45]⟩] 9)) fun en w' => ∃ v, en = .returned v ∧ V w' v ∧ PAt w' pb T s' ge ∧ Only (fun k => k = pb) (w.alloc (.cells #[.string ⟨#[43]⟩, .string ⟨#[45]⟩] 9)) w') :=
    row_no 482 cf645 pb T ge s s' V hV h1 [⟨#[43]⟩, ⟨#[45]⟩] (by decide) (fun t ht => he.1 t.data.toList (by simp at ht; rcases ht with rfl | rfl <;> decide)) w.heap.size 2 _ (Reads.alloc_at h _) (by simp) (by omega) (strs_new w [⟨#[43]⟩, ⟨#[45]⟩])
  clear he hV h1 h
  go_enter Tryz.func458, Tryz.ntmps458
  go_wp2_with (go_at_call 252; refine (HR.out).mono ?_; rintro en w1 ⟨v, rfl, hv, hp, ho⟩; have Hv := hide hv; have HP := hide hp; have HO : Hid (Only (fun k => k = pb) w w1) := ((Only.refl _ w).alloc _).trans ho (fun _ _ e => e); clear hv hp ho)
  go_ret
  exact ⟨_, rfl, Hv.out, HP.out, HO.out⟩
set_option maxRecDepth 20000 in
set_option maxHeartbeats 4000000 in
theorem product_rdA (pb : Nat) (T : ByteArray) (ge : Bool) (s s' : TS) (V : World → Value → Prop) (hV : Stab pb V) (he : EndsA s') (h1 : Reads 492 pb T ge s s' V) : Reads 482 pb T ge s s' V := by
  intro w h
  have hl := h.lt
  have HR : Hid (Calls Tryz.prog 252 #[.pointer (some ⟨pb, 0, none⟩), .func (.func 492) #[.pointer (some ⟨pb, 0, none⟩)] #[], .slice (some ⟨w.heap.size, 0, none⟩) 3 3] (w.alloc (.cells #[.string ⟨#[42]⟩, .string ⟨#[47]⟩, .string ⟨#[37]⟩] 9)) fun en w' => ∃ v, en = .returned v ∧ V w' v ∧ PAt w' pb T s' ge ∧ Only (fun k => k = pb) (w.alloc (.cells #[.string ⟨#[42]⟩, .string ⟨#[47]⟩, .string ⟨#[37]⟩] 9)) w') :=
    row_no 492 cf650 pb T ge s s' V hV h1 [⟨#[42]⟩, ⟨#[47]⟩, ⟨#[37]⟩] (by decide) (fun t ht => he.1 t.data.toList (by simp at ht; rcases ht with rfl | rfl | rfl <;> decide)) w.heap.size 3 _ (Reads.alloc_at h _) (by simp) (by omega) (strs_new w [⟨#[42]⟩, ⟨#[47]⟩, ⟨#[37]⟩])
  clear he hV h1 h
  go_enter Tryz.func482, Tryz.ntmps482
  go_wp2_with (go_at_call 252; refine (HR.out).mono ?_; rintro en w1 ⟨v, rfl, hv, hp, ho⟩; have Hv := hide hv; have HP := hide hp; have HO : Hid (Only (fun k => k = pb) w w1) := ((Only.refl _ w).alloc _).trans ho (fun _ _ e => e); clear hv hp ho)
  go_ret
  exact ⟨_, rfl, Hv.out, HP.out, HO.out⟩
set_option maxRecDepth 20000 in
set_option maxHeartbeats 4000000 in
theorem joinsOn_noA (pb : Nat) (T : ByteArray) (ge : Bool) (s : TS) (he : EndsA s) (w : World) (h : PAt w pb T s ge) :
    Calls Tryz.prog 459 #[.pointer (some ⟨pb, 0, none⟩)] w fun en w' => en = .returned (.bool false) ∧ Only (fun _ => False) w w' := by
  have r3 : w.cell? ⟨pb, 3, none⟩ = some (.int .i64 s.k) := cell_of h rfl
  have hl := h.lt
  obtain ⟨h0, h2, h3, h5, h6, h8⟩ := he
  have d2 : ((s.k : Int) == 2) = false := by rw [beq_eq_false_iff_ne]; omega
  have d3 : ((s.k : Int) == 3) = false := by rw [beq_eq_false_iff_ne]; omega
  have d5 : ((s.k : Int) == 5) = false := by rw [beq_eq_false_iff_ne]; omega
  have d6 : ((s.k : Int) == 6) = false := by rw [beq_eq_false_iff_ne]; omega
  have d8 : ((s.k : Int) == 8) = false := by rw [beq_eq_false_iff_ne]; omega
  have HS := hide (oneOf_no pb T s ge w.heap.size 2 [⟨#[36]⟩, ⟨#[40]⟩] (by decide) (fun t ht => h0 t.data.toList (by simp at ht; rcases ht with rfl | rfl <;> decide)) _ (Reads.alloc_at h _) (strs_new w [⟨#[36]⟩, ⟨#[40]⟩]))
  clear h0 h2 h3 h5 h6 h8 h
  go_enter Tryz.func459, Tryz.ntmps459
  go_wp2_with (go_at_call 184; refine (HS.out).mono ?_; rintro en w2 ⟨rfl, rfl⟩)
  go_ret
  exact ⟨rfl, (Only.refl _ w).alloc _⟩
set_option maxRecDepth 20000 in
set_option maxHeartbeats 4000000 in
theorem joined_rdA (pb : Nat) (T : ByteArray) (ge : Bool) (s s' : TS) (V : World → Value → Prop) (hV : Stab pb V) (he : EndsA s') (h1 : Reads 458 pb T ge s s' V) : Reads 425 pb T ge s s' V := by
  intro w h
  have HR := hide (h1 w h)
  have HE := hide he
  have HV := hide hV
  clear he hV h1 h
  go_enter Tryz.func425, Tryz.ntmps425
  go_wp2_with fail
  refine (HR.out).mono ?_
  rintro en w1 ⟨v, rfl, hv, hp, ho⟩
  have HJ := hide (joinsOn_noA pb T ge s' HE.out w1 hp)
  have Hv := hide hv
  have HP := hide hp
  have HO := hide ho
  have hl1 := hp.lt
  clear hv hp ho HR
  go_wp2
  go_loop [3] (fun s3 => s3 = v) (fun _ => 0)
  case atStart => exact rfl
  case round =>
    subst hrel
    go_wp2_with (go_at_call 459; refine (HJ.out).mono ?_; rintro en w2 ⟨rfl, ho2⟩; have HO2 := hide ho2; clear ho2)
    go_ret
    exact ⟨_, rfl, HV.out _ _ _ Hv.out (HO2.out.mono (fun _ _ e => e.elim)), HP.out.only HO2.out (fun e => e), HO.out.trans HO2.out (fun _ _ e => e.elim)⟩
set_option maxRecDepth 20000 in
set_option maxHeartbeats 4000000 in
theorem compared_rdB (pb : Nat) (T : ByteArray) (ge : Bool) (s s' : TS) (V : World → Value → Prop) (hV : Stab pb V) (he : EndsB s') (h1 : Reads 425 pb T ge s s' V) : Reads 428 pb T ge s s' V := by
  intro w h
  have hl := h.lt
  have r6 : w.cell? ⟨pb, 6, none⟩ = some (.bool ge) := cell_of h rfl
  cases ge with
  | true =>
    have HR : Hid (Calls Tryz.prog 427 #[.pointer (some ⟨pb, 0, none⟩), .func (.func 425) #[.pointer (some ⟨pb, 0, none⟩)] #[], .slice (some ⟨w.heap.size, 0, none⟩) 5 5] (w.alloc (.cells #[.string ⟨#[60]⟩, .string ⟨#[60, 61]⟩, .string ⟨#[61, 61]⟩, .string ⟨#[33, 61]⟩, .string ⟨#[62, 61]⟩] 9)) fun en w' => ∃ v, en = .returned v ∧ V w' v ∧ PAt w' pb T s' true ∧ Only (fun k => k = pb) (w.alloc (.cells #[.string ⟨#[60]⟩, .string ⟨#[60, 61]⟩, .string ⟨#[61, 61]⟩, .string ⟨#[33, 61]⟩, .string ⟨#[62, 61]⟩] 9)) w') :=
      pair_no 425 cf603 pb T true s s' V hV h1 [⟨#[60]⟩, ⟨#[60, 61]⟩, ⟨#[61, 61]⟩, ⟨#[33, 61]⟩, ⟨#[62, 61]⟩] (by decide) (fun t ht => he.1 t.data.toList (by simp at ht; rcases ht with rfl | rfl | rfl | rfl | rfl <;> decide)) w.heap.size 5 _ (Reads.alloc_at h _) (by simp) (by omega) (strs_new w [⟨#[60]⟩, ⟨#[60, 61]⟩, ⟨#[61, 61]⟩, ⟨#[33, 61]⟩, ⟨#[62, 61]⟩])
    clear he hV h1 h
    go_enter Tryz.func428, Tryz.ntmps428
    go_wp2_with (go_at_call 427; refine (HR.out).mono ?_; rintro en w1 ⟨v, rfl, hv, hp, ho⟩; have Hv := hide hv; have HP := hide hp; have HO : Hid (Only (fun k => k = pb) w w1) := ((Only.refl _ w).alloc _).trans ho (fun _ _ e => e); clear hv hp ho)
    go_ret
    exact ⟨_, rfl, Hv.out, HP.out, HO.out⟩
  | false =>
    have HR : Hid (Calls Tryz.prog 427 #[.pointer (some ⟨pb, 0, none⟩), .func (.func 425) #[.pointer (some ⟨pb, 0, none⟩)] #[], .slice (some ⟨w.heap.size, 0, none⟩) 6 6] (w.alloc (.cells #[.string ⟨#[60]⟩, .string ⟨#[60, 61]⟩, .string ⟨#[61, 61]⟩, .string ⟨#[33, 61]⟩, .string ⟨#[62, 61]⟩, .string ⟨#[62]⟩] 9)) fun en w' => ∃ v, en = .returned v ∧ V w' v ∧ PAt w' pb T s' false ∧ Only (fun k => k = pb) (w.alloc (.cells #[.string ⟨#[60]⟩, .string ⟨#[60, 61]⟩, .string ⟨#[61, 61]⟩, .string ⟨#[33, 61]⟩, .string ⟨#[62, 61]⟩, .string ⟨#[62]⟩] 9)) w') :=
      pair_no 425 cf603 pb T false s s' V hV h1 [⟨#[60]⟩, ⟨#[60, 61]⟩, ⟨#[61, 61]⟩, ⟨#[33, 61]⟩, ⟨#[62, 61]⟩, ⟨#[62]⟩] (by decide) (fun t ht => he.1 t.data.toList (by simp at ht; rcases ht with rfl | rfl | rfl | rfl | rfl | rfl <;> decide)) w.heap.size 6 _ (Reads.alloc_at h _) (by simp) (by omega) (strs_new w [⟨#[60]⟩, ⟨#[60, 61]⟩, ⟨#[61, 61]⟩, ⟨#[33, 61]⟩, ⟨#[62, 61]⟩, ⟨#[62]⟩])
    clear he hV h1 h
    go_enter Tryz.func428, Tryz.ntmps428
    go_wp2_with (go_at_call 427; refine (HR.out).mono ?_; rintro en w1 ⟨v, rfl, hv, hp, ho⟩; have Hv := hide hv; have HP := hide hp; have HO : Hid (Only (fun k => k = pb) w w1) := ((Only.refl _ w).alloc _).trans ho (fun _ _ e => e); clear hv hp ho)
    go_ret
    exact ⟨_, rfl, Hv.out, HP.out, HO.out⟩
set_option maxRecDepth 20000 in
set_option maxHeartbeats 4000000 in
theorem matched_rdB (pb : Nat) (T : ByteArray) (ge : Bool) (s s' : TS) (V : World → Value → Prop) (hV : Stab pb V) (he : EndsB s') (h1 : Reads 428 pb T ge s s' V) : Reads 362 pb T ge s s' V := by
  intro w h
  have hl := h.lt
  have HR : Hid (Calls Tryz.prog 427 #[.pointer (some ⟨pb, 0, none⟩), .func (.func 428) #[.pointer (some ⟨pb, 0, none⟩)] #[], .slice (some ⟨w.heap.size, 0, none⟩) 2 2] (w.alloc (.cells #[.string ⟨#[126]⟩, .string ⟨#[33, 126]⟩] 9)) fun en w' => ∃ v, en = .returned v ∧ V w' v ∧ PAt w' pb T s' ge ∧ Only (fun k => k = pb) (w.alloc (.cells #[.string ⟨#[126]⟩, .string ⟨#[33, 126]⟩] 9)) w') :=
    pair_no 428 cf606 pb T ge s s' V hV h1 [⟨#[126]⟩, ⟨#[33, 126]⟩] (by decide) (fun t ht => he.1 t.data.toList (by simp at ht; rcases ht with rfl | rfl <;> decide)) w.heap.size 2 _ (Reads.alloc_at h _) (by simp) (by omega) (strs_new w [⟨#[126]⟩, ⟨#[33, 126]⟩])
  have hin : seen s' [105, 110] = false := he.1 _ (by decide)
  clear he hV h1 h
  go_enter Tryz.func362, Tryz.ntmps362
  go_wp2_with fail
  refine (HR.out).mono ?_
  rintro en w1 ⟨v, rfl, hv, hp, ho⟩
  have HPs := hide (passes_no pb T s' ge ⟨#[105, 110]⟩ hin w1 hp)
  have Hv := hide hv
  have HP := hide hp
  have HO : Hid (Only (fun k => k = pb) w w1) := ((Only.refl _ w).alloc _).trans ho (fun _ _ e => e)
  clear hv hp ho HR
  go_wp2
  go_loop [3] (fun s3 => s3 = v) (fun _ => 0)
  case atStart => exact rfl
  case round =>
    subst hrel
    go_wp2_with (go_at_call 106; refine (HPs.out).mono ?_; rintro en w2 ⟨rfl, rfl⟩)
    go_ret
    exact ⟨_, rfl, Hv.out, HP.out, HO.out⟩
set_option maxRecDepth 20000 in
set_option maxHeartbeats 4000000 in
theorem both_rdB (pb : Nat) (T : ByteArray) (ge : Bool) (s s' : TS) (V : World → Value → Prop) (hV : Stab pb V) (he : EndsB s') (h1 : Reads 362 pb T ge s s' V) : Reads 253 pb T ge s s' V := by
  intro w h
  have hl := h.lt
  have HR : Hid (Calls Tryz.prog 252 #[.pointer (some ⟨pb, 0, none⟩), .func (.func 362) #[.pointer (some ⟨pb, 0, none⟩)] #[], .slice (some ⟨w.heap.size, 0, none⟩) 1 1] (w.alloc (.cells #[.string ⟨#[38, 38]⟩] 9)) fun en w' => ∃ v, en = .returned v ∧ V w' v ∧ PAt w' pb T s' ge ∧ Only (fun k => k = pb) (w.alloc (.cells #[.string ⟨#[38, 38]⟩] 9)) w') :=
    row_no 362 cf546 pb T ge s s' V hV h1 [⟨#[38, 38]⟩] (by decide) (fun t ht => he.1 t.data.toList (by simp at ht; subst ht; decide)) w.heap.size 1 _ (Reads.alloc_at h _) (by simp) (by omega) (strs_new w [⟨#[38, 38]⟩])
  clear he hV h1 h
  go_enter Tryz.func253, Tryz.ntmps253
  go_wp2_with (go_at_call 252; refine (HR.out).mono ?_; rintro en w1 ⟨v, rfl, hv, hp, ho⟩; have Hv := hide hv; have HP := hide hp; have HO : Hid (Only (fun k => k = pb) w w1) := ((Only.refl _ w).alloc _).trans ho (fun _ _ e => e); clear hv hp ho)
  go_ret
  exact ⟨_, rfl, Hv.out, HP.out, HO.out⟩
set_option maxRecDepth 20000 in
set_option maxHeartbeats 4000000 in
theorem either_rdB (pb : Nat) (T : ByteArray) (ge : Bool) (s s' : TS) (V : World → Value → Prop) (hV : Stab pb V) (he : EndsB s') (h1 : Reads 253 pb T ge s s' V) : Reads 182 pb T ge s s' V := by
  intro w h
  have hl := h.lt
  have HR : Hid (Calls Tryz.prog 252 #[.pointer (some ⟨pb, 0, none⟩), .func (.func 253) #[.pointer (some ⟨pb, 0, none⟩)] #[], .slice (some ⟨w.heap.size, 0, none⟩) 1 1] (w.alloc (.cells #[.string ⟨#[124, 124]⟩] 9)) fun en w' => ∃ v, en = .returned v ∧ V w' v ∧ PAt w' pb T s' ge ∧ Only (fun k => k = pb) (w.alloc (.cells #[.string ⟨#[124, 124]⟩] 9)) w') :=
    row_no 253 cf438 pb T ge s s' V hV h1 [⟨#[124, 124]⟩] (by decide) (fun t ht => he.1 t.data.toList (by simp at ht; subst ht; decide)) w.heap.size 1 _ (Reads.alloc_at h _) (by simp) (by omega) (strs_new w [⟨#[124, 124]⟩])
  clear he hV h1 h
  go_enter Tryz.func182, Tryz.ntmps182
  go_wp2_with (go_at_call 252; refine (HR.out).mono ?_; rintro en w1 ⟨v, rfl, hv, hp, ho⟩; have Hv := hide hv; have HP := hide hp; have HO : Hid (Only (fun k => k = pb) w w1) := ((Only.refl _ w).alloc _).trans ho (fun _ _ e => e); clear hv hp ho)
  go_ret
  exact ⟨_, rfl, Hv.out, HP.out, HO.out⟩
end Go.Proofs.YtdbdbaepmdmnfaaGreatDoor

namespace Go.Proofs.YtdbdbaepmdmnfaaGreatDoor
open Go.RowKit
def numT (n : Int) : Value := .iface 300 (.agg #[.int .i64 n])
def fieldT (v : Value) : Value := .iface 309 (.agg #[v])
def storeT (l : Value) (x : ByteArray) (r : Value) : Value := .iface 326 (.agg #[l, .string x, r])
end Go.Proofs.YtdbdbaepmdmnfaaGreatDoor

namespace Go.Proofs.YtdbdbaepmdmnfaaGreatDoor
open Go.RowKit
set_option maxRecDepth 20000 in
set_option maxHeartbeats 4000000 in
/-- What is stored: YtdbdbaepmdmnfaaGreatDoor = expr, and the like. -/
theorem expr_store (pb : Nat) (T : ByteArray) (ge : Bool) (s s1 s2 s3 : TS) (t1 t2 : TypeId) (u1 u2 : Value) (hI : IsPl (Is (.iface t1 u1)) true) (hq : seen s1 [63] = false) (m : Nat) (hm : m < 6) (hno : ∀ i t, i < m → [⟨#[61]⟩, ⟨#[43, 61]⟩, ⟨#[45, 61]⟩, ⟨#[42, 61]⟩, ⟨#[47, 61]⟩, (⟨#[37, 61]⟩ : ByteArray)][i]? = some t → seen s1 t.data.toList = false) (hyes : ∀ t, [⟨#[61]⟩, ⟨#[43, 61]⟩, ⟨#[45, 61]⟩, ⟨#[42, 61]⟩, ⟨#[47, 61]⟩, (⟨#[37, 61]⟩ : ByteArray)][m]? = some t → seen s1 t.data.toList = true) (h1 : Reads 182 pb T ge s s1 (Is (.iface t1 u1))) (hn : Nx pb T s1 s2) (h2 : Reads 143 pb T ge s2 s3 (Is (.iface t2 u2))) : Reads 143 pb T ge s s3 (Is (storeT (.iface t1 u1) s1.x (.iface t2 u2))) := by
  intro w h
  have HR := hide (h1 w h)
  have HI := hide hI
  have H2 := hide h2
  have HX := hide hn
  have HNo := hide hno
  have HYes := hide hyes
  have HQ := hide hq
  have e1 := fld188
  clear h1 h hI h2 hn hno hyes hq
  unfold storeT
  go_enter Tryz.func143, Tryz.ntmps143
  go_wp2_with fail
  refine (HR.out).mono ?_
  rintro en w1 ⟨v, rfl, hv, hp, ho⟩
  obtain rfl := hv
  have hl1 := hp.lt
  have HPs := hide (passes_no pb T s1 ge ⟨#[63]⟩ HQ.out w1 hp)
  have HIs := hide (HI.out w1 _ rfl)
  have HS := hide (oneOf_yes pb T s1 ge w1.heap.size 6 [⟨#[61]⟩, ⟨#[43, 61]⟩, ⟨#[45, 61]⟩, ⟨#[42, 61]⟩, ⟨#[47, 61]⟩, ⟨#[37, 61]⟩] (by decide) m hm HNo.out HYes.out _ (Reads.alloc_at hp _) (strs_new w1 [⟨#[61]⟩, ⟨#[43, 61]⟩, ⟨#[45, 61]⟩, ⟨#[42, 61]⟩, ⟨#[47, 61]⟩, ⟨#[37, 61]⟩]))
  have HT := hide (take_yes pb T s1 s2 ge HX.out _ (Reads.alloc_at hp (.cells #[.string ⟨#[61]⟩, .string ⟨#[43, 61]⟩, .string ⟨#[45, 61]⟩, .string ⟨#[42, 61]⟩, .string ⟨#[47, 61]⟩, .string ⟨#[37, 61]⟩] 9)))
  have HO := hide ho
  clear hp ho HR HI
  go_wp2_with (first | (go_at_call 106; refine (HPs.out).mono ?_; rintro en w2 ⟨rfl, h2⟩; subst w2) | (go_at_call 183; refine (HIs.out).mono ?_; rintro en w2 ⟨rfl, h2⟩; subst w2) | (go_at_call 184; refine (HS.out).mono ?_; rintro en w2 ⟨rfl, h2⟩; subst w2) | (go_at_call 139; refine (HT.out).mono ?_; rintro en w3 ⟨rfl, hp, ho⟩; have HP3 := hide hp; have HO3 : Hid (Only (fun k => k = pb) w w3) := hide ((HO.out.alloc _).trans ho (fun _ _ e => e)); clear hp ho) | (go_at_call 143; refine (H2.out _ HP3.out).mono ?_; rintro en w4 ⟨v, rfl, hv, hp, ho⟩; obtain rfl := hv; have HP4 := hide hp; have HO4 : Hid (Only (fun k => k = pb) w w4) := hide (HO3.out.trans ho (fun _ _ e => e)); clear hp ho))
  go_ret
  exact ⟨_, rfl, rfl, HP4.out, HO4.out⟩
/-- As Reads; the row that is answered is new. -/
def ReadsN (f : Nat) (pb : Nat) (T : ByteArray) (ge : Bool) (s s' : TS) (V : World → Value → Prop) : Prop :=
  ∀ w, PAt w pb T s ge → Calls Tryz.prog f #[.pointer (some ⟨pb, 0, none⟩)] w fun en w' => ∃ v, en = .returned v ∧ V w' v ∧ (∀ q, v.ownBlock = some q → w.heap.size ≤ q ∧ q < w'.heap.size) ∧ PAt w' pb T s' ge ∧ Only (fun k => k = pb) w w'
end Go.Proofs.YtdbdbaepmdmnfaaGreatDoor

namespace Go.Proofs.YtdbdbaepmdmnfaaGreatDoor
open Go.RowKit
/-- What V tells stands while other rows of statements than those of R grow. -/
def Stab2X (R : Value → Nat → Prop) (V : World → Value → Prop) : Prop := ∀ w w' v (D : Nat → Prop), V w v → Only D w w' → (∀ k, D k → (∃ c, w.heap[k]? = some (.cells c 235 (0, 0))) ∧ ¬ R v k) → V w' v
/-- As Reads; the rows of R are new. -/
def ReadsX (R : Value → Nat → Prop) (f : Nat) (pb : Nat) (T : ByteArray) (ge : Bool) (s s' : TS) (V : World → Value → Prop) : Prop :=
  ∀ w, PAt w pb T s ge → Calls Tryz.prog f #[.pointer (some ⟨pb, 0, none⟩)] w fun en w' => ∃ v, en = .returned v ∧ V w' v ∧ (∀ q, R v q → w.heap.size ≤ q ∧ q < w'.heap.size) ∧ PAt w' pb T s' ge ∧ Only (fun k => k = pb) w w'
theorem Stab2.x {R : Value → Nat → Prop} {V : World → Value → Prop} (h : Stab2 V) : Stab2X R V := fun w w' v D hv ho hD => h w w' v D hv ho (fun k hk => (hD k hk).1)
theorem Reads.x {R : Value → Nat → Prop} {f pb : Nat} {T : ByteArray} {ge : Bool} {s s' : TS} {V : World → Value → Prop} (h : Reads f pb T ge s s' V) (hn : ∀ w v q, V w v → ¬ R v q) : ReadsX R f pb T ge s s' V := fun w hw => (h w hw).mono (fun _ _ ⟨v, e, hv, hp, ho⟩ => ⟨v, e, hv, fun q hq => absurd hq (hn _ _ q hv), hp, ho⟩)
set_option maxRecDepth 20000 in
set_option maxHeartbeats 8000000 in
theorem block_rdX (R : Value → Nat → Prop) (pb : Nat) (T : ByteArray) (ge : Bool) (s : TS) (n : Nat) (hn100 : n ≤ 100) (S : Nat → TS) (se : TS) (Vf : Nat → World → Value → Prop) (hV : ∀ i, i < n → Stab pb (Vf i)) (hV2 : ∀ i, i < n → Stab2X R (Vf i)) (hI : ∀ i, i < n → IsIf (Vf i)) (ho' : seen s [123] = true) (hn0 : Nx pb T s (S 0))
    (hr : ∀ i, i < n → ReadsX R 181 pb T ge (S i) (S (i + 1)) (Vf i)) (hno : ∀ i, i < n → seen (S i) [125] = false) (hyes : seen (S n) [125] = true) (hne : Nx pb T (S n) se) : ReadsN 142 pb T ge s se (BlockT pb n Vf) := by
  obtain ⟨i0, hi0, hz0, hz1, hz2⟩ := info_parts info363
  intro w h
  have HNd := hide (need_yes pb T s (S 0) ge ⟨#[123]⟩ ho' hn0 w h)
  have HPy : ∀ W, PAt W pb T (S n) ge → Hid (Calls Tryz.prog 106 #[.pointer (some ⟨pb, 0, none⟩), .string ⟨#[125]⟩] W fun en w' => en = .returned (.bool true) ∧ PAt w' pb T se ge ∧ Only (fun k => k = pb) W w') := fun W hW => passes_yes pb T (S n) se ge ⟨#[125]⟩ hyes hne W hW
  have HPn : ∀ i, i < n → ∀ W, PAt W pb T (S i) ge → Hid (Calls Tryz.prog 106 #[.pointer (some ⟨pb, 0, none⟩), .string ⟨#[125]⟩] W fun en w' => en = .returned (.bool false) ∧ w' = W) := fun i hi W hW => passes_no pb T (S i) ge ⟨#[125]⟩ (hno i hi) W hW
  have HRd := hide hr
  have HV := hide hV
  have HI := hide hI
  have HV2 := hide hV2
  clear h ho' hn0 hr hno hyes hne hV hI hV2
  go_enter Tryz.func142, Tryz.ntmps142
  go_wp2_with fail
  refine (HNd.out).mono ?_
  rintro en w1 ⟨rfl, hp1, ho1⟩
  have HP1 := hide hp1
  have HO1 := hide ho1
  clear hp1 ho1 HNd
  go_wp2
  go_loopg [3] n (fun g s3 wr => ∃ (k : Nat) (vs : List Value) (sv : Value), sv = s3 ∧ k ≤ n ∧ g = n - k ∧ vs.length = k ∧ wr.ownsRow w.heap.size 235 1 s3 k vs ∧ (∀ i u, vs[i]? = some u → Vf i wr u ∧ ∀ q, R u q → q < wr.heap.size ∧ s3.ownBlock ≠ some q) ∧ PAt wr pb T (S k) ge ∧ Only (fun k => k = pb) w wr)
  case atStart => exact ⟨0, [], _, rfl, Nat.zero_le _, rfl, rfl, World.ownsRow_nil _ _ _ _, fun i u hu => by simp at hu, HP1.out, HO1.out⟩
  case round =>
    obtain ⟨k, vs, sv, rfl, hk, hg, hvl, hrow, hvs, hp, ho⟩ := hrel
    have HG := hide hg
    have HRow := hide hrow
    have HVs := hide hvs
    have HO := hide ho
    have hlp := hp.lt
    have hnp := own_tag (t := 154) hrow hp (by decide)
    have hzw := ho.size
    by_cases hlt : k < n
    · have HPs := HPn k hlt _ hp
      have HSt := hide (HRd.out k hlt _ hp)
      clear hg hrow hvs hp ho
      go_wp2_with (first | (go_at_call 106; refine (HPs.out).mono ?_; rintro en w2 ⟨rfl, rfl⟩))
      refine (HSt.out).mono ?_
      rintro en w3 ⟨u, rfl, hu, hfr, hp3, ho3⟩
      obtain ⟨t, x, rfl⟩ := HI.out k hlt _ _ hu
      have hz3 := ho3.size
      have hrow3 := row_keep HRow.out hnp ho3
      have HRow3 := hide hrow3
      have Hu := hide hu
      have HP3 := hide hp3
      have HO3 : Hid (Only (fun k => k = pb) w w3) := HO.out.trans ho3 (fun _ _ e => e)
      have HVs3 : Hid (∀ i u, vs[i]? = some u → Vf i w3 u ∧ ∀ q, R u q → q < w3.heap.size ∧ sv.ownBlock ≠ some q) := fun i u hiu => ⟨HV.out i (by have := (List.getElem?_eq_some_iff.1 hiu).1; omega) _ _ _ (HVs.out i u hiu).1 ho3, fun q hq => ⟨Nat.lt_of_lt_of_le ((HVs.out i u hiu).2 q hq).1 hz3, ((HVs.out i u hiu).2 q hq).2⟩⟩
      have HFr := hide hfr
      have hl3 := hp3.lt
      clear hu hp3 ho3 hrow3 HSt HPs hfr
      go_wp2_with (at_builtin; refine wpList_append_lies _ rfl (.tmp 9) (.tmp 12) 95 rfl w.heap.size 235 i0 .nilIface 1 16 Tryz.underlying95 hi0 hz0 hz1 hz2 rfl (by decide) _ _ _ rfl (HRow3.out.alloc _) _ 1 1 [.iface t x] rfl rfl (news_oneR _ _ _) (fun u hu => by simp at hu; subst hu; rfl) (by decide) (by unfold maxLen; omega) (by omega) (by simp; omega) (w3.heap.size + 1) (by simp) ?_; intro g' cap' w4 hown' hgrow hlie hgl)
      have hp4 : PAt w4 pb T (S (k + 1)) ge := (hgrow.block pb (by simp; omega) (fun e => hnp e.symm)).trans (Reads.alloc_at HP3.out _)
      have ho34 : Only (fun q => some q = _) _ w4 := (Only.refl (fun q => some q = _) _).grown hgrow (fun q hq _ => hq.symm)
      have hD := row_tag (HRow3.out.alloc (.cells #[.iface t x] 235))
      have hz4 := hgrow.size
      have hz4' : w3.heap.size + 1 ≤ w4.heap.size := by simpa using hz4
      have hrl := HRow.out.lt
      have HVs4 : Hid (∀ i u, (vs ++ [.iface t x])[i]? = some u → Vf i w4 u ∧ ∀ q, R u q → q < w4.heap.size ∧ (Value.slice (some ⟨g', 0, none⟩) (k + 1) cap').ownBlock ≠ some q) := fun i u hiu => by
        by_cases hi : i < vs.length
        · rw [List.getElem?_append_left hi] at hiu
          have h0 := HVs3.out i u hiu
          refine ⟨HV2.out i (by omega) _ _ _ _ (HV2.out i (by omega) _ _ _ (fun _ => False) h0.1 (onlyA _ _) (fun _ e => e.elim)) ho34 (fun q hq => ⟨hD q hq, fun hf => (h0.2 q hf).2 hq.symm⟩), fun q hq => ⟨by have := (h0.2 q hq).1; omega, fun e => ?_⟩⟩
          have e2 : g' = q := Option.some.inj e
          rcases hlie with h | h
          · exact (h0.2 q hq).2 (by rw [← e2]; exact h)
          · have := (h0.2 q hq).1
            omega
        · rw [List.getElem?_append_right (by omega)] at hiu
          have hik : i = k := by have := (List.getElem?_eq_some_iff.1 hiu).1; simp at this; omega
          subst hik
          rw [hvl, Nat.sub_self] at hiu
          simp at hiu
          subst hiu
          have hne : ∀ q, R (.iface t x) q → sv.ownBlock ≠ some q := fun q hq e => by
            have h1 := (HFr.out q hq).1
            have h2 := (hrl q e).2
            omega
          refine ⟨HV2.out i (by omega) _ _ _ _ (HV2.out i (by omega) _ _ _ (fun _ => False) Hu.out (onlyA _ _) (fun _ e => e.elim)) ho34 (fun q hq => ⟨hD q hq, fun hf => hne q hf hq.symm⟩), fun q hq => ⟨by have := (HFr.out q hq).2; omega, fun e => ?_⟩⟩
          have e2 : g' = q := Option.some.inj e
          rcases hlie with h | h
          · exact hne q hq (by rw [← e2]; exact h)
          · have := (HFr.out q hq).2
            omega
      have ho4 : Only (fun k => k = pb) w w4 := (HO3.out.alloc _).grown hgrow (fun q hq hlt => by have := (HRow3.out.lt q hq).1; omega)
      have HP4 := hide hp4
      have HO4 := hide ho4
      have HR4 := hide hown'
      clear hp4 ho4 hown' hgrow hlie hgl ho34 hD hz4 hz4' hrl
      go_wp2
      go_roundg (n - (k + 1))
      case measure => rw [HG.out]; omega
      case rel => exact ⟨k + 1, vs ++ [.iface t x], _, rfl, by omega, rfl, by simp; omega, HR4.out, HVs4.out, HP4.out, HO4.out⟩
    · obtain rfl : k = n := by omega
      have HPs := HPy _ hp
      clear hg hrow hvs hp ho
      go_wp2_with (go_at_call 106; refine (HPs.out).mono ?_; rintro en w2 ⟨rfl, hp2, ho2⟩; have HP2 := hide hp2; have HO2 := hide ho2; clear hp2 ho2)
      go_ret
      refine ⟨_, rfl, ⟨vs, hvl, base0 (row_keep HRow.out hnp HO2.out), hnp, fun i u hiu => HV.out i (by have := (List.getElem?_eq_some_iff.1 hiu).1; omega) _ _ _ (HVs.out i u hiu).1 HO2.out⟩, fun q hq => ⟨(HRow.out.lt q hq).1, Nat.lt_of_lt_of_le (HRow.out.lt q hq).2 HO2.out.size⟩, HP2.out, HO.out.trans HO2.out (fun _ _ e => e)⟩
end Go.Proofs.YtdbdbaepmdmnfaaGreatDoor

namespace Go.Proofs.YtdbdbaepmdmnfaaGreatDoor
open Go.RowKit
set_option maxRecDepth 20000 in
set_option maxHeartbeats 4000000 in
theorem ends_no (pb : Nat) (T : ByteArray) (s : TS) (ge : Bool) (h0 : seen s [59] = false) (h1 : seen s [125] = false) (w : World) (h : PAt w pb T s ge) :
    Calls Tryz.prog 423 #[.pointer (some ⟨pb, 0, none⟩)] w fun en w' => en = .returned (.bool false) ∧ Only (fun _ => False) w w' := by
  have hl := h.lt
  have HS : Hid (Calls Tryz.prog 184 #[.pointer (some ⟨pb, 0, none⟩), .slice (some ⟨w.heap.size, 0, none⟩) 2 2] (w.alloc (.cells #[.string ⟨#[59]⟩, .string ⟨#[125]⟩] 9)) fun en w' => en = .returned (.bool false) ∧ w' = w.alloc (.cells #[.string ⟨#[59]⟩, .string ⟨#[125]⟩] 9)) :=
    oneOf_no pb T s ge w.heap.size 2 [⟨#[59]⟩, ⟨#[125]⟩] (by decide) (fun t ht => by
      simp at ht
      rcases ht with rfl | rfl
      · exact h0
      · exact h1) _ (Reads.alloc_at h _) (strs_new w [⟨#[59]⟩, ⟨#[125]⟩])
  clear h h0 h1
  go_enter Tryz.func423, Tryz.ntmps423
  go_wp2_with (go_at_call 184; refine (HS.out).mono ?_; rintro en w' ⟨rfl, rfl⟩)
  go_ret
  exact ⟨rfl, (Only.refl _ w).alloc _⟩
/-- A print with a list. -/
def PrintL (pb : Nat) (vs : List Value) : World → Value → Prop := fun w v => ∃ r, v = .iface 285 (.agg #[r, .nilIface]) ∧ Row pb vs w r
set_option maxRecDepth 20000 in
set_option maxHeartbeats 4000000 in
theorem print_list (pb : Nat) (T : ByteArray) (s s1 : TS) (vs : List Value) (h0 : seen s [59] = false) (h1 : seen s [125] = false) (h2 : seen s [62] = false) (hL : Reads 424 pb T true s s1 (Row pb vs)) (hg : seen s1 [62] = false) : Reads 359 pb T false s s1 (PrintL pb vs) := by
  intro w h
  have hl := h.lt
  have HE : Hid (∀ o, Calls Tryz.prog 423 #[.pointer (some ⟨pb, 0, none⟩)] (w.alloc o) fun en w' => en = .returned (.bool false) ∧ Only (fun _ => False) (w.alloc o) w') := hide (fun o => ends_no pb T s false h0 h1 _ (Reads.alloc_at h o))
  have HSe : Hid (∀ W, PAt W pb T s false → Calls Tryz.prog 137 #[.pointer (some ⟨pb, 0, none⟩), .string ⟨#[62]⟩] W fun en w' => en = .returned (.bool false) ∧ w' = W) := hide (fun W hW => sees_at pb T s false ⟨#[62]⟩ false h2 W hW)
  have HPn : Hid (∀ W, PAt W pb T s1 false → Calls Tryz.prog 106 #[.pointer (some ⟨pb, 0, none⟩), .string ⟨#[62]⟩] W fun en w' => en = .returned (.bool false) ∧ w' = W) := hide (fun W hW => passes_no pb T s1 false ⟨#[62]⟩ hg W hW)
  have HL := hide hL
  have HP := hide h
  clear h h0 h1 h2 hg hL
  go_enter Tryz.func359, Tryz.ntmps359
  go_wp2_with fail
  refine (HE.out _).mono ?_
  rintro en w1 ⟨rfl, ho⟩
  have hb := (ho.block w.heap.size (by simp) (fun e => e)).trans (new0 w (.cells #[.slice none 0 0, .nilIface] 285))
  have hp1 : PAt w1 pb T s false := (Reads.alloc_at HP.out _).only ho (fun e => e)
  have HS1 := hide (HSe.out w1 hp1)
  have hz1 := ho.size
  simp at hz1
  have pf := free_of hp1
  have p6 : w1.cell? ⟨pb, 6, none⟩ = some (.bool false) := cell_of hp1 rfl
  have HP1 := hide hp1
  have HB1 := hide hb
  have HO : Hid (Only (fun _ => False) w w1) := ((Only.refl _ w).alloc _).trans ho (fun _ _ e => e)
  clear ho hb hp1 HE HSe
  go_wp2_with (go_at_call 137; refine (HS1.out).mono ?_; rintro en w' ⟨rfl, h3⟩; subst w')
  refine (HL.out _ (HP1.out.setGe true)).mono ?_
  rintro en w2 ⟨r, rfl, hr, hp2, ho2⟩
  obtain ⟨po, cap, rfl⟩ := row_one hr
  have hpn : w.heap.size ≠ pb := by omega
  have hb2 : w2.heap[w.heap.size]? = some (.cells #[.slice none 0 0, .nilIface] 285 (0, 0)) := (ho2.block w.heap.size (by simp; omega) (fun e => hpn e)).trans ((Below.heap_setCell _ _ _ _ hpn).trans HB1.out)
  have b0 : w2.cell? ⟨w.heap.size, 0, none⟩ = some (.slice none 0 0) := cell_of hb2 rfl
  have b1 : w2.cell? ⟨w.heap.size, 1, none⟩ = some .nilIface := cell_of hb2 rfl
  have bf := free_of hb2
  have q6 : w2.cell? ⟨pb, 6, none⟩ = some (.bool true) := cell_of hp2 rfl
  have qf := free_of hp2
  have hrt := own_tag hr.1 hb2 (by decide)
  have HR := hide hr
  have HRt := hide hrt
  have HB2 := hide hb2
  have HP2 := hide hp2
  have HO2 := hide ho2
  clear hr hrt hb2 hp2 ho2 HL
  go_wp2_with fail
  have hb3 : ((w2.setCell ⟨w.heap.size, 0, none⟩ (.slice po vs.length cap)).setCell ⟨pb, 6, none⟩ (.bool false)).heap[w.heap.size]? = some (.cells #[.slice po vs.length cap, .nilIface] 285 (0, 0)) := (Below.heap_setCell _ _ _ _ hpn).trans (heap_setCell_same HB2.out _)
  have hp3 : PAt ((w2.setCell ⟨w.heap.size, 0, none⟩ (.slice po vs.length cap)).setCell ⟨pb, 6, none⟩ (.bool false)) pb T s1 false := PAt.setGe (ge := true) ((Below.heap_setCell _ _ _ _ (Ne.symm hpn)).trans HP2.out) false
  have m0 : ((w2.setCell ⟨w.heap.size, 0, none⟩ (.slice po vs.length cap)).setCell ⟨pb, 6, none⟩ (.bool false)).cell? ⟨w.heap.size, 0, none⟩ = some (.slice po vs.length cap) := cell_of hb3 rfl
  have m1 : ((w2.setCell ⟨w.heap.size, 0, none⟩ (.slice po vs.length cap)).setCell ⟨pb, 6, none⟩ (.bool false)).cell? ⟨w.heap.size, 1, none⟩ = some .nilIface := cell_of hb3 rfl
  have hrow3 : Row pb vs ((w2.setCell ⟨w.heap.size, 0, none⟩ (.slice po vs.length cap)).setCell ⟨pb, 6, none⟩ (.bool false)) (.slice po vs.length cap) := ⟨ownsRow_of HR.out.1 (fun k hk => (Below.heap_setCell _ _ _ _ (fun e => HR.out.2 (by rw [hk, e]))).trans (Below.heap_setCell _ _ _ _ (fun e => HRt.out (by rw [hk, e])))), HR.out.2⟩
  have hO3 : Only (fun k => k = pb) w ((w2.setCell ⟨w.heap.size, 0, none⟩ (.slice po vs.length cap)).setCell ⟨pb, 6, none⟩ (.bool false)) := ((((HO.out.mono (E := fun k => k = pb) (fun _ _ e => e.elim)).setCell (p := ⟨pb, 6, none⟩) (fun _ => rfl) (.bool true)).trans HO2.out (fun _ _ e => e)).setCell (p := ⟨w.heap.size, 0, none⟩) (fun h => absurd h (Nat.lt_irrefl _)) _).setCell (p := ⟨pb, 6, none⟩) (fun _ => rfl) _
  have HPf := hide (HPn.out _ hp3)
  have HP3 := hide hp3
  have HR3 := hide hrow3
  have HO3 := hide hO3
  clear hb3 hp3 hrow3 hO3 b0 b1 q6
  generalize ((w2.setCell ⟨w.heap.size, 0, none⟩ (.slice po vs.length cap)).setCell ⟨pb, 6, none⟩ (.bool false)) = w3 at *
  refine (HPf.out).mono ?_
  rintro en w' ⟨rfl, h3⟩
  subst w'
  go_wp2
  go_ret
  exact ⟨_, rfl, ⟨_, rfl, HR3.out⟩, HP3.out, HO3.out⟩
theorem printL_stab (pb : Nat) (vs : List Value) : Stab pb (PrintL pb vs) := fun w w' _ ⟨r, e, h⟩ ho => ⟨r, e, row_stab pb vs w w' r h ho⟩
theorem printL_stab2 (pb : Nat) (vs : List Value) : Stab2 (PrintL pb vs) := fun w w' _ D ⟨r, e, h⟩ ho hD => ⟨r, e, row_stab2 pb vs w w' r D h ho hD⟩
theorem printL_stab3 (pb : Nat) (vs : List Value) : Stab3 (PrintL pb vs) := fun w w' _ D ⟨r, e, h⟩ ho hD => ⟨r, e, row_stab3 pb vs w w' r D h ho hD⟩
theorem printL_if (pb : Nat) (vs : List Value) : IsIf (PrintL pb vs) := fun _ _ ⟨_, e, _⟩ => ⟨_, _, e⟩
end Go.Proofs.YtdbdbaepmdmnfaaGreatDoor

namespace Go.Proofs.YtdbdbaepmdmnfaaGreatDoor
open Go.RowKit
/-- Two texts, one behind the other. -/
def joinT (l r : Value) : Value := .iface 319 (.agg #[l, r])
end Go.Proofs.YtdbdbaepmdmnfaaGreatDoor

namespace Go.Proofs.YtdbdbaepmdmnfaaGreatDoor
open Go.RowKit
/-- What is stored, its place and its right side told by what they are. -/
def StoreW (V1 : World → Value → Prop) (x : ByteArray) (V2 : World → Value → Prop) : World → Value → Prop := fun w v => ∃ l r, v = storeT l x r ∧ V1 w l ∧ V2 w r
theorem storeW_stab {pb : Nat} {V1 V2 : World → Value → Prop} {x : ByteArray} (h1 : Stab pb V1) (h2 : Stab pb V2) : Stab pb (StoreW V1 x V2) := fun w w' _ ⟨l, r, e, hl, hr⟩ ho => ⟨l, r, e, h1 w w' l hl ho, h2 w w' r hr ho⟩
theorem storeW_stab2 {V1 V2 : World → Value → Prop} {x : ByteArray} (h1 : Stab2 V1) (h2 : Stab2 V2) : Stab2 (StoreW V1 x V2) := fun w w' _ D ⟨l, r, e, hl, hr⟩ ho hD => ⟨l, r, e, h1 w w' l D hl ho hD, h2 w w' r D hr ho hD⟩
theorem storeW_stab3 {V1 V2 : World → Value → Prop} {x : ByteArray} (h1 : Stab3 V1) (h2 : Stab3 V2) : Stab3 (StoreW V1 x V2) := fun w w' _ D ⟨l, r, e, hl, hr⟩ ho hD => ⟨l, r, e, h1 w w' l D hl ho hD, h2 w w' r D hr ho hD⟩
theorem storeW_if {V1 V2 : World → Value → Prop} {x : ByteArray} : IsIf (StoreW V1 x V2) := fun _ _ ⟨_, _, e, _⟩ => ⟨_, _, e⟩
set_option maxRecDepth 20000 in
set_option maxHeartbeats 4000000 in
theorem expr_storeV (pb : Nat) (T : ByteArray) (ge : Bool) (s s1 s2 s3 : TS) (V1 V2 : World → Value → Prop) (hS1 : Stab pb V1) (hI1 : IsIf V1) (hI2 : IsIf V2) (hI : IsPl V1 true) (hq : seen s1 [63] = false) (m : Nat) (hm : m < 6) (hno : ∀ i t, i < m → [⟨#[61]⟩, ⟨#[43, 61]⟩, ⟨#[45, 61]⟩, ⟨#[42, 61]⟩, ⟨#[47, 61]⟩, (⟨#[37, 61]⟩ : ByteArray)][i]? = some t → seen s1 t.data.toList = false) (hyes : ∀ t, [⟨#[61]⟩, ⟨#[43, 61]⟩, ⟨#[45, 61]⟩, ⟨#[42, 61]⟩, ⟨#[47, 61]⟩, (⟨#[37, 61]⟩ : ByteArray)][m]? = some t → seen s1 t.data.toList = true) (h1 : Reads 182 pb T ge s s1 V1) (hn : Nx pb T s1 s2) (h2 : Reads 143 pb T ge s2 s3 V2) : Reads 143 pb T ge s s3 (StoreW V1 s1.x V2) := by
  intro w h
  have HR := hide (h1 w h)
  have HI := hide hI
  have H2 := hide h2
  have HX := hide hn
  have HNo := hide hno
  have HYes := hide hyes
  have HQ := hide hq
  have HI1 := hide hI1
  have HI2 := hide hI2
  have HS1 := hide hS1
  have e1 := fld188
  clear h1 h hI h2 hn hno hyes hq hI1 hI2 hS1
  go_enter Tryz.func143, Tryz.ntmps143
  go_wp2_with fail
  refine (HR.out).mono ?_
  rintro en w1 ⟨v, rfl, hv, hp, ho⟩
  obtain ⟨t1, u1, rfl⟩ := HI1.out _ _ hv
  have hl1 := hp.lt
  have HPs := hide (passes_no pb T s1 ge ⟨#[63]⟩ HQ.out w1 hp)
  have HIs := hide (HI.out w1 _ hv)
  have HS := hide (oneOf_yes pb T s1 ge w1.heap.size 6 [⟨#[61]⟩, ⟨#[43, 61]⟩, ⟨#[45, 61]⟩, ⟨#[42, 61]⟩, ⟨#[47, 61]⟩, ⟨#[37, 61]⟩] (by decide) m hm HNo.out HYes.out _ (Reads.alloc_at hp _) (strs_new w1 [⟨#[61]⟩, ⟨#[43, 61]⟩, ⟨#[45, 61]⟩, ⟨#[42, 61]⟩, ⟨#[47, 61]⟩, ⟨#[37, 61]⟩]))
  have HT := hide (take_yes pb T s1 s2 ge HX.out _ (Reads.alloc_at hp (.cells #[.string ⟨#[61]⟩, .string ⟨#[43, 61]⟩, .string ⟨#[45, 61]⟩, .string ⟨#[42, 61]⟩, .string ⟨#[47, 61]⟩, .string ⟨#[37, 61]⟩] 9)))
  have HO := hide ho
  have Hv := hide hv
  clear hp ho hv HR HI
  go_wp2_with (first | (go_at_call 106; refine (HPs.out).mono ?_; rintro en w2 ⟨rfl, h2⟩; subst w2) | (go_at_call 183; refine (HIs.out).mono ?_; rintro en w2 ⟨rfl, h2⟩; subst w2) | (go_at_call 184; refine (HS.out).mono ?_; rintro en w2 ⟨rfl, h2⟩; subst w2) | (go_at_call 139; refine (HT.out).mono ?_; rintro en w3 ⟨rfl, hp, ho⟩; have HP3 := hide hp; have HO13 : Hid (Only (fun k => k = pb) w1 w3) := hide (((Only.refl _ w1).alloc _).trans ho (fun _ _ e => e)); have HO3 : Hid (Only (fun k => k = pb) w w3) := hide (HO.out.trans HO13.out (fun _ _ e => e)); clear hp ho) | (go_at_call 143; refine (H2.out _ HP3.out).mono ?_; rintro en w4 ⟨v, rfl, hv2, hp, ho⟩; obtain ⟨t2, u2, rfl⟩ := HI2.out _ _ hv2; have Hv2 := hide hv2; have HP4 := hide hp; have HO14 : Hid (Only (fun k => k = pb) w1 w4) := hide (HO13.out.trans ho (fun _ _ e => e)); have HO4 : Hid (Only (fun k => k = pb) w w4) := hide (HO3.out.trans ho (fun _ _ e => e)); clear hp ho hv2))
  go_ret
  exact ⟨_, rfl, ⟨_, _, rfl, HS1.out _ _ _ Hv.out HO14.out, Hv2.out⟩, HP4.out, HO4.out⟩
end Go.Proofs.YtdbdbaepmdmnfaaGreatDoor

namespace Go.Proofs.YtdbdbaepmdmnfaaGreatDoor
open Go.RowKit
set_option maxRecDepth 10000 in
set_option maxHeartbeats 4000000 in
/-- The sign at a place: two bytes. -/
theorem sign_two (b : Nat) (T : ByteArray) (i : Nat) (dv : Bool) (hi : i + 2 ≤ T.size) (h5 : T.size ≤ 65000) (hd : dblB (T.extract i (i + 2)).data.toList = true) (w : World) (h : TkAt w b T i dv) :
    Calls Tryz.prog 179 #[.pointer (some ⟨b, 0, none⟩)] w fun en w' => en = .returned (.tuple #[tokV 9 (T.extract i (i + 2)) i, .int .i64 ((i + 2 : Nat) : Int)]) ∧ Only (fun _ => False) w w' := by
  have hl := h.lt
  have HT := hide h
  obtain ⟨c0, c1, c2⟩ := h
  have hii : (i : Int) ≤ (T.size : Int) := by omega
  obtain ⟨X, HX⟩ : ∃ X, Hid (X = T.extract i (i + 2)) := ⟨_, rfl⟩
  have HD : ∀ W, Hid (Calls Tryz.prog 244 #[.string ((T.extract i T.size).extract 0 2)] W fun e w' => e = .returned (.bool true) ∧ w' = W) := fun W => by
    show Calls _ _ _ _ _
    have h3 := dbl_any ((T.extract i T.size).extract 0 2) W
    rw [ext2 T i hi, hd] at h3
    exact h3
  rw [← HX.out]
  have HTk : ∀ (o : Obj) (n : Nat), Hid (Calls Tryz.prog 239 #[.pointer (some ⟨b, 0, none⟩), .int .i64 9, .int .i64 ((i : Int) + 2)] ((w.alloc o).drewN n) fun en w' => en = .returned (.tuple #[tokV 9 X i, .int .i64 ((i : Int) + 2)]) ∧ Only (fun _ => False) ((w.alloc o).drewN n) w') := fun o n => by
    rw [HX.out]
    exact token_any b T i dv 9 (i + 2) (by omega) (by omega) _ ((HT.out.alloc hl o).drewN n)
  have hd1 : (1 : Int) < ((T.size - i : Nat) : Int) := by omega
  clear hd
  go_enter Tryz.func179, Tryz.ntmps179
  go_wp2
  go_quiet (fail)
  go_wp2_with (first | (go_at_call 244; refine ((HD _).out).mono ?_; rintro e w' ⟨rfl, rfl⟩) | (go_at_call 239; refine ((HTk _ _).out).mono ?_; rintro e w1 ⟨rfl, ho1⟩; obtain ⟨HO1, q0, q1, q2, qf⟩ := tokbox ho1; clear ho1; unfold tokV))
  exact bodyPost_ret (v := .tuple #[.agg #[.int .i64 9, .string X, .int .i64 i], .int .i64 ((i : Int) + 2)]) (by simp [results, Tryz.results179, go_sem, q0, q1, q2]) rfl ⟨by unfold tokV; rfl, tokset HO1.out _ _ _⟩
set_option maxRecDepth 10000 in
set_option maxHeartbeats 8000000 in
/-- A number of at most 18 digits, no letter behind it. -/
theorem number_any (b : Nat) (T : ByteArray) (i : Nat) (dv : Bool) (hi : i ≤ T.size) (h5 : T.size ≤ 65000) (h18 : runTo digB T.data.toList i ≤ i + 18) (hle : ∀ c, T.data.toList[runTo digB T.data.toList i]? = some c → letB c = false) (w : World) (h : TkAt w b T i dv) :
    Calls Tryz.prog 174 #[.pointer (some ⟨b, 0, none⟩)] w fun en w' => en = .returned (.tuple #[tokV 2 (T.extract i (runTo digB T.data.toList i)) i, .int .i64 (runTo digB T.data.toList i)]) ∧ Only (fun _ => False) w w' := by
  have hl := h.lt
  have HT := hide h
  obtain ⟨c0, c1, c2⟩ := h
  obtain ⟨E, HE⟩ : ∃ E, Hid (E = runTo digB T.data.toList i) := ⟨_, rfl⟩
  rw [← HE.out] at h18 hle ⊢
  have hEl : E ≤ T.size := by rw [HE.out]; have := runTo_le (p := digB) (l := T.data.toList) (k := i) (by rw [len_eq]; exact hi); rw [len_eq] at this; exact this
  have hiE : i ≤ E := by rw [HE.out]; exact runTo_ge _ _ _
  obtain ⟨X, HX⟩ : ∃ X, Hid (X = T.extract i E) := ⟨_, rfl⟩
  rw [← HX.out]
  have HTk : ∀ (o : Obj) (n : Nat), Hid (Calls Tryz.prog 239 #[.pointer (some ⟨b, 0, none⟩), .int .i64 2, .int .i64 E] ((w.alloc o).drewN n) fun en w' => en = .returned (.tuple #[tokV 2 X i, .int .i64 E]) ∧ Only (fun _ => False) ((w.alloc o).drewN n) w') := fun o n => by
    rw [HX.out]
    exact token_any b T i dv 2 E hiE hEl _ ((HT.out.alloc hl o).drewN n)
  have HLe := hide hle
  clear hle
  go_enter Tryz.func174, Tryz.ntmps174
  go_wp2
  go_loopw [4] (fun s4 wr => ∃ k : Nat, s4 = .int .i64 k ∧ i ≤ k ∧ k ≤ E ∧ runTo digB T.data.toList k = E ∧ wr = w.alloc (.cells #[.int .i64 0, .string ⟨#[]⟩, .int .i64 0] 152)) (fun s4 _ => T.size - (intOf s4).toNat)
  case atStart => exact ⟨i, rfl, Nat.le_refl _, hiE, HE.out.symm, rfl⟩
  case round =>
    obtain ⟨k, rfl, hik, hkE, hrk, rfl⟩ := hrel
    have HRk := hide hrk
    clear hrk
    by_cases hlt : k < T.size
    · have hli : (k : Int) < (T.size : Int) := by omega
      have hget := get_of_lt T k hlt
      cases h2 : digB T[k]
      · have hkE2 : k = E := by
          rw [← HRk.out]
          exact (runTo_stop (fun c hc => by rw [hget] at hc; cases hc; exact h2)).symm
        obtain rfl : k = E := hkE2
        have h1 : letB T[k] = false := HLe.out _ hget
        clear hget
        have hii : (i : Int) ≤ (k : Int) := by omega
        have hee : ¬ (18 : Int) < (k : Int) - (i : Int) := by omega
        go_wp2_with (first | (go_at_call 173; refine (tdigit_any _ _).mono ?_; rintro e w' ⟨rfl, rfl⟩; rw [h2]) | (go_at_call 175; refine (tletter_any _ _).mono ?_; rintro e w' ⟨rfl, rfl⟩; rw [h1]))
        refine ((HTk _ 0).out).mono ?_
        rintro e w1 ⟨rfl, ho1⟩
        obtain ⟨HO1, q0, q1, q2, qf⟩ := tokbox ho1
        clear ho1
        unfold tokV
        go_wp2
        exact bodyPost_ret (v := .tuple #[.agg #[.int .i64 2, .string X, .int .i64 i], .int .i64 k]) (by simp [results, Tryz.results174, go_sem, q0, q1, q2]) rfl ⟨by unfold tokV; rfl, tokset HO1.out _ _ _⟩
      · have HR2 : Hid (runTo digB T.data.toList (k + 1) = E) := by
          show _ = E
          rw [runTo_step hget h2]; exact HRk.out
        clear hget
        go_wp2_with (first | (go_at_call 173; refine (tdigit_any _ _).mono ?_; rintro e w' ⟨rfl, rfl⟩; rw [h2]))
        go_roundw
        case rel => exact ⟨k + 1, by go_num, by omega, by have := runTo_ge digB T.data.toList (k + 1); rw [HR2.out] at this; omega, HR2.out, by trivial⟩
        case measure => simp [intOf]; omega
    · have hli : ¬ (k : Int) < (T.size : Int) := by omega
      have hkE2 : k = E := by
        rw [← HRk.out]
        exact (runTo_stop (fun c hc => by rw [get_none T k (by omega)] at hc; cases hc)).symm
      obtain rfl : k = E := hkE2
      have hee : ¬ (18 : Int) < (k : Int) - (i : Int) := by omega
      go_wp2_with fail
      refine ((HTk _ 0).out).mono ?_
      rintro e w1 ⟨rfl, ho1⟩
      obtain ⟨HO1, q0, q1, q2, qf⟩ := tokbox ho1
      clear ho1
      unfold tokV
      go_wp2
      exact bodyPost_ret (v := .tuple #[.agg #[.int .i64 2, .string X, .int .i64 i], .int .i64 k]) (by simp [results, Tryz.results174, go_sem, q0, q1, q2]) rfl ⟨by unfold tokV; rfl, tokset HO1.out _ _ _⟩
set_option maxRecDepth 10000 in
set_option maxHeartbeats 8000000 in
theorem read_number (pb : Nat) (T : ByteArray) (i : Nat) (dv : Bool) (k : Nat) (x : ByteArray) (e : Nat) (hi : i < T.size) (hdg : digB T[i] = true)
    (hsub : ∀ w, TkAt w pb T i dv → Calls Tryz.prog 174 #[.pointer (some ⟨pb, 0, none⟩)] w fun en w' => en = .returned (.tuple #[tokV k x i, .int .i64 e]) ∧ Only (fun _ => False) w w') : ReadsTo pb T i dv k x e := by
  intro w h
  have hl := h.lt
  have HT := hide h
  have HSub := hide hsub
  obtain ⟨c0, c1, c2⟩ := h
  have hli : (i : Int) < (T.size : Int) := by omega
  clear hsub
  unfold tokV
  go_enter Tryz.func135, Tryz.ntmps135
  go_wp2_with (go_at_call 171; refine (tended_no pb T i _ hi _ (HT.out.alloc hl _)).mono ?_; rintro e w' ⟨rfl, n, rfl⟩)
  go_quiet (fail)
  go_wp2_with (first | (go_at_call 173; refine (tdigit_any _ _).mono ?_; rintro e w' ⟨rfl, rfl⟩; rw [hdg]) | (go_at_call 174; refine (HSub.out _ ((HT.out.alloc hl _).drewN _)).mono ?_; rintro e w1 ⟨rfl, ho1⟩; obtain ⟨HO1, q0, q1, q2, qf⟩ := tokbox ho1; clear ho1; unfold tokV))
  exact bodyPost_ret (v := .tuple #[.agg #[.int .i64 k, .string x, .int .i64 i], .int .i64 e]) (by simp [results, Tryz.results135, go_sem, q0, q1, q2]) rfl ⟨rfl, tokset HO1.out _ _ _⟩
end Go.Proofs.YtdbdbaepmdmnfaaGreatDoor

namespace Go.Proofs.YtdbdbaepmdmnfaaGreatDoor
open Go.RowKit
theorem takeWhile_mid {p : UInt8 → Bool} : ∀ {l : List UInt8} {i : Nat} {c : UInt8}, i < (l.takeWhile p).length → l[i]? = some c → p c = true
  | [], _, _, _, h => by simp at h
  | x :: l, i, c, hi, h => by
    rw [List.takeWhile_cons] at hi
    cases hx : p x with
    | false => rw [hx] at hi; simp at hi
    | true =>
      rw [hx] at hi
      cases i with
      | zero => cases h; exact hx
      | succ i => exact takeWhile_mid (l := l) (i := i) (by simpa using hi) h
theorem runTo_mid {p : UInt8 → Bool} {l : List UInt8} {k j : Nat} (h1 : k ≤ j) (h2 : j < runTo p l k) {c : UInt8} (hc : l[j]? = some c) : p c = true := by
  unfold runTo at h2
  refine takeWhile_mid (l := l.drop k) (i := j - k) (by omega) ?_
  rw [List.getElem?_drop, show k + (j - k) = j by omega]
  exact hc
def plainB (c : UInt8) : Bool := !((c.toNat : Int) == 34) && !((c.toNat : Int) == 10) && !((c.toNat : Int) == 92)
def letAt (l : List UInt8) (e : Nat) : Bool := match l[e]? with | some c => letB c | none => false
/-- The token behind a place, of texts without remarks, patterns and backslashes. -/
def nxAt (T : ByteArray) (l : List UInt8) (j : Nat) : Option TS :=
  match l[j]? with
  | none => if j = T.size then some ⟨j, endsB 1 [], 1, ⟨#[]⟩, j⟩ else none
  | some c =>
    if (c.toNat : Int) == 35 then none
    else if digB c then
      let e := runTo digB l j
      if e ≤ j + 18 ∧ letAt l e = false then some ⟨e, endsB 2 (T.extract j e).data.toList, 2, T.extract j e, j⟩ else none
    else if letB c then
      let e := runTo namB l j
      let x := T.extract j e
      let k := nameK x.data.toList l e
      some ⟨e, endsB k x.data.toList, k, x, j⟩
    else if (c.toNat : Int) == 34 then
      let q := runTo plainB l (j + 1)
      if isAt l q 34 = true then
        let x := ofB (cutL l (j + 1) q)
        some ⟨q + 1, endsB 3 x.data.toList, 3, x, j⟩
      else none
    else if (c.toNat : Int) == 47 then none
    else if j + 2 ≤ T.size ∧ dblB (T.extract j (j + 2)).data.toList = true then some ⟨j + 2, endsB 9 (T.extract j (j + 2)).data.toList, 9, T.extract j (j + 2), j⟩
    else if (j + 1 = T.size ∨ dblB (T.extract j (j + 2)).data.toList = false) ∧ sglB c = true then some ⟨j + 1, endsB 9 (T.extract j (j + 1)).data.toList, 9, T.extract j (j + 1), j⟩
    else none
def nxB (T : ByteArray) (s : TS) : Option TS := nxAt T T.data.toList (runTo blankB T.data.toList s.i)
theorem nx_tok (pb : Nat) (T : ByteArray) (s s' : TS) (h5 : T.size ≤ 65000) (hi : s.i ≤ T.size) (h : nxB T s = some s') : Nx pb T s s' := by
  unfold nxB at h
  have hjl : runTo blankB T.data.toList s.i ≤ T.size := by
    have := runTo_le (p := blankB) (l := T.data.toList) (k := s.i) (by rw [len_eq]; exact hi)
    rw [len_eq] at this
    exact this
  generalize hj : runTo blankB T.data.toList s.i = j at h hjl
  unfold nxAt at h
  dsimp only at h
  split at h
  · rename_i hn
    split at h
    · rename_i hjT
      cases h
      refine nx_of pb T s _ hi h5 hj (fun c hc => by rw [hn] at hc; cases hc) ?_ rfl
      show ReadsTo pb T j s.dv 1 ⟨#[]⟩ j
      rw [hjT]
      exact read_end pb T s.dv
    · cases h
  · rename_i c hc
    have hjs : j < T.size := by
      rcases Nat.lt_or_ge j T.size with h1 | h1
      · exact h1
      · rw [get_none T j h1] at hc; cases hc
    have hcj : T[j] = c := by
      rw [get_of_lt T j hjs] at hc
      exact Option.some.inj hc
    split at h
    · cases h
    · rename_i h35
      have hc35 : ∀ d, T.data.toList[j]? = some d → ((d.toNat : Int) == 35) = false := fun d hd => by
        rw [hc] at hd
        cases hd
        simpa using h35
      split at h
      · rename_i hdg
        split at h
        · rename_i hcond
          cases h
          refine nx_of pb T s _ hi h5 hj hc35 ?_ rfl
          exact read_number pb T j s.dv _ _ _ hjs (by rw [hcj]; exact hdg) (fun w hw => number_any pb T j s.dv (by omega) h5 hcond.1 (fun d hd => by
            have := hcond.2
            unfold letAt at this
            rw [hd] at this
            exact this) w hw)
        · cases h
      · rename_i hdg
        have hdg' : digB T[j] = false := by rw [hcj]; simpa using hdg
        split at h
        · rename_i hlt
          cases h
          refine nx_of pb T s _ hi h5 hj hc35 ?_ rfl
          exact read_name pb T j s.dv _ _ _ hjs hdg' (by rw [hcj]; exact hlt) (fun w hw => name_any pb T j s.dv (by omega) h5 w hw)
        · rename_i hlt
          have hlt' : letB T[j] = false := by rw [hcj]; simpa using hlt
          split at h
          · rename_i hqt
            split at h
            · rename_i hq
              cases h
              refine nx_of pb T s _ hi h5 hj hc35 ?_ rfl
              have hql := isAt_ltB hq
              rw [len_eq] at hql
              exact read_string pb T j s.dv _ _ _ hjs hdg' hlt' (by rw [hcj]; exact hqt) (fun w hw => quoted_plain pb T j s.dv (runTo plainB T.data.toList (j + 1)) (by have := runTo_ge plainB T.data.toList (j + 1); omega) hql h5 hq (fun m h1 h2 d hd => by
                have := runTo_mid h1 h2 hd
                unfold plainB at this
                simp only [Bool.and_eq_true, Bool.not_eq_true'] at this
                exact ⟨this.1.1, this.1.2, this.2⟩) w hw)
            · cases h
          · rename_i hqt
            have hqt' : ((T[j].toNat : Int) == 34) = false := by rw [hcj]; simpa using hqt
            split at h
            · cases h
            · rename_i hsl
              have hsl' : ((T[j].toNat : Int) == 47) = false := by rw [hcj]; simpa using hsl
              split at h
              · rename_i hd
                cases h
                refine nx_of pb T s _ hi h5 hj hc35 ?_ rfl
                exact read_sign pb T j s.dv _ _ _ hjs hdg' hlt' hqt' hsl' (fun w hw => sign_two pb T j s.dv hd.1 h5 hd.2 w hw)
              · split at h
                · rename_i hd
                  cases h
                  refine nx_of pb T s _ hi h5 hj hc35 ?_ rfl
                  exact read_sign pb T j s.dv _ _ _ hjs hdg' hlt' hqt' hsl' (fun w hw => sign_one pb T j s.dv hjs h5 hd.1 (by rw [hcj]; exact hd.2) w hw)
                · cases h
end Go.Proofs.YtdbdbaepmdmnfaaGreatDoor

namespace Go.Proofs.YtdbdbaepmdmnfaaGreatDoor
open Go.RowKit
theorem store_if (l : Value) (x : ByteArray) (r : Value) : IsIf (Is (storeT l x r)) := fun _ _ h => ⟨_, _, h⟩
def ix : ByteArray := ⟨#[105]⟩
def i2 : Value := nameV ix 24
def i3 : Value := nameV ix 33
def i4 : Value := nameV ix 48
def eqx : ByteArray := ⟨#[61]⟩
def f1 : Value := fieldT (numT 1)
/-- All levels of an operand of a comparison. -/
theorem joined_ofA (pb : Nat) (T : ByteArray) (ge : Bool) (s s' : TS) (V : World → Value → Prop) (hV : Stab pb V) (he : EndsA s') (hs : seen s [33] = false ∧ seen s [45] = false ∧ seen s [43] = false) (h1 : Reads 496 pb T ge s s' V) : Reads 425 pb T ge s s' V :=
  joined_rdA pb T ge s s' V hV he (sum_rdA pb T ge s s' V hV he (product_rdA pb T ge s s' V hV he (unary_rd pb T ge s s' V hs h1)))
/-- All levels of what is stored into. -/
theorem either_ofB (pb : Nat) (T : ByteArray) (ge : Bool) (s s' : TS) (V : World → Value → Prop) (hV : Stab pb V) (he : EndsB s') (hs : seen s [33] = false ∧ seen s [45] = false ∧ seen s [43] = false) (h1 : Reads 496 pb T ge s s' V) : Reads 182 pb T ge s s' V :=
  either_rdB pb T ge s s' V hV he (both_rdB pb T ge s s' V hV he (matched_rdB pb T ge s s' V hV he (compared_rdB pb T ge s s' V hV he (joined_ofA pb T ge s s' V hV he.a hs h1))))
end Go.Proofs.YtdbdbaepmdmnfaaGreatDoor

namespace Go.Proofs.YtdbdbaepmdmnfaaGreatDoor
open Go.RowKit
def nx : ByteArray := ⟨#[110]⟩
def kx : ByteArray := ⟨#[107]⟩
def xx : ByteArray := ⟨#[120]⟩
def f0 : Value := fieldT (numT 0)
def xk : Value := joinT (strT xx) (nameV kx 66)
end Go.Proofs.YtdbdbaepmdmnfaaGreatDoor

namespace Go.Proofs.YtdbdbaepmdmnfaaGreatDoor
open Go.RowKit
def NRx : ByteArray := ⟨#[78, 82]⟩
/-- The tree of the program's one block. -/
def nrV : Value := nameV NRx 12
def V2 (pb : Nat) : World → Value → Prop := BlockT pb 1 (fun _ => PrintL pb [nrV])
end Go.Proofs.YtdbdbaepmdmnfaaGreatDoor

namespace Go.Proofs.YtdbdbaepmdmnfaaGreatDoor
open Go.RowKit
set_option maxRecDepth 20000 in
set_option maxHeartbeats 4000000 in
/-- A rule for the beginning. -/
theorem rule_begin (pb : Nat) (T : ByteArray) (ge : Bool) (s s0 s1 : TS) (V : World → Value → Prop) (hS : IsSl V) (hV3 : Stab3 V) (hb : seen s [66, 69, 71, 73, 78] = true) (hn : Nx pb T s s0) (h1 : Reads 142 pb T ge s0 s1 V) (w : World) (h : PAt w pb T s ge) :
    Calls Tryz.prog 108 #[.pointer (some ⟨pb, 0, none⟩)] w fun en w' => ∃ v, en = .returned v ∧ RuleT 1 V w' v ∧ PAt w' pb T s1 ge ∧ Only (fun k => k = pb) w w' := by
  have hl := h.lt
  have hp0 := Reads.alloc_at h (.cells #[.int .i64 0, .slice none 0 0, .slice none 0 0] 102)
  have HPe := hide (passes_yes pb T s s0 ge ⟨#[66, 69, 71, 73, 78]⟩ hb hn _ hp0)
  have H1 := hide h1
  have HS := hide hS
  have HV3 := hide hV3
  clear h hb h1 hp0 hS hV3 hn
  go_enter Tryz.func108, Tryz.ntmps108
  go_wp2_with fail
  refine (HPe.out).mono ?_
  rintro en w1 ⟨rfl, hp1, ho1⟩
  have HB1 := hide (H1.out w1 hp1)
  have hz1 := ho1.size
  have HO1 := hide ho1
  clear hp1 ho1 H1
  simp at hz1
  go_wp2_with fail
  refine (HB1.out).mono ?_
  rintro en w2 ⟨u, rfl, hu, hp2, ho2⟩
  obtain ⟨po, n, cap, rfl⟩ := HS.out _ _ hu
  have hoA := HO1.out.trans ho2 (fun _ _ e => e)
  have hb2 := (hoA.block w.heap.size (by simp) (by intro e; omega)).trans (new0 w (.cells #[.int .i64 0, .slice none 0 0, .slice none 0 0] 102))
  have q0 : w2.cell? ⟨w.heap.size, 0, none⟩ = some (.int .i64 0) := cell_of hb2 rfl
  have q1 : w2.cell? ⟨w.heap.size, 1, none⟩ = some (.slice none 0 0) := cell_of hb2 rfl
  have q2 : w2.cell? ⟨w.heap.size, 2, none⟩ = some (.slice none 0 0) := cell_of hb2 rfl
  have qf := free_of hb2
  have Hu := hide hu
  have HP2 := hide hp2
  have HB2 := hide hb2
  have HO2 := hide (fromAlloc hoA)
  have hpn : pb ≠ w.heap.size := by omega
  clear hu hp2 ho2 hoA hb2 HPe HB1
  go_wp2
  refine bodyPost_ret (v := .agg #[.int .i64 1, .slice none 0 0, .slice po n cap]) (by simp [results, Tryz.results108, go_sem, q0, q1, q2]) rfl ⟨_, rfl, ⟨_, rfl, ?_⟩, ?_, ?_⟩
  · refine HV3.out _ _ _ (fun k => k = w.heap.size) Hu.out ((((Only.refl (fun k => k = w.heap.size) w2).setCell (p := ⟨w.heap.size, 0, none⟩) (fun _ => rfl) _).setCell (p := ⟨w.heap.size, 1, none⟩) (fun _ => rfl) _).setCell (p := ⟨w.heap.size, 2, none⟩) (fun _ => rfl) _) ?_
    rintro k rfl
    exact ⟨_, _, HB2.out, by decide, by decide⟩
  · show _ = _
    rw [Below.heap_setCell _ _ _ _ hpn, Below.heap_setCell _ _ _ _ hpn, Below.heap_setCell _ _ _ _ hpn]
    exact HP2.out
  · exact ((HO2.out.setCell (p := ⟨w.heap.size, 0, none⟩) (fun h => absurd h (Nat.lt_irrefl _)) _).setCell (p := ⟨w.heap.size, 1, none⟩) (fun h => absurd h (Nat.lt_irrefl _)) _).setCell (p := ⟨w.heap.size, 2, none⟩) (fun h => absurd h (Nat.lt_irrefl _)) _
end Go.Proofs.YtdbdbaepmdmnfaaGreatDoor

namespace Go.Proofs.YtdbdbaepmdmnfaaGreatDoor
open Go.RowKit
/-- The cells of n rules. -/
def rulesC (kd : Nat → Nat) (us : Nat → Value) (n : Nat) : List Value := (List.range n).flatMap fun i => [.int .i64 (kd i), .slice none 0 0, us i]
theorem rulesC_succ (kd : Nat → Nat) (us : Nat → Value) (n : Nat) : rulesC kd us (n + 1) = rulesC kd us n ++ [.int .i64 (kd n), .slice none 0 0, us n] := by
  unfold rulesC
  rw [List.range_succ, List.flatMap_append]
  simp
theorem rulesC_same (kd : Nat → Nat) (us vs : Nat → Value) (n : Nat) (h : ∀ i, i < n → us i = vs i) : rulesC kd us n = rulesC kd vs n := by
  induction n with
  | zero => rfl
  | succ n ih => rw [rulesC_succ, rulesC_succ, ih (fun i hi => h i (by omega)), h n (by omega)]
def putU (us : Nat → Value) (n : Nat) (u : Value) : Nat → Value := fun i => if i = n then u else us i
theorem rulesC_put (kd : Nat → Nat) (us : Nat → Value) (n : Nat) (u : Value) : rulesC kd (putU us n u) (n + 1) = rulesC kd us n ++ [.int .i64 (kd n), .slice none 0 0, u] := by
  rw [rulesC_succ, rulesC_same kd (putU us n u) us n (fun i hi => by unfold putU; rw [if_neg (by omega)])]
  unfold putU
  rw [if_pos rfl]
/-- A program of n rules. -/
def ProgN (n : Nat) (kd : Nat → Nat) (V : Nat → World → Value → Prop) : World → Value → Prop := fun w v => ∃ rs us, v = .agg #[.slice none 0 0, rs] ∧ w.ownsRow 0 102 3 rs n (rulesC kd us n) ∧ ∀ i, i < n → V i w (us i)
theorem own_row_at {w : World} {B : Nat} {e : TypeId} {z : Nat} {v : Value} {n : Nat} {xs : List Value} (h : w.ownsRow B e z v n xs) (k : Nat) (hk : v.ownBlock = some k) : ∃ c, w.heap[k]? = some (.cells c e (0, 0)) := by
  rcases h.2 with ⟨rfl, _⟩ | ⟨g, cap, cur, rfl, _, h3, _⟩
  · cases hk
  · cases hk
    exact ⟨cur, h3⟩
theorem own_zero {w : World} {B : Nat} {e : TypeId} {z : Nat} {v : Value} {n : Nat} {xs : List Value} (h : w.ownsRow B e z v n xs) : w.ownsRow 0 e z v n xs :=
  ⟨h.1, h.2.imp id (fun ⟨g, cap, cur, hv, _, r⟩ => ⟨g, cap, cur, hv, Nat.zero_le _, r⟩)⟩
def RulesAt (B n : Nat) (kd : Nat → Nat) (V : Nat → World → Value → Prop) (w : World) (rs : Value) : Prop := ∃ us, w.ownsRow B 102 3 rs n (rulesC kd us n) ∧ ∀ i, i < n → V i w (us i)
set_option maxRecDepth 20000 in
set_option maxHeartbeats 8000000 in
theorem program_n (pb : Nat) (T : ByteArray) (n : Nat) (hn1000 : n ≤ 1000) (S : Nat → TS) (kd : Nat → Nat) (V : Nat → World → Value → Prop) (hS : ∀ i, IsSl (V i)) (hV3 : ∀ i, Stab3 (V i)) (hk : ∀ i, i < n → ¬ (S i).k = 1) (hf : ∀ i, i < n → seen (S i) [102, 117, 110, 99, 116, 105, 111, 110] = false) (h1 : ∀ i, i < n → ∀ w, PAt w pb T (S i) false → Calls Tryz.prog 108 #[.pointer (some ⟨pb, 0, none⟩)] w fun en w' => ∃ v, en = .returned v ∧ RuleT (kd i) (V i) w' v ∧ PAt w' pb T (S (i + 1)) false ∧ Only (fun k => k = pb) w w') (hk1 : (S n).k = 1) (w : World) (h : PAt w pb T (S 0) false) :
    Calls Tryz.prog 74 #[.pointer (some ⟨pb, 0, none⟩)] w fun en w' => ∃ v, en = .returned v ∧ ProgN n kd V w' v ∧ PAt w' pb T (S n) false ∧ Only (fun k => k = pb) w w' := by
  obtain ⟨i0, hi0, hz0, hz1, hz2⟩ := info_parts info198
  have hl := h.lt
  have hp0 := Reads.alloc_at (Reads.alloc_at h (.cells #[.slice none 0 0, .slice none 0 0] 60)) (.cells #[.slice none 0 0, .slice none 0 0] 60)
  have r3 : w.cell? ⟨pb, 3, none⟩ = some (.int .i64 (S 0).k) := cell_of h rfl
  have HP0 := hide hp0
  have HF := hide hf
  have HK := hide hk
  have H1 := hide h1
  have HS := hide hS
  have HV3 := hide hV3
  have HK1 := hide hk1
  clear h hk hf h1 hS hV3 hp0 hk1
  go_enter Tryz.func74, Tryz.ntmps74
  go_wp2
  go_loopg [4] n (fun g _ wr => ∃ j rs, j + g = n ∧ wr.heap[w.heap.size + 1]? = some (.cells #[.slice none 0 0, rs] 60 (0, 0)) ∧ wr.heap[w.heap.size]? = some (.cells #[.slice none 0 0, .slice none 0 0] 60 (0, 0)) ∧ RulesAt w.heap.size j kd V wr rs ∧ PAt wr pb T (S j) false ∧ Only (fun k => k = pb) w wr)
  case atStart => exact ⟨0, .slice none 0 0, by omega, new_at2 (W := w.alloc (.cells #[.slice none 0 0, .slice none 0 0] 60)) (by simp) _, (Below.heap_alloc _ _ _ (by simp)).trans (new0 w _), ⟨fun _ => .slice none 0 0, World.ownsRow_nil _ _ _ _, fun i hi => absurd hi (by omega)⟩, HP0.out, fromAlloc (fromAlloc (Only.refl _ _))⟩
  case round =>
    obtain ⟨j, rs, hjg, hb3, hb4, ⟨us, hrow, hu⟩, hp, ho⟩ := hrel
    obtain ⟨pr, cr, rfl⟩ := ownsRow_slice hrow
    have c0 : wr.cell? ⟨w.heap.size + 1, 0, none⟩ = some (.slice none 0 0) := cell_of hb3 rfl
    have c1 : wr.cell? ⟨w.heap.size + 1, 1, none⟩ = some (.slice pr j cr) := cell_of hb3 rfl
    have hlw := hp.lt
    have hz1w := heap_lt hb3
    by_cases hj : j < n
    · have d1 : (((S j).k : Int) != 1) = true := by have := HK.out j hj; simp [bne]; omega
      have r3' : wr.cell? ⟨pb, 3, none⟩ = some (.int .i64 (S j).k) := cell_of hp rfl
      have HPf := hide (passes_no pb T (S j) false ⟨#[102, 117, 110, 99, 116, 105, 111, 110]⟩ (HF.out j hj) _ hp)
      have HC := hide (H1.out j hj wr.drew hp)
      have HRow := hide hrow
      have Hu := hide hu
      have HP := hide hp
      have HO := hide ho
      have HB3 := hide hb3
      have HB4 := hide hb4
      have HSj := hide (HS.out j)
      have hpn : pb ≠ w.heap.size + 1 := by omega
      have hne1 := own_tag hrow hb3 (by decide)
      have hne0 := own_tag hrow hb4 (by decide)
      have hnep := own_tag hrow hp (by decide)
      clear hrow hu hp ho hb3 hb4 HF HK H1 HP0 HK1
      go_wp2_with (go_at_call 106; refine (HPf.out).mono ?_; rintro en w1 ⟨rfl, hw1⟩; subst w1)
      go_region_law
        (first
          | (rw [if_pos (by simp [Region.wanted])]; go_simp; go_at_call 108; refine (HC.out).mono ?_; rintro en w2 ⟨u, rfl, ⟨x, rfl, hx⟩, hp2, ho2⟩; obtain ⟨po, m, cap, rfl⟩ := HSj.out _ _ hx; have hb2 := (ho2.block (w.heap.size + 1) hz1w (by intro e; omega)).trans HB3.out; have hb1 := (ho2.block w.heap.size (by show w.heap.size < wr.heap.size; omega) (by intro e; omega)).trans HB4.out; have hrw := ownsRow_of (w' := w2) HRow.out (fun k hk => ho2.block k (HRow.out.lt k hk).2 (fun e => hnep (by rw [hk, e]))); have q1 : w2.cell? ⟨w.heap.size + 1, 1, none⟩ = some (.slice pr j cr) := cell_of hb2 rfl; have hz2' : wr.heap.size ≤ w2.heap.size := ho2.size; have hz3 : w.heap.size + 1 < w2.heap.size := (by omega); have Hx := hide hx; have HP2 := hide hp2; have HO2 := hide ho2; have HB2 := hide hb2; have HB1 := hide hb1; have HRw := hide hrw; clear hx hp2 ho2 hb2 hb1 hrw)
          | (refine step_append_lies _ (by rfl) _ _ _ (by rfl) w.heap.size 102 i0 _ 3 56 Tryz.underlying58 hi0 hz0 hz1 hz2 rfl (by omega) (.slice pr j cr) j (rulesC kd us j) (by rfl) (HRw.out.alloc _) _ 1 1 [.int .i64 (kd j), .slice none 0 0, .slice po m cap] (by rfl) (by rfl) (World.news_of_block (cs := #[.int .i64 (kd j), .slice none 0 0, .slice po m cap]) (t := 102) (fr := (0, 0)) (new_at2 rfl _)) (by intro u hu; simp at hu; rcases hu with rfl | rfl | rfl <;> rfl) (by omega) (by unfold maxLen; omega) (by omega) (by simp; omega) _ rfl ?_; intro gg cap2 w3 hown1 hgrow hat hlt; have hb3 := (hgrow.block (w.heap.size + 1) (by simp; omega) hne1.symm).trans ((Below.heap_alloc _ _ _ (by omega)).trans HB2.out); have t1 : w3.cell? ⟨w.heap.size + 1, 1, none⟩ = some (.slice pr j cr) := cell_of hb3 rfl; have tf := free_of hb3; have HB3' := hide hb3; clear hb3))
      all_goals
        have hne := own_tag hown1 HB3'.out (by decide)
        have hB4 := hide ((hgrow.block w.heap.size (by simp; omega) hne0.symm).trans ((Below.heap_alloc _ _ _ (by omega)).trans HB1.out))
        have hp3 := hide ((hgrow.block pb (by simp; omega) hnep.symm).trans (Reads.alloc_at HP2.out _))
        have hog := hide ((Only.refl (fun q => (Value.slice pr j cr).ownBlock = some q) _).grown hgrow (fun q hq _ => hq))
        have hO3 := hide (((HO.out.trans (fromDrew HO2.out) (fun _ _ e => e)).alloc _).grown hgrow (fun q hq hlt => by have := (HRow.out.lt q hq).1; omega))
        have hrc : ∀ q, (Value.slice pr j cr).ownBlock = some q → ∃ c t, (w2.alloc (.cells #[.int .i64 (kd j), .slice none 0 0, .slice po m cap] 102)).heap[q]? = some (.cells c t (0, 0)) ∧ t ≠ 235 ∧ t ≠ 238 := fun q hq => by
          obtain ⟨c, hc⟩ := own_row_at (HRw.out.alloc _) q hq
          exact ⟨c, 102, hc, by decide, by decide⟩
        have hV4 := hide (HV3.out j _ _ _ _ (HV3.out j _ _ _ (fun _ => False) Hx.out (onlyA _ _) (fun _ e => e.elim)) hog.out hrc)
        have hV5 := hide (fun i (hi : i < j) => HV3.out i _ _ _ _ (HV3.out i _ _ _ (fun _ => False) (HV3.out i _ _ _ (fun k => k = pb) (Hu.out i hi) (fromDrew HO2.out) (by rintro k rfl; exact ⟨_, _, HP.out, by decide, by decide⟩)) (onlyA _ _) (fun _ e => e.elim)) hog.out hrc)
        have HOw := hide hown1
        clear hown1 hgrow hat hog hrc
        go_wp2
        go_roundg (n - (j + 1))
        case measure => omega
        case rel =>
          refine ⟨j + 1, .slice (some ⟨gg, 0, none⟩) (j + 1) cap2, by omega, heap_setCell_same HB3'.out _, ?_, ⟨putU us j (.slice po m cap), ?_, fun i hi => ?_⟩, ?_, ?_⟩
          · exact (Below.heap_setCell _ _ _ _ (by simp)).trans hB4.out
          · rw [rulesC_put]
            exact ownsRow_of HOw.out (fun k hk => Below.heap_setCell _ _ _ _ (fun e => hne (by rw [hk, e])))
          · refine HV3.out i w3 _ _ (fun k => k = w.heap.size + 1) ?_ ((Only.refl (fun k => k = w.heap.size + 1) w3).setCell (p := ⟨w.heap.size + 1, 1, none⟩) (fun _ => rfl) _) ?_
            · unfold putU
              split
              · rename_i he
                subst he
                exact hV4.out
              · exact hV5.out i (by omega)
            · rintro k rfl
              exact ⟨_, _, HB3'.out, by decide, by decide⟩
          · exact (Below.heap_setCell _ _ _ _ (by show pb ≠ w.heap.size + 1; omega)).trans hp3.out
          · exact hO3.out.setCell (p := ⟨w.heap.size + 1, 1, none⟩) (fun h => absurd h (by show ¬ (w.heap.size + 1 < w.heap.size); omega)) _
    · obtain rfl : j = n := by omega
      have r3' : wr.cell? ⟨pb, 3, none⟩ = some (.int .i64 1) := by have := cell_of hp (o := 3) rfl; rw [HK1.out] at this; exact this
      have g0 : wr.cell? ⟨w.heap.size, 0, none⟩ = some (.slice none 0 0) := cell_of hb4 rfl
      have g1 : wr.cell? ⟨w.heap.size, 1, none⟩ = some (.slice none 0 0) := cell_of hb4 rfl
      have gf := free_of hb4
      have HRow := hide hrow
      have Hu := hide hu
      have HP := hide hp
      have HO := hide ho
      have HB4 := hide hb4
      clear hrow hu hp ho hb3 hb4 HF HK H1 HP0 HK1 hjg
      go_wp2
      have hpn : pb ≠ w.heap.size := by omega
      refine bodyPost_ret (v := .agg #[.slice none 0 0, .slice pr j cr]) (by simp [results, Tryz.results74, go_sem, g0, g1]) rfl ⟨_, rfl, ⟨.slice pr j cr, us, rfl, ?_, fun i hi => ?_⟩, ?_, ?_⟩
      · have hne := own_tag HRow.out HB4.out (by decide)
        exact ownsRow_of (own_zero HRow.out) (fun k hk => (Below.heap_setCell _ _ _ _ (fun e => hne (by rw [hk, e]))).trans (Below.heap_setCell _ _ _ _ (fun e => hne (by rw [hk, e]))))
      · refine HV3.out i _ _ _ (fun k => k = w.heap.size) (Hu.out i hi) (((Only.refl (fun k => k = w.heap.size) wr).setCell (p := ⟨w.heap.size, 0, none⟩) (fun _ => rfl) _).setCell (p := ⟨w.heap.size, 1, none⟩) (fun _ => rfl) _) ?_
        rintro k rfl
        exact ⟨_, _, HB4.out, by decide, by decide⟩
      · exact (Below.heap_setCell _ _ _ _ hpn).trans ((Below.heap_setCell _ _ _ _ hpn).trans HP.out)
      · exact (HO.out.setCell (p := ⟨w.heap.size, 0, none⟩) (fun h => absurd h (Nat.lt_irrefl _)) _).setCell (p := ⟨w.heap.size, 1, none⟩) (fun h => absurd h (Nat.lt_irrefl _)) _
end Go.Proofs.YtdbdbaepmdmnfaaGreatDoor

namespace Go.Proofs.YtdbdbaepmdmnfaaGreatDoor
open Go.RowKit
theorem progN_only {n : Nat} {kd : Nat → Nat} {V : Nat → World → Value → Prop} (hV3 : ∀ i, Stab3 (V i)) {w w' : World} {v : Value} {D : Nat → Prop} (h : ProgN n kd V w v) (ho : Only D w w') (hD : ∀ k, D k → ∃ c t, w.heap[k]? = some (.cells c t (0, 0)) ∧ t ≠ 235 ∧ t ≠ 238 ∧ t ≠ 102) : ProgN n kd V w' v := by
  obtain ⟨rs, u, rfl, hr, hu⟩ := h
  refine ⟨rs, u, rfl, ownsRow_of hr (fun k hk => ho.block k (hr.lt k hk).2 (fun e => ?_)), fun i hi => hV3 i _ _ _ D (hu i hi) ho (fun k hk => ?_)⟩
  · obtain ⟨c, t, h1, _, _, h4⟩ := hD k e
    exact own_tag hr h1 (Ne.symm h4) hk
  · obtain ⟨c, t, h1, h2, h3, _⟩ := hD k hk
    exact ⟨c, t, h1, h2, h3⟩
set_option maxRecDepth 20000 in
set_option maxHeartbeats 4000000 in
theorem read_n (T : ByteArray) (n : Nat) (kd : Nat → Nat) (V : Nat → Nat → World → Value → Prop) (hV3 : ∀ pb i, Stab3 (V pb i)) (s s1 : TS) (hn : ∀ pb, Nx pb T ts0 s) (hp : ∀ pb w, PAt w pb T s false → Calls Tryz.prog 74 #[.pointer (some ⟨pb, 0, none⟩)] w fun en w' => ∃ v, en = .returned v ∧ ProgN n kd (V pb) w' v ∧ PAt w' pb T s1 false ∧ Only (fun k => k = pb) w w') (w : World) :
    Calls Tryz.prog 45 #[.string T] w fun en w' => ∃ pb v, en = .returned (.tuple #[v, .int .i64 0, .bool true]) ∧ ProgN n kd (V pb) w' v ∧ Only (fun _ => False) w w' := by
  have hmf : ∀ (fn : Fn) (first cap : Array Value) (w : World), (Instr.makeFunc fn first cap).run Tryz.prog w = .ok (.func fn first cap) w := fun _ _ _ _ => rfl
  have HR := hide (newReader T (((w.alloc (.cells #[.slice none 0 0, .slice none 0 0] 60)).alloc (.cells #[.int .i64 0] 3)).alloc (.cells #[.bool false] 4)))
  have HN := hide hn
  have HPr := hide hp
  have HV3 := hide hV3
  clear hn hp hV3
  go_enter_defers Tryz.func45, Tryz.ntmps45
  go_wp2_with fail
  refine (HR.out).mono ?_
  rintro en w1 ⟨rfl, ho1⟩
  have hz1 : w.heap.size + 3 ≤ w1.heap.size := by have := ho1.size; simpa using this
  have HA : Hid (PAt (w1.alloc (.cells #[.string T, .int .i64 0, .bool false, .int .i64 0, .string ⟨#[]⟩, .int .i64 0, .bool false] 154)) w1.heap.size T ts0 false) := heap_alloc_new _ _
  have HO1 := hide ho1
  have HC := hide ((HN.out w1.heap.size).on HA.out)
  clear ho1 HR
  go_wp2_with fail
  refine (HC.out).mono ?_
  rintro en w2 ⟨rfl, hp2, ho2⟩
  have HP := hide (HPr.out _ _ hp2)
  have HO2 := hide ho2
  clear hp2 ho2 HC
  go_wp2_with fail
  refine (HP.out).mono ?_
  rintro en w3 ⟨v, rfl, hpt, hp3, ho3⟩
  have hz2 : w1.heap.size + 1 ≤ w2.heap.size := by have := HO2.out.size; simpa using this
  have hz3 := ho3.size
  have kb : ∀ k, k < w.heap.size + 3 → w3.heap[k]? = (((w.alloc (.cells #[.slice none 0 0, .slice none 0 0] 60)).alloc (.cells #[.int .i64 0] 3)).alloc (.cells #[.bool false] 4)).heap[k]? := fun k hk => by
    refine (ho3.block k (by omega) (by omega)).trans ((HO2.out.block k (by simp; omega) (by omega)).trans ((Below.heap_alloc _ _ _ (by omega)).trans (HO1.out.block k (by simp; omega) (fun e => e))))
  have hb0 : w3.heap[w.heap.size]? = some (.cells #[.slice none 0 0, .slice none 0 0] 60 (0, 0)) := (kb _ (by omega)).trans ((Below.heap_alloc _ _ _ (by simp <;> omega)).trans ((Below.heap_alloc _ _ _ (by simp <;> omega)).trans (new0 w _)))
  have hb1 : w3.heap[w.heap.size + 1]? = some (.cells #[.int .i64 0] 3 (0, 0)) := (kb _ (by omega)).trans ((Below.heap_alloc _ _ _ (by simp <;> omega)).trans (new_at2 (W := w.alloc _) (by simp <;> omega) _))
  have hb2 : w3.heap[w.heap.size + 1 + 1]? = some (.cells #[.bool false] 4 (0, 0)) := (kb _ (by omega)).trans (new_at2 (W := (w.alloc _).alloc _) (by simp <;> omega) _)
  obtain ⟨rs, u, rfl, hr, hu⟩ := hpt
  obtain ⟨pr, cr, rfl⟩ := ownsRow_slice hr
  have c0 : w3.cell? ⟨w.heap.size, 0, none⟩ = some (.slice none 0 0) := cell_of hb0 rfl
  have c1 : w3.cell? ⟨w.heap.size, 1, none⟩ = some (.slice none 0 0) := cell_of hb0 rfl
  have c2 : w3.cell? ⟨w.heap.size + 1, 0, none⟩ = some (.int .i64 0) := cell_of hb1 rfl
  have c3 : w3.cell? ⟨w.heap.size + 1 + 1, 0, none⟩ = some (.bool false) := cell_of hb2 rfl
  have f0 := free_of hb0
  have f1 := free_of hb1
  have f2 := free_of hb2
  have HPT := hide (show ProgN n kd (V w1.heap.size) w3 (.agg #[.slice none 0 0, .slice pr n cr]) from ⟨_, u, rfl, hr, hu⟩)
  have HB := hide (show _ ∧ _ ∧ _ from ⟨hb0, hb1, hb2⟩)
  have HOa : Hid (Only (fun _ => False) w w3) := by
    refine ((fromAlloc (fromAlloc (fromAlloc HO1.out))).alloc _).trans (E := fun k => k = w1.heap.size) (HO2.out.trans ho3 (fun _ _ e => e)) (fun i hi e => ?_)
    omega
  clear hr hu hb0 hb1 hb2 kb hp3 ho3 HP HO2 HO1
  go_wp2
  refine leaves_cons (f := 71) (args := #[.pointer (some ⟨w.heap.size, 0, none⟩), .pointer (some ⟨w.heap.size + 1, 0, none⟩), .pointer (some ⟨w.heap.size + 1 + 1, 0, none⟩)]) (by simp) (by simp [go_sem]) ?_
  refine (catch_idle _ _ _ _).mono ?_
  rintro e u' w'' ⟨rfl, rfl, rfl⟩
  refine ⟨.tuple #[.agg #[.slice none 0 0, .slice pr n cr], .int .i64 0, .bool true], ?_, w1.heap.size, _, rfl, ?_, ?_⟩
  · simp [results, Tryz.results45, go_sem, c0, c1, c2, c3]
  · obtain ⟨hb0, hb1, hb2⟩ := HB.out
    refine progN_only (HV3.out _) (D := fun k => k = w.heap.size ∨ k = w.heap.size + 1 ∨ k = w.heap.size + 1 + 1) HPT.out (((((Only.refl _ w3).setCell (p := ⟨w.heap.size, 0, none⟩) (fun _ => Or.inl rfl) _).setCell (p := ⟨w.heap.size, 1, none⟩) (fun _ => Or.inl rfl) _).setCell (p := ⟨w.heap.size + 1, 0, none⟩) (fun _ => Or.inr (Or.inl rfl)) _).setCell (p := ⟨w.heap.size + 1 + 1, 0, none⟩) (fun _ => Or.inr (Or.inr rfl)) _) ?_
    rintro k (rfl | rfl | rfl)
    · exact ⟨_, _, hb0, by decide, by decide, by decide⟩
    · exact ⟨_, _, hb1, by decide, by decide, by decide⟩
    · exact ⟨_, _, hb2, by decide, by decide, by decide⟩
  · exact (((HOa.out.setCell (p := ⟨w.heap.size, 0, none⟩) (fun h => absurd h (Nat.lt_irrefl _)) _).setCell (p := ⟨w.heap.size, 1, none⟩) (fun h => absurd h (Nat.lt_irrefl _)) _).setCell (p := ⟨w.heap.size + 1, 0, none⟩) (fun h => absurd h (by show ¬ (w.heap.size + 1 < w.heap.size); omega)) _).setCell (p := ⟨w.heap.size + 1 + 1, 0, none⟩) (fun h => absurd h (by show ¬ (w.heap.size + 1 + 1 < w.heap.size); omega)) _
end Go.Proofs.YtdbdbaepmdmnfaaGreatDoor

namespace Go.Proofs.YtdbdbaepmdmnfaaGreatDoor
open Go.RowKit
/-- The token at the head of a rest: its length, kind and text. -/
def tokR (r : List UInt8) : Option (Nat × Nat × List UInt8) :=
  match r with
  | [] => some (0, 1, [])
  | c :: r' =>
    if (c.toNat : Int) == 35 then none
    else if digB c then
      let n := ((c :: r').takeWhile digB).length
      if n ≤ 18 ∧ letAt (c :: r') n = false then some (n, 2, (c :: r').take n) else none
    else if letB c then
      let n := ((c :: r').takeWhile namB).length
      let x := (c :: r').take n
      some (n, nameK x (c :: r') n, x)
    else if (c.toNat : Int) == 34 then
      let q := (r'.takeWhile plainB).length
      if isAt r' q 34 = true then some (q + 2, 3, r'.take q) else none
    else if (c.toNat : Int) == 47 then none
    else if 1 ≤ r'.length ∧ dblB ((c :: r').take 2) = true then some (2, 9, (c :: r').take 2)
    else if (r' = [] ∨ dblB ((c :: r').take 2) = false) ∧ sglB c = true then some (1, 9, [c])
    else none
def nxR (r : List UInt8) : Option (Nat × Nat × Nat × List UInt8) :=
  match tokR (r.drop (r.takeWhile blankB).length) with
  | some t => some ((r.takeWhile blankB).length, t)
  | none => none
theorem ext_take (T : ByteArray) (j n : Nat) : (T.extract j (j + n)).data.toList = (T.data.toList.drop j).take n := by
  simp [ByteArray.data_extract, Array.toList_extract]
theorem ext_ofB (T : ByteArray) (j n : Nat) : T.extract j (j + n) = ofB ((T.data.toList.drop j).take n) := by
  have h := ext_take T j n
  unfold ofB
  rw [← h]
theorem isAt_drop (l : List UInt8) (j n : Nat) (c : Int) : isAt l (j + n) c = isAt (l.drop j) n c := by
  unfold isAt
  rw [List.getElem?_drop]
theorem letAt_drop (l : List UInt8) (j n : Nat) : letAt l (j + n) = letAt (l.drop j) n := by
  unfold letAt
  rw [List.getElem?_drop]
theorem nameK_drop (x l : List UInt8) (j n : Nat) : nameK x l (j + n) = nameK x (l.drop j) n := by
  unfold nameK
  rw [isAt_drop]
theorem nx_rest (pb : Nat) (T : ByteArray) (s : TS) (b n k : Nat) (x : List UInt8) (h5 : T.size ≤ 65000) (hi : s.i ≤ T.size) (h : nxR (T.data.toList.drop s.i) = some (b, n, k, x)) : Nx pb T s ⟨s.i + b + n, endsB k x, k, ofB x, s.i + b⟩ := by
  refine nx_tok pb T s _ h5 hi ?_
  unfold nxR at h
  split at h
  · rename_i t ht
    cases h
    unfold nxB
    have hr : runTo blankB T.data.toList s.i = s.i + ((T.data.toList.drop s.i).takeWhile blankB).length := rfl
    rw [hr]
    generalize hb : ((T.data.toList.drop s.i).takeWhile blankB).length = b at ht ⊢
    have hbl : s.i + b ≤ T.size := by
      have h1 : b ≤ (T.data.toList.drop s.i).length := by rw [← hb]; exact (List.takeWhile_sublist _).length_le
      rw [List.length_drop, len_eq] at h1
      omega
    rw [List.drop_drop] at ht
    generalize hj : s.i + b = j at ht hbl ⊢
    have hg : T.data.toList[j]? = (T.data.toList.drop j)[0]? := by rw [List.getElem?_drop]; rfl
    have hlen : (T.data.toList.drop j).length = T.size - j := by rw [List.length_drop, len_eq]
    have e1 : ∀ p : UInt8 → Bool, runTo p T.data.toList j = j + ((T.data.toList.drop j).takeWhile p).length := fun p => rfl
    have e2 : ∀ p : UInt8 → Bool, runTo p T.data.toList (j + 1) = j + 1 + (((T.data.toList.drop j).drop 1).takeWhile p).length := fun p => by rw [List.drop_drop]; rfl
    unfold nxAt
    unfold tokR at ht
    dsimp only
    rw [hg, e1, e1, e2]
    split at ht
    · rename_i hn
      cases ht
      rw [hn]
      rw [hn] at hlen
      have : j = T.size := by simp at hlen; omega
      simp [this, ofB]
    · rename_i c r' hn
      rw [hn] at hlen
      have hjs : j + 1 + r'.length = T.size := by simp at hlen; omega
      rw [ext_take, ext_take, ext_take, ext_take, ext_ofB, ext_ofB, ext_ofB, ext_ofB, isAt_drop, letAt_drop, nameK_drop, hn]
      simp only [List.getElem?_cons_zero]
      have hcut : ∀ q, cutL T.data.toList (j + 1) (j + 1 + q) = r'.take q := fun q => by
        unfold cutL
        rw [show T.data.toList.drop (j + 1) = r' by rw [← List.drop_drop, hn]; rfl, show j + 1 + q - (j + 1) = q by omega]
      have hd1 : T.data.toList.drop (j + 1) = r' := by rw [← List.drop_drop, hn]; rfl
      cases h35 : ((c.toNat : Int) == 35) with
      | true => rw [h35] at ht; simp at ht
      | false =>
      rw [h35] at ht
      simp only [Bool.false_eq_true, if_false] at ht ⊢
      cases hdg : digB c with
      | true =>
        rw [hdg] at ht
        simp only [if_true] at ht ⊢
        split at ht
        · rename_i hc
          cases ht
          rw [if_pos ⟨by omega, hc.2⟩]
        · cases ht
      | false =>
      rw [hdg] at ht
      simp only [Bool.false_eq_true, if_false] at ht ⊢
      cases hlt : letB c with
      | true =>
        rw [hlt] at ht
        simp only [if_true] at ht ⊢
        cases ht
        rfl
      | false =>
      rw [hlt] at ht
      simp only [Bool.false_eq_true, if_false] at ht ⊢
      cases hqt : ((c.toNat : Int) == 34) with
      | true =>
        rw [hqt] at ht
        simp only [if_true] at ht ⊢
        rw [show (c :: r').drop 1 = r' from rfl, hd1, hcut]
        split at ht
        · rename_i hc
          cases ht
          rw [if_pos hc, show j + 1 + (r'.takeWhile plainB).length + 1 = j + ((r'.takeWhile plainB).length + 2) by omega]
          rfl
        · cases ht
      | false =>
      rw [hqt] at ht
      simp only [Bool.false_eq_true, if_false] at ht ⊢
      cases hsl : ((c.toNat : Int) == 47) with
      | true => rw [hsl] at ht; simp at ht
      | false =>
      rw [hsl] at ht
      simp only [Bool.false_eq_true, if_false] at ht ⊢
      split at ht
      · rename_i hc
        cases ht
        rw [if_pos ⟨by omega, hc.2⟩]
      · rename_i hc
        rw [if_neg (fun h => hc ⟨by omega, h.2⟩)]
        split at ht
        · rename_i hc2
          cases ht
          rw [if_pos ⟨hc2.1.imp (fun h => by rw [h] at hjs; simpa using hjs) id, hc2.2⟩]
          rfl
        · cases ht
  · cases h
end Go.Proofs.YtdbdbaepmdmnfaaGreatDoor

namespace Go.Proofs.YtdbdbaepmdmnfaaGreatDoor
open Go.RowKit
set_option maxRecDepth 10000 in
set_option maxHeartbeats 8000000 in
/-- A backslash and an n stand for a newline. -/
theorem escaped_n (b : Nat) (T : ByteArray) (i : Nat) (dv : Bool) (at' : Nat) (hq : at' < T.size) (hn : T[at'] = 110) (w : World) (h : TkAt w b T i dv) :
    Calls Tryz.prog 242 #[.pointer (some ⟨b, 0, none⟩), .int .i64 at'] w fun en w' => en = .returned (.tuple #[.int .u8 10, .bool true]) ∧ w' = w := by
  obtain ⟨c0, c1, c2⟩ := h
  have hli : (at' : Int) < (T.size : Int) := by omega
  have hne : ¬ (at' : Int) = (T.size : Int) := by omega
  have hnn : (T[at'].toNat : Int) = 110 := by rw [hn]; rfl
  go_enter Tryz.func242, Tryz.ntmps242
  go_wp2
  exact bodyPost_ret (v := .tuple #[.int .u8 10, .bool true]) (by simp [results, Tryz.results242, go_sem]) rfl ⟨rfl, rfl⟩
set_option maxRecDepth 10000 in
set_option maxHeartbeats 8000000 in
/-- The string "\n". -/
theorem quoted_nl (b : Nat) (T : ByteArray) (i : Nat) (dv : Bool) (hq : i + 3 < T.size) (h5 : T.size ≤ 65000) (h1 : T[i + 1]'(by omega) = 92) (h2 : T[i + 2]'(by omega) = 110) (h3 : T[i + 3] = 34) (w : World) (h : TkAt w b T i dv) :
    Calls Tryz.prog 177 #[.pointer (some ⟨b, 0, none⟩)] w fun en w' => en = .returned (.tuple #[tokV 3 (ofB [10]) i, .int .i64 ((i + 4 : Nat) : Int)]) ∧ Only (fun _ => False) w w' := by
  obtain ⟨i0, hi0, hz0, hz1, hz2⟩ := info_parts info5t
  have hl := h.lt
  have HT := hide h
  obtain ⟨c0, c1, c2⟩ := h
  obtain ⟨X, HX⟩ : ∃ X, Hid (X = ofB [10]) := ⟨_, rfl⟩
  rw [← HX.out]
  unfold tokV
  go_enter Tryz.func177, Tryz.ntmps177
  go_wp2
  go_loopw [4, 5] (fun s4 s5 wr => ∃ (k : Nat) (M : List UInt8), s5 = .int .i64 k ∧ ((k = i + 1 ∧ M = []) ∨ (k = i + 3 ∧ M = [10])) ∧ wr.ownsRow (w.heap.size + 1) 5 1 s4 M.length (M.map byV) ∧ Only (fun _ => False) (w.alloc (.cells #[.int .i64 0, .string ⟨#[]⟩, .int .i64 0] 152)) wr) (fun _ s5 _ => T.size - (intOf s5).toNat)
  case atStart => exact ⟨i + 1, [], by go_num, Or.inl ⟨rfl, rfl⟩, World.ownsRow_nil _ _ _ _, Only.refl _ _⟩
  case round =>
    obtain ⟨k, M, rfl, hkM, hown, ho⟩ := hrel
    have hzw : w.heap.size + 1 ≤ wr.heap.size := by have := ho.size; simpa using this
    have HTo : Hid (TkAt wr b T i dv) := (HT.out.alloc hl (.cells #[.int .i64 0, .string ⟨#[]⟩, .int .i64 0] 152)).only ho (fun e => e)
    obtain ⟨b0, b1, b2⟩ := HTo.out
    obtain ⟨HO1, q0, q1, q2, qf⟩ := tokbox (n := 0) ho
    have HOw := hide hown
    have HO := hide ho
    clear hown ho
    rcases hkM with ⟨hk, rfl⟩ | ⟨hk, rfl⟩
    · have hks : k + 1 < T.size := by omega
      have hkl : k < T.size := by omega
      have hli : (k : Int) < (T.size : Int) := by omega
      have d1 : ((T[k]'hkl).toNat : Int) = 92 := by
        have : T[k]'hkl = 92 := by simp only [hk]; exact h1
        rw [this]; rfl
      have HE : ∀ W, TkAt W b T i dv → Hid (Calls Tryz.prog 242 #[.pointer (some ⟨b, 0, none⟩), .int .i64 ((k : Int) + 1)] W fun en w' => en = .returned (.tuple #[.int .u8 10, .bool true]) ∧ w' = W) := fun W hW => escaped_n b T i dv (k + 1) hks (by simp only [hk]; exact h2) W hW
      have HK := hide hk
      clear hk h1 h2 h3
      go_wp2_with (first | (go_at_call 242; refine ((HE _ (by first | exact HTo.out | exact HTo.out.drewN _)).out).mono ?_; rintro e w' ⟨rfl, rfl⟩) | (at_builtin; refine wpList_append_own _ rfl (.tmp 62) (.tmp 64) 54 rfl (w.heap.size + 1) 5 i0 (.int .u8 0) 1 1 Tryz.underlying54 hi0 hz0 hz1 hz2 rfl (by decide) _ _ _ rfl (HOw.out.alloc _) _ 1 1 [.int .u8 10] rfl rfl (news_one' _ _ _) (fun u hu => by simp at hu; subst hu; rfl) (by unfold maxLen; simp) (by simp) (by simp; omega) ?_; intro v' w3 hown' hgrow _))
      have R2 : Hid (Only (fun _ => False) (w.alloc (.cells #[.int .i64 0, .string ⟨#[]⟩, .int .i64 0] 152)) w3) := (HO.out.alloc _).grown hgrow (fun k hk hlt => by have := (HOw.out.lt k hk).1; simp at hlt; omega)
      have R1 : Hid (w3.ownsRow (w.heap.size + 1) 5 1 v' [(10 : UInt8)].length ([(10 : UInt8)].map byV)) := hown'
      clear hown' hgrow
      go_wp2
      go_roundw
      case rel => exact ⟨k + 2, [10], by go_num, Or.inr ⟨by have := HK.out; omega, rfl⟩, R1.out, R2.out⟩
      case measure => simp [intOf]; omega
    · have hkl : k < T.size := by omega
      have hli : (k : Int) < (T.size : Int) := by omega
      have d1 : ((T[k]'hkl).toNat : Int) = 34 := by
        have : T[k]'hkl = 34 := by simp only [hk]; exact h3
        rw [this]; rfl
      have kc := bytes_conv (w := wr.drew) (show wr.drew.ownsRow _ _ _ _ _ _ from HOw.out)
      rw [← HX.out] at kc
      have HK := hide hk
      clear hk h1 h2 h3
      go_wp2
      go_region
      all_goals
        go_wp2
        refine bodyPost_ret (v := .tuple #[.agg #[.int .i64 3, .string X, .int .i64 i], .int .i64 ((k : Int) + 1)]) (by simp [results, Tryz.results177, go_sem, q0, q1, q2]) rfl ⟨by rw [HK.out]; rfl, ?_⟩
        exact (tokset HO1.out _ _ _).drewN 1
end Go.Proofs.YtdbdbaepmdmnfaaGreatDoor

namespace Go.Proofs.YtdbdbaepmdmnfaaGreatDoor
open Go.RowKit
def preR : List UInt8 := [66, 69, 71, 73, 78, 32, 123, 32, 70, 83, 32, 61, 32, 34, 92, 110, 34, 32, 125, 32, 123, 32, 110, 32, 61, 32, 103, 115, 117, 98, 40, 34]
def sufR : List UInt8 := [34, 44, 32, 34, 34, 41, 59, 32, 112, 114, 105, 110, 116, 32, 110, 59, 32, 112, 114, 105, 110, 116, 32, 125]
/-- The text of the program, with a pattern in it. -/
def TR (S : List UInt8) : ByteArray := ofB (preR ++ (S ++ sufR))
theorem TR_list (S : List UInt8) : (TR S).data.toList = preR ++ (S ++ sufR) := rfl
theorem TR_size (S : List UInt8) : (TR S).size = S.length + 56 := by
  rw [← len_eq, TR_list]
  simp [preR, sufR]
theorem TR_drop (S : List UInt8) (d : Nat) : (TR S).data.toList.drop (32 + S.length + d) = sufR.drop d := by
  rw [TR_list, ← List.drop_drop, ← List.drop_drop, show (preR ++ (S ++ sufR)).drop 32 = S ++ sufR from rfl, List.drop_left]
def gr_0 : TS := ⟨5, false, 7, ofB [66, 69, 71, 73, 78], 0⟩
def gr_1 : TS := ⟨7, false, 9, ofB [123], 6⟩
def gr_2 : TS := ⟨10, true, 5, ofB [70, 83], 8⟩
def gr_3 : TS := ⟨12, false, 9, ofB [61], 11⟩
def gr_4 : TS := ⟨17, true, 3, ofB [10], 13⟩
def gr_5 : TS := ⟨19, false, 9, ofB [125], 18⟩
def gr_6 : TS := ⟨21, false, 9, ofB [123], 20⟩
def gr_7 : TS := ⟨23, true, 5, ofB [110], 22⟩
def gr_8 : TS := ⟨25, false, 9, ofB [61], 24⟩
def gr_9 : TS := ⟨30, false, 8, ofB [103, 115, 117, 98], 26⟩
def gr_10 : TS := ⟨31, false, 9, ofB [40], 30⟩
def gr_11 (S : List UInt8) : TS := ⟨33 + S.length, true, 3, ofB S, 31⟩
def gr_12 (m : Nat) : TS := ⟨34 + m, false, 9, ofB [44], 33 + m⟩
def gr_13 (m : Nat) : TS := ⟨37 + m, true, 3, ofB [], 35 + m⟩
def gr_14 (m : Nat) : TS := ⟨38 + m, true, 9, ofB [41], 37 + m⟩
def gr_15 (m : Nat) : TS := ⟨39 + m, false, 9, ofB [59], 38 + m⟩
def gr_16 (m : Nat) : TS := ⟨45 + m, false, 7, ofB [112, 114, 105, 110, 116], 40 + m⟩
def gr_17 (m : Nat) : TS := ⟨47 + m, true, 5, ofB [110], 46 + m⟩
def gr_18 (m : Nat) : TS := ⟨48 + m, false, 9, ofB [59], 47 + m⟩
def gr_19 (m : Nat) : TS := ⟨54 + m, false, 7, ofB [112, 114, 105, 110, 116], 49 + m⟩
def gr_20 (m : Nat) : TS := ⟨56 + m, false, 9, ofB [125], 55 + m⟩
def gr_21 (m : Nat) : TS := ⟨56 + m, false, 1, ofB [], 56 + m⟩
theorem gn_0 (pb : Nat) (S : List UInt8) (hm : S.length ≤ 100) (s : TS) (hs : s.i = 0) : Nx pb (TR S) s gr_0 := by
  have h := nx_rest pb (TR S) s 0 5 7 [66, 69, 71, 73, 78] (by rw [TR_size]; omega) (by omega) (by rw [hs]; kernel_rfl)
  rw [hs] at h
  exact h
theorem gn_1 (pb : Nat) (S : List UInt8) (hm : S.length ≤ 100) : Nx pb (TR S) gr_0 gr_1 := nx_rest pb (TR S) gr_0 1 1 9 [123] (by rw [TR_size]; omega) (by rw [TR_size]; show 5 ≤ _; omega) (by kernel_rfl)
theorem gn_2 (pb : Nat) (S : List UInt8) (hm : S.length ≤ 100) : Nx pb (TR S) gr_1 gr_2 := nx_rest pb (TR S) gr_1 1 2 5 [70, 83] (by rw [TR_size]; omega) (by rw [TR_size]; show 7 ≤ _; omega) (by kernel_rfl)
theorem gn_3 (pb : Nat) (S : List UInt8) (hm : S.length ≤ 100) : Nx pb (TR S) gr_2 gr_3 := nx_rest pb (TR S) gr_2 1 1 9 [61] (by rw [TR_size]; omega) (by rw [TR_size]; show 10 ≤ _; omega) (by kernel_rfl)
theorem byte_at (T : ByteArray) (j : Nat) (h : j < T.size) (c : UInt8) (hc : T.data.toList[j]? = some c) : T[j] = c := by
  rw [get_of_lt T j h] at hc
  exact Option.some.inj hc
theorem gn_4 (pb : Nat) (S : List UInt8) (hm : S.length ≤ 100) : Nx pb (TR S) gr_3 gr_4 := by
  have hz := TR_size S
  refine nx_of pb (TR S) gr_3 gr_4 (by rw [hz]; show 12 ≤ _; omega) (by omega) (by kernel_rfl) (fun c hc => by cases hc; rfl) ?_ rfl
  have b13 := byte_at (TR S) 13 (by omega) 34 rfl
  exact read_string pb (TR S) 13 gr_3.dv _ _ _ (by omega) (by rw [b13]; rfl) (by rw [b13]; rfl) (by rw [b13]; rfl) (fun w hw => quoted_nl pb (TR S) 13 gr_3.dv (by omega) (by omega) (byte_at (TR S) 14 _ 92 rfl) (byte_at (TR S) 15 _ 110 rfl) (byte_at (TR S) 16 _ 34 rfl) w hw)
theorem gn_5 (pb : Nat) (S : List UInt8) (hm : S.length ≤ 100) : Nx pb (TR S) gr_4 gr_5 := nx_rest pb (TR S) gr_4 1 1 9 [125] (by rw [TR_size]; omega) (by rw [TR_size]; show 17 ≤ _; omega) (by kernel_rfl)
theorem gn_6 (pb : Nat) (S : List UInt8) (hm : S.length ≤ 100) : Nx pb (TR S) gr_5 gr_6 := nx_rest pb (TR S) gr_5 1 1 9 [123] (by rw [TR_size]; omega) (by rw [TR_size]; show 19 ≤ _; omega) (by kernel_rfl)
theorem gn_7 (pb : Nat) (S : List UInt8) (hm : S.length ≤ 100) : Nx pb (TR S) gr_6 gr_7 := nx_rest pb (TR S) gr_6 1 1 5 [110] (by rw [TR_size]; omega) (by rw [TR_size]; show 21 ≤ _; omega) (by kernel_rfl)
theorem gn_8 (pb : Nat) (S : List UInt8) (hm : S.length ≤ 100) : Nx pb (TR S) gr_7 gr_8 := nx_rest pb (TR S) gr_7 1 1 9 [61] (by rw [TR_size]; omega) (by rw [TR_size]; show 23 ≤ _; omega) (by kernel_rfl)
theorem gn_9 (pb : Nat) (S : List UInt8) (hm : S.length ≤ 100) : Nx pb (TR S) gr_8 gr_9 := nx_rest pb (TR S) gr_8 1 4 8 [103, 115, 117, 98] (by rw [TR_size]; omega) (by rw [TR_size]; show 25 ≤ _; omega) (by kernel_rfl)
theorem gn_10 (pb : Nat) (S : List UInt8) (hm : S.length ≤ 100) : Nx pb (TR S) gr_9 gr_10 := nx_rest pb (TR S) gr_9 0 1 9 [40] (by rw [TR_size]; omega) (by rw [TR_size]; show 30 ≤ _; omega) (by kernel_rfl)
theorem plain_run (S r : List UInt8) (hS : ∀ c ∈ S, plainB c = true) : ((S ++ 34 :: r).takeWhile plainB) = S := by
  induction S with
  | nil => rfl
  | cons c S ih =>
    rw [List.cons_append, List.takeWhile_cons, hS c (List.mem_cons_self ..), ih (fun d hd => hS d (List.mem_cons_of_mem _ hd))]
    rfl
theorem tokR_string (S r : List UInt8) (hS : ∀ c ∈ S, plainB c = true) : tokR (34 :: (S ++ 34 :: r)) = some (S.length + 2, 3, S) := by
  have h : isAt (S ++ 34 :: r) S.length 34 = true := by
    unfold isAt
    rw [List.getElem?_append_right (Nat.le_refl _), Nat.sub_self]
    rfl
  unfold tokR
  dsimp only
  rw [if_neg (by decide), if_neg (by decide), if_neg (by decide), if_pos (by decide)]
  rw [plain_run S r hS, if_pos h, List.take_left]
theorem gn_11 (pb : Nat) (S : List UInt8) (hm : S.length ≤ 100) (hS : ∀ c ∈ S, plainB c = true) : Nx pb (TR S) gr_10 (gr_11 S) := by
  have h := nx_rest pb (TR S) gr_10 0 (S.length + 2) 3 S (by rw [TR_size]; omega) (by rw [TR_size]; show 31 ≤ _; omega) (by
    show nxR (34 :: (S ++ sufR)) = _
    unfold nxR
    rw [show ((34 :: (S ++ sufR)).takeWhile blankB).length = 0 from rfl, List.drop_zero, show sufR = 34 :: sufR.tail from rfl, tokR_string S _ hS])
  rw [show gr_10.i + 0 + (S.length + 2) = 33 + S.length by show 31 + 0 + _ = _; omega] at h
  exact h
theorem gn_12 (pb : Nat) (S : List UInt8) (hm : S.length ≤ 100) : Nx pb (TR S) (gr_11 S) (gr_12 S.length) := by
  have h := nx_rest pb (TR S) (gr_11 S) 0 1 9 [44] (by rw [TR_size]; omega) (by rw [TR_size]; show 33 + S.length ≤ _; omega) (by
    show nxR ((TR S).data.toList.drop (33 + S.length)) = _
    rw [show 33 + S.length = 32 + S.length + 1 by omega, TR_drop]
    kernel_rfl)
  have e1 : (gr_11 S).i + 0 + 1 = 34 + S.length := by show 33 + S.length + 0 + 1 = _; omega
  have e2 : (gr_11 S).i + 0 = 33 + S.length := by show 33 + S.length + 0 = _; omega
  rw [e1, e2] at h
  exact h
theorem gn_13 (pb : Nat) (S : List UInt8) (hm : S.length ≤ 100) : Nx pb (TR S) (gr_12 S.length) (gr_13 S.length) := by
  have h := nx_rest pb (TR S) (gr_12 S.length) 1 2 3 [] (by rw [TR_size]; omega) (by rw [TR_size]; show 34 + S.length ≤ _; omega) (by
    show nxR ((TR S).data.toList.drop (34 + S.length)) = _
    rw [show 34 + S.length = 32 + S.length + 2 by omega, TR_drop]
    kernel_rfl)
  have e1 : (gr_12 S.length).i + 1 + 2 = 37 + S.length := by show 34 + S.length + 1 + 2 = _; omega
  have e2 : (gr_12 S.length).i + 1 = 35 + S.length := by show 34 + S.length + 1 = _; omega
  rw [e1, e2] at h
  exact h
theorem gn_14 (pb : Nat) (S : List UInt8) (hm : S.length ≤ 100) : Nx pb (TR S) (gr_13 S.length) (gr_14 S.length) := by
  have h := nx_rest pb (TR S) (gr_13 S.length) 0 1 9 [41] (by rw [TR_size]; omega) (by rw [TR_size]; show 37 + S.length ≤ _; omega) (by
    show nxR ((TR S).data.toList.drop (37 + S.length)) = _
    rw [show 37 + S.length = 32 + S.length + 5 by omega, TR_drop]
    kernel_rfl)
  have e1 : (gr_13 S.length).i + 0 + 1 = 38 + S.length := by show 37 + S.length + 0 + 1 = _; omega
  have e2 : (gr_13 S.length).i + 0 = 37 + S.length := by show 37 + S.length + 0 = _; omega
  rw [e1, e2] at h
  exact h
theorem gn_15 (pb : Nat) (S : List UInt8) (hm : S.length ≤ 100) : Nx pb (TR S) (gr_14 S.length) (gr_15 S.length) := by
  have h := nx_rest pb (TR S) (gr_14 S.length) 0 1 9 [59] (by rw [TR_size]; omega) (by rw [TR_size]; show 38 + S.length ≤ _; omega) (by
    show nxR ((TR S).data.toList.drop (38 + S.length)) = _
    rw [show 38 + S.length = 32 + S.length + 6 by omega, TR_drop]
    kernel_rfl)
  have e1 : (gr_14 S.length).i + 0 + 1 = 39 + S.length := by show 38 + S.length + 0 + 1 = _; omega
  have e2 : (gr_14 S.length).i + 0 = 38 + S.length := by show 38 + S.length + 0 = _; omega
  rw [e1, e2] at h
  exact h
theorem gn_16 (pb : Nat) (S : List UInt8) (hm : S.length ≤ 100) : Nx pb (TR S) (gr_15 S.length) (gr_16 S.length) := by
  have h := nx_rest pb (TR S) (gr_15 S.length) 1 5 7 [112, 114, 105, 110, 116] (by rw [TR_size]; omega) (by rw [TR_size]; show 39 + S.length ≤ _; omega) (by
    show nxR ((TR S).data.toList.drop (39 + S.length)) = _
    rw [show 39 + S.length = 32 + S.length + 7 by omega, TR_drop]
    kernel_rfl)
  have e1 : (gr_15 S.length).i + 1 + 5 = 45 + S.length := by show 39 + S.length + 1 + 5 = _; omega
  have e2 : (gr_15 S.length).i + 1 = 40 + S.length := by show 39 + S.length + 1 = _; omega
  rw [e1, e2] at h
  exact h
theorem gn_17 (pb : Nat) (S : List UInt8) (hm : S.length ≤ 100) : Nx pb (TR S) (gr_16 S.length) (gr_17 S.length) := by
  have h := nx_rest pb (TR S) (gr_16 S.length) 1 1 5 [110] (by rw [TR_size]; omega) (by rw [TR_size]; show 45 + S.length ≤ _; omega) (by
    show nxR ((TR S).data.toList.drop (45 + S.length)) = _
    rw [show 45 + S.length = 32 + S.length + 13 by omega, TR_drop]
    kernel_rfl)
  have e1 : (gr_16 S.length).i + 1 + 1 = 47 + S.length := by show 45 + S.length + 1 + 1 = _; omega
  have e2 : (gr_16 S.length).i + 1 = 46 + S.length := by show 45 + S.length + 1 = _; omega
  rw [e1, e2] at h
  exact h
theorem gn_18 (pb : Nat) (S : List UInt8) (hm : S.length ≤ 100) : Nx pb (TR S) (gr_17 S.length) (gr_18 S.length) := by
  have h := nx_rest pb (TR S) (gr_17 S.length) 0 1 9 [59] (by rw [TR_size]; omega) (by rw [TR_size]; show 47 + S.length ≤ _; omega) (by
    show nxR ((TR S).data.toList.drop (47 + S.length)) = _
    rw [show 47 + S.length = 32 + S.length + 15 by omega, TR_drop]
    kernel_rfl)
  have e1 : (gr_17 S.length).i + 0 + 1 = 48 + S.length := by show 47 + S.length + 0 + 1 = _; omega
  have e2 : (gr_17 S.length).i + 0 = 47 + S.length := by show 47 + S.length + 0 = _; omega
  rw [e1, e2] at h
  exact h
theorem gn_19 (pb : Nat) (S : List UInt8) (hm : S.length ≤ 100) : Nx pb (TR S) (gr_18 S.length) (gr_19 S.length) := by
  have h := nx_rest pb (TR S) (gr_18 S.length) 1 5 7 [112, 114, 105, 110, 116] (by rw [TR_size]; omega) (by rw [TR_size]; show 48 + S.length ≤ _; omega) (by
    show nxR ((TR S).data.toList.drop (48 + S.length)) = _
    rw [show 48 + S.length = 32 + S.length + 16 by omega, TR_drop]
    kernel_rfl)
  have e1 : (gr_18 S.length).i + 1 + 5 = 54 + S.length := by show 48 + S.length + 1 + 5 = _; omega
  have e2 : (gr_18 S.length).i + 1 = 49 + S.length := by show 48 + S.length + 1 = _; omega
  rw [e1, e2] at h
  exact h
theorem gn_20 (pb : Nat) (S : List UInt8) (hm : S.length ≤ 100) : Nx pb (TR S) (gr_19 S.length) (gr_20 S.length) := by
  have h := nx_rest pb (TR S) (gr_19 S.length) 1 1 9 [125] (by rw [TR_size]; omega) (by rw [TR_size]; show 54 + S.length ≤ _; omega) (by
    show nxR ((TR S).data.toList.drop (54 + S.length)) = _
    rw [show 54 + S.length = 32 + S.length + 22 by omega, TR_drop]
    kernel_rfl)
  have e1 : (gr_19 S.length).i + 1 + 1 = 56 + S.length := by show 54 + S.length + 1 + 1 = _; omega
  have e2 : (gr_19 S.length).i + 1 = 55 + S.length := by show 54 + S.length + 1 = _; omega
  rw [e1, e2] at h
  exact h
theorem gn_21 (pb : Nat) (S : List UInt8) (hm : S.length ≤ 100) : Nx pb (TR S) (gr_20 S.length) (gr_21 S.length) := by
  have h := nx_rest pb (TR S) (gr_20 S.length) 0 0 1 [] (by rw [TR_size]; omega) (by rw [TR_size]; show 56 + S.length ≤ _; omega) (by
    show nxR ((TR S).data.toList.drop (56 + S.length)) = _
    rw [show 56 + S.length = 32 + S.length + 24 by omega, TR_drop]
    kernel_rfl)
  have e1 : (gr_20 S.length).i + 0 + 0 = 56 + S.length := by show 56 + S.length + 0 + 0 = _; omega
  rw [e1] at h
  exact h
end Go.Proofs.YtdbdbaepmdmnfaaGreatDoor

namespace Go.Proofs.YtdbdbaepmdmnfaaGreatDoor
open Go.RowKit
def FSr : ByteArray := ofB [70, 83]
def nr : ByteArray := ofB [110]
def gsubr : ByteArray := ofB [103, 115, 117, 98]
def setFS : Value := storeT (nameV FSr 8) eqx (strT (ofB [10]))
def gsubArgs (S : List UInt8) : List Value := [strT (ofB S), strT (ofB [])]
/-- n = gsub("S", ""). -/
def GsubV (pb : Nat) (S : List UInt8) : World → Value → Prop := StoreW (Is (nameV nr 22)) eqx (OwnT pb gsubr 26 (gsubArgs S))
theorem rdStr (pb : Nat) (T : ByteArray) (s s' : TS) (hk : s.k = 3) (hn : Nx pb T s s') (he : Ends s') (hs : seen s [33] = false ∧ seen s [45] = false ∧ seen s [43] = false) : Reads 143 pb T false s s' (Is (strT s.x)) :=
  expr_rd pb T false s s' _ false (place_str s.x) (is_stab pb _) he (either_of pb T false s s' _ (is_stab pb _) he hs (prim_str pb T false s s' hk hn))
theorem rdFS (pb : Nat) (S : List UInt8) (hm : S.length ≤ 100) : Reads 143 pb (TR S) false gr_2 gr_5 (Is setFS) :=
  expr_store pb (TR S) false gr_2 gr_3 gr_4 gr_5 _ _ _ _ (place_name FSr 8) (by decide) 0 (by decide) (fun i t h => absurd h (by omega)) (fun t h => by cases h; decide)
    (either_ofB pb (TR S) false gr_2 gr_3 _ (is_stab pb _) (by unfold EndsB; decide) (noSign_of (by decide)) (prim_name pb (TR S) false gr_2 gr_3 rfl (gn_3 pb S hm) (by decide)))
    (gn_4 pb S hm) (rdStr pb (TR S) gr_4 gr_5 rfl (gn_5 pb S hm) (ends_of (by decide)) (noSign_of (by decide)))
theorem rdGsub (pb : Nat) (S : List UInt8) (hm : S.length ≤ 100) (hS : ∀ c ∈ S, plainB c = true) : Reads 143 pb (TR S) false gr_7 (gr_15 S.length) (GsubV pb S) :=
  expr_storeV pb (TR S) false gr_7 gr_8 gr_9 (gr_15 S.length) _ _ (is_stab pb _) (fun _ _ h => ⟨_, _, h⟩) (own_if pb gsubr 26 (gsubArgs S)) (place_name nr 22) (by decide) 0 (by decide) (fun i t h => absurd h (by omega)) (fun t h => by cases h; decide)
    (either_ofB pb (TR S) false gr_7 gr_8 _ (is_stab pb _) (by unfold EndsB; decide) (noSign_of (by decide)) (prim_name pb (TR S) false gr_7 gr_8 rfl (gn_8 pb S hm) (by decide)))
    (gn_9 pb S hm)
    (expr_rd pb (TR S) false gr_9 (gr_15 S.length) _ false (place_own pb _ _ _) (own_stab pb _ _ _) (ends_of (by kernel_rfl)) (either_of pb (TR S) false gr_9 (gr_15 S.length) _ (own_stab pb _ _ _) (ends_of (by kernel_rfl)) (noSign_of (by decide))
      (prim_own pb (TR S) false gr_9 gr_10 (gr_15 S.length) (gsubArgs S) rfl (gn_10 pb S hm)
        (args_some pb (TR S) false gr_10 (gr_11 S) (gr_14 S.length) (gr_15 S.length) _ (row_stab pb _) (by decide) (gn_11 pb S hm hS) (by kernel_rfl)
          (list_two pb (TR S) false (gr_11 S) (gr_12 S.length) (gr_13 S.length) (gr_14 S.length) _ _ _ _
            (rdStr pb (TR S) (gr_11 S) (gr_12 S.length) rfl (gn_12 pb S hm) (ends_of (by kernel_rfl)) (noSign_of (by kernel_rfl)))
            (by kernel_rfl) (gn_13 pb S hm)
            (rdStr pb (TR S) (gr_13 S.length) (gr_14 S.length) rfl (gn_14 pb S hm) (ends_of (by kernel_rfl)) (noSign_of (by kernel_rfl)))
            (by kernel_rfl))
          (by kernel_rfl) (gn_15 pb S hm)))))
/-- The main rule's statements. -/
def VM (pb : Nat) (S : List UInt8) : Nat → World → Value → Prop
  | 0 => WorkT (GsubV pb S)
  | 1 => PrintL pb [nameV nr (46 + S.length)]
  | _ => Is printV
def SM (S : List UInt8) : Nat → TS
  | 0 => gr_7
  | 1 => gr_16 S.length
  | 2 => gr_19 S.length
  | _ => gr_20 S.length
theorem gsub_stab (pb : Nat) (S : List UInt8) : Stab pb (GsubV pb S) := storeW_stab (is_stab pb _) (own_stab pb _ _ _)
theorem gsub_stab2 (pb : Nat) (S : List UInt8) : Stab2 (GsubV pb S) := storeW_stab2 (is_stab2 _) (own_stab2 pb _ _ _)
theorem gsub_stab3 (pb : Nat) (S : List UInt8) : Stab3 (GsubV pb S) := storeW_stab3 (is_stab3 _) (own_stab3 pb _ _ _)
theorem vm_stab (pb : Nat) (S : List UInt8) : ∀ i, i < 3 → Stab pb (VM pb S i)
  | 0, _ => work_stab (gsub_stab pb S)
  | 1, _ => printL_stab pb _
  | 2, _ => is_stab pb _
theorem vm_stab2 (pb : Nat) (S : List UInt8) : ∀ i, i < 3 → Stab2 (VM pb S i)
  | 0, _ => work_stab2 (gsub_stab2 pb S)
  | 1, _ => printL_stab2 pb _
  | 2, _ => is_stab2 _
theorem vm_stab3 (pb : Nat) (S : List UInt8) : ∀ i, i < 3 → Stab3 (VM pb S i)
  | 0, _ => work_stab3 (gsub_stab3 pb S)
  | 1, _ => printL_stab3 pb _
  | 2, _ => is_stab3 _
theorem vm_if (pb : Nat) (S : List UInt8) : ∀ i, i < 3 → IsIf (VM pb S i)
  | 0, _ => work_if
  | 1, _ => printL_if pb _
  | 2, _ => fun _ _ h => ⟨_, _, h⟩
theorem stmtsM (pb : Nat) (S : List UInt8) (hm : S.length ≤ 100) (hS : ∀ c ∈ S, plainB c = true) : ∀ i, i < 3 → ReadsX (fun _ _ => False) 181 pb (TR S) false (SM S i) (SM S (i + 1)) (VM pb S i)
  | 0, _ => (stmt_semi pb (TR S) false gr_7 (gr_15 S.length) (gr_16 S.length) _ (vm_stab pb S 0 (by omega)) (noComp_of (by decide)) (simple_work pb (TR S) false gr_7 (gr_15 S.length) _ storeW_if (noWord_of (by decide)) (rdGsub pb S hm hS)) (by kernel_rfl) (by kernel_rfl) (gn_16 pb S hm)).x (fun _ _ _ _ e => e)
  | 1, _ => (stmt_semi pb (TR S) false (gr_16 S.length) (gr_18 S.length) (gr_19 S.length) _ (vm_stab pb S 1 (by omega)) (noComp_of (by kernel_rfl)) (simple_print pb (TR S) false (gr_16 S.length) (gr_17 S.length) (gr_18 S.length) _ (by kernel_rfl) (gn_17 pb S hm) (print_list pb (TR S) (gr_17 S.length) (gr_18 S.length) [nameV nr (46 + S.length)] (by kernel_rfl) (by kernel_rfl) (by kernel_rfl) (list_one pb (TR S) true (gr_17 S.length) (gr_18 S.length) _ _ (expr_rd pb (TR S) true (gr_17 S.length) (gr_18 S.length) _ true (place_name nr (46 + S.length)) (is_stab pb _) (ends_of (by kernel_rfl)) (either_of pb (TR S) true (gr_17 S.length) (gr_18 S.length) _ (is_stab pb _) (ends_of (by kernel_rfl)) (noSign_of (by kernel_rfl)) (prim_name pb (TR S) true (gr_17 S.length) (gr_18 S.length) rfl (gn_18 pb S hm) (by kernel_rfl)))) (by kernel_rfl)) (by kernel_rfl))) (by kernel_rfl) (by kernel_rfl) (gn_19 pb S hm)).x (fun _ _ _ _ e => e)
  | 2, _ => (stmt_last pb (TR S) false (gr_19 S.length) (gr_20 S.length) _ (noComp_of (by kernel_rfl)) (simple_print pb (TR S) false (gr_19 S.length) (gr_20 S.length) (gr_20 S.length) _ (by kernel_rfl) (gn_20 pb S hm) (print_bare pb (TR S) false (gr_20 S.length) (Or.inr ⟨by kernel_rfl, by kernel_rfl⟩) (by kernel_rfl))) (by kernel_rfl)).x (fun _ _ _ _ e => e)
theorem blockM (pb : Nat) (S : List UInt8) (hm : S.length ≤ 100) (hS : ∀ c ∈ S, plainB c = true) : Reads 142 pb (TR S) false gr_6 (gr_21 S.length) (BlockT pb 3 (VM pb S)) := fun w h =>
  (block_rdX (fun _ _ => False) pb (TR S) false gr_6 3 (by omega) (SM S) (gr_21 S.length) (VM pb S) (vm_stab pb S) (fun i hi => (vm_stab2 pb S i hi).x) (vm_if pb S) (by decide) (gn_7 pb S hm) (stmtsM pb S hm hS) (fun i hi => by
    match i, hi with
    | 0, _ => exact (by kernel_rfl : seen gr_7 [125] = false)
    | 1, _ => exact (by kernel_rfl : seen (gr_16 S.length) [125] = false)
    | 2, _ => exact (by kernel_rfl : seen (gr_19 S.length) [125] = false)) (by kernel_rfl) (gn_21 pb S hm) w h).mono (fun _ _ ⟨v, e, hv, _, hp, ho⟩ => ⟨v, e, hv, hp, ho⟩)
def VB : Nat → World → Value → Prop := fun _ => WorkT (Is setFS)
def SB : Nat → TS
  | 0 => gr_2
  | _ => gr_5
theorem stmtsB (pb : Nat) (S : List UInt8) (hm : S.length ≤ 100) : ∀ i, i < 1 → ReadsX (fun _ _ => False) 181 pb (TR S) false (SB i) (SB (i + 1)) (VB i)
  | 0, _ => (stmt_last pb (TR S) false gr_2 gr_5 _ (noComp_of (by decide)) (simple_work pb (TR S) false gr_2 gr_5 _ (store_if _ _ _) (noWord_of (by decide)) (rdFS pb S hm)) (by decide)).x (fun _ _ _ _ e => e)
theorem blockB (pb : Nat) (S : List UInt8) (hm : S.length ≤ 100) : Reads 142 pb (TR S) false gr_1 gr_6 (BlockT pb 1 VB) := fun w h =>
  (block_rdX (fun _ _ => False) pb (TR S) false gr_1 1 (by omega) SB gr_6 VB (fun _ _ => work_stab (is_stab pb _)) (fun _ _ => (work_stab2 (is_stab2 _)).x) (fun _ _ => work_if) (by decide) (gn_2 pb S hm) (stmtsB pb S hm) (fun i hi => by
    match i, hi with
    | 0, _ => decide) (by decide) (gn_6 pb S hm) w h).mono (fun _ _ ⟨v, e, hv, _, hp, ho⟩ => ⟨v, e, hv, hp, ho⟩)
/-- The trees of the two rules' blocks. -/
def BR (pb : Nat) (S : List UInt8) : Nat → World → Value → Prop
  | 0 => BlockT pb 1 VB
  | _ => BlockT pb 3 (VM pb S)
def kdR : Nat → Nat
  | 0 => 1
  | _ => 0
def SR (S : List UInt8) : Nat → TS
  | 0 => gr_0
  | 1 => gr_6
  | _ => gr_21 S.length
theorem br_stab3 (pb : Nat) (S : List UInt8) : ∀ i, Stab3 (BR pb S i)
  | 0 => block_stab3 (fun _ _ => work_stab3 (is_stab3 _))
  | _ + 1 => block_stab3 (vm_stab3 pb S)
theorem br_sl (pb : Nat) (S : List UInt8) : ∀ i, IsSl (BR pb S i)
  | 0 => block_sl _ _ _
  | _ + 1 => block_sl _ _ _
theorem progR (pb : Nat) (S : List UInt8) (hm : S.length ≤ 100) (hS : ∀ c ∈ S, plainB c = true) (w : World) (h : PAt w pb (TR S) gr_0 false) : Calls Tryz.prog 74 #[.pointer (some ⟨pb, 0, none⟩)] w fun en w' => ∃ v, en = .returned v ∧ ProgN 2 kdR (BR pb S) w' v ∧ PAt w' pb (TR S) (gr_21 S.length) false ∧ Only (fun k => k = pb) w w' :=
  program_n pb (TR S) 2 (by omega) (SR S) kdR (BR pb S) (br_sl pb S) (br_stab3 pb S) (fun i hi => by
    match i, hi with
    | 0, _ => exact (by decide : ¬ gr_0.k = 1)
    | 1, _ => exact (by decide : ¬ gr_6.k = 1)) (fun i hi => by
    match i, hi with
    | 0, _ => exact (by decide : seen gr_0 [102, 117, 110, 99, 116, 105, 111, 110] = false)
    | 1, _ => exact (by decide : seen gr_6 [102, 117, 110, 99, 116, 105, 111, 110] = false)) (fun i hi => by
    match i, hi with
    | 0, _ => exact fun W hW => rule_begin pb (TR S) false gr_0 gr_1 gr_6 _ (br_sl pb S 0) (br_stab3 pb S 0) (by decide) (gn_1 pb S hm) (blockB pb S hm) W hW
    | 1, _ => exact fun W hW => rule_main pb (TR S) false gr_6 (gr_21 S.length) _ (br_sl pb S 1) (br_stab3 pb S 1) (by decide) (by decide) (by decide) (blockM pb S hm hS) W hW) rfl w h
/-- The program of Replaced is read. -/
theorem readR (S : List UInt8) (hm : S.length ≤ 100) (hS : ∀ c ∈ S, plainB c = true) (w : World) : Calls Tryz.prog 45 #[.string (TR S)] w fun en w' => ∃ pb v, en = .returned (.tuple #[v, .int .i64 0, .bool true]) ∧ ProgN 2 kdR (BR pb S) w' v ∧ Only (fun _ => False) w w' :=
  read_n (TR S) 2 kdR (fun pb => BR pb S) (fun pb i => br_stab3 pb S i) gr_0 (gr_21 S.length) (fun pb => gn_0 pb S hm ts0 rfl) (fun pb W hW => progR pb S hm hS W hW) w
end Go.Proofs.YtdbdbaepmdmnfaaGreatDoor

