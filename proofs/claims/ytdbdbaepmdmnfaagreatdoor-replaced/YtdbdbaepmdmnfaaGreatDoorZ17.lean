import Derived.Test.YtdbdbaepmdmnfaaGreatDoorZ16
namespace Go.Proofs.YtdbdbaepmdmnfaaGreatDoor
open Go.RowKit
/-- What a part of the parser reads: from s to s', a tree that V tells. -/
def Reads (f : Nat) (pb : Nat) (T : ByteArray) (ge : Bool) (s s' : TS) (V : World → Value → Prop) : Prop :=
  ∀ w, PAt w pb T s ge → Calls Tryz.prog f #[.pointer (some ⟨pb, 0, none⟩)] w fun en w' => ∃ v, en = .returned v ∧ V w' v ∧ PAt w' pb T s' ge ∧ Only (fun k => k = pb) w w'
/-- What V tells stands while only the parser's block turns. -/
def Stab (pb : Nat) (V : World → Value → Prop) : Prop := ∀ w w' v, V w v → Only (fun k => k = pb) w w' → V w' v
theorem callFunc_in {f : FuncId} {fn : Func} {c : Code} (hf : Tryz.prog.funcs[f]? = some fn) (hname : (fn.name == "runtime.NumGoroutine") = false) (hb : fn.body = some c) (args : Array Value) (w : World) :
    (callFunc f args).run Tryz.prog w = .ok (.enter f args) w := by
  have h1 : fn.name ≠ "runtime.NumGoroutine" := by simpa using hname
  simp [callFunc, hf, h1, hb]
theorem cf438 (args : Array Value) (w : World) : (callFunc 253 args).run Tryz.prog w = .ok (.enter 253 args) w := callFunc_in Tryz.func253 (by kernel_rfl) rfl args w
theorem cf546 (args : Array Value) (w : World) : (callFunc 362 args).run Tryz.prog w = .ok (.enter 362 args) w := callFunc_in Tryz.func362 (by kernel_rfl) rfl args w
theorem cf606 (args : Array Value) (w : World) : (callFunc 428 args).run Tryz.prog w = .ok (.enter 428 args) w := callFunc_in Tryz.func428 (by kernel_rfl) rfl args w
theorem cf603 (args : Array Value) (w : World) : (callFunc 425 args).run Tryz.prog w = .ok (.enter 425 args) w := callFunc_in Tryz.func425 (by kernel_rfl) rfl args w
theorem cf645 (args : Array Value) (w : World) : (callFunc 482 args).run Tryz.prog w = .ok (.enter 482 args) w := callFunc_in Tryz.func482 (by kernel_rfl) rfl args w
theorem cf650 (args : Array Value) (w : World) : (callFunc 492 args).run Tryz.prog w = .ok (.enter 492 args) w := callFunc_in Tryz.func492 (by kernel_rfl) rfl args w
set_option maxRecDepth 20000 in
set_option maxHeartbeats 4000000 in
theorem row_no (f1 : Nat) (hcf : ∀ (args : Array Value) (w : World), (callFunc f1 args).run Tryz.prog w = .ok (.enter f1 args) w) (pb : Nat) (T : ByteArray) (ge : Bool) (s s' : TS) (V : World → Value → Prop) (hV : Stab pb V) (h1 : Reads f1 pb T ge s s' V) (ss : List ByteArray) (hl : ss.length ≤ 1000) (hno : ∀ t ∈ ss, seen s' t.data.toList = false)
    (b cap : Nat) (w : World) (h : PAt w pb T s ge) (hb : b < w.heap.size) (hbp : b ≠ pb) (hA : ∀ (i : Nat) (t : ByteArray), ss[i]? = some t → w.cell? ⟨b, i, none⟩ = some (.string t)) :
    Calls Tryz.prog 252 #[.pointer (some ⟨pb, 0, none⟩), .func (.func f1) #[.pointer (some ⟨pb, 0, none⟩)] #[], .slice (some ⟨b, 0, none⟩) ss.length cap] w fun en w' => ∃ v, en = .returned v ∧ V w' v ∧ PAt w' pb T s' ge ∧ Only (fun k => k = pb) w w' := by
  have H1 := hide (h1 w h)
  have HN := hide hno
  have HA := hide hA
  have HV := hide hV
  clear hno hA hV h1 h
  go_enter Tryz.func252, Tryz.ntmps252
  go_wp2_with fail
  refine (H1.out).mono ?_
  rintro en w1 ⟨v, rfl, hv, hp, ho⟩
  have HS := hide (oneOf_no pb T s' ge b cap ss hl HN.out w1 hp (fun i t ht => (ho.cell (p := ⟨b, i, none⟩) hb hbp).trans (HA.out i t ht)))
  have Hv := hide hv
  have HP := hide hp
  have HO := hide ho
  clear hv hp ho
  go_wp2
  go_loop [7] (fun s7 => s7 = v) (fun _ => 0)
  case atStart => exact rfl
  case round =>
    subst hrel
    go_wp2_with (go_at_call 184; refine (HS.out).mono ?_; rintro en w2 ⟨rfl, rfl⟩)
    go_ret
    exact ⟨_, rfl, Hv.out, HP.out, HO.out⟩
set_option maxRecDepth 20000 in
set_option maxHeartbeats 4000000 in
theorem pair_no (f1 : Nat) (hcf : ∀ (args : Array Value) (w : World), (callFunc f1 args).run Tryz.prog w = .ok (.enter f1 args) w) (pb : Nat) (T : ByteArray) (ge : Bool) (s s' : TS) (V : World → Value → Prop) (hV : Stab pb V) (h1 : Reads f1 pb T ge s s' V) (ss : List ByteArray) (hl : ss.length ≤ 1000) (hno : ∀ t ∈ ss, seen s' t.data.toList = false)
    (b cap : Nat) (w : World) (h : PAt w pb T s ge) (hb : b < w.heap.size) (hbp : b ≠ pb) (hA : ∀ (i : Nat) (t : ByteArray), ss[i]? = some t → w.cell? ⟨b, i, none⟩ = some (.string t)) :
    Calls Tryz.prog 427 #[.pointer (some ⟨pb, 0, none⟩), .func (.func f1) #[.pointer (some ⟨pb, 0, none⟩)] #[], .slice (some ⟨b, 0, none⟩) ss.length cap] w fun en w' => ∃ v, en = .returned v ∧ V w' v ∧ PAt w' pb T s' ge ∧ Only (fun k => k = pb) w w' := by
  have H1 := hide (h1 w h)
  have HN := hide hno
  have HA := hide hA
  have HV := hide hV
  clear hno hA hV h1 h
  go_enter Tryz.func427, Tryz.ntmps427
  go_wp2_with fail
  refine (H1.out).mono ?_
  rintro en w1 ⟨v, rfl, hv, hp, ho⟩
  have HS := hide (oneOf_no pb T s' ge b cap ss hl HN.out w1 hp (fun i t ht => (ho.cell (p := ⟨b, i, none⟩) hb hbp).trans (HA.out i t ht)))
  have Hv := hide hv
  have HP := hide hp
  have HO := hide ho
  clear hv hp ho
  go_wp2_with (go_at_call 184; refine (HS.out).mono ?_; rintro en w2 ⟨rfl, rfl⟩)
  go_ret
  exact ⟨_, rfl, Hv.out, HP.out, HO.out⟩
end Go.Proofs.YtdbdbaepmdmnfaaGreatDoor

namespace Go.Proofs.YtdbdbaepmdmnfaaGreatDoor
open Go.RowKit
def opS : List (List UInt8) := [[124, 124], [38, 38], [126], [33, 126], [105, 110], [60], [60, 61], [61, 61], [33, 61], [62, 61], [62], [43], [45], [42], [47], [37], [36], [40], [63], [61], [43, 61], [45, 61], [42, 61], [47, 61], [37, 61]]
/-- A token with which an expression has ended. -/
def Ends (s : TS) : Prop := (∀ t ∈ opS, seen s t = false) ∧ ¬ s.k = 2 ∧ ¬ s.k = 3 ∧ ¬ s.k = 5 ∧ ¬ s.k = 6 ∧ ¬ s.k = 8
theorem Reads.alloc_at {w : World} {pb : Nat} {T : ByteArray} {s : TS} {ge : Bool} (h : PAt w pb T s ge) (o : Obj) : PAt (w.alloc o) pb T s ge := (Below.heap_alloc _ _ _ (heap_lt h)).trans h
theorem strs_new (w : World) (ss : List ByteArray) : ∀ (i : Nat) (t : ByteArray), ss[i]? = some t → (w.alloc (.cells (ss.map Value.string).toArray 9)).cell? ⟨w.heap.size, i, none⟩ = some (.string t) := fun i t ht => cell_of (new0 w _) (by rw [List.getElem?_toArray, List.getElem?_map, ht]; rfl)
set_option maxRecDepth 20000 in
set_option maxHeartbeats 4000000 in
theorem either_rd (pb : Nat) (T : ByteArray) (ge : Bool) (s s' : TS) (V : World → Value → Prop) (hV : Stab pb V) (he : Ends s') (h1 : Reads 253 pb T ge s s' V) : Reads 182 pb T ge s s' V := by
  intro w h
  have hl := h.lt
  have HR : Hid (Calls Tryz.prog 252 #[.pointer (some ⟨pb, 0, none⟩), .func (.func 253) #[.pointer (some ⟨pb, 0, none⟩)] #[], .slice (some ⟨w.heap.size, 0, none⟩) 1 1] (w.alloc (.cells #[.string ⟨#[124, 124]⟩] 9)) fun en w' => ∃ v, en = .returned v ∧ V w' v ∧ PAt w' pb T s' ge ∧ Only (fun k => k = pb) (w.alloc (.cells #[.string ⟨#[124, 124]⟩] 9)) w') :=
    row_no 253 cf438 pb T ge s s' V hV h1 [⟨#[124, 124]⟩] (by decide) (fun t ht => he.1 t.data.toList (by simp at ht; subst ht; decide)) w.heap.size 1 _ (Reads.alloc_at h _) (by simp) (by omega) (strs_new w [⟨#[124, 124]⟩])
  clear he hV h1 h
  go_enter Tryz.func182, Tryz.ntmps182
  go_wp2_with (go_at_call 252; refine (HR.out).mono ?_; rintro en w1 ⟨v, rfl, hv, hp, ho⟩; have Hv := hide hv; have HP := hide hp; have HO : Hid (Only (fun k => k = pb) w w1) := ((Only.refl _ w).alloc _).trans ho (fun _ _ e => e); clear hv hp ho)
  go_ret
  exact ⟨_, rfl, Hv.out, HP.out, HO.out⟩
set_option maxRecDepth 20000 in
set_option maxHeartbeats 4000000 in
theorem both_rd (pb : Nat) (T : ByteArray) (ge : Bool) (s s' : TS) (V : World → Value → Prop) (hV : Stab pb V) (he : Ends s') (h1 : Reads 362 pb T ge s s' V) : Reads 253 pb T ge s s' V := by
  intro w h
  have hl := h.lt
  have HR : Hid (Calls Tryz.prog 252 #[.pointer (some ⟨pb, 0, none⟩), .func (.func 362) #[.pointer (some ⟨pb, 0, none⟩)] #[], .slice (some ⟨w.heap.size, 0, none⟩) 1 1] (w.alloc (.cells #[.string ⟨#[38, 38]⟩] 9)) fun en w' => ∃ v, en = .returned v ∧ V w' v ∧ PAt w' pb T s' ge ∧ Only (fun k => k = pb) (w.alloc (.cells #[.string ⟨#[38, 38]⟩] 9)) w') :=
    row_no 362 cf546 pb T ge s s' V hV h1 [⟨#[38, 38]⟩] (by decide) (fun t ht => he.1 t.data.toList (by simp at ht; subst ht; decide)) w.heap.size 1 _ (Reads.alloc_at h _) (by simp) (by omega) (strs_new w [⟨#[38, 38]⟩])
  clear he hV h1 h
  go_enter Tryz.func253, Tryz.ntmps253
  go_wp2_with (go_at_call 252; refine (HR.out).mono ?_; rintro en w1 ⟨v, rfl, hv, hp, ho⟩; have Hv := hide hv; have HP := hide hp; have HO : Hid (Only (fun k => k = pb) w w1) := ((Only.refl _ w).alloc _).trans ho (fun _ _ e => e); clear hv hp ho)
  go_ret
  exact ⟨_, rfl, Hv.out, HP.out, HO.out⟩
set_option maxRecDepth 20000 in
set_option maxHeartbeats 4000000 in
theorem sum_rd (pb : Nat) (T : ByteArray) (ge : Bool) (s s' : TS) (V : World → Value → Prop) (hV : Stab pb V) (he : Ends s') (h1 : Reads 482 pb T ge s s' V) : Reads 458 pb T ge s s' V := by
  intro w h
  have hl := h.lt
  have HR : Hid (Calls Tryz.prog 252 #[.pointer (some ⟨pb, 0, none⟩), .func (.func 482) #[.pointer (some ⟨pb, 0, none⟩)] #[], .slice (some ⟨w.heap.size, 0, none⟩) 2 2] (w.alloc (.cells #[.string ⟨#[43]⟩, .string ⟨#[45]⟩] 9)) fun en w' => ∃ v, en = .returned v ∧ V w' v ∧ PAt w' pb T s' ge ∧ Only (fun k => k = pb) (w.alloc (.cells #[.string ⟨#[43]⟩, .string ⟨#[45]⟩] 9)) w') :=
    row_no 482 cf645 pb T ge s s' V hV h1 [⟨#[43]⟩, ⟨#[45]⟩] (by decide) (fun t ht => he.1 t.data.toList (by simp at ht; rcases ht with rfl | rfl <;> decide)) w.heap.size 2 _ (Reads.alloc_at h _) (by simp) (by omega) (strs_new w [⟨#[43]⟩, ⟨#[45]⟩])
  clear he hV h1 h
  go_enter Tryz.func458, Tryz.ntmps458
  go_wp2_with (go_at_call 252; refine (HR.out).mono ?_; rintro en w1 ⟨v, rfl, hv, hp, ho⟩; have Hv := hide hv; have HP := hide hp; have HO : Hid (Only (fun k => k = pb) w w1) := ((Only.refl _ w).alloc _).trans ho (fun _ _ e => e); clear hv hp ho)
  go_ret
  exact ⟨_, rfl, Hv.out, HP.out, HO.out⟩
set_option maxRecDepth 20000 in
set_option maxHeartbeats 4000000 in
theorem product_rd (pb : Nat) (T : ByteArray) (ge : Bool) (s s' : TS) (V : World → Value → Prop) (hV : Stab pb V) (he : Ends s') (h1 : Reads 492 pb T ge s s' V) : Reads 482 pb T ge s s' V := by
  intro w h
  have hl := h.lt
  have HR : Hid (Calls Tryz.prog 252 #[.pointer (some ⟨pb, 0, none⟩), .func (.func 492) #[.pointer (some ⟨pb, 0, none⟩)] #[], .slice (some ⟨w.heap.size, 0, none⟩) 3 3] (w.alloc (.cells #[.string ⟨#[42]⟩, .string ⟨#[47]⟩, .string ⟨#[37]⟩] 9)) fun en w' => ∃ v, en = .returned v ∧ V w' v ∧ PAt w' pb T s' ge ∧ Only (fun k => k = pb) (w.alloc (.cells #[.string ⟨#[42]⟩, .string ⟨#[47]⟩, .string ⟨#[37]⟩] 9)) w') :=
    row_no 492 cf650 pb T ge s s' V hV h1 [⟨#[42]⟩, ⟨#[47]⟩, ⟨#[37]⟩] (by decide) (fun t ht => he.1 t.data.toList (by simp at ht; rcases ht with rfl | rfl | rfl <;> decide)) w.heap.size 3 _ (Reads.alloc_at h _) (by simp) (by omega) (strs_new w [⟨#[42]⟩, ⟨#[47]⟩, ⟨#[37]⟩])
  clear he hV h1 h
  go_enter Tryz.func482, Tryz.ntmps482
  go_wp2_with (go_at_call 252; refine (HR.out).mono ?_; rintro en w1 ⟨v, rfl, hv, hp, ho⟩; have Hv := hide hv; have HP := hide hp; have HO : Hid (Only (fun k => k = pb) w w1) := ((Only.refl _ w).alloc _).trans ho (fun _ _ e => e); clear hv hp ho)
  go_ret
  exact ⟨_, rfl, Hv.out, HP.out, HO.out⟩
end Go.Proofs.YtdbdbaepmdmnfaaGreatDoor

namespace Go.Proofs.YtdbdbaepmdmnfaaGreatDoor
open Go.RowKit
set_option maxRecDepth 20000 in
set_option maxHeartbeats 4000000 in
theorem matched_rd (pb : Nat) (T : ByteArray) (ge : Bool) (s s' : TS) (V : World → Value → Prop) (hV : Stab pb V) (he : Ends s') (h1 : Reads 428 pb T ge s s' V) : Reads 362 pb T ge s s' V := by
  intro w h
  have hl := h.lt
  have HR : Hid (Calls Tryz.prog 427 #[.pointer (some ⟨pb, 0, none⟩), .func (.func 428) #[.pointer (some ⟨pb, 0, none⟩)] #[], .slice (some ⟨w.heap.size, 0, none⟩) 2 2] (w.alloc (.cells #[.string ⟨#[126]⟩, .string ⟨#[33, 126]⟩] 9)) fun en w' => ∃ v, en = .returned v ∧ V w' v ∧ PAt w' pb T s' ge ∧ Only (fun k => k = pb) (w.alloc (.cells #[.string ⟨#[126]⟩, .string ⟨#[33, 126]⟩] 9)) w') :=
    pair_no 428 cf606 pb T ge s s' V hV h1 [⟨#[126]⟩, ⟨#[33, 126]⟩] (by decide) (fun t ht => he.1 t.data.toList (by simp at ht; rcases ht with rfl | rfl <;> decide)) w.heap.size 2 _ (Reads.alloc_at h _) (by simp) (by omega) (strs_new w [⟨#[126]⟩, ⟨#[33, 126]⟩])
  have hin : seen s' [105, 110] = false := he.1 _ (by decide)
  clear he hV h1 h
  go_enter Tryz.func362, Tryz.ntmps362
  go_wp2_with fail
  refine (HR.out).mono ?_
  rintro en w1 ⟨v, rfl, hv, hp, ho⟩
  have HPs := hide (passes_no pb T s' ge ⟨#[105, 110]⟩ hin w1 hp)
  have Hv := hide hv
  have HP := hide hp
  have HO : Hid (Only (fun k => k = pb) w w1) := ((Only.refl _ w).alloc _).trans ho (fun _ _ e => e)
  clear hv hp ho HR
  go_wp2
  go_loop [3] (fun s3 => s3 = v) (fun _ => 0)
  case atStart => exact rfl
  case round =>
    subst hrel
    go_wp2_with (go_at_call 106; refine (HPs.out).mono ?_; rintro en w2 ⟨rfl, rfl⟩)
    go_ret
    exact ⟨_, rfl, Hv.out, HP.out, HO.out⟩
set_option maxRecDepth 20000 in
set_option maxHeartbeats 4000000 in
theorem compared_rd (pb : Nat) (T : ByteArray) (ge : Bool) (s s' : TS) (V : World → Value → Prop) (hV : Stab pb V) (he : Ends s') (h1 : Reads 425 pb T ge s s' V) : Reads 428 pb T ge s s' V := by
  intro w h
  have hl := h.lt
  have r6 : w.cell? ⟨pb, 6, none⟩ = some (.bool ge) := cell_of h rfl
  cases ge with
  | true =>
    have HR : Hid (Calls Tryz.prog 427 #[.pointer (some ⟨pb, 0, none⟩), .func (.func 425) #[.pointer (some ⟨pb, 0, none⟩)] #[], .slice (some ⟨w.heap.size, 0, none⟩) 5 5] (w.alloc (.cells #[.string ⟨#[60]⟩, .string ⟨#[60, 61]⟩, .string ⟨#[61, 61]⟩, .string ⟨#[33, 61]⟩, .string ⟨#[62, 61]⟩] 9)) fun en w' => ∃ v, en = .returned v ∧ V w' v ∧ PAt w' pb T s' true ∧ Only (fun k => k = pb) (w.alloc (.cells #[.string ⟨#[60]⟩, .string ⟨#[60, 61]⟩, .string ⟨#[61, 61]⟩, .string ⟨#[33, 61]⟩, .string ⟨#[62, 61]⟩] 9)) w') :=
      pair_no 425 cf603 pb T true s s' V hV h1 [⟨#[60]⟩, ⟨#[60, 61]⟩, ⟨#[61, 61]⟩, ⟨#[33, 61]⟩, ⟨#[62, 61]⟩] (by decide) (fun t ht => he.1 t.data.toList (by simp at ht; rcases ht with rfl | rfl | rfl | rfl | rfl <;> decide)) w.heap.size 5 _ (Reads.alloc_at h _) (by simp) (by omega) (strs_new w [⟨#[60]⟩, ⟨#[60, 61]⟩, ⟨#[61, 61]⟩, ⟨#[33, 61]⟩, ⟨#[62, 61]⟩])
    clear he hV h1 h
    go_enter Tryz.func428, Tryz.ntmps428
    go_wp2_with (go_at_call 427; refine (HR.out).mono ?_; rintro en w1 ⟨v, rfl, hv, hp, ho⟩; have Hv := hide hv; have HP := hide hp; have HO : Hid (Only (fun k => k = pb) w w1) := ((Only.refl _ w).alloc _).trans ho (fun _ _ e => e); clear hv hp ho)
    go_ret
    exact ⟨_, rfl, Hv.out, HP.out, HO.out⟩
  | false =>
    have HR : Hid (Calls Tryz.prog 427 #[.pointer (some ⟨pb, 0, none⟩), .func (.func 425) #[.pointer (some ⟨pb, 0, none⟩)] #[], .slice (some ⟨w.heap.size, 0, none⟩) 6 6] (w.alloc (.cells #[.string ⟨#[60]⟩, .string ⟨#[60, 61]⟩, .string ⟨#[61, 61]⟩, .string ⟨#[33, 61]⟩, .string ⟨#[62, 61]⟩, .string ⟨#[62]⟩] 9)) fun en w' => ∃ v, en = .returned v ∧ V w' v ∧ PAt w' pb T s' false ∧ Only (fun k => k = pb) (w.alloc (.cells #[.string ⟨#[60]⟩, .string ⟨#[60, 61]⟩, .string ⟨#[61, 61]⟩, .string ⟨#[33, 61]⟩, .string ⟨#[62, 61]⟩, .string ⟨#[62]⟩] 9)) w') :=
      pair_no 425 cf603 pb T false s s' V hV h1 [⟨#[60]⟩, ⟨#[60, 61]⟩, ⟨#[61, 61]⟩, ⟨#[33, 61]⟩, ⟨#[62, 61]⟩, ⟨#[62]⟩] (by decide) (fun t ht => he.1 t.data.toList (by simp at ht; rcases ht with rfl | rfl | rfl | rfl | rfl | rfl <;> decide)) w.heap.size 6 _ (Reads.alloc_at h _) (by simp) (by omega) (strs_new w [⟨#[60]⟩, ⟨#[60, 61]⟩, ⟨#[61, 61]⟩, ⟨#[33, 61]⟩, ⟨#[62, 61]⟩, ⟨#[62]⟩])
    clear he hV h1 h
    go_enter Tryz.func428, Tryz.ntmps428
    go_wp2_with (go_at_call 427; refine (HR.out).mono ?_; rintro en w1 ⟨v, rfl, hv, hp, ho⟩; have Hv := hide hv; have HP := hide hp; have HO : Hid (Only (fun k => k = pb) w w1) := ((Only.refl _ w).alloc _).trans ho (fun _ _ e => e); clear hv hp ho)
    go_ret
    exact ⟨_, rfl, Hv.out, HP.out, HO.out⟩
set_option maxRecDepth 20000 in
set_option maxHeartbeats 4000000 in
theorem joinsOn_no (pb : Nat) (T : ByteArray) (ge : Bool) (s : TS) (he : Ends s) (w : World) (h : PAt w pb T s ge) :
    Calls Tryz.prog 459 #[.pointer (some ⟨pb, 0, none⟩)] w fun en w' => en = .returned (.bool false) ∧ Only (fun _ => False) w w' := by
  have r3 : w.cell? ⟨pb, 3, none⟩ = some (.int .i64 s.k) := cell_of h rfl
  have hl := h.lt
  obtain ⟨h0, h2, h3, h5, h6, h8⟩ := he
  have d2 : ((s.k : Int) == 2) = false := by rw [beq_eq_false_iff_ne]; omega
  have d3 : ((s.k : Int) == 3) = false := by rw [beq_eq_false_iff_ne]; omega
  have d5 : ((s.k : Int) == 5) = false := by rw [beq_eq_false_iff_ne]; omega
  have d6 : ((s.k : Int) == 6) = false := by rw [beq_eq_false_iff_ne]; omega
  have d8 : ((s.k : Int) == 8) = false := by rw [beq_eq_false_iff_ne]; omega
  have HS := hide (oneOf_no pb T s ge w.heap.size 2 [⟨#[36]⟩, ⟨#[40]⟩] (by decide) (fun t ht => h0 t.data.toList (by simp at ht; rcases ht with rfl | rfl <;> decide)) _ (Reads.alloc_at h _) (strs_new w [⟨#[36]⟩, ⟨#[40]⟩]))
  clear h0 h2 h3 h5 h6 h8 h
  go_enter Tryz.func459, Tryz.ntmps459
  go_wp2_with (go_at_call 184; refine (HS.out).mono ?_; rintro en w2 ⟨rfl, rfl⟩)
  go_ret
  exact ⟨rfl, (Only.refl _ w).alloc _⟩
set_option maxRecDepth 20000 in
set_option maxHeartbeats 4000000 in
theorem joined_rd (pb : Nat) (T : ByteArray) (ge : Bool) (s s' : TS) (V : World → Value → Prop) (hV : Stab pb V) (he : Ends s') (h1 : Reads 458 pb T ge s s' V) : Reads 425 pb T ge s s' V := by
  intro w h
  have HR := hide (h1 w h)
  have HE := hide he
  have HV := hide hV
  clear he hV h1 h
  go_enter Tryz.func425, Tryz.ntmps425
  go_wp2_with fail
  refine (HR.out).mono ?_
  rintro en w1 ⟨v, rfl, hv, hp, ho⟩
  have HJ := hide (joinsOn_no pb T ge s' HE.out w1 hp)
  have Hv := hide hv
  have HP := hide hp
  have HO := hide ho
  have hl1 := hp.lt
  clear hv hp ho HR
  go_wp2
  go_loop [3] (fun s3 => s3 = v) (fun _ => 0)
  case atStart => exact rfl
  case round =>
    subst hrel
    go_wp2_with (go_at_call 459; refine (HJ.out).mono ?_; rintro en w2 ⟨rfl, ho2⟩; have HO2 := hide ho2; clear ho2)
    go_ret
    exact ⟨_, rfl, HV.out _ _ _ Hv.out (HO2.out.mono (fun _ _ e => e.elim)), HP.out.only HO2.out (fun e => e), HO.out.trans HO2.out (fun _ _ e => e.elim)⟩
set_option maxRecDepth 20000 in
set_option maxHeartbeats 4000000 in
theorem unary_rd (pb : Nat) (T : ByteArray) (ge : Bool) (s s' : TS) (V : World → Value → Prop) (hs : seen s [33] = false ∧ seen s [45] = false ∧ seen s [43] = false) (h1 : Reads 496 pb T ge s s' V) : Reads 492 pb T ge s s' V := by
  intro w h
  have hl := h.lt
  have HS := hide (oneOf_no pb T s ge w.heap.size 3 [⟨#[33]⟩, ⟨#[45]⟩, ⟨#[43]⟩] (by decide) (fun t ht => by simp at ht; rcases ht with rfl | rfl | rfl; exact hs.1; exact hs.2.1; exact hs.2.2) _ (Reads.alloc_at h _) (strs_new w [⟨#[33]⟩, ⟨#[45]⟩, ⟨#[43]⟩]))
  have HR := hide (h1 _ (Reads.alloc_at h (.cells #[.string ⟨#[33]⟩, .string ⟨#[45]⟩, .string ⟨#[43]⟩] 9)))
  clear hs h1 h
  go_enter Tryz.func492, Tryz.ntmps492
  go_wp2_with (first | (go_at_call 184; refine (HS.out).mono ?_; rintro en w2 ⟨rfl, rfl⟩) | (go_at_call 496; refine (HR.out).mono ?_; rintro en w1 ⟨v, rfl, hv, hp, ho⟩; have Hv := hide hv; have HP := hide hp; have HO : Hid (Only (fun k => k = pb) w w1) := ((Only.refl _ w).alloc _).trans ho (fun _ _ e => e); clear hv hp ho))
  go_ret
  exact ⟨_, rfl, Hv.out, HP.out, HO.out⟩
/-- All levels of an expression that is one unit. -/
theorem either_of (pb : Nat) (T : ByteArray) (ge : Bool) (s s' : TS) (V : World → Value → Prop) (hV : Stab pb V) (he : Ends s') (hs : seen s [33] = false ∧ seen s [45] = false ∧ seen s [43] = false) (h1 : Reads 496 pb T ge s s' V) : Reads 182 pb T ge s s' V :=
  either_rd pb T ge s s' V hV he (both_rd pb T ge s s' V hV he (matched_rd pb T ge s s' V hV he (compared_rd pb T ge s s' V hV he (joined_rd pb T ge s s' V hV he (sum_rd pb T ge s s' V hV he (product_rd pb T ge s s' V hV he (unary_rd pb T ge s s' V hs h1)))))))
theorem onlyA (w : World) (o : Obj) : Only (fun _ => False) w (w.alloc o) := (Only.refl _ w).alloc o
/-- Is the tree a place? -/
def IsPl (V : World → Value → Prop) (p : Bool) : Prop := ∀ w v, V w v → Calls Tryz.prog 183 #[v] w fun en w' => en = .returned (.bool p) ∧ w' = w
set_option maxRecDepth 20000 in
set_option maxHeartbeats 4000000 in
theorem expr_rd (pb : Nat) (T : ByteArray) (ge : Bool) (s s' : TS) (V : World → Value → Prop) (p : Bool) (hI : IsPl V p) (hV : Stab pb V) (he : Ends s') (h1 : Reads 182 pb T ge s s' V) : Reads 143 pb T ge s s' V := by
  intro w h
  have HR := hide (h1 w h)
  have HE := hide he
  have HV := hide hV
  have HI := hide hI
  clear he hV h1 h hI
  go_enter Tryz.func143, Tryz.ntmps143
  go_wp2_with fail
  refine (HR.out).mono ?_
  rintro en w1 ⟨v, rfl, hv, hp, ho⟩
  have hl1 := hp.lt
  have HPs := hide (passes_no pb T s' ge ⟨#[63]⟩ (HE.out.1 _ (by decide)) w1 hp)
  have HIs := hide (HI.out w1 v hv)
  have HS := hide (oneOf_no pb T s' ge w1.heap.size 6 [⟨#[61]⟩, ⟨#[43, 61]⟩, ⟨#[45, 61]⟩, ⟨#[42, 61]⟩, ⟨#[47, 61]⟩, ⟨#[37, 61]⟩] (by decide) (fun t ht => HE.out.1 t.data.toList (by simp at ht; rcases ht with rfl | rfl | rfl | rfl | rfl | rfl <;> decide)) _ (Reads.alloc_at hp _) (strs_new w1 [⟨#[61]⟩, ⟨#[43, 61]⟩, ⟨#[45, 61]⟩, ⟨#[42, 61]⟩, ⟨#[47, 61]⟩, ⟨#[37, 61]⟩]))
  have Hv := hide hv
  have HP := hide hp
  have HO := hide ho
  clear hv hp ho HR HI
  cases p with
  | true =>
    go_wp2_with (first | (go_at_call 106; refine (HPs.out).mono ?_; rintro en w2 ⟨rfl, rfl⟩) | (go_at_call 183; refine (HIs.out).mono ?_; rintro en w2 ⟨rfl, rfl⟩) | (go_at_call 184; refine (HS.out).mono ?_; rintro en w2 ⟨rfl, rfl⟩))
    go_ret
    exact ⟨_, rfl, HV.out _ _ _ Hv.out ((onlyA _ _).mono (fun _ _ e => e.elim)), HP.out.only (onlyA _ _) (fun e => e), HO.out.trans (onlyA _ _) (fun _ _ e => e.elim)⟩
  | false =>
    go_wp2_with (first | (go_at_call 106; refine (HPs.out).mono ?_; rintro en w2 ⟨rfl, rfl⟩) | (go_at_call 183; refine (HIs.out).mono ?_; rintro en w2 ⟨rfl, rfl⟩))
    go_ret
    exact ⟨_, rfl, Hv.out, HP.out, HO.out⟩
end Go.Proofs.YtdbdbaepmdmnfaaGreatDoor

