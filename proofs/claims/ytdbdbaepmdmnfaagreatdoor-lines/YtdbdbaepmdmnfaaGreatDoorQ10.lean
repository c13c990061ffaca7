import Derived.Test.YtdbdbaepmdmnfaaGreatDoorQ09
namespace Go.Proofs.YtdbdbaepmdmnfaaGreatDoor
open Go.RowKit
/-- Where a parser is: the reader's place, whether a slash divides, and the token it looks at. -/
structure TS where
  i : Nat
  dv : Bool
  k : Nat
  x : ByteArray
  xa : Nat
def PAt (w : World) (pb : Nat) (T : ByteArray) (s : TS) (ge : Bool) : Prop := PSt w pb T s.i s.dv s.k s.x s.xa ge
theorem PAt.only {w w' pb T s ge D} (h : PAt w pb T s ge) (ho : Only D w w') (hd : ¬ D pb) : PAt w' pb T s ge := PSt.only h ho hd
theorem PAt.lt {w pb T s ge} (h : PAt w pb T s ge) : pb < w.heap.size := heap_lt h
def seen (s : TS) (t : List UInt8) : Bool := seesB s.k s.x.data.toList t
theorem sees_at (pb : Nat) (T : ByteArray) (s : TS) (ge : Bool) (t : ByteArray) (v : Bool) (hv : seen s t.data.toList = v) (w : World) (h : PAt w pb T s ge) :
    Calls Tryz.prog 137 #[.pointer (some ⟨pb, 0, none⟩), .string t] w fun en w' => en = .returned (.bool v) ∧ w' = w := by
  subst hv; exact psees_any pb T s.i s.dv s.k s.x s.xa ge t w h
/-- From one token to the next. -/
def Nx (pb : Nat) (T : ByteArray) (s s' : TS) : Prop := GoesOn pb T s.i s.dv s'.i s'.k s'.x s'.xa ∧ s'.dv = endsB s'.k s'.x.data.toList
theorem Nx.on {pb T s s' ge w} (hn : Nx pb T s s') (h : PAt w pb T s ge) : Calls Tryz.prog 73 #[.pointer (some ⟨pb, 0, none⟩)] w fun en w' => en = .returned (.tuple #[]) ∧ PAt w' pb T s' ge ∧ Only (fun k => k = pb) w w' := by
  refine (hn.1 w _ _ _ _ h).mono ?_
  rintro en w' ⟨h1, h2, h3⟩
  refine ⟨h1, ?_, h3⟩
  unfold PAt
  rw [hn.2]
  exact h2
set_option maxHeartbeats 4000000 in
theorem oneOf_no (pb : Nat) (T : ByteArray) (s : TS) (ge : Bool) (b cap : Nat) (ss : List ByteArray) (hl : ss.length ≤ 1000) (hno : ∀ t ∈ ss, seen s t.data.toList = false) (w : World) (h : PAt w pb T s ge) (hA : ∀ (i : Nat) (t : ByteArray), ss[i]? = some t → w.cell? ⟨b, i, none⟩ = some (.string t)) :
    Calls Tryz.prog 184 #[.pointer (some ⟨pb, 0, none⟩), .slice (some ⟨b, 0, none⟩) ss.length cap] w fun en w' => en = .returned (.bool false) ∧ w' = w := by
  have HP := hide h
  have HN := hide hno
  have HA := hide hA
  clear h hno hA
  go_enter Tryz.func184, Tryz.ntmps184
  go_wp2
  go_loop [9] (fun s9 => ∃ k : Nat, s9 = .int .i64 k ∧ k ≤ ss.length) (fun s9 => ss.length - (intOf s9).toNat)
  case atStart => exact ⟨0, rfl, Nat.zero_le _⟩
  case round =>
    obtain ⟨k, rfl, hk⟩ := hrel
    by_cases hlt : k < ss.length
    · have hli : (k : Int) < (ss.length : Int) := by omega
      obtain ⟨t, ht⟩ : ∃ t, ss[k]? = some t := ⟨_, List.getElem?_eq_getElem hlt⟩
      have c0 := HA.out k t ht
      have HS := hide (sees_at pb T s ge t false (HN.out t (List.mem_of_getElem? ht)) w HP.out)
      clear ht
      go_wp2_with (go_at_call 137; refine (HS.out).mono ?_; rintro en w' ⟨rfl, rfl⟩)
      go_round
      case rel => exact ⟨k + 1, by go_num, by omega⟩
      case measure => simp [intOf]; omega
    · have hli : ¬ (k : Int) < (ss.length : Int) := by omega
      go_wp2
      go_ret
      exact ⟨rfl, rfl⟩
set_option maxHeartbeats 4000000 in
theorem passes_no (pb : Nat) (T : ByteArray) (s : TS) (ge : Bool) (t : ByteArray) (hv : seen s t.data.toList = false) (w : World) (h : PAt w pb T s ge) :
    Calls Tryz.prog 106 #[.pointer (some ⟨pb, 0, none⟩), .string t] w fun en w' => en = .returned (.bool false) ∧ w' = w := by
  have HS := hide (sees_at pb T s ge t false hv w h)
  clear h
  go_enter Tryz.func106, Tryz.ntmps106
  go_wp2_with (go_at_call 137; refine (HS.out).mono ?_; rintro en w' ⟨rfl, rfl⟩)
  go_ret
  exact ⟨rfl, rfl⟩
set_option maxHeartbeats 4000000 in
theorem passes_yes (pb : Nat) (T : ByteArray) (s s' : TS) (ge : Bool) (t : ByteArray) (hv : seen s t.data.toList = true) (hn : Nx pb T s s') (w : World) (h : PAt w pb T s ge) :
    Calls Tryz.prog 106 #[.pointer (some ⟨pb, 0, none⟩), .string t] w fun en w' => en = .returned (.bool true) ∧ PAt w' pb T s' ge ∧ Only (fun k => k = pb) w w' := by
  have HS := hide (sees_at pb T s ge t true hv w h)
  have HN := hide (hn.on h)
  clear h hn
  go_enter Tryz.func106, Tryz.ntmps106
  go_wp2_with (first | (go_at_call 137; refine (HS.out).mono ?_; rintro en w' ⟨rfl, rfl⟩) | (go_at_call 73; refine (HN.out).mono ?_; rintro en w1 ⟨rfl, hp, ho⟩))
  go_ret
  exact ⟨rfl, hp, ho⟩
set_option maxHeartbeats 4000000 in
theorem need_yes (pb : Nat) (T : ByteArray) (s s' : TS) (ge : Bool) (t : ByteArray) (hv : seen s t.data.toList = true) (hn : Nx pb T s s') (w : World) (h : PAt w pb T s ge) :
    Calls Tryz.prog 140 #[.pointer (some ⟨pb, 0, none⟩), .string t] w fun en w' => en = .returned (.tuple #[]) ∧ PAt w' pb T s' ge ∧ Only (fun k => k = pb) w w' := by
  have HS := hide (passes_yes pb T s s' ge t hv hn w h)
  clear h hn
  go_enter Tryz.func140, Tryz.ntmps140
  go_wp2_with (go_at_call 106; refine (HS.out).mono ?_; rintro en w1 ⟨rfl, hp, ho⟩)
  go_end0
  exact ⟨rfl, hp, ho⟩
set_option maxRecDepth 10000 in
set_option maxHeartbeats 4000000 in
theorem take_yes (pb : Nat) (T : ByteArray) (s s' : TS) (ge : Bool) (hn : Nx pb T s s') (w : World) (h : PAt w pb T s ge) :
    Calls Tryz.prog 139 #[.pointer (some ⟨pb, 0, none⟩)] w fun en w' => en = .returned (.agg #[.string s.x, .int .i64 s.xa]) ∧ PAt w' pb T s' ge ∧ Only (fun k => k = pb) w w' := by
  have hl := h.lt
  have r4 : w.cell? ⟨pb, 4, none⟩ = some (.string s.x) := cell_of h rfl
  have r5 : w.cell? ⟨pb, 5, none⟩ = some (.int .i64 s.xa) := cell_of h rfl
  have HP := hide h
  have HN := hide hn
  clear h hn
  go_enter Tryz.func139, Tryz.ntmps139
  go_wp2
  go_region
  all_goals
    have hp0 : PAt (((w.alloc (.cells #[.string ⟨#[]⟩, .int .i64 0] 92)).alloc (.cells #[.string s.x, .int .i64 s.xa] 92)).drew) pb T s ge := (Below.heap_alloc _ _ _ (by simp; omega)).trans ((Below.heap_alloc _ _ _ hl).trans HP.out)
    go_wp2_with fail
    refine (HN.out.on hp0).mono ?_
    rintro en w1 ⟨rfl, hp1, ho1⟩
    have hz1 : w.heap.size + 2 ≤ w1.heap.size := by have := ho1.size; simpa using this
    have hb0 : w1.heap[w.heap.size]? = some (.cells #[.string ⟨#[]⟩, .int .i64 0] 92 (0, 0)) := (ho1.block w.heap.size (by simp; omega) (by intro e; omega)).trans ((Below.heap_alloc _ _ _ (by simp)).trans (new0 w _))
    have hb1 : w1.heap[w.heap.size + 1]? = some (.cells #[.string s.x, .int .i64 s.xa] 92 (0, 0)) := (ho1.block (w.heap.size + 1) (by simp) (by intro e; omega)).trans (new_at2 (by simp) _)
    have q0 : w1.cell? ⟨w.heap.size, 0, none⟩ = some (.string ⟨#[]⟩) := cell_of hb0 rfl
    have q1 : w1.cell? ⟨w.heap.size, 1, none⟩ = some (.int .i64 0) := cell_of hb0 rfl
    have qf := free_of hb0
    have t0 : w1.cell? ⟨w.heap.size + 1, 0, none⟩ = some (.string s.x) := cell_of hb1 rfl
    have t1 : w1.cell? ⟨w.heap.size + 1, 1, none⟩ = some (.int .i64 s.xa) := cell_of hb1 rfl
    have HP1 := hide hp1
    have HO1 : Hid (Only (fun k => k = pb) w w1) := ((((Only.refl _ w).alloc _).alloc _).drewN 1).trans ho1 (fun _ _ e => e)
    have hpn : pb ≠ w.heap.size := by omega
    clear hp0 hp1 ho1 hb0 hb1
    go_wp2
    refine bodyPost_ret (v := .agg #[.string s.x, .int .i64 s.xa]) (by simp [results, Tryz.results139, go_sem, q0, q1]) rfl ⟨rfl, ?_, ?_⟩
    · show _ = _
      rw [Below.heap_setCell _ _ _ _ hpn, Below.heap_setCell _ _ _ _ hpn]
      exact HP1.out
    · exact (HO1.out.setCell (p := ⟨w.heap.size, 0, none⟩) (fun h => absurd h (Nat.lt_irrefl _)) _).setCell (p := ⟨w.heap.size, 1, none⟩) (fun h => absurd h (Nat.lt_irrefl _)) _
end Go.Proofs.YtdbdbaepmdmnfaaGreatDoor
namespace Go.Proofs.YtdbdbaepmdmnfaaGreatDoor
open Go.RowKit
/-- What a part of the parser reads: from s to s', a tree that V tells. -/
def Reads (f : Nat) (pb : Nat) (T : ByteArray) (ge : Bool) (s s' : TS) (V : World → Value → Prop) : Prop :=
  ∀ w, PAt w pb T s ge → Calls Tryz.prog f #[.pointer (some ⟨pb, 0, none⟩)] w fun en w' => ∃ v, en = .returned v ∧ V w' v ∧ PAt w' pb T s' ge ∧ Only (fun k => k = pb) w w'
/-- What V tells stands while only the parser's block turns. -/
def Stab (pb : Nat) (V : World → Value → Prop) : Prop := ∀ w w' v, V w v → Only (fun k => k = pb) w w' → V w' v
theorem callFunc_in {f : FuncId} {fn : Func} {c : Code} (hf : Tryz.prog.funcs[f]? = some fn) (hname : (fn.name == "runtime.NumGoroutine") = false) (hb : fn.body = some c) (args : Array Value) (w : World) :
    (callFunc f args).run Tryz.prog w = .ok (.enter f args) w := by
  have h1 : fn.name ≠ "runtime.NumGoroutine" := by simpa using hname
  simp [callFunc, hf, h1, hb]
theorem cf438 (args : Array Value) (w : World) : (callFunc 253 args).run Tryz.prog w = .ok (.enter 253 args) w := callFunc_in Tryz.func253 (by kernel_rfl) rfl args w
theorem cf546 (args : Array Value) (w : World) : (callFunc 362 args).run Tryz.prog w = .ok (.enter 362 args) w := callFunc_in Tryz.func362 (by kernel_rfl) rfl args w
theorem cf606 (args : Array Value) (w : World) : (callFunc 428 args).run Tryz.prog w = .ok (.enter 428 args) w := callFunc_in Tryz.func428 (by kernel_rfl) rfl args w
theorem cf603 (args : Array Value) (w : World) : (callFunc 425 args).run Tryz.prog w = .ok (.enter 425 args) w := callFunc_in Tryz.func425 (by kernel_rfl) rfl args w
theorem cf645 (args : Array Value) (w : World) : (callFunc 482 args).run Tryz.prog w = .ok (.enter 482 args) w := callFunc_in Tryz.func482 (by kernel_rfl) rfl args w
theorem cf650 (args : Array Value) (w : World) : (callFunc 492 args).run Tryz.prog w = .ok (.enter 492 args) w := callFunc_in Tryz.func492 (by kernel_rfl) rfl args w
set_option maxRecDepth 20000 in
set_option maxHeartbeats 4000000 in
theorem row_no (f1 : Nat) (hcf : ∀ (args : Array Value) (w : World), (callFunc f1 args).run Tryz.prog w = .ok (.enter f1 args) w) (pb : Nat) (T : ByteArray) (ge : Bool) (s s' : TS) (V : World → Value → Prop) (hV : Stab pb V) (h1 : Reads f1 pb T ge s s' V) (ss : List ByteArray) (hl : ss.length ≤ 1000) (hno : ∀ t ∈ ss, seen s' t.data.toList = false)
    (b cap : Nat) (w : World) (h : PAt w pb T s ge) (hb : b < w.heap.size) (hbp : b ≠ pb) (hA : ∀ (i : Nat) (t : ByteArray), ss[i]? = some t → w.cell? ⟨b, i, none⟩ = some (.string t)) :
    Calls Tryz.prog 252 #[.pointer (some ⟨pb, 0, none⟩), .func (.func f1) #[.pointer (some ⟨pb, 0, none⟩)] #[], .slice (some ⟨b, 0, none⟩) ss.length cap] w fun en w' => ∃ v, en = .returned v ∧ V w' v ∧ PAt w' pb T s' ge ∧ Only (fun k => k = pb) w w' := by
  have H1 := hide (h1 w h)
  have HN := hide hno
  have HA := hide hA
  have HV := hide hV
  clear hno hA hV h1 h
  go_enter Tryz.func252, Tryz.ntmps252
  go_wp2_with fail
  refine (H1.out).mono ?_
  rintro en w1 ⟨v, rfl, hv, hp, ho⟩
  have HS := hide (oneOf_no pb T s' ge b cap ss hl HN.out w1 hp (fun i t ht => (ho.cell (p := ⟨b, i, none⟩) hb hbp).trans (HA.out i t ht)))
  have Hv := hide hv
  have HP := hide hp
  have HO := hide ho
  clear hv hp ho
  go_wp2
  go_loop [7] (fun s7 => s7 = v) (fun _ => 0)
  case atStart => exact rfl
  case round =>
    subst hrel
    go_wp2_with (go_at_call 184; refine (HS.out).mono ?_; rintro en w2 ⟨rfl, rfl⟩)
    go_ret
    exact ⟨_, rfl, Hv.out, HP.out, HO.out⟩
set_option maxRecDepth 20000 in
set_option maxHeartbeats 4000000 in
theorem pair_no (f1 : Nat) (hcf : ∀ (args : Array Value) (w : World), (callFunc f1 args).run Tryz.prog w = .ok (.enter f1 args) w) (pb : Nat) (T : ByteArray) (ge : Bool) (s s' : TS) (V : World → Value → Prop) (hV : Stab pb V) (h1 : Reads f1 pb T ge s s' V) (ss : List ByteArray) (hl : ss.length ≤ 1000) (hno : ∀ t ∈ ss, seen s' t.data.toList = false)
    (b cap : Nat) (w : World) (h : PAt w pb T s ge) (hb : b < w.heap.size) (hbp : b ≠ pb) (hA : ∀ (i : Nat) (t : ByteArray), ss[i]? = some t → w.cell? ⟨b, i, none⟩ = some (.string t)) :
    Calls Tryz.prog 427 #[.pointer (some ⟨pb, 0, none⟩), .func (.func f1) #[.pointer (some ⟨pb, 0, none⟩)] #[], .slice (some ⟨b, 0, none⟩) ss.length cap] w fun en w' => ∃ v, en = .returned v ∧ V w' v ∧ PAt w' pb T s' ge ∧ Only (fun k => k = pb) w w' := by
  have H1 := hide (h1 w h)
  have HN := hide hno
  have HA := hide hA
  have HV := hide hV
  clear hno hA hV h1 h
  go_enter Tryz.func427, Tryz.ntmps427
  go_wp2_with fail
  refine (H1.out).mono ?_
  rintro en w1 ⟨v, rfl, hv, hp, ho⟩
  have HS := hide (oneOf_no pb T s' ge b cap ss hl HN.out w1 hp (fun i t ht => (ho.cell (p := ⟨b, i, none⟩) hb hbp).trans (HA.out i t ht)))
  have Hv := hide hv
  have HP := hide hp
  have HO := hide ho
  clear hv hp ho
  go_wp2_with (go_at_call 184; refine (HS.out).mono ?_; rintro en w2 ⟨rfl, rfl⟩)
  go_ret
  exact ⟨_, rfl, Hv.out, HP.out, HO.out⟩
end Go.Proofs.YtdbdbaepmdmnfaaGreatDoor
namespace Go.Proofs.YtdbdbaepmdmnfaaGreatDoor
open Go.RowKit
def opS : List (List UInt8) := [[124, 124], [38, 38], [126], [33, 126], [105, 110], [60], [60, 61], [61, 61], [33, 61], [62, 61], [62], [43], [45], [42], [47], [37], [36], [40], [63], [61], [43, 61], [45, 61], [42, 61], [47, 61], [37, 61]]
/-- A token with which an expression has ended. -/
def Ends (s : TS) : Prop := (∀ t ∈ opS, seen s t = false) ∧ ¬ s.k = 2 ∧ ¬ s.k = 3 ∧ ¬ s.k = 5 ∧ ¬ s.k = 6 ∧ ¬ s.k = 8
theorem Reads.alloc_at {w : World} {pb : Nat} {T : ByteArray} {s : TS} {ge : Bool} (h : PAt w pb T s ge) (o : Obj) : PAt (w.alloc o) pb T s ge := (Below.heap_alloc _ _ _ (heap_lt h)).trans h
theorem strs_new (w : World) (ss : List ByteArray) : ∀ (i : Nat) (t : ByteArray), ss[i]? = some t → (w.alloc (.cells (ss.map Value.string).toArray 9)).cell? ⟨w.heap.size, i, none⟩ = some (.string t) := fun i t ht => cell_of (new0 w _) (by rw [List.getElem?_toArray, List.getElem?_map, ht]; rfl)
set_option maxRecDepth 20000 in
set_option maxHeartbeats 4000000 in
theorem either_rd (pb : Nat) (T : ByteArray) (ge : Bool) (s s' : TS) (V : World → Value → Prop) (hV : Stab pb V) (he : Ends s') (h1 : Reads 253 pb T ge s s' V) : Reads 182 pb T ge s s' V := by
  intro w h
  have hl := h.lt
  have HR : Hid (Calls Tryz.prog 252 #[.pointer (some ⟨pb, 0, none⟩), .func (.func 253) #[.pointer (some ⟨pb, 0, none⟩)] #[], .slice (some ⟨w.heap.size, 0, none⟩) 1 1] (w.alloc (.cells #[.string ⟨#[124, 124]⟩] 9)) fun en w' => ∃ v, en = .returned v ∧ V w' v ∧ PAt w' pb T s' ge ∧ Only (fun k => k = pb) (w.alloc (.cells #[.string ⟨#[124, 124]⟩] 9)) w') :=
    row_no 253 cf438 pb T ge s s' V hV h1 [⟨#[124, 124]⟩] (by decide) (fun t ht => he.1 t.data.toList (by simp at ht; subst ht; decide)) w.heap.size 1 _ (Reads.alloc_at h _) (by simp) (by omega) (strs_new w [⟨#[124, 124]⟩])
  clear he hV h1 h
  go_enter Tryz.func182, Tryz.ntmps182
  go_wp2_with (go_at_call 252; refine (HR.out).mono ?_; rintro en w1 ⟨v, rfl, hv, hp, ho⟩; have Hv := hide hv; have HP := hide hp; have HO : Hid (Only (fun k => k = pb) w w1) := ((Only.refl _ w).alloc _).trans ho (fun _ _ e => e); clear hv hp ho)
  go_ret
  exact ⟨_, rfl, Hv.out, HP.out, HO.out⟩
set_option maxRecDepth 20000 in
set_option maxHeartbeats 4000000 in
theorem both_rd (pb : Nat) (T : ByteArray) (ge : Bool) (s s' : TS) (V : World → Value → Prop) (hV : Stab pb V) (he : Ends s') (h1 : Reads 362 pb T ge s s' V) : Reads 253 pb T ge s s' V := by
  intro w h
  have hl := h.lt
  have HR : Hid (Calls Tryz.prog 252 #[.pointer (some ⟨pb, 0, none⟩), .func (.func 362) #[.pointer (some ⟨pb, 0, none⟩)] #[], .slice (some ⟨w.heap.size, 0, none⟩) 1 1] (w.alloc (.cells #[.string ⟨#[38, 38]⟩] 9)) fun en w' => ∃ v, en = .returned v ∧ V w' v ∧ PAt w' pb T s' ge ∧ Only (fun k => k = pb) (w.alloc (.cells #[.string ⟨#[38, 38]⟩] 9)) w') :=
    row_no 362 cf546 pb T ge s s' V hV h1 [⟨#[38, 38]⟩] (by decide) (fun t ht => he.1 t.data.toList (by simp at ht; subst ht; decide)) w.heap.size 1 _ (Reads.alloc_at h _) (by simp) (by omega) (strs_new w [⟨#[38, 38]⟩])
  clear he hV h1 h
  go_enter Tryz.func253, Tryz.ntmps253
  go_wp2_with (go_at_call 252; refine (HR.out).mono ?_; rintro en w1 ⟨v, rfl, hv, hp, ho⟩; have Hv := hide hv; have HP := hide hp; have HO : Hid (Only (fun k => k = pb) w w1) := ((Only.refl _ w).alloc _).trans ho (fun _ _ e => e); clear hv hp ho)
  go_ret
  exact ⟨_, rfl, Hv.out, HP.out, HO.out⟩
set_option maxRecDepth 20000 in
set_option maxHeartbeats 4000000 in
theorem sum_rd (pb : Nat) (T : ByteArray) (ge : Bool) (s s' : TS) (V : World → Value → Prop) (hV : Stab pb V) (he : Ends s') (h1 : Reads 482 pb T ge s s' V) : Reads 458 pb T ge s s' V := by
  intro w h
  have hl := h.lt
  have HR : Hid (Calls Tryz.prog 252 #[.pointer (some ⟨pb, 0, none⟩), .func (.func 482) #[.pointer (some ⟨pb, 0, none⟩)] #[], .slice (some ⟨w.heap.size, 0, none⟩) 2 2] (w.alloc (.cells #[.string ⟨#[43]⟩, .string ⟨#[45]⟩] 9)) fun en w' => ∃ v, en = .returned v ∧ V w' v ∧ PAt w' pb T s' ge ∧ Only (fun k => k = pb) (w.alloc (.cells #[.string ⟨#[43]⟩, .string ⟨#[45]⟩] 9)) w') :=
    row_no 482 cf645 pb T ge s s' V hV h1 [⟨#[43]⟩, ⟨#[45]⟩] (by decide) (fun t ht => he.1 t.data.toList (by simp at ht; rcases ht with rfl | rfl <;> decide)) w.heap.size 2 _ (Reads.alloc_at h _) (by simp) (by omega) (strs_new w [⟨#[43]⟩, ⟨#[45]⟩])
  clear he hV h1 h
  go_enter Tryz.func458, Tryz.ntmps458
  go_wp2_with (go_at_call 252; refine (HR.out).mono ?_; rintro en w1 ⟨v, rfl, hv, hp, ho⟩; have Hv := hide hv; have HP := hide hp; have HO : Hid (Only (fun k => k = pb) w w1) := ((Only.refl _ w).alloc _).trans ho (fun _ _ e => e); clear hv hp ho)
  go_ret
  exact ⟨_, rfl, Hv.out, HP.out, HO.out⟩
set_option maxRecDepth 20000 in
set_option maxHeartbeats 4000000 in
theorem product_rd (pb : Nat) (T : ByteArray) (ge : Bool) (s s' : TS) (V : World → Value → Prop) (hV : Stab pb V) (he : Ends s') (h1 : Reads 492 pb T ge s s' V) : Reads 482 pb T ge s s' V := by
  intro w h
  have hl := h.lt
  have HR : Hid (Calls Tryz.prog 252 #[.pointer (some ⟨pb, 0, none⟩), .func (.func 492) #[.pointer (some ⟨pb, 0, none⟩)] #[], .slice (some ⟨w.heap.size, 0, none⟩) 3 3] (w.alloc (.cells #[.string ⟨#[42]⟩, .string ⟨#[47]⟩, .string ⟨#[37]⟩] 9)) fun en w' => ∃ v, en = .returned v ∧ V w' v ∧ PAt w' pb T s' ge ∧ Only (fun k => k = pb) (w.alloc (.cells #[.string ⟨#[42]⟩, .string ⟨#[47]⟩, .string ⟨#[37]⟩] 9)) w') :=
    row_no 492 cf650 pb T ge s s' V hV h1 [⟨#[42]⟩, ⟨#[47]⟩, ⟨#[37]⟩] (by decide) (fun t ht => he.1 t.data.toList (by simp at ht; rcases ht with rfl | rfl | rfl <;> decide)) w.heap.size 3 _ (Reads.alloc_at h _) (by simp) (by omega) (strs_new w [⟨#[42]⟩, ⟨#[47]⟩, ⟨#[37]⟩])
  clear he hV h1 h
  go_enter Tryz.func482, Tryz.ntmps482
  go_wp2_with (go_at_call 252; refine (HR.out).mono ?_; rintro en w1 ⟨v, rfl, hv, hp, ho⟩; have Hv := hide hv; have HP := hide hp; have HO : Hid (Only (fun k => k = pb) w w1) := ((Only.refl _ w).alloc _).trans ho (fun _ _ e => e); clear hv hp ho)
  go_ret
  exact ⟨_, rfl, Hv.out, HP.out, HO.out⟩
end Go.Proofs.YtdbdbaepmdmnfaaGreatDoor
namespace Go.Proofs.YtdbdbaepmdmnfaaGreatDoor
open Go.RowKit
set_option maxRecDepth 20000 in
set_option maxHeartbeats 4000000 in
theorem matched_rd (pb : Nat) (T : ByteArray) (ge : Bool) (s s' : TS) (V : World → Value → Prop) (hV : Stab pb V) (he : Ends s') (h1 : Reads 428 pb T ge s s' V) : Reads 362 pb T ge s s' V := by
  intro w h
  have hl := h.lt
  have HR : Hid (Calls Tryz.prog 427 #[.pointer (some ⟨pb, 0, none⟩), .func (.func 428) #[.pointer (some ⟨pb, 0, none⟩)] #[], .slice (some ⟨w.heap.size, 0, none⟩) 2 2] (w.alloc (.cells #[.string ⟨#[126]⟩, .string ⟨#[33, 126]⟩] 9)) fun en w' => ∃ v, en = .returned v ∧ V w' v ∧ PAt w' pb T s' ge ∧ Only (fun k => k = pb) (w.alloc (.cells #[.string ⟨#[126]⟩, .string ⟨#[33, 126]⟩] 9)) w') :=
    pair_no 428 cf606 pb T ge s s' V hV h1 [⟨#[126]⟩, ⟨#[33, 126]⟩] (by decide) (fun t ht => he.1 t.data.toList (by simp at ht; rcases ht with rfl | rfl <;> decide)) w.heap.size 2 _ (Reads.alloc_at h _) (by simp) (by omega) (strs_new w [⟨#[126]⟩, ⟨#[33, 126]⟩])
  have hin : seen s' [105, 110] = false := he.1 _ (by decide)
  clear he hV h1 h
  go_enter Tryz.func362, Tryz.ntmps362
  go_wp2_with fail
  refine (HR.out).mono ?_
  rintro en w1 ⟨v, rfl, hv, hp, ho⟩
  have HPs := hide (passes_no pb T s' ge ⟨#[105, 110]⟩ hin w1 hp)
  have Hv := hide hv
  have HP := hide hp
  have HO : Hid (Only (fun k => k = pb) w w1) := ((Only.refl _ w).alloc _).trans ho (fun _ _ e => e)
  clear hv hp ho HR
  go_wp2
  go_loop [3] (fun s3 => s3 = v) (fun _ => 0)
  case atStart => exact rfl
  case round =>
    subst hrel
    go_wp2_with (go_at_call 106; refine (HPs.out).mono ?_; rintro en w2 ⟨rfl, rfl⟩)
    go_ret
    exact ⟨_, rfl, Hv.out, HP.out, HO.out⟩
set_option maxRecDepth 20000 in
set_option maxHeartbeats 4000000 in
theorem compared_rd (pb : Nat) (T : ByteArray) (ge : Bool) (s s' : TS) (V : World → Value → Prop) (hV : Stab pb V) (he : Ends s') (h1 : Reads 425 pb T ge s s' V) : Reads 428 pb T ge s s' V := by
  intro w h
  have hl := h.lt
  have r6 : w.cell? ⟨pb, 6, none⟩ = some (.bool ge) := cell_of h rfl
  cases ge with
  | true =>
    have HR : Hid (Calls Tryz.prog 427 #[.pointer (some ⟨pb, 0, none⟩), .func (.func 425) #[.pointer (some ⟨pb, 0, none⟩)] #[], .slice (some ⟨w.heap.size, 0, none⟩) 5 5] (w.alloc (.cells #[.string ⟨#[60]⟩, .string ⟨#[60, 61]⟩, .string ⟨#[61, 61]⟩, .string ⟨#[33, 61]⟩, .string ⟨#[62, 61]⟩] 9)) fun en w' => ∃ v, en = .returned v ∧ V w' v ∧ PAt w' pb T s' true ∧ Only (fun k => k = pb) (w.alloc (.cells #[.string ⟨#[60]⟩, .string ⟨#[60, 61]⟩, .string ⟨#[61, 61]⟩, .string ⟨#[33, 61]⟩, .string ⟨#[62, 61]⟩] 9)) w') :=
      pair_no 425 cf603 pb T true s s' V hV h1 [⟨#[60]⟩, ⟨#[60, 61]⟩, ⟨#[61, 61]⟩, ⟨#[33, 61]⟩, ⟨#[62, 61]⟩] (by decide) (fun t ht => he.1 t.data.toList (by simp at ht; rcases ht with rfl | rfl | rfl | rfl | rfl <;> decide)) w.heap.size 5 _ (Reads.alloc_at h _) (by simp) (by omega) (strs_new w [⟨#[60]⟩, ⟨#[60, 61]⟩, ⟨#[61, 61]⟩, ⟨#[33, 61]⟩, ⟨#[62, 61]⟩])
    clear he hV h1 h
    go_enter Tryz.func428, Tryz.ntmps428
    go_wp2_with (go_at_call 427; refine (HR.out).mono ?_; rintro en w1 ⟨v, rfl, hv, hp, ho⟩; have Hv := hide hv; have HP := hide hp; have HO : Hid (Only (fun k => k = pb) w w1) := ((Only.refl _ w).alloc _).trans ho (fun _ _ e => e); clear hv hp ho)
    go_ret
    exact ⟨_, rfl, Hv.out, HP.out, HO.out⟩
  | false =>
    have HR : Hid (Calls Tryz.prog 427 #[.pointer (some ⟨pb, 0, none⟩), .func (.func 425) #[.pointer (some ⟨pb, 0, none⟩)] #[], .slice (some ⟨w.heap.size, 0, none⟩) 6 6] (w.alloc (.cells #[.string ⟨#[60]⟩, .string ⟨#[60, 61]⟩, .string ⟨#[61, 61]⟩, .string ⟨#[33, 61]⟩, .string ⟨#[62, 61]⟩, .string ⟨#[62]⟩] 9)) fun en w' => ∃ v, en = .returned v ∧ V w' v ∧ PAt w' pb T s' false ∧ Only (fun k => k = pb) (w.alloc (.cells #[.string ⟨#[60]⟩, .string ⟨#[60, 61]⟩, .string ⟨#[61, 61]⟩, .string ⟨#[33, 61]⟩, .string ⟨#[62, 61]⟩, .string ⟨#[62]⟩] 9)) w') :=
      pair_no 425 cf603 pb T false s s' V hV h1 [⟨#[60]⟩, ⟨#[60, 61]⟩, ⟨#[61, 61]⟩, ⟨#[33, 61]⟩, ⟨#[62, 61]⟩, ⟨#[62]⟩] (by decide) (fun t ht => he.1 t.data.toList (by simp at ht; rcases ht with rfl | rfl | rfl | rfl | rfl | rfl <;> decide)) w.heap.size 6 _ (Reads.alloc_at h _) (by simp) (by omega) (strs_new w [⟨#[60]⟩, ⟨#[60, 61]⟩, ⟨#[61, 61]⟩, ⟨#[33, 61]⟩, ⟨#[62, 61]⟩, ⟨#[62]⟩])
    clear he hV h1 h
    go_enter Tryz.func428, Tryz.ntmps428
    go_wp2_with (go_at_call 427; refine (HR.out).mono ?_; rintro en w1 ⟨v, rfl, hv, hp, ho⟩; have Hv := hide hv; have HP := hide hp; have HO : Hid (Only (fun k => k = pb) w w1) := ((Only.refl _ w).alloc _).trans ho (fun _ _ e => e); clear hv hp ho)
    go_ret
    exact ⟨_, rfl, Hv.out, HP.out, HO.out⟩
set_option maxRecDepth 20000 in
set_option maxHeartbeats 4000000 in
theorem joinsOn_no (pb : Nat) (T : ByteArray) (ge : Bool) (s : TS) (he : Ends s) (w : World) (h : PAt w pb T s ge) :
    Calls Tryz.prog 459 #[.pointer (some ⟨pb, 0, none⟩)] w fun en w' => en = .returned (.bool false) ∧ Only (fun _ => False) w w' := by
  have r3 : w.cell? ⟨pb, 3, none⟩ = some (.int .i64 s.k) := cell_of h rfl
  have hl := h.lt
  obtain ⟨h0, h2, h3, h5, h6, h8⟩ := he
  have d2 : ((s.k : Int) == 2) = false := by rw [beq_eq_false_iff_ne]; omega
  have d3 : ((s.k : Int) == 3) = false := by rw [beq_eq_false_iff_ne]; omega
  have d5 : ((s.k : Int) == 5) = false := by rw [beq_eq_false_iff_ne]; omega
  have d6 : ((s.k : Int) == 6) = false := by rw [beq_eq_false_iff_ne]; omega
  have d8 : ((s.k : Int) == 8) = false := by rw [beq_eq_false_iff_ne]; omega
  have HS := hide (oneOf_no pb T s ge w.heap.size 2 [⟨#[36]⟩, ⟨#[40]⟩] (by decide) (fun t ht => h0 t.data.toList (by simp at ht; rcases ht with rfl | rfl <;> decide)) _ (Reads.alloc_at h _) (strs_new w [⟨#[36]⟩, ⟨#[40]⟩]))
  clear h0 h2 h3 h5 h6 h8 h
  go_enter Tryz.func459, Tryz.ntmps459
  go_wp2_with (go_at_call 184; refine (HS.out).mono ?_; rintro en w2 ⟨rfl, rfl⟩)
  go_ret
  exact ⟨rfl, (Only.refl _ w).alloc _⟩
set_option maxRecDepth 20000 in
set_option maxHeartbeats 4000000 in
theorem joined_rd (pb : Nat) (T : ByteArray) (ge : Bool) (s s' : TS) (V : World → Value → Prop) (hV : Stab pb V) (he : Ends s') (h1 : Reads 458 pb T ge s s' V) : Reads 425 pb T ge s s' V := by
  intro w h
  have HR := hide (h1 w h)
  have HE := hide he
  have HV := hide hV
  clear he hV h1 h
  go_enter Tryz.func425, Tryz.ntmps425
  go_wp2_with fail
  refine (HR.out).mono ?_
  rintro en w1 ⟨v, rfl, hv, hp, ho⟩
  have HJ := hide (joinsOn_no pb T ge s' HE.out w1 hp)
  have Hv := hide hv
  have HP := hide hp
  have HO := hide ho
  have hl1 := hp.lt
  clear hv hp ho HR
  go_wp2
  go_loop [3] (fun s3 => s3 = v) (fun _ => 0)
  case atStart => exact rfl
  case round =>
    subst hrel
    go_wp2_with (go_at_call 459; refine (HJ.out).mono ?_; rintro en w2 ⟨rfl, ho2⟩; have HO2 := hide ho2; clear ho2)
    go_ret
    exact ⟨_, rfl, HV.out _ _ _ Hv.out (HO2.out.mono (fun _ _ e => e.elim)), HP.out.only HO2.out (fun e => e), HO.out.trans HO2.out (fun _ _ e => e.elim)⟩
set_option maxRecDepth 20000 in
set_option maxHeartbeats 4000000 in
theorem unary_rd (pb : Nat) (T : ByteArray) (ge : Bool) (s s' : TS) (V : World → Value → Prop) (hs : seen s [33] = false ∧ seen s [45] = false ∧ seen s [43] = false) (h1 : Reads 496 pb T ge s s' V) : Reads 492 pb T ge s s' V := by
  intro w h
  have hl := h.lt
  have HS := hide (oneOf_no pb T s ge w.heap.size 3 [⟨#[33]⟩, ⟨#[45]⟩, ⟨#[43]⟩] (by decide) (fun t ht => by simp at ht; rcases ht with rfl | rfl | rfl; exact hs.1; exact hs.2.1; exact hs.2.2) _ (Reads.alloc_at h _) (strs_new w [⟨#[33]⟩, ⟨#[45]⟩, ⟨#[43]⟩]))
  have HR := hide (h1 _ (Reads.alloc_at h (.cells #[.string ⟨#[33]⟩, .string ⟨#[45]⟩, .string ⟨#[43]⟩] 9)))
  clear hs h1 h
  go_enter Tryz.func492, Tryz.ntmps492
  go_wp2_with (first | (go_at_call 184; refine (HS.out).mono ?_; rintro en w2 ⟨rfl, rfl⟩) | (go_at_call 496; refine (HR.out).mono ?_; rintro en w1 ⟨v, rfl, hv, hp, ho⟩; have Hv := hide hv; have HP := hide hp; have HO : Hid (Only (fun k => k = pb) w w1) := ((Only.refl _ w).alloc _).trans ho (fun _ _ e => e); clear hv hp ho))
  go_ret
  exact ⟨_, rfl, Hv.out, HP.out, HO.out⟩
/-- All levels of an expression that is one unit. -/
theorem either_of (pb : Nat) (T : ByteArray) (ge : Bool) (s s' : TS) (V : World → Value → Prop) (hV : Stab pb V) (he : Ends s') (hs : seen s [33] = false ∧ seen s [45] = false ∧ seen s [43] = false) (h1 : Reads 496 pb T ge s s' V) : Reads 182 pb T ge s s' V :=
  either_rd pb T ge s s' V hV he (both_rd pb T ge s s' V hV he (matched_rd pb T ge s s' V hV he (compared_rd pb T ge s s' V hV he (joined_rd pb T ge s s' V hV he (sum_rd pb T ge s s' V hV he (product_rd pb T ge s s' V hV he (unary_rd pb T ge s s' V hs h1)))))))
theorem onlyA (w : World) (o : Obj) : Only (fun _ => False) w (w.alloc o) := (Only.refl _ w).alloc o
/-- Is the tree a place? -/
def IsPl (V : World → Value → Prop) (p : Bool) : Prop := ∀ w v, V w v → Calls Tryz.prog 183 #[v] w fun en w' => en = .returned (.bool p) ∧ w' = w
set_option maxRecDepth 20000 in
set_option maxHeartbeats 4000000 in
theorem expr_rd (pb : Nat) (T : ByteArray) (ge : Bool) (s s' : TS) (V : World → Value → Prop) (p : Bool) (hI : IsPl V p) (hV : Stab pb V) (he : Ends s') (h1 : Reads 182 pb T ge s s' V) : Reads 143 pb T ge s s' V := by
  intro w h
  have HR := hide (h1 w h)
  have HE := hide he
  have HV := hide hV
  have HI := hide hI
  clear he hV h1 h hI
  go_enter Tryz.func143, Tryz.ntmps143
  go_wp2_with fail
  refine (HR.out).mono ?_
  rintro en w1 ⟨v, rfl, hv, hp, ho⟩
  have hl1 := hp.lt
  have HPs := hide (passes_no pb T s' ge ⟨#[63]⟩ (HE.out.1 _ (by decide)) w1 hp)
  have HIs := hide (HI.out w1 v hv)
  have HS := hide (oneOf_no pb T s' ge w1.heap.size 6 [⟨#[61]⟩, ⟨#[43, 61]⟩, ⟨#[45, 61]⟩, ⟨#[42, 61]⟩, ⟨#[47, 61]⟩, ⟨#[37, 61]⟩] (by decide) (fun t ht => HE.out.1 t.data.toList (by simp at ht; rcases ht with rfl | rfl | rfl | rfl | rfl | rfl <;> decide)) _ (Reads.alloc_at hp _) (strs_new w1 [⟨#[61]⟩, ⟨#[43, 61]⟩, ⟨#[45, 61]⟩, ⟨#[42, 61]⟩, ⟨#[47, 61]⟩, ⟨#[37, 61]⟩]))
  have Hv := hide hv
  have HP := hide hp
  have HO := hide ho
  clear hv hp ho HR HI
  cases p with
  | true =>
    go_wp2_with (first | (go_at_call 106; refine (HPs.out).mono ?_; rintro en w2 ⟨rfl, rfl⟩) | (go_at_call 183; refine (HIs.out).mono ?_; rintro en w2 ⟨rfl, rfl⟩) | (go_at_call 184; refine (HS.out).mono ?_; rintro en w2 ⟨rfl, rfl⟩))
    go_ret
    exact ⟨_, rfl, HV.out _ _ _ Hv.out ((onlyA _ _).mono (fun _ _ e => e.elim)), HP.out.only (onlyA _ _) (fun e => e), HO.out.trans (onlyA _ _) (fun _ _ e => e.elim)⟩
  | false =>
    go_wp2_with (first | (go_at_call 106; refine (HPs.out).mono ?_; rintro en w2 ⟨rfl, rfl⟩) | (go_at_call 183; refine (HIs.out).mono ?_; rintro en w2 ⟨rfl, rfl⟩))
    go_ret
    exact ⟨_, rfl, Hv.out, HP.out, HO.out⟩
end Go.Proofs.YtdbdbaepmdmnfaaGreatDoor
namespace Go.Proofs.YtdbdbaepmdmnfaaGreatDoor
open Go.RowKit
def nameV (x : ByteArray) (a : Nat) : Value := .iface 92 (.agg #[.string x, .int .i64 a])
theorem ta_name_name (v : Value) (w : World) : (Instr.typeAssert (.iface 92 v) 238 92 true).run Tryz.prog w = .ok (.tuple #[v, .bool true]) w := by kernel_rfl
theorem ta_name_elem (v : Value) (w : World) : (Instr.typeAssert (.iface 92 v) 238 306 true).run Tryz.prog w = .ok (.tuple #[.agg #[.string ⟨#[]⟩, .int .i64 0, .slice none 0 0], .bool false]) w := by kernel_rfl
theorem ta_name_field (v : Value) (w : World) : (Instr.typeAssert (.iface 92 v) 238 309 true).run Tryz.prog w = .ok (.tuple #[.agg #[.nilIface], .bool false]) w := by kernel_rfl
/-- A tree that is one value. -/
def Is (v : Value) : World → Value → Prop := fun _ u => u = v
theorem is_stab (pb : Nat) (v : Value) : Stab pb (Is v) := fun _ _ _ h _ => h
set_option maxRecDepth 20000 in
set_option maxHeartbeats 4000000 in
theorem place_name (x : ByteArray) (a : Nat) : IsPl (Is (nameV x a)) true := by
  rintro w v rfl
  unfold nameV
  have e1 := ta_name_name
  have e2 := ta_name_elem
  have e3 := ta_name_field
  go_enter Tryz.func183, Tryz.ntmps183
  go_wp2
  go_ret
  exact ⟨rfl, rfl⟩
set_option maxRecDepth 20000 in
set_option maxHeartbeats 4000000 in
theorem varEl (pb : Nat) (T : ByteArray) (ge : Bool) (s s' : TS) (hn : Nx pb T s s') (hb : seen s' [91] = false) : Reads 498 pb T ge s s' (Is (nameV s.x s.xa)) := by
  intro w h
  have HT := hide (take_yes pb T s s' ge hn w h)
  have HPn : ∀ W, PAt W pb T s' ge → Hid (Calls Tryz.prog 106 #[.pointer (some ⟨pb, 0, none⟩), .string ⟨#[91]⟩] W fun en w' => en = .returned (.bool false) ∧ w' = W) := fun W hW => passes_no pb T s' ge ⟨#[91]⟩ hb W hW
  clear h hn hb
  unfold nameV
  go_enter Tryz.func498, Tryz.ntmps498
  go_wp2_with fail
  refine (HT.out).mono ?_
  rintro en w1 ⟨rfl, hp, ho⟩
  have HPs := HPn _ (Reads.alloc_at hp (.cells #[.string s.x, .int .i64 s.xa] 92))
  have HP := hide hp
  have HO := hide ho
  clear hp ho HT HPn
  go_wp2_with (go_at_call 106; refine (HPs.out).mono ?_; rintro en w2 ⟨rfl, rfl⟩)
  go_ret
  exact ⟨_, rfl, rfl, Reads.alloc_at HP.out _, HO.out.alloc _⟩
set_option maxRecDepth 20000 in
set_option maxHeartbeats 4000000 in
theorem prim_name (pb : Nat) (T : ByteArray) (ge : Bool) (s s' : TS) (hk : s.k = 5) (hn : Nx pb T s s') (hb : seen s' [91] = false) : Reads 496 pb T ge s s' (Is (nameV s.x s.xa)) := by
  intro w h
  have r3 : w.cell? ⟨pb, 3, none⟩ = some (.int .i64 5) := by have := cell_of (o := 3) h rfl; rw [this, hk]; rfl
  have HT := hide (varEl pb T ge s s' hn hb w h)
  clear h hn hk hb
  go_enter Tryz.func496, Tryz.ntmps496
  go_wp2_with (go_at_call 498; refine (HT.out).mono ?_; rintro en w1 ⟨v, rfl, hv, hp, ho⟩; have Hv := hide hv; have HP := hide hp; have HO := hide ho; clear hv hp ho)
  go_ret
  exact ⟨_, rfl, Hv.out, HP.out, HO.out⟩
end Go.Proofs.YtdbdbaepmdmnfaaGreatDoor
namespace Go.Proofs.YtdbdbaepmdmnfaaGreatDoor
open Go.RowKit
/-- A list of trees, each one value, that lies apart from the parser. -/
def Row (pb : Nat) (vs : List Value) : World → Value → Prop := fun w v => w.ownsRow 0 238 1 v vs.length vs ∧ v.ownBlock ≠ some pb
theorem own_tag {w : World} {B : Nat} {e t : TypeId} {z : Nat} {v : Value} {n : Nat} {xs : List Value} {pb : Nat} {c : Array Value} (h : w.ownsRow B e z v n xs) (hp : w.heap[pb]? = some (.cells c t (0, 0))) (hne : e ≠ t) : v.ownBlock ≠ some pb := by
  intro hk
  rcases h.2 with ⟨rfl, _⟩ | ⟨g, cap, cur, rfl, _, h3, _⟩
  · cases hk
  · cases hk
    rw [hp] at h3
    cases h3
    exact hne rfl
theorem row_stab (pb : Nat) (vs : List Value) : Stab pb (Row pb vs) := fun w w' v h ho => ⟨ownsRow_of h.1 (fun k hk => ho.block k (h.1.lt k hk).2 (fun e => h.2 (by rw [hk, e]))), h.2⟩
theorem row_one {pb : Nat} {w : World} {v : Value} {vs : List Value} (h : Row pb vs w v) : ∃ po cap, v = .slice po vs.length cap := ownsRow_slice h.1
theorem news_oneR (W : World) (x : Value) (t : TypeId) : ∀ j u, [x][j]? = some u → (W.alloc (.cells #[x] t)).cell? ((⟨W.heap.size, 0, none⟩ : Addr).add j) = some u := by
  intro j u hj
  match j, hj with
  | 0, hj => simp at hj; subst hj; simp [Addr.add]
  | (j + 1), hj => simp at hj
theorem made_one {w : World} {x : Value} {t : TypeId} {B : Nat} (hB : B ≤ w.heap.size) : (w.alloc (.cells #[x] t)).ownsRow B t 1 (.slice (some ⟨w.heap.size, 0, none⟩) 1 1) 1 [x] :=
  ⟨rfl, Or.inr ⟨w.heap.size, 1, #[x], rfl, hB, heap_alloc_new w _, Nat.le_refl _, by unfold maxLen; omega, rfl, rfl⟩⟩
set_option maxRecDepth 20000 in
set_option maxHeartbeats 4000000 in
theorem list_one (pb : Nat) (T : ByteArray) (ge : Bool) (s0 s1 : TS) (t1 : TypeId) (u1 : Value) (h1 : Reads 143 pb T ge s0 s1 (Is (.iface t1 u1))) (hc : seen s1 [44] = false) : Reads 424 pb T ge s0 s1 (Row pb [.iface t1 u1]) := by
  intro w h
  have H1 := hide (h1 w h)
  have HPn : ∀ W, PAt W pb T s1 ge → Hid (Calls Tryz.prog 106 #[.pointer (some ⟨pb, 0, none⟩), .string ⟨#[44]⟩] W fun en w' => en = .returned (.bool false) ∧ w' = W) := fun W hW => passes_no pb T s1 ge ⟨#[44]⟩ hc W hW
  clear h h1 hc
  go_enter Tryz.func424, Tryz.ntmps424
  go_wp2_with fail
  refine (H1.out).mono ?_
  rintro en w1 ⟨v, rfl, hv, hp, ho⟩
  obtain rfl : v = .iface t1 u1 := hv
  have hl1 := hp.lt
  have HPs := HPn _ (Reads.alloc_at hp (.cells #[.iface t1 u1] 238))
  have HP := hide hp
  have HO := hide ho
  clear hp ho H1 HPn
  go_wp2
  go_loop [3] (fun s3 => s3 = .slice (some ⟨w1.heap.size, 0, none⟩) 1 1) (fun _ => 0)
  case atStart => exact rfl
  case round =>
    subst hrel
    go_wp2_with (go_at_call 106; refine (HPs.out).mono ?_; rintro en w2 ⟨rfl, rfl⟩)
    go_ret
    exact ⟨_, rfl, ⟨made_one (Nat.zero_le _), fun e => by have := Option.some.inj e; simp at this; omega⟩, Reads.alloc_at HP.out _, HO.out.alloc _⟩
end Go.Proofs.YtdbdbaepmdmnfaaGreatDoor
namespace Go.Proofs.YtdbdbaepmdmnfaaGreatDoor
open Go.RowKit
theorem PAt.setGe {w pb T s ge} (h : PAt w pb T s ge) (g : Bool) : PAt (w.setCell ⟨pb, 6, none⟩ (.bool g)) pb T s g := heap_setCell_same h _
end Go.Proofs.YtdbdbaepmdmnfaaGreatDoor
namespace Go.Proofs.YtdbdbaepmdmnfaaGreatDoor
open Go.RowKit
theorem info363 : (Tryz.prog.info? 235).map (fun i => (i.zero, i.size, i.bytes)) = some (some .nilIface, 1, 16) := by kernel_rfl
def IsIf (V : World → Value → Prop) : Prop := ∀ w v, V w v → ∃ t x, v = .iface t x
/-- A statement that is an expression. -/
def WorkT (V : World → Value → Prop) : World → Value → Prop := fun w v => ∃ u, v = .iface 350 (.agg #[u]) ∧ V w u
theorem fromAlloc {D : Nat → Prop} {w w' : World} {o : Obj} (h : Only D (w.alloc o) w') : Only D w w' := ((Only.refl D w).alloc o).trans h (fun _ _ e => e)
def printV : Value := .iface 285 (.agg #[.slice none 0 0, .nilIface])
set_option maxRecDepth 20000 in
set_option maxHeartbeats 4000000 in
theorem oneOf_yes (pb : Nat) (T : ByteArray) (s : TS) (ge : Bool) (b cap : Nat) (ss : List ByteArray) (hl : ss.length ≤ 1000) (m : Nat) (hm : m < ss.length) (hno : ∀ i t, i < m → ss[i]? = some t → seen s t.data.toList = false) (hyes : ∀ t, ss[m]? = some t → seen s t.data.toList = true) (w : World) (h : PAt w pb T s ge) (hA : ∀ (i : Nat) (t : ByteArray), ss[i]? = some t → w.cell? ⟨b, i, none⟩ = some (.string t)) :
    Calls Tryz.prog 184 #[.pointer (some ⟨pb, 0, none⟩), .slice (some ⟨b, 0, none⟩) ss.length cap] w fun en w' => en = .returned (.bool true) ∧ w' = w := by
  have HP := hide h
  have HN := hide hno
  have HY := hide hyes
  have HA := hide hA
  clear h hno hA hyes
  go_enter Tryz.func184, Tryz.ntmps184
  go_wp2
  go_loop [9] (fun s9 => ∃ k : Nat, s9 = .int .i64 k ∧ k ≤ m) (fun s9 => ss.length - (intOf s9).toNat)
  case atStart => exact ⟨0, rfl, Nat.zero_le _⟩
  case round =>
    obtain ⟨k, rfl, hk⟩ := hrel
    have hli : (k : Int) < (ss.length : Int) := by omega
    obtain ⟨t, ht⟩ : ∃ t, ss[k]? = some t := ⟨_, List.getElem?_eq_getElem (by omega)⟩
    have c0 := HA.out k t ht
    by_cases hlt : k < m
    · have HS := hide (sees_at pb T s ge t false (HN.out k t hlt ht) w HP.out)
      clear ht
      go_wp2_with (go_at_call 137; refine (HS.out).mono ?_; rintro en w' ⟨rfl, rfl⟩)
      go_round
      case rel => exact ⟨k + 1, by go_num, by omega⟩
      case measure => simp [intOf]; omega
    · obtain rfl : k = m := by omega
      have HS := hide (sees_at pb T s ge t true (HY.out t ht) w HP.out)
      clear ht
      go_wp2_with (go_at_call 137; refine (HS.out).mono ?_; rintro en w' ⟨rfl, rfl⟩)
      go_ret
      exact ⟨rfl, rfl⟩
set_option maxRecDepth 20000 in
set_option maxHeartbeats 4000000 in
/-- Where a simple statement may end. -/
theorem ends_yes (pb : Nat) (T : ByteArray) (s : TS) (ge : Bool) (hs : seen s [59] = true ∨ (seen s [59] = false ∧ seen s [125] = true)) (w : World) (h : PAt w pb T s ge) :
    Calls Tryz.prog 423 #[.pointer (some ⟨pb, 0, none⟩)] w fun en w' => en = .returned (.bool true) ∧ Only (fun _ => False) w w' := by
  have hl := h.lt
  have HS : Hid (Calls Tryz.prog 184 #[.pointer (some ⟨pb, 0, none⟩), .slice (some ⟨w.heap.size, 0, none⟩) 2 2] (w.alloc (.cells #[.string ⟨#[59]⟩, .string ⟨#[125]⟩] 9)) fun en w' => en = .returned (.bool true) ∧ w' = w.alloc (.cells #[.string ⟨#[59]⟩, .string ⟨#[125]⟩] 9)) := by
    rcases hs with h1 | ⟨h1, h2⟩
    · exact oneOf_yes pb T s ge w.heap.size 2 [⟨#[59]⟩, ⟨#[125]⟩] (by decide) 0 (by decide) (fun i t hi => by omega) (fun t ht => by simp at ht; subst ht; exact h1) _ (Reads.alloc_at h _) (strs_new w [⟨#[59]⟩, ⟨#[125]⟩])
    · exact oneOf_yes pb T s ge w.heap.size 2 [⟨#[59]⟩, ⟨#[125]⟩] (by decide) 1 (by decide) (fun i t hi ht => (by have e : i = 0 := (by omega); subst e; simp at ht; subst ht; exact h1)) (fun t ht => by simp at ht; subst ht; exact h2) _ (Reads.alloc_at h _) (strs_new w [⟨#[59]⟩, ⟨#[125]⟩])
  clear h hs
  go_enter Tryz.func423, Tryz.ntmps423
  go_wp2_with (go_at_call 184; refine (HS.out).mono ?_; rintro en w' ⟨rfl, rfl⟩)
  go_ret
  exact ⟨rfl, (Only.refl _ w).alloc _⟩
set_option maxRecDepth 20000 in
set_option maxHeartbeats 4000000 in
/-- print, alone. -/
theorem print_bare (pb : Nat) (T : ByteArray) (ge : Bool) (s : TS) (hs : seen s [59] = true ∨ (seen s [59] = false ∧ seen s [125] = true)) (hg : seen s [62] = false) : Reads 359 pb T ge s s (Is printV) := by
  intro w h
  have HE : ∀ o, Hid (Calls Tryz.prog 423 #[.pointer (some ⟨pb, 0, none⟩)] (w.alloc o) fun en w' => en = .returned (.bool true) ∧ Only (fun _ => False) (w.alloc o) w') := fun o => ends_yes pb T s ge hs _ (Reads.alloc_at h o)
  have HPn : ∀ W, PAt W pb T s ge → Hid (Calls Tryz.prog 106 #[.pointer (some ⟨pb, 0, none⟩), .string ⟨#[62]⟩] W fun en w' => en = .returned (.bool false) ∧ w' = W) := fun W hW => passes_no pb T s ge ⟨#[62]⟩ hg W hW
  have HP := hide h
  clear h hs hg
  unfold printV
  go_enter Tryz.func359, Tryz.ntmps359
  go_wp2_with fail
  refine ((HE _).out).mono ?_
  rintro en w1 ⟨rfl, ho⟩
  have hb := (ho.block w.heap.size (by simp) (fun e => e)).trans (new0 w (.cells #[.slice none 0 0, .nilIface] 285))
  have q0 : w1.cell? ⟨w.heap.size, 0, none⟩ = some (.slice none 0 0) := cell_of hb rfl
  have q1 : w1.cell? ⟨w.heap.size, 1, none⟩ = some .nilIface := cell_of hb rfl
  have hp1 : PAt w1 pb T s ge := (Reads.alloc_at HP.out _).only ho (fun e => e)
  have HPs := HPn _ hp1
  have HP1 := hide hp1
  have HO : Hid (Only (fun _ => False) w w1) := ((Only.refl _ w).alloc _).trans ho (fun _ _ e => e)
  clear ho hb hp1 HE HPn
  go_wp2_with (go_at_call 106; refine (HPs.out).mono ?_; rintro en w2 ⟨rfl, rfl⟩)
  go_ret
  exact ⟨_, rfl, rfl, HP1.out, HO.out.mono (fun _ _ e => e.elim)⟩
set_option maxRecDepth 20000 in
set_option maxHeartbeats 4000000 in
theorem simple_print (pb : Nat) (T : ByteArray) (ge : Bool) (s s1 s2 : TS) (V : World → Value → Prop) (hp : seen s [112, 114, 105, 110, 116] = true) (hn : Nx pb T s s1) (h1 : Reads 359 pb T ge s1 s2 V) : Reads 251 pb T ge s s2 V := by
  intro w h
  have r5 : w.cell? ⟨pb, 5, none⟩ = some (.int .i64 s.xa) := cell_of h rfl
  have HPy := hide (passes_yes pb T s s1 ge ⟨#[112, 114, 105, 110, 116]⟩ hp hn w h)
  have H1 := hide h1
  clear h hp hn h1
  go_enter Tryz.func251, Tryz.ntmps251
  go_wp2_with fail
  refine (HPy.out).mono ?_
  rintro en w1 ⟨rfl, hp1, ho⟩
  have HA := hide (H1.out w1 hp1)
  have HO := hide ho
  clear hp1 ho H1 HPy
  go_wp2_with (go_at_call 359; refine (HA.out).mono ?_; rintro en w2 ⟨v, rfl, hv, hp2, ho2⟩; have Hv := hide hv; have HP2 := hide hp2; have HO2 := hide ho2; clear hv hp2 ho2)
  go_ret
  exact ⟨_, rfl, Hv.out, HP2.out, HO.out.trans HO2.out (fun _ _ e => e)⟩
end Go.Proofs.YtdbdbaepmdmnfaaGreatDoor
