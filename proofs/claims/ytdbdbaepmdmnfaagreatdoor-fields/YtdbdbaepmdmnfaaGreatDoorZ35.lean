import Derived.Test.YtdbdbaepmdmnfaaGreatDoorZ23
import Derived.Test.YtdbdbaepmdmnfaaGreatDoorZ08
import Derived.Deep.AppendLies
import Derived.Test.YtdbdbaepmdmnfaaGreatDoorProg
import Derived.Shelf.LaysC
import Derived.Shelf.Strconv.ParseIntPublic10
namespace Go.Proofs.YtdbdbaepmdmnfaaGreatDoor
open Go.RowKit
set_option maxRecDepth 20000 in
set_option maxHeartbeats 4000000 in
theorem pair_yes (f1 : Nat) (hcf : ∀ (args : Array Value) (w : World), (callFunc f1 args).run Tryz.prog w = .ok (.enter f1 args) w) (pb : Nat) (T : ByteArray) (ge : Bool) (s s1 s2 s3 : TS) (t1 t2 : TypeId) (u1 u2 : Value) (h1 : Reads f1 pb T ge s s1 (Is (.iface t1 u1))) (ss : List ByteArray) (hl : ss.length ≤ 1000) (m : Nat) (hm : m < ss.length) (hno : ∀ i t, i < m → ss[i]? = some t → seen s1 t.data.toList = false) (hyes : ∀ t, ss[m]? = some t → seen s1 t.data.toList = true) (hn : Nx pb T s1 s2) (h2 : Reads f1 pb T ge s2 s3 (Is (.iface t2 u2)))
    (b cap : Nat) (w : World) (h : PAt w pb T s ge) (hb : b < w.heap.size) (hbp : b ≠ pb) (hA : ∀ (i : Nat) (t : ByteArray), ss[i]? = some t → w.cell? ⟨b, i, none⟩ = some (.string t)) :
    Calls Tryz.prog 427 #[.pointer (some ⟨pb, 0, none⟩), .func (.func f1) #[.pointer (some ⟨pb, 0, none⟩)] #[], .slice (some ⟨b, 0, none⟩) ss.length cap] w fun en w' => ∃ v, en = .returned v ∧ Is (binT (.iface t1 u1) s1.x (.iface t2 u2)) w' v ∧ PAt w' pb T s3 ge ∧ Only (fun k => k = pb) w w' := by
  have H1 := hide (h1 w h)
  have HN := hide hno
  have HY := hide hyes
  have HA := hide hA
  have HX := hide hn
  have H2 := hide h2
  have e1 := fld188
  clear hno hA h1 h hyes hn h2
  unfold binT
  go_enter Tryz.func427, Tryz.ntmps427
  go_wp2_with fail
  refine (H1.out).mono ?_
  rintro en w1 ⟨v, rfl, hv, hp, ho⟩
  obtain rfl := hv
  have HS := hide (oneOf_yes pb T s1 ge b cap ss hl m hm HN.out HY.out w1 hp (fun i t ht => (ho.cell (p := ⟨b, i, none⟩) hb hbp).trans (HA.out i t ht)))
  have HT := hide (take_yes pb T s1 s2 ge HX.out w1 hp)
  have HO := hide ho
  clear hp ho
  go_wp2_with (first | (go_at_call 184; refine (HS.out).mono ?_; rintro en w2 ⟨rfl, h2⟩; subst w2) | (go_at_call 139; refine (HT.out).mono ?_; rintro en w3 ⟨rfl, hp, ho⟩; have HP3 := hide hp; have HO3 := hide (HO.out.trans ho (fun _ _ e => e)); clear hp ho))
  refine (H2.out _ HP3.out).mono ?_
  rintro en w4 ⟨v, rfl, hv, hp, ho⟩
  obtain rfl := hv
  have HP4 := hide hp
  have HO4 := hide (HO3.out.trans ho (fun _ _ e => e))
  clear hp ho
  go_wp2
  go_ret
  exact ⟨_, rfl, rfl, HP4.out, HO4.out⟩
set_option maxRecDepth 20000 in
set_option maxHeartbeats 4000000 in
/-- A comparison, outside the list of a print. -/
theorem compared_yes (pb : Nat) (T : ByteArray) (s s1 s2 s3 : TS) (t1 t2 : TypeId) (u1 u2 : Value) (m : Nat) (hm : m < 6) (hno : ∀ i t, i < m → [⟨#[60]⟩, ⟨#[60, 61]⟩, ⟨#[61, 61]⟩, ⟨#[33, 61]⟩, ⟨#[62, 61]⟩, (⟨#[62]⟩ : ByteArray)][i]? = some t → seen s1 t.data.toList = false) (hyes : ∀ t, [⟨#[60]⟩, ⟨#[60, 61]⟩, ⟨#[61, 61]⟩, ⟨#[33, 61]⟩, ⟨#[62, 61]⟩, (⟨#[62]⟩ : ByteArray)][m]? = some t → seen s1 t.data.toList = true) (h1 : Reads 425 pb T false s s1 (Is (.iface t1 u1))) (hn : Nx pb T s1 s2) (h2 : Reads 425 pb T false s2 s3 (Is (.iface t2 u2))) : Reads 428 pb T false s s3 (Is (binT (.iface t1 u1) s1.x (.iface t2 u2))) := by
  intro w h
  have hl := h.lt
  have r6 : w.cell? ⟨pb, 6, none⟩ = some (.bool false) := cell_of h rfl
  have HR : Hid (Calls Tryz.prog 427 #[.pointer (some ⟨pb, 0, none⟩), .func (.func 425) #[.pointer (some ⟨pb, 0, none⟩)] #[], .slice (some ⟨w.heap.size, 0, none⟩) 6 6] (w.alloc (.cells #[.string ⟨#[60]⟩, .string ⟨#[60, 61]⟩, .string ⟨#[61, 61]⟩, .string ⟨#[33, 61]⟩, .string ⟨#[62, 61]⟩, .string ⟨#[62]⟩] 9)) fun en w' => ∃ v, en = .returned v ∧ Is (binT (.iface t1 u1) s1.x (.iface t2 u2)) w' v ∧ PAt w' pb T s3 false ∧ Only (fun k => k = pb) (w.alloc (.cells #[.string ⟨#[60]⟩, .string ⟨#[60, 61]⟩, .string ⟨#[61, 61]⟩, .string ⟨#[33, 61]⟩, .string ⟨#[62, 61]⟩, .string ⟨#[62]⟩] 9)) w') :=
    pair_yes 425 cf603 pb T false s s1 s2 s3 t1 t2 u1 u2 h1 [⟨#[60]⟩, ⟨#[60, 61]⟩, ⟨#[61, 61]⟩, ⟨#[33, 61]⟩, ⟨#[62, 61]⟩, ⟨#[62]⟩] (by decide) m hm hno hyes hn h2 w.heap.size 6 _ (Reads.alloc_at h _) (by simp) (by omega) (strs_new w [⟨#[60]⟩, ⟨#[60, 61]⟩, ⟨#[61, 61]⟩, ⟨#[33, 61]⟩, ⟨#[62, 61]⟩, ⟨#[62]⟩])
  clear hno hyes h1 h2 hn h
  go_enter Tryz.func428, Tryz.ntmps428
  go_wp2_with (go_at_call 427; refine (HR.out).mono ?_; rintro en w1 ⟨v, rfl, hv, hp, ho⟩; have Hv := hide hv; have HP := hide hp; have HO : Hid (Only (fun k => k = pb) w w1) := ((Only.refl _ w).alloc _).trans ho (fun _ _ e => e); clear hv hp ho)
  go_ret
  exact ⟨_, rfl, Hv.out, HP.out, HO.out⟩
set_option maxRecDepth 20000 in
set_option maxHeartbeats 4000000 in
/-- What is stored: YtdbdbaepmdmnfaaGreatDoor = expr, and the like. -/
theorem expr_store (pb : Nat) (T : ByteArray) (ge : Bool) (s s1 s2 s3 : TS) (t1 t2 : TypeId) (u1 u2 : Value) (hI : IsPl (Is (.iface t1 u1)) true) (hq : seen s1 [63] = false) (m : Nat) (hm : m < 6) (hno : ∀ i t, i < m → [⟨#[61]⟩, ⟨#[43, 61]⟩, ⟨#[45, 61]⟩, ⟨#[42, 61]⟩, ⟨#[47, 61]⟩, (⟨#[37, 61]⟩ : ByteArray)][i]? = some t → seen s1 t.data.toList = false) (hyes : ∀ t, [⟨#[61]⟩, ⟨#[43, 61]⟩, ⟨#[45, 61]⟩, ⟨#[42, 61]⟩, ⟨#[47, 61]⟩, (⟨#[37, 61]⟩ : ByteArray)][m]? = some t → seen s1 t.data.toList = true) (h1 : Reads 182 pb T ge s s1 (Is (.iface t1 u1))) (hn : Nx pb T s1 s2) (h2 : Reads 143 pb T ge s2 s3 (Is (.iface t2 u2))) : Reads 143 pb T ge s s3 (Is (storeT (.iface t1 u1) s1.x (.iface t2 u2))) := by
  intro w h
  have HR := hide (h1 w h)
  have HI := hide hI
  have H2 := hide h2
  have HX := hide hn
  have HNo := hide hno
  have HYes := hide hyes
  have HQ := hide hq
  have e1 := fld188
  clear h1 h hI h2 hn hno hyes hq
  unfold storeT
  go_enter Tryz.func143, Tryz.ntmps143
  go_wp2_with fail
  refine (HR.out).mono ?_
  rintro en w1 ⟨v, rfl, hv, hp, ho⟩
  obtain rfl := hv
  have hl1 := hp.lt
  have HPs := hide (passes_no pb T s1 ge ⟨#[63]⟩ HQ.out w1 hp)
  have HIs := hide (HI.out w1 _ rfl)
  have HS := hide (oneOf_yes pb T s1 ge w1.heap.size 6 [⟨#[61]⟩, ⟨#[43, 61]⟩, ⟨#[45, 61]⟩, ⟨#[42, 61]⟩, ⟨#[47, 61]⟩, ⟨#[37, 61]⟩] (by decide) m hm HNo.out HYes.out _ (Reads.alloc_at hp _) (strs_new w1 [⟨#[61]⟩, ⟨#[43, 61]⟩, ⟨#[45, 61]⟩, ⟨#[42, 61]⟩, ⟨#[47, 61]⟩, ⟨#[37, 61]⟩]))
  have HT := hide (take_yes pb T s1 s2 ge HX.out _ (Reads.alloc_at hp (.cells #[.string ⟨#[61]⟩, .string ⟨#[43, 61]⟩, .string ⟨#[45, 61]⟩, .string ⟨#[42, 61]⟩, .string ⟨#[47, 61]⟩, .string ⟨#[37, 61]⟩] 9)))
  have HO := hide ho
  clear hp ho HR HI
  go_wp2_with (first | (go_at_call 106; refine (HPs.out).mono ?_; rintro en w2 ⟨rfl, h2⟩; subst w2) | (go_at_call 183; refine (HIs.out).mono ?_; rintro en w2 ⟨rfl, h2⟩; subst w2) | (go_at_call 184; refine (HS.out).mono ?_; rintro en w2 ⟨rfl, h2⟩; subst w2) | (go_at_call 139; refine (HT.out).mono ?_; rintro en w3 ⟨rfl, hp, ho⟩; have HP3 := hide hp; have HO3 : Hid (Only (fun k => k = pb) w w3) := hide ((HO.out.alloc _).trans ho (fun _ _ e => e)); clear hp ho) | (go_at_call 143; refine (H2.out _ HP3.out).mono ?_; rintro en w4 ⟨v, rfl, hv, hp, ho⟩; obtain rfl := hv; have HP4 := hide hp; have HO4 : Hid (Only (fun k => k = pb) w w4) := hide (HO3.out.trans ho (fun _ _ e => e)); clear hp ho))
  go_ret
  exact ⟨_, rfl, rfl, HP4.out, HO4.out⟩
set_option maxRecDepth 20000 in
set_option maxHeartbeats 4000000 in
theorem ahead_rd (pb : Nat) (T : ByteArray) (ge : Bool) (s s1 : TS) (V : World → Value → Prop) (t : ByteArray) (hs : seen s t.data.toList = false) (h1 : Reads 143 pb T ge s s1 V) (w : World) (h : PAt w pb T s ge) :
    Calls Tryz.prog 357 #[.pointer (some ⟨pb, 0, none⟩), .string t] w fun en w' => ∃ v, en = .returned v ∧ V w' v ∧ PAt w' pb T s1 ge ∧ Only (fun k => k = pb) w w' := by
  have HS := hide (sees_at pb T s ge t false hs w h)
  have HR := hide (h1 w h)
  clear hs h1 h
  go_enter Tryz.func357, Tryz.ntmps357
  go_wp2_with (first | (go_at_call 137; refine (HS.out).mono ?_; rintro en w2 ⟨rfl, h2⟩; subst w2) | (go_at_call 143; refine (HR.out).mono ?_; rintro en w1 ⟨v, rfl, hv, hp, ho⟩; have Hv := hide hv; have HP := hide hp; have HO := hide ho; clear hv hp ho))
  go_ret
  exact ⟨_, rfl, Hv.out, HP.out, HO.out⟩
/-- The row of statements that a for's body is. -/
def forRow (u : Value) (q : Nat) : Prop := ∃ f c st b, u = .iface 295 (.agg #[f, c, st, b]) ∧ b.ownBlock = some q
/-- As Reads; the row of a for's body is new. -/
def ReadsF (f : Nat) (pb : Nat) (T : ByteArray) (ge : Bool) (s s' : TS) (V : World → Value → Prop) : Prop :=
  ∀ w, PAt w pb T s ge → Calls Tryz.prog f #[.pointer (some ⟨pb, 0, none⟩)] w fun en w' => ∃ v, en = .returned v ∧ V w' v ∧ (∀ q, forRow v q → w.heap.size ≤ q ∧ q < w'.heap.size) ∧ PAt w' pb T s' ge ∧ Only (fun k => k = pb) w w'
/-- As Reads; the row that is answered is new. -/
def ReadsN (f : Nat) (pb : Nat) (T : ByteArray) (ge : Bool) (s s' : TS) (V : World → Value → Prop) : Prop :=
  ∀ w, PAt w pb T s ge → Calls Tryz.prog f #[.pointer (some ⟨pb, 0, none⟩)] w fun en w' => ∃ v, en = .returned v ∧ V w' v ∧ (∀ q, v.ownBlock = some q → w.heap.size ≤ q ∧ q < w'.heap.size) ∧ PAt w' pb T s' ge ∧ Only (fun k => k = pb) w w'
set_option maxRecDepth 20000 in
set_option maxHeartbeats 4000000 in
/-- A body that is one statement. -/
theorem body_one (pb : Nat) (T : ByteArray) (ge : Bool) (s s1 : TS) (V : World → Value → Prop) (hI : IsIf V) (hV2 : Stab2 V) (hs : seen s [123] = false) (h1 : Reads 181 pb T ge s s1 V) : ReadsN 249 pb T ge s s1 (BlockT pb 1 (fun _ => V)) := by
  intro w h
  have HS := hide (sees_at pb T s ge ⟨#[123]⟩ false hs w h)
  have HR := hide (h1 w h)
  have HI := hide hI
  have HV := hide hV2
  clear hs h1 h hI hV2
  go_enter Tryz.func249, Tryz.ntmps249
  go_wp2_with fail
  refine (HS.out).mono ?_
  rintro en w2 ⟨rfl, h2⟩
  subst w2
  go_wp2_with fail
  refine (HR.out).mono ?_
  rintro en w1 ⟨v, rfl, hv, hp, ho⟩
  obtain ⟨ti, xi, rfl⟩ := HI.out _ _ hv
  have hl1 := hp.lt
  have Hv := hide hv
  have HP := hide hp
  have HO := hide ho
  clear hv hp ho
  go_wp2
  go_ret
  refine ⟨_, rfl, ⟨[.iface ti xi], rfl, made_one (Nat.zero_le _), ?_, ?_⟩, ?_, Reads.alloc_at HP.out _, HO.out.alloc _⟩
  rotate_left 2
  · intro q hq
    have : w1.heap.size = q := Option.some.inj hq
    have := HO.out.size
    simp
    omega
  · intro e
    have : w1.heap.size = pb := Option.some.inj e
    omega
  · intro i u hu
    cases i with
    | zero =>
      cases hu
      exact HV.out _ _ _ (fun _ => False) Hv.out (onlyA _ _) (fun _ e => e.elim)
    | succ i => cases hu
theorem ta_in_no (t : TypeId) (v : Value) (ht : t = 326) (W : World) : (Instr.typeAssert (.iface t v) 238 321 true).run Tryz.prog W = .ok (.tuple #[.agg #[.nilIface, .string ⟨#[]⟩, .int .i64 0], .bool false]) W := by subst ht; kernel_rfl
set_option maxRecDepth 20000 in
set_option maxHeartbeats 4000000 in
/-- What is stored is no key in an array. -/
theorem kaa_store (b0 b1 b2 v : Value) (w : World) : Calls Tryz.prog 358 #[.agg #[b0, b1, b2], .iface 326 v] w fun en w' => en = .returned (.tuple #[.agg #[.string ⟨#[]⟩, .int .i64 0], .agg #[.string ⟨#[]⟩, .int .i64 0], .bool false]) ∧ Only (fun _ => False) w w' := by
  have e1 := ta_in_no 326 v rfl
  go_enter Tryz.func358, Tryz.ntmps358
  go_wp2
  refine bodyPost_ret (v := .tuple #[.agg #[.string ⟨#[]⟩, .int .i64 0], .agg #[.string ⟨#[]⟩, .int .i64 0], .bool false]) (by simp [results, Tryz.results358, go_sem]) rfl ⟨rfl, ?_⟩
  repeat (first | exact Only.refl _ _ | refine Only.alloc ?_ _ | refine Only.drew ?_)
/-- A for with semicolons. -/
def ForT (pb : Nat) (f c st : Value) (V : World → Value → Prop) : World → Value → Prop := fun w v => ∃ b, v = .iface 295 (.agg #[f, c, st, b]) ∧ BlockT pb 1 (fun _ => V) w b
set_option maxRecDepth 20000 in
set_option maxHeartbeats 8000000 in
theorem counting_rd (pb : Nat) (T : ByteArray) (ge : Bool) (s s1 s2 s3 s4 s5 s6 s7 s8 : TS) (u1 : Value) (t2 t3 : TypeId) (u2 u3 : Value) (V : World → Value → Prop)
    (hs : seen s [40] = true) (hn0 : Nx pb T s s1) (ha1 : seen s1 [59] = false) (h1 : Reads 143 pb T ge s1 s2 (Is (.iface 326 u1))) (hs2 : seen s2 [59] = true) (hn2 : Nx pb T s2 s3) (ha3 : seen s3 [59] = false) (h3 : Reads 143 pb T ge s3 s4 (Is (.iface t2 u2))) (hs4 : seen s4 [59] = true) (hn4 : Nx pb T s4 s5) (ha5 : seen s5 [41] = false) (h5 : Reads 143 pb T ge s5 s6 (Is (.iface t3 u3))) (hs6 : seen s6 [41] = true) (hn6 : Nx pb T s6 s7) (h7 : ReadsN 249 pb T ge s7 s8 (BlockT pb 1 (fun _ => V))) :
    ReadsF 250 pb T ge s s8 (ForT pb (.iface 326 u1) (.iface t2 u2) (.iface t3 u3) V) := by
  intro w h
  have hl := h.lt
  have HN0 := hide (need_yes pb T s s1 ge ⟨#[40]⟩ hs hn0 w h)
  have HA1 := hide (ahead_rd pb T ge s1 s2 _ ⟨#[59]⟩ ha1 h1)
  have HN2 := hide (need_yes pb T s2 s3 ge ⟨#[59]⟩ hs2 hn2)
  have HA3 := hide (ahead_rd pb T ge s3 s4 _ ⟨#[59]⟩ ha3 h3)
  have HN4 := hide (need_yes pb T s4 s5 ge ⟨#[59]⟩ hs4 hn4)
  have HA5 := hide (ahead_rd pb T ge s5 s6 _ ⟨#[41]⟩ ha5 h5)
  have HN6 := hide (need_yes pb T s6 s7 ge ⟨#[41]⟩ hs6 hn6)
  have HB7 := hide h7
  clear hs hn0 ha1 h1 hs2 hn2 ha3 h3 hs4 hn4 ha5 h5 hs6 hn6 h7 h
  go_enter Tryz.func250, Tryz.ntmps250
  go_wp2_with fail
  refine (HN0.out).mono ?_
  rintro en w1 ⟨rfl, hp, ho⟩
  have k3 : w1.cell? ⟨pb, 3, none⟩ = some (.int .i64 s1.k) := cell_of hp rfl
  have k4 : w1.cell? ⟨pb, 4, none⟩ = some (.string s1.x) := cell_of hp rfl
  have k5 : w1.cell? ⟨pb, 5, none⟩ = some (.int .i64 s1.xa) := cell_of hp rfl
  have hl1 := hp.lt
  have HP1 := hide hp
  have HO1 := hide ho
  clear hp ho HN0
  go_wp2_with fail
  refine (HA1.out _ (Reads.alloc_at HP1.out _)).mono ?_
  rintro en w2 ⟨v, rfl, hv, hp, ho⟩
  obtain rfl := hv
  have hb := (ho.block w1.heap.size (by simp) (by omega)).trans (new0 w1 _)
  have b0 : w2.cell? ⟨w1.heap.size, 0, none⟩ = some (.int .i64 s1.k) := cell_of hb rfl
  have b1 : w2.cell? ⟨w1.heap.size, 1, none⟩ = some (.string s1.x) := cell_of hb rfl
  have b2 : w2.cell? ⟨w1.heap.size, 2, none⟩ = some (.int .i64 s1.xa) := cell_of hb rfl
  have hl2 := hp.lt
  have HP2 := hide hp
  have HO2 : Hid (Only (fun k => k = pb) w w2) := hide ((HO1.out.alloc _).trans ho (fun _ _ e => e))
  clear hp ho hb k3 k4 k5 HP1 HO1 HA1 hl1
  go_wp2_with fail
  refine (kaa_store _ _ _ _ _).mono ?_
  rintro en w3 ⟨rfl, ho⟩
  have HP3 := hide (PAt.only HP2.out ho (fun e => e))
  have HO3 : Hid (Only (fun k => k = pb) w w3) := hide (HO2.out.trans ho (fun _ _ e => e.elim))
  clear ho b0 b1 b2 HP2 HO2 hl2
  go_wp2_with fail
  refine (HN2.out _ (Reads.alloc_at (Reads.alloc_at HP3.out _) _)).mono ?_
  rintro en w4 ⟨rfl, hp, ho⟩
  have HP4 := hide hp
  have HO4 : Hid (Only (fun k => k = pb) w w4) := hide (((HO3.out.alloc _).alloc _).trans ho (fun _ _ e => e))
  clear hp ho HP3 HO3
  go_wp2_with fail
  refine (HA3.out _ HP4.out).mono ?_
  rintro en w5 ⟨v, rfl, hv, hp, ho⟩
  obtain rfl := hv
  have HP5 := hide hp
  have HO5 : Hid (Only (fun k => k = pb) w w5) := hide (HO4.out.trans ho (fun _ _ e => e))
  clear hp ho HP4 HO4
  go_wp2_with fail
  refine (HN4.out _ HP5.out).mono ?_
  rintro en w6 ⟨rfl, hp, ho⟩
  have HP6 := hide hp
  have HO6 : Hid (Only (fun k => k = pb) w w6) := hide (HO5.out.trans ho (fun _ _ e => e))
  clear hp ho HP5 HO5
  go_wp2_with fail
  refine (HA5.out _ HP6.out).mono ?_
  rintro en w7 ⟨v, rfl, hv, hp, ho⟩
  obtain rfl := hv
  have HP7 := hide hp
  have HO7 : Hid (Only (fun k => k = pb) w w7) := hide (HO6.out.trans ho (fun _ _ e => e))
  clear hp ho HP6 HO6
  go_wp2_with fail
  refine (HN6.out _ HP7.out).mono ?_
  rintro en w8 ⟨rfl, hp, ho⟩
  have HP8 := hide hp
  have HO8 : Hid (Only (fun k => k = pb) w w8) := hide (HO7.out.trans ho (fun _ _ e => e))
  clear hp ho HP7 HO7
  go_wp2_with fail
  refine (HB7.out _ HP8.out).mono ?_
  rintro en w9 ⟨v, rfl, hv, hfr, hp, ho⟩
  obtain ⟨po, nn, cap, rfl⟩ := block_sl _ _ _ _ _ hv
  have Hv := hide hv
  have HFr := hide hfr
  have hz8 := HO8.out.size
  have HP9 := hide hp
  have HO9 : Hid (Only (fun k => k = pb) w w9) := hide (HO8.out.trans ho (fun _ _ e => e))
  clear hv hp ho HP8 HO8 hfr
  go_wp2
  go_ret
  refine ⟨_, rfl, ⟨_, rfl, Hv.out⟩, ?_, HP9.out, HO9.out⟩
  rintro q ⟨f, c, st, b, e, hq⟩
  cases e
  have := HFr.out q hq
  omega
end Go.Proofs.YtdbdbaepmdmnfaaGreatDoor

namespace Go.Proofs.YtdbdbaepmdmnfaaGreatDoor
open Go.RowKit
/-- What V tells stands while other rows of statements grow. -/
def Stab2F (V : World → Value → Prop) : Prop := ∀ w w' v (D : Nat → Prop), V w v → Only D w w' → (∀ k, D k → (∃ c, w.heap[k]? = some (.cells c 235 (0, 0))) ∧ ¬ forRow v k) → V w' v
theorem Stab2.f {V : World → Value → Prop} (h : Stab2 V) : Stab2F V := fun w w' v D hv ho hD => h w w' v D hv ho (fun k hk => (hD k hk).1)
theorem Reads.f {f pb : Nat} {T : ByteArray} {ge : Bool} {s s' : TS} {V : World → Value → Prop} (h : Reads f pb T ge s s' V) (hn : ∀ w v q, V w v → ¬ forRow v q) : ReadsF f pb T ge s s' V := fun w hw => (h w hw).mono (fun _ _ ⟨v, e, hv, hp, ho⟩ => ⟨v, e, hv, fun q hq => absurd hq (hn _ _ q hv), hp, ho⟩)
set_option maxRecDepth 20000 in
set_option maxHeartbeats 8000000 in
theorem block_rdG (pb : Nat) (T : ByteArray) (ge : Bool) (s : TS) (n : Nat) (hn100 : n ≤ 100) (S : Nat → TS) (se : TS) (Vf : Nat → World → Value → Prop) (hV : ∀ i, i < n → Stab pb (Vf i)) (hV2 : ∀ i, i < n → Stab2F (Vf i)) (hI : ∀ i, i < n → IsIf (Vf i)) (ho' : seen s [123] = true) (hn0 : Nx pb T s (S 0))
    (hr : ∀ i, i < n → ReadsF 181 pb T ge (S i) (S (i + 1)) (Vf i)) (hno : ∀ i, i < n → seen (S i) [125] = false) (hyes : seen (S n) [125] = true) (hne : Nx pb T (S n) se) : Reads 142 pb T ge s se (BlockT pb n Vf) := by
  obtain ⟨i0, hi0, hz0, hz1, hz2⟩ := info_parts info363
  intro w h
  have HNd := hide (need_yes pb T s (S 0) ge ⟨#[123]⟩ ho' hn0 w h)
  have HPy : ∀ W, PAt W pb T (S n) ge → Hid (Calls Tryz.prog 106 #[.pointer (some ⟨pb, 0, none⟩), .string ⟨#[125]⟩] W fun en w' => en = .returned (.bool true) ∧ PAt w' pb T se ge ∧ Only (fun k => k = pb) W w') := fun W hW => passes_yes pb T (S n) se ge ⟨#[125]⟩ hyes hne W hW
  have HPn : ∀ i, i < n → ∀ W, PAt W pb T (S i) ge → Hid (Calls Tryz.prog 106 #[.pointer (some ⟨pb, 0, none⟩), .string ⟨#[125]⟩] W fun en w' => en = .returned (.bool false) ∧ w' = W) := fun i hi W hW => passes_no pb T (S i) ge ⟨#[125]⟩ (hno i hi) W hW
  have HRd := hide hr
  have HV := hide hV
  have HI := hide hI
  have HV2 := hide hV2
  clear h ho' hn0 hr hno hyes hne hV hI hV2
  go_enter Tryz.func142, Tryz.ntmps142
  go_wp2_with fail
  refine (HNd.out).mono ?_
  rintro en w1 ⟨rfl, hp1, ho1⟩
  have HP1 := hide hp1
  have HO1 := hide ho1
  clear hp1 ho1 HNd
  go_wp2
  go_loopg [3] n (fun g s3 wr => ∃ (k : Nat) (vs : List Value) (sv : Value), sv = s3 ∧ k ≤ n ∧ g = n - k ∧ vs.length = k ∧ wr.ownsRow w.heap.size 235 1 s3 k vs ∧ (∀ i u, vs[i]? = some u → Vf i wr u ∧ ∀ q, forRow u q → q < wr.heap.size ∧ s3.ownBlock ≠ some q) ∧ PAt wr pb T (S k) ge ∧ Only (fun k => k = pb) w wr)
  case atStart => exact ⟨0, [], _, rfl, Nat.zero_le _, rfl, rfl, World.ownsRow_nil _ _ _ _, fun i u hu => by simp at hu, HP1.out, HO1.out⟩
  case round =>
    obtain ⟨k, vs, sv, rfl, hk, hg, hvl, hrow, hvs, hp, ho⟩ := hrel
    have HG := hide hg
    have HRow := hide hrow
    have HVs := hide hvs
    have HO := hide ho
    have hlp := hp.lt
    have hnp := own_tag (t := 154) hrow hp (by decide)
    have hzw := ho.size
    by_cases hlt : k < n
    · have HPs := HPn k hlt _ hp
      have HSt := hide (HRd.out k hlt _ hp)
      clear hg hrow hvs hp ho
      go_wp2_with (first | (go_at_call 106; refine (HPs.out).mono ?_; rintro en w2 ⟨rfl, rfl⟩))
      refine (HSt.out).mono ?_
      rintro en w3 ⟨u, rfl, hu, hfr, hp3, ho3⟩
      obtain ⟨t, x, rfl⟩ := HI.out k hlt _ _ hu
      have hz3 := ho3.size
      have hrow3 := row_keep HRow.out hnp ho3
      have HRow3 := hide hrow3
      have Hu := hide hu
      have HP3 := hide hp3
      have HO3 : Hid (Only (fun k => k = pb) w w3) := HO.out.trans ho3 (fun _ _ e => e)
      have HVs3 : Hid (∀ i u, vs[i]? = some u → Vf i w3 u ∧ ∀ q, forRow u q → q < w3.heap.size ∧ sv.ownBlock ≠ some q) := fun i u hiu => ⟨HV.out i (by have := (List.getElem?_eq_some_iff.1 hiu).1; omega) _ _ _ (HVs.out i u hiu).1 ho3, fun q hq => ⟨Nat.lt_of_lt_of_le ((HVs.out i u hiu).2 q hq).1 hz3, ((HVs.out i u hiu).2 q hq).2⟩⟩
      have HFr := hide hfr
      have hl3 := hp3.lt
      clear hu hp3 ho3 hrow3 HSt HPs hfr
      go_wp2_with (at_builtin; refine wpList_append_lies _ rfl (.tmp 9) (.tmp 12) 95 rfl w.heap.size 235 i0 .nilIface 1 16 Tryz.underlying95 hi0 hz0 hz1 hz2 rfl (by decide) _ _ _ rfl (HRow3.out.alloc _) _ 1 1 [.iface t x] rfl rfl (news_oneR _ _ _) (fun u hu => by simp at hu; subst hu; rfl) (by decide) (by unfold maxLen; omega) (by omega) (by simp; omega) (w3.heap.size + 1) (by simp) ?_; intro g' cap' w4 hown' hgrow hlie hgl)
      have hp4 : PAt w4 pb T (S (k + 1)) ge := (hgrow.block pb (by simp; omega) (fun e => hnp e.symm)).trans (Reads.alloc_at HP3.out _)
      have ho34 : Only (fun q => some q = _) _ w4 := (Only.refl (fun q => some q = _) _).grown hgrow (fun q hq _ => hq.symm)
      have hD := row_tag (HRow3.out.alloc (.cells #[.iface t x] 235))
      have hz4 := hgrow.size
      have hz4' : w3.heap.size + 1 ≤ w4.heap.size := by simpa using hz4
      have hrl := HRow.out.lt
      have HVs4 : Hid (∀ i u, (vs ++ [.iface t x])[i]? = some u → Vf i w4 u ∧ ∀ q, forRow u q → q < w4.heap.size ∧ (Value.slice (some ⟨g', 0, none⟩) (k + 1) cap').ownBlock ≠ some q) := fun i u hiu => by
        by_cases hi : i < vs.length
        · rw [List.getElem?_append_left hi] at hiu
          have h0 := HVs3.out i u hiu
          refine ⟨HV2.out i (by omega) _ _ _ _ (HV2.out i (by omega) _ _ _ (fun _ => False) h0.1 (onlyA _ _) (fun _ e => e.elim)) ho34 (fun q hq => ⟨hD q hq, fun hf => (h0.2 q hf).2 hq.symm⟩), fun q hq => ⟨by have := (h0.2 q hq).1; omega, fun e => ?_⟩⟩
          have e2 : g' = q := Option.some.inj e
          rcases hlie with h | h
          · exact (h0.2 q hq).2 (by rw [← e2]; exact h)
          · have := (h0.2 q hq).1
            omega
        · rw [List.getElem?_append_right (by omega)] at hiu
          have hik : i = k := by have := (List.getElem?_eq_some_iff.1 hiu).1; simp at this; omega
          subst hik
          rw [hvl, Nat.sub_self] at hiu
          simp at hiu
          subst hiu
          have hne : ∀ q, forRow (.iface t x) q → sv.ownBlock ≠ some q := fun q hq e => by
            have h1 := (HFr.out q hq).1
            have h2 := (hrl q e).2
            omega
          refine ⟨HV2.out i (by omega) _ _ _ _ (HV2.out i (by omega) _ _ _ (fun _ => False) Hu.out (onlyA _ _) (fun _ e => e.elim)) ho34 (fun q hq => ⟨hD q hq, fun hf => hne q hf hq.symm⟩), fun q hq => ⟨by have := (HFr.out q hq).2; omega, fun e => ?_⟩⟩
          have e2 : g' = q := Option.some.inj e
          rcases hlie with h | h
          · exact hne q hq (by rw [← e2]; exact h)
          · have := (HFr.out q hq).2
            omega
      have ho4 : Only (fun k => k = pb) w w4 := (HO3.out.alloc _).grown hgrow (fun q hq hlt => by have := (HRow3.out.lt q hq).1; omega)
      have HP4 := hide hp4
      have HO4 := hide ho4
      have HR4 := hide hown'
      clear hp4 ho4 hown' hgrow hlie hgl ho34 hD hz4 hz4' hrl
      go_wp2
      go_roundg (n - (k + 1))
      case measure => rw [HG.out]; omega
      case rel => exact ⟨k + 1, vs ++ [.iface t x], _, rfl, by omega, rfl, by simp; omega, HR4.out, HVs4.out, HP4.out, HO4.out⟩
    · obtain rfl : k = n := by omega
      have HPs := HPy _ hp
      clear hg hrow hvs hp ho
      go_wp2_with (go_at_call 106; refine (HPs.out).mono ?_; rintro en w2 ⟨rfl, hp2, ho2⟩; have HP2 := hide hp2; have HO2 := hide ho2; clear hp2 ho2)
      go_ret
      refine ⟨_, rfl, ⟨vs, hvl, base0 (row_keep HRow.out hnp HO2.out), hnp, fun i u hiu => HV.out i (by have := (List.getElem?_eq_some_iff.1 hiu).1; omega) _ _ _ (HVs.out i u hiu).1 HO2.out⟩, HP2.out, HO.out.trans HO2.out (fun _ _ e => e)⟩
end Go.Proofs.YtdbdbaepmdmnfaaGreatDoor

namespace Go.Proofs
open Go.Shelf
def Tryz.laysC174_ren : Go.Shelf.Ren := ⟨fun | 174 => 497 | 247 => 501 | 245 => 502 | 287 => 503 | 279 => 504 | 280 => 505 | 281 => 506 | 282 => 507 | 321 => 508 | 322 => 509 | 316 => 486 | 171 => 399 | 205 => 510 | 243 => 441 | 246 => 203 | 283 => 263 | 284 => 264 | 285 => 265 | 286 => 266 | 129 => 199 | 317 => 364 | 318 => 365 | 319 => 366 | 320 => 367 | 337 => 429 | 338 => 430 | n => n, fun | 9 => 9 | 3 => 3 | 2 => 2 | 75 => 74 | 85 => 546 | 4 => 4 | 167 => 549 | 5 => 5 | 53 => 113 | 175 => 550 | 46 => 241 | 168 => 552 | 37 => 54 | 0 => 0 | 210 => 557 | 21 => 21 | 127 => 167 | 145 => 560 | 143 => 558 | 171 => 415 | 173 => 417 | 212 => 488 | 51 => 327 | 20 => 20 | 213 => 489 | 232 => 528 | 233 => 529 | 80 => 104 | n => n, fun | 15 => 12 | 16 => 13 | 17 => 9 | 18 => 10 | 19 => 11 | n => n⟩
theorem Tryz.laysC174 : Go.Proofs.LaysC.n174 Tryz.prog Tryz.laysC174_ren := {
  mixed := by kernel_rfl
  f129 := Tryz.func199.trans (congrArg some (by kernel_rfl))
  f171 := Tryz.func399.trans (congrArg some (by kernel_rfl))
  f174 := Tryz.func497.trans (congrArg some (by kernel_rfl))
  f205 := Tryz.func510.trans (congrArg some (by kernel_rfl))
  f243 := Tryz.func441.trans (congrArg some (by kernel_rfl))
  f245 := Tryz.func502.trans (congrArg some (by kernel_rfl))
  f246 := Tryz.func203.trans (congrArg some (by kernel_rfl))
  f247 := Tryz.func501.trans (congrArg some (by kernel_rfl))
  f279 := Tryz.func504.trans (congrArg some (by kernel_rfl))
  f280 := Tryz.func505.trans (congrArg some (by kernel_rfl))
  f281 := Tryz.func506.trans (congrArg some (by kernel_rfl))
  f282 := Tryz.func507.trans (congrArg some (by kernel_rfl))
  f283 := Tryz.func263.trans (congrArg some (by kernel_rfl))
  f284 := Tryz.func264.trans (congrArg some (by kernel_rfl))
  f285 := Tryz.func265.trans (congrArg some (by kernel_rfl))
  f286 := Tryz.func266.trans (congrArg some (by kernel_rfl))
  f287 := Tryz.func503.trans (congrArg some (by kernel_rfl))
  f316 := Tryz.func486.trans (congrArg some (by kernel_rfl))
  f317 := Tryz.func364.trans (congrArg some (by kernel_rfl))
  f318 := Tryz.func365.trans (congrArg some (by kernel_rfl))
  f319 := Tryz.func366.trans (congrArg some (by kernel_rfl))
  f320 := Tryz.func367.trans (congrArg some (by kernel_rfl))
  f321 := Tryz.func508.trans (congrArg some (by kernel_rfl))
  f322 := Tryz.func509.trans (congrArg some (by kernel_rfl))
  f337 := Tryz.func429.trans (congrArg some (by kernel_rfl))
  f338 := Tryz.func430.trans (congrArg some (by kernel_rfl))
  t0 := Tryz.underlying0
  a0 := Tryz.isAgg0
  z0 := Tryz.sizeOf0
  v0 := Tryz.zeroValue0
  t2 := Tryz.underlying2
  a2 := Tryz.isAgg2
  z2 := Tryz.sizeOf2
  v2 := Tryz.zeroValue2
  t3 := Tryz.underlying3
  a3 := Tryz.isAgg3
  z3 := Tryz.sizeOf3
  v3 := Tryz.zeroValue3
  t4 := Tryz.underlying4
  a4 := Tryz.isAgg4
  z4 := Tryz.sizeOf4
  v4 := Tryz.zeroValue4
  t5 := Tryz.underlying5
  a5 := Tryz.isAgg5
  z5 := Tryz.sizeOf5
  v5 := Tryz.zeroValue5
  t9 := Tryz.underlying9
  a9 := Tryz.isAgg9
  z9 := Tryz.sizeOf9
  v9 := Tryz.zeroValue9
  t20 := Tryz.underlying20
  a20 := Tryz.isAgg20
  z20 := Tryz.sizeOf20
  v20 := Tryz.zeroValue20
  t21 := Tryz.underlying21
  a21 := Tryz.isAgg21
  z21 := Tryz.sizeOf21
  v21 := Tryz.zeroValue21
  t37 := Tryz.underlying54
  a37 := Tryz.isAgg54
  z37 := Tryz.sizeOf54
  v37 := Tryz.zeroValue54
  t46 := Tryz.underlying241
  a46 := Tryz.isAgg241
  z46 := Tryz.sizeOf241
  v46 := Tryz.zeroValue241
  t51 := Tryz.underlying327
  a51 := Tryz.isAgg327
  z51 := Tryz.sizeOf327
  v51 := Tryz.zeroValue327
  t53 := Tryz.underlying113
  a53 := Tryz.isAgg113
  z53 := Tryz.sizeOf113
  v53 := Tryz.zeroValue113
  t75 := Tryz.underlying74
  a75 := Tryz.isAgg74
  z75 := Tryz.sizeOf74
  v75 := Tryz.zeroValue74
  t85 := Tryz.underlying546
  a85 := Tryz.isAgg546
  z85 := Tryz.sizeOf546
  v85 := Tryz.zeroValue546
  t127 := Tryz.underlying167
  a127 := Tryz.isAgg167
  z127 := Tryz.sizeOf167
  v127 := Tryz.zeroValue167
  t143 := Tryz.underlying558
  a143 := Tryz.isAgg558
  z143 := Tryz.sizeOf558
  v143 := Tryz.zeroValue558
  t145 := Tryz.underlying560
  a145 := Tryz.isAgg560
  z145 := Tryz.sizeOf560
  v145 := Tryz.zeroValue560
  t167 := Tryz.underlying549
  a167 := Tryz.isAgg549
  z167 := Tryz.sizeOf549
  v167 := Tryz.zeroValue549
  t168 := Tryz.underlying552
  a168 := Tryz.isAgg552
  z168 := Tryz.sizeOf552
  v168 := Tryz.zeroValue552
  t171 := Tryz.underlying415
  a171 := Tryz.isAgg415
  z171 := Tryz.sizeOf415
  v171 := Tryz.zeroValue415
  t173 := Tryz.underlying417
  a173 := Tryz.isAgg417
  z173 := Tryz.sizeOf417
  v173 := Tryz.zeroValue417
  t175 := Tryz.underlying550
  a175 := Tryz.isAgg550
  z175 := Tryz.sizeOf550
  v175 := Tryz.zeroValue550
  t210 := Tryz.underlying557
  a210 := Tryz.isAgg557
  z210 := Tryz.sizeOf557
  v210 := Tryz.zeroValue557
  t212 := Tryz.underlying488
  a212 := Tryz.isAgg488
  z212 := Tryz.sizeOf488
  v212 := Tryz.zeroValue488
  t213 := Tryz.underlying489
  a213 := Tryz.isAgg489
  z213 := Tryz.sizeOf489
  t232 := Tryz.underlying528
  a232 := Tryz.isAgg528
  z232 := Tryz.sizeOf528
  v232 := Tryz.zeroValue528
  t233 := Tryz.underlying529
  a233 := Tryz.isAgg529
  z233 := Tryz.sizeOf529
  v233 := Tryz.zeroValue529
  g15 := by kernel_rfl
  g16 := by kernel_rfl
  g17 := by kernel_rfl
  g18 := by kernel_rfl
  g19 := by kernel_rfl
  t80 := Tryz.underlying104
  a80 := Tryz.isAgg104
  z80 := Tryz.sizeOf104
  v80 := Tryz.zeroValue104
  i0 := by kernel_rfl
  i2 := by kernel_rfl
  i3 := by kernel_rfl
  i4 := by kernel_rfl
  i5 := by kernel_rfl
  i9 := by kernel_rfl
  i20 := by kernel_rfl
  i21 := by kernel_rfl
  i37 := by kernel_rfl
  i46 := by kernel_rfl
  i51 := by kernel_rfl
  i53 := by kernel_rfl
  i75 := by kernel_rfl
  i80 := by kernel_rfl
  i85 := by kernel_rfl
  i127 := by kernel_rfl
  i143 := by kernel_rfl
  i145 := by kernel_rfl
  i167 := by kernel_rfl
  i168 := by kernel_rfl
  i171 := by kernel_rfl
  i173 := by kernel_rfl
  i175 := by kernel_rfl
  i210 := by kernel_rfl
  i212 := by kernel_rfl
  i232 := by kernel_rfl
  i233 := by kernel_rfl
  m15 := by kernel_rfl
  m16 := by kernel_rfl
  m17 := by kernel_rfl
  m18 := by kernel_rfl
  m19 := by kernel_rfl
  c0 := by kernel_rfl
  c2 := by kernel_rfl
  c3 := by kernel_rfl
  c4 := by kernel_rfl
  c5 := by kernel_rfl
  c9 := by kernel_rfl
  c20 := by kernel_rfl
  c21 := by kernel_rfl
  c37 := by kernel_rfl
  c46 := by kernel_rfl
  c51 := by kernel_rfl
  c53 := by kernel_rfl
  c75 := by kernel_rfl
  c80 := by kernel_rfl
  c85 := by kernel_rfl
  c127 := by kernel_rfl
  c143 := by kernel_rfl
  c145 := by kernel_rfl
  c167 := by kernel_rfl
  c168 := by kernel_rfl
  c171 := by kernel_rfl
  c173 := by kernel_rfl
  c175 := by kernel_rfl
  c210 := by kernel_rfl
  c212 := by kernel_rfl
  c213 := by kernel_rfl
  c232 := by kernel_rfl
  c233 := by kernel_rfl }
open Go.RowKit in
theorem Tryz.strconv_ParseInt_10_at64_ok (s : ByteArray) (hmax : s.size ≤ 9223372036854775806) (v : Int) (h : Lib.parseIntB 64 s.data.toList = .ok v) (w : World) :
    Calls Tryz.prog 497 #[.string s, .int .i64 10, .int .i64 64] w fun e w' => e = .returned (.tuple #[.int .i64 v, .nilIface]) ∧ (w' = w ∨ ∃ t, w' = Lib.bytesWorld w 5 t) := Any.strconv_ParseInt_10_at64_ok Tryz.laysC174 s hmax v h w
end Go.Proofs

