import Derived.Test.YtdbdbaepmdmnfaaGreatDoorZ32
import Derived.Test.YtdbdbaepmdmnfaaGreatDoorZ29
import Derived.Test.YtdbdbaepmdmnfaaGreatDoorZ33
import Derived.Laws.OwnMore
import Derived.Test.YtdbdbaepmdmnfaaGreatDoorZ24
import Derived.Deep.RegionHeld3
import Derived.Test.YtdbdbaepmdmnfaaGreatDoorProg
import Derived.Test.YtdbdbaepmdmnfaaGreatDoorZ06
import Derived.Shelf.Strings.OnBuilder
import Derived.Lib.ItoaNum
namespace Go.Proofs.YtdbdbaepmdmnfaaGreatDoor
open Go.RowKit
variable {wT : World}
theorem makesE_str (s : ByteArray) (vs : VA) : MakesE wT (strT s) (fun B w v => ConstE B w v 2 0 s) vs vs := by
  intro kb mv ma mf sg w h
  refine (expr_str _ s w).mono ?_
  rintro en w' ⟨rfl, rfl⟩
  have ho := ((((onlyA w (.cells #[.func (.func 298) #[] #[.pointer (some ⟨w.heap.size + 1 + 1 + 1, 0, none⟩)], .nilFunc] 338)).alloc (.cells #[.string s] 303)).alloc (.cells #[.int .i64 2, .int .i64 0, .string s] 203)).alloc (.cells #[.int .i64 2, .int .i64 0, .string s] 203)).alloc (.cells #[.func (.func 298) #[] #[.pointer (some ⟨w.heap.size + 1 + 1 + 1, 0, none⟩)], .nilFunc] 338)
  exact ⟨_, rfl, ⟨w.heap.size + 1 + 1 + 1, rfl, by omega, (Below.heap_alloc _ _ _ (by simp)).trans (new_at2 (by simp) _)⟩, h.calm ho, ho.mono (fun _ _ e => e.elim)⟩
end Go.Proofs.YtdbdbaepmdmnfaaGreatDoor

namespace Go.Proofs.YtdbdbaepmdmnfaaGreatDoor
open Go.RowKit
variable {wT : World}
set_option maxRecDepth 20000 in
set_option maxHeartbeats 4000000 in
theorem mkx_own (x : ByteArray) (a : Int) (po : Option Addr) (n cap : Nat) (I : Nat → World → Value → Prop) (hI : KeepsE I) (vs vs' : VA) (hM : ∀ kb mv ma mf sg W, MkV wT W kb mv ma mf sg vs → Calls Tryz.prog 222 #[.pointer (some ⟨kb, 0, none⟩), (.agg #[.string x, .int .i64 a, .slice po n cap])] W fun en w' => ∃ v, en = .returned v ∧ I W.heap.size w' v ∧ MkV wT w' kb mv ma mf sg vs' ∧ Only (fun q => q = mv ∨ q = ma) W w') : MakesE wT (.iface 312 (.agg #[.string x, .int .i64 a, .slice po n cap])) I vs vs' := by
  intro kb mv ma mf sg w h
  have hmf := hmfT
  have hsf := hsfT
  have hsn := hsnT
  have hml := heap_lt h.v
  have hkl := heap_lt h.k
  have hal := heap_lt h.a
  have hw0 := h.t.size
  have e0 : ∀ W, (Instr.typeAssert (.iface 312 (.agg #[.string x, .int .i64 a, .slice po n cap])) 238 300 true).run Tryz.prog W = .ok (.tuple #[.agg #[.int .i64 0], .bool false]) W := fun W => by kernel_rfl
  have e1 : ∀ W, (Instr.typeAssert (.iface 312 (.agg #[.string x, .int .i64 a, .slice po n cap])) 238 303 true).run Tryz.prog W = .ok (.tuple #[.agg #[.string ⟨#[]⟩], .bool false]) W := fun W => by kernel_rfl
  have e2 : ∀ W, (Instr.typeAssert (.iface 312 (.agg #[.string x, .int .i64 a, .slice po n cap])) 238 304 true).run Tryz.prog W = .ok (.tuple #[.agg #[.string ⟨#[]⟩], .bool false]) W := fun W => by kernel_rfl
  have e3 : ∀ W, (Instr.typeAssert (.iface 312 (.agg #[.string x, .int .i64 a, .slice po n cap])) 238 92 true).run Tryz.prog W = .ok (.tuple #[.agg #[.string ⟨#[]⟩, .int .i64 0], .bool false]) W := fun W => by kernel_rfl
  have e4 : ∀ W, (Instr.typeAssert (.iface 312 (.agg #[.string x, .int .i64 a, .slice po n cap])) 238 306 true).run Tryz.prog W = .ok (.tuple #[.agg #[.string ⟨#[]⟩, .int .i64 0, .slice none 0 0], .bool false]) W := fun W => by kernel_rfl
  have e5 : ∀ W, (Instr.typeAssert (.iface 312 (.agg #[.string x, .int .i64 a, .slice po n cap])) 238 309 true).run Tryz.prog W = .ok (.tuple #[.agg #[.nilIface], .bool false]) W := fun W => by kernel_rfl
  have e6 : ∀ W, (Instr.typeAssert (.iface 312 (.agg #[.string x, .int .i64 a, .slice po n cap])) 238 311 true).run Tryz.prog W = .ok (.tuple #[.agg #[.string ⟨#[]⟩, .int .i64 0, .slice none 0 0], .bool false]) W := fun W => by kernel_rfl
  have ey : ∀ W, (Instr.typeAssert (.iface 312 (.agg #[.string x, .int .i64 a, .slice po n cap])) 238 312 true).run Tryz.prog W = .ok (.tuple #[.agg #[.string x, .int .i64 a, .slice po n cap], .bool true]) W := fun W => by kernel_rfl
  have HR := hide (fun W (hW : Only (fun _ => False) w W) => hM kb mv ma mf sg W (h.calm hW))
  clear h hM
  go_enter Tryz.func163, Tryz.ntmps163
  go_wp2_with fail
  refine (HR.out _ ((onlyA w _).alloc _)).mono ?_
  rintro en w2 ⟨v, rfl, hv, hk, ho⟩
  obtain ⟨x1, y1, rfl, hx1, hy1⟩ := hI.shape _ _ _ hv
  have hb := (ho.block w.heap.size (by simp; omega) (by omega)).trans ((Below.heap_alloc _ _ _ (by simp)).trans (new0 w _))
  have r0 : w2.cell? ⟨w.heap.size, 0, none⟩ = some .nilFunc := cell_of hb rfl
  have r1 : w2.cell? ⟨w.heap.size, 1, none⟩ = some .nilFunc := cell_of hb rfl
  have rf := free_of hb
  have rl := heap_lt hb
  have s1 : ∀ (a : Addr) (W : World), (store a x1).run Tryz.prog W = stored Tryz.prog W a x1 .plain := fun a W => run_store _ W a _ _ hx1
  have s2 : ∀ (a : Addr) (W : World), (store a y1).run Tryz.prog W = stored Tryz.prog W a y1 .plain := fun a W => run_store _ W a _ _ hy1
  have HV := hide hv
  have HK := hide hk
  have HO := hide ho
  clear hv ho hb HR hk
  go_wp2
  have hF : Only (fun q => q = w.heap.size) w2 ((w2.setCell ⟨w.heap.size, 0, none⟩ x1).setCell ⟨w.heap.size, 1, none⟩ y1) := ((Only.refl (fun q => q = w.heap.size) w2).setCell (p := ⟨w.heap.size, 0, none⟩) (fun _ => rfl) _).setCell (p := ⟨w.heap.size, 1, none⟩) (fun _ => rfl) _
  refine bodyPost_ret (v := .agg #[x1, y1]) (by simp [results, Tryz.results163, go_sem, r0, r1]) rfl ⟨_, rfl, hI.down _ _ _ _ (hI.keep _ _ _ _ HV.out (hF.mono (fun i _ e => by rw [e]; simp; omega))) (by simp; omega), HK.out.far hF (by omega) (by omega) (by omega) (by omega), ?_⟩
  exact only_box ((onlyA w _).alloc _) HO.out hF (Nat.le_refl _)
end Go.Proofs.YtdbdbaepmdmnfaaGreatDoor

namespace Go.Proofs.YtdbdbaepmdmnfaaGreatDoor
open Go.RowKit
/-- A function enters. -/
def Enters (F : Nat) : Prop := ∀ (args : Array Value) (w : World), (callFunc F args).run Tryz.prog w = .ok (.enter F args) w
/-- An expression's function works a value out, and turns nothing. -/
def Gives (p : Pl8) (s : St8) (x r : Value) : Prop := ∃ (F : Nat) (caps : List Value), x = .func (.func F) #[] caps.toArray ∧ Enters F ∧ ∀ W, On8 p s W → Calls Tryz.prog F (.pointer (some ⟨p.m, 0, none⟩) :: caps).toArray W fun en w' => en = .returned r ∧ Only (fun _ => False) W w'
/-- A place that was found: what takes and what stores, by the number k. -/
def PlaceK (p : Pl8) (ft fst k : Nat) (W : World) (tk st : Value) : Prop := ∃ b2 nb, tk = .func (.func ft) #[] #[.pointer (some ⟨b2, 0, none⟩), .pointer (some ⟨nb, 0, none⟩)] ∧ st = .func (.func fst) #[] #[.pointer (some ⟨b2, 0, none⟩), .pointer (some ⟨nb, 0, none⟩)] ∧ W.heap[b2]? = some (.cells #[.pointer (some ⟨p.m, 0, none⟩)] 130 (0, 0)) ∧ W.heap[nb]? = some (.cells #[.int .i64 k] 3 (0, 0))
theorem PlaceK.calm {p : Pl8} {ft fst k : Nat} {W W' : World} {tk st : Value} (h : PlaceK p ft fst k W tk st) (ho : Only (fun _ => False) W W') : PlaceK p ft fst k W' tk st := by
  obtain ⟨b2, nb, e1, e2, h1, h2⟩ := h
  exact ⟨b2, nb, e1, e2, (ho.block b2 (heap_lt h1) (fun e => e)).trans h1, (ho.block nb (heap_lt h2) (fun e => e)).trans h2⟩
/-- An expression's function finds the place of the number k. -/
def FindsK (p : Pl8) (s : St8) (ft fst k : Nat) (y : Value) : Prop := ∃ (F : Nat) (caps : List Value), y = .func (.func F) #[] caps.toArray ∧ Enters F ∧ ∀ W, On8 p s W → Calls Tryz.prog F (.pointer (some ⟨p.m, 0, none⟩) :: caps).toArray W fun en w' => ∃ tk st, en = .returned (.agg #[tk, st]) ∧ PlaceK p ft fst k w' tk st ∧ Only (fun _ => False) W w'
/-- Taking from that place. -/
def TakesK (p : Pl8) (s : St8) (ft k : Nat) (a n : Int) (t : ByteArray) : Prop := Enters ft ∧ ∀ W b2 nb, On8 p s W → W.heap[b2]? = some (.cells #[.pointer (some ⟨p.m, 0, none⟩)] 130 (0, 0)) → W.heap[nb]? = some (.cells #[.int .i64 k] 3 (0, 0)) → Calls Tryz.prog ft #[.pointer (some ⟨b2, 0, none⟩), .pointer (some ⟨nb, 0, none⟩)] W fun en w' => en = .returned (.agg #[.int .i64 a, .int .i64 n, .string t]) ∧ Only (fun _ => False) W w'
set_option maxRecDepth 20000 in
set_option maxHeartbeats 1000000 in
theorem variable_on (p : Pl8) (s : St8) (j : Nat) (hj : j < 8) (a n : Int) (t : ByteArray) (h0 : s.cs[j * 3]? = some (.int .i64 a)) (h1 : s.cs[j * 3 + 1]? = some (.int .i64 n)) (h2 : s.cs[j * 3 + 2]? = some (.string t)) (w : World) (h : On8 p s w) :
    Calls Tryz.prog 309 #[.pointer (some ⟨p.m, 0, none⟩), .int .i64 j] w fun en w' => en = .returned (.agg #[.int .i64 a, .int .i64 n, .string t]) ∧ Only (fun _ => False) w w' := by
  obtain ⟨fv, hM, _⟩ := h.M
  have c1 : w.cell? ⟨p.m, 1, none⟩ = some (.slice (some ⟨p.vb, 0, none⟩) 8 8) := cell_of hM rfl
  have ml := heap_lt hM
  have v0 := h.V.cell h0
  have v1 := h.V.cell h1
  have v2 := h.V.cell h2
  have vl := heap_lt h.V
  have hli : 0 ≤ (j : Int) ∧ (j : Int) < 8 := by omega
  clear h hM h0 h1 h2
  go_enter Tryz.func309, Tryz.ntmps309
  go_wp2
  refine bodyPost_ret (v := .agg #[.int .i64 a, .int .i64 n, .string t]) (by simp [results, Tryz.results309, go_sem]) rfl ⟨rfl, ?_⟩
  exact onlyA w _
set_option maxRecDepth 20000 in
set_option maxHeartbeats 1000000 in
theorem takes_var (p : Pl8) (s : St8) (j : Nat) (hj : j < 8) (a n : Int) (t : ByteArray) (h0 : s.cs[j * 3]? = some (.int .i64 a)) (h1 : s.cs[j * 3 + 1]? = some (.int .i64 n)) (h2 : s.cs[j * 3 + 2]? = some (.string t)) : TakesK p s 308 j a n t := by
  refine ⟨cf292, fun w b2 nb h e2 e4 => ?_⟩
  have l2 := heap_lt e2
  have l4 := heap_lt e4
  have c2 : w.cell? ⟨b2, 0, none⟩ = some (.pointer (some ⟨p.m, 0, none⟩)) := cell_of e2 rfl
  have c4 : w.cell? ⟨nb, 0, none⟩ = some (.int .i64 j) := cell_of e4 rfl
  have HR := hide (variable_on p s j hj a n t h0 h1 h2 _ (h.calm (onlyA w (.cells #[.int .i64 0, .int .i64 0, .string ⟨#[]⟩] 203))))
  clear h h0 h1 h2 e2 e4
  go_enter Tryz.func308, Tryz.ntmps308
  go_wp2_with fail
  refine (HR.out).mono ?_
  rintro en w2 ⟨rfl, ho⟩
  have hb0 := (ho.block w.heap.size (by simp) (fun e => e)).trans (new0 w _)
  have r0 : w2.cell? ⟨w.heap.size, 0, none⟩ = some (.int .i64 0) := cell_of hb0 rfl
  have r1 : w2.cell? ⟨w.heap.size, 1, none⟩ = some (.int .i64 0) := cell_of hb0 rfl
  have r2 : w2.cell? ⟨w.heap.size, 2, none⟩ = some (.string ⟨#[]⟩) := cell_of hb0 rfl
  have rf := free_of hb0
  have rl := heap_lt hb0
  have HO := hide ho
  clear ho hb0 HR
  go_wp2
  refine bodyPost_ret (v := .agg #[.int .i64 a, .int .i64 n, .string t]) (by simp [results, Tryz.results308, go_sem, r0, r1, r2]) rfl ⟨rfl, ?_⟩
  exact ((((onlyA w _).trans HO.out (fun _ _ e => e)).setCell (p := ⟨w.heap.size, 0, none⟩) (fun h => absurd h (by show ¬ w.heap.size < w.heap.size; omega)) _).setCell (p := ⟨w.heap.size, 1, none⟩) (fun h => absurd h (by show ¬ w.heap.size < w.heap.size; omega)) _).setCell (p := ⟨w.heap.size, 2, none⟩) (fun h => absurd h (by show ¬ w.heap.size < w.heap.size; omega)) _
/-- What was made of a name finds its place. -/
theorem finds_var (p : Pl8) (s : St8) (k B : Nat) (x y : Value) (h : VarK k B p.wN (.agg #[x, y])) : FindsK p s 308 310 k y := by
  obtain ⟨g, nb, e, _, _, _, hnb⟩ := h
  have hy : y = .func (.func 307) #[] #[.pointer (some ⟨nb, 0, none⟩)] := by injection e with e; have := congrArg (fun a => a[1]?) e; simpa using this
  refine ⟨307, [.pointer (some ⟨nb, 0, none⟩)], hy, cf291, fun W hW => ?_⟩
  refine (vfind_do p.m nb W).mono ?_
  rintro en w' ⟨e, hb, ho⟩
  exact ⟨_, _, e, ⟨_, _, rfl, rfl, hb, (ho.block nb (Nat.lt_of_lt_of_le (heap_lt hnb) hW.O.size) (fun e => e)).trans ((hW.O.block nb (heap_lt hnb) (fun e => e)).trans hnb)⟩, ho⟩
set_option maxRecDepth 20000 in
set_option maxHeartbeats 1000000 in
/-- What was found is taken. -/
theorem found_on (p : Pl8) (s : St8) (ft fst k g : Nat) (y : Value) (a n : Int) (t : ByteArray) (hF : FindsK p s ft fst k y) (hT : TakesK p s ft k a n t) (hg : p.wN.heap[g]? = some (.cells #[y] 336 (0, 0))) : Gives p s (.func (.func 386) #[] #[.pointer (some ⟨g, 0, none⟩)]) (.agg #[.int .i64 a, .int .i64 n, .string t]) := by
  refine ⟨386, [.pointer (some ⟨g, 0, none⟩)], rfl, cf370, fun w h => ?_⟩
  obtain ⟨F, caps, rfl, hcf, hF⟩ := hF
  obtain ⟨hcf2, hT⟩ := hT
  have hgw := (h.O.block g (heap_lt hg) (fun e => e)).trans hg
  have eg : w.cell? ⟨g, 0, none⟩ = some (.func (.func F) #[] caps.toArray) := cell_of hgw rfl
  have gl := heap_lt hgw
  have hfl := fld428
  have HF := hide (hF _ (h.calm (onlyA w (.cells #[.int .i64 0, .int .i64 0, .string ⟨#[]⟩] 203))))
  have HT := hide (fun W b2 nb (hW : Only (fun _ => False) w W) => hT W b2 nb (h.calm hW))
  unfold Enters at hcf hcf2
  clear h hgw hF hT
  go_enter Tryz.func386, Tryz.ntmps386
  go_wp2_with fail
  refine (HF.out).mono ?_
  rintro en w2 ⟨tk, st, rfl, ⟨b2, nb, rfl, rfl, hb2, hnb⟩, ho⟩
  have hO := (onlyA w _).trans ho (fun _ _ e => e)
  have HT2 := hide (HT.out w2 b2 nb hO hb2 hnb)
  have hb0 := (ho.block w.heap.size (by simp) (fun e => e)).trans (new0 w _)
  have HB0 := hide hb0
  have HO := hide hO
  clear hb2 hnb hO ho hb0 HT
  go_wp2_with fail
  refine (HT2.out).mono ?_
  rintro en w3 ⟨rfl, ho3⟩
  have hb3 := (ho3.block w.heap.size (heap_lt HB0.out) (fun e => e)).trans HB0.out
  have r0 : w3.cell? ⟨w.heap.size, 0, none⟩ = some (.int .i64 0) := cell_of hb3 rfl
  have r1 : w3.cell? ⟨w.heap.size, 1, none⟩ = some (.int .i64 0) := cell_of hb3 rfl
  have r2 : w3.cell? ⟨w.heap.size, 2, none⟩ = some (.string ⟨#[]⟩) := cell_of hb3 rfl
  have rf := free_of hb3
  have rl := heap_lt hb3
  have HO3 := hide (HO.out.trans ho3 (fun _ _ e => e))
  clear ho3 hb3 HT2
  go_wp2
  refine bodyPost_ret (v := .agg #[.int .i64 a, .int .i64 n, .string t]) (by simp [results, Tryz.results386, go_sem, r0, r1, r2]) rfl ⟨rfl, ?_⟩
  exact ((HO3.out.setCell (p := ⟨w.heap.size, 0, none⟩) (fun h => absurd h (by show ¬ w.heap.size < w.heap.size; omega)) _).setCell (p := ⟨w.heap.size, 1, none⟩) (fun h => absurd h (by show ¬ w.heap.size < w.heap.size; omega)) _).setCell (p := ⟨w.heap.size, 2, none⟩) (fun h => absurd h (by show ¬ w.heap.size < w.heap.size; omega)) _
/-- What was made of a name works its value out. -/
theorem gives_var (p : Pl8) (s : St8) (k B : Nat) (x y : Value) (h : VarK k B p.wN (.agg #[x, y])) (hk : k < 8) (a n : Int) (t : ByteArray) (h0 : s.cs[k * 3]? = some (.int .i64 a)) (h1 : s.cs[k * 3 + 1]? = some (.int .i64 n)) (h2 : s.cs[k * 3 + 2]? = some (.string t)) : Gives p s x (.agg #[.int .i64 a, .int .i64 n, .string t]) := by
  have hf := finds_var p s k B x y h
  obtain ⟨g, nb, e, _, _, hg, _⟩ := h
  have hx : x = .func (.func 386) #[] #[.pointer (some ⟨g, 0, none⟩)] := by injection e with e; have := congrArg (fun a => a[0]?) e; simpa using this
  have hy : y = .func (.func 307) #[] #[.pointer (some ⟨nb, 0, none⟩)] := by injection e with e; have := congrArg (fun a => a[1]?) e; simpa using this
  rw [hx]
  exact found_on p s 308 310 k g y a n t hf (takes_var p s k hk a n t h0 h1 h2) (by rw [hy]; exact hg)
/-- A number works itself out. -/
theorem gives_num (p : Pl8) (s : St8) (B : Nat) (n : Int) (x y : Value) (h : ConstE B p.wN (.agg #[x, y]) 1 n ⟨#[]⟩) : Gives p s x (.agg #[.int .i64 1, .int .i64 n, .string ⟨#[]⟩]) := by
  obtain ⟨c, e, _, hc⟩ := h
  have hx : x = .func (.func 298) #[] #[.pointer (some ⟨c, 0, none⟩)] := by injection e with e; have := congrArg (fun a => a[0]?) e; simpa using this
  refine ⟨298, [.pointer (some ⟨c, 0, none⟩)], hx, cf480, fun W hW => ?_⟩
  have hcW := (hW.O.block c (heap_lt hc) (fun e => e)).trans hc
  refine (const_do (some ⟨p.m, 0, none⟩) c 1 n ⟨#[]⟩ W (cell_of hcW rfl) (cell_of hcW rfl) (cell_of hcW rfl)).mono ?_
  rintro en w' ⟨e, rfl⟩
  exact ⟨e, onlyA _ _⟩
end Go.Proofs.YtdbdbaepmdmnfaaGreatDoor

namespace Go.Proofs.YtdbdbaepmdmnfaaGreatDoor
open Go.RowKit
/-- What a text that was read is: its kind, its number. -/
def rdK (t : ByteArray) : Int := if numeralB t.data.toList then 3 else 2
def rdN (t : ByteArray) : Int := if numeralB t.data.toList then leadNum t.data.toList else 0
theorem readB_any (t : ByteArray) (ht : t.size ≤ 500) (w : World) : Calls Tryz.prog 400 #[.string t] w fun en w' => en = .returned (.agg #[.int .i64 (rdK t), .int .i64 (rdN t), .string t]) ∧ Only (fun _ => False) w w' := by
  have hm : t.size ≤ maxLen := by unfold maxLen; omega
  cases hn : numeralB t.data.toList with
  | true =>
    refine (read_num t w hm hn).mono ?_
    rintro en w' ⟨e, hb⟩
    exact ⟨by rw [e]; simp [rdK, rdN, hn], Only.ofBelow hb _⟩
  | false =>
    refine (read_text t w hm hn).mono ?_
    rintro en w' ⟨e, hb⟩
    exact ⟨by rw [e]; simp [rdK, rdN, hn], Only.ofBelow hb _⟩
set_option maxRecDepth 20000 in
set_option maxHeartbeats 2000000 in
theorem field_number_on (p : Option Addr) (a : Int) (ha : (a == 2) = false) (k : Nat) (hk : k ≤ 40) (s : ByteArray) (w : World) : Calls Tryz.prog 318 #[.pointer p, .agg #[.int .i64 a, .int .i64 k, .string s]] w fun en w' => en = .returned (.int .i64 k) ∧ Only (fun _ => False) w w' := by
  have HN := hide (number_else a k s (w.alloc (.cells #[.int .i64 a, .int .i64 k, .string s] 203)) ha)
  have HK := hide (check_number k hk)
  have HC := hide (check_nil p)
  clear ha hk
  go_enter Tryz.func318, Tryz.ntmps318
  go_wp2_with fail
  refine (HN.out).mono ?_
  rintro en w2 ⟨rfl, hb⟩
  have HO := hide (Only.ofBelow hb (fun _ => False))
  clear hb HN
  go_wp2_with (first | (go_at_call 234; refine (HK.out _).mono ?_; rintro en w' ⟨rfl, h3⟩; subst w') | (go_at_call 166; refine (HC.out _).mono ?_; rintro en w' ⟨rfl, h3⟩; subst w'))
  go_ret
  exact ⟨rfl, (onlyA w _).trans HO.out (fun _ _ e => e)⟩
set_option maxRecDepth 20000 in
set_option maxHeartbeats 2000000 in
theorem field_on (p : Pl8) (s : St8) (k a n : Int) (t : ByteArray) (H : ∀ W, On8 p s W → Calls Tryz.prog 388 #[.pointer (some ⟨p.m, 2, none⟩), .int .i64 k] W fun en w' => en = .returned (.agg #[.int .i64 a, .int .i64 n, .string t]) ∧ Only (fun _ => False) W w') (w : World) (h : On8 p s w) :
    Calls Tryz.prog 320 #[.pointer (some ⟨p.m, 0, none⟩), .int .i64 k] w fun en w' => en = .returned (.agg #[.int .i64 a, .int .i64 n, .string t]) ∧ Only (fun _ => False) w w' := by
  obtain ⟨fv, hM, hF⟩ := h.M
  have ml := heap_lt hM
  have HR := hide (H (w.alloc (.cells #[.int .i64 0, .int .i64 0, .string ⟨#[]⟩] 203)) (h.calm (onlyA w _)))
  clear h hM hF H
  go_enter Tryz.func320, Tryz.ntmps320
  go_wp2_with fail
  refine (HR.out).mono ?_
  rintro en w2 ⟨rfl, ho⟩
  have hb0 := (ho.block w.heap.size (by simp) (fun e => e)).trans (new0 w _)
  have r0 : w2.cell? ⟨w.heap.size, 0, none⟩ = some (.int .i64 0) := cell_of hb0 rfl
  have r1 : w2.cell? ⟨w.heap.size, 1, none⟩ = some (.int .i64 0) := cell_of hb0 rfl
  have r2 : w2.cell? ⟨w.heap.size, 2, none⟩ = some (.string ⟨#[]⟩) := cell_of hb0 rfl
  have rf := free_of hb0
  have rl := heap_lt hb0
  have HO := hide ho
  clear ho hb0 HR
  go_wp2
  refine bodyPost_ret (v := .agg #[.int .i64 a, .int .i64 n, .string t]) (by simp [results, Tryz.results320, go_sem, r0, r1, r2]) rfl ⟨rfl, ?_⟩
  exact ((((onlyA w _).trans HO.out (fun _ _ e => e)).setCell (p := ⟨w.heap.size, 0, none⟩) (fun h => absurd h (by show ¬ w.heap.size < w.heap.size; omega)) _).setCell (p := ⟨w.heap.size, 1, none⟩) (fun h => absurd h (by show ¬ w.heap.size < w.heap.size; omega)) _).setCell (p := ⟨w.heap.size, 2, none⟩) (fun h => absurd h (by show ¬ w.heap.size < w.heap.size; omega)) _
theorem cf317 (args : Array Value) (w : World) : (callFunc 317 args).run Tryz.prog w = .ok (.enter 317 args) w := callFunc_in Tryz.func317 (by kernel_rfl) rfl args w
theorem cf319 (args : Array Value) (w : World) : (callFunc 319 args).run Tryz.prog w = .ok (.enter 319 args) w := callFunc_in Tryz.func319 (by kernel_rfl) rfl args w
set_option maxRecDepth 20000 in
set_option maxHeartbeats 2000000 in
theorem takes_fieldG (p : Pl8) (s : St8) (k : Nat) (a n : Int) (t : ByteArray) (H : ∀ W, On8 p s W → Calls Tryz.prog 388 #[.pointer (some ⟨p.m, 2, none⟩), .int .i64 k] W fun en w' => en = .returned (.agg #[.int .i64 a, .int .i64 n, .string t]) ∧ Only (fun _ => False) W w') : TakesK p s 319 k a n t := by
  refine ⟨cf319, fun w b2 nb h e2 e4 => ?_⟩
  have l2 := heap_lt e2
  have l4 := heap_lt e4
  have c2 : w.cell? ⟨b2, 0, none⟩ = some (.pointer (some ⟨p.m, 0, none⟩)) := cell_of e2 rfl
  have c4 : w.cell? ⟨nb, 0, none⟩ = some (.int .i64 k) := cell_of e4 rfl
  have HR := hide (field_on p s k a n t H _ (h.calm (onlyA w (.cells #[.int .i64 0, .int .i64 0, .string ⟨#[]⟩] 203))))
  clear h H e2 e4
  go_enter Tryz.func319, Tryz.ntmps319
  go_wp2_with fail
  refine (HR.out).mono ?_
  rintro en w2 ⟨rfl, ho⟩
  have hb0 := (ho.block w.heap.size (by simp) (fun e => e)).trans (new0 w _)
  have r0 : w2.cell? ⟨w.heap.size, 0, none⟩ = some (.int .i64 0) := cell_of hb0 rfl
  have r1 : w2.cell? ⟨w.heap.size, 1, none⟩ = some (.int .i64 0) := cell_of hb0 rfl
  have r2 : w2.cell? ⟨w.heap.size, 2, none⟩ = some (.string ⟨#[]⟩) := cell_of hb0 rfl
  have rf := free_of hb0
  have rl := heap_lt hb0
  have HO := hide ho
  clear ho hb0 HR
  go_wp2
  refine bodyPost_ret (v := .agg #[.int .i64 a, .int .i64 n, .string t]) (by simp [results, Tryz.results319, go_sem, r0, r1, r2]) rfl ⟨rfl, ?_⟩
  exact ((((onlyA w _).trans HO.out (fun _ _ e => e)).setCell (p := ⟨w.heap.size, 0, none⟩) (fun h => absurd h (by show ¬ w.heap.size < w.heap.size; omega)) _).setCell (p := ⟨w.heap.size, 1, none⟩) (fun h => absurd h (by show ¬ w.heap.size < w.heap.size; omega)) _).setCell (p := ⟨w.heap.size, 2, none⟩) (fun h => absurd h (by show ¬ w.heap.size < w.heap.size; omega)) _
end Go.Proofs.YtdbdbaepmdmnfaaGreatDoor

namespace Go.Proofs.YtdbdbaepmdmnfaaGreatDoor
open Go.RowKit
set_option maxRecDepth 20000 in
set_option maxHeartbeats 4000000 in
theorem ffind_do (p : Pl8) (s : St8) (nb : Nat) (x y : Value) (k : Nat) (hk : k ≤ 40) (a : Int) (ha : (a == 2) = false) (t : ByteArray) (hG : Gives p s x (.agg #[.int .i64 a, .int .i64 k, .string t])) (hnb : p.wN.heap[nb]? = some (.cells #[x, y] 338 (0, 0))) (w : World) (h : On8 p s w) :
    Calls Tryz.prog 317 #[.pointer (some ⟨p.m, 0, none⟩), .pointer (some ⟨nb, 0, none⟩)] w fun en w' => ∃ b2 b4, en = .returned (.agg #[.func (.func 319) #[] #[.pointer (some ⟨b2, 0, none⟩), .pointer (some ⟨b4, 0, none⟩)], .func (.func 321) #[] #[.pointer (some ⟨b2, 0, none⟩), .pointer (some ⟨b4, 0, none⟩)]]) ∧ w'.heap[b2]? = some (.cells #[.pointer (some ⟨p.m, 0, none⟩)] 130 (0, 0)) ∧ w'.heap[b4]? = some (.cells #[.int .i64 k] 3 (0, 0)) ∧ Only (fun _ => False) w w' := by
  obtain ⟨F, caps, rfl, hcf, hF⟩ := hG
  unfold Enters at hcf
  have hmf := hmfT
  have hsf := hsfT
  have hsn := hsnT
  have hnw := (h.O.block nb (heap_lt hnb) (fun e => e)).trans hnb
  have e0 : w.cell? ⟨nb, 0, none⟩ = some (.func (.func F) #[] caps.toArray) := cell_of hnw rfl
  have hnl := heap_lt hnw
  have HF := hide (fun W (hW : Only (fun _ => False) w W) => hF W (h.calm hW))
  have HN := hide (field_number_on (some ⟨p.m, 0, none⟩) a ha k hk t)
  clear hnb hnw hF h ha hk
  go_enter Tryz.func317, Tryz.ntmps317
  go_upto_region 1 with fail
  have n0 : ((w.alloc (.cells #[.pointer (some ⟨p.m, 0, none⟩)] 130)).alloc (.cells #[.nilFunc, .nilFunc] 436)).cell? ⟨w.heap.size, 0, none⟩ = some (.pointer (some ⟨p.m, 0, none⟩)) := past (cell_of (new0 w _) rfl) _
  have n0d : ((w.alloc (.cells #[.pointer (some ⟨p.m, 0, none⟩)] 130)).alloc (.cells #[.nilFunc, .nilFunc] 436)).drew.cell? ⟨w.heap.size, 0, none⟩ = some (.pointer (some ⟨p.m, 0, none⟩)) := n0
  go_cut [4] (fun s4 wc => ∃ b4, s4 = .pointer (some ⟨b4, 0, none⟩) ∧ wc.heap[b4]? = some (.cells #[.int .i64 k] 3 (0, 0)) ∧ wc.heap[w.heap.size]? = some (.cells #[.pointer (some ⟨p.m, 0, none⟩)] 130 (0, 0)) ∧ wc.heap[w.heap.size + 1]? = some (.cells #[.nilFunc, .nilFunc] 436 (0, 0)) ∧ w.heap.size + 1 < b4 ∧ Only (fun _ => False) w wc)
  case first =>
    go_region_held3 (fun W => W.cell? ⟨w.heap.size, 0, none⟩ = some (.pointer (some ⟨p.m, 0, none⟩)) ∧ W.cell? ⟨nb, 0, none⟩ = some (.func (.func F) #[] caps.toArray)) (first | (refine ⟨?_, ?_⟩ <;> (repeat (first | (with_reducible assumption) | (with_reducible refine past ?_ _) | (with_reducible refine pastD ?_ _) | ((with_reducible refine farC ?_ ?_); (rotate_left; (focus (first | (simp; done) | (simp; omega) | omega))))))))
      (first | (go_at_call 318; refine (HN.out _).mono ?_; rintro en w2 ⟨rfl, ho2⟩; have hO : Only (fun _ => False) w w2 := Only.trans (by repeat (first | with_reducible exact HO1.out | with_reducible refine Only.alloc ?_ _ | with_reducible refine toDrew ?_)) ho2 (fun _ _ e => e); refine lay (P := Hid (w2.heap[w.heap.size]? = some (.cells #[.pointer (some ⟨p.m, 0, none⟩)] 130 (0, 0)))) ?_ (fun HC0 => ?_); (focus (refine hide ?_; refine (ho2.block _ ?_ (fun e => e)).trans ?_; (focus (first | (simp; done) | (simp; omega) | omega)); (repeat (first | (with_reducible exact HB0.out) | ((with_reducible refine new_at2D ?_ _); focus (simp; done)) | ((with_reducible refine (heap_allocD _ _ ?_).trans ?_); (focus (first | (simp; done) | (simp; omega) | omega))) | ((with_reducible refine new_at2 ?_ _); focus (simp; done)) | ((with_reducible refine (Below.heap_alloc _ _ _ ?_).trans ?_); (focus (first | (simp; done) | (simp; omega) | omega))))); done)); refine lay (P := Hid (w2.heap[w.heap.size + 1]? = some (.cells #[.nilFunc, .nilFunc] 436 (0, 0)))) ?_ (fun HC1 => ?_); (focus (refine hide ?_; refine (ho2.block _ ?_ (fun e => e)).trans ?_; (focus (first | (simp; done) | (simp; omega) | omega)); (repeat (first | (with_reducible exact HB1.out) | ((with_reducible refine new_at2D ?_ _); focus (simp; done)) | ((with_reducible refine (heap_allocD _ _ ?_).trans ?_); (focus (first | (simp; done) | (simp; omega) | omega))) | ((with_reducible refine new_at2 ?_ _); focus (simp; done)) | ((with_reducible refine (Below.heap_alloc _ _ _ ?_).trans ?_); (focus (first | (simp; done) | (simp; omega) | omega))))); done)); have v0 : w2.cell? ⟨w.heap.size, 0, none⟩ = some (.pointer (some ⟨p.m, 0, none⟩)) := cell_of HC0.out rfl; have v1 := (hO.cell (p := ⟨nb, 0, none⟩) hnl (fun e => e)).trans e0; (try (refine lay (P := Hid (w2.heap[w.heap.size + 1 + 1]? = some (.cells #[.int .i64 0] 3 (0, 0)))) ?_ (fun HD0 => ?_); (focus (refine hide ?_; refine (ho2.block _ ?_ (fun e => e)).trans ?_; (focus (first | (simp; done) | (simp; omega) | omega)); (repeat (first | (with_reducible exact HI0.out) | ((with_reducible refine new_at2D ?_ _); focus (simp; done)) | ((with_reducible refine (heap_allocD _ _ ?_).trans ?_); (focus (first | (simp; done) | (simp; omega) | omega))) | ((with_reducible refine new_at2 ?_ _); focus (simp; done)) | ((with_reducible refine (Below.heap_alloc _ _ _ ?_).trans ?_); (focus (first | (simp; done) | (simp; omega) | omega))))); done)); have HD0c : w2.cell? ⟨w.heap.size + 1 + 1, 0, none⟩ = some (.int .i64 0) := cell_of HD0.out rfl; have HD0f := free_of HD0.out; have HD0l := heap_lt HD0.out)); (try (refine lay (P := Hid (w2.heap[w1.heap.size]? = some (.cells #[.int .i64 0] 3 (0, 0)))) ?_ (fun HD1 => ?_); (focus (refine hide ?_; refine (ho2.block _ ?_ (fun e => e)).trans ?_; (focus (first | (simp; done) | (simp; omega) | omega)); (repeat (first | ((with_reducible refine new_at2D ?_ _); focus (simp; done)) | ((with_reducible refine (heap_allocD _ _ ?_).trans ?_); (focus (first | (simp; done) | (simp; omega) | omega))) | ((with_reducible refine new_at2 ?_ _); focus (simp; done)) | ((with_reducible refine (Below.heap_alloc _ _ _ ?_).trans ?_); (focus (first | (simp; done) | (simp; omega) | omega))))); done)); have HD1c : w2.cell? ⟨w1.heap.size, 0, none⟩ = some (.int .i64 0) := cell_of HD1.out rfl; have HD1f := free_of HD1.out; have HD1l := heap_lt HD1.out)); have hz3 := ho2.size; have HO := hide hO; clear hO; have HO2 := hide ho2; clear ho2) | (with_reducible show Calls Tryz.prog F _ _ _; refine (HF.out _ (by repeat (first | with_reducible exact Only.refl _ _ | with_reducible refine Only.alloc ?_ _ | with_reducible refine toDrew ?_))).mono ?_; rintro en w1 ⟨rfl, ho1⟩; have hO1 : Only (fun _ => False) w w1 := Only.trans (by repeat (first | with_reducible exact Only.refl _ _ | with_reducible refine Only.alloc ?_ _ | with_reducible refine toDrew ?_)) ho1 (fun _ _ e => e); have hz1 : w.heap.size + 1 + 1 ≤ w1.heap.size := (by have := ho1.size; simp at this; omega); refine lay (P := Hid (w1.heap[w.heap.size]? = some (.cells #[.pointer (some ⟨p.m, 0, none⟩)] 130 (0, 0)))) ?_ (fun HB0 => ?_); (focus (refine hide ?_; refine (ho1.block _ ?_ (fun e => e)).trans ?_; (focus (first | (simp; done) | (simp; omega) | omega)); (repeat (first | ((with_reducible refine new_at2D ?_ _); focus (simp; done)) | ((with_reducible refine (heap_allocD _ _ ?_).trans ?_); (focus (first | (simp; done) | (simp; omega) | omega))) | ((with_reducible refine new_at2 ?_ _); focus (simp; done)) | ((with_reducible refine (Below.heap_alloc _ _ _ ?_).trans ?_); (focus (first | (simp; done) | (simp; omega) | omega))))); done)); refine lay (P := Hid (w1.heap[w.heap.size + 1]? = some (.cells #[.nilFunc, .nilFunc] 436 (0, 0)))) ?_ (fun HB1 => ?_); (focus (refine hide ?_; refine (ho1.block _ ?_ (fun e => e)).trans ?_; (focus (first | (simp; done) | (simp; omega) | omega)); (repeat (first | ((with_reducible refine new_at2D ?_ _); focus (simp; done)) | ((with_reducible refine (heap_allocD _ _ ?_).trans ?_); (focus (first | (simp; done) | (simp; omega) | omega))) | ((with_reducible refine new_at2 ?_ _); focus (simp; done)) | ((with_reducible refine (Below.heap_alloc _ _ _ ?_).trans ?_); (focus (first | (simp; done) | (simp; omega) | omega))))); done)); have y0 : w1.cell? ⟨w.heap.size, 0, none⟩ = some (.pointer (some ⟨p.m, 0, none⟩)) := cell_of HB0.out rfl; have y1 := (hO1.cell (p := ⟨nb, 0, none⟩) hnl (fun e => e)).trans e0; (try (refine lay (P := Hid (w1.heap[w.heap.size + 1 + 1]? = some (.cells #[.int .i64 0] 3 (0, 0)))) ?_ (fun HI0 => ?_); (focus (refine hide ?_; refine (ho1.block _ ?_ (fun e => e)).trans ?_; (focus (first | (simp; done) | (simp; omega) | omega)); (repeat (first | ((with_reducible refine new_at2D ?_ _); focus (simp; done)) | ((with_reducible refine (heap_allocD _ _ ?_).trans ?_); (focus (first | (simp; done) | (simp; omega) | omega))) | ((with_reducible refine new_at2 ?_ _); focus (simp; done)) | ((with_reducible refine (Below.heap_alloc _ _ _ ?_).trans ?_); (focus (first | (simp; done) | (simp; omega) | omega))))); done)); have HI0c : w1.cell? ⟨w.heap.size + 1 + 1, 0, none⟩ = some (.int .i64 0) := cell_of HI0.out rfl; have HI0f := free_of HI0.out; have HI0l := heap_lt HI0.out)); have HO1 := hide hO1; clear hO1; have Ho1 := hide ho1; clear ho1))
    all_goals
      go_wp2_with fail
      go_meet
      have hzw := heap_lt HC1.out
      refine ⟨_, rfl, ?_, ?_, ?_, ?_, HO.out.trans (D := fun _ => False) (E := fun q => w.heap.size ≤ q) ?_ (fun q h1 h2 => by omega)⟩
      · (repeat (first | ((with_reducible refine new_at2 ?_ _); focus (simp; done)) | ((with_reducible refine (Below.heap_alloc _ _ _ ?_).trans ?_); (focus (first | omega | (simp; done) | (simp; omega)))) | (with_reducible refine set1 (x := .int .i64 0) ?_ _) | ((with_reducible refine (Below.heap_setCell _ _ _ _ ?_).trans ?_); (focus (show _ ≠ _; first | (simp; done) | (simp; omega) | omega))) | (with_reducible exact HC0.out) | (with_reducible exact HC1.out) | (with_reducible exact HD0.out) | (with_reducible exact HD1.out)))
      · (repeat (first | ((with_reducible refine new_at2 ?_ _); focus (simp; done)) | ((with_reducible refine (Below.heap_alloc _ _ _ ?_).trans ?_); (focus (first | omega | (simp; done) | (simp; omega)))) | (with_reducible refine set1 (x := .int .i64 0) ?_ _) | ((with_reducible refine (Below.heap_setCell _ _ _ _ ?_).trans ?_); (focus (show _ ≠ _; first | (simp; done) | (simp; omega) | omega))) | (with_reducible exact HC0.out) | (with_reducible exact HC1.out) | (with_reducible exact HD0.out) | (with_reducible exact HD1.out)))
      · (repeat (first | ((with_reducible refine new_at2 ?_ _); focus (simp; done)) | ((with_reducible refine (Below.heap_alloc _ _ _ ?_).trans ?_); (focus (first | omega | (simp; done) | (simp; omega)))) | (with_reducible refine set1 (x := .int .i64 0) ?_ _) | ((with_reducible refine (Below.heap_setCell _ _ _ _ ?_).trans ?_); (focus (show _ ≠ _; first | (simp; done) | (simp; omega) | omega))) | (with_reducible exact HC0.out) | (with_reducible exact HC1.out) | (with_reducible exact HD0.out) | (with_reducible exact HD1.out)))
      · first | omega | (simp; done) | (simp; omega)
      · (repeat (first | (with_reducible exact Only.refl _ _) | (with_reducible refine Only.alloc ?_ _) | (with_reducible refine toDrew ?_) | ((with_reducible refine Only.setCell ?_ ?_ _); (rotate_left; (focus (intro _; show _; first | (simp; done) | (simp; omega) | omega))))))
  case rest =>
    obtain ⟨b4, rfl, h4, hx0, hx1, k4, hO⟩ := hcut
    have r0 : wc.cell? ⟨w.heap.size + 1, 0, none⟩ = some .nilFunc := cell_of hx1 rfl
    have r1 : wc.cell? ⟨w.heap.size + 1, 1, none⟩ = some .nilFunc := cell_of hx1 rfl
    have rf := free_of hx1
    have rl := heap_lt hx1
    have H4 := hide h4
    have HX0 := hide hx0
    have HO := hide hO
    clear h4 hx0 hx1 hO
    go_wp2
    have hol : Only (fun q => q = w.heap.size + 1) wc _ := ((Only.refl (fun q => q = w.heap.size + 1) wc).setCell (p := ⟨w.heap.size + 1, 0, none⟩) (fun _ => rfl) (.func (.func 319) #[] #[.pointer (some ⟨w.heap.size, 0, none⟩), .pointer (some ⟨b4, 0, none⟩)])).setCell (p := ⟨w.heap.size + 1, 1, none⟩) (fun _ => rfl) (.func (.func 321) #[] #[.pointer (some ⟨w.heap.size, 0, none⟩), .pointer (some ⟨b4, 0, none⟩)])
    refine bodyPost_ret (v := .agg #[.func (.func 319) #[] #[.pointer (some ⟨w.heap.size, 0, none⟩), .pointer (some ⟨b4, 0, none⟩)], .func (.func 321) #[] #[.pointer (some ⟨w.heap.size, 0, none⟩), .pointer (some ⟨b4, 0, none⟩)]]) (by simp [results, Tryz.results317, go_sem, r0, r1]) rfl ⟨w.heap.size, b4, rfl, (hol.block _ (heap_lt HX0.out) (by omega)).trans HX0.out, (hol.block _ (heap_lt H4.out) (by omega)).trans H4.out, HO.out.trans hol (fun q h e => by omega)⟩
theorem agg_two {a b c d : Value} (e : Value.agg #[a, b] = .agg #[c, d]) : a = c ∧ b = d := by
  injection e with e
  have h0 := congrArg (fun a => a[0]?) e
  have h1 := congrArg (fun a => a[1]?) e
  simp at h0 h1
  exact ⟨h0, h1⟩
/-- Blocks that a run's own doings leave as they were. -/
def Kept (p : Pl8) (W w' : World) : Prop := W.heap.size ≤ w'.heap.size ∧ ∀ (q : Nat) (c : Array Value) (t : TypeId), q ≠ p.m → q ≠ p.vb → q ≠ p.sb → t ≠ 9 → t ≠ 5 → W.heap[q]? = some (.cells c t (0, 0)) → w'.heap[q]? = some (.cells c t (0, 0))
theorem Kept.of {p : Pl8} {W w' : World} (ho : Only (fun _ => False) W w') : Kept p W w' := ⟨ho.size, fun q _ _ _ _ _ _ _ h => (ho.block q (heap_lt h) (fun e => e)).trans h⟩
theorem Kept.ofV {p : Pl8} {W w' : World} {D : Nat → Prop} (hD : ∀ q, D q → q = p.m ∨ q = p.vb ∨ q = p.sb) (ho : Only D W w') : Kept p W w' := ⟨ho.size, fun q _ _ h1 h2 h3 _ _ h => (ho.block q (heap_lt h) (fun e => by rcases hD q e with e | e | e; exact h1 e; exact h2 e; exact h3 e)).trans h⟩
theorem Kept.trans {p : Pl8} {W w' w'' : World} (h : Kept p W w') (h' : Kept p w' w'') : Kept p W w'' := ⟨Nat.le_trans h.1 h'.1, fun q c t h1 h2 h3 h4 h5 e => h'.2 q c t h1 h2 h3 h4 h5 (h.2 q c t h1 h2 h3 h4 h5 e)⟩
/-- A block that is new to a run is kept. -/
theorem Kept.new {p : Pl8} {s : St8} {W0 W w' : World} (h : Kept p W w') (h0 : On8 p s W0) {q : Nat} {c : Array Value} {t : TypeId} (hq : W0.heap.size ≤ q) (h4 : t ≠ 9) (h5 : t ≠ 5) (e : W.heap[q]? = some (.cells c t (0, 0))) : w'.heap[q]? = some (.cells c t (0, 0)) := by
  obtain ⟨fv, hM, _⟩ := h0.M
  obtain ⟨tv, hS, _⟩ := h0.S
  have l1 := heap_lt hM
  have l2 := heap_lt h0.V
  have l3 := heap_lt hS
  exact h.2 q c t (by omega) (by omega) (by omega) h4 h5 e
theorem Kept.set {p : Pl8} {W w' : World} (h : Kept p W w') {a : Addr} (ha : W.heap.size ≤ a.block) (v : Value) : Kept p W (w'.setCell a v) := ⟨by simpa using h.1, fun q c t h1 h2 h3 h4 h5 e => (Below.heap_setCell _ _ _ _ (by have := heap_lt e; omega)).trans (h.2 q c t h1 h2 h3 h4 h5 e)⟩
/-- Some other block of a run turns. -/
theorem On8.other {p : Pl8} {s : St8} {W : World} (h : On8 p s W) {q : Nat} {c : Array Value} {t : TypeId} (e : W.heap[q]? = some (.cells c t (0, 0))) (h1 : q ≠ p.m) (h2 : q ≠ p.vb) (h3 : q ≠ p.sb) (h4 : 9 ≠ t) (h5 : 5 ≠ t) (hq : p.wN.heap.size ≤ q) (o : Nat) (v : Value) : On8 p s (W.setCell ⟨q, o, none⟩ v) := by
  obtain ⟨fv, hM, hF⟩ := h.M
  obtain ⟨tv, hS, hT⟩ := h.S
  have a1 := own_tag hF e h4
  have a2 := own_tag hT e h5
  have ho : Only (fun k => k = q) W (W.setCell ⟨q, o, none⟩ v) := (Only.refl (fun k => k = q) W).setCell (p := ⟨q, o, none⟩) (fun _ => rfl) v
  exact ⟨h.hm, h.hv, h.hs, h.nmv, h.nms, h.nvs, ⟨fv, hM.only ho (fun e => h1 e.symm), ownsRow_of hF (fun k hk => ho.block k (hF.lt k hk).2 (fun e => a1 (by rw [hk, e])))⟩, h.V.only ho (fun e => h2 e.symm), ⟨tv, (ho.block p.sb (heap_lt hS) (fun e => h3 e.symm)).trans hS, ownsRow_of hT (fun k hk => ho.block k (hT.lt k hk).2 (fun e => a2 (by rw [hk, e])))⟩, h.O.trans ho (fun k hk e => by omega)⟩
/-- What is kept when a box of three cells, new to a run, turns. -/
theorem On8.box3 {p : Pl8} {s s0 : St8} {W0 W : World} (h0 : On8 p s0 W0) (h : On8 p s W) {q : Nat} {x0 x1 x2 : Value} (e : W.heap[q]? = some (.cells #[x0, x1, x2] 203 (0, 0))) (hq : W0.heap.size ≤ q) (u0 u1 u2 : Value) : On8 p s (((W.setCell ⟨q, 0, none⟩ u0).setCell ⟨q, 1, none⟩ u1).setCell ⟨q, 2, none⟩ u2) := by
  obtain ⟨fv, hM, _⟩ := h0.M
  obtain ⟨tv, hS, _⟩ := h0.S
  have l1 := heap_lt hM
  have l2 := heap_lt h0.V
  have l3 := heap_lt hS
  have l4 := h0.O.size
  have g1 := heap_setCell_same (o := 0) e u0
  have g2 := heap_setCell_same (o := 1) g1 u1
  exact ((h.other e (by omega) (by omega) (by omega) (by decide) (by decide) (by omega) 0 u0).other g1 (by omega) (by omega) (by omega) (by decide) (by decide) (by omega) 1 u1).other g2 (by omega) (by omega) (by omega) (by decide) (by decide) (by omega) 2 u2
/-- An expression's function works a value out; the run is then at s'. -/
def Works (p : Pl8) (s s' : St8) (x r : Value) : Prop := ∃ (F : Nat) (caps : List Value), x = .func (.func F) #[] caps.toArray ∧ Enters F ∧ ∀ W, On8 p s W → Calls Tryz.prog F (.pointer (some ⟨p.m, 0, none⟩) :: caps).toArray W fun en w' => en = .returned r ∧ On8 p s' w' ∧ Kept p W w'
/-- Storing to a place. -/
def StoresK (p : Pl8) (s s' : St8) (fst k : Nat) (v : Value) : Prop := Enters fst ∧ ∀ W b2 nb, On8 p s W → W.heap[b2]? = some (.cells #[.pointer (some ⟨p.m, 0, none⟩)] 130 (0, 0)) → W.heap[nb]? = some (.cells #[.int .i64 k] 3 (0, 0)) → Calls Tryz.prog fst #[v, .pointer (some ⟨b2, 0, none⟩), .pointer (some ⟨nb, 0, none⟩)] W fun en w' => en = .returned (.tuple #[]) ∧ On8 p s' w' ∧ Kept p W w'
def setVar (cs : List Value) (k : Nat) (a n : Int) (t : ByteArray) : List Value := ((cs.set (k * 3) (.int .i64 a)).set (k * 3 + 1) (.int .i64 n)).set (k * 3 + 2) (.string t)
theorem cf310 (args : Array Value) (w : World) : (callFunc 310 args).run Tryz.prog w = .ok (.enter 310 args) w := callFunc_in Tryz.func310 (by kernel_rfl) rfl args w
theorem cf351 (args : Array Value) (w : World) : (callFunc 351 args).run Tryz.prog w = .ok (.enter 351 args) w := callFunc_in Tryz.func351 (by kernel_rfl) rfl args w
end Go.Proofs.YtdbdbaepmdmnfaaGreatDoor

namespace Go.Proofs.YtdbdbaepmdmnfaaGreatDoor
open Go.RowKit
set_option maxRecDepth 20000 in
set_option maxHeartbeats 1000000 in
theorem set_variable_on (p : Pl8) (s : St8) (k : Nat) (hk : k < 8) (h1 : k ≠ 1) (a n : Int) (t : ByteArray) (x0 x1 x2 : Value) (e0 : s.cs[k * 3]? = some x0) (e1 : s.cs[k * 3 + 1]? = some x1) (e2 : s.cs[k * 3 + 2]? = some x2) (w : World) (h : On8 p s w) :
    Calls Tryz.prog 311 #[.pointer (some ⟨p.m, 0, none⟩), .int .i64 k, .agg #[.int .i64 a, .int .i64 n, .string t]] w fun en w' => en = .returned (.tuple #[]) ∧ On8 p { s with cs := setVar s.cs k a n t } w' ∧ Kept p w w' := by
  obtain ⟨fv, hM, _⟩ := h.M
  have c1 : w.cell? ⟨p.m, 1, none⟩ = some (.slice (some ⟨p.vb, 0, none⟩) 8 8) := cell_of hM rfl
  have ml := heap_lt hM
  have v0 := h.V.cell e0
  have v1 := h.V.cell e1
  have v2 := h.V.cell e2
  have vl := heap_lt h.V
  have vf := free_of h.V
  have hli : 0 ≤ (k : Int) ∧ (k : Int) < 8 := by omega
  have hk1 : ((k : Int) == 1) = false := by rw [beq_eq_false_iff_ne]; omega
  have H := hide h
  have hvn : p.vb ≠ w.heap.size := by omega
  clear h hM e0 e1 e2
  go_enter Tryz.func311, Tryz.ntmps311
  go_upto_region 3 with fail
  go_region
  go_wp2
  go_end0
  have hO : Only (fun q => q = p.vb) w _ := toDrew (((((Only.refl (fun q => q = p.vb) w).setCell (p := ⟨p.vb, k * 3, none⟩) (fun _ => rfl) (.int .i64 a)).setCell (p := ⟨p.vb, k * 3 + 1, none⟩) (fun _ => rfl) (.int .i64 n)).setCell (p := ⟨p.vb, k * 3 + 2, none⟩) (fun _ => rfl) (.string t)).alloc (.cells #[.int .i64 a, .int .i64 n, .string t] 203))
  have hV := ((H.out.V.set (k * 3) (.int .i64 a)).set (k * 3 + 1) (.int .i64 n)).set (k * 3 + 2) (.string t)
  exact ⟨rfl, H.out.turnV hO (heapD ((Below.heap_alloc _ _ _ (heap_lt hV)).trans hV)), Kept.ofV (fun q e => Or.inr (Or.inl e)) hO⟩
set_option maxRecDepth 20000 in
set_option maxHeartbeats 1000000 in
/-- Storing to a variable. -/
theorem stores_var (p : Pl8) (s : St8) (k : Nat) (hk : k < 8) (h1 : k ≠ 1) (a n : Int) (t : ByteArray) (x0 x1 x2 : Value) (e0 : s.cs[k * 3]? = some x0) (e1 : s.cs[k * 3 + 1]? = some x1) (e2 : s.cs[k * 3 + 2]? = some x2) : StoresK p s { s with cs := setVar s.cs k a n t } 310 k (.agg #[.int .i64 a, .int .i64 n, .string t]) := by
  refine ⟨cf310, fun w b2 nb h g2 g4 => ?_⟩
  have l2 := heap_lt g2
  have l4 := heap_lt g4
  have c2 : w.cell? ⟨b2, 0, none⟩ = some (.pointer (some ⟨p.m, 0, none⟩)) := cell_of g2 rfl
  have c4 : w.cell? ⟨nb, 0, none⟩ = some (.int .i64 k) := cell_of g4 rfl
  have HR := hide (set_variable_on p s k hk h1 a n t x0 x1 x2 e0 e1 e2 _ (h.calm (onlyA w (.cells #[.int .i64 a, .int .i64 n, .string t] 203))))
  clear h e0 e1 e2 g2 g4 hk h1
  go_enter Tryz.func310, Tryz.ntmps310
  go_wp2_with fail
  refine (HR.out).mono ?_
  rintro en w2 ⟨rfl, hq, hk⟩
  have HQ := hide hq
  have HK := hide hk
  clear hq hk
  go_wp2
  go_end0
  exact ⟨rfl, HQ.out, (Kept.of (onlyA w _)).trans HK.out⟩
set_option maxRecDepth 20000 in
set_option maxHeartbeats 2000000 in
/-- What was made of a store. -/
theorem works_setG (p : Pl8) (s s' : St8) (ft fst k lb rb : Nat) (x1 y1 x2 y2 : Value) (a n : Int) (t : ByteArray) (hl : p.wN.heap[lb]? = some (.cells #[x1, y1] 338 (0, 0))) (hr : p.wN.heap[rb]? = some (.cells #[x2, y2] 338 (0, 0))) (hF : FindsK p s ft fst k y1) (hG : Gives p s x2 (.agg #[.int .i64 a, .int .i64 n, .string t])) (hS : StoresK p s s' fst k (.agg #[.int .i64 a, .int .i64 n, .string t])) : Works p s s' (.func (.func 351) #[] #[.pointer (some ⟨lb, 0, none⟩), .pointer (some ⟨rb, 0, none⟩)]) (.agg #[.int .i64 a, .int .i64 n, .string t]) := by
  refine ⟨351, [.pointer (some ⟨lb, 0, none⟩), .pointer (some ⟨rb, 0, none⟩)], rfl, cf351, fun w h => ?_⟩
  obtain ⟨F1, caps1, rfl, hcf1, hF⟩ := hF
  obtain ⟨F2, caps2, rfl, hcf2, hG⟩ := hG
  obtain ⟨hcf3, hS⟩ := hS
  unfold Enters at hcf1 hcf2 hcf3
  have hmf := hmfT
  have hsf := hsfT
  have hsn := hsnT
  have hlw := (h.O.block lb (heap_lt hl) (fun e => e)).trans hl
  have hrw := (h.O.block rb (heap_lt hr) (fun e => e)).trans hr
  have el : w.cell? ⟨lb, 1, none⟩ = some (.func (.func F1) #[] caps1.toArray) := cell_of hlw rfl
  have er : w.cell? ⟨rb, 0, none⟩ = some (.func (.func F2) #[] caps2.toArray) := cell_of hrw rfl
  have ll := heap_lt hlw
  have rl := heap_lt hrw
  have HH := hide h
  have HF := hide (fun W (hW : Only (fun _ => False) w W) => hF W (h.calm hW))
  have HG := hide (fun W (hW : Only (fun _ => False) w W) => hG W (h.calm hW))
  have HS := hide (fun W b2 nb (hW : Only (fun _ => False) w W) => hS W b2 nb (h.calm hW))
  clear h hlw hrw hF hG hS hl hr
  go_enter Tryz.func351, Tryz.ntmps351
  go_wp2_with fail
  refine (HF.out _ (onlyA w _)).mono ?_
  rintro en w1 ⟨tk, st, rfl, ⟨b2, nb, rfl, rfl, h2, h4⟩, ho1⟩
  have hO1 := (onlyA w _).trans ho1 (fun _ _ e => e)
  have el1 := (hO1.cell (p := ⟨lb, 1, none⟩) ll (fun e => e)).trans el
  have er1 := (hO1.cell (p := ⟨rb, 0, none⟩) rl (fun e => e)).trans er
  have hb0 := (ho1.block w.heap.size (by simp) (fun e => e)).trans (new0 w _)
  have HB0 := hide hb0
  have HO1 := hide hO1
  have H2 := hide h2
  have H4 := hide h4
  have z1 := ho1.size
  simp at z1
  have rl1 : rb < w1.heap.size := by omega
  clear ho1 hO1 hb0 h2 h4 z1
  go_wp2_with fail
  refine (HG.out _ (HO1.out.alloc _)).mono ?_
  rintro en w2 ⟨rfl, ho2⟩
  have hO2 := (HO1.out.alloc _).trans ho2 (fun _ _ e => e)
  have hfb := (ho2.block w1.heap.size (by simp) (fun e => e)).trans (new0 w1 _)
  have f0 : w2.cell? ⟨w1.heap.size, 1, none⟩ = some (.func (.func fst) #[] #[.pointer (some ⟨b2, 0, none⟩), .pointer (some ⟨nb, 0, none⟩)]) := cell_of hfb rfl
  have fl := heap_lt hfb
  have o12 := ((Only.refl (fun _ => False) w1).alloc _).trans ho2 (fun _ _ e => e)
  have hb2 := (o12.block b2 (heap_lt H2.out) (fun e => e)).trans H2.out
  have hb4 := (o12.block nb (heap_lt H4.out) (fun e => e)).trans H4.out
  have hbr := (o12.block w.heap.size (heap_lt HB0.out) (fun e => e)).trans HB0.out
  have z2 := o12.size
  have HBr := hide hbr
  have HO2 := hide hO2
  have H22 := hide hb2
  have H24 := hide hb4
  have z0 := heap_lt HB0.out
  clear ho2 hO2 hfb o12 hb2 hb4 hbr H2 H4 HB0
  go_wp2_with fail
  refine (HS.out _ b2 nb (HO2.out.alloc _) ((Below.heap_alloc _ _ _ (heap_lt H22.out)).trans H22.out) ((Below.heap_alloc _ _ _ (heap_lt H24.out)).trans H24.out)).mono ?_
  rintro en w3 ⟨rfl, h3, k3⟩
  have hv3 := k3.new HH.out (q := w2.heap.size) (by omega) (by decide) (by decide) (new0 w2 _)
  have hr3 := k3.new HH.out (q := w.heap.size) (by omega) (by decide) (by decide) ((Below.heap_alloc _ _ _ (heap_lt HBr.out)).trans HBr.out)
  have v0 : w3.cell? ⟨w2.heap.size, 0, none⟩ = some (.int .i64 a) := cell_of hv3 rfl
  have v1 : w3.cell? ⟨w2.heap.size, 1, none⟩ = some (.int .i64 n) := cell_of hv3 rfl
  have v2 : w3.cell? ⟨w2.heap.size, 2, none⟩ = some (.string t) := cell_of hv3 rfl
  have vl := heap_lt hv3
  have r0 : w3.cell? ⟨w.heap.size, 0, none⟩ = some (.int .i64 0) := cell_of hr3 rfl
  have r1 : w3.cell? ⟨w.heap.size, 1, none⟩ = some (.int .i64 0) := cell_of hr3 rfl
  have r2 : w3.cell? ⟨w.heap.size, 2, none⟩ = some (.string ⟨#[]⟩) := cell_of hr3 rfl
  have rf := free_of hr3
  have rl3 := heap_lt hr3
  have H3 := hide h3
  have HR3 := hide hr3
  have K3 := hide ((Kept.of (HO2.out.alloc _)).trans k3)
  clear h3 k3 hv3 hr3
  go_wp2
  refine bodyPost_ret (v := .agg #[.int .i64 a, .int .i64 n, .string t]) (by simp [results, Tryz.results351, go_sem, r0, r1, r2]) rfl ⟨rfl, HH.out.box3 H3.out HR3.out (Nat.le_refl _) _ _ _, ((K3.out.set (Nat.le_refl _) _).set (Nat.le_refl _) _).set (Nat.le_refl _) _⟩
end Go.Proofs.YtdbdbaepmdmnfaaGreatDoor

namespace Go.Proofs.YtdbdbaepmdmnfaaGreatDoor
open Go.RowKit
theorem cf321 (args : Array Value) (w : World) : (callFunc 321 args).run Tryz.prog w = .ok (.enter 321 args) w := callFunc_in Tryz.func321 (by kernel_rfl) rfl args w
set_option maxRecDepth 20000 in
set_option maxHeartbeats 2000000 in
theorem stores_fieldG (p : Pl8) (s s' : St8) (k : Nat) (a n : Int) (t : ByteArray) (H : ∀ W, On8 p s W → Calls Tryz.prog 322 #[.pointer (some ⟨p.m, 0, none⟩), .int .i64 k, .agg #[.int .i64 a, .int .i64 n, .string t]] W fun en w' => en = .returned (.tuple #[]) ∧ On8 p s' w' ∧ Kept p W w') : StoresK p s s' 321 k (.agg #[.int .i64 a, .int .i64 n, .string t]) := by
  refine ⟨cf321, fun w b2 nb h g2 g4 => ?_⟩
  have l2 := heap_lt g2
  have l4 := heap_lt g4
  have c2 : w.cell? ⟨b2, 0, none⟩ = some (.pointer (some ⟨p.m, 0, none⟩)) := cell_of g2 rfl
  have c4 : w.cell? ⟨nb, 0, none⟩ = some (.int .i64 k) := cell_of g4 rfl
  have HR := hide (H _ (h.calm (onlyA w (.cells #[.int .i64 a, .int .i64 n, .string t] 203))))
  clear h H g2 g4
  go_enter Tryz.func321, Tryz.ntmps321
  go_wp2_with fail
  refine (HR.out).mono ?_
  rintro en w2 ⟨rfl, hq, hk⟩
  have HQ := hide hq
  have HK := hide hk
  clear hq hk
  go_wp2
  go_end0
  exact ⟨rfl, HQ.out, (Kept.of (onlyA w _)).trans HK.out⟩
end Go.Proofs.YtdbdbaepmdmnfaaGreatDoor

namespace Go.Proofs.YtdbdbaepmdmnfaaGreatDoor
open Go.RowKit
set_option maxRecDepth 20000 in
set_option maxHeartbeats 2000000 in
theorem set_zeroN (m ab vb : Nat) (txt t : ByteArray) (po : Option Addr) (pn pc : Nat) (lst : Value) (size n code : Nat) (cs : List Value) (x3 x4 x5 : Value) (ht : t.size ≤ 500) (hno : ∀ c ∈ t.data.toList, c ≠ 10) (hw : (lnF t.data.toList).length ≤ 40) (C : Nat) (w : World) (hC : C ≤ w.heap.size) (h : MAt8 w m ab vb txt (.slice po pn pc) lst size n code) (hv : VAt w vb cs) (h3 : cs[3]? = some x3) (h4 : cs[4]? = some x4) (h5 : cs[5]? = some x5) (f0 : cs[6]? = some (.int .i64 2)) (f1 : cs[7]? = some (.int .i64 0)) (f2 : cs[8]? = some (.string (ofB [10]))) (hne : m ≠ vb) :
    Calls Tryz.prog 322 #[.pointer (some ⟨m, 0, none⟩), .int .i64 0, .agg #[.int .i64 2, .int .i64 0, .string t]] w fun en w' => en = .returned (.tuple #[]) ∧ MRecN C w' m ab vb t lst size n code ∧ VAt w' vb (((cs.set 3 (.int .i64 1)).set 4 (.int .i64 (lnF t.data.toList).length)).set 5 (.string ⟨#[]⟩)) ∧ Only (fun k => k = m ∨ k = vb) w w' := by
  have HX := hide (text_any 2 0 t (w.alloc (.cells #[.int .i64 2, .int .i64 0, .string t] 203)) (by decide))
  have HB := hide (fun W hCW hM hV => become_doN m ab vb txt t po pn pc lst size n code cs x3 x4 x5 ht hno hw C W hCW hM hV h3 h4 h5 f0 f1 f2 hne)
  have HM := hide h
  have HV := hide hv
  clear h hv h3 h4 h5 f0 f1 f2 hw ht hne
  go_enter Tryz.func322, Tryz.ntmps322
  go_wp2_with fail
  refine (HX.out).mono ?_
  rintro en w2 ⟨rfl, hb⟩
  have ho2 : Only (fun _ => False) w w2 := (onlyA w _).trans (Only.ofBelow hb (fun _ => False)) (fun _ _ e => e)
  have HB2 := hide (HB.out w2 (Nat.le_trans hC ho2.size) (HM.out.only ho2 (fun e => e)) (HV.out.only ho2 (fun e => e)))
  have HO2 := hide ho2
  clear hb ho2 HX HB
  go_wp2_with fail
  refine (HB2.out).mono ?_
  rintro en w4 ⟨rfl, hm4, hv4, ho4⟩
  have HM4 := hide hm4
  have HV4 := hide hv4
  have HO4 := hide ho4
  clear hm4 hv4 ho4
  go_wp2
  refine bodyPost_ret (v := .tuple #[]) (by simp [results, Tryz.results322, go_sem]) rfl ?_
  exact ⟨rfl, HM4.out, HV4.out, (HO2.out.mono (E := fun k => k = m ∨ k = vb) (fun _ _ e => e.elim)).trans HO4.out (fun _ _ e => e)⟩
theorem read_onN (p : Pl8) (s : St8) (t : ByteArray) (ht : t.size ≤ 500) (hno : ∀ c ∈ t.data.toList, c ≠ 10) (hw : (lnF t.data.toList).length ≤ 40) (x3 x4 x5 : Value) (h0 : s.cs[0]? = some (.int .i64 1)) (h1 : s.cs[1]? = some (.int .i64 0)) (h2 : s.cs[2]? = some (.string ⟨#[]⟩)) (h3 : s.cs[3]? = some x3) (h4 : s.cs[4]? = some x4) (h5 : s.cs[5]? = some x5) (f0 : s.cs[6]? = some (.int .i64 2)) (f1 : s.cs[7]? = some (.int .i64 0)) (f2 : s.cs[8]? = some (.string (ofB [10]))) (W : World) (h : On8 p s W) :
    Calls Tryz.prog 100 #[.pointer (some ⟨p.m, 0, none⟩), .string t] W fun en w' => en = .returned (.tuple #[]) ∧ On8 p { s with txt := t, fs := lnF t.data.toList, cs := ((((((s.cs.set 0 (.int .i64 1)).set 1 (.int .i64 1)).set 2 (.string ⟨#[]⟩))).set 3 (.int .i64 1)).set 4 (.int .i64 (lnF t.data.toList).length)).set 5 (.string ⟨#[]⟩) } w' ∧ Kept p W w' := by
  obtain ⟨fv, hM, hF⟩ := h.M
  obtain ⟨tv, hS, hT⟩ := h.S
  obtain ⟨po, pc, rfl⟩ := ownsRow_slice hF
  have hm := h.hm
  have hv := h.hv
  have a1 := own_tag hT hM (by decide)
  have a2 := own_tag hT h.V (by decide)
  refine (read_doN p.m p.ab p.vb s.txt t po s.fs.length pc _ s.out.size s.fuel 0 s.cs x3 x4 x5 ht hno hw p.wN.heap.size W h.O.size hM h.V h0 h1 h2 h3 h4 h5 f0 f1 f2 h.nmv).mono ?_
  rintro en w' ⟨e, ⟨po2, pc2, hM2, hF2⟩, hV2, ho⟩
  exact ⟨e, ⟨h.hm, h.hv, h.hs, h.nmv, h.nms, h.nvs, ⟨_, hM2, hF2⟩, hV2, ⟨tv, (ho.block p.sb (heap_lt hS) (fun e => by rcases e with e | e; exact h.nms e.symm; exact h.nvs e.symm)).trans hS, ownsRow_of hT (fun k hk => ho.block k (hT.lt k hk).2 (fun e => by rcases e with e | e; exact a1 (by rw [hk, e]); exact a2 (by rw [hk, e])))⟩, h.O.trans ho (fun q hq e => by rcases e with e | e <;> omega)⟩, Kept.ofV (fun q e => by rcases e with e | e; exact Or.inl e; exact Or.inr (Or.inl e)) ho⟩
theorem set_zero_on (p : Pl8) (s : St8) (t : ByteArray) (ht : t.size ≤ 500) (hno : ∀ c ∈ t.data.toList, c ≠ 10) (hw : (lnF t.data.toList).length ≤ 40) (x3 x4 x5 : Value) (h3 : s.cs[3]? = some x3) (h4 : s.cs[4]? = some x4) (h5 : s.cs[5]? = some x5) (f0 : s.cs[6]? = some (.int .i64 2)) (f1 : s.cs[7]? = some (.int .i64 0)) (f2 : s.cs[8]? = some (.string (ofB [10]))) (W : World) (h : On8 p s W) :
    Calls Tryz.prog 322 #[.pointer (some ⟨p.m, 0, none⟩), .int .i64 0, .agg #[.int .i64 2, .int .i64 0, .string t]] W fun en w' => en = .returned (.tuple #[]) ∧ On8 p { s with txt := t, fs := lnF t.data.toList, cs := ((s.cs.set 3 (.int .i64 1)).set 4 (.int .i64 (lnF t.data.toList).length)).set 5 (.string ⟨#[]⟩) } w' ∧ Kept p W w' := by
  obtain ⟨fv, hM, hF⟩ := h.M
  obtain ⟨tv, hS, hT⟩ := h.S
  obtain ⟨po, pc, rfl⟩ := ownsRow_slice hF
  have hm := h.hm
  have hv := h.hv
  have a1 := own_tag hT hM (by decide)
  have a2 := own_tag hT h.V (by decide)
  refine (set_zeroN p.m p.ab p.vb s.txt t po s.fs.length pc _ s.out.size s.fuel 0 s.cs x3 x4 x5 ht hno hw p.wN.heap.size W h.O.size hM h.V h3 h4 h5 f0 f1 f2 h.nmv).mono ?_
  rintro en w' ⟨e, ⟨po2, pc2, hM2, hF2⟩, hV2, ho⟩
  exact ⟨e, ⟨h.hm, h.hv, h.hs, h.nmv, h.nms, h.nvs, ⟨_, hM2, hF2⟩, hV2, ⟨tv, (ho.block p.sb (heap_lt hS) (fun e => by rcases e with e | e; exact h.nms e.symm; exact h.nvs e.symm)).trans hS, ownsRow_of hT (fun k hk => ho.block k (hT.lt k hk).2 (fun e => by rcases e with e | e; exact a1 (by rw [hk, e]); exact a2 (by rw [hk, e])))⟩, h.O.trans ho (fun q hq e => by rcases e with e | e <;> omega)⟩, Kept.ofV (fun q e => by rcases e with e | e; exact Or.inl e; exact Or.inr (Or.inl e)) ho⟩
/-- The record stored anew. -/
theorem stores_zero (p : Pl8) (s : St8) (t : ByteArray) (ht : t.size ≤ 500) (hno : ∀ c ∈ t.data.toList, c ≠ 10) (x3 x4 x5 : Value) (h3 : s.cs[3]? = some x3) (h4 : s.cs[4]? = some x4) (h5 : s.cs[5]? = some x5) (f0 : s.cs[6]? = some (.int .i64 2)) (f1 : s.cs[7]? = some (.int .i64 0)) (f2 : s.cs[8]? = some (.string (ofB [10]))) :
    StoresK p s { s with txt := t, fs := lnF t.data.toList, cs := ((s.cs.set 3 (.int .i64 1)).set 4 (.int .i64 (lnF t.data.toList).length)).set 5 (.string ⟨#[]⟩) } 321 0 (.agg #[.int .i64 2, .int .i64 0, .string t]) :=
  stores_fieldG p s _ 0 2 0 t (fun W hW => set_zero_on p s t ht hno (by have := lnF_len t.data.toList; omega) x3 x4 x5 h3 h4 h5 f0 f1 f2 W hW)
end Go.Proofs.YtdbdbaepmdmnfaaGreatDoor

namespace Go.Proofs.YtdbdbaepmdmnfaaGreatDoor
open Go.RowKit
theorem te303_304 (v : Value) (w : World) : (Instr.typeAssert (.iface 303 v) 238 304 true).run Tryz.prog w = .ok (.tuple #[.agg #[.string ⟨#[]⟩], .bool false]) w := by kernel_rfl
/-- The made pattern of a string: it is read anew each time. -/
def PatS (s : ByteArray) (B : Nat) (w : World) (v : Value) : Prop := ∃ tb x y, v = .func (.func 379) #[] #[.pointer (some ⟨tb, 0, none⟩)] ∧ B ≤ tb ∧ w.heap[tb]? = some (.cells #[x, y] 338 (0, 0)) ∧ ConstE B w (.agg #[x, y]) 2 0 s
theorem patS_keep {s : ByteArray} {B : Nat} {w w' : World} {v : Value} (h : PatS s B w v) (ho : Only (fun q => q < B) w w') : PatS s B w' v := by
  obtain ⟨tb, x, y, e, hp, h1, h2⟩ := h
  exact ⟨tb, x, y, e, hp, (ho.block tb (heap_lt h1) (by omega)).trans h1, const_keep h2 ho⟩
theorem patS_down {s : ByteArray} {A B : Nat} {w : World} {v : Value} (h : PatS s B w v) (hA : A ≤ B) : PatS s A w v := by
  obtain ⟨tb, x, y, e, hp, h1, h2⟩ := h
  exact ⟨tb, x, y, e, by omega, h1, const_down h2 hA⟩
set_option maxRecDepth 20000 in
set_option maxHeartbeats 1000000 in
theorem pat_str (kp : Option Addr) (s : ByteArray) (w : World) : Calls Tryz.prog 299 #[.pointer kp, .iface 303 (.agg #[.string s])] w fun en w' => ∃ v, en = .returned v ∧ PatS s w.heap.size w' v ∧ Only (fun _ => False) w w' := by
  have hmf := hmfT
  have hsf := hsfT
  have hsn := hsnT
  have t1 := te303_304
  have HS := hide (expr_str kp s)
  go_enter Tryz.func299, Tryz.ntmps299
  go_wp2_with (go_at_call 163; refine (HS.out _).mono ?_; rintro en w2 ⟨rfl, hw2⟩; subst hw2)
  go_ret
  refine ⟨_, rfl, ⟨w.heap.size + 1 + 1 + 1 + 1 + 1 + 1, .func (.func 298) #[] #[.pointer (some ⟨w.heap.size + 1 + 1 + 1 + 1, 0, none⟩)], .nilFunc, rfl, by omega, new_at2 (by simp) _, ⟨w.heap.size + 1 + 1 + 1 + 1, rfl, by omega, ?_⟩⟩, by (repeat (first | with_reducible exact Only.refl _ _ | with_reducible refine Only.alloc ?_ _))⟩
  (repeat (first | ((with_reducible refine new_at2 ?_ _); focus (simp; done)) | ((with_reducible refine (Below.heap_alloc _ _ _ ?_).trans ?_); (focus (first | (simp; done) | (simp; omega))))))
/-- The made replacement: what it has caught. -/
def ReplS (t s : ByteArray) (B : Nat) (w : World) (v : Value) : Prop := ∃ b7 b8 b9 b5 x7 x8 y8 x9 y9, v = .agg #[.func (.func 401) #[] #[.pointer (some ⟨b7, 0, none⟩), .pointer (some ⟨b8, 0, none⟩), .pointer (some ⟨b9, 0, none⟩), .pointer (some ⟨b5, 0, none⟩)], .nilFunc] ∧ (B ≤ b7 ∧ B ≤ b8 ∧ B ≤ b9 ∧ B ≤ b5) ∧
  w.heap[b7]? = some (.cells #[x7] 449 (0, 0)) ∧ PatS t B w x7 ∧ w.heap[b8]? = some (.cells #[x8, y8] 338 (0, 0)) ∧ ConstE B w (.agg #[x8, y8]) 2 0 s ∧ w.heap[b9]? = some (.cells #[x9, y9] 338 (0, 0)) ∧ FieldE B w (.agg #[x9, y9]) ∧ w.heap[b5]? = some (.cells #[.func (.func 332) #[] #[]] 502 (0, 0))
theorem replS_keep {t s : ByteArray} {B : Nat} {w w' : World} {v : Value} (h : ReplS t s B w v) (ho : Only (fun q => q < B) w w') : ReplS t s B w' v := by
  obtain ⟨b7, b8, b9, b5, x7, x8, y8, x9, y9, e, ⟨k7, k8, k9, k5⟩, h7, hp, h8, hc, h9, hf, h5⟩ := h
  exact ⟨b7, b8, b9, b5, x7, x8, y8, x9, y9, e, ⟨k7, k8, k9, k5⟩, (ho.block b7 (heap_lt h7) (by omega)).trans h7, patS_keep hp ho, (ho.block b8 (heap_lt h8) (by omega)).trans h8, const_keep hc ho, (ho.block b9 (heap_lt h9) (by omega)).trans h9, field_keep hf ho, (ho.block b5 (heap_lt h5) (by omega)).trans h5⟩
theorem replS_down {t s : ByteArray} {A B : Nat} {w : World} {v : Value} (h : ReplS t s B w v) (hA : A ≤ B) : ReplS t s A w v := by
  obtain ⟨b7, b8, b9, b5, x7, x8, y8, x9, y9, e, ⟨k7, k8, k9, k5⟩, h7, hp, h8, hc, h9, hf, h5⟩ := h
  exact ⟨b7, b8, b9, b5, x7, x8, y8, x9, y9, e, ⟨by omega, by omega, by omega, by omega⟩, h7, patS_down hp hA, h8, const_down hc hA, h9, field_down hf hA, h5⟩
end Go.Proofs.YtdbdbaepmdmnfaaGreatDoor

namespace Go.Proofs.YtdbdbaepmdmnfaaGreatDoor
open Go.RowKit
theorem cf379 (args : Array Value) (w : World) : (callFunc 379 args).run Tryz.prog w = .ok (.enter 379 args) w := callFunc_in Tryz.func379 (by kernel_rfl) rfl args w
/-- A text given. -/
theorem gives_str (p : Pl8) (s : St8) (B : Nat) (t : ByteArray) (x y : Value) (h : ConstE B p.wN (.agg #[x, y]) 2 0 t) : Gives p s x (.agg #[.int .i64 2, .int .i64 0, .string t]) := by
  obtain ⟨c, e, _, hc⟩ := h
  have hx : x = .func (.func 298) #[] #[.pointer (some ⟨c, 0, none⟩)] := by injection e with e; have := congrArg (fun a => a[0]?) e; simpa using this
  refine ⟨298, [.pointer (some ⟨c, 0, none⟩)], hx, cf480, fun W hW => ?_⟩
  have hcW := (hW.O.block c (heap_lt hc) (fun e => e)).trans hc
  refine (const_do (some ⟨p.m, 0, none⟩) c 2 0 t W (cell_of hcW rfl) (cell_of hcW rfl) (cell_of hcW rfl)).mono ?_
  rintro en w' ⟨e, rfl⟩
  exact ⟨e, onlyA _ _⟩
set_option maxRecDepth 20000 in
set_option maxHeartbeats 4000000 in
theorem patS_do (p : Option Addr) (t : ByteArray) (R : Pat) (hR : wholeP t.data.toList = some R) (ht : t.size ≤ 500) (B : Nat) (w : World) (v : Value) (h : PatS t B w v) :
    ∃ tb, v = .func (.func 379) #[] #[.pointer (some ⟨tb, 0, none⟩)] ∧ ∀ W, Only (fun _ => False) w W → Calls Tryz.prog 379 #[.pointer p, .pointer (some ⟨tb, 0, none⟩)] W fun en w' => ∃ v last Q, en = .returned (.agg #[v, .int .i64 (last : Nat)]) ∧ (∃ C, w.heap.size ≤ C ∧ PatVal w' C v last Q R) ∧ Only (fun _ => False) W w' := by
  obtain ⟨tb, x, y, rfl, _, htb, c, e, _, hc⟩ := h
  cases e
  refine ⟨tb, rfl, fun W hW => ?_⟩
  have htbW := (hW.block tb (heap_lt htb) (fun e => e)).trans htb
  have hcW := (hW.block c (heap_lt hc) (fun e => e)).trans hc
  have a0 : W.cell? ⟨tb, 0, none⟩ = some (.func (.func 298) #[] #[.pointer (some ⟨c, 0, none⟩)]) := cell_of htbW rfl
  have tl := heap_lt htbW
  have hcf := cf480
  have hwz := hW.size
  have HR := hide (fun W' => read_any t (by omega) W')
  have HTx := hide (fun W => text_any 2 0 t W (by decide))
  have HW := hide hR
  have HCW := hide hcW
  clear hR hcW htbW htb hc hW
  go_enter Tryz.func379, Tryz.ntmps379
  go_wp2_with (first | (go_at_call 298; refine (const_do _ c 2 0 t _ (past (cell_of HCW.out rfl) _) (past (cell_of HCW.out rfl) _) (past (cell_of HCW.out rfl) _)).mono ?_; rintro en w1 ⟨rfl, hw1⟩; subst hw1) | (go_at_call 235; refine (HTx.out _).mono ?_; rintro en w2 ⟨rfl, hb2⟩; have HB2 := hide hb2; clear hb2))
  have ho2 := Only.ofBelow HB2.out (fun _ => False)
  have hx2 : w2.heap[W.heap.size]? = some (.cells #[.slice none 0 0, .int .i64 0] 68 (0, 0)) := (ho2.block W.heap.size (by simp; omega) (fun e => e)).trans ((Below.heap_alloc _ _ _ (by simp)).trans (new0 W _))
  have hOW : Only (fun _ => False) W w2 := ((onlyA W _).alloc _).trans ho2 (fun _ _ e => e)
  refine (HR.out w2).mono ?_
  rintro en w3 ⟨ho3, _, hyes⟩
  obtain ⟨v, first, Q, rfl, hpv⟩ := hyes R HW.out
  have hx3 := (ho3.block W.heap.size (heap_lt hx2) (fun e => e)).trans hx2
  have hz2 := hOW.size
  have hxl := heap_lt hx2
  have hz3 := ho3.size
  obtain ⟨po, n, cap, rfl⟩ : ∃ po n cap, v = .slice po n cap := by
    obtain ⟨⟨xs, h1, _⟩, _⟩ := hpv
    obtain ⟨po, cap, e⟩ := ownsRow_slice h1
    exact ⟨po, _, cap, e⟩
  have x0 : w3.cell? ⟨W.heap.size, 0, none⟩ = some (.slice none 0 0) := cell_of hx3 rfl
  have x1 : w3.cell? ⟨W.heap.size, 1, none⟩ = some (.int .i64 0) := cell_of hx3 rfl
  have xf := free_of hx3
  have xl := heap_lt hx3
  have HPv := hide hpv
  have HX3 := hide hx3
  have HO3 := hide (hOW.trans ho3 (fun _ _ e => e))
  have HZ := hide hz2
  clear hpv hx3 hx2 ho2 hOW ho3 hyes HR HTx HB2
  go_wp2
  have hb4 : (((w3.setCell ⟨W.heap.size, 0, none⟩ (.slice po n cap)).setCell ⟨W.heap.size, 1, none⟩ (.int .i64 (first : Nat))).alloc (.cells #[.slice po n cap, .int .i64 (first : Nat)] 68)).heap[W.heap.size]? = some (.cells #[.slice po n cap, .int .i64 (first : Nat)] 68 (0, 0)) := (Below.heap_alloc _ _ _ (by simpa using xl)).trans (heap_setCell_same (heap_setCell_same HX3.out _) _)
  have y0 := cell_of (o := 0) hb4 rfl
  have y1 := cell_of (o := 1) hb4 rfl
  refine bodyPost_ret (v := .agg #[.slice po n cap, .int .i64 (first : Nat)]) (by simp [results, Tryz.results379, go_sem, y0, y1]) rfl ⟨_, first, Q, rfl, ⟨w2.heap.size, by omega, ?_⟩, ?_⟩
  · obtain ⟨⟨xs, h1, h2⟩, hB, h4⟩ := HPv.out
    refine ⟨⟨xs, World.ownsRow.alloc ?_ _, h2⟩, hB, h4⟩
    have hne : ∀ k, (Value.slice po n cap).ownBlock = some k → k ≠ W.heap.size := fun k hk => by have := hB k hk; omega
    exact ownsRow_of h1 (fun k hk => (Below.heap_setCell _ _ _ _ (hne k hk)).trans (Below.heap_setCell _ _ _ _ (hne k hk)))
  · exact ((HO3.out.setCell (p := ⟨W.heap.size, 0, none⟩) (fun h => absurd h (Nat.lt_irrefl _)) _).setCell (p := ⟨W.heap.size, 1, none⟩) (fun h => absurd h (Nat.lt_irrefl _)) _).alloc _
end Go.Proofs.YtdbdbaepmdmnfaaGreatDoor

namespace Go.Proofs.YtdbdbaepmdmnfaaGreatDoor
open Go.RowKit
set_option maxRecDepth 20000 in
set_option maxHeartbeats 4000000 in
theorem take_zeroN (p : Pl8) (s : St8) (hx : s.txt.size ≤ 500) (w : World) (h : On8 p s w) :
    Calls Tryz.prog 388 #[.pointer (some ⟨p.m, 2, none⟩), .int .i64 0] w fun en w' => en = .returned (.agg #[.int .i64 (rdK s.txt), .int .i64 (rdN s.txt), .string s.txt]) ∧ Only (fun _ => False) w w' := by
  obtain ⟨fv, hM, _⟩ := h.M
  have c2 : w.cell? ⟨p.m, 2, none⟩ = some (.string s.txt) := cell_of hM rfl
  have ml := heap_lt hM
  have HR := hide (readB_any s.txt hx (w.alloc (.cells #[.int .i64 0, .int .i64 0, .string ⟨#[]⟩] 203)))
  clear h hM hx
  go_enter Tryz.func388, Tryz.ntmps388
  go_wp2_with fail
  refine (HR.out).mono ?_
  rintro en w2 ⟨rfl, ho⟩
  have hb0 := (ho.block w.heap.size (by simp) (fun e => e)).trans (new0 w _)
  have r0 : w2.cell? ⟨w.heap.size, 0, none⟩ = some (.int .i64 0) := cell_of hb0 rfl
  have r1 : w2.cell? ⟨w.heap.size, 1, none⟩ = some (.int .i64 0) := cell_of hb0 rfl
  have r2 : w2.cell? ⟨w.heap.size, 2, none⟩ = some (.string ⟨#[]⟩) := cell_of hb0 rfl
  have rf := free_of hb0
  have rl := heap_lt hb0
  have HO := hide ho
  clear ho hb0 HR
  go_wp2
  refine bodyPost_ret (v := .agg #[.int .i64 (rdK s.txt), .int .i64 (rdN s.txt), .string s.txt]) (by simp [results, Tryz.results388, go_sem, r0, r1, r2]) rfl ⟨rfl, ?_⟩
  exact ((((onlyA w _).trans HO.out (fun _ _ e => e)).setCell (p := ⟨w.heap.size, 0, none⟩) (fun h => absurd h (by show ¬ w.heap.size < w.heap.size; omega)) _).setCell (p := ⟨w.heap.size, 1, none⟩) (fun h => absurd h (by show ¬ w.heap.size < w.heap.size; omega)) _).setCell (p := ⟨w.heap.size, 2, none⟩) (fun h => absurd h (by show ¬ w.heap.size < w.heap.size; omega)) _
/-- The record taken. -/
theorem takes_zero (p : Pl8) (s : St8) (hx : s.txt.size ≤ 500) : TakesK p s 319 0 (rdK s.txt) (rdN s.txt) s.txt :=
  takes_fieldG p s 0 _ _ _ (fun W hW => take_zeroN p s hx W hW)
/-- The record's place found. -/
theorem finds_zero (p : Pl8) (s : St8) (B : Nat) (x y : Value) (h : FieldE B p.wN (.agg #[x, y])) : FindsK p s 319 321 0 y := by
  obtain ⟨nb, c, g, e, hB, hc, hnb, hcc⟩ := h
  obtain ⟨rfl, rfl⟩ := agg_two e
  have hG : Gives p s (.func (.func 298) #[] #[.pointer (some ⟨c, 0, none⟩)]) (.agg #[.int .i64 1, .int .i64 0, .string ⟨#[]⟩]) := gives_num p s B 0 _ .nilFunc ⟨c, rfl, hc, hcc⟩
  refine ⟨317, [.pointer (some ⟨nb, 0, none⟩)], rfl, cf317, fun W hW => ?_⟩
  refine (ffind_do p s nb _ _ 0 (by omega) 1 (by decide) ⟨#[]⟩ hG hnb W hW).mono ?_
  rintro en w' ⟨b2, b4, e, h2, h4, ho⟩
  exact ⟨_, _, e, ⟨_, _, rfl, rfl, h2, h4⟩, ho⟩
end Go.Proofs.YtdbdbaepmdmnfaaGreatDoor

namespace Go.Proofs.YtdbdbaepmdmnfaaGreatDoor
open Go.RowKit
/-- All matches taken away: what is left, and how many there were. -/
theorem all_do (R : Pat) (v : Value) (last : Nat) (Q : List St) (C : Nat) (t : ByteArray) (ht : t.size ≤ 60) (F : AS) (hF : ∀ L, LensR R t.data.toList L → finA t.data.toList L ⟨0, -1, [], 0⟩ = F) (w : World) (h : PatVal w C v last Q R) :
    Calls Tryz.prog 332 #[.agg #[v, .int .i64 last], .string t, .string ⟨#[]⟩] w fun en w' => en = .returned (.tuple #[.string (ofB F.made), .int .i64 (F.count : Nat), .nilIface]) ∧ F.made.length ≤ 60 ∧ Only (fun _ => False) w w' := by
  obtain ⟨⟨xs, h1, h2⟩, hB, hle, hlt, hwf, hone, hacc⟩ := h
  obtain ⟨po, cap, e⟩ := ownsRow_slice h1
  refine (all_empty (Φ := LensR R t.data.toList) v last t ht w ⟨po, _, cap, e⟩ (fun W hW => ?_)).mono ?_
  · refine (Longest_any v last Q t hwf hone hlt (by omega) hle W ⟨xs, ownsRow_of h1 (fun k hk => hW.block k (h1.lt k hk).2 (fun e => e)), h2⟩).mono ?_
    rintro en w' ⟨ho, lb, L, _, hA, hb, e⟩
    have hL := lens_of hA hacc
    have hlen : L.length = t.size + 1 := by rw [hL.1, len_eq]
    refine ⟨ho, lb, L, hlen, fun k z hz => ?_, hL, hb, e⟩
    have hk : k ≤ t.data.toList.length := by
      have := (List.getElem?_eq_some_iff.1 hz).1
      rw [len_eq]
      omega
    rcases hL.2 k hk with ⟨l, e1, e2, _⟩ | ⟨e1, _⟩
    · rw [e1] at hz
      cases hz
      rw [len_eq] at e2
      omega
    · rw [e1] at hz
      cases hz
      rw [len_eq] at hk
      omega
  · rintro en w' ⟨L, hL, e, hm, ho⟩
    rw [hF L hL] at e hm
    exact ⟨e, hm, ho⟩
end Go.Proofs.YtdbdbaepmdmnfaaGreatDoor

namespace Go.Proofs.YtdbdbaepmdmnfaaGreatDoor
open Go.RowKit
theorem patVal_calm {w w' : World} {C : Nat} {v : Value} {last : Nat} {Q : List St} {R : Pat} (h : PatVal w C v last Q R) (ho : Only (fun _ => False) w w') : PatVal w' C v last Q R := by
  obtain ⟨⟨xs, h1, h2⟩, h3⟩ := h
  exact ⟨⟨xs, ownsRow_of h1 (fun k hk => ho.block k (h1.lt k hk).2 (fun e => e)), h2⟩, h3⟩
theorem rdK_not (t : ByteArray) : (rdK t == 1) = false := by
  unfold rdK
  split <;> rfl
theorem cf401 (args : Array Value) (w : World) : (callFunc 401 args).run Tryz.prog w = .ok (.enter 401 args) w := callFunc_in Tryz.func401 (by kernel_rfl) rfl args w
set_option maxRecDepth 20000 in
set_option maxHeartbeats 8000000 in
theorem works_repl (p : Pl8) (s s' : St8) (S : ByteArray) (R : Pat) (hR : wholeP S.data.toList = some R) (hSz : S.size ≤ 500) (B : Nat) (x y : Value) (h : ReplS S (ofB []) B p.wN (.agg #[x, y])) (ht : s.txt.size ≤ 60) (F : AS) (hF : ∀ L, LensR R s.txt.data.toList L → finA s.txt.data.toList L ⟨0, -1, [], 0⟩ = F) (hc : F.count ≤ 100) (hS1 : 0 < F.count → StoresK p s s' 321 0 (.agg #[.int .i64 2, .int .i64 0, .string (ofB F.made)])) (hS0 : F.count = 0 → s' = s) : Works p s s' x (.agg #[.int .i64 1, .int .i64 F.count, .string ⟨#[]⟩]) := by
  obtain ⟨b7, b8, b9, b5, x7, x8, y8, x9, y9, e, _, g7, gp, g8, gc, g9, gf, g5⟩ := h
  obtain ⟨rfl, rfl⟩ := agg_two e
  refine ⟨401, [.pointer (some ⟨b7, 0, none⟩), .pointer (some ⟨b8, 0, none⟩), .pointer (some ⟨b9, 0, none⟩), .pointer (some ⟨b5, 0, none⟩)], rfl, cf401, fun W hW => ?_⟩
  obtain ⟨tb, rfl, hP⟩ := patS_do (some ⟨p.m, 0, none⟩) S R hR hSz B p.wN x7 gp
  obtain ⟨F8, caps8, rfl, hcf8, H8⟩ := gives_str p s B (ofB []) x8 y8 gc
  obtain ⟨F9, caps9, rfl, hcf9, H9⟩ := finds_zero p s B x9 y9 gf
  unfold Enters at hcf8 hcf9
  have hcf7 := cf379
  have hsf := hsfT
  have hcf3 := (takes_zero p s (by omega)).1
  have HTk := hide (takes_zero p s (by omega)).2
  unfold Enters at hcf3
  have hcf5 : ∀ (args : Array Value) (w : World), (callFunc 332 args).run Tryz.prog w = .ok (.enter 332 args) w := fun args w => callFunc_in Tryz.func332 (by kernel_rfl) rfl args w
  have g7W := (hW.O.block b7 (heap_lt g7) (fun e => e)).trans g7
  have g8W := (hW.O.block b8 (heap_lt g8) (fun e => e)).trans g8
  have g9W := (hW.O.block b9 (heap_lt g9) (fun e => e)).trans g9
  have g5W := (hW.O.block b5 (heap_lt g5) (fun e => e)).trans g5
  have a7 : W.cell? ⟨b7, 0, none⟩ = some (.func (.func 379) #[] #[.pointer (some ⟨tb, 0, none⟩)]) := cell_of g7W rfl
  have a8 : W.cell? ⟨b8, 0, none⟩ = some (.func (.func F8) #[] caps8.toArray) := cell_of g8W rfl
  have l7 := heap_lt g7W
  have l8 := heap_lt g8W
  have l9 := heap_lt g9W
  have l5 := heap_lt g5W
  have HP := hide (fun W' (h' : Only (fun _ => False) W W') => hP W' (hW.O.trans h' (fun _ _ e => e)))
  have HG8 := hide (fun W' (h' : Only (fun _ => False) W W') => H8 W' (hW.calm h'))
  have HG9 := hide (fun W' (h' : Only (fun _ => False) W W') => H9 W' (hW.calm h'))
  have HTx := hide (fun W => text_any 2 0 (ofB []) W (by decide))
  have HW := hide hW
  have H9W := hide g9W
  have H5W := hide g5W
  have H8W := hide g8W
  clear hW hP H8 H9 g7 g8 g9 g5 g7W g8W g9W g5W gp gc gf e
  go_enter Tryz.func401, Tryz.ntmps401
  go_wp2_with fail
  refine (HP.out _ (onlyA W _)).mono ?_
  rintro en w1 ⟨v, last, Q, rfl, ⟨C, hC, hpv⟩, ho1⟩
  obtain ⟨po, n, cap, rfl⟩ : ∃ po n cap, v = .slice po n cap := by
    obtain ⟨⟨xs, h1, _⟩, _⟩ := hpv
    obtain ⟨po, cap, e⟩ := ownsRow_slice h1
    exact ⟨po, _, cap, e⟩
  have hO1 : Only (fun _ => False) W w1 := (onlyA W _).trans ho1 (fun _ _ e => e)
  have hz1 : W.heap.size + 1 ≤ w1.heap.size := by have := ho1.size; simpa using this
  have hr1 : w1.heap[W.heap.size]? = some (.cells #[.int .i64 0, .int .i64 0, .string ⟨#[]⟩] 203 (0, 0)) := (ho1.block W.heap.size (by simp) (fun e => e)).trans (new0 W _)
  have c8 := (hO1.cell (p := ⟨b8, 0, none⟩) l8 (fun e => e)).trans a8
  have l81 : b8 < w1.heap.size := by omega
  have HPV := hide hpv
  have HR1 := hide hr1
  have HO1 := hide hO1
  clear hpv hr1 hO1 ho1
  go_wp2_with fail
  refine (HG8.out _ (HO1.out.alloc _)).mono ?_
  rintro en w2 ⟨rfl, ho2⟩
  have hO2 : Only (fun _ => False) W w2 := (HO1.out.alloc _).trans ho2 (fun _ _ e => e)
  have hz2 : w1.heap.size + 1 ≤ w2.heap.size := by have := ho2.size; simpa using this
  have hp2 : w2.heap[w1.heap.size]? = some (.cells #[.slice po n cap, .int .i64 (last : Nat)] 68 (0, 0)) := (ho2.block w1.heap.size (by simp) (fun e => e)).trans (new0 w1 _)
  have hO12 : Only (fun _ => False) w1 w2 := (onlyA w1 _).trans ho2 (fun _ _ e => e)
  have HO2 := hide hO2
  have HP2 := hide hp2
  have HO12 := hide hO12
  clear hO2 hp2 hO12 ho2 c8 HG8 HP
  go_wp2_with fail
  refine (HTx.out _).mono ?_
  rintro en w3 ⟨rfl, hb3⟩
  have ho3 := Only.ofBelow hb3 (fun _ => False)
  have hO3 : Only (fun _ => False) W w3 := HO2.out.trans ho3 (fun _ _ e => e)
  have hz3 := ho3.size
  have hp3 := (ho3.block w1.heap.size (heap_lt HP2.out) (fun e => e)).trans HP2.out
  have g93 := (hO3.block b9 l9 (fun e => e)).trans H9W.out
  have c9 : w3.cell? ⟨b9, 1, none⟩ = some (.func (.func F9) #[] caps9.toArray) := cell_of g93 rfl
  have l93 := heap_lt g93
  have HO3 := hide hO3
  have HP3 := hide hp3
  have HO13 := hide (HO12.out.trans ho3 (fun _ _ e => e))
  clear hb3 ho3 hO3 hp3 g93 HTx
  go_wp2_with fail
  refine (HG9.out _ HO3.out).mono ?_
  rintro en w4 ⟨tk, st, rfl, ⟨b2, nb, rfl, rfl, hb2, hnb⟩, ho4⟩
  have hO4 : Only (fun _ => False) W w4 := HO3.out.trans ho4 (fun _ _ e => e)
  have hz4 := ho4.size
  have hp4 := (ho4.block w1.heap.size (heap_lt HP3.out) (fun e => e)).trans HP3.out
  have h54 := (hO4.block b5 l5 (fun e => e)).trans H5W.out
  have hr4 := ((HO13.out.trans ho4 (fun _ _ e => e)).block W.heap.size (heap_lt HR1.out) (fun e => e)).trans HR1.out
  have i5 := heap_lt h54
  have i2 := heap_lt hb2
  have i4 := heap_lt hnb
  have ip := heap_lt hp4
  have ir := heap_lt hr4
  have HO5 : Hid (Only (fun _ => False) W (w4.alloc (.cells #[.func (.func 319) #[] #[.pointer (some ⟨b2, 0, none⟩), .pointer (some ⟨nb, 0, none⟩)], .func (.func 321) #[] #[.pointer (some ⟨b2, 0, none⟩), .pointer (some ⟨nb, 0, none⟩)]] 436)).drew) := toDrew (hO4.alloc _)
  have HB2 := hide hb2
  have HNb := hide hnb
  have HP4 := hide hp4
  have H54 := hide h54
  have HR4 := hide hr4
  have HO14 := hide (HO13.out.trans ho4 (fun _ _ e => e))
  clear hb2 hnb hp4 h54 hr4 ho4 HG9 hO4 c9
  go_upto_region 4 with fail
  have sa : (w4.alloc (.cells #[.func (.func 319) #[] #[.pointer (some ⟨b2, 0, none⟩), .pointer (some ⟨nb, 0, none⟩)], .func (.func 321) #[] #[.pointer (some ⟨b2, 0, none⟩), .pointer (some ⟨nb, 0, none⟩)]] 436)).drew.cell? ⟨b5, 0, none⟩ = some (.func (.func 332) #[] #[]) := pastD (cell_of H54.out rfl) _
  have sb : (w4.alloc (.cells #[.func (.func 319) #[] #[.pointer (some ⟨b2, 0, none⟩), .pointer (some ⟨nb, 0, none⟩)], .func (.func 321) #[] #[.pointer (some ⟨b2, 0, none⟩), .pointer (some ⟨nb, 0, none⟩)]] 436)).drew.cell? ⟨w1.heap.size, 0, none⟩ = some (.slice po n cap) := pastD (cell_of HP4.out rfl) _
  have sc : (w4.alloc (.cells #[.func (.func 319) #[] #[.pointer (some ⟨b2, 0, none⟩), .pointer (some ⟨nb, 0, none⟩)], .func (.func 321) #[] #[.pointer (some ⟨b2, 0, none⟩), .pointer (some ⟨nb, 0, none⟩)]] 436)).drew.cell? ⟨w1.heap.size, 1, none⟩ = some (.int .i64 (last : Nat)) := pastD (cell_of HP4.out rfl) _
  have sd : (w4.alloc (.cells #[.func (.func 319) #[] #[.pointer (some ⟨b2, 0, none⟩), .pointer (some ⟨nb, 0, none⟩)], .func (.func 321) #[] #[.pointer (some ⟨b2, 0, none⟩), .pointer (some ⟨nb, 0, none⟩)]] 436)).drew.cell? ⟨w4.heap.size, 0, none⟩ = some (.func (.func 319) #[] #[.pointer (some ⟨b2, 0, none⟩), .pointer (some ⟨nb, 0, none⟩)]) := cell_of (new0 w4 _) rfl
  have HOn := hide (HW.out.calm HO5.out)
  have HB2a := hide ((heap_allocD w4 (.cells #[.func (.func 319) #[] #[.pointer (some ⟨b2, 0, none⟩), .pointer (some ⟨nb, 0, none⟩)], .func (.func 321) #[] #[.pointer (some ⟨b2, 0, none⟩), .pointer (some ⟨nb, 0, none⟩)]] 436) i2).trans HB2.out)
  have HNba := hide ((heap_allocD w4 (.cells #[.func (.func 319) #[] #[.pointer (some ⟨b2, 0, none⟩), .pointer (some ⟨nb, 0, none⟩)], .func (.func 321) #[] #[.pointer (some ⟨b2, 0, none⟩), .pointer (some ⟨nb, 0, none⟩)]] 436) i4).trans HNb.out)
  have HPVa := hide (patVal_calm HPV.out (toDrew (HO14.out.alloc (.cells #[.func (.func 319) #[] #[.pointer (some ⟨b2, 0, none⟩), .pointer (some ⟨nb, 0, none⟩)], .func (.func 321) #[] #[.pointer (some ⟨b2, 0, none⟩), .pointer (some ⟨nb, 0, none⟩)]] 436))))
  have HAll := hide (fun W (hW : PatVal W C (.slice po n cap) last Q R) => all_do R (.slice po n cap) last Q C s.txt ht F hF W hW)
  have HTx2 := hide (fun W => text_any (rdK s.txt) (rdN s.txt) s.txt W (rdK_not s.txt))
  have HS1 := hide hS1
  have HS0 := hide hS0
  have hst := fun h => (hS1 h).1
  unfold Enters at hst
  clear ht hF hR hS1 hS0
  go_region_held3 (fun W => W.cell? ⟨b5, 0, none⟩ = some (.func (.func 332) #[] #[]) ∧ W.cell? ⟨w1.heap.size, 0, none⟩ = some (.slice po n cap) ∧ W.cell? ⟨w1.heap.size, 1, none⟩ = some (.int .i64 (last : Nat)) ∧ W.cell? ⟨w4.heap.size, 0, none⟩ = some (.func (.func 319) #[] #[.pointer (some ⟨b2, 0, none⟩), .pointer (some ⟨nb, 0, none⟩)])) (first | (refine ⟨?_, ?_, ?_, ?_⟩ <;> (with_reducible assumption)))
    (first | (go_at_call 319; refine (HTk.out _ b2 nb HOn.out HB2a.out HNba.out).mono ?_; rintro en w5 ⟨rfl, ho5⟩; have z5 : w4.heap.size + 1 ≤ w5.heap.size := (by have := ho5.size; simpa using this); have ua := (ho5.cell (p := ⟨b5, 0, none⟩) (by simp <;> omega) (fun e => e)).trans sa; have ub := (ho5.cell (p := ⟨w1.heap.size, 0, none⟩) (by simp <;> omega) (fun e => e)).trans sb; have uc := (ho5.cell (p := ⟨w1.heap.size, 1, none⟩) (by simp <;> omega) (fun e => e)).trans sc; have ud := (ho5.cell (p := ⟨w4.heap.size, 0, none⟩) (by simp <;> omega) (fun e => e)).trans sd; have O5 := hide ho5; clear ho5) | (go_at_call 235; refine (HTx2.out _).mono ?_; rintro en w6 ⟨rfl, hb6⟩; have ho6 := Only.ofBelow hb6 (fun _ => False); have z6 : w5.heap.size ≤ w6.heap.size := ho6.size; have ya := (ho6.cell (p := ⟨b5, 0, none⟩) (by simp <;> omega) (fun e => e)).trans ua; have yb := (ho6.cell (p := ⟨w1.heap.size, 0, none⟩) (by simp <;> omega) (fun e => e)).trans ub; have yc := (ho6.cell (p := ⟨w1.heap.size, 1, none⟩) (by simp <;> omega) (fun e => e)).trans uc; have yd := (ho6.cell (p := ⟨w4.heap.size, 0, none⟩) (by simp <;> omega) (fun e => e)).trans ud; have O6 := hide ho6; clear ho6 hb6) | (go_at_call 332; refine (HAll.out _ (patVal_calm HPVa.out (O5.out.trans O6.out (fun _ _ e => e)))).mono ?_; rintro en w7 ⟨rfl, hm7, ho7⟩; have z7 : w6.heap.size ≤ w7.heap.size := ho7.size; have xa := (ho7.cell (p := ⟨b5, 0, none⟩) (by simp <;> omega) (fun e => e)).trans ya; have xb := (ho7.cell (p := ⟨w1.heap.size, 0, none⟩) (by simp <;> omega) (fun e => e)).trans yb; have xc := (ho7.cell (p := ⟨w1.heap.size, 1, none⟩) (by simp <;> omega) (fun e => e)).trans yc; have xd := (ho7.cell (p := ⟨w4.heap.size, 0, none⟩) (by simp <;> omega) (fun e => e)).trans yd; have O7 := hide ho7; clear ho7))
  all_goals
    have hO47 : Only (fun _ => False) (w4.alloc (.cells #[.func (.func 319) #[] #[.pointer (some ⟨b2, 0, none⟩), .pointer (some ⟨nb, 0, none⟩)], .func (.func 321) #[] #[.pointer (some ⟨b2, 0, none⟩), .pointer (some ⟨nb, 0, none⟩)]] 436)).drew w7 := O5.out.trans (O6.out.trans O7.out (fun _ _ e => e)) (fun _ _ e => e)
    have hO7 : Only (fun _ => False) W w7 := HO5.out.trans hO47 (fun _ _ e => e)
    have hO37 : Only (fun _ => False) w4 w7 := (toDrew (onlyA w4 _)).trans hO47 (fun _ _ e => e)
    have d1 : w7.cell? ⟨w4.heap.size, 1, none⟩ = some (.func (.func 321) #[] #[.pointer (some ⟨b2, 0, none⟩), .pointer (some ⟨nb, 0, none⟩)]) := (hO47.cell (p := ⟨w4.heap.size, 1, none⟩) (by simp) (fun e => e)).trans (cell_of (new0 w4 _) rfl)
    have d1d : w7.drew.cell? ⟨w4.heap.size, 1, none⟩ = some (.func (.func 321) #[] #[.pointer (some ⟨b2, 0, none⟩), .pointer (some ⟨nb, 0, none⟩)]) := d1
    have h27 := (hO37.block b2 i2 (fun e => e)).trans HB2.out
    have h47 := (hO37.block nb i4 (fun e => e)).trans HNb.out
    have hr7 := (hO37.block _ (heap_lt HR4.out) (fun e => e)).trans HR4.out
    have i37 : w4.heap.size < w7.heap.size := by omega
    have HCk := hide (check_nil (some ⟨p.m, 0, none⟩))
    have HOt := hide (ofText (ofB F.made))
    have HCt := hide (of_count F.count)
    have H27 := hide h27
    have H47 := hide h47
    have HR7 := hide hr7
    have HO7 := hide hO7
    clear hO47 hO37 h27 h47 hr7 hO7 ua ub uc ud ya yb yc yd xa xb xc xd sa sb sc sd O5 O6 O7
    by_cases hc0 : F.count = 0
    · have hcI : ¬ (0 : Int) < (F.count : Int) := by omega
      obtain rfl := HS0.out hc0
      have r0 : w7.cell? ⟨W.heap.size, 0, none⟩ = some (.int .i64 0) := cell_of HR7.out rfl
      have r1 : w7.cell? ⟨W.heap.size, 1, none⟩ = some (.int .i64 0) := cell_of HR7.out rfl
      have r2 : w7.cell? ⟨W.heap.size, 2, none⟩ = some (.string ⟨#[]⟩) := cell_of HR7.out rfl
      have rf := free_of HR7.out
      have rl := heap_lt HR7.out
      have HCt0 := hide (of_count 0)
      have HK := hide hc0
      clear hst
      go_wp2_with (first | (go_at_call 166; refine (HCk.out _).mono ?_; rintro en w' ⟨rfl, h3⟩; subst w') | (go_at_call 396; refine (HCt0.out _).mono ?_; rintro en w8 ⟨rfl, hw8⟩; subst hw8))
      refine bodyPost_ret (v := .agg #[.int .i64 1, .int .i64 0, .string ⟨#[]⟩]) (by simp [results, Tryz.results401, go_sem, r0, r1, r2, rl]) rfl ⟨by rw [HK.out]; rfl, (On8.box3 HW.out (HW.out.calm HO7.out) HR7.out (Nat.le_refl _) _ _ _).calm ((onlyA _ _).alloc _), ((((Kept.of HO7.out).set (a := ⟨W.heap.size, 0, none⟩) (Nat.le_refl _) _).set (a := ⟨W.heap.size, 1, none⟩) (Nat.le_refl _) _).set (a := ⟨W.heap.size, 2, none⟩) (Nat.le_refl _) _).trans (Kept.of ((onlyA _ _).alloc _))⟩
    · have hcI : (0 : Int) < (F.count : Int) := by omega
      have hcf1 := hst (by omega)
      have HSt := hide (HS1.out (by omega)).2
      have hr7d : w7.drew.heap[W.heap.size]? = some (.cells #[.int .i64 0, .int .i64 0, .string ⟨#[]⟩] 203 (0, 0)) := HR7.out
      have HON := hide (HW.out.calm HO7.out)
      have HK := hide hc0
      clear hc0 hst
      go_upto_region 7 with (go_at_call 166; refine (HCk.out _).mono ?_; rintro en w' ⟨rfl, h3⟩; subst w')
      go_region_with (first | (go_at_call 96; refine (HOt.out _).mono ?_; rintro en w8 ⟨rfl, hw8⟩; subst hw8) | (go_at_call 321; refine (HSt.out _ b2 nb (HON.out.calm (by repeat (first | with_reducible exact Only.refl _ _ | with_reducible refine Only.alloc ?_ _ | with_reducible refine toDrew ?_))) (by repeat (first | (with_reducible exact H27.out) | ((with_reducible refine (heap_allocD _ _ ?_).trans ?_); (focus (first | omega | (simp; done) | (simp; omega)))) | ((with_reducible refine (Below.heap_alloc _ _ _ ?_).trans ?_); (focus (first | omega | (simp; done) | (simp; omega)))))) (by repeat (first | (with_reducible exact H47.out) | ((with_reducible refine (heap_allocD _ _ ?_).trans ?_); (focus (first | omega | (simp; done) | (simp; omega)))) | ((with_reducible refine (Below.heap_alloc _ _ _ ?_).trans ?_); (focus (first | omega | (simp; done) | (simp; omega))))))).mono ?_; rintro en w9 ⟨rfl, hon9, hk9⟩; have HON9 := hide hon9; have HK9 := hide hk9; clear hon9 hk9))
      all_goals
        have hr9 : w9.heap[W.heap.size]? = some (.cells #[.int .i64 0, .int .i64 0, .string ⟨#[]⟩] 203 (0, 0)) := HK9.out.new HW.out (Nat.le_refl _) (by decide) (by decide) (by repeat (first | (with_reducible exact HR7.out) | ((with_reducible refine (heap_allocD _ _ ?_).trans ?_); (focus (first | omega | (simp; done) | (simp; omega)))) | ((with_reducible refine (Below.heap_alloc _ _ _ ?_).trans ?_); (focus (first | omega | (simp; done) | (simp; omega))))))
        have r0 : w9.cell? ⟨W.heap.size, 0, none⟩ = some (.int .i64 0) := cell_of hr9 rfl
        have r1 : w9.cell? ⟨W.heap.size, 1, none⟩ = some (.int .i64 0) := cell_of hr9 rfl
        have r2 : w9.cell? ⟨W.heap.size, 2, none⟩ = some (.string ⟨#[]⟩) := cell_of hr9 rfl
        have rf := free_of hr9
        have rl := heap_lt hr9
        have HR9 := hide hr9
        have HKW : Hid (Kept p W w9) := (Kept.of (HO7.out.trans (by repeat (first | with_reducible exact Only.refl _ _ | with_reducible refine Only.alloc ?_ _ | with_reducible refine toDrew ?_)) (fun _ _ e => e))).trans HK9.out
        clear hr9
        go_wp2_with (go_at_call 396; refine (HCt.out _).mono ?_; rintro en w8 ⟨rfl, hw8⟩; subst hw8)
        refine bodyPost_ret (v := .agg #[.int .i64 1, .int .i64 F.count, .string ⟨#[]⟩]) (by simp [results, Tryz.results401, go_sem, r0, r1, r2, rl]) rfl ⟨rfl, (On8.box3 HW.out HON9.out HR9.out (Nat.le_refl _) _ _ _).calm ((onlyA _ _).alloc _), (((HKW.out.set (a := ⟨W.heap.size, 0, none⟩) (Nat.le_refl _) _).set (a := ⟨W.heap.size, 1, none⟩) (Nat.le_refl _) _).set (a := ⟨W.heap.size, 2, none⟩) (Nat.le_refl _) _).trans (Kept.of ((onlyA _ _).alloc _))⟩
end Go.Proofs.YtdbdbaepmdmnfaaGreatDoor

namespace Go.Proofs.YtdbdbaepmdmnfaaGreatDoor
open Go.RowKit
theorem Kept.byType {p : Pl8} {s : St8} {W w' : World} (k : Kept p W w') (h : On8 p s W) {q : Nat} {c : Array Value} {t : TypeId} (ht : t ≠ 9 ∧ t ≠ 5 ∧ t ≠ 200 ∧ t ≠ 203 ∧ t ≠ 142 ∧ t ≠ 23) (e : W.heap[q]? = some (.cells c t (0, 0))) : w'.heap[q]? = some (.cells c t (0, 0)) := by
  obtain ⟨fv, hM, _⟩ := h.M
  obtain ⟨tv, hS, _⟩ := h.S
  have hV := h.V
  unfold MAt8 at hM
  unfold VAt at hV
  refine k.2 q c t (fun e' => ?_) (fun e' => ?_) (fun e' => ?_) ht.1 ht.2.1 e
  · rw [e', hM] at e
    cases e
    exact ht.2.2.1 rfl
  · rw [e', hV] at e
    cases e
    exact ht.2.2.2.1 rfl
  · rw [e', hS] at e
    cases e
    exact ht.2.2.2.2.1 rfl
set_option maxRecDepth 20000 in
set_option maxHeartbeats 2000000 in
/-- What was made of a store. -/
theorem works_setW (p : Pl8) (s s1 s' : St8) (ft fst : Nat) (k : Nat) (lb rb : Nat) (x1 y1 x2 y2 : Value) (a n : Int) (t : ByteArray) (hl : p.wN.heap[lb]? = some (.cells #[x1, y1] 338 (0, 0))) (hr : p.wN.heap[rb]? = some (.cells #[x2, y2] 338 (0, 0))) (hF : FindsK p s ft fst k y1) (hG : Works p s s1 x2 (.agg #[.int .i64 a, .int .i64 n, .string t])) (hS : StoresK p s1 s' fst k (.agg #[.int .i64 a, .int .i64 n, .string t])) : Works p s s' (.func (.func 351) #[] #[.pointer (some ⟨lb, 0, none⟩), .pointer (some ⟨rb, 0, none⟩)]) (.agg #[.int .i64 a, .int .i64 n, .string t]) := by
  refine ⟨351, [.pointer (some ⟨lb, 0, none⟩), .pointer (some ⟨rb, 0, none⟩)], rfl, cf351, fun w h => ?_⟩
  obtain ⟨F1, caps1, rfl, hcf1, hF⟩ := hF
  obtain ⟨F2, caps2, rfl, hcf2, hG⟩ := hG
  obtain ⟨hcf3, hS⟩ := hS
  unfold Enters at hcf1 hcf2 hcf3
  have hmf := hmfT
  have hsf := hsfT
  have hsn := hsnT
  have hlw := (h.O.block lb (heap_lt hl) (fun e => e)).trans hl
  have hrw := (h.O.block rb (heap_lt hr) (fun e => e)).trans hr
  have el : w.cell? ⟨lb, 1, none⟩ = some (.func (.func F1) #[] caps1.toArray) := cell_of hlw rfl
  have er : w.cell? ⟨rb, 0, none⟩ = some (.func (.func F2) #[] caps2.toArray) := cell_of hrw rfl
  have ll := heap_lt hlw
  have rl := heap_lt hrw
  have HH := hide h
  have HF := hide (fun W (hW : Only (fun _ => False) w W) => hF W (h.calm hW))
  have HG := hide (fun W (hW : Only (fun _ => False) w W) => hG W (h.calm hW))
  have HS := hide (fun W b2 nb (hW : On8 p s1 W) => hS W b2 nb hW)
  have hkt6 : (3 : Nat) ≠ 9 ∧ (3 : Nat) ≠ 5 ∧ (3 : Nat) ≠ 200 ∧ (3 : Nat) ≠ 203 ∧ (3 : Nat) ≠ 142 ∧ (3 : Nat) ≠ 23 := by decide
  clear h hlw hrw hF hG hS hl hr
  go_enter Tryz.func351, Tryz.ntmps351
  go_wp2_with fail
  refine (HF.out _ (onlyA w _)).mono ?_
  rintro en w1 ⟨tk, st, rfl, ⟨b2, nb, rfl, rfl, h2, h4⟩, ho1⟩
  have hO1 := (onlyA w _).trans ho1 (fun _ _ e => e)
  have el1 := (hO1.cell (p := ⟨lb, 1, none⟩) ll (fun e => e)).trans el
  have er1 := (hO1.cell (p := ⟨rb, 0, none⟩) rl (fun e => e)).trans er
  have hb0 := (ho1.block w.heap.size (by simp) (fun e => e)).trans (new0 w _)
  have HB0 := hide hb0
  have HO1 := hide hO1
  have H2 := hide h2
  have H4 := hide h4
  have z1 := ho1.size
  simp at z1
  have rl1 : rb < w1.heap.size := by omega
  clear ho1 hO1 hb0 h2 h4 z1
  go_wp2_with fail
  refine (HG.out _ (HO1.out.alloc _)).mono ?_
  rintro en w2 ⟨rfl, hq2, k2⟩
  have hon1 := HH.out.calm (HO1.out.alloc (.cells #[.func (.func ft) #[] #[.pointer (some ⟨b2, 0, none⟩), .pointer (some ⟨nb, 0, none⟩)], .func (.func fst) #[] #[.pointer (some ⟨b2, 0, none⟩), .pointer (some ⟨nb, 0, none⟩)]] 436))
  have hfb := k2.new HH.out (q := w1.heap.size) HO1.out.size (by decide) (by decide) (new0 w1 _)
  have f0 : w2.cell? ⟨w1.heap.size, 1, none⟩ = some (.func (.func fst) #[] #[.pointer (some ⟨b2, 0, none⟩), .pointer (some ⟨nb, 0, none⟩)]) := cell_of hfb rfl
  have fl := heap_lt hfb
  have hb2 := k2.byType hon1 (by decide) ((Below.heap_alloc _ _ _ (heap_lt H2.out)).trans H2.out)
  have hb4 := k2.byType hon1 hkt6 ((Below.heap_alloc _ _ _ (heap_lt H4.out)).trans H4.out)
  have hbr := k2.new HH.out (q := w.heap.size) (Nat.le_refl _) (by decide) (by decide) ((Below.heap_alloc _ _ _ (heap_lt HB0.out)).trans HB0.out)
  have z2 := k2.1
  simp at z2
  have HBr := hide hbr
  have HQ2 := hide hq2
  have HK2 := hide ((Kept.of (HO1.out.alloc _)).trans k2)
  have H22 := hide hb2
  have H24 := hide hb4
  have z0 := heap_lt HB0.out
  clear hq2 k2 hon1 hfb hb2 hb4 hbr H2 H4 HB0
  go_wp2_with fail
  refine (HS.out _ b2 nb (HQ2.out.calm (onlyA w2 _)) ((Below.heap_alloc _ _ _ (heap_lt H22.out)).trans H22.out) ((Below.heap_alloc _ _ _ (heap_lt H24.out)).trans H24.out)).mono ?_
  rintro en w3 ⟨rfl, h3, k3⟩
  have hv3 := k3.new HH.out (q := w2.heap.size) (by omega) (by decide) (by decide) (new0 w2 _)
  have hr3 := k3.new HH.out (q := w.heap.size) (by omega) (by decide) (by decide) ((Below.heap_alloc _ _ _ (heap_lt HBr.out)).trans HBr.out)
  have v0 : w3.cell? ⟨w2.heap.size, 0, none⟩ = some (.int .i64 a) := cell_of hv3 rfl
  have v1 : w3.cell? ⟨w2.heap.size, 1, none⟩ = some (.int .i64 n) := cell_of hv3 rfl
  have v2 : w3.cell? ⟨w2.heap.size, 2, none⟩ = some (.string t) := cell_of hv3 rfl
  have vl := heap_lt hv3
  have r0 : w3.cell? ⟨w.heap.size, 0, none⟩ = some (.int .i64 0) := cell_of hr3 rfl
  have r1 : w3.cell? ⟨w.heap.size, 1, none⟩ = some (.int .i64 0) := cell_of hr3 rfl
  have r2 : w3.cell? ⟨w.heap.size, 2, none⟩ = some (.string ⟨#[]⟩) := cell_of hr3 rfl
  have rf := free_of hr3
  have rl3 := heap_lt hr3
  have H3 := hide h3
  have HR3 := hide hr3
  have K3 := hide ((HK2.out.trans (Kept.of (onlyA w2 _))).trans k3)
  clear h3 k3 hv3 hr3
  go_wp2
  refine bodyPost_ret (v := .agg #[.int .i64 a, .int .i64 n, .string t]) (by simp [results, Tryz.results351, go_sem, r0, r1, r2]) rfl ⟨rfl, HH.out.box3 H3.out HR3.out (Nat.le_refl _) _ _ _, ((K3.out.set (Nat.le_refl _) _).set (Nat.le_refl _) _).set (Nat.le_refl _) _⟩
end Go.Proofs.YtdbdbaepmdmnfaaGreatDoor

namespace Go.Proofs.YtdbdbaepmdmnfaaGreatDoor
open Go.RowKit
set_option maxRecDepth 20000 in
set_option maxHeartbeats 4000000 in
theorem replS_made (kp : Option Addr) (t s : ByteArray) (g cap : Nat) (w : World) (hg : g < w.heap.size) (e0 : w.cell? ⟨g, 0, none⟩ = some (.iface 303 (.agg #[.string t]))) (e1 : w.cell? ⟨g, 1, none⟩ = some (.iface 303 (.agg #[.string s]))) :
    Calls Tryz.prog 330 #[.pointer kp, .slice (some ⟨g, 0, none⟩) 2 cap, .func (.func 332) #[] #[]] w fun en w' => ∃ v, en = .returned v ∧ ReplS t s w.heap.size w' v ∧ Only (fun _ => False) w w' := by
  have hmf := hmfT
  have hsf := hsfT
  have hsn := hsnT
  have HP := hide (pat_str kp t)
  have HS := hide (expr_str kp s)
  have HF := hide (field_made kp)
  go_enter Tryz.func330, Tryz.ntmps330
  go_upto_region 1 with fail
  go_cut [7, 8] (fun s7 s8 wc => ∃ b7 b8 x7 x8 y8, s7 = .pointer (some ⟨b7, 0, none⟩) ∧ s8 = .pointer (some ⟨b8, 0, none⟩) ∧ wc.heap[b7]? = some (.cells #[x7] 449 (0, 0)) ∧ (∃ B, w.heap.size + 1 < B ∧ PatS t B wc x7) ∧ w.heap.size + 1 < b7 ∧ w.heap.size + 1 < b8 ∧ wc.heap[b8]? = some (.cells #[x8, y8] 338 (0, 0)) ∧ ConstE (w.heap.size + 1 + 1) wc (.agg #[x8, y8]) 2 0 s ∧ wc.heap[w.heap.size]? = some (.cells #[.func (.func 332) #[] #[]] 502 (0, 0)) ∧ wc.heap[w.heap.size + 1]? = some (.cells #[.nilFunc, .nilFunc] 338 (0, 0)) ∧ Only (fun _ => False) w wc)
  case first =>
    go_region_held3 (fun W => W.cell? ⟨g, 0, none⟩ = some (.iface 303 (.agg #[.string t])) ∧ W.cell? ⟨g, 1, none⟩ = some (.iface 303 (.agg #[.string s]))) (first | (refine ⟨?_, ?_⟩ <;> (repeat (first | (with_reducible assumption) | (with_reducible refine past ?_ _) | (with_reducible refine pastD ?_ _) | ((with_reducible refine farC ?_ ?_); (rotate_left; focus (simp <;> omega))))))) (first | (go_at_call 163; refine (HS.out _).mono ?_; rintro en w2 ⟨rfl, hw2⟩; subst hw2) | (go_at_call 299; refine (HP.out _).mono ?_; rintro en w2 ⟨x, rfl, hpe, ho2⟩; have hpe2 := hpe; obtain ⟨pp, xx1, yy1, rfl, _, _, _⟩ := hpe; have HPE := hide hpe2; clear hpe2; have hO : Only (fun _ => False) w w2 := Only.trans (by repeat (first | with_reducible exact Only.refl _ _ | with_reducible refine Only.alloc ?_ _ | with_reducible refine toDrew ?_)) ho2 (fun _ _ e => e); have q0 := (hO.cell (p := ⟨g, 0, none⟩) hg (fun e => e)).trans e0; have q1 := (hO.cell (p := ⟨g, 1, none⟩) hg (fun e => e)).trans e1; have hg2 : g < w2.heap.size := Nat.lt_of_lt_of_le hg hO.size; have hg3 := Nat.lt_add_right 1 hg2; have hg4 := Nat.lt_add_right 1 hg3; have hg5 := Nat.lt_add_right 1 hg4; have hg6 := Nat.lt_add_right 1 hg5; have hg7 := Nat.lt_add_right 1 hg6; have hg8 := Nat.lt_add_right 1 hg7; refine lay (P := Hid (w2.heap[w.heap.size]? = some (.cells #[.func (.func 332) #[] #[]] 502 (0, 0)))) ?_ (fun HBx0 => ?_); (focus (refine hide ?_; refine (ho2.block _ ?_ (fun e => e)).trans ?_; (focus (first | (simp; done) | (simp; omega))); (repeat (first | ((with_reducible refine new_at2D ?_ _); focus (simp; done)) | ((with_reducible refine (heap_allocD _ _ ?_).trans ?_); (focus (first | (simp; done) | (simp; omega)))) | ((with_reducible refine new_at2 ?_ _); focus (simp; done)) | ((with_reducible refine (Below.heap_alloc _ _ _ ?_).trans ?_); (focus (first | (simp; done) | (simp; omega)))))); done)); refine lay (P := Hid (w2.heap[w.heap.size + 1]? = some (.cells #[.nilFunc, .nilFunc] 338 (0, 0)))) ?_ (fun HBx1 => ?_); (focus (refine hide ?_; refine (ho2.block _ ?_ (fun e => e)).trans ?_; (focus (first | (simp; done) | (simp; omega))); (repeat (first | ((with_reducible refine new_at2D ?_ _); focus (simp; done)) | ((with_reducible refine (heap_allocD _ _ ?_).trans ?_); (focus (first | (simp; done) | (simp; omega)))) | ((with_reducible refine new_at2 ?_ _); focus (simp; done)) | ((with_reducible refine (Below.heap_alloc _ _ _ ?_).trans ?_); (focus (first | (simp; done) | (simp; omega)))))); done)); (try (refine lay (P := w2.heap[w.heap.size + 1 + 1]? = some (.cells #[.nilFunc] 449 (0, 0))) ?_ (fun b0609 => ?_); (focus (refine (ho2.block _ ?_ (fun e => e)).trans ?_; (focus (first | (simp; done) | (simp; omega))); (repeat (first | ((with_reducible refine new_at2D ?_ _); focus (simp; done)) | ((with_reducible refine (heap_allocD _ _ ?_).trans ?_); (focus (first | (simp; done) | (simp; omega)))) | ((with_reducible refine new_at2 ?_ _); focus (simp; done)) | ((with_reducible refine (Below.heap_alloc _ _ _ ?_).trans ?_); (focus (first | (simp; done) | (simp; omega)))))); done)); have b0609c : w2.cell? ⟨w.heap.size + 1 + 1, 0, none⟩ = some .nilFunc := cell_of b0609 rfl; have b0609f := free_of b0609; have b0609l := heap_lt b0609; have b0609l1 := Nat.lt_add_right 1 b0609l; have b0609l2 := Nat.lt_add_right 1 b0609l1; have b0609l3 := Nat.lt_add_right 1 b0609l2; have b0609l4 := Nat.lt_add_right 1 b0609l3; have b0609l5 := Nat.lt_add_right 1 b0609l4; have b0609l6 := Nat.lt_add_right 1 b0609l5; have Hb0609 := hide b0609; clear b0609)); (try (refine lay (P := w2.heap[w.heap.size + 1 + 1]? = some (.cells #[.nilFunc, .nilFunc] 338 (0, 0))) ?_ (fun b0474 => ?_); (focus (refine (ho2.block _ ?_ (fun e => e)).trans ?_; (focus (first | (simp; done) | (simp; omega))); (repeat (first | ((with_reducible refine new_at2D ?_ _); focus (simp; done)) | ((with_reducible refine (heap_allocD _ _ ?_).trans ?_); (focus (first | (simp; done) | (simp; omega)))) | ((with_reducible refine new_at2 ?_ _); focus (simp; done)) | ((with_reducible refine (Below.heap_alloc _ _ _ ?_).trans ?_); (focus (first | (simp; done) | (simp; omega)))))); done)); have b0474c : w2.cell? ⟨w.heap.size + 1 + 1, 0, none⟩ = some .nilFunc := cell_of b0474 rfl; have b0474d : w2.cell? ⟨w.heap.size + 1 + 1, 1, none⟩ = some .nilFunc := cell_of b0474 rfl; have b0474f := free_of b0474; have b0474l := heap_lt b0474; have b0474l1 := Nat.lt_add_right 1 b0474l; have b0474l2 := Nat.lt_add_right 1 b0474l1; have b0474l3 := Nat.lt_add_right 1 b0474l2; have b0474l4 := Nat.lt_add_right 1 b0474l3; have b0474l5 := Nat.lt_add_right 1 b0474l4; have b0474l6 := Nat.lt_add_right 1 b0474l5; have Hb0474 := hide b0474; clear b0474)); (try (refine lay (P := w2.heap[w.heap.size + 1 + 1 + 1]? = some (.cells #[.nilFunc] 449 (0, 0))) ?_ (fun b1609 => ?_); (focus (refine (ho2.block _ ?_ (fun e => e)).trans ?_; (focus (first | (simp; done) | (simp; omega))); (repeat (first | ((with_reducible refine new_at2D ?_ _); focus (simp; done)) | ((with_reducible refine (heap_allocD _ _ ?_).trans ?_); (focus (first | (simp; done) | (simp; omega)))) | ((with_reducible refine new_at2 ?_ _); focus (simp; done)) | ((with_reducible refine (Below.heap_alloc _ _ _ ?_).trans ?_); (focus (first | (simp; done) | (simp; omega)))))); done)); have b1609c : w2.cell? ⟨w.heap.size + 1 + 1 + 1, 0, none⟩ = some .nilFunc := cell_of b1609 rfl; have b1609f := free_of b1609; have b1609l := heap_lt b1609; have b1609l1 := Nat.lt_add_right 1 b1609l; have b1609l2 := Nat.lt_add_right 1 b1609l1; have b1609l3 := Nat.lt_add_right 1 b1609l2; have b1609l4 := Nat.lt_add_right 1 b1609l3; have b1609l5 := Nat.lt_add_right 1 b1609l4; have b1609l6 := Nat.lt_add_right 1 b1609l5; have Hb1609 := hide b1609; clear b1609)); (try (refine lay (P := w2.heap[w.heap.size + 1 + 1 + 1]? = some (.cells #[.nilFunc, .nilFunc] 338 (0, 0))) ?_ (fun b1474 => ?_); (focus (refine (ho2.block _ ?_ (fun e => e)).trans ?_; (focus (first | (simp; done) | (simp; omega))); (repeat (first | ((with_reducible refine new_at2D ?_ _); focus (simp; done)) | ((with_reducible refine (heap_allocD _ _ ?_).trans ?_); (focus (first | (simp; done) | (simp; omega)))) | ((with_reducible refine new_at2 ?_ _); focus (simp; done)) | ((with_reducible refine (Below.heap_alloc _ _ _ ?_).trans ?_); (focus (first | (simp; done) | (simp; omega)))))); done)); have b1474c : w2.cell? ⟨w.heap.size + 1 + 1 + 1, 0, none⟩ = some .nilFunc := cell_of b1474 rfl; have b1474d : w2.cell? ⟨w.heap.size + 1 + 1 + 1, 1, none⟩ = some .nilFunc := cell_of b1474 rfl; have b1474f := free_of b1474; have b1474l := heap_lt b1474; have b1474l1 := Nat.lt_add_right 1 b1474l; have b1474l2 := Nat.lt_add_right 1 b1474l1; have b1474l3 := Nat.lt_add_right 1 b1474l2; have b1474l4 := Nat.lt_add_right 1 b1474l3; have b1474l5 := Nat.lt_add_right 1 b1474l4; have b1474l6 := Nat.lt_add_right 1 b1474l5; have Hb1474 := hide b1474; clear b1474)); (try (refine lay (P := w2.heap[w.heap.size + 1 + 1 + 1 + 1 + 1 + 1 + 1]? = some (.cells #[.nilFunc] 449 (0, 0))) ?_ (fun b2609 => ?_); (focus (refine (ho2.block _ ?_ (fun e => e)).trans ?_; (focus (first | (simp; done) | (simp; omega))); (repeat (first | ((with_reducible refine new_at2D ?_ _); focus (simp; done)) | ((with_reducible refine (heap_allocD _ _ ?_).trans ?_); (focus (first | (simp; done) | (simp; omega)))) | ((with_reducible refine new_at2 ?_ _); focus (simp; done)) | ((with_reducible refine (Below.heap_alloc _ _ _ ?_).trans ?_); (focus (first | (simp; done) | (simp; omega)))))); done)); have b2609c : w2.cell? ⟨w.heap.size + 1 + 1 + 1 + 1 + 1 + 1 + 1, 0, none⟩ = some .nilFunc := cell_of b2609 rfl; have b2609f := free_of b2609; have b2609l := heap_lt b2609; have b2609l1 := Nat.lt_add_right 1 b2609l; have b2609l2 := Nat.lt_add_right 1 b2609l1; have b2609l3 := Nat.lt_add_right 1 b2609l2; have b2609l4 := Nat.lt_add_right 1 b2609l3; have b2609l5 := Nat.lt_add_right 1 b2609l4; have b2609l6 := Nat.lt_add_right 1 b2609l5; have Hb2609 := hide b2609; clear b2609)); (try (refine lay (P := w2.heap[w.heap.size + 1 + 1 + 1 + 1 + 1 + 1 + 1]? = some (.cells #[.nilFunc, .nilFunc] 338 (0, 0))) ?_ (fun b2474 => ?_); (focus (refine (ho2.block _ ?_ (fun e => e)).trans ?_; (focus (first | (simp; done) | (simp; omega))); (repeat (first | ((with_reducible refine new_at2D ?_ _); focus (simp; done)) | ((with_reducible refine (heap_allocD _ _ ?_).trans ?_); (focus (first | (simp; done) | (simp; omega)))) | ((with_reducible refine new_at2 ?_ _); focus (simp; done)) | ((with_reducible refine (Below.heap_alloc _ _ _ ?_).trans ?_); (focus (first | (simp; done) | (simp; omega)))))); done)); have b2474c : w2.cell? ⟨w.heap.size + 1 + 1 + 1 + 1 + 1 + 1 + 1, 0, none⟩ = some .nilFunc := cell_of b2474 rfl; have b2474d : w2.cell? ⟨w.heap.size + 1 + 1 + 1 + 1 + 1 + 1 + 1, 1, none⟩ = some .nilFunc := cell_of b2474 rfl; have b2474f := free_of b2474; have b2474l := heap_lt b2474; have b2474l1 := Nat.lt_add_right 1 b2474l; have b2474l2 := Nat.lt_add_right 1 b2474l1; have b2474l3 := Nat.lt_add_right 1 b2474l2; have b2474l4 := Nat.lt_add_right 1 b2474l3; have b2474l5 := Nat.lt_add_right 1 b2474l4; have b2474l6 := Nat.lt_add_right 1 b2474l5; have Hb2474 := hide b2474; clear b2474)); (try (refine lay (P := w2.heap[w.heap.size + 1 + 1 + 1 + 1 + 1 + 1 + 1 + 1]? = some (.cells #[.nilFunc] 449 (0, 0))) ?_ (fun b3609 => ?_); (focus (refine (ho2.block _ ?_ (fun e => e)).trans ?_; (focus (first | (simp; done) | (simp; omega))); (repeat (first | ((with_reducible refine new_at2D ?_ _); focus (simp; done)) | ((with_reducible refine (heap_allocD _ _ ?_).trans ?_); (focus (first | (simp; done) | (simp; omega)))) | ((with_reducible refine new_at2 ?_ _); focus (simp; done)) | ((with_reducible refine (Below.heap_alloc _ _ _ ?_).trans ?_); (focus (first | (simp; done) | (simp; omega)))))); done)); have b3609c : w2.cell? ⟨w.heap.size + 1 + 1 + 1 + 1 + 1 + 1 + 1 + 1, 0, none⟩ = some .nilFunc := cell_of b3609 rfl; have b3609f := free_of b3609; have b3609l := heap_lt b3609; have b3609l1 := Nat.lt_add_right 1 b3609l; have b3609l2 := Nat.lt_add_right 1 b3609l1; have b3609l3 := Nat.lt_add_right 1 b3609l2; have b3609l4 := Nat.lt_add_right 1 b3609l3; have b3609l5 := Nat.lt_add_right 1 b3609l4; have b3609l6 := Nat.lt_add_right 1 b3609l5; have Hb3609 := hide b3609; clear b3609)); (try (refine lay (P := w2.heap[w.heap.size + 1 + 1 + 1 + 1 + 1 + 1 + 1 + 1]? = some (.cells #[.nilFunc, .nilFunc] 338 (0, 0))) ?_ (fun b3474 => ?_); (focus (refine (ho2.block _ ?_ (fun e => e)).trans ?_; (focus (first | (simp; done) | (simp; omega))); (repeat (first | ((with_reducible refine new_at2D ?_ _); focus (simp; done)) | ((with_reducible refine (heap_allocD _ _ ?_).trans ?_); (focus (first | (simp; done) | (simp; omega)))) | ((with_reducible refine new_at2 ?_ _); focus (simp; done)) | ((with_reducible refine (Below.heap_alloc _ _ _ ?_).trans ?_); (focus (first | (simp; done) | (simp; omega)))))); done)); have b3474c : w2.cell? ⟨w.heap.size + 1 + 1 + 1 + 1 + 1 + 1 + 1 + 1, 0, none⟩ = some .nilFunc := cell_of b3474 rfl; have b3474d : w2.cell? ⟨w.heap.size + 1 + 1 + 1 + 1 + 1 + 1 + 1 + 1, 1, none⟩ = some .nilFunc := cell_of b3474 rfl; have b3474f := free_of b3474; have b3474l := heap_lt b3474; have b3474l1 := Nat.lt_add_right 1 b3474l; have b3474l2 := Nat.lt_add_right 1 b3474l1; have b3474l3 := Nat.lt_add_right 1 b3474l2; have b3474l4 := Nat.lt_add_right 1 b3474l3; have b3474l5 := Nat.lt_add_right 1 b3474l4; have b3474l6 := Nat.lt_add_right 1 b3474l5; have Hb3474 := hide b3474; clear b3474)); have HO := hide hO; clear hO; have HO2 := hide ho2; clear ho2))
    all_goals
      go_wp2_with fail
      go_meet
    all_goals
      have hzw := heap_lt HBx1.out
      first
        | refine ⟨_, _, .func (.func 379) #[] #[.pointer (some ⟨pp, 0, none⟩)], .func (.func 298) #[] #[.pointer (some ⟨w2.heap.size + 1 + 1 + 1, 0, none⟩)], .nilFunc, rfl, rfl, ?_, ⟨_, ?_, patS_keep HPE.out ?_⟩, ?_, ?_, ?_, ⟨_, rfl, by omega, ?_⟩, ?_, ?_, HO.out.trans (D := fun _ => False) (E := fun q => w.heap.size ≤ q) ?_ (fun q h1 h2 => by omega)⟩
          · (repeat (first | ((with_reducible refine new_at2 ?_ _); focus (simp; done)) | ((with_reducible refine (Below.heap_alloc _ _ _ ?_).trans ?_); (focus (first | omega | (simp; done) | (simp; omega)))) | (with_reducible refine set2 (x := .nilFunc) (y := .nilFunc) ?_ _ _) | (with_reducible refine set1 (x := .nilFunc) ?_ _) | ((with_reducible refine (Below.heap_setCell _ _ _ _ ?_).trans ?_); (focus (show _ ≠ _; first | (simp; done) | (simp; omega) | omega))) | (with_reducible exact HBx0.out) | (with_reducible exact HBx1.out) | (with_reducible exact Hb0609.out) | (with_reducible exact Hb0474.out) | (with_reducible exact Hb1609.out) | (with_reducible exact Hb1474.out) | (with_reducible exact Hb2609.out) | (with_reducible exact Hb2474.out) | (with_reducible exact Hb3609.out) | (with_reducible exact Hb3474.out)))
          · first | omega | (simp; done) | (simp; omega)
          · (repeat (first | (with_reducible exact Only.refl _ _) | (with_reducible refine Only.alloc ?_ _) | (with_reducible refine toDrew ?_) | ((with_reducible refine Only.setCell ?_ ?_ _); (rotate_left; (focus (intro _; show _; first | (simp; done) | (simp; omega) | omega))))))
          · first | omega | (simp; done) | (simp; omega)
          · first | omega | (simp; done) | (simp; omega)
          · (repeat (first | ((with_reducible refine new_at2 ?_ _); focus (simp; done)) | ((with_reducible refine (Below.heap_alloc _ _ _ ?_).trans ?_); (focus (first | omega | (simp; done) | (simp; omega)))) | (with_reducible refine set2 (x := .nilFunc) (y := .nilFunc) ?_ _ _) | (with_reducible refine set1 (x := .nilFunc) ?_ _) | ((with_reducible refine (Below.heap_setCell _ _ _ _ ?_).trans ?_); (focus (show _ ≠ _; first | (simp; done) | (simp; omega) | omega))) | (with_reducible exact HBx0.out) | (with_reducible exact HBx1.out) | (with_reducible exact Hb0609.out) | (with_reducible exact Hb0474.out) | (with_reducible exact Hb1609.out) | (with_reducible exact Hb1474.out) | (with_reducible exact Hb2609.out) | (with_reducible exact Hb2474.out) | (with_reducible exact Hb3609.out) | (with_reducible exact Hb3474.out)))
          · (repeat (first | ((with_reducible refine new_at2 ?_ _); focus (simp; done)) | ((with_reducible refine (Below.heap_alloc _ _ _ ?_).trans ?_); (focus (first | omega | (simp; done) | (simp; omega)))) | (with_reducible refine set2 (x := .nilFunc) (y := .nilFunc) ?_ _ _) | (with_reducible refine set1 (x := .nilFunc) ?_ _) | ((with_reducible refine (Below.heap_setCell _ _ _ _ ?_).trans ?_); (focus (show _ ≠ _; first | (simp; done) | (simp; omega) | omega))) | (with_reducible exact HBx0.out) | (with_reducible exact HBx1.out) | (with_reducible exact Hb0609.out) | (with_reducible exact Hb0474.out) | (with_reducible exact Hb1609.out) | (with_reducible exact Hb1474.out) | (with_reducible exact Hb2609.out) | (with_reducible exact Hb2474.out) | (with_reducible exact Hb3609.out) | (with_reducible exact Hb3474.out)))
          · (repeat (first | ((with_reducible refine new_at2 ?_ _); focus (simp; done)) | ((with_reducible refine (Below.heap_alloc _ _ _ ?_).trans ?_); (focus (first | omega | (simp; done) | (simp; omega)))) | (with_reducible refine set2 (x := .nilFunc) (y := .nilFunc) ?_ _ _) | (with_reducible refine set1 (x := .nilFunc) ?_ _) | ((with_reducible refine (Below.heap_setCell _ _ _ _ ?_).trans ?_); (focus (show _ ≠ _; first | (simp; done) | (simp; omega) | omega))) | (with_reducible exact HBx0.out) | (with_reducible exact HBx1.out) | (with_reducible exact Hb0609.out) | (with_reducible exact Hb0474.out) | (with_reducible exact Hb1609.out) | (with_reducible exact Hb1474.out) | (with_reducible exact Hb2609.out) | (with_reducible exact Hb2474.out) | (with_reducible exact Hb3609.out) | (with_reducible exact Hb3474.out)))
          · (repeat (first | ((with_reducible refine new_at2 ?_ _); focus (simp; done)) | ((with_reducible refine (Below.heap_alloc _ _ _ ?_).trans ?_); (focus (first | omega | (simp; done) | (simp; omega)))) | (with_reducible refine set2 (x := .nilFunc) (y := .nilFunc) ?_ _ _) | (with_reducible refine set1 (x := .nilFunc) ?_ _) | ((with_reducible refine (Below.heap_setCell _ _ _ _ ?_).trans ?_); (focus (show _ ≠ _; first | (simp; done) | (simp; omega) | omega))) | (with_reducible exact HBx0.out) | (with_reducible exact HBx1.out) | (with_reducible exact Hb0609.out) | (with_reducible exact Hb0474.out) | (with_reducible exact Hb1609.out) | (with_reducible exact Hb1474.out) | (with_reducible exact Hb2609.out) | (with_reducible exact Hb2474.out) | (with_reducible exact Hb3609.out) | (with_reducible exact Hb3474.out)))
          · (repeat (first | (with_reducible exact Only.refl _ _) | (with_reducible refine Only.alloc ?_ _) | (with_reducible refine toDrew ?_) | ((with_reducible refine Only.setCell ?_ ?_ _); (rotate_left; (focus (intro _; show _; first | (simp; done) | (simp; omega) | omega))))))
        | refine ⟨_, _, .func (.func 379) #[] #[.pointer (some ⟨pp, 0, none⟩)], .func (.func 298) #[] #[.pointer (some ⟨w2.heap.size + 1 + 1 + 1 + 1, 0, none⟩)], .nilFunc, rfl, rfl, ?_, ⟨_, ?_, patS_keep HPE.out ?_⟩, ?_, ?_, ?_, ⟨_, rfl, by omega, ?_⟩, ?_, ?_, HO.out.trans (D := fun _ => False) (E := fun q => w.heap.size ≤ q) ?_ (fun q h1 h2 => by omega)⟩
          · (repeat (first | ((with_reducible refine new_at2 ?_ _); focus (simp; done)) | ((with_reducible refine (Below.heap_alloc _ _ _ ?_).trans ?_); (focus (first | omega | (simp; done) | (simp; omega)))) | (with_reducible refine set2 (x := .nilFunc) (y := .nilFunc) ?_ _ _) | (with_reducible refine set1 (x := .nilFunc) ?_ _) | ((with_reducible refine (Below.heap_setCell _ _ _ _ ?_).trans ?_); (focus (show _ ≠ _; first | (simp; done) | (simp; omega) | omega))) | (with_reducible exact HBx0.out) | (with_reducible exact HBx1.out) | (with_reducible exact Hb0609.out) | (with_reducible exact Hb0474.out) | (with_reducible exact Hb1609.out) | (with_reducible exact Hb1474.out) | (with_reducible exact Hb2609.out) | (with_reducible exact Hb2474.out) | (with_reducible exact Hb3609.out) | (with_reducible exact Hb3474.out)))
          · first | omega | (simp; done) | (simp; omega)
          · (repeat (first | (with_reducible exact Only.refl _ _) | (with_reducible refine Only.alloc ?_ _) | (with_reducible refine toDrew ?_) | ((with_reducible refine Only.setCell ?_ ?_ _); (rotate_left; (focus (intro _; show _; first | (simp; done) | (simp; omega) | omega))))))
          · first | omega | (simp; done) | (simp; omega)
          · first | omega | (simp; done) | (simp; omega)
          · (repeat (first | ((with_reducible refine new_at2 ?_ _); focus (simp; done)) | ((with_reducible refine (Below.heap_alloc _ _ _ ?_).trans ?_); (focus (first | omega | (simp; done) | (simp; omega)))) | (with_reducible refine set2 (x := .nilFunc) (y := .nilFunc) ?_ _ _) | (with_reducible refine set1 (x := .nilFunc) ?_ _) | ((with_reducible refine (Below.heap_setCell _ _ _ _ ?_).trans ?_); (focus (show _ ≠ _; first | (simp; done) | (simp; omega) | omega))) | (with_reducible exact HBx0.out) | (with_reducible exact HBx1.out) | (with_reducible exact Hb0609.out) | (with_reducible exact Hb0474.out) | (with_reducible exact Hb1609.out) | (with_reducible exact Hb1474.out) | (with_reducible exact Hb2609.out) | (with_reducible exact Hb2474.out) | (with_reducible exact Hb3609.out) | (with_reducible exact Hb3474.out)))
          · (repeat (first | ((with_reducible refine new_at2 ?_ _); focus (simp; done)) | ((with_reducible refine (Below.heap_alloc _ _ _ ?_).trans ?_); (focus (first | omega | (simp; done) | (simp; omega)))) | (with_reducible refine set2 (x := .nilFunc) (y := .nilFunc) ?_ _ _) | (with_reducible refine set1 (x := .nilFunc) ?_ _) | ((with_reducible refine (Below.heap_setCell _ _ _ _ ?_).trans ?_); (focus (show _ ≠ _; first | (simp; done) | (simp; omega) | omega))) | (with_reducible exact HBx0.out) | (with_reducible exact HBx1.out) | (with_reducible exact Hb0609.out) | (with_reducible exact Hb0474.out) | (with_reducible exact Hb1609.out) | (with_reducible exact Hb1474.out) | (with_reducible exact Hb2609.out) | (with_reducible exact Hb2474.out) | (with_reducible exact Hb3609.out) | (with_reducible exact Hb3474.out)))
          · (repeat (first | ((with_reducible refine new_at2 ?_ _); focus (simp; done)) | ((with_reducible refine (Below.heap_alloc _ _ _ ?_).trans ?_); (focus (first | omega | (simp; done) | (simp; omega)))) | (with_reducible refine set2 (x := .nilFunc) (y := .nilFunc) ?_ _ _) | (with_reducible refine set1 (x := .nilFunc) ?_ _) | ((with_reducible refine (Below.heap_setCell _ _ _ _ ?_).trans ?_); (focus (show _ ≠ _; first | (simp; done) | (simp; omega) | omega))) | (with_reducible exact HBx0.out) | (with_reducible exact HBx1.out) | (with_reducible exact Hb0609.out) | (with_reducible exact Hb0474.out) | (with_reducible exact Hb1609.out) | (with_reducible exact Hb1474.out) | (with_reducible exact Hb2609.out) | (with_reducible exact Hb2474.out) | (with_reducible exact Hb3609.out) | (with_reducible exact Hb3474.out)))
          · (repeat (first | ((with_reducible refine new_at2 ?_ _); focus (simp; done)) | ((with_reducible refine (Below.heap_alloc _ _ _ ?_).trans ?_); (focus (first | omega | (simp; done) | (simp; omega)))) | (with_reducible refine set2 (x := .nilFunc) (y := .nilFunc) ?_ _ _) | (with_reducible refine set1 (x := .nilFunc) ?_ _) | ((with_reducible refine (Below.heap_setCell _ _ _ _ ?_).trans ?_); (focus (show _ ≠ _; first | (simp; done) | (simp; omega) | omega))) | (with_reducible exact HBx0.out) | (with_reducible exact HBx1.out) | (with_reducible exact Hb0609.out) | (with_reducible exact Hb0474.out) | (with_reducible exact Hb1609.out) | (with_reducible exact Hb1474.out) | (with_reducible exact Hb2609.out) | (with_reducible exact Hb2474.out) | (with_reducible exact Hb3609.out) | (with_reducible exact Hb3474.out)))
          · (repeat (first | (with_reducible exact Only.refl _ _) | (with_reducible refine Only.alloc ?_ _) | (with_reducible refine toDrew ?_) | ((with_reducible refine Only.setCell ?_ ?_ _); (rotate_left; (focus (intro _; show _; first | (simp; done) | (simp; omega) | omega))))))
        | refine ⟨_, _, .func (.func 379) #[] #[.pointer (some ⟨pp, 0, none⟩)], .func (.func 298) #[] #[.pointer (some ⟨w2.heap.size + 1 + 1 + 1 + 1 + 1, 0, none⟩)], .nilFunc, rfl, rfl, ?_, ⟨_, ?_, patS_keep HPE.out ?_⟩, ?_, ?_, ?_, ⟨_, rfl, by omega, ?_⟩, ?_, ?_, HO.out.trans (D := fun _ => False) (E := fun q => w.heap.size ≤ q) ?_ (fun q h1 h2 => by omega)⟩
          · (repeat (first | ((with_reducible refine new_at2 ?_ _); focus (simp; done)) | ((with_reducible refine (Below.heap_alloc _ _ _ ?_).trans ?_); (focus (first | omega | (simp; done) | (simp; omega)))) | (with_reducible refine set2 (x := .nilFunc) (y := .nilFunc) ?_ _ _) | (with_reducible refine set1 (x := .nilFunc) ?_ _) | ((with_reducible refine (Below.heap_setCell _ _ _ _ ?_).trans ?_); (focus (show _ ≠ _; first | (simp; done) | (simp; omega) | omega))) | (with_reducible exact HBx0.out) | (with_reducible exact HBx1.out) | (with_reducible exact Hb0609.out) | (with_reducible exact Hb0474.out) | (with_reducible exact Hb1609.out) | (with_reducible exact Hb1474.out) | (with_reducible exact Hb2609.out) | (with_reducible exact Hb2474.out) | (with_reducible exact Hb3609.out) | (with_reducible exact Hb3474.out)))
          · first | omega | (simp; done) | (simp; omega)
          · (repeat (first | (with_reducible exact Only.refl _ _) | (with_reducible refine Only.alloc ?_ _) | (with_reducible refine toDrew ?_) | ((with_reducible refine Only.setCell ?_ ?_ _); (rotate_left; (focus (intro _; show _; first | (simp; done) | (simp; omega) | omega))))))
          · first | omega | (simp; done) | (simp; omega)
          · first | omega | (simp; done) | (simp; omega)
          · (repeat (first | ((with_reducible refine new_at2 ?_ _); focus (simp; done)) | ((with_reducible refine (Below.heap_alloc _ _ _ ?_).trans ?_); (focus (first | omega | (simp; done) | (simp; omega)))) | (with_reducible refine set2 (x := .nilFunc) (y := .nilFunc) ?_ _ _) | (with_reducible refine set1 (x := .nilFunc) ?_ _) | ((with_reducible refine (Below.heap_setCell _ _ _ _ ?_).trans ?_); (focus (show _ ≠ _; first | (simp; done) | (simp; omega) | omega))) | (with_reducible exact HBx0.out) | (with_reducible exact HBx1.out) | (with_reducible exact Hb0609.out) | (with_reducible exact Hb0474.out) | (with_reducible exact Hb1609.out) | (with_reducible exact Hb1474.out) | (with_reducible exact Hb2609.out) | (with_reducible exact Hb2474.out) | (with_reducible exact Hb3609.out) | (with_reducible exact Hb3474.out)))
          · (repeat (first | ((with_reducible refine new_at2 ?_ _); focus (simp; done)) | ((with_reducible refine (Below.heap_alloc _ _ _ ?_).trans ?_); (focus (first | omega | (simp; done) | (simp; omega)))) | (with_reducible refine set2 (x := .nilFunc) (y := .nilFunc) ?_ _ _) | (with_reducible refine set1 (x := .nilFunc) ?_ _) | ((with_reducible refine (Below.heap_setCell _ _ _ _ ?_).trans ?_); (focus (show _ ≠ _; first | (simp; done) | (simp; omega) | omega))) | (with_reducible exact HBx0.out) | (with_reducible exact HBx1.out) | (with_reducible exact Hb0609.out) | (with_reducible exact Hb0474.out) | (with_reducible exact Hb1609.out) | (with_reducible exact Hb1474.out) | (with_reducible exact Hb2609.out) | (with_reducible exact Hb2474.out) | (with_reducible exact Hb3609.out) | (with_reducible exact Hb3474.out)))
          · (repeat (first | ((with_reducible refine new_at2 ?_ _); focus (simp; done)) | ((with_reducible refine (Below.heap_alloc _ _ _ ?_).trans ?_); (focus (first | omega | (simp; done) | (simp; omega)))) | (with_reducible refine set2 (x := .nilFunc) (y := .nilFunc) ?_ _ _) | (with_reducible refine set1 (x := .nilFunc) ?_ _) | ((with_reducible refine (Below.heap_setCell _ _ _ _ ?_).trans ?_); (focus (show _ ≠ _; first | (simp; done) | (simp; omega) | omega))) | (with_reducible exact HBx0.out) | (with_reducible exact HBx1.out) | (with_reducible exact Hb0609.out) | (with_reducible exact Hb0474.out) | (with_reducible exact Hb1609.out) | (with_reducible exact Hb1474.out) | (with_reducible exact Hb2609.out) | (with_reducible exact Hb2474.out) | (with_reducible exact Hb3609.out) | (with_reducible exact Hb3474.out)))
          · (repeat (first | ((with_reducible refine new_at2 ?_ _); focus (simp; done)) | ((with_reducible refine (Below.heap_alloc _ _ _ ?_).trans ?_); (focus (first | omega | (simp; done) | (simp; omega)))) | (with_reducible refine set2 (x := .nilFunc) (y := .nilFunc) ?_ _ _) | (with_reducible refine set1 (x := .nilFunc) ?_ _) | ((with_reducible refine (Below.heap_setCell _ _ _ _ ?_).trans ?_); (focus (show _ ≠ _; first | (simp; done) | (simp; omega) | omega))) | (with_reducible exact HBx0.out) | (with_reducible exact HBx1.out) | (with_reducible exact Hb0609.out) | (with_reducible exact Hb0474.out) | (with_reducible exact Hb1609.out) | (with_reducible exact Hb1474.out) | (with_reducible exact Hb2609.out) | (with_reducible exact Hb2474.out) | (with_reducible exact Hb3609.out) | (with_reducible exact Hb3474.out)))
          · (repeat (first | (with_reducible exact Only.refl _ _) | (with_reducible refine Only.alloc ?_ _) | (with_reducible refine toDrew ?_) | ((with_reducible refine Only.setCell ?_ ?_ _); (rotate_left; (focus (intro _; show _; first | (simp; done) | (simp; omega) | omega))))))
  case rest =>
    obtain ⟨b7, b8, x7, x8, y8, rfl, rfl, h7, ⟨B7, hB7, hp7⟩, k7, k8, h8, hc8, hx0, hx1, hO⟩ := hcut
    have H7 := hide h7
    have HP7 := hide hp7
    have H8 := hide h8
    have HC8 := hide hc8
    have HX0 := hide hx0
    have HX1 := hide hx1
    have HO := hide hO
    clear h7 hp7 h8 hc8 hx0 hx1 hO HP HS
    go_wp2_with fail
    refine (HF.out _).mono ?_
    rintro en w3 ⟨v3, rfl, ⟨nb, c, g9, rfl, kn, kc, hn, hc⟩, ho3⟩
    have hF : FieldE wc.heap.size w3 _ := ⟨nb, c, g9, rfl, kn, kc, hn, hc⟩
    have hX1 := (ho3.block _ (heap_lt HX1.out) (fun e => e)).trans HX1.out
    have r0 : w3.cell? ⟨w.heap.size + 1, 0, none⟩ = some .nilFunc := cell_of hX1 rfl
    have r1 : w3.cell? ⟨w.heap.size + 1, 1, none⟩ = some .nilFunc := cell_of hX1 rfl
    have rf := free_of hX1
    have rl := heap_lt hX1
    have HX13 := hide hX1
    have HF3 := hide hF
    have HO3 := hide ho3
    clear hn hc hF hX1 ho3 HF kn kc
    go_wp2
    have hol : Only (fun q => q = w.heap.size + 1) w3 (((w3.setCell ⟨w.heap.size + 1, 0, none⟩ (.func (.func 401) #[] #[.pointer (some ⟨b7, 0, none⟩), .pointer (some ⟨b8, 0, none⟩), .pointer (some ⟨w3.heap.size, 0, none⟩), .pointer (some ⟨w.heap.size, 0, none⟩)])).setCell ⟨w.heap.size + 1, 1, none⟩ .nilFunc).alloc (.cells #[.func (.func 386) #[] #[.pointer (some ⟨g9, 0, none⟩)], .func (.func 317) #[] #[.pointer (some ⟨nb, 0, none⟩)]] 338)) := (((Only.refl (fun q => q = w.heap.size + 1) w3).setCell (p := ⟨w.heap.size + 1, 0, none⟩) (fun _ => rfl) _).setCell (p := ⟨w.heap.size + 1, 1, none⟩) (fun _ => rfl) _).alloc _
    have hz3 : wc.heap.size ≤ w3.heap.size := HO3.out.size
    have hzc := heap_lt HX1.out
    have ho7 : Only (fun q => q = w.heap.size + 1) wc _ := (HO3.out.mono (E := fun q => q = w.heap.size + 1) (fun _ _ e => e.elim)).trans hol (fun _ _ e => e)
    refine bodyPost_ret (v := .agg #[.func (.func 401) #[] #[.pointer (some ⟨b7, 0, none⟩), .pointer (some ⟨b8, 0, none⟩), .pointer (some ⟨w3.heap.size, 0, none⟩), .pointer (some ⟨w.heap.size, 0, none⟩)], .nilFunc]) (by simp [results, Tryz.results330, go_sem, r0, r1, rl]) rfl ⟨_, rfl, ⟨b7, b8, w3.heap.size, w.heap.size, x7, x8, y8, _, _, rfl, ⟨by omega, by omega, by omega, by omega⟩, ?_, patS_down (patS_keep HP7.out (ho7.mono (fun q _ e => by omega))) (by omega), ?_, const_down (const_keep HC8.out (ho7.mono (fun q _ e => by omega))) (by omega), ?_, field_down (field_keep HF3.out (hol.mono (fun q _ e => by omega))) (by omega), ?_⟩, ?_⟩
    · exact (ho7.block b7 (heap_lt H7.out) (by omega)).trans H7.out
    · exact (ho7.block b8 (heap_lt H8.out) (by omega)).trans H8.out
    · exact new_at2 (by simp) _
    · exact (ho7.block w.heap.size (heap_lt HX0.out) (by omega)).trans HX0.out
    · exact HO.out.trans ho7 (fun q h e => by omega)
end Go.Proofs.YtdbdbaepmdmnfaaGreatDoor

namespace Go.Proofs.YtdbdbaepmdmnfaaGreatDoor
open Go.RowKit
variable {wT : World}
theorem replS_keeps (t s : ByteArray) : KeepsE (ReplS t s) where
  shape := fun B w v h => by
    obtain ⟨b7, b8, b9, b5, x7, x8, y8, x9, y9, rfl, _⟩ := h
    exact ⟨_, _, rfl, rfl, rfl⟩
  keep := fun B w w' v h ho => replS_keep h ho
  down := fun A B w v h hA => replS_down h hA
set_option maxRecDepth 20000 in
set_option maxHeartbeats 4000000 in
/-- The own call split, made, given how it is made of its arguments. -/
theorem own_gsubV (a : Int) (po : Option Addr) (n cap : Nat) (I : Nat → World → Value → Prop) (hI : KeepsE I) (vs vs' : VA) (hM : ∀ kb mv ma mf sg W, MkV wT W kb mv ma mf sg vs → Calls Tryz.prog 330 #[.pointer (some ⟨kb, 0, none⟩), .slice po n cap, .func (.func 332) #[] #[]] W fun en w' => ∃ v, en = .returned v ∧ I W.heap.size w' v ∧ MkV wT w' kb mv ma mf sg vs' ∧ Only (fun q => q = mv ∨ q = ma) W w') (kb mv ma mf sg : Nat) (w : World) (h : MkV wT w kb mv ma mf sg vs) :
    Calls Tryz.prog 222 #[.pointer (some ⟨kb, 0, none⟩), .agg #[.string ⟨#[103, 115, 117, 98]⟩, .int .i64 a, .slice po n cap]] w fun en w' => ∃ v, en = .returned v ∧ I w.heap.size w' v ∧ MkV wT w' kb mv ma mf sg vs' ∧ Only (fun q => q = mv ∨ q = ma) w w' := by
  have hmf := hmfT
  have hsf := hsfT
  have hsn := hsnT
  have hml := heap_lt h.v
  have hkl := heap_lt h.k
  have hal := heap_lt h.a
  have hw0 := h.t.size
  have HR := hide (fun W (hW : Only (fun _ => False) w W) => hM kb mv ma mf sg W (h.calm hW))
  clear h hM
  go_enter Tryz.func222, Tryz.ntmps222
  go_wp2_with fail
  refine (HR.out _ ((onlyA w _).alloc _)).mono ?_
  rintro en w2 ⟨v, rfl, hv, hk, ho⟩
  obtain ⟨x1, y1, rfl, hx1, hy1⟩ := hI.shape _ _ _ hv
  have hb := (ho.block (w.heap.size + 1) (by simp) (by omega)).trans (new_at2 (W := w.alloc _) (by simp) (.cells #[.nilFunc, .nilFunc] 338))
  have r0 : w2.cell? ⟨w.heap.size + 1, 0, none⟩ = some .nilFunc := cell_of hb rfl
  have r1 : w2.cell? ⟨w.heap.size + 1, 1, none⟩ = some .nilFunc := cell_of hb rfl
  have rf := free_of hb
  have rl := heap_lt hb
  have s1 : ∀ (a : Addr) (W : World), (store a x1).run Tryz.prog W = stored Tryz.prog W a x1 .plain := fun a W => run_store _ W a _ _ hx1
  have s2 : ∀ (a : Addr) (W : World), (store a y1).run Tryz.prog W = stored Tryz.prog W a y1 .plain := fun a W => run_store _ W a _ _ hy1
  have HV := hide hv
  have HK := hide hk
  have HO := hide ho
  clear hv ho hb HR hk
  go_wp2
  have hF : Only (fun q => q = w.heap.size + 1) w2 ((w2.setCell ⟨w.heap.size + 1, 0, none⟩ x1).setCell ⟨w.heap.size + 1, 1, none⟩ y1) := ((Only.refl (fun q => q = w.heap.size + 1) w2).setCell (p := ⟨w.heap.size + 1, 0, none⟩) (fun _ => rfl) _).setCell (p := ⟨w.heap.size + 1, 1, none⟩) (fun _ => rfl) _
  refine bodyPost_ret (v := .agg #[x1, y1]) (by simp [results, Tryz.results222, go_sem, r0, r1]) rfl ⟨_, rfl, hI.down _ _ _ _ (hI.keep _ _ _ _ HV.out (hF.mono (fun i _ e => by rw [e]; simp))) (by simp; omega), HK.out.far hF (by omega) (by omega) (by omega) (by omega), ?_⟩
  exact only_box ((onlyA w _).alloc _) HO.out hF (by omega)
theorem makesE_gsub (S R : ByteArray) (a : Int) (vs : VA) (g cap : Nat) (hg : g < wT.heap.size) (e0 : wT.cell? ⟨g, 0, none⟩ = some (strT S)) (e1 : wT.cell? ⟨g, 1, none⟩ = some (strT R)) : MakesE wT (.iface 312 (.agg #[.string gsubr, .int .i64 a, .slice (some ⟨g, 0, none⟩) 2 cap])) (ReplS S R) vs vs :=
  mkx_own gsubr a _ 2 cap (ReplS S R) (replS_keeps S R) vs vs (fun kb mv ma mf sg W hW => own_gsubV a _ 2 cap (ReplS S R) (replS_keeps S R) vs vs (fun kb _ _ _ _ W hW => (replS_made (some ⟨kb, 0, none⟩) S R g cap W (Nat.lt_of_lt_of_le hg hW.t.size) ((hW.t.cell (p := ⟨g, 0, none⟩) hg (fun e => e)).trans e0) ((hW.t.cell (p := ⟨g, 1, none⟩) hg (fun e => e)).trans e1)).mono (fun _ _ ⟨v, e, hv, ho⟩ => ⟨v, e, hv, hW.calm ho, ho.mono (fun _ _ e => e.elim)⟩)) kb mv ma mf sg W hW)
end Go.Proofs.YtdbdbaepmdmnfaaGreatDoor

