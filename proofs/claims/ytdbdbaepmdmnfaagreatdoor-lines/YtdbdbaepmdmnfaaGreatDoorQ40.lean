import Derived.Test.YtdbdbaepmdmnfaaGreatDoorProg
import Derived.Test.YtdbdbaepmdmnfaaGreatDoorQ39
import Derived.Test.YtdbdbaepmdmnfaaGreatDoorQ33
import Derived.Test.YtdbdbaepmdmnfaaGreatDoorQ31
import Derived.Shelf.Strings.Builder1
import Derived.Shelf.Strings.Builder2
import Derived.Shelf.Small.Wraps
import Derived.Shelf.Strings.BuilderF
import Derived.Shelf.Strconv.Itoa0
import Derived.Shelf.Strconv.Itoa1
import Derived.Shelf.LaysM
import Derived.Shelf.Strconv.Itoa2
import Derived.Shelf.Strconv.Itoa3
import Derived.Shelf.Strconv.Itoa4
import Derived.Shelf.Strings.Prefix
import Derived.Shelf.Bits.Mul64
import Derived.Shelf.Strings.Repeat
namespace Go.Proofs
open Go.Shelf
def Tryz.laysM173_ren : Go.Shelf.Ren := ⟨fun | 173 => 153 | 246 => 203 | 283 => 263 | 284 => 264 | 285 => 265 | 286 => 266 | 129 => 199 | 317 => 364 | 318 => 365 | 319 => 366 | 320 => 367 | 337 => 429 | 338 => 430 | n => n, fun | 2 => 2 | 3 => 3 | 9 => 9 | 4 => 4 | 171 => 415 | 0 => 0 | 53 => 113 | 37 => 54 | 5 => 5 | 173 => 417 | 212 => 488 | 51 => 327 | 20 => 20 | 213 => 489 | 46 => 241 | 232 => 528 | 233 => 529 | n => n, fun | 17 => 9 | 18 => 10 | 19 => 11 | n => n⟩
theorem Tryz.laysM173 : Go.Proofs.LaysM.n173 Tryz.prog Tryz.laysM173_ren := {
  mixed := by kernel_rfl
  f129 := Tryz.func199.trans (congrArg some (by kernel_rfl))
  f173 := Tryz.func153.trans (congrArg some (by kernel_rfl))
  f246 := Tryz.func203.trans (congrArg some (by kernel_rfl))
  f283 := Tryz.func263.trans (congrArg some (by kernel_rfl))
  f284 := Tryz.func264.trans (congrArg some (by kernel_rfl))
  f285 := Tryz.func265.trans (congrArg some (by kernel_rfl))
  f286 := Tryz.func266.trans (congrArg some (by kernel_rfl))
  f317 := Tryz.func364.trans (congrArg some (by kernel_rfl))
  f318 := Tryz.func365.trans (congrArg some (by kernel_rfl))
  f319 := Tryz.func366.trans (congrArg some (by kernel_rfl))
  f320 := Tryz.func367.trans (congrArg some (by kernel_rfl))
  f337 := Tryz.func429.trans (congrArg some (by kernel_rfl))
  f338 := Tryz.func430.trans (congrArg some (by kernel_rfl))
  t0 := Tryz.underlying0
  a0 := Tryz.isAgg0
  z0 := Tryz.sizeOf0
  v0 := Tryz.zeroValue0
  t2 := Tryz.underlying2
  a2 := Tryz.isAgg2
  z2 := Tryz.sizeOf2
  v2 := Tryz.zeroValue2
  t3 := Tryz.underlying3
  a3 := Tryz.isAgg3
  z3 := Tryz.sizeOf3
  v3 := Tryz.zeroValue3
  t4 := Tryz.underlying4
  a4 := Tryz.isAgg4
  z4 := Tryz.sizeOf4
  v4 := Tryz.zeroValue4
  t5 := Tryz.underlying5
  a5 := Tryz.isAgg5
  z5 := Tryz.sizeOf5
  v5 := Tryz.zeroValue5
  t9 := Tryz.underlying9
  a9 := Tryz.isAgg9
  z9 := Tryz.sizeOf9
  v9 := Tryz.zeroValue9
  t20 := Tryz.underlying20
  a20 := Tryz.isAgg20
  z20 := Tryz.sizeOf20
  v20 := Tryz.zeroValue20
  t37 := Tryz.underlying54
  a37 := Tryz.isAgg54
  z37 := Tryz.sizeOf54
  v37 := Tryz.zeroValue54
  t46 := Tryz.underlying241
  a46 := Tryz.isAgg241
  z46 := Tryz.sizeOf241
  v46 := Tryz.zeroValue241
  t51 := Tryz.underlying327
  a51 := Tryz.isAgg327
  z51 := Tryz.sizeOf327
  v51 := Tryz.zeroValue327
  t53 := Tryz.underlying113
  a53 := Tryz.isAgg113
  z53 := Tryz.sizeOf113
  v53 := Tryz.zeroValue113
  t171 := Tryz.underlying415
  a171 := Tryz.isAgg415
  z171 := Tryz.sizeOf415
  v171 := Tryz.zeroValue415
  t173 := Tryz.underlying417
  a173 := Tryz.isAgg417
  z173 := Tryz.sizeOf417
  v173 := Tryz.zeroValue417
  t212 := Tryz.underlying488
  a212 := Tryz.isAgg488
  z212 := Tryz.sizeOf488
  v212 := Tryz.zeroValue488
  t213 := Tryz.underlying489
  a213 := Tryz.isAgg489
  z213 := Tryz.sizeOf489
  t232 := Tryz.underlying528
  a232 := Tryz.isAgg528
  z232 := Tryz.sizeOf528
  v232 := Tryz.zeroValue528
  t233 := Tryz.underlying529
  a233 := Tryz.isAgg529
  z233 := Tryz.sizeOf529
  v233 := Tryz.zeroValue529
  g17 := by kernel_rfl
  g18 := by kernel_rfl
  g19 := by kernel_rfl
  i0 := by kernel_rfl
  i2 := by kernel_rfl
  i3 := by kernel_rfl
  i4 := by kernel_rfl
  i5 := by kernel_rfl
  i9 := by kernel_rfl
  i20 := by kernel_rfl
  i37 := by kernel_rfl
  i46 := by kernel_rfl
  i51 := by kernel_rfl
  i53 := by kernel_rfl
  i171 := by kernel_rfl
  i173 := by kernel_rfl
  i212 := by kernel_rfl
  i232 := by kernel_rfl
  i233 := by kernel_rfl
  m17 := by kernel_rfl
  m18 := by kernel_rfl
  m19 := by kernel_rfl }
open Go.RowKit Go.Sort Go.Lib in
theorem Tryz.strconv_FormatInt_10 (n : Int) (h0 : -9223372036854775808 ≤ n) (h1 : n ≤ 9223372036854775807) (w : World) (htab : Lib.TabIs Tryz.prog w "internal/strconv.uint64pow10" .u64 Lib.pow10Tab) :
    Calls Tryz.prog 153 #[.int .i64 n, .int .i64 10] w fun e w' => e = .returned (.string ⟨(Lib.itoa n).toArray⟩) ∧ ∃ k os, w' = grow (w.drewN k) os := Any.strconv_FormatInt_10 Tryz.laysM173 n h0 h1 w htab
def Tryz.lays212_ren : Go.Shelf.Ren := ⟨fun | 212 => 123 | 263 => 159 | 264 => 160 | n => n, fun | 46 => 241 | 51 => 327 | 146 => 328 | 53 => 113 | 148 => 330 | n => n, fun | n => n⟩
theorem Tryz.lays212 : Go.Proofs.Lays.n212 Tryz.prog Tryz.lays212_ren := {
  mixed := by kernel_rfl
  f212 := Tryz.func123.trans (congrArg some (by kernel_rfl))
  f263 := Tryz.func159.trans (congrArg some (by kernel_rfl))
  f264 := Tryz.func160.trans (congrArg some (by kernel_rfl))
  t46 := Tryz.underlying241
  a46 := Tryz.isAgg241
  z46 := Tryz.sizeOf241
  v46 := Tryz.zeroValue241
  t51 := Tryz.underlying327
  a51 := Tryz.isAgg327
  z51 := Tryz.sizeOf327
  v51 := Tryz.zeroValue327
  t53 := Tryz.underlying113
  a53 := Tryz.isAgg113
  z53 := Tryz.sizeOf113
  v53 := Tryz.zeroValue113
  t146 := Tryz.underlying328
  a146 := Tryz.isAgg328
  z146 := Tryz.sizeOf328
  v146 := Tryz.zeroValue328
  t148 := Tryz.underlying330
  a148 := Tryz.isAgg330
  z148 := Tryz.sizeOf330
  v148 := Tryz.zeroValue330 }
open Go.RowKit Go.Lib in
theorem Tryz.bits_Mul (x y : Nat) (hx : x < 18446744073709551616) (hy : y < 18446744073709551616) (w : World) :
    Calls Tryz.prog 123 #[.int .u64 x, .int .u64 y] w fun e w' => e = .returned (.tuple #[.int .u64 ((x * y / 18446744073709551616 : Nat) : Int), .int .u64 ((x * y % 18446744073709551616 : Nat) : Int)]) ∧ w' = w := Any.bits_Mul Tryz.lays212 x y hx hy w
end Go.Proofs
namespace Go.Proofs.YtdbdbaepmdmnfaaGreatDoor
open Go.RowKit
theorem only_grow (w : World) (k : Nat) (os : Array Obj) : Only (fun _ => False) w (Sort.grow (w.drewN k) os) :=
  ⟨rfl, rfl, rfl, by show w.heap.size ≤ (w.heap ++ os).size; rw [Array.size_append]; omega, fun i hi _ => by show (w.heap ++ os)[i]? = _; rw [Array.getElem?_append_left hi]⟩
theorem tab_only {P : Program} {w w' : World} {name : String} {k : IntKind} {zs : List Int} (h : Lib.TabIs P w name k zs) (ho : Only (fun _ => False) w w') : Lib.TabIs P w' name k zs := by
  unfold Lib.TabIs World.var? at *
  cases hg : P.globalNamed name with
  | none => simp [hg] at h
  | some g =>
    simp only [hg, Option.bind_some] at h ⊢
    have hlt : g < w.heap.size := by
      rcases Nat.lt_or_ge g w.heap.size with h' | h'
      · exact h'
      · rw [Array.getElem?_eq_none h'] at h; simp at h
    rw [ho.block g hlt (fun e => e)]
    exact h
set_option maxRecDepth 20000 in
set_option maxHeartbeats 1000000 in
theorem text_num (k : Nat) (hk : k ≤ 100000) (s : ByteArray) (w : World) (htab : Lib.TabIs Tryz.prog w "internal/strconv.uint64pow10" .u64 Lib.pow10Tab) :
    Calls Tryz.prog 235 #[.agg #[.int .i64 1, .int .i64 k, .string s]] w fun e w' => e = .returned (.string ⟨(Lib.itoa k).toArray⟩) ∧ Only (fun _ => False) w w' := by
  have HF := hide (fun W h => Tryz.strconv_FormatInt_10 (k : Int) (by omega) (by omega) W h)
  have HT := hide (tab_only htab (onlyA w (.cells #[.int .i64 1, .int .i64 k, .string s] 203)))
  clear htab
  go_enter Tryz.func235, Tryz.ntmps235
  go_wp2_with (go_at_call 153; refine (HF.out _ HT.out).mono ?_; rintro en w2 ⟨rfl, nk, os, hw2⟩; have hO : Only (fun _ => False) w w2 := hw2 ▸ (onlyA w _).trans (only_grow _ nk os) (fun _ _ e => e); have HO := hide hO; clear hw2 hO)
  go_ret
  exact ⟨rfl, HO.out⟩
theorem cf291 (args : Array Value) (w : World) : (callFunc 307 args).run Tryz.prog w = .ok (.enter 307 args) w := callFunc_in Tryz.func307 (by kernel_rfl) rfl args w
theorem cf292 (args : Array Value) (w : World) : (callFunc 308 args).run Tryz.prog w = .ok (.enter 308 args) w := callFunc_in Tryz.func308 (by kernel_rfl) rfl args w
theorem cf370 (args : Array Value) (w : World) : (callFunc 386 args).run Tryz.prog w = .ok (.enter 386 args) w := callFunc_in Tryz.func386 (by kernel_rfl) rfl args w
set_option maxRecDepth 20000 in
set_option maxHeartbeats 1000000 in
theorem variable_do (m ab vb : Nat) (txt : ByteArray) (flds lst : Value) (size n code : Nat) (k : Int) (s : ByteArray) (w : World) (h : MAt w m ab vb txt flds lst size n code) (h0 : w.cell? ⟨vb, 0, none⟩ = some (.int .i64 1)) (h1 : w.cell? ⟨vb, 1, none⟩ = some (.int .i64 k)) (h2 : w.cell? ⟨vb, 2, none⟩ = some (.string s)) :
    Calls Tryz.prog 309 #[.pointer (some ⟨m, 0, none⟩), .int .i64 0] w fun en w' => en = .returned (.agg #[.int .i64 1, .int .i64 k, .string s]) ∧ Only (fun _ => False) w w' := by
  have c1 : w.cell? ⟨m, 1, none⟩ = some (.slice (some ⟨vb, 0, none⟩) 7 7) := cell_of h rfl
  have ml := heap_lt h
  have vl := World.block_lt_of_cell? w ⟨vb, 0, none⟩ h0
  simp only at vl
  clear h
  go_enter Tryz.func309, Tryz.ntmps309
  go_wp2
  refine bodyPost_ret (v := .agg #[.int .i64 1, .int .i64 k, .string s]) (by simp [results, Tryz.results309, go_sem]) rfl ⟨rfl, ?_⟩
  exact onlyA w _
set_option maxRecDepth 20000 in
set_option maxHeartbeats 1000000 in
theorem vtake_do (b2 nb m ab vb : Nat) (txt : ByteArray) (flds lst : Value) (size n code : Nat) (k : Int) (s : ByteArray) (w : World) (h : MAt w m ab vb txt flds lst size n code) (h0 : w.cell? ⟨vb, 0, none⟩ = some (.int .i64 1)) (h1 : w.cell? ⟨vb, 1, none⟩ = some (.int .i64 k)) (h2 : w.cell? ⟨vb, 2, none⟩ = some (.string s)) (e2 : w.cell? ⟨b2, 0, none⟩ = some (.pointer (some ⟨m, 0, none⟩))) (e4 : w.cell? ⟨nb, 0, none⟩ = some (.int .i64 0)) :
    Calls Tryz.prog 308 #[.pointer (some ⟨b2, 0, none⟩), .pointer (some ⟨nb, 0, none⟩)] w fun en w' => en = .returned (.agg #[.int .i64 1, .int .i64 k, .string s]) ∧ Only (fun _ => False) w w' := by
  have vl := World.block_lt_of_cell? w ⟨vb, 0, none⟩ h0
  have l2 := World.block_lt_of_cell? w ⟨b2, 0, none⟩ e2
  have l4 := World.block_lt_of_cell? w ⟨nb, 0, none⟩ e4
  simp only at vl l2 l4
  have HR := hide (variable_do m ab vb txt flds lst size n code k s (w.alloc (.cells #[.int .i64 0, .int .i64 0, .string ⟨#[]⟩] 203)) (h.only (onlyA w _) (fun e => e)) (past h0 _) (past h1 _) (past h2 _))
  clear h h0 h1 h2
  go_enter Tryz.func308, Tryz.ntmps308
  go_wp2_with fail
  refine (HR.out).mono ?_
  rintro en w2 ⟨rfl, ho⟩
  have hb0 := (ho.block w.heap.size (by simp) (fun e => e)).trans (new0 w _)
  have r0 : w2.cell? ⟨w.heap.size, 0, none⟩ = some (.int .i64 0) := cell_of hb0 rfl
  have r1 : w2.cell? ⟨w.heap.size, 1, none⟩ = some (.int .i64 0) := cell_of hb0 rfl
  have r2 : w2.cell? ⟨w.heap.size, 2, none⟩ = some (.string ⟨#[]⟩) := cell_of hb0 rfl
  have rf := free_of hb0
  have rl := heap_lt hb0
  have HO := hide ho
  clear ho hb0 HR
  go_wp2
  refine bodyPost_ret (v := .agg #[.int .i64 1, .int .i64 k, .string s]) (by simp [results, Tryz.results308, go_sem, r0, r1, r2]) rfl ⟨rfl, ?_⟩
  exact ((((onlyA w _).trans HO.out (fun _ _ e => e)).setCell (p := ⟨w.heap.size, 0, none⟩) (fun h => absurd h (by show ¬ w.heap.size < w.heap.size; omega)) _).setCell (p := ⟨w.heap.size, 1, none⟩) (fun h => absurd h (by show ¬ w.heap.size < w.heap.size; omega)) _).setCell (p := ⟨w.heap.size, 2, none⟩) (fun h => absurd h (by show ¬ w.heap.size < w.heap.size; omega)) _
set_option maxRecDepth 20000 in
set_option maxHeartbeats 1000000 in
theorem vfind_do (m nb : Nat) (w : World) :
    Calls Tryz.prog 307 #[.pointer (some ⟨m, 0, none⟩), .pointer (some ⟨nb, 0, none⟩)] w fun en w' => en = .returned (.agg #[.func (.func 308) #[] #[.pointer (some ⟨w.heap.size, 0, none⟩), .pointer (some ⟨nb, 0, none⟩)], .func (.func 310) #[] #[.pointer (some ⟨w.heap.size, 0, none⟩), .pointer (some ⟨nb, 0, none⟩)]]) ∧ w'.heap[w.heap.size]? = some (.cells #[.pointer (some ⟨m, 0, none⟩)] 130 (0, 0)) ∧ Only (fun _ => False) w w' := by
  have hmf := hmfT
  have hsf := hsfT
  have hsn := hsnT
  go_enter Tryz.func307, Tryz.ntmps307
  go_wp2
  refine bodyPost_ret (v := .agg #[.func (.func 308) #[] #[.pointer (some ⟨w.heap.size, 0, none⟩), .pointer (some ⟨nb, 0, none⟩)], .func (.func 310) #[] #[.pointer (some ⟨w.heap.size, 0, none⟩), .pointer (some ⟨nb, 0, none⟩)]]) (by simp [results, Tryz.results307, go_sem]) rfl ⟨rfl, ?_, ?_⟩
  · exact (Below.heap_alloc _ _ _ (by simp)).trans (new0 w _)
  · exact (onlyA w _).alloc _
set_option maxRecDepth 100000 in
theorem fld428 (F G : Nat) (a b c d : Value) (w : World) : (Instr.field 436 (.agg #[.func (.func F) #[] #[a, b], .func (.func G) #[] #[c, d]]) 0).run Tryz.prog w = .ok (.func (.func F) #[] #[a, b]) w := by kernel_rfl
set_option maxRecDepth 20000 in
set_option maxHeartbeats 1000000 in
theorem vwork_do (g nb m ab vb : Nat) (txt : ByteArray) (flds lst : Value) (size n code : Nat) (k : Int) (s : ByteArray) (w : World) (h : MAt w m ab vb txt flds lst size n code) (h0 : w.cell? ⟨vb, 0, none⟩ = some (.int .i64 1)) (h1 : w.cell? ⟨vb, 1, none⟩ = some (.int .i64 k)) (h2 : w.cell? ⟨vb, 2, none⟩ = some (.string s)) (eg : w.cell? ⟨g, 0, none⟩ = some (.func (.func 307) #[] #[.pointer (some ⟨nb, 0, none⟩)])) (e4 : w.cell? ⟨nb, 0, none⟩ = some (.int .i64 0)) :
    Calls Tryz.prog 386 #[.pointer (some ⟨m, 0, none⟩), .pointer (some ⟨g, 0, none⟩)] w fun en w' => en = .returned (.agg #[.int .i64 1, .int .i64 k, .string s]) ∧ Only (fun _ => False) w w' := by
  have vl := World.block_lt_of_cell? w ⟨vb, 0, none⟩ h0
  have l2 := World.block_lt_of_cell? w ⟨g, 0, none⟩ eg
  have l4 := World.block_lt_of_cell? w ⟨nb, 0, none⟩ e4
  simp only at vl l2 l4
  have hcf := cf291
  have hcf2 := cf292
  have hfl := fld428
  have HF := hide (vfind_do m nb)
  have HTk : Hid (∀ W b2, Only (fun _ => False) w W → W.cell? ⟨b2, 0, none⟩ = some (.pointer (some ⟨m, 0, none⟩)) → Calls Tryz.prog 308 #[.pointer (some ⟨b2, 0, none⟩), .pointer (some ⟨nb, 0, none⟩)] W fun en w' => en = .returned (.agg #[.int .i64 1, .int .i64 k, .string s]) ∧ Only (fun _ => False) W w') := hide (fun W b2 hW e2 => vtake_do b2 nb m ab vb txt flds lst size n code k s W (h.only hW (fun e => e)) ((hW.cell (p := ⟨vb, 0, none⟩) vl (fun e => e)).trans h0) ((hW.cell (p := ⟨vb, 1, none⟩) vl (fun e => e)).trans h1) ((hW.cell (p := ⟨vb, 2, none⟩) vl (fun e => e)).trans h2) e2 ((hW.cell (p := ⟨nb, 0, none⟩) l4 (fun e => e)).trans e4))
  clear h h0 h1 h2
  go_enter Tryz.func386, Tryz.ntmps386
  go_wp2_with fail
  refine (HF.out _).mono ?_
  rintro en w2 ⟨rfl, hb, ho⟩
  have hO := (onlyA w _).trans ho (fun _ _ e => e)
  have hb' : w2.heap[w.heap.size + 1]? = some (.cells #[.pointer (some ⟨m, 0, none⟩)] 130 (0, 0)) := by simpa using hb
  have HT2 := hide (HTk.out w2 (w.heap.size + 1) hO (cell_of hb' rfl))
  have hb0 := (ho.block w.heap.size (by simp) (fun e => e)).trans (new0 w _)
  have HB0 := hide hb0
  have HO := hide hO
  clear hb hb' hO ho hb0 HTk
  go_wp2_with fail
  refine (HT2.out).mono ?_
  rintro en w3 ⟨rfl, ho3⟩
  have hb3 := (ho3.block w.heap.size (heap_lt HB0.out) (fun e => e)).trans HB0.out
  have r0 : w3.cell? ⟨w.heap.size, 0, none⟩ = some (.int .i64 0) := cell_of hb3 rfl
  have r1 : w3.cell? ⟨w.heap.size, 1, none⟩ = some (.int .i64 0) := cell_of hb3 rfl
  have r2 : w3.cell? ⟨w.heap.size, 2, none⟩ = some (.string ⟨#[]⟩) := cell_of hb3 rfl
  have rf := free_of hb3
  have rl := heap_lt hb3
  have HO3 := hide (HO.out.trans ho3 (fun _ _ e => e))
  clear ho3 hb3 HT2
  go_wp2
  refine bodyPost_ret (v := .agg #[.int .i64 1, .int .i64 k, .string s]) (by simp [results, Tryz.results386, go_sem, r0, r1, r2]) rfl ⟨rfl, ?_⟩
  exact ((HO3.out.setCell (p := ⟨w.heap.size, 0, none⟩) (fun h => absurd h (by show ¬ w.heap.size < w.heap.size; omega)) _).setCell (p := ⟨w.heap.size, 1, none⟩) (fun h => absurd h (by show ¬ w.heap.size < w.heap.size; omega)) _).setCell (p := ⟨w.heap.size, 2, none⟩) (fun h => absurd h (by show ¬ w.heap.size < w.heap.size; omega)) _
end Go.Proofs.YtdbdbaepmdmnfaaGreatDoor
