import Derived.Test.YtdbdbaepmdmnfaaGreatDoorZ22
import Derived.Test.YtdbdbaepmdmnfaaGreatDoorZ17
import Derived.Test.YtdbdbaepmdmnfaaGreatDoorZ29
import Derived.Laws.OwnMore
import Derived.Test.YtdbdbaepmdmnfaaGreatDoorZ13
import Derived.Deep.RegionHeld3
namespace Go.Proofs.YtdbdbaepmdmnfaaGreatDoor
open Go.RowKit
/-- A function enters. -/
def Enters (F : Nat) : Prop := ∀ (args : Array Value) (w : World), (callFunc F args).run Tryz.prog w = .ok (.enter F args) w
/-- An expression's function works a value out, and turns nothing. -/
def Gives (p : Pl8) (s : St8) (x r : Value) : Prop := ∃ (F : Nat) (caps : List Value), x = .func (.func F) #[] caps.toArray ∧ Enters F ∧ ∀ W, On8 p s W → Calls Tryz.prog F (.pointer (some ⟨p.m, 0, none⟩) :: caps).toArray W fun en w' => en = .returned r ∧ Only (fun _ => False) W w'
/-- A place that was found: what takes and what stores, by the number k. -/
def PlaceK (p : Pl8) (ft fst k : Nat) (W : World) (tk st : Value) : Prop := ∃ b2 nb, tk = .func (.func ft) #[] #[.pointer (some ⟨b2, 0, none⟩), .pointer (some ⟨nb, 0, none⟩)] ∧ st = .func (.func fst) #[] #[.pointer (some ⟨b2, 0, none⟩), .pointer (some ⟨nb, 0, none⟩)] ∧ W.heap[b2]? = some (.cells #[.pointer (some ⟨p.m, 0, none⟩)] 130 (0, 0)) ∧ W.heap[nb]? = some (.cells #[.int .i64 k] 3 (0, 0))
theorem PlaceK.calm {p : Pl8} {ft fst k : Nat} {W W' : World} {tk st : Value} (h : PlaceK p ft fst k W tk st) (ho : Only (fun _ => False) W W') : PlaceK p ft fst k W' tk st := by
  obtain ⟨b2, nb, e1, e2, h1, h2⟩ := h
  exact ⟨b2, nb, e1, e2, (ho.block b2 (heap_lt h1) (fun e => e)).trans h1, (ho.block nb (heap_lt h2) (fun e => e)).trans h2⟩
/-- An expression's function finds the place of the number k. -/
def FindsK (p : Pl8) (s : St8) (ft fst k : Nat) (y : Value) : Prop := ∃ (F : Nat) (caps : List Value), y = .func (.func F) #[] caps.toArray ∧ Enters F ∧ ∀ W, On8 p s W → Calls Tryz.prog F (.pointer (some ⟨p.m, 0, none⟩) :: caps).toArray W fun en w' => ∃ tk st, en = .returned (.agg #[tk, st]) ∧ PlaceK p ft fst k w' tk st ∧ Only (fun _ => False) W w'
/-- Taking from that place. -/
def TakesK (p : Pl8) (s : St8) (ft k : Nat) (a n : Int) (t : ByteArray) : Prop := Enters ft ∧ ∀ W b2 nb, On8 p s W → W.heap[b2]? = some (.cells #[.pointer (some ⟨p.m, 0, none⟩)] 130 (0, 0)) → W.heap[nb]? = some (.cells #[.int .i64 k] 3 (0, 0)) → Calls Tryz.prog ft #[.pointer (some ⟨b2, 0, none⟩), .pointer (some ⟨nb, 0, none⟩)] W fun en w' => en = .returned (.agg #[.int .i64 a, .int .i64 n, .string t]) ∧ Only (fun _ => False) W w'
set_option maxRecDepth 20000 in
set_option maxHeartbeats 1000000 in
theorem variable_on (p : Pl8) (s : St8) (j : Nat) (hj : j < 8) (a n : Int) (t : ByteArray) (h0 : s.cs[j * 3]? = some (.int .i64 a)) (h1 : s.cs[j * 3 + 1]? = some (.int .i64 n)) (h2 : s.cs[j * 3 + 2]? = some (.string t)) (w : World) (h : On8 p s w) :
    Calls Tryz.prog 309 #[.pointer (some ⟨p.m, 0, none⟩), .int .i64 j] w fun en w' => en = .returned (.agg #[.int .i64 a, .int .i64 n, .string t]) ∧ Only (fun _ => False) w w' := by
  obtain ⟨fv, hM, _⟩ := h.M
  have c1 : w.cell? ⟨p.m, 1, none⟩ = some (.slice (some ⟨p.vb, 0, none⟩) 8 8) := cell_of hM rfl
  have ml := heap_lt hM
  have v0 := h.V.cell h0
  have v1 := h.V.cell h1
  have v2 := h.V.cell h2
  have vl := heap_lt h.V
  have hli : 0 ≤ (j : Int) ∧ (j : Int) < 8 := by omega
  clear h hM h0 h1 h2
  go_enter Tryz.func309, Tryz.ntmps309
  go_wp2
  refine bodyPost_ret (v := .agg #[.int .i64 a, .int .i64 n, .string t]) (by simp [results, Tryz.results309, go_sem]) rfl ⟨rfl, ?_⟩
  exact onlyA w _
set_option maxRecDepth 20000 in
set_option maxHeartbeats 1000000 in
theorem takes_var (p : Pl8) (s : St8) (j : Nat) (hj : j < 8) (a n : Int) (t : ByteArray) (h0 : s.cs[j * 3]? = some (.int .i64 a)) (h1 : s.cs[j * 3 + 1]? = some (.int .i64 n)) (h2 : s.cs[j * 3 + 2]? = some (.string t)) : TakesK p s 308 j a n t := by
  refine ⟨cf292, fun w b2 nb h e2 e4 => ?_⟩
  have l2 := heap_lt e2
  have l4 := heap_lt e4
  have c2 : w.cell? ⟨b2, 0, none⟩ = some (.pointer (some ⟨p.m, 0, none⟩)) := cell_of e2 rfl
  have c4 : w.cell? ⟨nb, 0, none⟩ = some (.int .i64 j) := cell_of e4 rfl
  have HR := hide (variable_on p s j hj a n t h0 h1 h2 _ (h.calm (onlyA w (.cells #[.int .i64 0, .int .i64 0, .string ⟨#[]⟩] 203))))
  clear h h0 h1 h2 e2 e4
  go_enter Tryz.func308, Tryz.ntmps308
  go_wp2_with fail
  refine (HR.out).mono ?_
  rintro en w2 ⟨rfl, ho⟩
  have hb0 := (ho.block w.heap.size (by simp) (fun e => e)).trans (new0 w _)
  have r0 : w2.cell? ⟨w.heap.size, 0, none⟩ = some (.int .i64 0) := cell_of hb0 rfl
  have r1 : w2.cell? ⟨w.heap.size, 1, none⟩ = some (.int .i64 0) := cell_of hb0 rfl
  have r2 : w2.cell? ⟨w.heap.size, 2, none⟩ = some (.string ⟨#[]⟩) := cell_of hb0 rfl
  have rf := free_of hb0
  have rl := heap_lt hb0
  have HO := hide ho
  clear ho hb0 HR
  go_wp2
  refine bodyPost_ret (v := .agg #[.int .i64 a, .int .i64 n, .string t]) (by simp [results, Tryz.results308, go_sem, r0, r1, r2]) rfl ⟨rfl, ?_⟩
  exact ((((onlyA w _).trans HO.out (fun _ _ e => e)).setCell (p := ⟨w.heap.size, 0, none⟩) (fun h => absurd h (by show ¬ w.heap.size < w.heap.size; omega)) _).setCell (p := ⟨w.heap.size, 1, none⟩) (fun h => absurd h (by show ¬ w.heap.size < w.heap.size; omega)) _).setCell (p := ⟨w.heap.size, 2, none⟩) (fun h => absurd h (by show ¬ w.heap.size < w.heap.size; omega)) _
/-- What was made of a name finds its place. -/
theorem finds_var (p : Pl8) (s : St8) (k B : Nat) (x y : Value) (h : VarK k B p.wN (.agg #[x, y])) : FindsK p s 308 310 k y := by
  obtain ⟨g, nb, e, _, _, _, hnb⟩ := h
  have hy : y = .func (.func 307) #[] #[.pointer (some ⟨nb, 0, none⟩)] := by injection e with e; have := congrArg (fun a => a[1]?) e; simpa using this
  refine ⟨307, [.pointer (some ⟨nb, 0, none⟩)], hy, cf291, fun W hW => ?_⟩
  refine (vfind_do p.m nb W).mono ?_
  rintro en w' ⟨e, hb, ho⟩
  exact ⟨_, _, e, ⟨_, _, rfl, rfl, hb, (ho.block nb (Nat.lt_of_lt_of_le (heap_lt hnb) hW.O.size) (fun e => e)).trans ((hW.O.block nb (heap_lt hnb) (fun e => e)).trans hnb)⟩, ho⟩
set_option maxRecDepth 20000 in
set_option maxHeartbeats 1000000 in
/-- What was found is taken. -/
theorem found_on (p : Pl8) (s : St8) (ft fst k g : Nat) (y : Value) (a n : Int) (t : ByteArray) (hF : FindsK p s ft fst k y) (hT : TakesK p s ft k a n t) (hg : p.wN.heap[g]? = some (.cells #[y] 336 (0, 0))) : Gives p s (.func (.func 386) #[] #[.pointer (some ⟨g, 0, none⟩)]) (.agg #[.int .i64 a, .int .i64 n, .string t]) := by
  refine ⟨386, [.pointer (some ⟨g, 0, none⟩)], rfl, cf370, fun w h => ?_⟩
  obtain ⟨F, caps, rfl, hcf, hF⟩ := hF
  obtain ⟨hcf2, hT⟩ := hT
  have hgw := (h.O.block g (heap_lt hg) (fun e => e)).trans hg
  have eg : w.cell? ⟨g, 0, none⟩ = some (.func (.func F) #[] caps.toArray) := cell_of hgw rfl
  have gl := heap_lt hgw
  have hfl := fld428
  have HF := hide (hF _ (h.calm (onlyA w (.cells #[.int .i64 0, .int .i64 0, .string ⟨#[]⟩] 203))))
  have HT := hide (fun W b2 nb (hW : Only (fun _ => False) w W) => hT W b2 nb (h.calm hW))
  unfold Enters at hcf hcf2
  clear h hgw hF hT
  go_enter Tryz.func386, Tryz.ntmps386
  go_wp2_with fail
  refine (HF.out).mono ?_
  rintro en w2 ⟨tk, st, rfl, ⟨b2, nb, rfl, rfl, hb2, hnb⟩, ho⟩
  have hO := (onlyA w _).trans ho (fun _ _ e => e)
  have HT2 := hide (HT.out w2 b2 nb hO hb2 hnb)
  have hb0 := (ho.block w.heap.size (by simp) (fun e => e)).trans (new0 w _)
  have HB0 := hide hb0
  have HO := hide hO
  clear hb2 hnb hO ho hb0 HT
  go_wp2_with fail
  refine (HT2.out).mono ?_
  rintro en w3 ⟨rfl, ho3⟩
  have hb3 := (ho3.block w.heap.size (heap_lt HB0.out) (fun e => e)).trans HB0.out
  have r0 : w3.cell? ⟨w.heap.size, 0, none⟩ = some (.int .i64 0) := cell_of hb3 rfl
  have r1 : w3.cell? ⟨w.heap.size, 1, none⟩ = some (.int .i64 0) := cell_of hb3 rfl
  have r2 : w3.cell? ⟨w.heap.size, 2, none⟩ = some (.string ⟨#[]⟩) := cell_of hb3 rfl
  have rf := free_of hb3
  have rl := heap_lt hb3
  have HO3 := hide (HO.out.trans ho3 (fun _ _ e => e))
  clear ho3 hb3 HT2
  go_wp2
  refine bodyPost_ret (v := .agg #[.int .i64 a, .int .i64 n, .string t]) (by simp [results, Tryz.results386, go_sem, r0, r1, r2]) rfl ⟨rfl, ?_⟩
  exact ((HO3.out.setCell (p := ⟨w.heap.size, 0, none⟩) (fun h => absurd h (by show ¬ w.heap.size < w.heap.size; omega)) _).setCell (p := ⟨w.heap.size, 1, none⟩) (fun h => absurd h (by show ¬ w.heap.size < w.heap.size; omega)) _).setCell (p := ⟨w.heap.size, 2, none⟩) (fun h => absurd h (by show ¬ w.heap.size < w.heap.size; omega)) _
/-- What was made of a name works its value out. -/
theorem gives_var (p : Pl8) (s : St8) (k B : Nat) (x y : Value) (h : VarK k B p.wN (.agg #[x, y])) (hk : k < 8) (a n : Int) (t : ByteArray) (h0 : s.cs[k * 3]? = some (.int .i64 a)) (h1 : s.cs[k * 3 + 1]? = some (.int .i64 n)) (h2 : s.cs[k * 3 + 2]? = some (.string t)) : Gives p s x (.agg #[.int .i64 a, .int .i64 n, .string t]) := by
  have hf := finds_var p s k B x y h
  obtain ⟨g, nb, e, _, _, hg, _⟩ := h
  have hx : x = .func (.func 386) #[] #[.pointer (some ⟨g, 0, none⟩)] := by injection e with e; have := congrArg (fun a => a[0]?) e; simpa using this
  have hy : y = .func (.func 307) #[] #[.pointer (some ⟨nb, 0, none⟩)] := by injection e with e; have := congrArg (fun a => a[1]?) e; simpa using this
  rw [hx]
  exact found_on p s 308 310 k g y a n t hf (takes_var p s k hk a n t h0 h1 h2) (by rw [hy]; exact hg)
/-- A number works itself out. -/
theorem gives_num (p : Pl8) (s : St8) (B : Nat) (n : Int) (x y : Value) (h : ConstE B p.wN (.agg #[x, y]) 1 n ⟨#[]⟩) : Gives p s x (.agg #[.int .i64 1, .int .i64 n, .string ⟨#[]⟩]) := by
  obtain ⟨c, e, _, hc⟩ := h
  have hx : x = .func (.func 298) #[] #[.pointer (some ⟨c, 0, none⟩)] := by injection e with e; have := congrArg (fun a => a[0]?) e; simpa using this
  refine ⟨298, [.pointer (some ⟨c, 0, none⟩)], hx, cf480, fun W hW => ?_⟩
  have hcW := (hW.O.block c (heap_lt hc) (fun e => e)).trans hc
  refine (const_do (some ⟨p.m, 0, none⟩) c 1 n ⟨#[]⟩ W (cell_of hcW rfl) (cell_of hcW rfl) (cell_of hcW rfl)).mono ?_
  rintro en w' ⟨e, rfl⟩
  exact ⟨e, onlyA _ _⟩
end Go.Proofs.YtdbdbaepmdmnfaaGreatDoor

namespace Go.Proofs.YtdbdbaepmdmnfaaGreatDoor
open Go.RowKit
/-- What a text that was read is: its kind, its number. -/
def rdK (t : ByteArray) : Int := if numeralB t.data.toList then 3 else 2
def rdN (t : ByteArray) : Int := if numeralB t.data.toList then leadNum t.data.toList else 0
theorem readB_any (t : ByteArray) (ht : t.size ≤ 500) (w : World) : Calls Tryz.prog 400 #[.string t] w fun en w' => en = .returned (.agg #[.int .i64 (rdK t), .int .i64 (rdN t), .string t]) ∧ Only (fun _ => False) w w' := by
  have hm : t.size ≤ maxLen := by unfold maxLen; omega
  cases hn : numeralB t.data.toList with
  | true =>
    refine (read_num t w hm hn).mono ?_
    rintro en w' ⟨e, hb⟩
    exact ⟨by rw [e]; simp [rdK, rdN, hn], Only.ofBelow hb _⟩
  | false =>
    refine (read_text t w hm hn).mono ?_
    rintro en w' ⟨e, hb⟩
    exact ⟨by rw [e]; simp [rdK, rdN, hn], Only.ofBelow hb _⟩
set_option maxRecDepth 20000 in
set_option maxHeartbeats 2000000 in
theorem field_number_on (p : Option Addr) (a : Int) (ha : (a == 2) = false) (k : Nat) (hk : k ≤ 40) (s : ByteArray) (w : World) : Calls Tryz.prog 318 #[.pointer p, .agg #[.int .i64 a, .int .i64 k, .string s]] w fun en w' => en = .returned (.int .i64 k) ∧ Only (fun _ => False) w w' := by
  have HN := hide (number_else a k s (w.alloc (.cells #[.int .i64 a, .int .i64 k, .string s] 203)) ha)
  have HK := hide (check_number k hk)
  have HC := hide (check_nil p)
  clear ha hk
  go_enter Tryz.func318, Tryz.ntmps318
  go_wp2_with fail
  refine (HN.out).mono ?_
  rintro en w2 ⟨rfl, hb⟩
  have HO := hide (Only.ofBelow hb (fun _ => False))
  clear hb HN
  go_wp2_with (first | (go_at_call 234; refine (HK.out _).mono ?_; rintro en w' ⟨rfl, h3⟩; subst w') | (go_at_call 166; refine (HC.out _).mono ?_; rintro en w' ⟨rfl, h3⟩; subst w'))
  go_ret
  exact ⟨rfl, (onlyA w _).trans HO.out (fun _ _ e => e)⟩
theorem fld_row {w : World} {B i : Nat} {v : Value} {fs : List (List UInt8)} {x : List UInt8} (h : w.ownsRow B 9 1 v fs.length (strsV fs)) (hi : fs[i]? = some x) : ∃ g cap, v = .slice (some ⟨g, 0, none⟩) fs.length cap ∧ w.cell? ⟨g, i, none⟩ = some (.string (ofB x)) ∧ g < w.heap.size := by
  have hl : i < fs.length := (List.getElem?_eq_some_iff.1 hi).1
  rcases h.2 with ⟨h1, h2⟩ | ⟨g, cap, cur, rfl, hb, hg, _⟩
  · exfalso
    omega
  · refine ⟨g, cap, rfl, ?_, heap_lt hg⟩
    rw [h.cellAt i (by omega)]
    simp [strsV, hi]
set_option maxRecDepth 20000 in
set_option maxHeartbeats 2000000 in
theorem take_on (p : Pl8) (s : St8) (i : Nat) (x : List UInt8) (hi : s.fs[i]? = some x) (h40 : s.fs.length ≤ 40) (hx : x.length ≤ 500) (w : World) (h : On8 p s w) :
    Calls Tryz.prog 388 #[.pointer (some ⟨p.m, 2, none⟩), .int .i64 ((i : Int) + 1)] w fun en w' => en = .returned (.agg #[.int .i64 (rdK (ofB x)), .int .i64 (rdN (ofB x)), .string (ofB x)]) ∧ Only (fun _ => False) w w' := by
  obtain ⟨fv, hM, hF⟩ := h.M
  obtain ⟨g, cap, rfl, hc, hg⟩ := fld_row hF hi
  have hl : i < s.fs.length := (List.getElem?_eq_some_iff.1 hi).1
  have c3 : w.cell? ⟨p.m, 3, none⟩ = some (.slice (some ⟨g, 0, none⟩) s.fs.length cap) := cell_of hM rfl
  have ml := heap_lt hM
  have HR := hide (readB_any (ofB x) (by show x.toArray.size ≤ 500; simpa using hx) (w.alloc (.cells #[.int .i64 0, .int .i64 0, .string ⟨#[]⟩] 203)))
  clear h hM hF hi hx
  go_enter Tryz.func388, Tryz.ntmps388
  go_wp2_with fail
  refine (HR.out).mono ?_
  rintro en w2 ⟨rfl, ho⟩
  have hb0 := (ho.block w.heap.size (by simp) (fun e => e)).trans (new0 w _)
  have r0 : w2.cell? ⟨w.heap.size, 0, none⟩ = some (.int .i64 0) := cell_of hb0 rfl
  have r1 : w2.cell? ⟨w.heap.size, 1, none⟩ = some (.int .i64 0) := cell_of hb0 rfl
  have r2 : w2.cell? ⟨w.heap.size, 2, none⟩ = some (.string ⟨#[]⟩) := cell_of hb0 rfl
  have rf := free_of hb0
  have rl := heap_lt hb0
  have HO := hide ho
  clear ho hb0 HR
  go_wp2
  refine bodyPost_ret (v := .agg #[.int .i64 (rdK (ofB x)), .int .i64 (rdN (ofB x)), .string (ofB x)]) (by simp [results, Tryz.results388, go_sem, r0, r1, r2]) rfl ⟨rfl, ?_⟩
  exact ((((onlyA w _).trans HO.out (fun _ _ e => e)).setCell (p := ⟨w.heap.size, 0, none⟩) (fun h => absurd h (by show ¬ w.heap.size < w.heap.size; omega)) _).setCell (p := ⟨w.heap.size, 1, none⟩) (fun h => absurd h (by show ¬ w.heap.size < w.heap.size; omega)) _).setCell (p := ⟨w.heap.size, 2, none⟩) (fun h => absurd h (by show ¬ w.heap.size < w.heap.size; omega)) _
set_option maxRecDepth 20000 in
set_option maxHeartbeats 2000000 in
theorem take_noneF (p : Pl8) (s : St8) (i : Nat) (hi : s.fs.length ≤ i) (h40 : i ≤ 40) (w : World) (h : On8 p s w) :
    Calls Tryz.prog 388 #[.pointer (some ⟨p.m, 2, none⟩), .int .i64 ((i : Int) + 1)] w fun en w' => en = .returned (.agg #[.int .i64 0, .int .i64 0, .string ⟨#[]⟩]) ∧ Only (fun _ => False) w w' := by
  obtain ⟨fv, hM, hF⟩ := h.M
  obtain ⟨po, cap, rfl⟩ := ownsRow_slice hF
  have c3 : w.cell? ⟨p.m, 3, none⟩ = some (.slice po s.fs.length cap) := cell_of hM rfl
  have ml := heap_lt hM
  clear h hM hF
  go_enter Tryz.func388, Tryz.ntmps388
  go_wp2
  refine bodyPost_ret (v := .agg #[.int .i64 0, .int .i64 0, .string ⟨#[]⟩]) (by simp [results, Tryz.results388, go_sem]) rfl ⟨rfl, ?_⟩
  exact onlyA w _
set_option maxRecDepth 20000 in
set_option maxHeartbeats 2000000 in
theorem field_on (p : Pl8) (s : St8) (k a n : Int) (t : ByteArray) (H : ∀ W, On8 p s W → Calls Tryz.prog 388 #[.pointer (some ⟨p.m, 2, none⟩), .int .i64 k] W fun en w' => en = .returned (.agg #[.int .i64 a, .int .i64 n, .string t]) ∧ Only (fun _ => False) W w') (w : World) (h : On8 p s w) :
    Calls Tryz.prog 320 #[.pointer (some ⟨p.m, 0, none⟩), .int .i64 k] w fun en w' => en = .returned (.agg #[.int .i64 a, .int .i64 n, .string t]) ∧ Only (fun _ => False) w w' := by
  obtain ⟨fv, hM, hF⟩ := h.M
  have ml := heap_lt hM
  have HR := hide (H (w.alloc (.cells #[.int .i64 0, .int .i64 0, .string ⟨#[]⟩] 203)) (h.calm (onlyA w _)))
  clear h hM hF H
  go_enter Tryz.func320, Tryz.ntmps320
  go_wp2_with fail
  refine (HR.out).mono ?_
  rintro en w2 ⟨rfl, ho⟩
  have hb0 := (ho.block w.heap.size (by simp) (fun e => e)).trans (new0 w _)
  have r0 : w2.cell? ⟨w.heap.size, 0, none⟩ = some (.int .i64 0) := cell_of hb0 rfl
  have r1 : w2.cell? ⟨w.heap.size, 1, none⟩ = some (.int .i64 0) := cell_of hb0 rfl
  have r2 : w2.cell? ⟨w.heap.size, 2, none⟩ = some (.string ⟨#[]⟩) := cell_of hb0 rfl
  have rf := free_of hb0
  have rl := heap_lt hb0
  have HO := hide ho
  clear ho hb0 HR
  go_wp2
  refine bodyPost_ret (v := .agg #[.int .i64 a, .int .i64 n, .string t]) (by simp [results, Tryz.results320, go_sem, r0, r1, r2]) rfl ⟨rfl, ?_⟩
  exact ((((onlyA w _).trans HO.out (fun _ _ e => e)).setCell (p := ⟨w.heap.size, 0, none⟩) (fun h => absurd h (by show ¬ w.heap.size < w.heap.size; omega)) _).setCell (p := ⟨w.heap.size, 1, none⟩) (fun h => absurd h (by show ¬ w.heap.size < w.heap.size; omega)) _).setCell (p := ⟨w.heap.size, 2, none⟩) (fun h => absurd h (by show ¬ w.heap.size < w.heap.size; omega)) _
theorem cf317 (args : Array Value) (w : World) : (callFunc 317 args).run Tryz.prog w = .ok (.enter 317 args) w := callFunc_in Tryz.func317 (by kernel_rfl) rfl args w
theorem cf319 (args : Array Value) (w : World) : (callFunc 319 args).run Tryz.prog w = .ok (.enter 319 args) w := callFunc_in Tryz.func319 (by kernel_rfl) rfl args w
set_option maxRecDepth 20000 in
set_option maxHeartbeats 2000000 in
theorem takes_fieldG (p : Pl8) (s : St8) (k : Nat) (a n : Int) (t : ByteArray) (H : ∀ W, On8 p s W → Calls Tryz.prog 388 #[.pointer (some ⟨p.m, 2, none⟩), .int .i64 k] W fun en w' => en = .returned (.agg #[.int .i64 a, .int .i64 n, .string t]) ∧ Only (fun _ => False) W w') : TakesK p s 319 k a n t := by
  refine ⟨cf319, fun w b2 nb h e2 e4 => ?_⟩
  have l2 := heap_lt e2
  have l4 := heap_lt e4
  have c2 : w.cell? ⟨b2, 0, none⟩ = some (.pointer (some ⟨p.m, 0, none⟩)) := cell_of e2 rfl
  have c4 : w.cell? ⟨nb, 0, none⟩ = some (.int .i64 k) := cell_of e4 rfl
  have HR := hide (field_on p s k a n t H _ (h.calm (onlyA w (.cells #[.int .i64 0, .int .i64 0, .string ⟨#[]⟩] 203))))
  clear h H e2 e4
  go_enter Tryz.func319, Tryz.ntmps319
  go_wp2_with fail
  refine (HR.out).mono ?_
  rintro en w2 ⟨rfl, ho⟩
  have hb0 := (ho.block w.heap.size (by simp) (fun e => e)).trans (new0 w _)
  have r0 : w2.cell? ⟨w.heap.size, 0, none⟩ = some (.int .i64 0) := cell_of hb0 rfl
  have r1 : w2.cell? ⟨w.heap.size, 1, none⟩ = some (.int .i64 0) := cell_of hb0 rfl
  have r2 : w2.cell? ⟨w.heap.size, 2, none⟩ = some (.string ⟨#[]⟩) := cell_of hb0 rfl
  have rf := free_of hb0
  have rl := heap_lt hb0
  have HO := hide ho
  clear ho hb0 HR
  go_wp2
  refine bodyPost_ret (v := .agg #[.int .i64 a, .int .i64 n, .string t]) (by simp [results, Tryz.results319, go_sem, r0, r1, r2]) rfl ⟨rfl, ?_⟩
  exact ((((onlyA w _).trans HO.out (fun _ _ e => e)).setCell (p := ⟨w.heap.size, 0, none⟩) (fun h => absurd h (by show ¬ w.heap.size < w.heap.size; omega)) _).setCell (p := ⟨w.heap.size, 1, none⟩) (fun h => absurd h (by show ¬ w.heap.size < w.heap.size; omega)) _).setCell (p := ⟨w.heap.size, 2, none⟩) (fun h => absurd h (by show ¬ w.heap.size < w.heap.size; omega)) _
/-- A field that there is. -/
theorem takes_field (p : Pl8) (s : St8) (i : Nat) (x : List UInt8) (hi : s.fs[i]? = some x) (h40 : s.fs.length ≤ 40) (hx : x.length ≤ 500) : TakesK p s 319 (i + 1) (rdK (ofB x)) (rdN (ofB x)) (ofB x) :=
  takes_fieldG p s (i + 1) _ _ _ (fun W hW => take_on p s i x hi h40 hx W hW)
/-- A field that there is not. -/
theorem takes_nothing (p : Pl8) (s : St8) (i : Nat) (hi : s.fs.length ≤ i) (h40 : i ≤ 40) : TakesK p s 319 (i + 1) 0 0 ⟨#[]⟩ :=
  takes_fieldG p s (i + 1) _ _ _ (fun W hW => take_noneF p s i hi h40 W hW)
end Go.Proofs.YtdbdbaepmdmnfaaGreatDoor

namespace Go.Proofs.YtdbdbaepmdmnfaaGreatDoor
open Go.RowKit
def cmpI (x y : Int) : Int := if x < y then -1 else if y < x then 1 else 0
set_option maxRecDepth 20000 in
set_option maxHeartbeats 1000000 in
theorem cmp64 (x y : Int) (w : World) : Calls Tryz.prog 454 #[.int .i64 x, .int .i64 y] w fun en w' => en = .returned (.int .i64 (cmpI x y)) ∧ w' = w := by
  have HN : Hid (∀ (z : Int) W, Calls Tryz.prog 481 #[.int .i64 z] W fun en w' => en = .returned (.bool false) ∧ w' = W) := hide (fun z W => by
    go_enter Tryz.func481, Tryz.ntmps481
    go_wp2
    go_ret
    exact ⟨rfl, rfl⟩)
  unfold cmpI
  by_cases h1 : x < y
  · rw [if_pos h1]
    go_enter Tryz.func454, Tryz.ntmps454
    go_wp2_with (go_at_call 481; refine (HN.out _ _).mono ?_; rintro en w' ⟨rfl, h3⟩; subst w')
    go_ret
    exact ⟨rfl, rfl⟩
  · rw [if_neg h1]
    by_cases h2 : y < x
    · rw [if_pos h2]
      go_enter Tryz.func454, Tryz.ntmps454
      go_wp2_with (go_at_call 481; refine (HN.out _ _).mono ?_; rintro en w' ⟨rfl, h3⟩; subst w')
      go_ret
      exact ⟨rfl, rfl⟩
    · rw [if_neg h2]
      go_enter Tryz.func454, Tryz.ntmps454
      go_wp2_with (go_at_call 481; refine (HN.out _ _).mono ?_; rintro en w' ⟨rfl, h3⟩; subst w')
      go_ret
      exact ⟨rfl, rfl⟩
set_option maxRecDepth 20000 in
set_option maxHeartbeats 1000000 in
theorem is_text (k n : Int) (s : ByteArray) (w : World) : Calls Tryz.prog 356 #[.agg #[.int .i64 k, .int .i64 n, .string s]] w fun en w' => en = .returned (.bool (k == 2)) ∧ w' = w.alloc (.cells #[.int .i64 k, .int .i64 n, .string s] 203) := by
  go_enter Tryz.func356, Tryz.ntmps356
  go_wp2
  go_ret
  exact ⟨rfl, rfl⟩
set_option maxRecDepth 20000 in
set_option maxHeartbeats 1000000 in
/-- Two values that are no texts are compared by their numbers. -/
theorem compare_nums (a x b y : Int) (s t : ByteArray) (ha : (a == 2) = false) (hb : (b == 2) = false) (w : World) : Calls Tryz.prog 414 #[.agg #[.int .i64 a, .int .i64 x, .string s], .agg #[.int .i64 b, .int .i64 y, .string t]] w fun en w' => en = .returned (.int .i64 (cmpI x y)) ∧ Only (fun _ => False) w w' := by
  have HT := hide is_text
  have HC := hide (cmp64 x y)
  go_enter Tryz.func414, Tryz.ntmps414
  go_wp2_with (first | (go_at_call 356; refine (HT.out _ _ _ _).mono ?_; rintro en w2 ⟨rfl, hw2⟩; subst hw2) | (go_at_call 454; refine (HC.out _).mono ?_; rintro en w' ⟨rfl, h3⟩; subst w'))
  go_ret
  exact ⟨rfl, ((((Only.refl _ _).alloc _).alloc _).alloc _).alloc _⟩
set_option maxRecDepth 20000 in
set_option maxHeartbeats 1000000 in
theorem is_true_num (k n : Int) (s : ByteArray) (hk : (k == 2) = false) (w : World) : Calls Tryz.prog 237 #[.agg #[.int .i64 k, .int .i64 n, .string s]] w fun en w' => en = .returned (.bool (n != 0)) ∧ Only (fun _ => False) w w' := by
  have HT := hide is_text
  go_enter Tryz.func237, Tryz.ntmps237
  go_wp2_with (go_at_call 356; refine (HT.out _ _ _ _).mono ?_; rintro en w2 ⟨rfl, hw2⟩; subst hw2)
  go_ret
  exact ⟨rfl, ((Only.refl _ _).alloc _).alloc _⟩
set_option maxRecDepth 20000 in
set_option maxHeartbeats 1000000 in
theorem le_do (n : Int) (w : World) : Calls Tryz.prog 448 #[.int .i64 n] w fun en w' => en = .returned (.bool (decide (n ≤ 0))) ∧ w' = w := by
  go_enter Tryz.func448, Tryz.ntmps448
  go_wp2
  go_ret
  exact ⟨rfl, rfl⟩
theorem cmpI_le (x y : Int) : decide (cmpI x y ≤ 0) = decide (x ≤ y) := by
  unfold cmpI
  by_cases h1 : x < y
  · rw [if_pos h1]
    have : x ≤ y := by omega
    simp [this]
  · rw [if_neg h1]
    by_cases h2 : y < x
    · rw [if_pos h2]
      have : ¬ x ≤ y := by omega
      simp [this]
    · rw [if_neg h2]
      have : x ≤ y := by omega
      simp [this]
set_option maxRecDepth 20000 in
set_option maxHeartbeats 1000000 in
theorem plus_do (x y : Nat) (hx : x ≤ 100000) (hy : y ≤ 100000) (w : World) : Calls Tryz.prog 416 #[.int .i64 x, .int .i64 y] w fun en w' => en = .returned (.int .i64 ((x + y : Nat) : Int)) ∧ w' = w := by
  go_enter Tryz.func416, Tryz.ntmps416
  go_wp2
  go_ret
  exact ⟨by simp, rfl⟩
theorem cf416 (args : Array Value) (w : World) : (callFunc 416 args).run Tryz.prog w = .ok (.enter 416 args) w := callFunc_in Tryz.func416 (by kernel_rfl) rfl args w
theorem cf448 (args : Array Value) (w : World) : (callFunc 448 args).run Tryz.prog w = .ok (.enter 448 args) w := callFunc_in Tryz.func448 (by kernel_rfl) rfl args w
theorem cf455 (args : Array Value) (w : World) : (callFunc 455 args).run Tryz.prog w = .ok (.enter 455 args) w := callFunc_in Tryz.func455 (by kernel_rfl) rfl args w
theorem cf413 (args : Array Value) (w : World) : (callFunc 413 args).run Tryz.prog w = .ok (.enter 413 args) w := callFunc_in Tryz.func413 (by kernel_rfl) rfl args w
theorem cf380 (args : Array Value) (w : World) : (callFunc 380 args).run Tryz.prog w = .ok (.enter 380 args) w := callFunc_in Tryz.func380 (by kernel_rfl) rfl args w
set_option maxHeartbeats 400000 in
theorem number_eq (k n : Int) (s : ByteArray) (hk : (k == 2) = false) (w : World) :
    Calls Tryz.prog 131 #[.agg #[.int .i64 k, .int .i64 n, .string s]] w fun e w' => e = .returned (.int .i64 n) ∧ w' = w.alloc (.cells #[.int .i64 k, .int .i64 n, .string s] 203) := by
  go_enter Tryz.func131, Tryz.ntmps131
  go_wp2
  go_ret
  exact ⟨rfl, rfl⟩
end Go.Proofs.YtdbdbaepmdmnfaaGreatDoor

namespace Go.Proofs.YtdbdbaepmdmnfaaGreatDoor
open Go.RowKit
set_option maxRecDepth 20000 in
set_option maxHeartbeats 4000000 in
theorem ffind_do (p : Pl8) (s : St8) (nb : Nat) (x y : Value) (k : Nat) (hk : k ≤ 40) (a : Int) (ha : (a == 2) = false) (t : ByteArray) (hG : Gives p s x (.agg #[.int .i64 a, .int .i64 k, .string t])) (hnb : p.wN.heap[nb]? = some (.cells #[x, y] 338 (0, 0))) (w : World) (h : On8 p s w) :
    Calls Tryz.prog 317 #[.pointer (some ⟨p.m, 0, none⟩), .pointer (some ⟨nb, 0, none⟩)] w fun en w' => ∃ b2 b4, en = .returned (.agg #[.func (.func 319) #[] #[.pointer (some ⟨b2, 0, none⟩), .pointer (some ⟨b4, 0, none⟩)], .func (.func 321) #[] #[.pointer (some ⟨b2, 0, none⟩), .pointer (some ⟨b4, 0, none⟩)]]) ∧ w'.heap[b2]? = some (.cells #[.pointer (some ⟨p.m, 0, none⟩)] 130 (0, 0)) ∧ w'.heap[b4]? = some (.cells #[.int .i64 k] 3 (0, 0)) ∧ Only (fun _ => False) w w' := by
  obtain ⟨F, caps, rfl, hcf, hF⟩ := hG
  unfold Enters at hcf
  have hmf := hmfT
  have hsf := hsfT
  have hsn := hsnT
  have hnw := (h.O.block nb (heap_lt hnb) (fun e => e)).trans hnb
  have e0 : w.cell? ⟨nb, 0, none⟩ = some (.func (.func F) #[] caps.toArray) := cell_of hnw rfl
  have hnl := heap_lt hnw
  have HF := hide (fun W (hW : Only (fun _ => False) w W) => hF W (h.calm hW))
  have HN := hide (field_number_on (some ⟨p.m, 0, none⟩) a ha k hk t)
  clear hnb hnw hF h ha hk
  go_enter Tryz.func317, Tryz.ntmps317
  go_upto_region 1 with fail
  have n0 : ((w.alloc (.cells #[.pointer (some ⟨p.m, 0, none⟩)] 130)).alloc (.cells #[.nilFunc, .nilFunc] 436)).cell? ⟨w.heap.size, 0, none⟩ = some (.pointer (some ⟨p.m, 0, none⟩)) := past (cell_of (new0 w _) rfl) _
  have n0d : ((w.alloc (.cells #[.pointer (some ⟨p.m, 0, none⟩)] 130)).alloc (.cells #[.nilFunc, .nilFunc] 436)).drew.cell? ⟨w.heap.size, 0, none⟩ = some (.pointer (some ⟨p.m, 0, none⟩)) := n0
  go_cut [4] (fun s4 wc => ∃ b4, s4 = .pointer (some ⟨b4, 0, none⟩) ∧ wc.heap[b4]? = some (.cells #[.int .i64 k] 3 (0, 0)) ∧ wc.heap[w.heap.size]? = some (.cells #[.pointer (some ⟨p.m, 0, none⟩)] 130 (0, 0)) ∧ wc.heap[w.heap.size + 1]? = some (.cells #[.nilFunc, .nilFunc] 436 (0, 0)) ∧ w.heap.size + 1 < b4 ∧ Only (fun _ => False) w wc)
  case first =>
    go_region_held3 (fun W => W.cell? ⟨w.heap.size, 0, none⟩ = some (.pointer (some ⟨p.m, 0, none⟩)) ∧ W.cell? ⟨nb, 0, none⟩ = some (.func (.func F) #[] caps.toArray)) (first | (refine ⟨?_, ?_⟩ <;> (repeat (first | (with_reducible assumption) | (with_reducible refine past ?_ _) | (with_reducible refine pastD ?_ _) | ((with_reducible refine farC ?_ ?_); (rotate_left; (focus (first | (simp; done) | (simp; omega) | omega))))))))
      (first | (go_at_call 318; refine (HN.out _).mono ?_; rintro en w2 ⟨rfl, ho2⟩; have hO : Only (fun _ => False) w w2 := Only.trans (by repeat (first | with_reducible exact HO1.out | with_reducible refine Only.alloc ?_ _ | with_reducible refine toDrew ?_)) ho2 (fun _ _ e => e); refine lay (P := Hid (w2.heap[w.heap.size]? = some (.cells #[.pointer (some ⟨p.m, 0, none⟩)] 130 (0, 0)))) ?_ (fun HC0 => ?_); (focus (refine hide ?_; refine (ho2.block _ ?_ (fun e => e)).trans ?_; (focus (first | (simp; done) | (simp; omega) | omega)); (repeat (first | (with_reducible exact HB0.out) | ((with_reducible refine new_at2D ?_ _); focus (simp; done)) | ((with_reducible refine (heap_allocD _ _ ?_).trans ?_); (focus (first | (simp; done) | (simp; omega) | omega))) | ((with_reducible refine new_at2 ?_ _); focus (simp; done)) | ((with_reducible refine (Below.heap_alloc _ _ _ ?_).trans ?_); (focus (first | (simp; done) | (simp; omega) | omega))))); done)); refine lay (P := Hid (w2.heap[w.heap.size + 1]? = some (.cells #[.nilFunc, .nilFunc] 436 (0, 0)))) ?_ (fun HC1 => ?_); (focus (refine hide ?_; refine (ho2.block _ ?_ (fun e => e)).trans ?_; (focus (first | (simp; done) | (simp; omega) | omega)); (repeat (first | (with_reducible exact HB1.out) | ((with_reducible refine new_at2D ?_ _); focus (simp; done)) | ((with_reducible refine (heap_allocD _ _ ?_).trans ?_); (focus (first | (simp; done) | (simp; omega) | omega))) | ((with_reducible refine new_at2 ?_ _); focus (simp; done)) | ((with_reducible refine (Below.heap_alloc _ _ _ ?_).trans ?_); (focus (first | (simp; done) | (simp; omega) | omega))))); done)); have v0 : w2.cell? ⟨w.heap.size, 0, none⟩ = some (.pointer (some ⟨p.m, 0, none⟩)) := cell_of HC0.out rfl; have v1 := (hO.cell (p := ⟨nb, 0, none⟩) hnl (fun e => e)).trans e0; (try (refine lay (P := Hid (w2.heap[w.heap.size + 1 + 1]? = some (.cells #[.int .i64 0] 3 (0, 0)))) ?_ (fun HD0 => ?_); (focus (refine hide ?_; refine (ho2.block _ ?_ (fun e => e)).trans ?_; (focus (first | (simp; done) | (simp; omega) | omega)); (repeat (first | (with_reducible exact HI0.out) | ((with_reducible refine new_at2D ?_ _); focus (simp; done)) | ((with_reducible refine (heap_allocD _ _ ?_).trans ?_); (focus (first | (simp; done) | (simp; omega) | omega))) | ((with_reducible refine new_at2 ?_ _); focus (simp; done)) | ((with_reducible refine (Below.heap_alloc _ _ _ ?_).trans ?_); (focus (first | (simp; done) | (simp; omega) | omega))))); done)); have HD0c : w2.cell? ⟨w.heap.size + 1 + 1, 0, none⟩ = some (.int .i64 0) := cell_of HD0.out rfl; have HD0f := free_of HD0.out; have HD0l := heap_lt HD0.out)); (try (refine lay (P := Hid (w2.heap[w1.heap.size]? = some (.cells #[.int .i64 0] 3 (0, 0)))) ?_ (fun HD1 => ?_); (focus (refine hide ?_; refine (ho2.block _ ?_ (fun e => e)).trans ?_; (focus (first | (simp; done) | (simp; omega) | omega)); (repeat (first | ((with_reducible refine new_at2D ?_ _); focus (simp; done)) | ((with_reducible refine (heap_allocD _ _ ?_).trans ?_); (focus (first | (simp; done) | (simp; omega) | omega))) | ((with_reducible refine new_at2 ?_ _); focus (simp; done)) | ((with_reducible refine (Below.heap_alloc _ _ _ ?_).trans ?_); (focus (first | (simp; done) | (simp; omega) | omega))))); done)); have HD1c : w2.cell? ⟨w1.heap.size, 0, none⟩ = some (.int .i64 0) := cell_of HD1.out rfl; have HD1f := free_of HD1.out; have HD1l := heap_lt HD1.out)); have hz3 := ho2.size; have HO := hide hO; clear hO; have HO2 := hide ho2; clear ho2) | (with_reducible show Calls Tryz.prog F _ _ _; refine (HF.out _ (by repeat (first | with_reducible exact Only.refl _ _ | with_reducible refine Only.alloc ?_ _ | with_reducible refine toDrew ?_))).mono ?_; rintro en w1 ⟨rfl, ho1⟩; have hO1 : Only (fun _ => False) w w1 := Only.trans (by repeat (first | with_reducible exact Only.refl _ _ | with_reducible refine Only.alloc ?_ _ | with_reducible refine toDrew ?_)) ho1 (fun _ _ e => e); have hz1 : w.heap.size + 1 + 1 ≤ w1.heap.size := (by have := ho1.size; simp at this; omega); refine lay (P := Hid (w1.heap[w.heap.size]? = some (.cells #[.pointer (some ⟨p.m, 0, none⟩)] 130 (0, 0)))) ?_ (fun HB0 => ?_); (focus (refine hide ?_; refine (ho1.block _ ?_ (fun e => e)).trans ?_; (focus (first | (simp; done) | (simp; omega) | omega)); (repeat (first | ((with_reducible refine new_at2D ?_ _); focus (simp; done)) | ((with_reducible refine (heap_allocD _ _ ?_).trans ?_); (focus (first | (simp; done) | (simp; omega) | omega))) | ((with_reducible refine new_at2 ?_ _); focus (simp; done)) | ((with_reducible refine (Below.heap_alloc _ _ _ ?_).trans ?_); (focus (first | (simp; done) | (simp; omega) | omega))))); done)); refine lay (P := Hid (w1.heap[w.heap.size + 1]? = some (.cells #[.nilFunc, .nilFunc] 436 (0, 0)))) ?_ (fun HB1 => ?_); (focus (refine hide ?_; refine (ho1.block _ ?_ (fun e => e)).trans ?_; (focus (first | (simp; done) | (simp; omega) | omega)); (repeat (first | ((with_reducible refine new_at2D ?_ _); focus (simp; done)) | ((with_reducible refine (heap_allocD _ _ ?_).trans ?_); (focus (first | (simp; done) | (simp; omega) | omega))) | ((with_reducible refine new_at2 ?_ _); focus (simp; done)) | ((with_reducible refine (Below.heap_alloc _ _ _ ?_).trans ?_); (focus (first | (simp; done) | (simp; omega) | omega))))); done)); have y0 : w1.cell? ⟨w.heap.size, 0, none⟩ = some (.pointer (some ⟨p.m, 0, none⟩)) := cell_of HB0.out rfl; have y1 := (hO1.cell (p := ⟨nb, 0, none⟩) hnl (fun e => e)).trans e0; (try (refine lay (P := Hid (w1.heap[w.heap.size + 1 + 1]? = some (.cells #[.int .i64 0] 3 (0, 0)))) ?_ (fun HI0 => ?_); (focus (refine hide ?_; refine (ho1.block _ ?_ (fun e => e)).trans ?_; (focus (first | (simp; done) | (simp; omega) | omega)); (repeat (first | ((with_reducible refine new_at2D ?_ _); focus (simp; done)) | ((with_reducible refine (heap_allocD _ _ ?_).trans ?_); (focus (first | (simp; done) | (simp; omega) | omega))) | ((with_reducible refine new_at2 ?_ _); focus (simp; done)) | ((with_reducible refine (Below.heap_alloc _ _ _ ?_).trans ?_); (focus (first | (simp; done) | (simp; omega) | omega))))); done)); have HI0c : w1.cell? ⟨w.heap.size + 1 + 1, 0, none⟩ = some (.int .i64 0) := cell_of HI0.out rfl; have HI0f := free_of HI0.out; have HI0l := heap_lt HI0.out)); have HO1 := hide hO1; clear hO1; have Ho1 := hide ho1; clear ho1))
    all_goals
      go_wp2_with fail
      go_meet
      have hzw := heap_lt HC1.out
      refine ⟨_, rfl, ?_, ?_, ?_, ?_, HO.out.trans (D := fun _ => False) (E := fun q => w.heap.size ≤ q) ?_ (fun q h1 h2 => by omega)⟩
      · (repeat (first | ((with_reducible refine new_at2 ?_ _); focus (simp; done)) | ((with_reducible refine (Below.heap_alloc _ _ _ ?_).trans ?_); (focus (first | omega | (simp; done) | (simp; omega)))) | (with_reducible refine set1 (x := .int .i64 0) ?_ _) | ((with_reducible refine (Below.heap_setCell _ _ _ _ ?_).trans ?_); (focus (show _ ≠ _; first | (simp; done) | (simp; omega) | omega))) | (with_reducible exact HC0.out) | (with_reducible exact HC1.out) | (with_reducible exact HD0.out) | (with_reducible exact HD1.out)))
      · (repeat (first | ((with_reducible refine new_at2 ?_ _); focus (simp; done)) | ((with_reducible refine (Below.heap_alloc _ _ _ ?_).trans ?_); (focus (first | omega | (simp; done) | (simp; omega)))) | (with_reducible refine set1 (x := .int .i64 0) ?_ _) | ((with_reducible refine (Below.heap_setCell _ _ _ _ ?_).trans ?_); (focus (show _ ≠ _; first | (simp; done) | (simp; omega) | omega))) | (with_reducible exact HC0.out) | (with_reducible exact HC1.out) | (with_reducible exact HD0.out) | (with_reducible exact HD1.out)))
      · (repeat (first | ((with_reducible refine new_at2 ?_ _); focus (simp; done)) | ((with_reducible refine (Below.heap_alloc _ _ _ ?_).trans ?_); (focus (first | omega | (simp; done) | (simp; omega)))) | (with_reducible refine set1 (x := .int .i64 0) ?_ _) | ((with_reducible refine (Below.heap_setCell _ _ _ _ ?_).trans ?_); (focus (show _ ≠ _; first | (simp; done) | (simp; omega) | omega))) | (with_reducible exact HC0.out) | (with_reducible exact HC1.out) | (with_reducible exact HD0.out) | (with_reducible exact HD1.out)))
      · first | omega | (simp; done) | (simp; omega)
      · (repeat (first | (with_reducible exact Only.refl _ _) | (with_reducible refine Only.alloc ?_ _) | (with_reducible refine toDrew ?_) | ((with_reducible refine Only.setCell ?_ ?_ _); (rotate_left; (focus (intro _; show _; first | (simp; done) | (simp; omega) | omega))))))
  case rest =>
    obtain ⟨b4, rfl, h4, hx0, hx1, k4, hO⟩ := hcut
    have r0 : wc.cell? ⟨w.heap.size + 1, 0, none⟩ = some .nilFunc := cell_of hx1 rfl
    have r1 : wc.cell? ⟨w.heap.size + 1, 1, none⟩ = some .nilFunc := cell_of hx1 rfl
    have rf := free_of hx1
    have rl := heap_lt hx1
    have H4 := hide h4
    have HX0 := hide hx0
    have HO := hide hO
    clear h4 hx0 hx1 hO
    go_wp2
    have hol : Only (fun q => q = w.heap.size + 1) wc _ := ((Only.refl (fun q => q = w.heap.size + 1) wc).setCell (p := ⟨w.heap.size + 1, 0, none⟩) (fun _ => rfl) (.func (.func 319) #[] #[.pointer (some ⟨w.heap.size, 0, none⟩), .pointer (some ⟨b4, 0, none⟩)])).setCell (p := ⟨w.heap.size + 1, 1, none⟩) (fun _ => rfl) (.func (.func 321) #[] #[.pointer (some ⟨w.heap.size, 0, none⟩), .pointer (some ⟨b4, 0, none⟩)])
    refine bodyPost_ret (v := .agg #[.func (.func 319) #[] #[.pointer (some ⟨w.heap.size, 0, none⟩), .pointer (some ⟨b4, 0, none⟩)], .func (.func 321) #[] #[.pointer (some ⟨w.heap.size, 0, none⟩), .pointer (some ⟨b4, 0, none⟩)]]) (by simp [results, Tryz.results317, go_sem, r0, r1]) rfl ⟨w.heap.size, b4, rfl, (hol.block _ (heap_lt HX0.out) (by omega)).trans HX0.out, (hol.block _ (heap_lt H4.out) (by omega)).trans H4.out, HO.out.trans hol (fun q h e => by omega)⟩
theorem agg_two {a b c d : Value} (e : Value.agg #[a, b] = .agg #[c, d]) : a = c ∧ b = d := by
  injection e with e
  have h0 := congrArg (fun a => a[0]?) e
  have h1 := congrArg (fun a => a[1]?) e
  simp at h0 h1
  exact ⟨h0, h1⟩
/-- What was made of a field finds its place. -/
theorem finds_field (p : Pl8) (s : St8) (I : Nat → World → Value → Prop) (B : Nat) (x y : Value) (h : FieldK I B p.wN (.agg #[x, y])) (k : Nat) (hk : k ≤ 40) (a : Int) (ha : (a == 2) = false) (t : ByteArray) (hI : ∀ x' y', I B p.wN (.agg #[x', y']) → Gives p s x' (.agg #[.int .i64 a, .int .i64 k, .string t])) : FindsK p s 319 321 k y := by
  obtain ⟨nb, g, x', y', e, _, _, hnb, _, hi⟩ := h
  obtain ⟨_, rfl⟩ := agg_two e
  refine ⟨317, [.pointer (some ⟨nb, 0, none⟩)], rfl, cf317, fun W hW => ?_⟩
  refine (ffind_do p s nb x' y' k hk a ha t (hI _ _ hi) hnb W hW).mono ?_
  rintro en w' ⟨b2, b4, e, h2, h4, ho⟩
  exact ⟨_, _, e, ⟨_, _, rfl, rfl, h2, h4⟩, ho⟩
theorem gives_field (p : Pl8) (s : St8) (I : Nat → World → Value → Prop) (B : Nat) (x y : Value) (h : FieldK I B p.wN (.agg #[x, y])) (k : Nat) (hk : k ≤ 40) (a : Int) (ha : (a == 2) = false) (t : ByteArray) (hI : ∀ x' y', I B p.wN (.agg #[x', y']) → Gives p s x' (.agg #[.int .i64 a, .int .i64 k, .string t])) (b n : Int) (u : ByteArray) (hT : TakesK p s 319 k b n u) : Gives p s x (.agg #[.int .i64 b, .int .i64 n, .string u]) := by
  have hf := finds_field p s I B x y h k hk a ha t hI
  obtain ⟨nb, g, x', y', e, _, _, _, hg, _⟩ := h
  obtain ⟨rfl, rfl⟩ := agg_two e
  exact found_on p s 319 321 k g _ b n u hf hT hg
/-- Blocks that a run's own doings leave as they were. -/
def Kept (p : Pl8) (W w' : World) : Prop := W.heap.size ≤ w'.heap.size ∧ ∀ (q : Nat) (c : Array Value) (t : TypeId), q ≠ p.m → q ≠ p.vb → q ≠ p.sb → t ≠ 9 → t ≠ 5 → W.heap[q]? = some (.cells c t (0, 0)) → w'.heap[q]? = some (.cells c t (0, 0))
theorem Kept.of {p : Pl8} {W w' : World} (ho : Only (fun _ => False) W w') : Kept p W w' := ⟨ho.size, fun q _ _ _ _ _ _ _ h => (ho.block q (heap_lt h) (fun e => e)).trans h⟩
theorem Kept.ofV {p : Pl8} {W w' : World} {D : Nat → Prop} (hD : ∀ q, D q → q = p.m ∨ q = p.vb ∨ q = p.sb) (ho : Only D W w') : Kept p W w' := ⟨ho.size, fun q _ _ h1 h2 h3 _ _ h => (ho.block q (heap_lt h) (fun e => by rcases hD q e with e | e | e; exact h1 e; exact h2 e; exact h3 e)).trans h⟩
theorem Kept.trans {p : Pl8} {W w' w'' : World} (h : Kept p W w') (h' : Kept p w' w'') : Kept p W w'' := ⟨Nat.le_trans h.1 h'.1, fun q c t h1 h2 h3 h4 h5 e => h'.2 q c t h1 h2 h3 h4 h5 (h.2 q c t h1 h2 h3 h4 h5 e)⟩
/-- A block that is new to a run is kept. -/
theorem Kept.new {p : Pl8} {s : St8} {W0 W w' : World} (h : Kept p W w') (h0 : On8 p s W0) {q : Nat} {c : Array Value} {t : TypeId} (hq : W0.heap.size ≤ q) (h4 : t ≠ 9) (h5 : t ≠ 5) (e : W.heap[q]? = some (.cells c t (0, 0))) : w'.heap[q]? = some (.cells c t (0, 0)) := by
  obtain ⟨fv, hM, _⟩ := h0.M
  obtain ⟨tv, hS, _⟩ := h0.S
  have l1 := heap_lt hM
  have l2 := heap_lt h0.V
  have l3 := heap_lt hS
  exact h.2 q c t (by omega) (by omega) (by omega) h4 h5 e
theorem Kept.set {p : Pl8} {W w' : World} (h : Kept p W w') {a : Addr} (ha : W.heap.size ≤ a.block) (v : Value) : Kept p W (w'.setCell a v) := ⟨by simpa using h.1, fun q c t h1 h2 h3 h4 h5 e => (Below.heap_setCell _ _ _ _ (by have := heap_lt e; omega)).trans (h.2 q c t h1 h2 h3 h4 h5 e)⟩
/-- Some other block of a run turns. -/
theorem On8.other {p : Pl8} {s : St8} {W : World} (h : On8 p s W) {q : Nat} {c : Array Value} {t : TypeId} (e : W.heap[q]? = some (.cells c t (0, 0))) (h1 : q ≠ p.m) (h2 : q ≠ p.vb) (h3 : q ≠ p.sb) (h4 : 9 ≠ t) (h5 : 5 ≠ t) (hq : p.wN.heap.size ≤ q) (o : Nat) (v : Value) : On8 p s (W.setCell ⟨q, o, none⟩ v) := by
  obtain ⟨fv, hM, hF⟩ := h.M
  obtain ⟨tv, hS, hT⟩ := h.S
  have a1 := own_tag hF e h4
  have a2 := own_tag hT e h5
  have ho : Only (fun k => k = q) W (W.setCell ⟨q, o, none⟩ v) := (Only.refl (fun k => k = q) W).setCell (p := ⟨q, o, none⟩) (fun _ => rfl) v
  exact ⟨h.hm, h.hv, h.hs, h.nmv, h.nms, h.nvs, ⟨fv, hM.only ho (fun e => h1 e.symm), ownsRow_of hF (fun k hk => ho.block k (hF.lt k hk).2 (fun e => a1 (by rw [hk, e])))⟩, h.V.only ho (fun e => h2 e.symm), ⟨tv, (ho.block p.sb (heap_lt hS) (fun e => h3 e.symm)).trans hS, ownsRow_of hT (fun k hk => ho.block k (hT.lt k hk).2 (fun e => a2 (by rw [hk, e])))⟩, h.O.trans ho (fun k hk e => by omega)⟩
/-- What is kept when a box of three cells, new to a run, turns. -/
theorem On8.box3 {p : Pl8} {s s0 : St8} {W0 W : World} (h0 : On8 p s0 W0) (h : On8 p s W) {q : Nat} {x0 x1 x2 : Value} (e : W.heap[q]? = some (.cells #[x0, x1, x2] 203 (0, 0))) (hq : W0.heap.size ≤ q) (u0 u1 u2 : Value) : On8 p s (((W.setCell ⟨q, 0, none⟩ u0).setCell ⟨q, 1, none⟩ u1).setCell ⟨q, 2, none⟩ u2) := by
  obtain ⟨fv, hM, _⟩ := h0.M
  obtain ⟨tv, hS, _⟩ := h0.S
  have l1 := heap_lt hM
  have l2 := heap_lt h0.V
  have l3 := heap_lt hS
  have l4 := h0.O.size
  have g1 := heap_setCell_same (o := 0) e u0
  have g2 := heap_setCell_same (o := 1) g1 u1
  exact ((h.other e (by omega) (by omega) (by omega) (by decide) (by decide) (by omega) 0 u0).other g1 (by omega) (by omega) (by omega) (by decide) (by decide) (by omega) 1 u1).other g2 (by omega) (by omega) (by omega) (by decide) (by decide) (by omega) 2 u2
/-- An expression's function works a value out; the run is then at s'. -/
def Works (p : Pl8) (s s' : St8) (x r : Value) : Prop := ∃ (F : Nat) (caps : List Value), x = .func (.func F) #[] caps.toArray ∧ Enters F ∧ ∀ W, On8 p s W → Calls Tryz.prog F (.pointer (some ⟨p.m, 0, none⟩) :: caps).toArray W fun en w' => en = .returned r ∧ On8 p s' w' ∧ Kept p W w'
/-- Storing to a place. -/
def StoresK (p : Pl8) (s s' : St8) (fst k : Nat) (v : Value) : Prop := Enters fst ∧ ∀ W b2 nb, On8 p s W → W.heap[b2]? = some (.cells #[.pointer (some ⟨p.m, 0, none⟩)] 130 (0, 0)) → W.heap[nb]? = some (.cells #[.int .i64 k] 3 (0, 0)) → Calls Tryz.prog fst #[v, .pointer (some ⟨b2, 0, none⟩), .pointer (some ⟨nb, 0, none⟩)] W fun en w' => en = .returned (.tuple #[]) ∧ On8 p s' w' ∧ Kept p W w'
def setVar (cs : List Value) (k : Nat) (a n : Int) (t : ByteArray) : List Value := ((cs.set (k * 3) (.int .i64 a)).set (k * 3 + 1) (.int .i64 n)).set (k * 3 + 2) (.string t)
theorem cf310 (args : Array Value) (w : World) : (callFunc 310 args).run Tryz.prog w = .ok (.enter 310 args) w := callFunc_in Tryz.func310 (by kernel_rfl) rfl args w
theorem cf351 (args : Array Value) (w : World) : (callFunc 351 args).run Tryz.prog w = .ok (.enter 351 args) w := callFunc_in Tryz.func351 (by kernel_rfl) rfl args w
theorem cf353 (args : Array Value) (w : World) : (callFunc 353 args).run Tryz.prog w = .ok (.enter 353 args) w := callFunc_in Tryz.func353 (by kernel_rfl) rfl args w
end Go.Proofs.YtdbdbaepmdmnfaaGreatDoor

