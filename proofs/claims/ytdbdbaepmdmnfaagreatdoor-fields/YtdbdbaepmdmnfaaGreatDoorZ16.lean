import Derived.Test.YtdbdbaepmdmnfaaGreatDoorZ15
import Derived.LaidEql
import Derived.Test.YtdbdbaepmdmnfaaGreatDoorZ04
import Derived.Lib.Bytealg
import Derived.Deep.QuietTactic
import Derived.BigQuiet
import Derived.WalkLawsBesides
import Derived.Test.YtdbdbaepmdmnfaaGreatDoorZ12
import Derived.Test.YtdbdbaepmdmnfaaGreatDoorZ13
import Derived.RegionDies
namespace Go.Proofs.YtdbdbaepmdmnfaaGreatDoor
open Go.RowKit
/-- The lengths at the places of abc. -/
def LensOK (w : World) (v : Value) (first : Nat) : Prop := ∀ W, Only (fun _ => False) w W → Calls Tryz.prog 58 #[.agg #[v, .int .i64 first], .string ⟨#[97, 98, 99]⟩] W fun en w' => ∃ lb, en = .returned (.slice (some ⟨lb, 0, none⟩) 4 4) ∧ w'.heap[lb]? = some (.cells #[.int .i64 0, .int .i64 1, .int .i64 0, .int .i64 0] 3 (0, 0)) ∧ Only (fun _ => False) W w'
end Go.Proofs.YtdbdbaepmdmnfaaGreatDoor

namespace Go.Proofs.YtdbdbaepmdmnfaaGreatDoor
open Go.RowKit
theorem LensOK.only {w w' : World} {v : Value} {f : Nat} (h : LensOK w v f) (ho : Only (fun _ => False) w w') : LensOK w' v f := fun W hW => h W (ho.trans hW (fun _ _ e => e))
end Go.Proofs.YtdbdbaepmdmnfaaGreatDoor

namespace Go.Proofs.YtdbdbaepmdmnfaaGreatDoor
open Go.RowKit
/-- A run under way: what was there when the program was ready stands; the machine's three blocks are younger. -/
structure Under (wN wS W : World) (m ab vb sb : Nat) (txt : ByteArray) (size n : Nat) (sv : Value) (cs : List Value) : Prop where
  hm : wN.heap.size ≤ m
  hv : wN.heap.size ≤ vb
  hs : wN.heap.size ≤ sb
  nmv : m ≠ vb
  nms : m ≠ sb
  nvs : vb ≠ sb
  hM : ∃ po pn pc, MAt W m ab vb txt (.slice po pn pc) (.slice (some ⟨sb, 0, none⟩) 1 1) size n 0
  hV : VAt W vb cs
  hS : W.heap[sb]? = some (.cells #[.string ⟨#[]⟩, sv] 142 (0, 0))
  hO : Only (fun _ => False) wN W
  hT : Only (fun k => k = m ∨ k = vb ∨ k = sb) wS W
theorem Under.calm {wN wS W W' m ab vb sb txt size n sv cs} (h : Under wN wS W m ab vb sb txt size n sv cs) (ho : Only (fun _ => False) W W') : Under wN wS W' m ab vb sb txt size n sv cs := by
  obtain ⟨po, pn, pc, hM⟩ := h.hM
  exact ⟨h.hm, h.hv, h.hs, h.nmv, h.nms, h.nvs, ⟨po, pn, pc, hM.only ho (fun e => e)⟩, h.hV.only ho (fun e => e), (ho.block sb (heap_lt h.hS) (fun e => e)).trans h.hS, h.hO.trans ho (fun _ _ e => e), h.hT.trans ho (fun _ _ e => e.elim)⟩
theorem Under.step {wN wS W m ab vb sb txt size n sv cs} (h : Under wN wS W m ab vb sb txt size (n + 1) sv cs) : Under wN wS (W.setCell ⟨m, 7, none⟩ (.int .i64 n)) m ab vb sb txt size n sv cs := by
  obtain ⟨po, pn, pc, hM⟩ := h.hM
  have ho : Only (fun k => k = m) W (W.setCell ⟨m, 7, none⟩ (.int .i64 n)) := (Only.refl (fun k => k = m) W).setCell (p := ⟨m, 7, none⟩) (fun _ => rfl) _
  have hm := h.hm
  exact ⟨h.hm, h.hv, h.hs, h.nmv, h.nms, h.nvs, ⟨po, pn, pc, hM.setFuel n⟩, h.hV.only ho (fun e => h.nmv e.symm), (ho.block sb (heap_lt h.hS) (fun e => h.nms e.symm)).trans h.hS, h.hO.trans ho (fun q hq e => by omega), h.hT.trans ho (fun _ _ e => Or.inl e)⟩
end Go.Proofs.YtdbdbaepmdmnfaaGreatDoor

namespace Go.Proofs.YtdbdbaepmdmnfaaGreatDoor
open Go.RowKit
/-- The eight errors of package fault are there. -/
def Sent (w : World) : Prop := ∀ k, k ≤ 7 → ∃ a, w.cell? ⟨k, 0, none⟩ = some (.iface 558 (.pointer (some a)))
theorem Sent.only {w w' : World} (h : Sent w) (ho : Only (fun _ => False) w w') : Sent w' := fun k hk => by
  obtain ⟨a, ha⟩ := h k hk
  exact ⟨a, (ho.cell (p := ⟨k, 0, none⟩) (World.block_lt_of_cell? w _ ha) (fun e => e)).trans ha⟩
set_option maxRecDepth 100000 in
set_option maxHeartbeats 1000000 in
theorem is_nilA (b : Addr) (w : World) :
    Calls Tryz.prog 68 #[.nilIface, .iface 558 (.pointer (some b))] w fun e w' => e = .returned (.bool false) ∧ w' = w := by
  have hn := run_eql_iface_nil_left (P := Tryz.prog) w 558 (.pointer (some b)) Tryz.underlying74
  go_enter Tryz.func68, Tryz.ntmps68
  go_wp2
  go_ret
  exact ⟨rfl, rfl⟩
set_option maxRecDepth 100000 in
set_option maxHeartbeats 4000000 in
theorem errno_nil (w : World) (h : Sent w) : Calls Tryz.prog 43 #[.nilIface] w fun e w' => e = .returned (.int .i64 0) ∧ w' = w := by
  obtain ⟨b0, c0⟩ := h 0 (by decide)
  obtain ⟨b1, c1⟩ := h 1 (by decide)
  obtain ⟨b2, c2⟩ := h 2 (by decide)
  obtain ⟨b3, c3⟩ := h 3 (by decide)
  obtain ⟨b4, c4⟩ := h 4 (by decide)
  obtain ⟨b5, c5⟩ := h 5 (by decide)
  obtain ⟨b6, c6⟩ := h 6 (by decide)
  obtain ⟨b7, c7⟩ := h 7 (by decide)
  clear h
  have HN := hide is_nilA
  go_enter Tryz.func43, Tryz.ntmps43
  go_wp2_with (go_at_call 68; refine (HN.out _ _).mono ?_; rintro en w' ⟨rfl, h3⟩; subst w')
  go_ret
  exact ⟨rfl, rfl⟩
set_option maxRecDepth 100000 in
theorem mk49 (w : World) : (Instr.makeSlice 36 (.int .i64 1) (.int .i64 1)).run Tryz.prog w = .ok (.slice (some ⟨w.heap.size, 0, none⟩) 1 1) (w.alloc (.cells #[.string ⟨#[]⟩, .string ⟨#[]⟩] 41)) := by kernel_rfl
end Go.Proofs.YtdbdbaepmdmnfaaGreatDoor

namespace Go.Proofs.YtdbdbaepmdmnfaaGreatDoor
open Go.RowKit
theorem Under.only {wN wS W W' m ab vb sb txt size n sv cs} {D : Nat → Prop} (h : Under wN wS W m ab vb sb txt size n sv cs) (ho : Only D W W') (dm : ¬ D m) (dv : ¬ D vb) (ds : ¬ D sb) (hD : ∀ k, D k → wN.heap.size ≤ k) : Under wN W' W' m ab vb sb txt size n sv cs := by
  obtain ⟨po, pn, pc, hM⟩ := h.hM
  exact ⟨h.hm, h.hv, h.hs, h.nmv, h.nms, h.nvs, ⟨po, pn, pc, hM.only ho dm⟩, h.hV.only ho dv, (ho.block sb (heap_lt h.hS) ds).trans h.hS, h.hO.trans ho (fun q hq e => by have := hD q e; omega), Only.refl _ _⟩
theorem farCD {W : World} {p a : Addr} {v x : Value} (h : W.cell? a = some v) (hn : p.block ≠ a.block) : (W.setCell p x).drew.cell? a = some v := farC h hn
theorem cf91 (args : Array Value) (w : World) : (callFunc 62 args).run Tryz.prog w = .ok (.enter 62 args) w := callFunc_in Tryz.func62 (by kernel_rfl) rfl args w
theorem cf94 (args : Array Value) (w : World) : (callFunc 65 args).run Tryz.prog w = .ok (.enter 65 args) w := callFunc_in Tryz.func65 (by kernel_rfl) rfl args w
end Go.Proofs.YtdbdbaepmdmnfaaGreatDoor

namespace Go.Proofs.YtdbdbaepmdmnfaaGreatDoor
/-- The first line of a text, and what is behind its end. -/
def lineOf : List UInt8 → List UInt8
  | [] => []
  | c :: l => if c = 10 then [] else c :: lineOf l
def restOf : List UInt8 → List UInt8
  | [] => []
  | c :: l => if c = 10 then l else restOf l
def hasNl (l : List UInt8) : Bool := l.contains 10
theorem restOf_len (l : List UInt8) (h : l ≠ []) : (restOf l).length < l.length := by
  induction l with
  | nil => exact absurd rfl h
  | cons c l ih =>
    unfold restOf
    split
    · simp
    · by_cases hl : l = []
      · subst hl; simp [restOf]
      · have := ih hl; simp; omega
/-- Where the first newline stands. -/
theorem index_line (l : List UInt8) : (hasNl l = false ∧ Lib.indexByte l 10 = -1 ∧ lineOf l = l ∧ restOf l = []) ∨
    (hasNl l = true ∧ Lib.indexByte l 10 = ((lineOf l).length : Int) ∧ lineOf l = l.take (lineOf l).length ∧ restOf l = l.drop ((lineOf l).length + 1) ∧ (lineOf l).length < l.length) := by
  induction l with
  | nil => exact Or.inl ⟨rfl, rfl, rfl, rfl⟩
  | cons c l ih =>
    by_cases hc : c = 10
    · subst hc
      refine Or.inr ⟨by simp [hasNl], ?_, by simp [lineOf], by simp [lineOf, restOf], by simp [lineOf]⟩
      simp [Lib.indexByte, lineOf]
    · have hcb : (c == 10) = false := by rw [beq_eq_false_iff_ne]; exact hc
      have h1 : lineOf (c :: l) = c :: lineOf l := by rw [lineOf, if_neg hc]
      have h2 : restOf (c :: l) = restOf l := by rw [restOf, if_neg hc]
      have h3 : hasNl (c :: l) = hasNl l := by
        unfold hasNl
        rw [List.contains_cons]
        have : ((10 : UInt8) == c) = false := by rw [beq_eq_false_iff_ne]; exact Ne.symm hc
        rw [this, Bool.false_or]
      rw [h1, h2, h3, Lib.indexByte, hcb]
      rcases ih with ⟨g1, g2, g3, g4⟩ | ⟨g1, g2, g3, g4, g5⟩
      · exact Or.inl ⟨g1, by rw [g2]; rfl, by rw [g3], g4⟩
      · refine Or.inr ⟨g1, ?_, by simp; exact g3, by simp; exact g4, by simp; exact g5⟩
        rw [g2]
        have : (((lineOf l).length : Int) == -1) = false := by rw [beq_eq_false_iff_ne]; omega
        rw [this]
        simp
/-- The records of an input. -/
def recsN : Nat → List UInt8 → List (List UInt8)
  | 0, _ => []
  | n + 1, l => if l = [] then [] else lineOf l :: recsN n (restOf l)
theorem recsN_enough {n m : Nat} {l : List UInt8} (hn : l.length ≤ n) (hm : l.length ≤ m) : recsN n l = recsN m l := by
  induction n generalizing m l with
  | zero =>
    have : l = [] := List.length_eq_zero_iff.1 (by omega)
    subst this
    cases m <;> simp [recsN]
  | succ n ih =>
    cases m with
    | zero =>
      have : l = [] := List.length_eq_zero_iff.1 (by omega)
      subst this
      simp [recsN]
    | succ m =>
      by_cases hl : l = []
      · simp [recsN, hl]
      · have := restOf_len l hl
        rw [recsN, recsN, if_neg hl, if_neg hl, ih (m := m) (by omega) (by omega)]
def recs (l : List UInt8) : List (List UInt8) := recsN l.length l
theorem recs_nil : recs [] = [] := rfl
theorem recs_cons {l : List UInt8} (h : l ≠ []) : recs l = lineOf l :: recs (restOf l) := by
  unfold recs
  have h1 := restOf_len l h
  obtain ⟨n, hn⟩ : ∃ n, l.length = n + 1 := ⟨l.length - 1, by omega⟩
  rw [hn, recsN, if_neg h, recsN_enough (m := (restOf l).length) (by omega) (Nat.le_refl _)]
end Go.Proofs.YtdbdbaepmdmnfaaGreatDoor

namespace Go.Proofs.YtdbdbaepmdmnfaaGreatDoor
open Go.RowKit
/-- Where a byte stands first. -/
theorem run_ib (s : ByteArray) (w : World) : (callFunc 354 #[.string s, .int .u8 10]).run Tryz.prog w = .ok (.value (.int .i64 (Lib.indexByte s.data.toList 10))) w := by
  rw [run_callFunc_extern Tryz.func354 (by kernel_rfl) (by kernel_rfl) (by kernel_rfl) (e := Extern.BytealgIndexByte.indexByte) (by kernel_rfl), Lib.run_indexByteString]
  rfl
set_option maxRecDepth 20000 in
set_option maxHeartbeats 1000000 in
theorem ib_any (s : ByteArray) (w : World) : Calls Tryz.prog 229 #[.string s, .int .u8 10] w fun en w' => en = .returned (.int .i64 (Lib.indexByte s.data.toList 10)) ∧ w' = w := by
  have hx := run_ib s
  go_enter Tryz.func229, Tryz.ntmps229
  go_wp2
  go_ret
  exact ⟨rfl, rfl⟩
set_option maxRecDepth 20000 in
set_option maxHeartbeats 2000000 in
theorem ix_any (s : ByteArray) (w : World) : Calls Tryz.prog 164 #[.string s, .string ⟨#[10]⟩] w fun en w' => en = .returned (.int .i64 (Lib.indexByte s.data.toList 10)) ∧ w' = w := by
  have HI := hide (ib_any s)
  by_cases h10 : ([10] == s.toList) = true
  · have hz : Lib.indexByte s.data.toList 10 = 0 := by
      rw [ByteArray.toList_eq] at h10
      rw [← eq_of_beq h10]; rfl
    rw [hz] at HI ⊢
    go_enter Tryz.func164, Tryz.ntmps164
    go_wp2_with (go_at_call 229; refine (HI.out _).mono ?_; rintro en w' ⟨rfl, h3⟩; subst w')
    all_goals go_ret
    all_goals exact ⟨rfl, rfl⟩
  · have h10' : ([10] == s.toList) = false := by rw [← Bool.not_eq_true]; exact h10
    clear h10
    go_enter Tryz.func164, Tryz.ntmps164
    go_wp2_with (go_at_call 229; refine (HI.out _).mono ?_; rintro en w' ⟨rfl, h3⟩; subst w')
    all_goals go_ret
    all_goals exact ⟨rfl, rfl⟩
theorem line_extract {s : ByteArray} (h : lineOf s.data.toList = s.data.toList.take (lineOf s.data.toList).length) : s.extract 0 (lineOf s.data.toList).length = ofB (lineOf s.data.toList) := by
  rw [extract_cut]
  unfold cutL
  rw [List.drop_zero, Nat.sub_zero, ← h]
theorem rest_extract {s : ByteArray} (h : restOf s.data.toList = s.data.toList.drop ((lineOf s.data.toList).length + 1)) : s.extract ((lineOf s.data.toList).length + 1) s.size = ofB (restOf s.data.toList) := by
  rw [extract_cut, h]
  unfold cutL
  rw [List.take_of_length_le (by rw [List.length_drop, len_eq]; omega)]
set_option maxRecDepth 20000 in
set_option maxHeartbeats 2000000 in
theorem cutL_any (s : ByteArray) (hs : s.size ≤ 100000) (w : World) : Calls Tryz.prog 130 #[.string s, .string ⟨#[10]⟩] w fun en w' => en = .returned (.tuple #[.string (ofB (lineOf s.data.toList)), .string (ofB (restOf s.data.toList)), .bool (hasNl s.data.toList)]) ∧ Only (fun _ => False) w w' := by
  have HI := hide (ix_any s)
  rcases index_line s.data.toList with ⟨g1, g2, g3, g4⟩ | ⟨g1, g2, g3, g4, g5⟩
  · rw [g1, g3, g4]
    rw [g2] at HI
    go_enter Tryz.func130, Tryz.ntmps130
    go_wp2_with (go_at_call 164; refine (HI.out _).mono ?_; rintro en w' ⟨rfl, h3⟩; subst w')
    refine bodyPost_ret (v := .tuple #[.string s, .string ⟨#[]⟩, .bool false]) (by simp [results, Tryz.results130, go_sem]) rfl ⟨rfl, Only.refl _ _⟩
  · have e1 := line_extract g3
    have e2 := rest_extract g4
    rw [g1]
    rw [g2] at HI
    rw [len_eq] at g5
    generalize (lineOf s.data.toList).length = k at *
    have hk0 : (0 : Int) ≤ (k : Int) := by omega
    have hk1 : (k : Int) + 1 ≤ (s.size : Int) := by omega
    go_enter Tryz.func130, Tryz.ntmps130
    go_wp2_with (go_at_call 164; refine (HI.out _).mono ?_; rintro en w' ⟨rfl, h3⟩; subst w')
    go_quiet (fail)
    go_wp2
    refine bodyPost_ret (v := .tuple #[.string (ofB (lineOf s.data.toList)), .string (ofB (restOf s.data.toList)), .bool true]) (by simp [results, Tryz.results130, go_sem, g3, g4]) rfl ⟨rfl, (Only.refl _ _).drewN _⟩
set_option maxRecDepth 20000 in
set_option maxHeartbeats 2000000 in
theorem cutS_any (s : ByteArray) (hs : s.size ≤ 100000) (w : World) : Calls Tryz.prog 99 #[.string s, .string ⟨#[10]⟩] w fun en w' => en = .returned (.tuple #[.string (ofB (lineOf s.data.toList)), .string (ofB (restOf s.data.toList)), .bool (hasNl s.data.toList)]) ∧ Only (fun _ => False) w w' := by
  have HI := hide (cutL_any s hs)
  generalize ofB (lineOf s.data.toList) = a at *
  generalize ofB (restOf s.data.toList) = b at *
  generalize hasNl s.data.toList = c at *
  go_enter Tryz.func99, Tryz.ntmps99
  go_wp2_with (go_at_call 130; refine (HI.out _).mono ?_; rintro en w2 ⟨rfl, h3⟩; have HO := hide h3; clear h3)
  refine bodyPost_ret (v := .tuple #[.string a, .string b, .bool c]) (by simp [results, Tryz.results99, go_sem]) rfl ⟨rfl, HO.out⟩
end Go.Proofs.YtdbdbaepmdmnfaaGreatDoor

namespace Go.Proofs.YtdbdbaepmdmnfaaGreatDoor
open Go.RowKit
/-- The value that a run that gives up throws. -/
def thrown (a : Addr) : Value := .iface 207 (.agg #[.iface 558 (.pointer (some a))])
def Threw (a : Addr) (en : Ending) : Prop := en = .panicked [{ v := thrown a, recovered := false }]
end Go.Proofs.YtdbdbaepmdmnfaaGreatDoor

namespace Go.Proofs.YtdbdbaepmdmnfaaGreatDoor
open Go.RowKit
theorem strCells_append (a b : ByteArray) : Lib.strCells (a ++ b) = Lib.strCells a ++ Lib.strCells b := by
  unfold Lib.strCells
  rw [ByteArray.data_append]
  simp
end Go.Proofs.YtdbdbaepmdmnfaaGreatDoor

namespace Go.Proofs.YtdbdbaepmdmnfaaGreatDoor
open Go.RowKit
/-- A run under way that has put out a text. -/
structure UnderL (wN wS W : World) (m ab vb sb : Nat) (txt out : ByteArray) (n : Nat) (cs : List Value) : Prop where
  hNS : wN.heap.size ≤ wS.heap.size
  lm : m < wS.heap.size
  lv : vb < wS.heap.size
  ls : sb < wS.heap.size
  ex : ∃ tv, Under wN wS W m ab vb sb txt out.size n tv cs ∧ W.ownsRow wS.heap.size 5 1 tv out.size (Lib.strCells out)
theorem UnderL.calm {wN wS W W' m ab vb sb txt out n cs} (h : UnderL wN wS W m ab vb sb txt out n cs) (ho : Only (fun _ => False) W W') : UnderL wN wS W' m ab vb sb txt out n cs := by
  obtain ⟨a, b, c, d, tv, h1, h2⟩ := h
  exact ⟨a, b, c, d, tv, h1.calm ho, ownsRow_of h2 (fun k hk => ho.block k (h2.lt k hk).2 (fun e => e))⟩
theorem UnderL.step {wN wS W m ab vb sb txt out n cs} (h : UnderL wN wS W m ab vb sb txt out (n + 1) cs) : UnderL wN wS (W.setCell ⟨m, 7, none⟩ (.int .i64 n)) m ab vb sb txt out n cs := by
  obtain ⟨a, b, c, d, tv, h1, h2⟩ := h
  obtain ⟨po, pn, pc, hM⟩ := h1.hM
  have hne := own_tag h2 hM (by decide)
  exact ⟨a, b, c, d, tv, h1.step, ownsRow_of h2 (fun k hk => Below.heap_setCell _ _ _ _ (fun e => hne (by rw [hk, e])))⟩
end Go.Proofs.YtdbdbaepmdmnfaaGreatDoor

namespace Go.Proofs.YtdbdbaepmdmnfaaGreatDoor
open Go.RowKit
theorem ofB_sizeR (l : List UInt8) : (ofB l).size = l.length := by show l.toArray.size = _; simp
theorem ofB_appendR (a b : List UInt8) : ofB a ++ ofB b = ofB (a ++ b) := by
  apply ByteArray.ext
  rw [ByteArray.data_append]
  apply Array.toList_inj.1
  simp [ofB]
def Few (r : List UInt8) : Prop := (words [] r).length ≤ 40
def AllFew (L : List (List UInt8)) : Prop := ∀ r, r ∈ L → Few r
end Go.Proofs.YtdbdbaepmdmnfaaGreatDoor

namespace Go.Proofs.YtdbdbaepmdmnfaaGreatDoor
open Go.RowKit
set_option maxRecDepth 100000 in
theorem mk289G (w : World) : (Instr.makeSlice 180 (.int .i64 0) (.int .i64 0)).run Tryz.prog w = .ok (.slice (some ⟨w.heap.size, 0, none⟩) 0 0) (w.alloc (.cells #[] 187)) := by kernel_rfl
theorem len287G (W : World) (r : Nat) (es : Array MapEntry) (c : Nat) (hb : W.heap[r]? = some (.map es c)) : (Builtin.len_ #[178] 3 #[.map (some r)]).run Tryz.prog W = .ok (.int .i64 es.size) W := by
  simp [Builtin.len_, run_underlying Tryz.underlying178, MapKept.run_getObj_map hb, goInt, Result.andThen]
/-- A maker with the variables that are there from the beginning, and no parameters. -/
structure MkAt (W : World) (kb mv ma mf sg : Nat) : Prop where
  k : W.heap[kb]? = some (.cells #[.map (some mv), .map (some ma), .map (some mf), .slice (some ⟨sg, 0, none⟩) 0 0, .slice none 0 0] 182 (0, 0))
  v : W.heap[mv]? = some (.map firstVs 7)
  a : W.heap[ma]? = some (.map #[] 0)
/-- What was put to a program stays, whatever else of the program turns. -/
structure KeepsG (G : Nat → World → Value → Value → Value → Prop) : Prop where
  keep : ∀ B w w' a b c pb x, G B w a b c → w.heap[pb]? = some (.cells x 135 (0, 0)) → pb < B → Only (fun q => q = pb) w w' → G B w' a b c
  down : ∀ A B w a b c, G B w a b c → A ≤ B → G A w a b c
end Go.Proofs.YtdbdbaepmdmnfaaGreatDoor

