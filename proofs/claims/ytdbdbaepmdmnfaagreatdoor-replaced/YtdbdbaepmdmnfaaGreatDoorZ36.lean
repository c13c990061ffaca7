import Derived.Test.YtdbdbaepmdmnfaaGreatDoorZ25
import Derived.Test.YtdbdbaepmdmnfaaGreatDoorZ33
import Derived.Test.YtdbdbaepmdmnfaaGreatDoorZ06
import Derived.Lib.Bytealg
import Derived.Deep.QuietTactic
import Derived.BigQuiet
import Derived.RegionDies
import Derived.WalkLawsBesides
import Derived.Test.YtdbdbaepmdmnfaaGreatDoorZ28
import Derived.Deep.RegionHeldLaw
import Derived.Test.YtdbdbaepmdmnfaaGreatDoorZ20
import Derived.LaidEql
import Derived.Recover
import Derived.Stop.Asserts
import Derived.Test.YtdbdbaepmdmnfaaGreatDoorZ30
import Derived.Test.YtdbdbaepmdmnfaaGreatDoorZ29
import Derived.Test.YtdbdbaepmdmnfaaGreatDoorZ35
import Derived.Laws.OwnMore
import Derived.Deep.Slices
import Derived.SliceStrings
import Derived.SizedLaws
import Derived.ProofKit
import Derived.Deep.RegionHeld3
import Derived.Deep.DeepCutAuto
import Derived.Test.YtdbdbaepmdmnfaaGreatDoorZ27
import Derived.Lib.ItoaNum
import Derived.KernelRfl
import Derived.Test.YtdbdbaepmdmnfaaGreatDoorZ34
namespace Go.Proofs.YtdbdbaepmdmnfaaGreatDoor
open Go.RowKit
/-- A run under way that has put out a text. -/
structure UnderL (wN wS W : World) (m ab vb sb : Nat) (txt out : ByteArray) (n : Nat) (cs : List Value) : Prop where
  hNS : wN.heap.size ≤ wS.heap.size
  lm : m < wS.heap.size
  lv : vb < wS.heap.size
  ls : sb < wS.heap.size
  ex : ∃ tv, Under wN wS W m ab vb sb txt out.size n tv cs ∧ W.ownsRow wS.heap.size 5 1 tv out.size (Lib.strCells out)
theorem UnderL.calm {wN wS W W' m ab vb sb txt out n cs} (h : UnderL wN wS W m ab vb sb txt out n cs) (ho : Only (fun _ => False) W W') : UnderL wN wS W' m ab vb sb txt out n cs := by
  obtain ⟨a, b, c, d, tv, h1, h2⟩ := h
  exact ⟨a, b, c, d, tv, h1.calm ho, ownsRow_of h2 (fun k hk => ho.block k (h2.lt k hk).2 (fun e => e))⟩
theorem UnderL.step {wN wS W m ab vb sb txt out n cs} (h : UnderL wN wS W m ab vb sb txt out (n + 1) cs) : UnderL wN wS (W.setCell ⟨m, 7, none⟩ (.int .i64 n)) m ab vb sb txt out n cs := by
  obtain ⟨a, b, c, d, tv, h1, h2⟩ := h
  obtain ⟨po, pn, pc, hM⟩ := h1.hM
  have hne := own_tag h2 hM (by decide)
  exact ⟨a, b, c, d, tv, h1.step, ownsRow_of h2 (fun k hk => Below.heap_setCell _ _ _ _ (fun e => hne (by rw [hk, e])))⟩
end Go.Proofs.YtdbdbaepmdmnfaaGreatDoor

namespace Go.Proofs.YtdbdbaepmdmnfaaGreatDoor
/-- The first line of a text, and what is behind its end. -/
def lineOf : List UInt8 → List UInt8
  | [] => []
  | c :: l => if c = 10 then [] else c :: lineOf l
def restOf : List UInt8 → List UInt8
  | [] => []
  | c :: l => if c = 10 then l else restOf l
def hasNl (l : List UInt8) : Bool := l.contains 10
/-- Where the first newline stands. -/
theorem index_line (l : List UInt8) : (hasNl l = false ∧ Lib.indexByte l 10 = -1 ∧ lineOf l = l ∧ restOf l = []) ∨
    (hasNl l = true ∧ Lib.indexByte l 10 = ((lineOf l).length : Int) ∧ lineOf l = l.take (lineOf l).length ∧ restOf l = l.drop ((lineOf l).length + 1) ∧ (lineOf l).length < l.length) := by
  induction l with
  | nil => exact Or.inl ⟨rfl, rfl, rfl, rfl⟩
  | cons c l ih =>
    by_cases hc : c = 10
    · subst hc
      refine Or.inr ⟨by simp [hasNl], ?_, by simp [lineOf], by simp [lineOf, restOf], by simp [lineOf]⟩
      simp [Lib.indexByte, lineOf]
    · have hcb : (c == 10) = false := by rw [beq_eq_false_iff_ne]; exact hc
      have h1 : lineOf (c :: l) = c :: lineOf l := by rw [lineOf, if_neg hc]
      have h2 : restOf (c :: l) = restOf l := by rw [restOf, if_neg hc]
      have h3 : hasNl (c :: l) = hasNl l := by
        unfold hasNl
        rw [List.contains_cons]
        have : ((10 : UInt8) == c) = false := by rw [beq_eq_false_iff_ne]; exact Ne.symm hc
        rw [this, Bool.false_or]
      rw [h1, h2, h3, Lib.indexByte, hcb]
      rcases ih with ⟨g1, g2, g3, g4⟩ | ⟨g1, g2, g3, g4, g5⟩
      · exact Or.inl ⟨g1, by rw [g2]; rfl, by rw [g3], g4⟩
      · refine Or.inr ⟨g1, ?_, by simp; exact g3, by simp; exact g4, by simp; exact g5⟩
        rw [g2]
        have : (((lineOf l).length : Int) == -1) = false := by rw [beq_eq_false_iff_ne]; omega
        rw [this]
        simp
end Go.Proofs.YtdbdbaepmdmnfaaGreatDoor

namespace Go.Proofs.YtdbdbaepmdmnfaaGreatDoor
open Go.RowKit
/-- Where a byte stands first. -/
theorem run_ib (s : ByteArray) (w : World) : (callFunc 354 #[.string s, .int .u8 10]).run Tryz.prog w = .ok (.value (.int .i64 (Lib.indexByte s.data.toList 10))) w := by
  rw [run_callFunc_extern Tryz.func354 (by kernel_rfl) (by kernel_rfl) (by kernel_rfl) (e := Extern.BytealgIndexByte.indexByte) (by kernel_rfl), Lib.run_indexByteString]
  rfl
set_option maxRecDepth 20000 in
set_option maxHeartbeats 1000000 in
theorem ib_any (s : ByteArray) (w : World) : Calls Tryz.prog 229 #[.string s, .int .u8 10] w fun en w' => en = .returned (.int .i64 (Lib.indexByte s.data.toList 10)) ∧ w' = w := by
  have hx := run_ib s
  go_enter Tryz.func229, Tryz.ntmps229
  go_wp2
  go_ret
  exact ⟨rfl, rfl⟩
set_option maxRecDepth 20000 in
set_option maxHeartbeats 2000000 in
theorem ix_any (s : ByteArray) (w : World) : Calls Tryz.prog 164 #[.string s, .string ⟨#[10]⟩] w fun en w' => en = .returned (.int .i64 (Lib.indexByte s.data.toList 10)) ∧ w' = w := by
  have HI := hide (ib_any s)
  by_cases h10 : ([10] == s.toList) = true
  · have hz : Lib.indexByte s.data.toList 10 = 0 := by
      rw [ByteArray.toList_eq] at h10
      rw [← eq_of_beq h10]; rfl
    rw [hz] at HI ⊢
    go_enter Tryz.func164, Tryz.ntmps164
    go_wp2_with (go_at_call 229; refine (HI.out _).mono ?_; rintro en w' ⟨rfl, h3⟩; subst w')
    all_goals go_ret
    all_goals exact ⟨rfl, rfl⟩
  · have h10' : ([10] == s.toList) = false := by rw [← Bool.not_eq_true]; exact h10
    clear h10
    go_enter Tryz.func164, Tryz.ntmps164
    go_wp2_with (go_at_call 229; refine (HI.out _).mono ?_; rintro en w' ⟨rfl, h3⟩; subst w')
    all_goals go_ret
    all_goals exact ⟨rfl, rfl⟩
theorem line_extract {s : ByteArray} (h : lineOf s.data.toList = s.data.toList.take (lineOf s.data.toList).length) : s.extract 0 (lineOf s.data.toList).length = ofB (lineOf s.data.toList) := by
  rw [extract_cut]
  unfold cutL
  rw [List.drop_zero, Nat.sub_zero, ← h]
theorem rest_extract {s : ByteArray} (h : restOf s.data.toList = s.data.toList.drop ((lineOf s.data.toList).length + 1)) : s.extract ((lineOf s.data.toList).length + 1) s.size = ofB (restOf s.data.toList) := by
  rw [extract_cut, h]
  unfold cutL
  rw [List.take_of_length_le (by rw [List.length_drop, len_eq]; omega)]
set_option maxRecDepth 20000 in
set_option maxHeartbeats 2000000 in
theorem cutL_any (s : ByteArray) (hs : s.size ≤ 100000) (w : World) : Calls Tryz.prog 130 #[.string s, .string ⟨#[10]⟩] w fun en w' => en = .returned (.tuple #[.string (ofB (lineOf s.data.toList)), .string (ofB (restOf s.data.toList)), .bool (hasNl s.data.toList)]) ∧ Only (fun _ => False) w w' := by
  have HI := hide (ix_any s)
  rcases index_line s.data.toList with ⟨g1, g2, g3, g4⟩ | ⟨g1, g2, g3, g4, g5⟩
  · rw [g1, g3, g4]
    rw [g2] at HI
    go_enter Tryz.func130, Tryz.ntmps130
    go_wp2_with (go_at_call 164; refine (HI.out _).mono ?_; rintro en w' ⟨rfl, h3⟩; subst w')
    refine bodyPost_ret (v := .tuple #[.string s, .string ⟨#[]⟩, .bool false]) (by simp [results, Tryz.results130, go_sem]) rfl ⟨rfl, Only.refl _ _⟩
  · have e1 := line_extract g3
    have e2 := rest_extract g4
    rw [g1]
    rw [g2] at HI
    rw [len_eq] at g5
    generalize (lineOf s.data.toList).length = k at *
    have hk0 : (0 : Int) ≤ (k : Int) := by omega
    have hk1 : (k : Int) + 1 ≤ (s.size : Int) := by omega
    go_enter Tryz.func130, Tryz.ntmps130
    go_wp2_with (go_at_call 164; refine (HI.out _).mono ?_; rintro en w' ⟨rfl, h3⟩; subst w')
    go_quiet (fail)
    go_wp2
    refine bodyPost_ret (v := .tuple #[.string (ofB (lineOf s.data.toList)), .string (ofB (restOf s.data.toList)), .bool true]) (by simp [results, Tryz.results130, go_sem, g3, g4]) rfl ⟨rfl, (Only.refl _ _).drewN _⟩
set_option maxRecDepth 20000 in
set_option maxHeartbeats 2000000 in
theorem cutS_any (s : ByteArray) (hs : s.size ≤ 100000) (w : World) : Calls Tryz.prog 99 #[.string s, .string ⟨#[10]⟩] w fun en w' => en = .returned (.tuple #[.string (ofB (lineOf s.data.toList)), .string (ofB (restOf s.data.toList)), .bool (hasNl s.data.toList)]) ∧ Only (fun _ => False) w w' := by
  have HI := hide (cutL_any s hs)
  generalize ofB (lineOf s.data.toList) = a at *
  generalize ofB (restOf s.data.toList) = b at *
  generalize hasNl s.data.toList = c at *
  go_enter Tryz.func99, Tryz.ntmps99
  go_wp2_with (go_at_call 130; refine (HI.out _).mono ?_; rintro en w2 ⟨rfl, h3⟩; have HO := hide h3; clear h3)
  refine bodyPost_ret (v := .tuple #[.string a, .string b, .bool c]) (by simp [results, Tryz.results99, go_sem]) rfl ⟨rfl, HO.out⟩
end Go.Proofs.YtdbdbaepmdmnfaaGreatDoor

namespace Go.Proofs.YtdbdbaepmdmnfaaGreatDoor
open Go.RowKit
theorem ofB_sizeR (l : List UInt8) : (ofB l).size = l.length := by show l.toArray.size = _; simp
theorem ofB_appendR (a b : List UInt8) : ofB a ++ ofB b = ofB (a ++ b) := by
  apply ByteArray.ext
  rw [ByteArray.data_append]
  apply Array.toList_inj.1
  simp [ofB]
end Go.Proofs.YtdbdbaepmdmnfaaGreatDoor

namespace Go.Proofs.YtdbdbaepmdmnfaaGreatDoor
open Go.RowKit
theorem Under.only {wN wS W W' m ab vb sb txt size n sv cs} {D : Nat → Prop} (h : Under wN wS W m ab vb sb txt size n sv cs) (ho : Only D W W') (dm : ¬ D m) (dv : ¬ D vb) (ds : ¬ D sb) (hD : ∀ k, D k → wN.heap.size ≤ k) : Under wN W' W' m ab vb sb txt size n sv cs := by
  obtain ⟨po, pn, pc, hM⟩ := h.hM
  exact ⟨h.hm, h.hv, h.hs, h.nmv, h.nms, h.nvs, ⟨po, pn, pc, hM.only ho dm⟩, h.hV.only ho dv, (ho.block sb (heap_lt h.hS) ds).trans h.hS, h.hO.trans ho (fun q hq e => by have := hD q e; omega), Only.refl _ _⟩
theorem farCD {W : World} {p a : Addr} {v x : Value} (h : W.cell? a = some v) (hn : p.block ≠ a.block) : (W.setCell p x).drew.cell? a = some v := farC h hn
theorem cf91 (args : Array Value) (w : World) : (callFunc 62 args).run Tryz.prog w = .ok (.enter 62 args) w := callFunc_in Tryz.func62 (by kernel_rfl) rfl args w
theorem cf94 (args : Array Value) (w : World) : (callFunc 65 args).run Tryz.prog w = .ok (.enter 65 args) w := callFunc_in Tryz.func65 (by kernel_rfl) rfl args w
end Go.Proofs.YtdbdbaepmdmnfaaGreatDoor

namespace Go.Proofs.YtdbdbaepmdmnfaaGreatDoor
open Go.RowKit
/-- A program of one rule for records. -/
def RuleG (K : Nat → World → Value → Prop) (B : Nat) (w : World) (a b c : Value) : Prop := a = .slice none 0 0 ∧ c = .slice none 0 0 ∧ RuleF K B w b
theorem ruleG_keeps {K : Nat → World → Value → Prop} (hK : Keeps K) : KeepsG (RuleG K) where
  keep := fun B w w' a b c pb x ⟨e1, e2, cg, y, h1, h2⟩ hp hlt ho => ⟨e1, e2, cg, y, ownsRow_of h1 (fun k hk => ho.block k (h1.lt k hk).2 (fun e => own_tag h1 hp (by decide) (by rw [hk, e]))), hK.keep _ _ _ _ h2 (ho.mono (fun q _ e => by omega))⟩
  down := fun A B w a b c ⟨e1, e2, cg, y, h1, h2⟩ hA => ⟨e1, e2, cg, y, h1, hK.down _ _ _ _ h2 hA⟩
end Go.Proofs.YtdbdbaepmdmnfaaGreatDoor

namespace Go.Proofs.YtdbdbaepmdmnfaaGreatDoor
open Go.RowKit
/-- The program that prints each record. -/
def P1 : ByteArray := ⟨#[123, 32, 112, 114, 105, 110, 116, 32, 125]⟩
/-- The tree of the program's one block. -/
def V1 (pb : Nat) : World → Value → Prop := BlockT pb 1 (fun _ => Is printV)
end Go.Proofs.YtdbdbaepmdmnfaaGreatDoor

namespace Go.Proofs.YtdbdbaepmdmnfaaGreatDoor
open Go.RowKit
/-- The eight errors of package fault are there. -/
def Sent (w : World) : Prop := ∀ k, k ≤ 7 → ∃ a, w.cell? ⟨k, 0, none⟩ = some (.iface 558 (.pointer (some a)))
theorem Sent.only {w w' : World} (h : Sent w) (ho : Only (fun _ => False) w w') : Sent w' := fun k hk => by
  obtain ⟨a, ha⟩ := h k hk
  exact ⟨a, (ho.cell (p := ⟨k, 0, none⟩) (World.block_lt_of_cell? w _ ha) (fun e => e)).trans ha⟩
set_option maxRecDepth 100000 in
set_option maxHeartbeats 1000000 in
theorem is_nilA (b : Addr) (w : World) :
    Calls Tryz.prog 68 #[.nilIface, .iface 558 (.pointer (some b))] w fun e w' => e = .returned (.bool false) ∧ w' = w := by
  have hn := run_eql_iface_nil_left (P := Tryz.prog) w 558 (.pointer (some b)) Tryz.underlying74
  go_enter Tryz.func68, Tryz.ntmps68
  go_wp2
  go_ret
  exact ⟨rfl, rfl⟩
set_option maxRecDepth 100000 in
set_option maxHeartbeats 4000000 in
theorem errno_nil (w : World) (h : Sent w) : Calls Tryz.prog 43 #[.nilIface] w fun e w' => e = .returned (.int .i64 0) ∧ w' = w := by
  obtain ⟨b0, c0⟩ := h 0 (by decide)
  obtain ⟨b1, c1⟩ := h 1 (by decide)
  obtain ⟨b2, c2⟩ := h 2 (by decide)
  obtain ⟨b3, c3⟩ := h 3 (by decide)
  obtain ⟨b4, c4⟩ := h 4 (by decide)
  obtain ⟨b5, c5⟩ := h 5 (by decide)
  obtain ⟨b6, c6⟩ := h 6 (by decide)
  obtain ⟨b7, c7⟩ := h 7 (by decide)
  clear h
  have HN := hide is_nilA
  go_enter Tryz.func43, Tryz.ntmps43
  go_wp2_with (go_at_call 68; refine (HN.out _ _).mono ?_; rintro en w' ⟨rfl, h3⟩; subst w')
  go_ret
  exact ⟨rfl, rfl⟩
set_option maxRecDepth 100000 in
theorem mk49 (w : World) : (Instr.makeSlice 36 (.int .i64 1) (.int .i64 1)).run Tryz.prog w = .ok (.slice (some ⟨w.heap.size, 0, none⟩) 1 1) (w.alloc (.cells #[.string ⟨#[]⟩, .string ⟨#[]⟩] 41)) := by kernel_rfl
end Go.Proofs.YtdbdbaepmdmnfaaGreatDoor

namespace Go.Proofs.YtdbdbaepmdmnfaaGreatDoor
open Go.RowKit
set_option maxRecDepth 20000 in
set_option maxHeartbeats 4000000 in
theorem streams_ofL (sb : Nat) (tv : Value) (M : List UInt8) (w : World) (hS : w.heap[sb]? = some (.cells #[.string ⟨#[]⟩, tv] 142 (0, 0))) (hown : w.ownsRow 0 5 1 tv M.length (M.map byV)) :
    Calls Tryz.prog 42 #[.slice (some ⟨sb, 0, none⟩) 1 1] w fun en w' => ∃ g, en = .returned (.slice (some ⟨g, 0, none⟩) 1 1) ∧ w'.heap[g]? = some (.cells #[.string ⟨#[]⟩, .string (ofB M)] 41 (0, 0)) ∧ Only (fun _ => False) w w' := by
  have hmk := mk49
  obtain ⟨po, cap, rfl⟩ := ownsRow_slice hown
  have s0 : w.cell? ⟨sb, 0, none⟩ = some (.string ⟨#[]⟩) := cell_of hS rfl
  have s1 : w.cell? ⟨sb, 1, none⟩ = some (.slice po M.length cap) := cell_of hS rfl
  have sl := heap_lt hS
  have kc : Hid (∀ W, Only (fun _ => False) w W → (convert 54 9 (.slice po M.length cap)).run Tryz.prog W = .ok (.string (ofB M)) W) := fun W hW => bytes_conv (M := M) (ownsRow_of hown (fun k hk => hW.block k (hown.lt k hk).2 (fun e => e)))
  clear hS hown
  go_enter Tryz.func42, Tryz.ntmps42
  go_wp2
  go_loopg [11] 1 (fun gh s11 wr => (gh = 1 ∧ s11 = .int .i64 0 ∧ w.alloc (.cells #[.string ⟨#[]⟩, .string ⟨#[]⟩] 41) = wr) ∨ (gh = 0 ∧ s11 = .int .i64 1 ∧ wr.heap[w.heap.size]? = some (.cells #[.string ⟨#[]⟩, .string (ofB M)] 41 (0, 0)) ∧ Only (fun _ => False) w wr))
  case atStart => exact Or.inl ⟨rfl, rfl, rfl⟩
  case round =>
    rcases hrel with ⟨hg, rfl, ew⟩ | ⟨hg, rfl, hb, ho⟩
    · subst ew
      subst hg
      have hkc := kc.out ((w.alloc (.cells #[.string ⟨#[]⟩, .string ⟨#[]⟩] 41)).alloc (.cells #[.string ⟨#[]⟩, .slice po M.length cap] 142)) ((onlyA w _).alloc _)
      go_wp2
      go_roundg 0
      case measure => omega
      case rel =>
        refine Or.inr ⟨rfl, by go_num, ?_, ?_⟩
        · exact (Below.heap_alloc _ _ _ (by simp)).trans (new0 w _)
        · exact (onlyA w _).alloc _
    · have HB := hide hb
      have HO := hide ho
      clear hb ho
      go_wp2
      go_ret
      exact ⟨_, rfl, HB.out, HO.out⟩
end Go.Proofs.YtdbdbaepmdmnfaaGreatDoor

namespace Go.Proofs.YtdbdbaepmdmnfaaGreatDoor
open Go.RowKit
/-- The errors are there; the one for fields lies apart from the two that are asked for ahead of it. -/
structure SentF (w : World) (a : Addr) : Prop where
  s : Sent w
  f : w.cell? ⟨2, 0, none⟩ = some (.iface 558 (.pointer (some a)))
  ha : ∃ c t, w.heap[a.block]? = some (.cells c t (0, 0))
  o : ∀ k, k ≤ 1 → ∃ b, w.cell? ⟨k, 0, none⟩ = some (.iface 558 (.pointer (some b))) ∧ a ≠ b ∧ ∃ c t, w.heap[b.block]? = some (.cells c t (0, 0))
theorem SentF.only {w w' : World} {a : Addr} (h : SentF w a) (ho : Only (fun _ => False) w w') : SentF w' a := by
  obtain ⟨h1, h2, ⟨c, t, h3⟩, h4⟩ := h
  refine ⟨h1.only ho, (ho.cell (p := ⟨2, 0, none⟩) (World.block_lt_of_cell? w _ h2) (fun e => e)).trans h2, ⟨c, t, (ho.block _ (heap_lt h3) (fun e => e)).trans h3⟩, fun k hk => ?_⟩
  obtain ⟨b, g1, g2, c', t', g3⟩ := h4 k hk
  exact ⟨b, (ho.cell (p := ⟨k, 0, none⟩) (World.block_lt_of_cell? w _ g1) (fun e => e)).trans g1, g2, c', t', (ho.block _ (heap_lt g3) (fun e => e)).trans g3⟩
end Go.Proofs.YtdbdbaepmdmnfaaGreatDoor

namespace Go.Proofs.YtdbdbaepmdmnfaaGreatDoor
open Go.RowKit
set_option maxRecDepth 100000 in
theorem mk23one (w : World) : (Instr.makeSlice 23 (.int .i64 1) (.int .i64 1)).run Tryz.prog w = .ok (.slice (some ⟨w.heap.size, 0, none⟩) 1 1) (w.alloc (.cells #[.string ⟨#[]⟩] 9)) := by kernel_rfl
set_option maxRecDepth 20000 in
set_option maxHeartbeats 1000000 in
theorem join_one (b cap : Nat) (s sep : ByteArray) (w : World) (h : w.cell? ⟨b, 0, none⟩ = some (.string s)) : Calls Tryz.prog 283 #[.slice (some ⟨b, 0, none⟩) 1 cap, .string sep] w fun en w' => en = .returned (.string s) ∧ w' = w := by
  have bl := World.block_lt_of_cell? w ⟨b, 0, none⟩ h
  simp only at bl
  go_enter Tryz.func283, Tryz.ntmps283
  go_wp2
  go_ret
  exact ⟨rfl, rfl⟩
end Go.Proofs.YtdbdbaepmdmnfaaGreatDoor

namespace Go.Proofs.YtdbdbaepmdmnfaaGreatDoor
open Go.RowKit
/-- A run under way that has put nothing out. -/
structure UnderE (wN wS W : World) (m ab vb sb : Nat) (txt : ByteArray) (n : Nat) (cs : List Value) : Prop where
  hNS : wN.heap.size ≤ wS.heap.size
  lm : m < wS.heap.size
  lv : vb < wS.heap.size
  ls : sb < wS.heap.size
  u : Under wN wS W m ab vb sb txt 0 n (.slice none 0 0) cs
theorem UnderE.calm {wN wS W W' m ab vb sb txt n cs} (h : UnderE wN wS W m ab vb sb txt n cs) (ho : Only (fun _ => False) W W') : UnderE wN wS W' m ab vb sb txt n cs := ⟨h.hNS, h.lm, h.lv, h.ls, h.u.calm ho⟩
theorem UnderE.step {wN wS W m ab vb sb txt n cs} (h : UnderE wN wS W m ab vb sb txt (n + 1) cs) : UnderE wN wS (W.setCell ⟨m, 7, none⟩ (.int .i64 n)) m ab vb sb txt n cs := ⟨h.hNS, h.lm, h.lv, h.ls, h.u.step⟩
end Go.Proofs.YtdbdbaepmdmnfaaGreatDoor

namespace Go.Proofs.YtdbdbaepmdmnfaaGreatDoor
open Go.RowKit
theorem itoa_short (k : Nat) (hk : k ≤ 400) : (Lib.itoa (k : Int)).length ≤ 30 := by
  rw [Lib.itoa_nonneg, Lib.decDigits_length, Lib.nDigits]
  split
  · omega
  · rw [Lib.nDigits]
    split
    · omega
    · rw [Lib.nDigits, dif_pos (by omega)]
      omega
end Go.Proofs.YtdbdbaepmdmnfaaGreatDoor

namespace Go.Proofs.YtdbdbaepmdmnfaaGreatDoor
open Go.RowKit
theorem lenN (s : ByteArray) : s.data.toList.length = s.size := by rw [Array.length_toList]; rfl
set_option maxRecDepth 20000 in
set_option maxHeartbeats 1000000 in
theorem numLaw (e : Int) (w : World) : Calls Tryz.prog 13 #[.int .i64 e] w fun en w' => en = .returned (.int .i64 e) ∧ w' = w := by
  go_enter Tryz.func13, Tryz.ntmps13
  go_wp2
  go_ret
  exact ⟨rfl, rfl⟩
theorem digit_conv (k : Nat) (w : World) : (convert 54 9 (.slice (some ⟨w.heap.size, 0, none⟩) 1 1)).run Tryz.prog (w.alloc (.cells #[.int .u8 (48 + (k : Int) % 10)] 5)) = .ok (.string (ofB [UInt8.ofNat (48 + k % 10)])) (w.alloc (.cells #[.int .u8 (48 + (k : Int) % 10)] 5)) := by
  have hm : k % 10 < 10 := Nat.mod_lt _ (by omega)
  have hcn : (UInt8.ofNat (48 + k % 10)).toNat = 48 + k % 10 := by
    rw [UInt8.toNat_ofNat']
    exact Nat.mod_eq_of_lt (by omega)
  have hv : (Value.int .u8 (48 + (k : Int) % 10)) = byV (UInt8.ofNat (48 + k % 10)) := by
    unfold byV
    rw [hcn]
    congr 1
  rw [hv]
  have := World.ownsRow_lit (base := 0) (e := 5) (size := 1) w #[byV (UInt8.ofNat (48 + k % 10))] 1 (Nat.zero_le _) (by unfold maxLen; omega) rfl
  exact bytes_conv (M := [UInt8.ofNat (48 + k % 10)]) this
set_option maxRecDepth 20000 in
set_option maxHeartbeats 4000000 in
theorem digits_any (N : Nat) : ∀ (k : Nat), k < N → k ≤ 1000 → ∀ (w : World), Calls Tryz.prog 19 #[.int .i64 k] w fun en w' => en = .returned (.string (ofB (Lib.decDigits k))) ∧ Only (fun _ => False) w w' := by
  induction N with
  | zero =>
    intro k hk hk2 w
    omega
  | succ N ih =>
    intro k hk hk2 w
    have hcv := digit_conv k w
    have hm : k % 10 < 10 := Nat.mod_lt _ (by omega)
    by_cases h10 : k < 10
    · have hki : (k : Int) < 10 := by omega
      have hdd : Lib.decDigits k = [UInt8.ofNat (48 + k % 10)] := by rw [Lib.decDigits_one h10, Nat.mod_eq_of_lt h10]
      rw [hdd]
      generalize UInt8.ofNat (48 + k % 10) = c at hcv
      go_enter Tryz.func19, Tryz.ntmps19
      go_wp2
      go_ret
      exact ⟨rfl, onlyA _ _⟩
    · have hki : ¬ (k : Int) < 10 := by omega
      have hdd : ofB (Lib.decDigits k) = ofB (Lib.decDigits (k / 10)) ++ ofB [UInt8.ofNat (48 + k % 10)] := by rw [Lib.decDigits, dif_neg h10, ofB_appendR]
      rw [hdd]
      have hln : (Lib.decDigits (k / 10)).length ≤ 30 := by
        have := itoa_short (k / 10) (by omega)
        rw [Lib.itoa_nonneg] at this
        exact this
      have hls : (ofB (Lib.decDigits (k / 10))).size ≤ 30 := by rw [ofB_sizeR]; exact hln
      have hl1 : (ofB [UInt8.ofNat (48 + k % 10)]).size = 1 := rfl
      have HI : Hid (∀ W, Calls Tryz.prog 19 #[.int .i64 ((k : Int) / 10)] W fun en w' => en = .returned (.string (ofB (Lib.decDigits (k / 10)))) ∧ Only (fun _ => False) W w') := hide (fun W => ih (k / 10) (by omega) (by omega) W)
      generalize UInt8.ofNat (48 + k % 10) = c at hcv hl1
      clear hln hdd
      generalize ofB (Lib.decDigits (k / 10)) = D at *
      go_enter Tryz.func19, Tryz.ntmps19
      go_wp2_with (go_at_call 19; refine (HI.out _).mono ?_; rintro en w2 ⟨rfl, ho⟩; have HO := hide ho; clear ho)
      go_ret
      exact ⟨rfl, (onlyA w _).trans HO.out (fun _ _ e => e)⟩
end Go.Proofs.YtdbdbaepmdmnfaaGreatDoor

namespace Go.Proofs.YtdbdbaepmdmnfaaGreatDoor
open Go.RowKit
/-- A step of a script, as it lies in memory. -/
def OpN (w : World) (b o : Nat) : Prop := ∃ (K A B : Int) (s t u : ByteArray) (ao : Option Addr) (n cap : Nat), (t.size ≤ 1125899906842624 ∧ u.size ≤ 1125899906842624) ∧
  w.cell? ⟨b, o, none⟩ = some (.int .i64 K) ∧ w.cell? ⟨b, o + 1, none⟩ = some (.int .i64 A) ∧ w.cell? ⟨b, o + 2, none⟩ = some (.int .i64 B) ∧ w.cell? ⟨b, o + 3, none⟩ = some (.string s) ∧ w.cell? ⟨b, o + 4, none⟩ = some (.string t) ∧ w.cell? ⟨b, o + 5, none⟩ = some (.string u) ∧ w.cell? ⟨b, o + 6, none⟩ = some (.slice ao n cap)
theorem OpN.below {w w' : World} {b o : Nat} (h : OpN w b o) (hb : Below w.heap.size w w') (hB : b < w.heap.size) : OpN w' b o := by
  obtain ⟨K, A, B, s, t, u, ao, n, cap, hz, h0, h1, h2, h3, h4, h5, h6⟩ := h
  refine ⟨K, A, B, s, t, u, ao, n, cap, hz, ?_, ?_, ?_, ?_, ?_, ?_, ?_⟩
  · rw [hb.cell (p := ⟨b, o, none⟩) hB]; exact h0
  · rw [hb.cell (p := ⟨b, o + 1, none⟩) hB]; exact h1
  · rw [hb.cell (p := ⟨b, o + 2, none⟩) hB]; exact h2
  · rw [hb.cell (p := ⟨b, o + 3, none⟩) hB]; exact h3
  · rw [hb.cell (p := ⟨b, o + 4, none⟩) hB]; exact h4
  · rw [hb.cell (p := ⟨b, o + 5, none⟩) hB]; exact h5
  · rw [hb.cell (p := ⟨b, o + 6, none⟩) hB]; exact h6
end Go.Proofs.YtdbdbaepmdmnfaaGreatDoor

namespace Go.Proofs.YtdbdbaepmdmnfaaGreatDoor
open Go.RowKit
theorem OpN.only {w w' : World} {b o : Nat} (h : OpN w b o) (ho : Only (fun _ => False) w w') (hB : b < w.heap.size) : OpN w' b o := h.below (ho.below (Nat.le_refl _) (fun _ _ e => e)) hB
theorem keepC {w w' : World} (ho : Only (fun _ => False) w w') {p : Addr} {v : Value} (h : w.cell? p = some v) : w'.cell? p = some v := (ho.cell (p := p) (World.block_lt_of_cell? w p h) (fun e => e)).trans h
end Go.Proofs.YtdbdbaepmdmnfaaGreatDoor

namespace Go.Proofs.YtdbdbaepmdmnfaaGreatDoor
open Go.RowKit
theorem empty_yes (L : ByteArray) (h : L.size = 0) : L.toList.isEmpty = true := by
  rw [ByteArray.toList_eq]
  have : L.data.toList = [] := List.eq_nil_of_length_eq_zero (by rw [← h]; rfl)
  rw [this]
  rfl
theorem empty_no (L : ByteArray) (h : 0 < L.size) : L.toList.isEmpty = false := by
  rw [ByteArray.toList_eq]
  have hl : 0 < L.data.toList.length := h
  cases hd : L.data.toList with
  | nil => rw [hd] at hl; simp at hl
  | cons a r => rfl
theorem ext_succ (t : ByteArray) (k : Nat) : t.extract 0 k ++ t.extract k (k + 1) = t.extract 0 (k + 1) := by
  rw [ByteArray.extract_append_extract]
  congr 1 <;> omega
theorem ext_mem (t : ByteArray) (k : Nat) (h : k < t.size) (hk : ∀ b ∈ (t.extract 0 k).data.toList, b ≠ 10) (hc : t[k] ≠ 10) : ∀ b ∈ (t.extract 0 (k + 1)).data.toList, b ≠ 10 := by
  intro b hb
  rw [← ext_succ t k, ByteArray.data_append, Array.toList_append, List.mem_append] at hb
  rcases hb with hb | hb
  · exact hk b hb
  · have : (t.extract k (k + 1)).data.toList = [t[k]] := by
      apply List.ext_getElem
      · simp
        omega
      · intro i h1 h2
        have : i = 0 := by simp at h2; omega
        subst this
        simp
        rfl
    rw [this] at hb
    simp at hb
    rw [hb]
    exact hc
end Go.Proofs.YtdbdbaepmdmnfaaGreatDoor

namespace Go.Proofs.YtdbdbaepmdmnfaaGreatDoor
open Go.RowKit
theorem dd_short (k : Nat) (hk : k ≤ 400) : (Lib.decDigits k).length ≤ 30 := by
  have := itoa_short k hk
  rwa [Lib.itoa_nonneg] at this
end Go.Proofs.YtdbdbaepmdmnfaaGreatDoor

namespace Go.Proofs.YtdbdbaepmdmnfaaGreatDoor
open Go.RowKit
set_option maxRecDepth 20000 in
set_option maxHeartbeats 4000000 in
/-- A text put out behind what was put out. -/
theorem put_more9 (C m ab vb sb : Nat) (txt : ByteArray) (flds tv : Value) (n code : Nat) (out s : ByteArray) (hs : s.size ≤ 1000) (hos : out.size + s.size ≤ 4000) (w : World) (hCw : C ≤ w.heap.size) (h : MAt8 w m ab vb txt flds (.slice (some ⟨sb, 0, none⟩) 1 1) out.size n code) (hS : w.heap[sb]? = some (.cells #[.string ⟨#[]⟩, tv] 142 (0, 0))) (hown0 : w.ownsRow C 5 1 tv out.size (Lib.strCells out)) :
    Calls Tryz.prog 376 #[.pointer (some ⟨m, 5, none⟩), .string ⟨#[]⟩, .string s] w fun en w' => en = .returned .nilIface ∧ MAt8 w' m ab vb txt flds (.slice (some ⟨sb, 0, none⟩) 1 1) (out ++ s).size n code ∧ (∃ tv, w'.heap[sb]? = some (.cells #[.string ⟨#[]⟩, tv] 142 (0, 0)) ∧ w'.ownsRow C 5 1 tv (out ++ s).size (Lib.strCells (out ++ s))) ∧ Only (fun k => k = m ∨ k = sb ∨ tv.ownBlock = some k) w w' := by
  obtain ⟨i0, hi, hz0, hz1, hz2⟩ := info_parts infoByte5
  have hne : sb ≠ m := fun e => by have h1 := h; unfold MAt8 at h1; rw [← e, hS] at h1; cases h1
  have c5 : w.cell? ⟨m, 5, none⟩ = some (.slice (some ⟨sb, 0, none⟩) 1 1) := cell_of h rfl
  have c6 : w.cell? ⟨m, 6, none⟩ = some (.int .i64 out.size) := cell_of h rfl
  have cf := free_of h
  have s0 : w.cell? ⟨sb, 0, none⟩ = some (.string ⟨#[]⟩) := cell_of hS rfl
  have s1 : w.cell? ⟨sb, 1, none⟩ = some tv := cell_of hS rfl
  have sf := free_of hS
  have hli : ¬ (4000 : Int) < (out.size : Int) + (s.size : Int) := by omega
  have hS6 : (w.setCell ⟨m, 6, none⟩ (.int .i64 ((out.size : Int) + (s.size : Int)))).heap[sb]? = some (.cells #[.string ⟨#[]⟩, tv] 142 (0, 0)) := (Below.heap_setCell _ _ _ _ hne).trans hS
  have hM6 := h.setSize (out.size + s.size)
  have hM6 : MAt8 (w.setCell ⟨m, 6, none⟩ (.int .i64 ((out.size : Int) + (s.size : Int)))) m ab vb txt flds (.slice (some ⟨sb, 0, none⟩) 1 1) (out.size + s.size) n code := by
    rw [show ((out.size : Int) + (s.size : Int)) = ((out.size + s.size : Nat) : Int) by omega]; exact hM6
  have HN := hide (named_main m 5 sb _ (cell_of hM6 rfl) (cell_of hS6 rfl))
  have htm := own_tag hown0 h (by decide)
  have hto := own_tag hown0 hS (by decide)
  have hown6 : (w.setCell ⟨m, 6, none⟩ (.int .i64 ((out.size : Int) + (s.size : Int)))).ownsRow C 5 1 tv out.size (Lib.strCells out) := ownsRow_of hown0 (fun k hk => Below.heap_setCell _ _ _ _ (fun e => htm (by rw [hk, e])))
  have HM6 := hide hM6
  have HS6 := hide hS6
  have HTm := hide htm
  have HTo := hide hto
  have HCw := hide hCw
  have HOw0 := hide hown0
  clear h hS hM6 hS6 htm hto hown0 hCw
  obtain ⟨po, pc, rfl⟩ := ownsRow_slice hown6
  have HOw6 := hide hown6
  clear hown6
  go_enter Tryz.func376, Tryz.ntmps376
  go_wp2_with (first | (go_at_call 434; refine (HN.out).mono ?_; rintro en w2 ⟨rfl, hw2⟩; subst hw2) | (at_builtin; refine Lib.wpList_append_own_string _ rfl _ _ 54 9 rfl C 5 i0 Tryz.underlying54 Tryz.underlying9 hi hz0 hz1 hz2 (.slice po out.size pc) out.size (Lib.strCells out) rfl HOw6.out s rfl (by unfold maxLen; omega) (by omega) (by have := HCw.out; simpa using this) ?_; intro v' w3 hown hgrow _; obtain ⟨ao, cap, rfl⟩ := ownsRow_slice hown; have hb3 := (hgrow.block sb (heap_lt HS6.out) (fun e => HTo.out e.symm)).trans HS6.out; have t1 : w3.cell? ⟨sb, 1, none⟩ = some (.slice po out.size pc) := cell_of hb3 rfl; have tf := free_of hb3; have HB3 := hide hb3; have HOw := hide hown; have HG := hide hgrow; clear hb3 hown hgrow))
  go_ret
  have hrow : w3.ownsRow C 5 1 (.slice ao (out.size + s.size) cap) (out ++ s).size (Lib.strCells (out ++ s)) := by rw [ByteArray.size_append, strCells_append]; exact HOw.out
  have hnt := own_tag hrow HB3.out (by decide)
  refine ⟨rfl, ?_, ⟨.slice ao (out.size + s.size) cap, heap_setCell_same HB3.out _, ownsRow_of hrow (fun k hk => Below.heap_setCell _ _ _ _ (fun e => hnt (by rw [hk, e])))⟩, ?_⟩
  · rw [ByteArray.size_append]
    exact (Below.heap_setCell _ _ _ _ (Ne.symm hne)).trans ((HG.out.block m (heap_lt HM6.out) (fun e => HTm.out e.symm)).trans HM6.out)
  · exact (((Only.refl (fun k => k = m ∨ k = sb ∨ (Value.slice po out.size pc).ownBlock = some k) w).setCell (p := ⟨m, 6, none⟩) (fun _ => Or.inl rfl) _).grown HG.out (fun q hq _ => Or.inr (Or.inr hq))).setCell (p := ⟨sb, 1, none⟩) (fun _ => Or.inr (Or.inl rfl)) _
set_option maxRecDepth 20000 in
set_option maxHeartbeats 4000000 in
theorem mput_more9 (C m ab vb sb : Nat) (txt : ByteArray) (flds tv : Value) (n code : Nat) (out s : ByteArray) (hs : s.size ≤ 1000) (hos : out.size + s.size ≤ 4000) (w : World) (hCw : C ≤ w.heap.size) (h : MAt8 w m ab vb txt flds (.slice (some ⟨sb, 0, none⟩) 1 1) out.size n code) (hS : w.heap[sb]? = some (.cells #[.string ⟨#[]⟩, tv] 142 (0, 0))) (hown0 : w.ownsRow C 5 1 tv out.size (Lib.strCells out)) :
    Calls Tryz.prog 284 #[.pointer (some ⟨m, 0, none⟩), .string ⟨#[]⟩, .string s] w fun en w' => en = .returned (.tuple #[]) ∧ MAt8 w' m ab vb txt flds (.slice (some ⟨sb, 0, none⟩) 1 1) (out ++ s).size n code ∧ (∃ tv, w'.heap[sb]? = some (.cells #[.string ⟨#[]⟩, tv] 142 (0, 0)) ∧ w'.ownsRow C 5 1 tv (out ++ s).size (Lib.strCells (out ++ s))) ∧ Only (fun k => k = m ∨ k = sb ∨ tv.ownBlock = some k) w w' := by
  have HP := hide (put_more9 C m ab vb sb txt flds tv n code out s hs hos w hCw h hS hown0)
  have HC := hide (check_nil (some ⟨m, 0, none⟩))
  clear h hS hown0
  go_enter Tryz.func284, Tryz.ntmps284
  go_wp2_with (first | (go_at_call 376; refine (HP.out).mono ?_; rintro en w2 ⟨rfl, h1, h2, h3⟩; have H1 := hide h1; have H2 := hide h2; have H3 := hide h3; clear h1 h2 h3) | (go_at_call 166; refine (HC.out _).mono ?_; rintro en w' ⟨rfl, h3⟩; subst w'))
  go_end0
  exact ⟨rfl, H1.out, H2.out, H3.out⟩
/-- A text is put out. -/
theorem put_on (p : Pl8) (s : St8) (t : ByteArray) (ht : t.size ≤ 1000) (hos : s.out.size + t.size ≤ 4000) (W : World) (h : On8 p s W) :
    Calls Tryz.prog 284 #[.pointer (some ⟨p.m, 0, none⟩), .string ⟨#[]⟩, .string t] W fun en w' => en = .returned (.tuple #[]) ∧ On8 p { s with out := s.out ++ t } w' ∧ Kept p W w' := by
  obtain ⟨fv, hM, hF⟩ := h.M
  obtain ⟨tv, hS, hT⟩ := h.S
  refine (mput_more9 p.wN.heap.size p.m p.ab p.vb p.sb s.txt fv tv s.fuel 0 s.out t ht hos W h.O.size hM hS hT).mono ?_
  rintro en w' ⟨e, hM', ⟨tv', hS', hT'⟩, ho⟩
  have hm := h.hm
  have hs := h.hs
  have tb : ∀ q, tv.ownBlock = some q → p.wN.heap.size ≤ q ∧ ∃ cur, W.heap[q]? = some (.cells cur 5 (0, 0)) := fun q hq => by
    refine ⟨(hT.lt q hq).1, ?_⟩
    rcases hT.2 with ⟨rfl, _⟩ | ⟨g, cap, cur, rfl, _, hg, _⟩
    · cases hq
    · have : g = q := by cases hq; rfl
      subst this
      exact ⟨cur, hg⟩
  refine ⟨e, ⟨h.hm, h.hv, h.hs, h.nmv, h.nms, h.nvs, ⟨fv, hM', ownsRow_of hF (fun k hk => ho.block k (hF.lt k hk).2 (fun e => ?_))⟩, h.V.only ho (fun e => ?_), ⟨tv', hS', hT'⟩, h.O.trans ho (fun k hk e => ?_)⟩, ⟨ho.size, fun q c t h1 _ h3 _ h5 hq => (ho.block q (heap_lt hq) (fun e => ?_)).trans hq⟩⟩
  · rcases e with e | e | e
    · exact own_tag hF hM (by decide) (hk.trans (congrArg some e))
    · exact own_tag hF hS (by decide) (hk.trans (congrArg some e))
    · obtain ⟨_, cur, hg⟩ := tb k e
      exact own_tag hF hg (by decide) hk
  · rcases e with e | e | e
    · exact h.nmv e.symm
    · exact h.nvs e
    · obtain ⟨_, cur, hg⟩ := tb _ e
      have := h.V
      unfold VAt at this
      rw [hg] at this
      simp at this
  · rcases e with e | e | e
    · omega
    · omega
    · have := (tb k e).1
      omega
  · rcases e with e | e | e
    · exact h1 e
    · exact h3 e
    · obtain ⟨_, cur, hg⟩ := tb q e
      rw [hg] at hq
      simp at hq
      exact h5 hq.2.symm
/-- A statement's function does its work and goes on; the run is then at s'. -/
def Does (p : Pl8) (s s' : St8) (x : Value) : Prop := ∃ (F : Nat) (caps : List Value), x = .func (.func F) #[] caps.toArray ∧ Enters F ∧ ∀ W, On8 p s W → Calls Tryz.prog F (.pointer (some ⟨p.m, 0, none⟩) :: caps).toArray W fun en w' => en = .returned (.int .i64 0) ∧ On8 p s' w' ∧ Kept p W w'
theorem cf162 (args : Array Value) (w : World) : (callFunc 162 args).run Tryz.prog w = .ok (.enter 162 args) w := callFunc_in Tryz.func162 (by kernel_rfl) rfl args w
theorem cf127 (args : Array Value) (w : World) : (callFunc 127 args).run Tryz.prog w = .ok (.enter 127 args) w := callFunc_in Tryz.func127 (by kernel_rfl) rfl args w
theorem cf280 (args : Array Value) (w : World) : (callFunc 280 args).run Tryz.prog w = .ok (.enter 280 args) w := callFunc_in Tryz.func280 (by kernel_rfl) rfl args w
theorem cf297 (args : Array Value) (w : World) : (callFunc 297 args).run Tryz.prog w = .ok (.enter 297 args) w := callFunc_in Tryz.func297 (by kernel_rfl) rfl args w
/-- A statement takes a step first. -/
theorem does_step (p : Pl8) (s s' : St8) (n : Nat) (hn : n ≤ 100000) (B : Nat) (I : Nat → World → Value → Prop) (v : Value) (h : StF I B p.wN v) (hI : ∀ x, I B p.wN x → Does p { s with fuel := n } s' x) : Does p { s with fuel := n + 1 } s' v := by
  obtain ⟨b, x, rfl, _, hb, hi⟩ := h
  obtain ⟨F, caps, rfl, hcf, hD⟩ := hI x hi
  refine ⟨162, [.pointer (some ⟨b, 0, none⟩)], rfl, cf162, fun W hW => ?_⟩
  obtain ⟨fv, hM, hF⟩ := hW.M
  have hbW := (hW.O.block b (heap_lt hb) (fun e => e)).trans hb
  have hm := hW.hm
  have hbl := heap_lt hb
  have hst : On8 p { s with fuel := n } (W.setCell ⟨p.m, 7, none⟩ (.int .i64 n)) := hW.step
  have hO := (Only.refl (fun q => q = p.m) W).setCell (p := ⟨p.m, 7, none⟩) (fun _ => rfl) (.int .i64 n)
  exact stmt_do8 p.m p.ab p.vb b F hcf caps s.txt fv _ s.out.size n 0 hn (fun w' => On8 p s' w' ∧ Kept p W w') W hM (by omega) (cell_of hbW rfl) ((hD _ hst).mono (fun en w' h => ⟨h.1, h.2.1, (Kept.ofV (fun q e => Or.inl e) hO).trans h.2.2⟩))
set_option maxRecDepth 20000 in
set_option maxHeartbeats 2000000 in
/-- An expression for its work's sake. -/
theorem does_work (p : Pl8) (s s' : St8) (B : Nat) (I : Nat → World → Value → Prop) (v r : Value) (h : WorkK I B p.wN v) (hI : ∀ x y, I B p.wN (.agg #[x, y]) → Works p s s' x r) : Does p s s' v := by
  obtain ⟨ec, x, y, rfl, _, he, hi⟩ := h
  obtain ⟨F, caps, rfl, hcf, hW⟩ := hI x y hi
  unfold Enters at hcf
  refine ⟨297, [.pointer (some ⟨ec, 0, none⟩)], rfl, cf297, fun w h => ?_⟩
  have hew := (h.O.block ec (heap_lt he) (fun e => e)).trans he
  have e0 : w.cell? ⟨ec, 0, none⟩ = some (.func (.func F) #[] caps.toArray) := cell_of hew rfl
  have el := heap_lt hew
  have HW := hide (hW w h)
  clear h hew hW he hi hI
  go_enter Tryz.func297, Tryz.ntmps297
  go_wp2_with fail
  refine (HW.out).mono ?_
  rintro en w2 ⟨rfl, hq, hk⟩
  have HQ := hide hq
  have HK := hide hk
  clear hq hk
  go_wp2
  go_ret
  exact ⟨rfl, HQ.out, HK.out⟩
set_option maxRecDepth 20000 in
set_option maxHeartbeats 2000000 in
theorem textsOf_oneG (m g F : Nat) (caps : List Value) (y : Value) (hy : ∃ F2 c2, y = .func (.func F2) #[] c2) (hcf : ∀ (args : Array Value) (w : World), (callFunc F args).run Tryz.prog w = .ok (.enter F args) w) (a n : Int) (t tx : ByteArray) (w : World) (hg : w.heap[g]? = some (.cells #[.func (.func F) #[] caps.toArray, y] 338 (0, 0)))
    (HTx : ∀ W, Only (fun _ => False) w W → Calls Tryz.prog 235 #[.agg #[.int .i64 a, .int .i64 n, .string t]] W fun en w' => en = .returned (.string tx) ∧ Only (fun _ => False) W w')
    (HW : ∀ W, Only (fun _ => False) w W → Calls Tryz.prog F (.pointer (some ⟨m, 0, none⟩) :: caps).toArray W fun en w' => en = .returned (.agg #[.int .i64 a, .int .i64 n, .string t]) ∧ Only (fun _ => False) W w') :
    Calls Tryz.prog 281 #[.pointer (some ⟨m, 0, none⟩), .slice (some ⟨g, 0, none⟩) 1 1] w fun en w' => en = .returned (.slice (some ⟨w.heap.size, 0, none⟩) 1 1) ∧ w'.heap[w.heap.size]? = some (.cells #[.string tx] 9 (0, 0)) ∧ Only (fun _ => False) w w' := by
  obtain ⟨F2, c2, rfl⟩ := hy
  have hm := mk23one
  have hsf := hsfT
  have g0 : w.cell? ⟨g, 0, none⟩ = some (.func (.func F) #[] caps.toArray) := cell_of hg rfl
  have g1 : w.cell? ⟨g, 1, none⟩ = some (.func (.func F2) #[] c2) := cell_of hg rfl
  have gl := heap_lt hg
  have O2 := (onlyA w (.cells #[.string ⟨#[]⟩] 9)).alloc (.cells #[.func (.func F) #[] caps.toArray, .func (.func F2) #[] c2] 338)
  have HW1 := hide (HW _ O2)
  have HTy := hide HTx
  have HO2 := hide O2
  clear hg HTx HW O2
  go_enter Tryz.func281, Tryz.ntmps281
  go_wp2
  go_loopg [13] 1 (fun gh s13 wr => (gh = 1 ∧ s13 = .int .i64 0 ∧ wr = w.alloc (.cells #[.string ⟨#[]⟩] 9)) ∨ (gh = 0 ∧ s13 = .int .i64 1 ∧ wr.heap[w.heap.size]? = some (.cells #[.string tx] 9 (0, 0)) ∧ Only (fun _ => False) w wr))
  case atStart => exact Or.inl ⟨rfl, rfl, rfl⟩
  case round =>
    rcases hrel with ⟨hgh, rfl, hw⟩ | ⟨hgh, rfl, h1, h3⟩
    · subst hw
      go_wp2_with fail
      refine (HW1.out).mono ?_
      rintro en w2 ⟨rfl, ho2⟩
      have hO2 := HO2.out.trans ho2 (fun _ _ e => e)
      have HT2 := hide (HTy.out w2 hO2)
      have hb2 := (ho2.block w.heap.size (by simp; omega) (fun e => e)).trans ((Below.heap_alloc _ _ _ (by simp)).trans (new0 w (.cells #[.string ⟨#[]⟩] 9)))
      have HB2 := hide hb2
      have HOw := hide hO2
      clear ho2 hO2 hb2 HW1 HTy
      go_wp2_with (go_at_call 235; refine (HT2.out).mono ?_; rintro en w3 ⟨rfl, ho3⟩; have hb3 := (ho3.block w.heap.size (heap_lt HB2.out) (fun e => e)).trans HB2.out; have r0 : w3.cell? ⟨w.heap.size, 0, none⟩ = some (.string ⟨#[]⟩) := cell_of hb3 rfl; have rf := free_of hb3; have rl := heap_lt hb3; have HB3 := hide hb3; have HO3 := hide (HOw.out.trans ho3 (fun _ _ e => e)); clear hb3 ho3)
      go_roundg 0
      case measure => omega
      case rel => exact Or.inr ⟨rfl, rfl, set1 HB3.out _, HO3.out.setCell (p := ⟨w.heap.size, 0, none⟩) (fun h => absurd h (by show ¬ w.heap.size < w.heap.size; omega)) _⟩
    · go_wp2
      go_ret
      exact ⟨rfl, h1, h3⟩
set_option maxRecDepth 20000 in
set_option maxHeartbeats 4000000 in
/-- A print of one expression. -/
theorem does_print (p : Pl8) (s : St8) (B : Nat) (I : Nat → World → Value → Prop) (v : Value) (hp : PrintK I B p.wN v) (a n : Int) (t tx : ByteArray) (hI : ∀ x y, I B p.wN (.agg #[x, y]) → Gives p s x (.agg #[.int .i64 a, .int .i64 n, .string t]) ∧ ∃ F2 c2, y = .func (.func F2) #[] c2)
    (HTx : ∀ W, On8 p s W → Calls Tryz.prog 235 #[.agg #[.int .i64 a, .int .i64 n, .string t]] W fun en w' => en = .returned (.string tx) ∧ Only (fun _ => False) W w') (htx : tx.size ≤ 900) (hos : s.out.size + tx.size + 1 ≤ 4000)
    (y0 : s.cs[9]? = some (.int .i64 2)) (y1 : s.cs[10]? = some (.int .i64 0)) (y2 : s.cs[11]? = some (.string ⟨#[32]⟩)) (v0 : s.cs[12]? = some (.int .i64 2)) (v1 : s.cs[13]? = some (.int .i64 0)) (v2 : s.cs[14]? = some (.string ⟨#[10]⟩)) : Does p s { s with out := s.out ++ (tx ++ ⟨#[10]⟩) } v := by
  obtain ⟨lb, eb, c, g, x, y, z, rfl, _, hlb, hg, hi, heb, hc⟩ := hp
  obtain ⟨⟨F, caps, rfl, hcf1, hG⟩, hy⟩ := hI x y hi
  refine ⟨280, [.pointer (some ⟨lb, 0, none⟩), .pointer (some ⟨eb, 0, none⟩)], rfl, cf280, fun w h => ?_⟩
  have hcf := cf480
  have hlw := (h.O.block lb (heap_lt hlb) (fun e => e)).trans hlb
  have hgw := (h.O.block g (heap_lt hg) (fun e => e)).trans hg
  have hew := (h.O.block eb (heap_lt heb) (fun e => e)).trans heb
  have hcw := (h.O.block c (heap_lt hc) (fun e => e)).trans hc
  have HT := hide (textsOf_oneG p.m g F caps y hy hcf1 a n t tx w hgw (fun W hW => HTx W (h.calm hW)) (fun W hW => hG W (h.calm hW)))
  have HC : Hid (∀ W, Only (fun _ => False) w W → Calls Tryz.prog 298 #[.pointer (some ⟨p.m, 0, none⟩), .pointer (some ⟨c, 0, none⟩)] W fun en w' => en = .returned (.agg #[.int .i64 0, .int .i64 0, .string ⟨#[]⟩]) ∧ Only (fun _ => False) W w') := hide (fun W hW => by
    have hcW := (hW.block c (heap_lt hcw) (fun e => e)).trans hcw
    refine (const_do (some ⟨p.m, 0, none⟩) c 0 0 ⟨#[]⟩ W (cell_of hcW rfl) (cell_of hcW rfl) (cell_of hcW rfl)).mono ?_
    rintro en w' ⟨e, rfl⟩
    exact ⟨e, onlyA _ _⟩)
  have HX : Hid (∀ W, Calls Tryz.prog 235 #[.agg #[.int .i64 0, .int .i64 0, .string ⟨#[]⟩]] W fun en w' => en = .returned (.string ⟨#[]⟩) ∧ Only (fun _ => False) W w') := hide (fun W => (text_any 0 0 ⟨#[]⟩ W (by decide)).mono (fun _ _ h => ⟨h.1, Only.ofBelow h.2 (fun _ => False)⟩))
  have HR : Hid (∀ W, Only (fun _ => False) w W → Calls Tryz.prog 282 #[.pointer (some ⟨p.m, 0, none⟩)] W fun en w' => en = .returned (.string s.txt) ∧ w' = W) := hide (fun W hW => by
    obtain ⟨fv, hM, _⟩ := (h.calm hW).M
    exact record_text8 p.m p.ab p.vb s.txt fv _ s.out.size s.fuel 0 W hM)
  have HO4 : Hid (∀ W, Only (fun _ => False) w W → Calls Tryz.prog 168 #[.pointer (some ⟨p.m, 0, none⟩), .int .i64 4] W fun en w' => en = .returned (.string ⟨#[10]⟩) ∧ Only (fun _ => False) W w') := hide (fun W hW => by
    have hn := h.calm hW
    obtain ⟨fv, hM, _⟩ := hn.M
    exact mtext8 p.m p.ab p.vb s.txt fv _ s.out.size s.fuel 0 4 2 0 ⟨#[10]⟩ (by decide) (by omega) W hM (hn.V.cell v0) (hn.V.cell v1) (hn.V.cell v2))
  have HO3 : Hid (∀ W, Only (fun _ => False) w W → Calls Tryz.prog 168 #[.pointer (some ⟨p.m, 0, none⟩), .int .i64 3] W fun en w' => en = .returned (.string ⟨#[32]⟩) ∧ Only (fun _ => False) W w') := hide (fun W hW => by
    have hn := h.calm hW
    obtain ⟨fv, hM, _⟩ := hn.M
    exact mtext8 p.m p.ab p.vb s.txt fv _ s.out.size s.fuel 0 3 2 0 ⟨#[32]⟩ (by decide) (by omega) W hM (hn.V.cell y0) (hn.V.cell y1) (hn.V.cell y2))
  have HPut := hide (fun W (hW : Only (fun _ => False) w W) => put_on p s (tx ++ ⟨#[10]⟩) (by rw [ByteArray.size_append]; show tx.size + 1 ≤ 1000; omega) (by rw [ByteArray.size_append]; show s.out.size + (tx.size + 1) ≤ 4000; omega) W (h.calm hW))
  have l0 : w.cell? ⟨lb, 0, none⟩ = some (.slice (some ⟨g, 0, none⟩) 1 1) := cell_of hlw rfl
  have ll := heap_lt hlw
  have e0 : w.cell? ⟨eb, 0, none⟩ = some (.func (.func 298) #[] #[.pointer (some ⟨c, 0, none⟩)]) := cell_of hew rfl
  have el := heap_lt hew
  have hts : tx.size + 1 ≤ 901 := by omega
  clear h y0 y1 y2 v0 v1 v2 hlb hg heb hc hlw hgw hew hcw hG HTx hI hi htx hos
  go_enter Tryz.func280, Tryz.ntmps280
  go_wp2_with fail
  refine (HT.out).mono ?_
  rintro en w2 ⟨rfl, hb2, ho2⟩
  have e2 := (ho2.cell (p := ⟨eb, 0, none⟩) el (fun e => e)).trans e0
  have l2 := (ho2.cell (p := ⟨lb, 0, none⟩) ll (fun e => e)).trans l0
  have HC2 := hide (HC.out w2 ho2)
  have HB2 := hide hb2
  have HOa := hide ho2
  clear hb2 ho2 HT HC
  go_wp2_with fail
  refine (HC2.out).mono ?_
  rintro en w3 ⟨rfl, ho3⟩
  have HOb := hide (HOa.out.trans ho3 (fun _ _ e => e))
  have HB3 := hide ((ho3.block w.heap.size (heap_lt HB2.out) (fun e => e)).trans HB2.out)
  clear ho3 HC2
  go_wp2_with fail
  refine (HX.out w3).mono ?_
  rintro en w4 ⟨rfl, ho4⟩
  have hOc := HOb.out.trans ho4 (fun _ _ e => e)
  have HB4 := hide ((ho4.block w.heap.size (heap_lt HB3.out) (fun e => e)).trans HB3.out)
  have l4 := (hOc.cell (p := ⟨lb, 0, none⟩) ll (fun e => e)).trans l0
  have HR4 := hide (HR.out w4 hOc)
  have HS4 := hide (HO3.out w4 hOc)
  have HOc := hide hOc
  clear ho4 hOc HX HR HO3
  go_wp2_with (go_at_call 282; refine (HR4.out).mono ?_; rintro en w' ⟨rfl, h3⟩; subst w')
  refine (HS4.out).mono ?_
  rintro en w5 ⟨rfl, ho5⟩
  have hOd := HOc.out.trans ho5 (fun _ _ e => e)
  have hb5 := (ho5.block w.heap.size (heap_lt HB4.out) (fun e => e)).trans HB4.out
  have HJ := hide (join_one w.heap.size 1 tx ⟨#[32]⟩ w5 (cell_of hb5 rfl))
  have HS5 := hide (HO4.out w5 hOd)
  have HOd := hide hOd
  clear ho5 hOd hb5 HO4
  go_wp2_with (go_at_call 283; refine (HJ.out).mono ?_; rintro en w' ⟨rfl, h3⟩; subst w')
  refine (HS5.out).mono ?_
  rintro en w6 ⟨rfl, ho6⟩
  have hOe := HOd.out.trans ho6 (fun _ _ e => e)
  have HP6 := hide (HPut.out w6 hOe)
  have HOe := hide hOe
  clear ho6 hOe HPut
  go_wp2_with (go_at_call 284; refine (HP6.out).mono ?_; rintro en w7 ⟨rfl, h1, h2⟩; have H1 := hide h1; have H2 := hide h2; clear h1 h2)
  go_ret
  exact ⟨rfl, H1.out, (Kept.of HOe.out).trans H2.out⟩
set_option maxRecDepth 20000 in
set_option maxHeartbeats 4000000 in
/-- A print of the record. -/
theorem does_bare (p : Pl8) (s : St8) (B : Nat) (v : Value) (hp : PrintF B p.wN v) (htx : s.txt.size ≤ 900) (hos : s.out.size + s.txt.size + 1 ≤ 4000)
    (v0 : s.cs[12]? = some (.int .i64 2)) (v1 : s.cs[13]? = some (.int .i64 0)) (v2 : s.cs[14]? = some (.string ⟨#[10]⟩)) : Does p s { s with out := s.out ++ (s.txt ++ ⟨#[10]⟩) } v := by
  obtain ⟨lb, eb, c, g, z, rfl, _, hlb, heb, hc⟩ := hp
  refine ⟨280, [.pointer (some ⟨lb, 0, none⟩), .pointer (some ⟨eb, 0, none⟩)], rfl, cf280, fun w h => ?_⟩
  have hcf := cf480
  have hlw := (h.O.block lb (heap_lt hlb) (fun e => e)).trans hlb
  have hew := (h.O.block eb (heap_lt heb) (fun e => e)).trans heb
  have hcw := (h.O.block c (heap_lt hc) (fun e => e)).trans hc
  have HT := hide (textsOf_none (some ⟨p.m, 0, none⟩) (some ⟨g, 0, none⟩) 0 w)
  have HC : Hid (∀ W, Only (fun _ => False) w W → Calls Tryz.prog 298 #[.pointer (some ⟨p.m, 0, none⟩), .pointer (some ⟨c, 0, none⟩)] W fun en w' => en = .returned (.agg #[.int .i64 0, .int .i64 0, .string ⟨#[]⟩]) ∧ Only (fun _ => False) W w') := hide (fun W hW => by
    have hcW := (hW.block c (heap_lt hcw) (fun e => e)).trans hcw
    refine (const_do (some ⟨p.m, 0, none⟩) c 0 0 ⟨#[]⟩ W (cell_of hcW rfl) (cell_of hcW rfl) (cell_of hcW rfl)).mono ?_
    rintro en w' ⟨e, rfl⟩
    exact ⟨e, onlyA _ _⟩)
  have HX : Hid (∀ W, Calls Tryz.prog 235 #[.agg #[.int .i64 0, .int .i64 0, .string ⟨#[]⟩]] W fun en w' => en = .returned (.string ⟨#[]⟩) ∧ Only (fun _ => False) W w') := hide (fun W => (text_any 0 0 ⟨#[]⟩ W (by decide)).mono (fun _ _ h => ⟨h.1, Only.ofBelow h.2 (fun _ => False)⟩))
  have HR : Hid (∀ W, Only (fun _ => False) w W → Calls Tryz.prog 282 #[.pointer (some ⟨p.m, 0, none⟩)] W fun en w' => en = .returned (.string s.txt) ∧ w' = W) := hide (fun W hW => by
    obtain ⟨fv, hM, _⟩ := (h.calm hW).M
    exact record_text8 p.m p.ab p.vb s.txt fv _ s.out.size s.fuel 0 W hM)
  have HO4 : Hid (∀ W, Only (fun _ => False) w W → Calls Tryz.prog 168 #[.pointer (some ⟨p.m, 0, none⟩), .int .i64 4] W fun en w' => en = .returned (.string ⟨#[10]⟩) ∧ Only (fun _ => False) W w') := hide (fun W hW => by
    have hn := h.calm hW
    obtain ⟨fv, hM, _⟩ := hn.M
    exact mtext8 p.m p.ab p.vb s.txt fv _ s.out.size s.fuel 0 4 2 0 ⟨#[10]⟩ (by decide) (by omega) W hM (hn.V.cell v0) (hn.V.cell v1) (hn.V.cell v2))
  have HPut := hide (fun W (hW : Only (fun _ => False) w W) => put_on p s (s.txt ++ ⟨#[10]⟩) (by rw [ByteArray.size_append]; show s.txt.size + 1 ≤ 1000; omega) (by rw [ByteArray.size_append]; show s.out.size + (s.txt.size + 1) ≤ 4000; omega) W (h.calm hW))
  have l0 : w.cell? ⟨lb, 0, none⟩ = some (.slice (some ⟨g, 0, none⟩) 0 0) := cell_of hlw rfl
  have ll := heap_lt hlw
  have e0 : w.cell? ⟨eb, 0, none⟩ = some (.func (.func 298) #[] #[.pointer (some ⟨c, 0, none⟩)]) := cell_of hew rfl
  have el := heap_lt hew
  clear h v0 v1 v2 hlb heb hc hlw hew hcw hos
  go_enter Tryz.func280, Tryz.ntmps280
  go_wp2_with fail
  refine (HT.out).mono ?_
  rintro en w2 ⟨rfl, hw2⟩
  have ho2 : Only (fun _ => False) w w2 := by rw [hw2]; exact onlyA w _
  have e2 := (ho2.cell (p := ⟨eb, 0, none⟩) el (fun e => e)).trans e0
  have l2 := (ho2.cell (p := ⟨lb, 0, none⟩) ll (fun e => e)).trans l0
  have HC2 := hide (HC.out w2 ho2)
  have HOa := hide ho2
  clear ho2 HT HC hw2
  go_wp2_with fail
  refine (HC2.out).mono ?_
  rintro en w3 ⟨rfl, ho3⟩
  have HOb := hide (HOa.out.trans ho3 (fun _ _ e => e))
  clear ho3 HC2
  go_wp2_with fail
  refine (HX.out w3).mono ?_
  rintro en w4 ⟨rfl, ho4⟩
  have hOc := HOb.out.trans ho4 (fun _ _ e => e)
  have l4 := (hOc.cell (p := ⟨lb, 0, none⟩) ll (fun e => e)).trans l0
  have HR4 := hide (HR.out w4 hOc)
  have HS5 := hide (HO4.out w4 hOc)
  have HOd := hide hOc
  clear ho4 hOc HX HR HO4
  go_wp2_with (go_at_call 282; refine (HR4.out).mono ?_; rintro en w' ⟨rfl, h3⟩; subst w')
  refine (HS5.out).mono ?_
  rintro en w6 ⟨rfl, ho6⟩
  have hOe := HOd.out.trans ho6 (fun _ _ e => e)
  have HP6 := hide (HPut.out w6 hOe)
  have HOe := hide hOe
  clear ho6 hOe HPut
  go_wp2_with (go_at_call 284; refine (HP6.out).mono ?_; rintro en w7 ⟨rfl, h1, h2⟩; have H1 := hide h1; have H2 := hide h2; clear h1 h2)
  go_ret
  exact ⟨rfl, H1.out, (Kept.of HOe.out).trans H2.out⟩
end Go.Proofs.YtdbdbaepmdmnfaaGreatDoor

namespace Go.Proofs.YtdbdbaepmdmnfaaGreatDoor
open Go.RowKit
theorem func_same {F F' : Nat} {caps caps' : List Value} (e : Value.func (.func F) #[] caps.toArray = .func (.func F') #[] caps'.toArray) : F = F' ∧ caps = caps' := by
  injection e with e1 _ e2
  injection e1 with e1
  exact ⟨e1, by simpa using congrArg Array.toList e2⟩
theorem Works.at {p : Pl8} {s s' : St8} {F : Nat} {caps : List Value} {r : Value} (h : Works p s s' (.func (.func F) #[] caps.toArray) r) : Enters F ∧ ∀ W, On8 p s W → Calls Tryz.prog F (.pointer (some ⟨p.m, 0, none⟩) :: caps).toArray W fun en w' => en = .returned r ∧ On8 p s' w' ∧ Kept p W w' := by
  obtain ⟨F', caps', e, h1, h2⟩ := h
  obtain ⟨rfl, rfl⟩ := func_same e
  exact ⟨h1, h2⟩
theorem Does.at {p : Pl8} {s s' : St8} {F : Nat} {caps : List Value} (h : Does p s s' (.func (.func F) #[] caps.toArray)) : Enters F ∧ ∀ W, On8 p s W → Calls Tryz.prog F (.pointer (some ⟨p.m, 0, none⟩) :: caps).toArray W fun en w' => en = .returned (.int .i64 0) ∧ On8 p s' w' ∧ Kept p W w' := by
  obtain ⟨F', caps', e, h1, h2⟩ := h
  obtain ⟨rfl, rfl⟩ := func_same e
  exact ⟨h1, h2⟩
/-- Statements one behind the other. -/
theorem does_block (p : Pl8) (st : Nat → St8) (B n : Nat) (hn : n ≤ 100) (Ks : Nat → Nat → World → Value → Prop) (v : Value) (h : BlockK Ks n B p.wN v) (hK : ∀ i x, i < n → Ks i B p.wN x → Does p (st i) (st (i + 1)) x) : Does p (st 0) (st n) v := by
  obtain ⟨lc, g, cs, rfl, _, hlc, hg, hcs⟩ := h
  refine ⟨127, [.pointer (some ⟨lc, 0, none⟩)], rfl, cf127, fun w h => ?_⟩
  have hall : ∀ i, ∃ (F : Nat) (caps : List Value), i < n → cs[i]? = some (.func (.func F) #[] caps.toArray) ∧ Enters F ∧ ∀ W, On8 p (st i) W → Calls Tryz.prog F (.pointer (some ⟨p.m, 0, none⟩) :: caps).toArray W fun en w' => en = .returned (.int .i64 0) ∧ On8 p (st (i + 1)) w' ∧ Kept p W w' := fun i => by
    by_cases hi : i < n
    · obtain ⟨x, hx, hk⟩ := hcs i hi
      obtain ⟨F, caps, rfl, h1, h2⟩ := hK i x hi hk
      exact ⟨F, caps, fun _ => ⟨hx, h1, h2⟩⟩
    · exact ⟨0, [], fun h => absurd h hi⟩
  refine (block_do p.m lc g n n hn (fun i => Classical.choose (hall i)) (fun i hi => (Classical.choose_spec (Classical.choose_spec (hall i)) hi).2.1) (fun i => Classical.choose (Classical.choose_spec (hall i))) (fun i W => On8 p (st i) W ∧ Kept p w W) w (cell_of ((h.O.block lc (heap_lt hlc) (fun e => e)).trans hlc) rfl) ⟨h, Kept.of (Only.refl _ _)⟩ (fun i W hW => ?_) (fun i W hi hW => ?_)).mono (fun en w' h => ⟨h.1, h.2.1, h.2.2⟩)
  · have hgW := (hW.1.O.block g (heap_lt hg) (fun e => e)).trans hg
    refine ⟨heap_lt hgW, fun j hj => ?_⟩
    have := (Classical.choose_spec (Classical.choose_spec (hall j)) hj).1
    exact cell_of hgW this
  · refine ((Classical.choose_spec (Classical.choose_spec (hall i)) hi).2.2 _ (hW.1.calm (onlyA W _))).mono (fun en w' h => ⟨h.1, h.2.1, hW.2.trans ((Kept.of (onlyA W _)).trans h.2.2)⟩)
/-- A state with one step more. -/
def St8.more (s : St8) : St8 := { s with fuel := s.fuel + 1 }
theorem step_on (p : Pl8) (s : St8) (hn : s.fuel ≤ 100000) (w : World) (h : On8 p s.more w) : Calls Tryz.prog 98 #[.pointer (some ⟨p.m, 0, none⟩)] w fun en w' => en = .returned (.tuple #[]) ∧ On8 p s w' ∧ Kept p w w' := by
  obtain ⟨fv, hM, hF⟩ := h.M
  refine (step_ok8 p.m p.ab p.vb s.txt fv _ s.out.size s.fuel 0 hn w hM).mono ?_
  rintro en w' ⟨e, rfl⟩
  have hst : On8 p { s with fuel := s.fuel } (w.setCell ⟨p.m, 7, none⟩ (.int .i64 s.fuel)) := On8.step (s := s) (n := s.fuel) h
  exact ⟨e, hst, Kept.ofV (D := fun q => q = p.m) (fun q e => Or.inl e) ((Only.refl (fun q => q = p.m) w).setCell (p := ⟨p.m, 7, none⟩) (fun _ => rfl) _)⟩
end Go.Proofs.YtdbdbaepmdmnfaaGreatDoor

namespace Go.Proofs.YtdbdbaepmdmnfaaGreatDoor
open Go.RowKit
set_option maxRecDepth 20000 in
set_option maxHeartbeats 2000000 in
/-- The blocks of a beginning, of which there is one. -/
theorem doAll_oneB (m g cap F : Nat) (hcf : ∀ (args : Array Value) (w : World), (callFunc F args).run Tryz.prog w = .ok (.enter F args) w) (caps : List Value) (Q : World → Prop) (w : World) (h0 : w.cell? ⟨g, 0, none⟩ = some (.func (.func F) #[] caps.toArray))
    (_hg : g < w.heap.size)
    (H : Calls Tryz.prog F (.pointer (some ⟨m, 0, none⟩) :: caps).toArray (w.alloc (.cells #[.func (.func F) #[] caps.toArray] 185)) fun en w' => en = .returned (.int .i64 0) ∧ Q w') :
    Calls Tryz.prog 63 #[.pointer (some ⟨m, 0, none⟩), .slice (some ⟨g, 0, none⟩) 1 cap] w fun en w' => en = .returned (.tuple #[]) ∧ Q w' := by
  have hsf := hsfT
  have H1 := hide H
  clear H
  go_enter Tryz.func63, Tryz.ntmps63
  go_wp2
  go_loopg [8] 1 (fun gh s wr => (gh = 1 ∧ s = .int .i64 0 ∧ wr = w) ∨ (gh = 0 ∧ s = .int .i64 1 ∧ Q wr))
  case atStart => exact Or.inl ⟨rfl, rfl, rfl⟩
  case round =>
    rcases hrel with ⟨hgh, rfl, hw⟩ | ⟨hgh, rfl, hq⟩
    · subst wr
      go_wp2_with fail
      refine (H1.out).mono ?_
      rintro en w2 ⟨rfl, h3⟩
      have H3 := hide h3
      clear h3 H1
      go_wp2
      go_roundg 0
      case measure => omega
      case rel => exact Or.inr ⟨rfl, rfl, H3.out⟩
    · go_wp2
      go_end0
      exact ⟨rfl, hq⟩
set_option maxRecDepth 20000 in
set_option maxHeartbeats 2000000 in
/-- A beginning of one block, and then the input. -/
theorem run1_two (mc pc ic m p g cap : Nat) (input : ByteArray) (R : Ending → World → Prop) (Q : World → Prop) (w : World) (h0 : w.cell? ⟨mc, 0, none⟩ = some (.pointer (some ⟨m, 0, none⟩))) (h1 : w.cell? ⟨pc, 0, none⟩ = some (.pointer (some ⟨p, 0, none⟩))) (h2 : w.cell? ⟨p, 0, none⟩ = some (.slice (some ⟨g, 0, none⟩) 1 cap))
    (HB : ∀ W, Only (fun _ => False) w W → Calls Tryz.prog 63 #[.pointer (some ⟨m, 0, none⟩), .slice (some ⟨g, 0, none⟩) 1 cap] W fun en w' => en = .returned (.tuple #[]) ∧ Q w')
    (HC : ∀ W, Q W → W.cell? ⟨mc, 0, none⟩ = some (.pointer (some ⟨m, 0, none⟩)) ∧ W.cell? ⟨pc, 0, none⟩ = some (.pointer (some ⟨p, 0, none⟩)) ∧ W.cell? ⟨ic, 0, none⟩ = some (.string input))
    (H : ∀ W, Q W → Calls Tryz.prog 64 #[.pointer (some ⟨p, 0, none⟩), .pointer (some ⟨m, 0, none⟩), .string input] W fun en w' => R en w' ∧ en = .returned (.tuple #[])) :
    Calls Tryz.prog 62 #[.pointer (some ⟨mc, 0, none⟩), .pointer (some ⟨pc, 0, none⟩), .pointer (some ⟨ic, 0, none⟩)] w R := by
  have HB1 := hide HB
  have HC1 := hide HC
  have H1 := hide H
  clear H HB HC
  go_enter Tryz.func62, Tryz.ntmps62
  go_wp2
  go_region_with (go_at_call 63; refine (HB1.out _ (toDrew (Only.refl _ _))).mono ?_; rintro en w2 ⟨rfl, hq⟩; obtain ⟨c0, c1, c2⟩ := HC1.out _ hq; have HQ := hide hq; clear hq)
  all_goals
    go_wp2_with fail
    refine (H1.out _ HQ.out).mono ?_
    rintro en w3 ⟨h5, rfl⟩
    have H5 := hide h5
    clear h5
    go_wp2
    go_end0
    exact H5.out
end Go.Proofs.YtdbdbaepmdmnfaaGreatDoor

