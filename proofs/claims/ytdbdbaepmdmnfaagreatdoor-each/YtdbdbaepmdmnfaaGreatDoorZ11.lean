import Derived.Test.YtdbdbaepmdmnfaaGreatDoorZ10
import Derived.Deep.QuietTactic
import Derived.BigQuiet
import Derived.WalkLawsBesides
import Derived.Test.YtdbdbaepmdmnfaaGreatDoorZ07
import Derived.Test.YtdbdbaepmdmnfaaGreatDoorZ08
import Derived.RegionDies
import Derived.Deep.RegionHeldLaw
import Derived.Recover
import Derived.LaidEql
import Derived.Stop.Asserts
import Derived.Test.YtdbdbaepmdmnfaaGreatDoorProg
import Derived.Shelf.Strings.Builder1
import Derived.Shelf.Strings.Builder2
import Derived.Shelf.Small.Wraps
import Derived.Shelf.Strings.BuilderF
import Derived.Shelf.Strconv.Itoa0
import Derived.Shelf.Strconv.Itoa1
import Derived.Shelf.LaysM
import Derived.Shelf.Strconv.Itoa2
import Derived.Shelf.Strconv.Itoa3
import Derived.Shelf.Strconv.Itoa4
import Derived.Shelf.Strings.Prefix
import Derived.Shelf.Bits.Mul64
import Derived.Shelf.Strings.Repeat
import Derived.Test.YtdbdbaepmdmnfaaGreatDoorZ06
namespace Go.Proofs.YtdbdbaepmdmnfaaGreatDoor
open Go.RowKit
/-- Where a byte stands first. -/
theorem run_ib (s : ByteArray) (w : World) : (callFunc 354 #[.string s, .int .u8 10]).run Tryz.prog w = .ok (.value (.int .i64 (Lib.indexByte s.data.toList 10))) w := by
  rw [run_callFunc_extern Tryz.func354 (by kernel_rfl) (by kernel_rfl) (by kernel_rfl) (e := Extern.BytealgIndexByte.indexByte) (by kernel_rfl), Lib.run_indexByteString]
  rfl
set_option maxRecDepth 20000 in
set_option maxHeartbeats 1000000 in
theorem ib_any (s : ByteArray) (w : World) : Calls Tryz.prog 229 #[.string s, .int .u8 10] w fun en w' => en = .returned (.int .i64 (Lib.indexByte s.data.toList 10)) ∧ w' = w := by
  have hx := run_ib s
  go_enter Tryz.func229, Tryz.ntmps229
  go_wp2
  go_ret
  exact ⟨rfl, rfl⟩
set_option maxRecDepth 20000 in
set_option maxHeartbeats 2000000 in
theorem ix_any (s : ByteArray) (w : World) : Calls Tryz.prog 164 #[.string s, .string ⟨#[10]⟩] w fun en w' => en = .returned (.int .i64 (Lib.indexByte s.data.toList 10)) ∧ w' = w := by
  have HI := hide (ib_any s)
  by_cases h10 : ([10] == s.toList) = true
  · have hz : Lib.indexByte s.data.toList 10 = 0 := by
      rw [ByteArray.toList_eq] at h10
      rw [← eq_of_beq h10]; rfl
    rw [hz] at HI ⊢
    go_enter Tryz.func164, Tryz.ntmps164
    go_wp2_with (go_at_call 229; refine (HI.out _).mono ?_; rintro en w' ⟨rfl, h3⟩; subst w')
    all_goals go_ret
    all_goals exact ⟨rfl, rfl⟩
  · have h10' : ([10] == s.toList) = false := by rw [← Bool.not_eq_true]; exact h10
    clear h10
    go_enter Tryz.func164, Tryz.ntmps164
    go_wp2_with (go_at_call 229; refine (HI.out _).mono ?_; rintro en w' ⟨rfl, h3⟩; subst w')
    all_goals go_ret
    all_goals exact ⟨rfl, rfl⟩
theorem line_extract {s : ByteArray} (h : lineOf s.data.toList = s.data.toList.take (lineOf s.data.toList).length) : s.extract 0 (lineOf s.data.toList).length = ofB (lineOf s.data.toList) := by
  rw [extract_cut]
  unfold cutL
  rw [List.drop_zero, Nat.sub_zero, ← h]
theorem rest_extract {s : ByteArray} (h : restOf s.data.toList = s.data.toList.drop ((lineOf s.data.toList).length + 1)) : s.extract ((lineOf s.data.toList).length + 1) s.size = ofB (restOf s.data.toList) := by
  rw [extract_cut, h]
  unfold cutL
  rw [List.take_of_length_le (by rw [List.length_drop, len_eq]; omega)]
set_option maxRecDepth 20000 in
set_option maxHeartbeats 2000000 in
theorem cutL_any (s : ByteArray) (hs : s.size ≤ 100000) (w : World) : Calls Tryz.prog 130 #[.string s, .string ⟨#[10]⟩] w fun en w' => en = .returned (.tuple #[.string (ofB (lineOf s.data.toList)), .string (ofB (restOf s.data.toList)), .bool (hasNl s.data.toList)]) ∧ Only (fun _ => False) w w' := by
  have HI := hide (ix_any s)
  rcases index_line s.data.toList with ⟨g1, g2, g3, g4⟩ | ⟨g1, g2, g3, g4, g5⟩
  · rw [g1, g3, g4]
    rw [g2] at HI
    go_enter Tryz.func130, Tryz.ntmps130
    go_wp2_with (go_at_call 164; refine (HI.out _).mono ?_; rintro en w' ⟨rfl, h3⟩; subst w')
    refine bodyPost_ret (v := .tuple #[.string s, .string ⟨#[]⟩, .bool false]) (by simp [results, Tryz.results130, go_sem]) rfl ⟨rfl, Only.refl _ _⟩
  · have e1 := line_extract g3
    have e2 := rest_extract g4
    rw [g1]
    rw [g2] at HI
    rw [len_eq] at g5
    generalize (lineOf s.data.toList).length = k at *
    have hk0 : (0 : Int) ≤ (k : Int) := by omega
    have hk1 : (k : Int) + 1 ≤ (s.size : Int) := by omega
    go_enter Tryz.func130, Tryz.ntmps130
    go_wp2_with (go_at_call 164; refine (HI.out _).mono ?_; rintro en w' ⟨rfl, h3⟩; subst w')
    go_quiet (fail)
    go_wp2
    refine bodyPost_ret (v := .tuple #[.string (ofB (lineOf s.data.toList)), .string (ofB (restOf s.data.toList)), .bool true]) (by simp [results, Tryz.results130, go_sem, g3, g4]) rfl ⟨rfl, (Only.refl _ _).drewN _⟩
set_option maxRecDepth 20000 in
set_option maxHeartbeats 2000000 in
theorem cutS_any (s : ByteArray) (hs : s.size ≤ 100000) (w : World) : Calls Tryz.prog 99 #[.string s, .string ⟨#[10]⟩] w fun en w' => en = .returned (.tuple #[.string (ofB (lineOf s.data.toList)), .string (ofB (restOf s.data.toList)), .bool (hasNl s.data.toList)]) ∧ Only (fun _ => False) w w' := by
  have HI := hide (cutL_any s hs)
  generalize ofB (lineOf s.data.toList) = a at *
  generalize ofB (restOf s.data.toList) = b at *
  generalize hasNl s.data.toList = c at *
  go_enter Tryz.func99, Tryz.ntmps99
  go_wp2_with (go_at_call 130; refine (HI.out _).mono ?_; rintro en w2 ⟨rfl, h3⟩; have HO := hide h3; clear h3)
  refine bodyPost_ret (v := .tuple #[.string a, .string b, .bool c]) (by simp [results, Tryz.results99, go_sem]) rfl ⟨rfl, HO.out⟩
end Go.Proofs.YtdbdbaepmdmnfaaGreatDoor

namespace Go.Proofs.YtdbdbaepmdmnfaaGreatDoor
open Go.RowKit
/-- The value that a run that gives up throws. -/
def thrown (a : Addr) : Value := .iface 207 (.agg #[.iface 558 (.pointer (some a))])
def Threw (a : Addr) (en : Ending) : Prop := en = .panicked [{ v := thrown a, recovered := false }]
end Go.Proofs.YtdbdbaepmdmnfaaGreatDoor

namespace Go.Proofs.YtdbdbaepmdmnfaaGreatDoor
open Go.RowKit
theorem strCells_append (a b : ByteArray) : Lib.strCells (a ++ b) = Lib.strCells a ++ Lib.strCells b := by
  unfold Lib.strCells
  rw [ByteArray.data_append]
  simp
end Go.Proofs.YtdbdbaepmdmnfaaGreatDoor

namespace Go.Proofs.YtdbdbaepmdmnfaaGreatDoor
open Go.RowKit
/-- A run under way that has put out a text. -/
structure UnderL (wN wS W : World) (m ab vb sb : Nat) (txt out : ByteArray) (n : Nat) (cs : List Value) : Prop where
  hNS : wN.heap.size ≤ wS.heap.size
  lm : m < wS.heap.size
  lv : vb < wS.heap.size
  ls : sb < wS.heap.size
  ex : ∃ tv, Under wN wS W m ab vb sb txt out.size n tv cs ∧ W.ownsRow wS.heap.size 5 1 tv out.size (Lib.strCells out)
theorem UnderL.calm {wN wS W W' m ab vb sb txt out n cs} (h : UnderL wN wS W m ab vb sb txt out n cs) (ho : Only (fun _ => False) W W') : UnderL wN wS W' m ab vb sb txt out n cs := by
  obtain ⟨a, b, c, d, tv, h1, h2⟩ := h
  exact ⟨a, b, c, d, tv, h1.calm ho, ownsRow_of h2 (fun k hk => ho.block k (h2.lt k hk).2 (fun e => e))⟩
theorem UnderL.step {wN wS W m ab vb sb txt out n cs} (h : UnderL wN wS W m ab vb sb txt out (n + 1) cs) : UnderL wN wS (W.setCell ⟨m, 7, none⟩ (.int .i64 n)) m ab vb sb txt out n cs := by
  obtain ⟨a, b, c, d, tv, h1, h2⟩ := h
  obtain ⟨po, pn, pc, hM⟩ := h1.hM
  have hne := own_tag h2 hM (by decide)
  exact ⟨a, b, c, d, tv, h1.step, ownsRow_of h2 (fun k hk => Below.heap_setCell _ _ _ _ (fun e => hne (by rw [hk, e])))⟩
end Go.Proofs.YtdbdbaepmdmnfaaGreatDoor

namespace Go.Proofs.YtdbdbaepmdmnfaaGreatDoor
open Go.RowKit
theorem ofB_sizeR (l : List UInt8) : (ofB l).size = l.length := by show l.toArray.size = _; simp
theorem ofB_appendR (a b : List UInt8) : ofB a ++ ofB b = ofB (a ++ b) := by
  apply ByteArray.ext
  rw [ByteArray.data_append]
  apply Array.toList_inj.1
  simp [ofB]
end Go.Proofs.YtdbdbaepmdmnfaaGreatDoor

namespace Go.Proofs.YtdbdbaepmdmnfaaGreatDoor
open Go.RowKit
set_option maxRecDepth 100000 in
theorem mk289G (w : World) : (Instr.makeSlice 180 (.int .i64 0) (.int .i64 0)).run Tryz.prog w = .ok (.slice (some ⟨w.heap.size, 0, none⟩) 0 0) (w.alloc (.cells #[] 187)) := by kernel_rfl
theorem len287G (W : World) (r : Nat) (es : Array MapEntry) (c : Nat) (hb : W.heap[r]? = some (.map es c)) : (Builtin.len_ #[178] 3 #[.map (some r)]).run Tryz.prog W = .ok (.int .i64 es.size) W := by
  simp [Builtin.len_, run_underlying Tryz.underlying178, MapKept.run_getObj_map hb, goInt, Result.andThen]
/-- A maker with the variables that are there from the beginning, and no parameters. -/
structure MkAt (W : World) (kb mv ma mf sg : Nat) : Prop where
  k : W.heap[kb]? = some (.cells #[.map (some mv), .map (some ma), .map (some mf), .slice (some ⟨sg, 0, none⟩) 0 0, .slice none 0 0] 182 (0, 0))
  v : W.heap[mv]? = some (.map firstVs 7)
  a : W.heap[ma]? = some (.map #[] 0)
/-- What was put to a program stays, whatever else of the program turns. -/
structure KeepsG (G : Nat → World → Value → Value → Value → Prop) : Prop where
  keep : ∀ B w w' a b c pb x, G B w a b c → w.heap[pb]? = some (.cells x 135 (0, 0)) → pb < B → Only (fun q => q = pb) w w' → G B w' a b c
  down : ∀ A B w a b c, G B w a b c → A ≤ B → G A w a b c
end Go.Proofs.YtdbdbaepmdmnfaaGreatDoor

namespace Go.Proofs.YtdbdbaepmdmnfaaGreatDoor
open Go.RowKit
/-- A program of one rule for records. -/
def RuleG (K : Nat → World → Value → Prop) (B : Nat) (w : World) (a b c : Value) : Prop := a = .slice none 0 0 ∧ c = .slice none 0 0 ∧ RuleF K B w b
theorem ruleG_keeps {K : Nat → World → Value → Prop} (hK : Keeps K) : KeepsG (RuleG K) where
  keep := fun B w w' a b c pb x ⟨e1, e2, cg, y, h1, h2⟩ hp hlt ho => ⟨e1, e2, cg, y, ownsRow_of h1 (fun k hk => ho.block k (h1.lt k hk).2 (fun e => own_tag h1 hp (by decide) (by rw [hk, e]))), hK.keep _ _ _ _ h2 (ho.mono (fun q _ e => by omega))⟩
  down := fun A B w a b c ⟨e1, e2, cg, y, h1, h2⟩ hA => ⟨e1, e2, cg, y, h1, hK.down _ _ _ _ h2 hA⟩
end Go.Proofs.YtdbdbaepmdmnfaaGreatDoor

namespace Go.Proofs.YtdbdbaepmdmnfaaGreatDoor
open Go.RowKit
set_option maxRecDepth 20000 in
set_option maxHeartbeats 2000000 in
theorem run1_any (mc pc ic m p : Nat) (input : ByteArray) (R : Ending → World → Prop) (w : World) (h0 : w.cell? ⟨mc, 0, none⟩ = some (.pointer (some ⟨m, 0, none⟩))) (h1 : w.cell? ⟨pc, 0, none⟩ = some (.pointer (some ⟨p, 0, none⟩))) (h2 : w.cell? ⟨p, 0, none⟩ = some (.slice none 0 0)) (h3 : w.cell? ⟨ic, 0, none⟩ = some (.string input))
    (H : Calls Tryz.prog 64 #[.pointer (some ⟨p, 0, none⟩), .pointer (some ⟨m, 0, none⟩), .string input] w.drew fun en w' => R en w' ∧ (en = .returned (.tuple #[]) ∨ ∃ x, Threw x en)) :
    Calls Tryz.prog 62 #[.pointer (some ⟨mc, 0, none⟩), .pointer (some ⟨pc, 0, none⟩), .pointer (some ⟨ic, 0, none⟩)] w R := by
  have HD := hide (doAll_nil (some ⟨m, 0, none⟩))
  have H1 := hide H
  clear H
  go_enter Tryz.func62, Tryz.ntmps62
  go_wp2
  go_region_with (go_at_call 63; refine (HD.out _).mono ?_; rintro en w' ⟨rfl, h3⟩; subst h3)
  all_goals
    go_wp2_with fail
    refine (H1.out).mono ?_
    rintro en w2 ⟨h5, rfl | ⟨x, rfl⟩⟩
    · have H5 := hide h5
      clear h5
      go_wp2
      go_end0
      exact H5.out
    · have H5 := hide h5
      clear h5
      go_wp2
      exact ⟨rfl, H5.out⟩
end Go.Proofs.YtdbdbaepmdmnfaaGreatDoor

namespace Go.Proofs.YtdbdbaepmdmnfaaGreatDoor
open Go.RowKit
set_option maxRecDepth 20000 in
set_option maxHeartbeats 4000000 in
theorem streams_ofL (sb : Nat) (tv : Value) (M : List UInt8) (w : World) (hS : w.heap[sb]? = some (.cells #[.string ⟨#[]⟩, tv] 142 (0, 0))) (hown : w.ownsRow 0 5 1 tv M.length (M.map byV)) :
    Calls Tryz.prog 42 #[.slice (some ⟨sb, 0, none⟩) 1 1] w fun en w' => ∃ g, en = .returned (.slice (some ⟨g, 0, none⟩) 1 1) ∧ w'.heap[g]? = some (.cells #[.string ⟨#[]⟩, .string (ofB M)] 41 (0, 0)) ∧ Only (fun _ => False) w w' := by
  have hmk := mk49
  obtain ⟨po, cap, rfl⟩ := ownsRow_slice hown
  have s0 : w.cell? ⟨sb, 0, none⟩ = some (.string ⟨#[]⟩) := cell_of hS rfl
  have s1 : w.cell? ⟨sb, 1, none⟩ = some (.slice po M.length cap) := cell_of hS rfl
  have sl := heap_lt hS
  have kc : Hid (∀ W, Only (fun _ => False) w W → (convert 54 9 (.slice po M.length cap)).run Tryz.prog W = .ok (.string (ofB M)) W) := fun W hW => bytes_conv (M := M) (ownsRow_of hown (fun k hk => hW.block k (hown.lt k hk).2 (fun e => e)))
  clear hS hown
  go_enter Tryz.func42, Tryz.ntmps42
  go_wp2
  go_loopg [11] 1 (fun gh s11 wr => (gh = 1 ∧ s11 = .int .i64 0 ∧ w.alloc (.cells #[.string ⟨#[]⟩, .string ⟨#[]⟩] 41) = wr) ∨ (gh = 0 ∧ s11 = .int .i64 1 ∧ wr.heap[w.heap.size]? = some (.cells #[.string ⟨#[]⟩, .string (ofB M)] 41 (0, 0)) ∧ Only (fun _ => False) w wr))
  case atStart => exact Or.inl ⟨rfl, rfl, rfl⟩
  case round =>
    rcases hrel with ⟨hg, rfl, ew⟩ | ⟨hg, rfl, hb, ho⟩
    · subst ew
      subst hg
      have hkc := kc.out ((w.alloc (.cells #[.string ⟨#[]⟩, .string ⟨#[]⟩] 41)).alloc (.cells #[.string ⟨#[]⟩, .slice po M.length cap] 142)) ((onlyA w _).alloc _)
      go_wp2
      go_roundg 0
      case measure => omega
      case rel =>
        refine Or.inr ⟨rfl, by go_num, ?_, ?_⟩
        · exact (Below.heap_alloc _ _ _ (by simp)).trans (new0 w _)
        · exact (onlyA w _).alloc _
    · have HB := hide hb
      have HO := hide ho
      clear hb ho
      go_wp2
      go_ret
      exact ⟨_, rfl, HB.out, HO.out⟩
end Go.Proofs.YtdbdbaepmdmnfaaGreatDoor

namespace Go.Proofs.YtdbdbaepmdmnfaaGreatDoor
open Go.RowKit
/-- The errors are there; the one for fields lies apart from the two that are asked for ahead of it. -/
structure SentF (w : World) (a : Addr) : Prop where
  s : Sent w
  f : w.cell? ⟨2, 0, none⟩ = some (.iface 558 (.pointer (some a)))
  ha : ∃ c t, w.heap[a.block]? = some (.cells c t (0, 0))
  o : ∀ k, k ≤ 1 → ∃ b, w.cell? ⟨k, 0, none⟩ = some (.iface 558 (.pointer (some b))) ∧ a ≠ b ∧ ∃ c t, w.heap[b.block]? = some (.cells c t (0, 0))
theorem SentF.only {w w' : World} {a : Addr} (h : SentF w a) (ho : Only (fun _ => False) w w') : SentF w' a := by
  obtain ⟨h1, h2, ⟨c, t, h3⟩, h4⟩ := h
  refine ⟨h1.only ho, (ho.cell (p := ⟨2, 0, none⟩) (World.block_lt_of_cell? w _ h2) (fun e => e)).trans h2, ⟨c, t, (ho.block _ (heap_lt h3) (fun e => e)).trans h3⟩, fun k hk => ?_⟩
  obtain ⟨b, g1, g2, c', t', g3⟩ := h4 k hk
  exact ⟨b, (ho.cell (p := ⟨k, 0, none⟩) (World.block_lt_of_cell? w _ g1) (fun e => e)).trans g1, g2, c', t', (ho.block _ (heap_lt g3) (fun e => e)).trans g3⟩
end Go.Proofs.YtdbdbaepmdmnfaaGreatDoor

namespace Go.Proofs.YtdbdbaepmdmnfaaGreatDoor
open Go.RowKit
/-- A run under way that has put nothing out. -/
structure UnderE (wN wS W : World) (m ab vb sb : Nat) (txt : ByteArray) (n : Nat) (cs : List Value) : Prop where
  hNS : wN.heap.size ≤ wS.heap.size
  lm : m < wS.heap.size
  lv : vb < wS.heap.size
  ls : sb < wS.heap.size
  u : Under wN wS W m ab vb sb txt 0 n (.slice none 0 0) cs
theorem UnderE.calm {wN wS W W' m ab vb sb txt n cs} (h : UnderE wN wS W m ab vb sb txt n cs) (ho : Only (fun _ => False) W W') : UnderE wN wS W' m ab vb sb txt n cs := ⟨h.hNS, h.lm, h.lv, h.ls, h.u.calm ho⟩
theorem UnderE.step {wN wS W m ab vb sb txt n cs} (h : UnderE wN wS W m ab vb sb txt (n + 1) cs) : UnderE wN wS (W.setCell ⟨m, 7, none⟩ (.int .i64 n)) m ab vb sb txt n cs := ⟨h.hNS, h.lm, h.lv, h.ls, h.u.step⟩
end Go.Proofs.YtdbdbaepmdmnfaaGreatDoor

namespace Go.Proofs.YtdbdbaepmdmnfaaGreatDoor
open Go.RowKit
set_option maxRecDepth 20000 in
set_option maxHeartbeats 1000000 in
theorem ixf_none (f : Value) (w : World) : Calls Tryz.prog 381 #[.slice none 0 0, f] w fun en w' => en = .returned (.int .i64 (-1)) ∧ w' = w := by
  go_enter Tryz.func381, Tryz.ntmps381
  go_wp2
  go_loop [8] (fun s => s = .int .i64 0) (fun _ => 0)
  case atStart => exact rfl
  case round =>
    subst hrel
    go_wp2
    go_ret
    exact ⟨rfl, rfl⟩
set_option maxRecDepth 20000 in
set_option maxHeartbeats 1000000 in
theorem kparam_none (kb : Nat) (x : ByteArray) (a : Int) (w : World) (h : w.cell? ⟨kb, 4, none⟩ = some (.slice none 0 0)) : Calls Tryz.prog 303 #[.pointer (some ⟨kb, 0, none⟩), .agg #[.string x, .int .i64 a]] w fun en w' => en = .returned (.int .i64 (-1)) ∧ w' = w.alloc (.cells #[.string x, .int .i64 a] 92) := by
  have hmf := hmfT
  have kl := World.block_lt_of_cell? w ⟨kb, 4, none⟩ h
  simp only at kl
  have HI := hide ixf_none
  go_enter Tryz.func303, Tryz.ntmps303
  go_wp2_with (go_at_call 381; refine (HI.out _ _).mono ?_; rintro en w2 ⟨rfl, hw2⟩; subst hw2)
  go_ret
  exact ⟨rfl, rfl⟩
theorem MkAt.only {W W' : World} {kb mv ma mf sg : Nat} (h : MkAt W kb mv ma mf sg) (ho : Only (fun _ => False) W W') : MkAt W' kb mv ma mf sg := ⟨(ho.block kb (heap_lt h.k) (fun e => e)).trans h.k, (ho.block mv (heap_lt h.v) (fun e => e)).trans h.v, (ho.block ma (heap_lt h.a) (fun e => e)).trans h.a⟩
set_option maxRecDepth 100000 in
theorem mk380one (w : World) : (Instr.makeSlice 252 (.int .i64 1) (.int .i64 1)).run Tryz.prog w = .ok (.slice (some ⟨w.heap.size, 0, none⟩) 1 1) (w.alloc (.cells #[.nilFunc, .nilFunc] 338)) := by kernel_rfl
end Go.Proofs.YtdbdbaepmdmnfaaGreatDoor

namespace Go.Proofs
open Go.Shelf
def Tryz.lays171_ren : Go.Shelf.Ren := ⟨fun | 171 => 399 | 243 => 441 | 246 => 203 | 283 => 263 | 284 => 264 | 285 => 265 | 286 => 266 | 129 => 199 | 317 => 364 | 318 => 365 | 319 => 366 | 320 => 367 | 337 => 429 | 338 => 430 | n => n, fun | 3 => 3 | 9 => 9 | 2 => 2 | 4 => 4 | 171 => 415 | 0 => 0 | 53 => 113 | 37 => 54 | 5 => 5 | 173 => 417 | 212 => 488 | 51 => 327 | 20 => 20 | 213 => 489 | 46 => 241 | 232 => 528 | 233 => 529 | n => n, fun | 17 => 9 | 18 => 10 | 19 => 11 | n => n⟩
theorem Tryz.lays171 : Go.Proofs.Lays.n171 Tryz.prog Tryz.lays171_ren := {
  mixed := by kernel_rfl
  f129 := Tryz.func199.trans (congrArg some (by kernel_rfl))
  f171 := Tryz.func399.trans (congrArg some (by kernel_rfl))
  f243 := Tryz.func441.trans (congrArg some (by kernel_rfl))
  f246 := Tryz.func203.trans (congrArg some (by kernel_rfl))
  f283 := Tryz.func263.trans (congrArg some (by kernel_rfl))
  f284 := Tryz.func264.trans (congrArg some (by kernel_rfl))
  f285 := Tryz.func265.trans (congrArg some (by kernel_rfl))
  f286 := Tryz.func266.trans (congrArg some (by kernel_rfl))
  f317 := Tryz.func364.trans (congrArg some (by kernel_rfl))
  f318 := Tryz.func365.trans (congrArg some (by kernel_rfl))
  f319 := Tryz.func366.trans (congrArg some (by kernel_rfl))
  f320 := Tryz.func367.trans (congrArg some (by kernel_rfl))
  f337 := Tryz.func429.trans (congrArg some (by kernel_rfl))
  f338 := Tryz.func430.trans (congrArg some (by kernel_rfl))
  t0 := Tryz.underlying0
  a0 := Tryz.isAgg0
  z0 := Tryz.sizeOf0
  v0 := Tryz.zeroValue0
  t2 := Tryz.underlying2
  a2 := Tryz.isAgg2
  z2 := Tryz.sizeOf2
  v2 := Tryz.zeroValue2
  t3 := Tryz.underlying3
  a3 := Tryz.isAgg3
  z3 := Tryz.sizeOf3
  v3 := Tryz.zeroValue3
  t4 := Tryz.underlying4
  a4 := Tryz.isAgg4
  z4 := Tryz.sizeOf4
  v4 := Tryz.zeroValue4
  t5 := Tryz.underlying5
  a5 := Tryz.isAgg5
  z5 := Tryz.sizeOf5
  v5 := Tryz.zeroValue5
  t9 := Tryz.underlying9
  a9 := Tryz.isAgg9
  z9 := Tryz.sizeOf9
  v9 := Tryz.zeroValue9
  t20 := Tryz.underlying20
  a20 := Tryz.isAgg20
  z20 := Tryz.sizeOf20
  v20 := Tryz.zeroValue20
  t37 := Tryz.underlying54
  a37 := Tryz.isAgg54
  z37 := Tryz.sizeOf54
  v37 := Tryz.zeroValue54
  t46 := Tryz.underlying241
  a46 := Tryz.isAgg241
  z46 := Tryz.sizeOf241
  v46 := Tryz.zeroValue241
  t51 := Tryz.underlying327
  a51 := Tryz.isAgg327
  z51 := Tryz.sizeOf327
  v51 := Tryz.zeroValue327
  t53 := Tryz.underlying113
  a53 := Tryz.isAgg113
  z53 := Tryz.sizeOf113
  v53 := Tryz.zeroValue113
  t171 := Tryz.underlying415
  a171 := Tryz.isAgg415
  z171 := Tryz.sizeOf415
  v171 := Tryz.zeroValue415
  t173 := Tryz.underlying417
  a173 := Tryz.isAgg417
  z173 := Tryz.sizeOf417
  v173 := Tryz.zeroValue417
  t212 := Tryz.underlying488
  a212 := Tryz.isAgg488
  z212 := Tryz.sizeOf488
  v212 := Tryz.zeroValue488
  t213 := Tryz.underlying489
  a213 := Tryz.isAgg489
  z213 := Tryz.sizeOf489
  t232 := Tryz.underlying528
  a232 := Tryz.isAgg528
  z232 := Tryz.sizeOf528
  v232 := Tryz.zeroValue528
  t233 := Tryz.underlying529
  a233 := Tryz.isAgg529
  z233 := Tryz.sizeOf529
  v233 := Tryz.zeroValue529
  g17 := by kernel_rfl
  g18 := by kernel_rfl
  g19 := by kernel_rfl }
open Go.RowKit Go.Sort Go.Lib in
theorem Tryz.strconv_Itoa_small (i : Nat) (hi : i < 100) (w : World) :
    Calls Tryz.prog 399 #[.int .i64 i] w fun e w' => e = .returned (.string ⟨(Lib.decDigits i).toArray⟩) ∧ w' = w := Any.strconv_Itoa_small Tryz.lays171 i hi w
def Tryz.laysM173_ren : Go.Shelf.Ren := ⟨fun | 173 => 153 | 246 => 203 | 283 => 263 | 284 => 264 | 285 => 265 | 286 => 266 | 129 => 199 | 317 => 364 | 318 => 365 | 319 => 366 | 320 => 367 | 337 => 429 | 338 => 430 | n => n, fun | 2 => 2 | 3 => 3 | 9 => 9 | 4 => 4 | 171 => 415 | 0 => 0 | 53 => 113 | 37 => 54 | 5 => 5 | 173 => 417 | 212 => 488 | 51 => 327 | 20 => 20 | 213 => 489 | 46 => 241 | 232 => 528 | 233 => 529 | n => n, fun | 17 => 9 | 18 => 10 | 19 => 11 | n => n⟩
theorem Tryz.laysM173 : Go.Proofs.LaysM.n173 Tryz.prog Tryz.laysM173_ren := {
  mixed := by kernel_rfl
  f129 := Tryz.func199.trans (congrArg some (by kernel_rfl))
  f173 := Tryz.func153.trans (congrArg some (by kernel_rfl))
  f246 := Tryz.func203.trans (congrArg some (by kernel_rfl))
  f283 := Tryz.func263.trans (congrArg some (by kernel_rfl))
  f284 := Tryz.func264.trans (congrArg some (by kernel_rfl))
  f285 := Tryz.func265.trans (congrArg some (by kernel_rfl))
  f286 := Tryz.func266.trans (congrArg some (by kernel_rfl))
  f317 := Tryz.func364.trans (congrArg some (by kernel_rfl))
  f318 := Tryz.func365.trans (congrArg some (by kernel_rfl))
  f319 := Tryz.func366.trans (congrArg some (by kernel_rfl))
  f320 := Tryz.func367.trans (congrArg some (by kernel_rfl))
  f337 := Tryz.func429.trans (congrArg some (by kernel_rfl))
  f338 := Tryz.func430.trans (congrArg some (by kernel_rfl))
  t0 := Tryz.underlying0
  a0 := Tryz.isAgg0
  z0 := Tryz.sizeOf0
  v0 := Tryz.zeroValue0
  t2 := Tryz.underlying2
  a2 := Tryz.isAgg2
  z2 := Tryz.sizeOf2
  v2 := Tryz.zeroValue2
  t3 := Tryz.underlying3
  a3 := Tryz.isAgg3
  z3 := Tryz.sizeOf3
  v3 := Tryz.zeroValue3
  t4 := Tryz.underlying4
  a4 := Tryz.isAgg4
  z4 := Tryz.sizeOf4
  v4 := Tryz.zeroValue4
  t5 := Tryz.underlying5
  a5 := Tryz.isAgg5
  z5 := Tryz.sizeOf5
  v5 := Tryz.zeroValue5
  t9 := Tryz.underlying9
  a9 := Tryz.isAgg9
  z9 := Tryz.sizeOf9
  v9 := Tryz.zeroValue9
  t20 := Tryz.underlying20
  a20 := Tryz.isAgg20
  z20 := Tryz.sizeOf20
  v20 := Tryz.zeroValue20
  t37 := Tryz.underlying54
  a37 := Tryz.isAgg54
  z37 := Tryz.sizeOf54
  v37 := Tryz.zeroValue54
  t46 := Tryz.underlying241
  a46 := Tryz.isAgg241
  z46 := Tryz.sizeOf241
  v46 := Tryz.zeroValue241
  t51 := Tryz.underlying327
  a51 := Tryz.isAgg327
  z51 := Tryz.sizeOf327
  v51 := Tryz.zeroValue327
  t53 := Tryz.underlying113
  a53 := Tryz.isAgg113
  z53 := Tryz.sizeOf113
  v53 := Tryz.zeroValue113
  t171 := Tryz.underlying415
  a171 := Tryz.isAgg415
  z171 := Tryz.sizeOf415
  v171 := Tryz.zeroValue415
  t173 := Tryz.underlying417
  a173 := Tryz.isAgg417
  z173 := Tryz.sizeOf417
  v173 := Tryz.zeroValue417
  t212 := Tryz.underlying488
  a212 := Tryz.isAgg488
  z212 := Tryz.sizeOf488
  v212 := Tryz.zeroValue488
  t213 := Tryz.underlying489
  a213 := Tryz.isAgg489
  z213 := Tryz.sizeOf489
  t232 := Tryz.underlying528
  a232 := Tryz.isAgg528
  z232 := Tryz.sizeOf528
  v232 := Tryz.zeroValue528
  t233 := Tryz.underlying529
  a233 := Tryz.isAgg529
  z233 := Tryz.sizeOf529
  v233 := Tryz.zeroValue529
  g17 := by kernel_rfl
  g18 := by kernel_rfl
  g19 := by kernel_rfl
  i0 := by kernel_rfl
  i2 := by kernel_rfl
  i3 := by kernel_rfl
  i4 := by kernel_rfl
  i5 := by kernel_rfl
  i9 := by kernel_rfl
  i20 := by kernel_rfl
  i37 := by kernel_rfl
  i46 := by kernel_rfl
  i51 := by kernel_rfl
  i53 := by kernel_rfl
  i171 := by kernel_rfl
  i173 := by kernel_rfl
  i212 := by kernel_rfl
  i232 := by kernel_rfl
  i233 := by kernel_rfl
  m17 := by kernel_rfl
  m18 := by kernel_rfl
  m19 := by kernel_rfl }
open Go.RowKit Go.Sort Go.Lib in
theorem Tryz.strconv_FormatInt_10 (n : Int) (h0 : -9223372036854775808 ≤ n) (h1 : n ≤ 9223372036854775807) (w : World) (htab : Lib.TabIs Tryz.prog w "internal/strconv.uint64pow10" .u64 Lib.pow10Tab) :
    Calls Tryz.prog 153 #[.int .i64 n, .int .i64 10] w fun e w' => e = .returned (.string ⟨(Lib.itoa n).toArray⟩) ∧ ∃ k os, w' = grow (w.drewN k) os := Any.strconv_FormatInt_10 Tryz.laysM173 n h0 h1 w htab
end Go.Proofs

namespace Go.Proofs.YtdbdbaepmdmnfaaGreatDoor
open Go.RowKit
theorem only_grow (w : World) (k : Nat) (os : Array Obj) : Only (fun _ => False) w (Sort.grow (w.drewN k) os) :=
  ⟨rfl, rfl, rfl, by show w.heap.size ≤ (w.heap ++ os).size; rw [Array.size_append]; omega, fun i hi _ => by show (w.heap ++ os)[i]? = _; rw [Array.getElem?_append_left hi]⟩
theorem tab_only {P : Program} {w w' : World} {name : String} {k : IntKind} {zs : List Int} (h : Lib.TabIs P w name k zs) (ho : Only (fun _ => False) w w') : Lib.TabIs P w' name k zs := by
  unfold Lib.TabIs World.var? at *
  cases hg : P.globalNamed name with
  | none => simp [hg] at h
  | some g =>
    simp only [hg, Option.bind_some] at h ⊢
    have hlt : g < w.heap.size := by
      rcases Nat.lt_or_ge g w.heap.size with h' | h'
      · exact h'
      · rw [Array.getElem?_eq_none h'] at h; simp at h
    rw [ho.block g hlt (fun e => e)]
    exact h
set_option maxRecDepth 20000 in
set_option maxHeartbeats 1000000 in
theorem text_num (k : Nat) (hk : k ≤ 100000) (s : ByteArray) (w : World) (htab : Lib.TabIs Tryz.prog w "internal/strconv.uint64pow10" .u64 Lib.pow10Tab) :
    Calls Tryz.prog 235 #[.agg #[.int .i64 1, .int .i64 k, .string s]] w fun e w' => e = .returned (.string ⟨(Lib.itoa k).toArray⟩) ∧ Only (fun _ => False) w w' := by
  have HF := hide (fun W h => Tryz.strconv_FormatInt_10 (k : Int) (by omega) (by omega) W h)
  have HT := hide (tab_only htab (onlyA w (.cells #[.int .i64 1, .int .i64 k, .string s] 203)))
  clear htab
  go_enter Tryz.func235, Tryz.ntmps235
  go_wp2_with (go_at_call 153; refine (HF.out _ HT.out).mono ?_; rintro en w2 ⟨rfl, nk, os, hw2⟩; have hO : Only (fun _ => False) w w2 := hw2 ▸ (onlyA w _).trans (only_grow _ nk os) (fun _ _ e => e); have HO := hide hO; clear hw2 hO)
  go_ret
  exact ⟨rfl, HO.out⟩
theorem cf291 (args : Array Value) (w : World) : (callFunc 307 args).run Tryz.prog w = .ok (.enter 307 args) w := callFunc_in Tryz.func307 (by kernel_rfl) rfl args w
theorem cf292 (args : Array Value) (w : World) : (callFunc 308 args).run Tryz.prog w = .ok (.enter 308 args) w := callFunc_in Tryz.func308 (by kernel_rfl) rfl args w
theorem cf370 (args : Array Value) (w : World) : (callFunc 386 args).run Tryz.prog w = .ok (.enter 386 args) w := callFunc_in Tryz.func386 (by kernel_rfl) rfl args w
set_option maxRecDepth 20000 in
set_option maxHeartbeats 1000000 in
theorem vfind_do (m nb : Nat) (w : World) :
    Calls Tryz.prog 307 #[.pointer (some ⟨m, 0, none⟩), .pointer (some ⟨nb, 0, none⟩)] w fun en w' => en = .returned (.agg #[.func (.func 308) #[] #[.pointer (some ⟨w.heap.size, 0, none⟩), .pointer (some ⟨nb, 0, none⟩)], .func (.func 310) #[] #[.pointer (some ⟨w.heap.size, 0, none⟩), .pointer (some ⟨nb, 0, none⟩)]]) ∧ w'.heap[w.heap.size]? = some (.cells #[.pointer (some ⟨m, 0, none⟩)] 130 (0, 0)) ∧ Only (fun _ => False) w w' := by
  have hmf := hmfT
  have hsf := hsfT
  have hsn := hsnT
  go_enter Tryz.func307, Tryz.ntmps307
  go_wp2
  refine bodyPost_ret (v := .agg #[.func (.func 308) #[] #[.pointer (some ⟨w.heap.size, 0, none⟩), .pointer (some ⟨nb, 0, none⟩)], .func (.func 310) #[] #[.pointer (some ⟨w.heap.size, 0, none⟩), .pointer (some ⟨nb, 0, none⟩)]]) (by simp [results, Tryz.results307, go_sem]) rfl ⟨rfl, ?_, ?_⟩
  · exact (Below.heap_alloc _ _ _ (by simp)).trans (new0 w _)
  · exact (onlyA w _).alloc _
set_option maxRecDepth 100000 in
theorem fld428 (F G : Nat) (a b c d : Value) (w : World) : (Instr.field 436 (.agg #[.func (.func F) #[] #[a, b], .func (.func G) #[] #[c, d]]) 0).run Tryz.prog w = .ok (.func (.func F) #[] #[a, b]) w := by kernel_rfl
end Go.Proofs.YtdbdbaepmdmnfaaGreatDoor

namespace Go.Proofs.YtdbdbaepmdmnfaaGreatDoor
open Go.RowKit
set_option maxRecDepth 100000 in
theorem mk23one (w : World) : (Instr.makeSlice 23 (.int .i64 1) (.int .i64 1)).run Tryz.prog w = .ok (.slice (some ⟨w.heap.size, 0, none⟩) 1 1) (w.alloc (.cells #[.string ⟨#[]⟩] 9)) := by kernel_rfl
set_option maxRecDepth 20000 in
set_option maxHeartbeats 1000000 in
theorem join_one (b cap : Nat) (s sep : ByteArray) (w : World) (h : w.cell? ⟨b, 0, none⟩ = some (.string s)) : Calls Tryz.prog 283 #[.slice (some ⟨b, 0, none⟩) 1 cap, .string sep] w fun en w' => en = .returned (.string s) ∧ w' = w := by
  have bl := World.block_lt_of_cell? w ⟨b, 0, none⟩ h
  simp only at bl
  go_enter Tryz.func283, Tryz.ntmps283
  go_wp2
  go_ret
  exact ⟨rfl, rfl⟩
end Go.Proofs.YtdbdbaepmdmnfaaGreatDoor

namespace Go.Proofs.YtdbdbaepmdmnfaaGreatDoor
open Go.RowKit
theorem itoa_short (k : Nat) (hk : k ≤ 400) : (Lib.itoa (k : Int)).length ≤ 30 := by
  rw [Lib.itoa_nonneg, Lib.decDigits_length, Lib.nDigits]
  split
  · omega
  · rw [Lib.nDigits]
    split
    · omega
    · rw [Lib.nDigits, dif_pos (by omega)]
      omega
end Go.Proofs.YtdbdbaepmdmnfaaGreatDoor

namespace Go.Proofs.YtdbdbaepmdmnfaaGreatDoor
open Go.RowKit
set_option maxRecDepth 20000 in
set_option maxHeartbeats 4000000 in
theorem ends_no (pb : Nat) (T : ByteArray) (s : TS) (ge : Bool) (h0 : seen s [59] = false) (h1 : seen s [125] = false) (w : World) (h : PAt w pb T s ge) :
    Calls Tryz.prog 423 #[.pointer (some ⟨pb, 0, none⟩)] w fun en w' => en = .returned (.bool false) ∧ Only (fun _ => False) w w' := by
  have hl := h.lt
  have HS : Hid (Calls Tryz.prog 184 #[.pointer (some ⟨pb, 0, none⟩), .slice (some ⟨w.heap.size, 0, none⟩) 2 2] (w.alloc (.cells #[.string ⟨#[59]⟩, .string ⟨#[125]⟩] 9)) fun en w' => en = .returned (.bool false) ∧ w' = w.alloc (.cells #[.string ⟨#[59]⟩, .string ⟨#[125]⟩] 9)) :=
    oneOf_no pb T s ge w.heap.size 2 [⟨#[59]⟩, ⟨#[125]⟩] (by decide) (fun t ht => by
      simp at ht
      rcases ht with rfl | rfl
      · exact h0
      · exact h1) _ (Reads.alloc_at h _) (strs_new w [⟨#[59]⟩, ⟨#[125]⟩])
  clear h h0 h1
  go_enter Tryz.func423, Tryz.ntmps423
  go_wp2_with (go_at_call 184; refine (HS.out).mono ?_; rintro en w' ⟨rfl, rfl⟩)
  go_ret
  exact ⟨rfl, (Only.refl _ w).alloc _⟩
/-- A print with a list. -/
def PrintL (pb : Nat) (vs : List Value) : World → Value → Prop := fun w v => ∃ r, v = .iface 285 (.agg #[r, .nilIface]) ∧ Row pb vs w r
set_option maxRecDepth 20000 in
set_option maxHeartbeats 4000000 in
theorem print_list (pb : Nat) (T : ByteArray) (s s1 : TS) (vs : List Value) (h0 : seen s [59] = false) (h1 : seen s [125] = false) (h2 : seen s [62] = false) (hL : Reads 424 pb T true s s1 (Row pb vs)) (hg : seen s1 [62] = false) : Reads 359 pb T false s s1 (PrintL pb vs) := by
  intro w h
  have hl := h.lt
  have HE : Hid (∀ o, Calls Tryz.prog 423 #[.pointer (some ⟨pb, 0, none⟩)] (w.alloc o) fun en w' => en = .returned (.bool false) ∧ Only (fun _ => False) (w.alloc o) w') := hide (fun o => ends_no pb T s false h0 h1 _ (Reads.alloc_at h o))
  have HSe : Hid (∀ W, PAt W pb T s false → Calls Tryz.prog 137 #[.pointer (some ⟨pb, 0, none⟩), .string ⟨#[62]⟩] W fun en w' => en = .returned (.bool false) ∧ w' = W) := hide (fun W hW => sees_at pb T s false ⟨#[62]⟩ false h2 W hW)
  have HPn : Hid (∀ W, PAt W pb T s1 false → Calls Tryz.prog 106 #[.pointer (some ⟨pb, 0, none⟩), .string ⟨#[62]⟩] W fun en w' => en = .returned (.bool false) ∧ w' = W) := hide (fun W hW => passes_no pb T s1 false ⟨#[62]⟩ hg W hW)
  have HL := hide hL
  have HP := hide h
  clear h h0 h1 h2 hg hL
  go_enter Tryz.func359, Tryz.ntmps359
  go_wp2_with fail
  refine (HE.out _).mono ?_
  rintro en w1 ⟨rfl, ho⟩
  have hb := (ho.block w.heap.size (by simp) (fun e => e)).trans (new0 w (.cells #[.slice none 0 0, .nilIface] 285))
  have hp1 : PAt w1 pb T s false := (Reads.alloc_at HP.out _).only ho (fun e => e)
  have HS1 := hide (HSe.out w1 hp1)
  have hz1 := ho.size
  simp at hz1
  have pf := free_of hp1
  have p6 : w1.cell? ⟨pb, 6, none⟩ = some (.bool false) := cell_of hp1 rfl
  have HP1 := hide hp1
  have HB1 := hide hb
  have HO : Hid (Only (fun _ => False) w w1) := ((Only.refl _ w).alloc _).trans ho (fun _ _ e => e)
  clear ho hb hp1 HE HSe
  go_wp2_with (go_at_call 137; refine (HS1.out).mono ?_; rintro en w' ⟨rfl, h3⟩; subst w')
  refine (HL.out _ (HP1.out.setGe true)).mono ?_
  rintro en w2 ⟨r, rfl, hr, hp2, ho2⟩
  obtain ⟨po, cap, rfl⟩ := row_one hr
  have hpn : w.heap.size ≠ pb := by omega
  have hb2 : w2.heap[w.heap.size]? = some (.cells #[.slice none 0 0, .nilIface] 285 (0, 0)) := (ho2.block w.heap.size (by simp; omega) (fun e => hpn e)).trans ((Below.heap_setCell _ _ _ _ hpn).trans HB1.out)
  have b0 : w2.cell? ⟨w.heap.size, 0, none⟩ = some (.slice none 0 0) := cell_of hb2 rfl
  have b1 : w2.cell? ⟨w.heap.size, 1, none⟩ = some .nilIface := cell_of hb2 rfl
  have bf := free_of hb2
  have q6 : w2.cell? ⟨pb, 6, none⟩ = some (.bool true) := cell_of hp2 rfl
  have qf := free_of hp2
  have hrt := own_tag hr.1 hb2 (by decide)
  have HR := hide hr
  have HRt := hide hrt
  have HB2 := hide hb2
  have HP2 := hide hp2
  have HO2 := hide ho2
  clear hr hrt hb2 hp2 ho2 HL
  go_wp2_with fail
  have hb3 : ((w2.setCell ⟨w.heap.size, 0, none⟩ (.slice po vs.length cap)).setCell ⟨pb, 6, none⟩ (.bool false)).heap[w.heap.size]? = some (.cells #[.slice po vs.length cap, .nilIface] 285 (0, 0)) := (Below.heap_setCell _ _ _ _ hpn).trans (heap_setCell_same HB2.out _)
  have hp3 : PAt ((w2.setCell ⟨w.heap.size, 0, none⟩ (.slice po vs.length cap)).setCell ⟨pb, 6, none⟩ (.bool false)) pb T s1 false := PAt.setGe (ge := true) ((Below.heap_setCell _ _ _ _ (Ne.symm hpn)).trans HP2.out) false
  have m0 : ((w2.setCell ⟨w.heap.size, 0, none⟩ (.slice po vs.length cap)).setCell ⟨pb, 6, none⟩ (.bool false)).cell? ⟨w.heap.size, 0, none⟩ = some (.slice po vs.length cap) := cell_of hb3 rfl
  have m1 : ((w2.setCell ⟨w.heap.size, 0, none⟩ (.slice po vs.length cap)).setCell ⟨pb, 6, none⟩ (.bool false)).cell? ⟨w.heap.size, 1, none⟩ = some .nilIface := cell_of hb3 rfl
  have hrow3 : Row pb vs ((w2.setCell ⟨w.heap.size, 0, none⟩ (.slice po vs.length cap)).setCell ⟨pb, 6, none⟩ (.bool false)) (.slice po vs.length cap) := ⟨ownsRow_of HR.out.1 (fun k hk => (Below.heap_setCell _ _ _ _ (fun e => HR.out.2 (by rw [hk, e]))).trans (Below.heap_setCell _ _ _ _ (fun e => HRt.out (by rw [hk, e])))), HR.out.2⟩
  have hO3 : Only (fun k => k = pb) w ((w2.setCell ⟨w.heap.size, 0, none⟩ (.slice po vs.length cap)).setCell ⟨pb, 6, none⟩ (.bool false)) := ((((HO.out.mono (E := fun k => k = pb) (fun _ _ e => e.elim)).setCell (p := ⟨pb, 6, none⟩) (fun _ => rfl) (.bool true)).trans HO2.out (fun _ _ e => e)).setCell (p := ⟨w.heap.size, 0, none⟩) (fun h => absurd h (Nat.lt_irrefl _)) _).setCell (p := ⟨pb, 6, none⟩) (fun _ => rfl) _
  have HPf := hide (HPn.out _ hp3)
  have HP3 := hide hp3
  have HR3 := hide hrow3
  have HO3 := hide hO3
  clear hb3 hp3 hrow3 hO3 b0 b1 q6
  generalize ((w2.setCell ⟨w.heap.size, 0, none⟩ (.slice po vs.length cap)).setCell ⟨pb, 6, none⟩ (.bool false)) = w3 at *
  refine (HPf.out).mono ?_
  rintro en w' ⟨rfl, h3⟩
  subst w'
  go_wp2
  go_ret
  exact ⟨_, rfl, ⟨_, rfl, HR3.out⟩, HP3.out, HO3.out⟩
theorem printL_stab (pb : Nat) (vs : List Value) : Stab pb (PrintL pb vs) := fun w w' _ ⟨r, e, h⟩ ho => ⟨r, e, row_stab pb vs w w' r h ho⟩
theorem printL_stab2 (pb : Nat) (vs : List Value) : Stab2 (PrintL pb vs) := fun w w' _ D ⟨r, e, h⟩ ho hD => ⟨r, e, row_stab2 pb vs w w' r D h ho hD⟩
theorem printL_stab3 (pb : Nat) (vs : List Value) : Stab3 (PrintL pb vs) := fun w w' _ D ⟨r, e, h⟩ ho hD => ⟨r, e, row_stab3 pb vs w w' r D h ho hD⟩
theorem printL_if (pb : Nat) (vs : List Value) : IsIf (PrintL pb vs) := fun _ _ ⟨_, e, _⟩ => ⟨_, _, e⟩
end Go.Proofs.YtdbdbaepmdmnfaaGreatDoor

namespace Go.Proofs.YtdbdbaepmdmnfaaGreatDoor
open Go.RowKit
def NRx : ByteArray := ⟨#[78, 82]⟩
/-- The tree of the program's one block. -/
def nrV : Value := nameV NRx 12
def V2 (pb : Nat) : World → Value → Prop := BlockT pb 1 (fun _ => PrintL pb [nrV])
end Go.Proofs.YtdbdbaepmdmnfaaGreatDoor

