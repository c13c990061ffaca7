import Derived.Test.YtdbdbaepmdmnfaaGreatDoorZ25
import Derived.Test.YtdbdbaepmdmnfaaGreatDoorZ27
import Derived.Test.YtdbdbaepmdmnfaaGreatDoorZ22
import Derived.Test.YtdbdbaepmdmnfaaGreatDoorProg
import Derived.Shelf.Strings.Builder1
import Derived.Shelf.Strings.Builder2
import Derived.Shelf.Small.Wraps
import Derived.Shelf.Strings.BuilderF
import Derived.Shelf.Strconv.Itoa0
import Derived.Shelf.Strconv.Itoa1
import Derived.Shelf.LaysM
import Derived.Shelf.Strconv.Itoa2
import Derived.Shelf.Strconv.Itoa3
import Derived.Shelf.Strconv.Itoa4
import Derived.Shelf.Strings.Prefix
import Derived.Shelf.Bits.Mul64
import Derived.Shelf.Strings.Repeat
import Derived.Test.YtdbdbaepmdmnfaaGreatDoorZ30
import Derived.Deep.RegionHeldLaw
import Derived.Test.YtdbdbaepmdmnfaaGreatDoorZ02
import Derived.Lib.ItoaNum
import Derived.Test.YtdbdbaepmdmnfaaGreatDoorZ26
namespace Go.Proofs.YtdbdbaepmdmnfaaGreatDoor
open Go.RowKit
set_option maxRecDepth 20000 in
set_option maxHeartbeats 1000000 in
theorem check_number (n : Nat) (hn : n ≤ 40) (w : World) : Calls Tryz.prog 234 #[.int .i64 n] w fun en w' => en = .returned .nilIface ∧ w' = w := by
  have h1 : ((n : Int) < 0) = False := by simp
  have h2 : ((n : Int) > 40) = False := by simp; omega
  go_enter Tryz.func234, Tryz.ntmps234
  go_wp2
  go_ret
  exact ⟨rfl, rfl⟩
theorem VAt.only {w w' : World} {vb : Nat} {cs : List Value} {D : Nat → Prop} (h : VAt w vb cs) (ho : Only D w w') (hd : ¬ D vb) : VAt w' vb cs := (ho.block vb (heap_lt h) hd).trans h
theorem VAt.set {w : World} {vb : Nat} {cs : List Value} (h : VAt w vb cs) (o : Nat) (a : Value) : VAt (w.setCell ⟨vb, o, none⟩ a) vb (cs.set o a) := by
  have := heap_setCell_same (o := o) h a
  unfold VAt
  simpa using this
theorem VAt.cell {w : World} {vb : Nat} {cs : List Value} (h : VAt w vb cs) {o : Nat} {a : Value} (ha : cs[o]? = some a) : w.cell? ⟨vb, o, none⟩ = some a := cell_of h (by simpa using ha)
theorem setNe {l : List Value} {i j : Nat} {a b : Value} (h : l[j]? = some b) (hij : i ≠ j) : (l.set i a)[j]? = some b := by rw [List.getElem?_set_ne hij]; exact h
end Go.Proofs.YtdbdbaepmdmnfaaGreatDoor

namespace Go.Proofs.YtdbdbaepmdmnfaaGreatDoor
open Go.RowKit
set_option maxRecDepth 20000 in
set_option maxHeartbeats 2000000 in
theorem take_zero (m ab vb : Nat) (txt : ByteArray) (flds lst : Value) (size n code : Nat) (ht : txt.size ≤ 500) (hn : numeralB txt.data.toList = false) (w : World) (h : MAt w m ab vb txt flds lst size n code) :
    Calls Tryz.prog 388 #[.pointer (some ⟨m, 2, none⟩), .int .i64 0] w fun en w' => en = .returned (.agg #[.int .i64 2, .int .i64 0, .string txt]) ∧ Only (fun _ => False) w w' := by
  have c2 : w.cell? ⟨m, 2, none⟩ = some (.string txt) := cell_of h rfl
  have ml := heap_lt h
  have HR := hide (read_text txt (w.alloc (.cells #[.int .i64 0, .int .i64 0, .string ⟨#[]⟩] 203)) (by unfold maxLen; omega) hn)
  clear h
  go_enter Tryz.func388, Tryz.ntmps388
  go_wp2_with fail
  refine (HR.out).mono ?_
  rintro en w2 ⟨rfl, hb⟩
  have ho := Only.ofBelow hb (fun _ => False)
  have hb0 := (ho.block w.heap.size (by simp) (fun e => e)).trans (new0 w _)
  have r0 : w2.cell? ⟨w.heap.size, 0, none⟩ = some (.int .i64 0) := cell_of hb0 rfl
  have r1 : w2.cell? ⟨w.heap.size, 1, none⟩ = some (.int .i64 0) := cell_of hb0 rfl
  have r2 : w2.cell? ⟨w.heap.size, 2, none⟩ = some (.string ⟨#[]⟩) := cell_of hb0 rfl
  have rf := free_of hb0
  have rl := heap_lt hb0
  have HO := hide ho
  clear hb ho hb0 HR
  go_wp2
  refine bodyPost_ret (v := .agg #[.int .i64 2, .int .i64 0, .string txt]) (by simp [results, Tryz.results388, go_sem, r0, r1, r2]) rfl ⟨rfl, ?_⟩
  exact ((((onlyA w _).trans HO.out (fun _ _ e => e)).setCell (p := ⟨w.heap.size, 0, none⟩) (fun h => absurd h (by show ¬ w.heap.size < w.heap.size; omega)) _).setCell (p := ⟨w.heap.size, 1, none⟩) (fun h => absurd h (by show ¬ w.heap.size < w.heap.size; omega)) _).setCell (p := ⟨w.heap.size, 2, none⟩) (fun h => absurd h (by show ¬ w.heap.size < w.heap.size; omega)) _
end Go.Proofs.YtdbdbaepmdmnfaaGreatDoor

namespace Go.Proofs.YtdbdbaepmdmnfaaGreatDoor
open Go.RowKit
set_option maxRecDepth 20000 in
set_option maxHeartbeats 1000000 in
theorem of_count (n : Int) (w : World) : Calls Tryz.prog 396 #[.int .i64 n] w fun en w' => en = .returned (.agg #[.int .i64 1, .int .i64 n, .string ⟨#[]⟩]) ∧ w' = (w.alloc (.cells #[.int .i64 1, .int .i64 n, .string ⟨#[]⟩] 203)).alloc (.cells #[.int .i64 1, .int .i64 n, .string ⟨#[]⟩] 203) := by
  have HN := hide (ofNumber n)
  go_enter Tryz.func396, Tryz.ntmps396
  go_wp2_with (go_at_call 95; refine (HN.out _).mono ?_; rintro en w2 ⟨rfl, hw2⟩; subst hw2)
  exact bodyPost_ret (v := .agg #[.int .i64 1, .int .i64 n, .string ⟨#[]⟩]) (by simp [results, Tryz.results396, go_sem]) rfl ⟨rfl, rfl⟩
end Go.Proofs.YtdbdbaepmdmnfaaGreatDoor

namespace Go.Proofs.YtdbdbaepmdmnfaaGreatDoor
open Go.RowKit
/-- The lengths at the places of abc. -/
def LensOK (w : World) (v : Value) (first : Nat) : Prop := ∀ W, Only (fun _ => False) w W → Calls Tryz.prog 58 #[.agg #[v, .int .i64 first], .string ⟨#[97, 98, 99]⟩] W fun en w' => ∃ lb, en = .returned (.slice (some ⟨lb, 0, none⟩) 4 4) ∧ w'.heap[lb]? = some (.cells #[.int .i64 0, .int .i64 1, .int .i64 0, .int .i64 0] 3 (0, 0)) ∧ Only (fun _ => False) W w'
end Go.Proofs.YtdbdbaepmdmnfaaGreatDoor

namespace Go.Proofs.YtdbdbaepmdmnfaaGreatDoor
open Go.RowKit
theorem LensOK.only {w w' : World} {v : Value} {f : Nat} (h : LensOK w v f) (ho : Only (fun _ => False) w w') : LensOK w' v f := fun W hW => h W (ho.trans hW (fun _ _ e => e))
end Go.Proofs.YtdbdbaepmdmnfaaGreatDoor

namespace Go.Proofs.YtdbdbaepmdmnfaaGreatDoor
open Go.RowKit
/-- A run under way: what was there when the program was ready stands; the machine's three blocks are younger. -/
structure Under (wN wS W : World) (m ab vb sb : Nat) (txt : ByteArray) (size n : Nat) (sv : Value) (cs : List Value) : Prop where
  hm : wN.heap.size ≤ m
  hv : wN.heap.size ≤ vb
  hs : wN.heap.size ≤ sb
  nmv : m ≠ vb
  nms : m ≠ sb
  nvs : vb ≠ sb
  hM : ∃ po pn pc, MAt W m ab vb txt (.slice po pn pc) (.slice (some ⟨sb, 0, none⟩) 1 1) size n 0
  hV : VAt W vb cs
  hS : W.heap[sb]? = some (.cells #[.string ⟨#[]⟩, sv] 142 (0, 0))
  hO : Only (fun _ => False) wN W
  hT : Only (fun k => k = m ∨ k = vb ∨ k = sb) wS W
theorem Under.calm {wN wS W W' m ab vb sb txt size n sv cs} (h : Under wN wS W m ab vb sb txt size n sv cs) (ho : Only (fun _ => False) W W') : Under wN wS W' m ab vb sb txt size n sv cs := by
  obtain ⟨po, pn, pc, hM⟩ := h.hM
  exact ⟨h.hm, h.hv, h.hs, h.nmv, h.nms, h.nvs, ⟨po, pn, pc, hM.only ho (fun e => e)⟩, h.hV.only ho (fun e => e), (ho.block sb (heap_lt h.hS) (fun e => e)).trans h.hS, h.hO.trans ho (fun _ _ e => e), h.hT.trans ho (fun _ _ e => e.elim)⟩
theorem Under.step {wN wS W m ab vb sb txt size n sv cs} (h : Under wN wS W m ab vb sb txt size (n + 1) sv cs) : Under wN wS (W.setCell ⟨m, 7, none⟩ (.int .i64 n)) m ab vb sb txt size n sv cs := by
  obtain ⟨po, pn, pc, hM⟩ := h.hM
  have ho : Only (fun k => k = m) W (W.setCell ⟨m, 7, none⟩ (.int .i64 n)) := (Only.refl (fun k => k = m) W).setCell (p := ⟨m, 7, none⟩) (fun _ => rfl) _
  have hm := h.hm
  exact ⟨h.hm, h.hv, h.hs, h.nmv, h.nms, h.nvs, ⟨po, pn, pc, hM.setFuel n⟩, h.hV.only ho (fun e => h.nmv e.symm), (ho.block sb (heap_lt h.hS) (fun e => h.nms e.symm)).trans h.hS, h.hO.trans ho (fun q hq e => by omega), h.hT.trans ho (fun _ _ e => Or.inl e)⟩
end Go.Proofs.YtdbdbaepmdmnfaaGreatDoor

namespace Go.Proofs.YtdbdbaepmdmnfaaGreatDoor
open Go.RowKit
theorem strCells_append (a b : ByteArray) : Lib.strCells (a ++ b) = Lib.strCells a ++ Lib.strCells b := by
  unfold Lib.strCells
  rw [ByteArray.data_append]
  simp
end Go.Proofs.YtdbdbaepmdmnfaaGreatDoor

namespace Go.Proofs.YtdbdbaepmdmnfaaGreatDoor
open Go.RowKit
/-- A machine: its block, and what lies in it. -/
def MAt8 (w : World) (m ab vb : Nat) (txt : ByteArray) (flds lst : Value) (size fuel code : Nat) : Prop :=
  w.heap[m]? = some (.cells #[.pointer (some ⟨ab, 0, none⟩), .slice (some ⟨vb, 0, none⟩) 8 8, .string txt, flds, .slice none 0 0, lst, .int .i64 size, .int .i64 fuel, .int .i64 code] 200 (0, 0))
def zero8 : List Value := [.int .i64 0, .int .i64 0, .string ⟨#[]⟩, .int .i64 0, .int .i64 0, .string ⟨#[]⟩, .int .i64 0, .int .i64 0, .string ⟨#[]⟩, .int .i64 0, .int .i64 0, .string ⟨#[]⟩, .int .i64 0, .int .i64 0, .string ⟨#[]⟩, .int .i64 0, .int .i64 0, .string ⟨#[]⟩, .int .i64 0, .int .i64 0, .string ⟨#[]⟩, .int .i64 0, .int .i64 0, .string ⟨#[]⟩]
set_option maxRecDepth 100000 in
theorem mk738 (w : World) : (Instr.makeSlice 192 (.int .i64 8) (.int .i64 8)).run Tryz.prog w = .ok (.slice (some ⟨w.heap.size, 0, none⟩) 8 8) (w.alloc (.cells #[.int .i64 0, .int .i64 0, .string ⟨#[]⟩, .int .i64 0, .int .i64 0, .string ⟨#[]⟩, .int .i64 0, .int .i64 0, .string ⟨#[]⟩, .int .i64 0, .int .i64 0, .string ⟨#[]⟩, .int .i64 0, .int .i64 0, .string ⟨#[]⟩, .int .i64 0, .int .i64 0, .string ⟨#[]⟩, .int .i64 0, .int .i64 0, .string ⟨#[]⟩, .int .i64 0, .int .i64 0, .string ⟨#[]⟩] 203)) := by kernel_rfl
def first8 : List Value := [.int .i64 1, .int .i64 0, .string ⟨#[]⟩, .int .i64 1, .int .i64 0, .string ⟨#[]⟩, .int .i64 2, .int .i64 0, .string ⟨#[32]⟩, .int .i64 2, .int .i64 0, .string ⟨#[32]⟩, .int .i64 2, .int .i64 0, .string ⟨#[10]⟩, .int .i64 1, .int .i64 0, .string ⟨#[]⟩, .int .i64 1, .int .i64 (-1), .string ⟨#[]⟩, .int .i64 0, .int .i64 0, .string ⟨#[]⟩]
/-- A machine just made. -/
def FreshM8 (w w' : World) (m : Nat) (fuel : Nat) (cs : List Value) : Prop := ∃ ab vb sb, w.heap.size ≤ m ∧ w.heap.size ≤ vb ∧ w.heap.size ≤ sb ∧ MAt8 w' m ab vb ⟨#[]⟩ (.slice none 0 0) (.slice (some ⟨sb, 0, none⟩) 1 1) 0 fuel 0 ∧ VAt w' vb cs ∧ w'.heap[sb]? = some (.cells #[.string ⟨#[]⟩, .slice none 0 0] 142 (0, 0)) ∧ Only (fun _ => False) w w'
/-- A machine under way: the places are known. -/
structure Mk8 (w wc : World) (m ab vb sb fuel : Nat) (cs : List Value) : Prop where
  k1 : w.heap.size ≤ m
  k2 : w.heap.size ≤ vb
  k3 : w.heap.size ≤ sb
  hM : MAt8 wc m ab vb ⟨#[]⟩ (.slice none 0 0) (.slice (some ⟨sb, 0, none⟩) 1 1) 0 fuel 0
  hV : VAt wc vb cs
  hS : wc.heap[sb]? = some (.cells #[.string ⟨#[]⟩, .slice none 0 0] 142 (0, 0))
  hO : Only (fun _ => False) w wc
theorem Mk8.ne {w wc m ab vb sb fuel cs} (h : Mk8 w wc m ab vb sb fuel cs) : m ≠ vb := fun e => by have h1 := h.hM; have h2 := h.hV; unfold MAt8 at h1; unfold VAt at h2; rw [e, h2] at h1; cases h1
theorem Mk8.ne2 {w wc m ab vb sb fuel cs} (h : Mk8 w wc m ab vb sb fuel cs) : sb ≠ vb := fun e => by have h1 := h.hS; have h2 := h.hV; unfold VAt at h2; rw [e, h2] at h1; cases h1
theorem Mk8.step {w wc m ab vb sb fuel cs} (h : Mk8 w wc m ab vb sb fuel cs) (o p q : Nat) (a b c : Value) (ob : Obj) : Mk8 w ((((wc.setCell ⟨vb, o, none⟩ a).setCell ⟨vb, p, none⟩ b).setCell ⟨vb, q, none⟩ c).alloc ob).drew m ab vb sb fuel (((cs.set o a).set p b).set q c) := by
  have hk := h.k2
  have hb : (((wc.setCell ⟨vb, o, none⟩ a).setCell ⟨vb, p, none⟩ b).setCell ⟨vb, q, none⟩ c).heap[vb]? = some (.cells (((cs.set o a).set p b).set q c).toArray 203 (0, 0)) := by
    have := heap_setCell_same (o := q) (heap_setCell_same (o := p) (heap_setCell_same (o := o) h.hV a) b) c
    simpa using this
  have hm : ∀ k, k ≠ vb → (((wc.setCell ⟨vb, o, none⟩ a).setCell ⟨vb, p, none⟩ b).setCell ⟨vb, q, none⟩ c).heap[k]? = wc.heap[k]? := fun k hk => (Below.heap_setCell _ _ _ _ hk).trans ((Below.heap_setCell _ _ _ _ hk).trans (Below.heap_setCell _ _ _ _ hk))
  have hl : ∀ k, k ≠ vb → ∀ x, wc.heap[k]? = some x → (((((wc.setCell ⟨vb, o, none⟩ a).setCell ⟨vb, p, none⟩ b).setCell ⟨vb, q, none⟩ c).alloc ob).drew).heap[k]? = some x := fun k hk x hx => heapD ((Below.heap_alloc _ _ _ (heap_lt ((hm k hk).trans hx))).trans ((hm k hk).trans hx))
  exact ⟨h.k1, h.k2, h.k3, hl m h.ne _ h.hM, heapD ((Below.heap_alloc _ _ _ (heap_lt hb)).trans hb), hl sb h.ne2 _ h.hS, toDrew ((((h.hO.setCell (p := ⟨vb, o, none⟩) (fun e => absurd e (by show ¬ vb < w.heap.size; omega)) _).setCell (p := ⟨vb, p, none⟩) (fun e => absurd e (by show ¬ vb < w.heap.size; omega)) _).setCell (p := ⟨vb, q, none⟩) (fun e => absurd e (by show ¬ vb < w.heap.size; omega)) _).alloc _)⟩
set_option maxRecDepth 20000 in
set_option maxHeartbeats 8000000 in
theorem newMachine8 (fuel : Nat) (w : World) : Calls Tryz.prog 60 #[.int .i64 8, .int .i64 0, .int .i64 fuel] w fun en w' => ∃ m, en = .returned (.pointer (some ⟨m, 0, none⟩)) ∧ FreshM8 w w' m fuel first8 := by
  have HA := hide newArrays
  have HS := hide newStreams
  have hm7 := mk738
  go_enter Tryz.func60, Tryz.ntmps60
  go_upto_region 1 with fail
  go_cut [7] (fun s7 wc => ∃ m, s7 = .pointer (some ⟨m, 0, none⟩) ∧ FreshM8 w wc m fuel zero8)
  case first =>
    go_region_with (first | (go_at_call 93; refine (HA.out _).mono ?_; rintro en w2 ⟨rfl, hw2⟩; subst hw2) | (go_at_call 94; refine (HS.out _).mono ?_; rintro en w2 ⟨rfl, hw2⟩; subst hw2))
    all_goals
      go_wp2_with fail
      go_meet
      refine ⟨_, rfl, _, _, _, ?_, ?_, ?_, heapD (new_at2 (by simp) _), ?_, ?_, toDrew (((((((onlyA w _).alloc _).alloc _).alloc _).alloc _).alloc _).alloc _)⟩
      · omega
      · omega
      · omega
      · refine heapD ((Below.heap_alloc _ _ _ (by simp <;> omega)).trans ?_)
        first
          | exact new_at2 (by simp) _
          | exact (Below.heap_alloc _ _ _ (by simp <;> omega)).trans ((Below.heap_alloc _ _ _ (by simp <;> omega)).trans (new_at2 (by simp) _))
          | exact (Below.heap_alloc _ _ _ (by simp <;> omega)).trans ((Below.heap_alloc _ _ _ (by simp <;> omega)).trans ((Below.heap_alloc _ _ _ (by simp <;> omega)).trans ((Below.heap_alloc _ _ _ (by simp <;> omega)).trans ((Below.heap_alloc _ _ _ (by simp <;> omega)).trans (new_at2 (by simp) _)))))
      · refine heapD ((Below.heap_alloc _ _ _ (by simp <;> omega)).trans ?_)
        first
          | exact new_at2 (by simp) _
          | exact (Below.heap_alloc _ _ _ (by simp <;> omega)).trans (new_at2 (by simp) _)
  case rest =>
    obtain ⟨m, rfl, ab, vb, sb, k1, k2, k3, hM, hV, hS, hO⟩ := hcut
    have HK := hide (Mk8.mk k1 k2 k3 hM hV hS hO)
    have HN := hide ofNumber
    have HT := hide ofText
    clear k1 k2 k3 hM hV hS hO HA HS hm7
    have hml := heap_lt HK.out.hM
    have hvl := heap_lt HK.out.hV
    have hne := HK.out.ne
    have c1 : wc.cell? ⟨m, 1, none⟩ = some (.slice (some ⟨vb, 0, none⟩) 8 8) := cell_of HK.out.hM rfl
    have v0 : wc.cell? ⟨vb, 0, none⟩ = some (.int .i64 0) := cell_of HK.out.hV rfl
    have v1 : wc.cell? ⟨vb, 1, none⟩ = some (.int .i64 0) := cell_of HK.out.hV rfl
    have v2 : wc.cell? ⟨vb, 2, none⟩ = some (.string ⟨#[]⟩) := cell_of HK.out.hV rfl
    have vf := free_of HK.out.hV
    go_upto_region 2 with fail
    go_cut [] (fun wx => Mk8 w wx m ab vb sb fuel [.int .i64 1, .int .i64 0, .string ⟨#[]⟩, .int .i64 0, .int .i64 0, .string ⟨#[]⟩, .int .i64 0, .int .i64 0, .string ⟨#[]⟩, .int .i64 0, .int .i64 0, .string ⟨#[]⟩, .int .i64 0, .int .i64 0, .string ⟨#[]⟩, .int .i64 0, .int .i64 0, .string ⟨#[]⟩, .int .i64 0, .int .i64 0, .string ⟨#[]⟩, .int .i64 0, .int .i64 0, .string ⟨#[]⟩])
    case first =>
      go_region_with (go_at_call 95; refine (HN.out _ _).mono ?_; rintro en w2 ⟨rfl, hw2⟩; subst hw2)
      all_goals
        go_wp2_with fail
        go_meet
        exact HK.out.step 0 1 2 _ _ _ _
    case rest =>
      clear hml hvl hne c1 v0 v1 v2 vf HK
      have HK := hide hcut
      clear hcut
      have hml := heap_lt HK.out.hM
      have hvl := heap_lt HK.out.hV
      have hne := HK.out.ne
      have c1 : wc.cell? ⟨m, 1, none⟩ = some (.slice (some ⟨vb, 0, none⟩) 8 8) := cell_of HK.out.hM rfl
      have v0 : wc.cell? ⟨vb, 3, none⟩ = some (.int .i64 0) := cell_of HK.out.hV rfl
      have v1 : wc.cell? ⟨vb, 4, none⟩ = some (.int .i64 0) := cell_of HK.out.hV rfl
      have v2 : wc.cell? ⟨vb, 5, none⟩ = some (.string ⟨#[]⟩) := cell_of HK.out.hV rfl
      have vf := free_of HK.out.hV
      go_upto_region 3 with fail
      go_cut [] (fun wx => Mk8 w wx m ab vb sb fuel [.int .i64 1, .int .i64 0, .string ⟨#[]⟩, .int .i64 1, .int .i64 0, .string ⟨#[]⟩, .int .i64 0, .int .i64 0, .string ⟨#[]⟩, .int .i64 0, .int .i64 0, .string ⟨#[]⟩, .int .i64 0, .int .i64 0, .string ⟨#[]⟩, .int .i64 0, .int .i64 0, .string ⟨#[]⟩, .int .i64 0, .int .i64 0, .string ⟨#[]⟩, .int .i64 0, .int .i64 0, .string ⟨#[]⟩])
      case first =>
        go_region_with (go_at_call 95; refine (HN.out _ _).mono ?_; rintro en w2 ⟨rfl, hw2⟩; subst hw2)
        all_goals
          go_wp2_with fail
          go_meet
          exact HK.out.step 3 4 5 _ _ _ _
      case rest =>
        clear hml hvl hne c1 v0 v1 v2 vf HK
        have HK := hide hcut
        clear hcut
        have hml := heap_lt HK.out.hM
        have hvl := heap_lt HK.out.hV
        have hne := HK.out.ne
        have c1 : wc.cell? ⟨m, 1, none⟩ = some (.slice (some ⟨vb, 0, none⟩) 8 8) := cell_of HK.out.hM rfl
        have v0 : wc.cell? ⟨vb, 6, none⟩ = some (.int .i64 0) := cell_of HK.out.hV rfl
        have v1 : wc.cell? ⟨vb, 7, none⟩ = some (.int .i64 0) := cell_of HK.out.hV rfl
        have v2 : wc.cell? ⟨vb, 8, none⟩ = some (.string ⟨#[]⟩) := cell_of HK.out.hV rfl
        have vf := free_of HK.out.hV
        go_upto_region 4 with fail
        go_cut [] (fun wx => Mk8 w wx m ab vb sb fuel [.int .i64 1, .int .i64 0, .string ⟨#[]⟩, .int .i64 1, .int .i64 0, .string ⟨#[]⟩, .int .i64 2, .int .i64 0, .string ⟨#[32]⟩, .int .i64 0, .int .i64 0, .string ⟨#[]⟩, .int .i64 0, .int .i64 0, .string ⟨#[]⟩, .int .i64 0, .int .i64 0, .string ⟨#[]⟩, .int .i64 0, .int .i64 0, .string ⟨#[]⟩, .int .i64 0, .int .i64 0, .string ⟨#[]⟩])
        case first =>
          go_region_with (go_at_call 96; refine (HT.out _ _).mono ?_; rintro en w2 ⟨rfl, hw2⟩; subst hw2)
          all_goals
            go_wp2_with fail
            go_meet
            exact HK.out.step 6 7 8 _ _ _ _
        case rest =>
          clear hml hvl hne c1 v0 v1 v2 vf HK
          have HK := hide hcut
          clear hcut
          have hml := heap_lt HK.out.hM
          have hvl := heap_lt HK.out.hV
          have hne := HK.out.ne
          have c1 : wc.cell? ⟨m, 1, none⟩ = some (.slice (some ⟨vb, 0, none⟩) 8 8) := cell_of HK.out.hM rfl
          have v0 : wc.cell? ⟨vb, 9, none⟩ = some (.int .i64 0) := cell_of HK.out.hV rfl
          have v1 : wc.cell? ⟨vb, 10, none⟩ = some (.int .i64 0) := cell_of HK.out.hV rfl
          have v2 : wc.cell? ⟨vb, 11, none⟩ = some (.string ⟨#[]⟩) := cell_of HK.out.hV rfl
          have vf := free_of HK.out.hV
          go_upto_region 5 with fail
          go_cut [] (fun wx => Mk8 w wx m ab vb sb fuel [.int .i64 1, .int .i64 0, .string ⟨#[]⟩, .int .i64 1, .int .i64 0, .string ⟨#[]⟩, .int .i64 2, .int .i64 0, .string ⟨#[32]⟩, .int .i64 2, .int .i64 0, .string ⟨#[32]⟩, .int .i64 0, .int .i64 0, .string ⟨#[]⟩, .int .i64 0, .int .i64 0, .string ⟨#[]⟩, .int .i64 0, .int .i64 0, .string ⟨#[]⟩, .int .i64 0, .int .i64 0, .string ⟨#[]⟩])
          case first =>
            go_region_with (go_at_call 96; refine (HT.out _ _).mono ?_; rintro en w2 ⟨rfl, hw2⟩; subst hw2)
            all_goals
              go_wp2_with fail
              go_meet
              exact HK.out.step 9 10 11 _ _ _ _
          case rest =>
            clear hml hvl hne c1 v0 v1 v2 vf HK
            have HK := hide hcut
            clear hcut
            have hml := heap_lt HK.out.hM
            have hvl := heap_lt HK.out.hV
            have hne := HK.out.ne
            have c1 : wc.cell? ⟨m, 1, none⟩ = some (.slice (some ⟨vb, 0, none⟩) 8 8) := cell_of HK.out.hM rfl
            have v0 : wc.cell? ⟨vb, 12, none⟩ = some (.int .i64 0) := cell_of HK.out.hV rfl
            have v1 : wc.cell? ⟨vb, 13, none⟩ = some (.int .i64 0) := cell_of HK.out.hV rfl
            have v2 : wc.cell? ⟨vb, 14, none⟩ = some (.string ⟨#[]⟩) := cell_of HK.out.hV rfl
            have vf := free_of HK.out.hV
            go_upto_region 6 with fail
            go_cut [] (fun wx => Mk8 w wx m ab vb sb fuel [.int .i64 1, .int .i64 0, .string ⟨#[]⟩, .int .i64 1, .int .i64 0, .string ⟨#[]⟩, .int .i64 2, .int .i64 0, .string ⟨#[32]⟩, .int .i64 2, .int .i64 0, .string ⟨#[32]⟩, .int .i64 2, .int .i64 0, .string ⟨#[10]⟩, .int .i64 0, .int .i64 0, .string ⟨#[]⟩, .int .i64 0, .int .i64 0, .string ⟨#[]⟩, .int .i64 0, .int .i64 0, .string ⟨#[]⟩])
            case first =>
              go_region_with (go_at_call 96; refine (HT.out _ _).mono ?_; rintro en w2 ⟨rfl, hw2⟩; subst hw2)
              all_goals
                go_wp2_with fail
                go_meet
                exact HK.out.step 12 13 14 _ _ _ _
            case rest =>
              clear hml hvl hne c1 v0 v1 v2 vf HK
              have HK := hide hcut
              clear hcut
              have hml := heap_lt HK.out.hM
              have hvl := heap_lt HK.out.hV
              have hne := HK.out.ne
              have c1 : wc.cell? ⟨m, 1, none⟩ = some (.slice (some ⟨vb, 0, none⟩) 8 8) := cell_of HK.out.hM rfl
              have v0 : wc.cell? ⟨vb, 15, none⟩ = some (.int .i64 0) := cell_of HK.out.hV rfl
              have v1 : wc.cell? ⟨vb, 16, none⟩ = some (.int .i64 0) := cell_of HK.out.hV rfl
              have v2 : wc.cell? ⟨vb, 17, none⟩ = some (.string ⟨#[]⟩) := cell_of HK.out.hV rfl
              have vf := free_of HK.out.hV
              go_upto_region 7 with fail
              go_cut [] (fun wx => Mk8 w wx m ab vb sb fuel [.int .i64 1, .int .i64 0, .string ⟨#[]⟩, .int .i64 1, .int .i64 0, .string ⟨#[]⟩, .int .i64 2, .int .i64 0, .string ⟨#[32]⟩, .int .i64 2, .int .i64 0, .string ⟨#[32]⟩, .int .i64 2, .int .i64 0, .string ⟨#[10]⟩, .int .i64 1, .int .i64 0, .string ⟨#[]⟩, .int .i64 0, .int .i64 0, .string ⟨#[]⟩, .int .i64 0, .int .i64 0, .string ⟨#[]⟩])
              case first =>
                go_region_with (go_at_call 95; refine (HN.out _ _).mono ?_; rintro en w2 ⟨rfl, hw2⟩; subst hw2)
                all_goals
                  go_wp2_with fail
                  go_meet
                  exact HK.out.step 15 16 17 _ _ _ _
              case rest =>
                clear hml hvl hne c1 v0 v1 v2 vf HK
                have HK := hide hcut
                clear hcut
                have hml := heap_lt HK.out.hM
                have hvl := heap_lt HK.out.hV
                have hne := HK.out.ne
                have c1 : wc.cell? ⟨m, 1, none⟩ = some (.slice (some ⟨vb, 0, none⟩) 8 8) := cell_of HK.out.hM rfl
                have v0 : wc.cell? ⟨vb, 18, none⟩ = some (.int .i64 0) := cell_of HK.out.hV rfl
                have v1 : wc.cell? ⟨vb, 19, none⟩ = some (.int .i64 0) := cell_of HK.out.hV rfl
                have v2 : wc.cell? ⟨vb, 20, none⟩ = some (.string ⟨#[]⟩) := cell_of HK.out.hV rfl
                have vf := free_of HK.out.hV
                go_upto_region 8 with fail
                go_cut [] (fun wx => Mk8 w wx m ab vb sb fuel [.int .i64 1, .int .i64 0, .string ⟨#[]⟩, .int .i64 1, .int .i64 0, .string ⟨#[]⟩, .int .i64 2, .int .i64 0, .string ⟨#[32]⟩, .int .i64 2, .int .i64 0, .string ⟨#[32]⟩, .int .i64 2, .int .i64 0, .string ⟨#[10]⟩, .int .i64 1, .int .i64 0, .string ⟨#[]⟩, .int .i64 1, .int .i64 (-1), .string ⟨#[]⟩, .int .i64 0, .int .i64 0, .string ⟨#[]⟩])
                case first =>
                  go_region_with (go_at_call 95; refine (HN.out _ _).mono ?_; rintro en w2 ⟨rfl, hw2⟩; subst hw2)
                  all_goals
                    go_wp2_with fail
                    go_meet
                    exact HK.out.step 18 19 20 _ _ _ _
                case rest =>
                  clear hml hvl hne c1 v0 v1 v2 vf HK
                  have HK := hide hcut
                  clear hcut
                  go_wp2
                  go_ret
                  exact ⟨m, rfl, ab, vb, sb, HK.out.k1, HK.out.k2, HK.out.k3, HK.out.hM, HK.out.hV, HK.out.hS, HK.out.hO⟩
theorem MAt8.lt {w m ab vb txt flds lst size fuel code} (h : MAt8 w m ab vb txt flds lst size fuel code) : m < w.heap.size := heap_lt h
theorem MAt8.only {w w' m ab vb txt flds lst size fuel code D} (h : MAt8 w m ab vb txt flds lst size fuel code) (ho : Only D w w') (hd : ¬ D m) : MAt8 w' m ab vb txt flds lst size fuel code := (ho.block _ (heap_lt h) hd).trans h
theorem MAt8.setFuel {w m ab vb txt flds lst size fuel code} (h : MAt8 w m ab vb txt flds lst size fuel code) (n : Nat) : MAt8 (w.setCell ⟨m, 7, none⟩ (.int .i64 n)) m ab vb txt flds lst size n code := heap_setCell_same h _
set_option maxRecDepth 20000 in
set_option maxHeartbeats 1000000 in
theorem step_ok8 (m ab vb : Nat) (txt : ByteArray) (flds lst : Value) (size n code : Nat) (hn : n ≤ 100000) (w : World) (h : MAt8 w m ab vb txt flds lst size (n + 1) code) :
    Calls Tryz.prog 98 #[.pointer (some ⟨m, 0, none⟩)] w fun en w' => en = .returned (.tuple #[]) ∧ w' = w.setCell ⟨m, 7, none⟩ (.int .i64 n) := by
  have c7 : w.cell? ⟨m, 7, none⟩ = some (.int .i64 ((n : Int) + 1)) := cell_of h rfl
  have cf := free_of h
  have d0 : (((n : Int) + 1) == 0) = false := by simp; omega
  clear h
  go_enter Tryz.func98, Tryz.ntmps98
  go_wp2
  go_end0
  exact ⟨rfl, rfl⟩
set_option maxRecDepth 20000 in
set_option maxHeartbeats 1000000 in
theorem record_text8 (m ab vb : Nat) (txt : ByteArray) (flds lst : Value) (size n code : Nat) (w : World) (h : MAt8 w m ab vb txt flds lst size n code) :
    Calls Tryz.prog 282 #[.pointer (some ⟨m, 0, none⟩)] w fun en w' => en = .returned (.string txt) ∧ w' = w := by
  have c2 : w.cell? ⟨m, 2, none⟩ = some (.string txt) := cell_of h rfl
  clear h
  go_enter Tryz.func282, Tryz.ntmps282
  go_wp2
  go_ret
  exact ⟨rfl, rfl⟩
set_option maxRecDepth 20000 in
set_option maxHeartbeats 1000000 in
theorem mtext8 (m ab vb : Nat) (txt : ByteArray) (flds lst : Value) (size n code : Nat) (j : Nat) (k q : Int) (s : ByteArray) (hk : (k == 1) = false) (hj : j < 8) (w : World) (h : MAt8 w m ab vb txt flds lst size n code) (h0 : w.cell? ⟨vb, j * 3, none⟩ = some (.int .i64 k)) (h1 : w.cell? ⟨vb, j * 3 + 1, none⟩ = some (.int .i64 q)) (h2 : w.cell? ⟨vb, j * 3 + 2, none⟩ = some (.string s)) :
    Calls Tryz.prog 168 #[.pointer (some ⟨m, 0, none⟩), .int .i64 j] w fun en w' => en = .returned (.string s) ∧ Only (fun _ => False) w w' := by
  have c1 : w.cell? ⟨m, 1, none⟩ = some (.slice (some ⟨vb, 0, none⟩) 8 8) := cell_of h rfl
  have HT := hide (text_any k q s w hk)
  have hli : 0 ≤ (j : Int) ∧ (j : Int) < 8 := by omega
  clear h
  go_enter Tryz.func168, Tryz.ntmps168
  go_wp2_with (go_at_call 235; refine (HT.out).mono ?_; rintro en w2 ⟨rfl, hb⟩; have HB := hide hb; clear hb)
  go_ret
  exact ⟨rfl, Only.ofBelow HB.out (fun _ => False)⟩
theorem MAt8.setSize {w m ab vb txt flds lst size fuel code} (h : MAt8 w m ab vb txt flds lst size fuel code) (n : Nat) : MAt8 (w.setCell ⟨m, 6, none⟩ (.int .i64 n)) m ab vb txt flds lst n fuel code := heap_setCell_same h _
set_option maxRecDepth 20000 in
set_option maxHeartbeats 2000000 in
theorem stmt_do8 (m ab vb sc F : Nat) (hcf : ∀ (args : Array Value) (w : World), (callFunc F args).run Tryz.prog w = .ok (.enter F args) w) (caps : List Value) (txt : ByteArray) (flds lst : Value) (size n code : Nat) (hn : n ≤ 100000) (Q : World → Prop) (w : World) (h : MAt8 w m ab vb txt flds lst size (n + 1) code) (hsc : sc ≠ m) (hs : w.cell? ⟨sc, 0, none⟩ = some (.func (.func F) #[] caps.toArray))
    (H : Calls Tryz.prog F (.pointer (some ⟨m, 0, none⟩) :: caps).toArray (w.setCell ⟨m, 7, none⟩ (.int .i64 n)) fun en w' => en = .returned (.int .i64 0) ∧ Q w') :
    Calls Tryz.prog 162 #[.pointer (some ⟨m, 0, none⟩), .pointer (some ⟨sc, 0, none⟩)] w fun en w' => en = .returned (.int .i64 0) ∧ Q w' := by
  have HS := hide (step_ok8 m ab vb txt flds lst size n code hn w h)
  have H1 := hide H
  have hs2 : (w.setCell ⟨m, 7, none⟩ (.int .i64 n)).cell? ⟨sc, 0, none⟩ = some (.func (.func F) #[] caps.toArray) := (World.cell?_of_block (Below.heap_setCell _ _ _ _ hsc)).trans hs
  clear h H
  go_enter Tryz.func162, Tryz.ntmps162
  go_wp2_with (go_at_call 98; refine (HS.out).mono ?_; rintro en w2 ⟨rfl, hw2⟩; subst hw2)
  refine (H1.out).mono ?_
  rintro en w3 ⟨rfl, h3⟩
  have H3 := hide h3
  clear h3 H1
  go_wp2
  go_ret
  exact ⟨rfl, H3.out⟩
end Go.Proofs.YtdbdbaepmdmnfaaGreatDoor

namespace Go.Proofs.YtdbdbaepmdmnfaaGreatDoor
open Go.RowKit
set_option maxRecDepth 20000 in
set_option maxHeartbeats 1000000 in
theorem count_rec8 (m ab vb : Nat) (txt : ByteArray) (po : Option Addr) (pn pc : Nat) (lst : Value) (size n code : Nat) (w : World) (h : MAt8 w m ab vb txt (.slice po pn pc) lst size n code) :
    Calls Tryz.prog 236 #[.pointer (some ⟨m, 2, none⟩)] w fun en w' => en = .returned (.int .i64 pn) ∧ w' = w := by
  have c3 : w.cell? ⟨m, 3, none⟩ = some (.slice po pn pc) := cell_of h rfl
  clear h
  go_enter Tryz.func236, Tryz.ntmps236
  go_wp2
  go_ret
  exact ⟨rfl, rfl⟩
set_option maxRecDepth 20000 in
set_option maxHeartbeats 4000000 in
theorem count_fields8 (m ab vb : Nat) (txt : ByteArray) (po : Option Addr) (pn pc : Nat) (lst : Value) (size n code : Nat) (cs : List Value) (x3 x4 x5 : Value) (w : World) (h : MAt8 w m ab vb txt (.slice po pn pc) lst size n code) (hv : VAt w vb cs) (h3 : cs[3]? = some x3) (h4 : cs[4]? = some x4) (h5 : cs[5]? = some x5) (hne : m ≠ vb) :
    Calls Tryz.prog 169 #[.pointer (some ⟨m, 0, none⟩)] w fun en w' => en = .returned (.tuple #[]) ∧ VAt w' vb (((cs.set 3 (.int .i64 1)).set 4 (.int .i64 pn)).set 5 (.string ⟨#[]⟩)) ∧ Only (fun k => k = vb) w w' := by
  have c1 : w.cell? ⟨m, 1, none⟩ = some (.slice (some ⟨vb, 0, none⟩) 8 8) := cell_of h rfl
  have c1d : w.drew.cell? ⟨m, 1, none⟩ = some (.slice (some ⟨vb, 0, none⟩) 8 8) := c1
  have v3 := hv.cell h3
  have v4 := hv.cell h4
  have v5 := hv.cell h5
  have vf := free_of hv
  have vl := heap_lt hv
  have ml := heap_lt h
  have HC : Hid (∀ W, W = w.drew → Calls Tryz.prog 236 #[.pointer (some ⟨m, 2, none⟩)] W fun en w' => en = .returned (.int .i64 pn) ∧ w' = W) := fun W hW => by subst hW; exact count_rec8 m ab vb txt po pn pc lst size n code _ h
  have HN := hide (ofNumber pn)
  have HV := hide hv
  clear h hv
  go_enter Tryz.func169, Tryz.ntmps169
  go_region_held3 (fun W => W.cell? ⟨m, 1, none⟩ = some (.slice (some ⟨vb, 0, none⟩) 8 8)) (first | (repeat (first | (with_reducible assumption) | (with_reducible refine past ?_ _) | (with_reducible refine pastD ?_ _) | ((with_reducible refine farC ?_ ?_); (rotate_left; focus (first | (simp; done) | (simp; omega) | omega))))))
    (first | (go_at_call 236; refine (HC.out _ rfl).mono ?_; rintro en w' ⟨rfl, h3⟩; subst w') | (go_at_call 95; refine (HN.out _).mono ?_; rintro en w2 ⟨rfl, hw2⟩; subst hw2))
  all_goals
    go_wp2
    go_end0
    refine ⟨rfl, ?_, ?_⟩
    · exact heapD ((Below.heap_alloc _ _ _ (heap_lt (((HV.out.set 3 _).set 4 _).set 5 _))).trans (((HV.out.set 3 _).set 4 _).set 5 _))
    · exact toDrew (((((Only.refl (fun k => k = vb) w).setCell (p := ⟨vb, 3, none⟩) (fun _ => rfl) _).setCell (p := ⟨vb, 4, none⟩) (fun _ => rfl) _).setCell (p := ⟨vb, 5, none⟩) (fun _ => rfl) _).alloc _)
/-- Where a run's machine lies: wN is the world in which its program was ready. -/
structure Pl8 where
  wN : World
  m : Nat
  ab : Nat
  vb : Nat
  sb : Nat
/-- What a run's machine holds. -/
structure St8 where
  txt : ByteArray
  fs : List (List UInt8)
  cs : List Value
  out : ByteArray
  fuel : Nat
/-- A run under way. -/
structure On8 (p : Pl8) (s : St8) (W : World) : Prop where
  hm : p.wN.heap.size ≤ p.m
  hv : p.wN.heap.size ≤ p.vb
  hs : p.wN.heap.size ≤ p.sb
  nmv : p.m ≠ p.vb
  nms : p.m ≠ p.sb
  nvs : p.vb ≠ p.sb
  M : ∃ fv, MAt8 W p.m p.ab p.vb s.txt fv (.slice (some ⟨p.sb, 0, none⟩) 1 1) s.out.size s.fuel 0 ∧ W.ownsRow p.wN.heap.size 9 1 fv s.fs.length (strsV s.fs)
  V : VAt W p.vb s.cs
  S : ∃ tv, W.heap[p.sb]? = some (.cells #[.string ⟨#[]⟩, tv] 142 (0, 0)) ∧ W.ownsRow p.wN.heap.size 5 1 tv s.out.size (Lib.strCells s.out)
  O : Only (fun _ => False) p.wN W
theorem On8.calm {p : Pl8} {s : St8} {W W' : World} (h : On8 p s W) (ho : Only (fun _ => False) W W') : On8 p s W' := by
  obtain ⟨fv, hM, hF⟩ := h.M
  obtain ⟨tv, hS, hT⟩ := h.S
  exact ⟨h.hm, h.hv, h.hs, h.nmv, h.nms, h.nvs, ⟨fv, hM.only ho (fun e => e), ownsRow_of hF (fun k hk => ho.block k (hF.lt k hk).2 (fun e => e))⟩, h.V.only ho (fun e => e), ⟨tv, (ho.block p.sb (heap_lt hS) (fun e => e)).trans hS, ownsRow_of hT (fun k hk => ho.block k (hT.lt k hk).2 (fun e => e))⟩, h.O.trans ho (fun _ _ e => e)⟩
/-- The variables turn. -/
theorem On8.turnV {p : Pl8} {s : St8} {W W' : World} {cs : List Value} (h : On8 p s W) (ho : Only (fun q => q = p.vb) W W') (hV : VAt W' p.vb cs) : On8 p { s with cs := cs } W' := by
  obtain ⟨fv, hM, hF⟩ := h.M
  obtain ⟨tv, hS, hT⟩ := h.S
  have h1 := own_tag hF h.V (by decide)
  have h2 := own_tag hT h.V (by decide)
  have hv := h.hv
  exact ⟨h.hm, h.hv, h.hs, h.nmv, h.nms, h.nvs, ⟨fv, hM.only ho h.nmv, ownsRow_of hF (fun k hk => ho.block k (hF.lt k hk).2 (fun e => h1 (by rw [hk, e])))⟩, hV, ⟨tv, (ho.block p.sb (heap_lt hS) (fun e => h.nvs e.symm)).trans hS, ownsRow_of hT (fun k hk => ho.block k (hT.lt k hk).2 (fun e => h2 (by rw [hk, e])))⟩, h.O.trans ho (fun q hq e => by omega)⟩
/-- The machine's block turns. -/
theorem On8.turnM {p : Pl8} {s : St8} {W W' : World} {t : ByteArray} {fs : List (List UInt8)} {n : Nat} {fv : Value} (h : On8 p s W) (ho : Only (fun q => q = p.m) W W') (hM : MAt8 W' p.m p.ab p.vb t fv (.slice (some ⟨p.sb, 0, none⟩) 1 1) s.out.size n 0) (hF : W'.ownsRow p.wN.heap.size 9 1 fv fs.length (strsV fs)) : On8 p { s with txt := t, fs := fs, fuel := n } W' := by
  obtain ⟨_, hM0, _⟩ := h.M
  obtain ⟨tv, hS, hT⟩ := h.S
  have h2 := own_tag hT hM0 (by decide)
  have hm := h.hm
  exact ⟨h.hm, h.hv, h.hs, h.nmv, h.nms, h.nvs, ⟨fv, hM, hF⟩, h.V.only ho (fun e => h.nmv e.symm), ⟨tv, (ho.block p.sb (heap_lt hS) (fun e => h.nms e.symm)).trans hS, ownsRow_of hT (fun k hk => ho.block k (hT.lt k hk).2 (fun e => h2 (by rw [hk, e])))⟩, h.O.trans ho (fun q hq e => by omega)⟩
theorem On8.step {p : Pl8} {s : St8} {W : World} {n : Nat} (h : On8 p { s with fuel := n + 1 } W) : On8 p { s with fuel := n } (W.setCell ⟨p.m, 7, none⟩ (.int .i64 n)) := by
  obtain ⟨fv, hM, hF⟩ := h.M
  have h1 := own_tag hF hM (by decide)
  exact h.turnM (s := { s with fuel := n + 1 }) ((Only.refl (fun q => q = p.m) W).setCell (p := ⟨p.m, 7, none⟩) (fun _ => rfl) _) (hM.setFuel n) (ownsRow_of hF (fun k hk => Below.heap_setCell _ _ _ _ (fun e => h1 (by rw [hk, e]))))
end Go.Proofs.YtdbdbaepmdmnfaaGreatDoor

namespace Go.Proofs
open Go.Shelf
def Tryz.laysM173_ren : Go.Shelf.Ren := ⟨fun | 173 => 153 | 246 => 203 | 283 => 263 | 284 => 264 | 285 => 265 | 286 => 266 | 129 => 199 | 317 => 364 | 318 => 365 | 319 => 366 | 320 => 367 | 337 => 429 | 338 => 430 | n => n, fun | 2 => 2 | 3 => 3 | 9 => 9 | 4 => 4 | 171 => 415 | 0 => 0 | 53 => 113 | 37 => 54 | 5 => 5 | 173 => 417 | 212 => 488 | 51 => 327 | 20 => 20 | 213 => 489 | 46 => 241 | 232 => 528 | 233 => 529 | n => n, fun | 17 => 9 | 18 => 10 | 19 => 11 | n => n⟩
theorem Tryz.laysM173 : Go.Proofs.LaysM.n173 Tryz.prog Tryz.laysM173_ren := {
  mixed := by kernel_rfl
  f129 := Tryz.func199.trans (congrArg some (by kernel_rfl))
  f173 := Tryz.func153.trans (congrArg some (by kernel_rfl))
  f246 := Tryz.func203.trans (congrArg some (by kernel_rfl))
  f283 := Tryz.func263.trans (congrArg some (by kernel_rfl))
  f284 := Tryz.func264.trans (congrArg some (by kernel_rfl))
  f285 := Tryz.func265.trans (congrArg some (by kernel_rfl))
  f286 := Tryz.func266.trans (congrArg some (by kernel_rfl))
  f317 := Tryz.func364.trans (congrArg some (by kernel_rfl))
  f318 := Tryz.func365.trans (congrArg some (by kernel_rfl))
  f319 := Tryz.func366.trans (congrArg some (by kernel_rfl))
  f320 := Tryz.func367.trans (congrArg some (by kernel_rfl))
  f337 := Tryz.func429.trans (congrArg some (by kernel_rfl))
  f338 := Tryz.func430.trans (congrArg some (by kernel_rfl))
  t0 := Tryz.underlying0
  a0 := Tryz.isAgg0
  z0 := Tryz.sizeOf0
  v0 := Tryz.zeroValue0
  t2 := Tryz.underlying2
  a2 := Tryz.isAgg2
  z2 := Tryz.sizeOf2
  v2 := Tryz.zeroValue2
  t3 := Tryz.underlying3
  a3 := Tryz.isAgg3
  z3 := Tryz.sizeOf3
  v3 := Tryz.zeroValue3
  t4 := Tryz.underlying4
  a4 := Tryz.isAgg4
  z4 := Tryz.sizeOf4
  v4 := Tryz.zeroValue4
  t5 := Tryz.underlying5
  a5 := Tryz.isAgg5
  z5 := Tryz.sizeOf5
  v5 := Tryz.zeroValue5
  t9 := Tryz.underlying9
  a9 := Tryz.isAgg9
  z9 := Tryz.sizeOf9
  v9 := Tryz.zeroValue9
  t20 := Tryz.underlying20
  a20 := Tryz.isAgg20
  z20 := Tryz.sizeOf20
  v20 := Tryz.zeroValue20
  t37 := Tryz.underlying54
  a37 := Tryz.isAgg54
  z37 := Tryz.sizeOf54
  v37 := Tryz.zeroValue54
  t46 := Tryz.underlying241
  a46 := Tryz.isAgg241
  z46 := Tryz.sizeOf241
  v46 := Tryz.zeroValue241
  t51 := Tryz.underlying327
  a51 := Tryz.isAgg327
  z51 := Tryz.sizeOf327
  v51 := Tryz.zeroValue327
  t53 := Tryz.underlying113
  a53 := Tryz.isAgg113
  z53 := Tryz.sizeOf113
  v53 := Tryz.zeroValue113
  t171 := Tryz.underlying415
  a171 := Tryz.isAgg415
  z171 := Tryz.sizeOf415
  v171 := Tryz.zeroValue415
  t173 := Tryz.underlying417
  a173 := Tryz.isAgg417
  z173 := Tryz.sizeOf417
  v173 := Tryz.zeroValue417
  t212 := Tryz.underlying488
  a212 := Tryz.isAgg488
  z212 := Tryz.sizeOf488
  v212 := Tryz.zeroValue488
  t213 := Tryz.underlying489
  a213 := Tryz.isAgg489
  z213 := Tryz.sizeOf489
  t232 := Tryz.underlying528
  a232 := Tryz.isAgg528
  z232 := Tryz.sizeOf528
  v232 := Tryz.zeroValue528
  t233 := Tryz.underlying529
  a233 := Tryz.isAgg529
  z233 := Tryz.sizeOf529
  v233 := Tryz.zeroValue529
  g17 := by kernel_rfl
  g18 := by kernel_rfl
  g19 := by kernel_rfl
  i0 := by kernel_rfl
  i2 := by kernel_rfl
  i3 := by kernel_rfl
  i4 := by kernel_rfl
  i5 := by kernel_rfl
  i9 := by kernel_rfl
  i20 := by kernel_rfl
  i37 := by kernel_rfl
  i46 := by kernel_rfl
  i51 := by kernel_rfl
  i53 := by kernel_rfl
  i171 := by kernel_rfl
  i173 := by kernel_rfl
  i212 := by kernel_rfl
  i232 := by kernel_rfl
  i233 := by kernel_rfl
  m17 := by kernel_rfl
  m18 := by kernel_rfl
  m19 := by kernel_rfl }
open Go.RowKit Go.Sort Go.Lib in
theorem Tryz.strconv_FormatInt_10 (n : Int) (h0 : -9223372036854775808 ≤ n) (h1 : n ≤ 9223372036854775807) (w : World) (htab : Lib.TabIs Tryz.prog w "internal/strconv.uint64pow10" .u64 Lib.pow10Tab) :
    Calls Tryz.prog 153 #[.int .i64 n, .int .i64 10] w fun e w' => e = .returned (.string ⟨(Lib.itoa n).toArray⟩) ∧ ∃ k os, w' = grow (w.drewN k) os := Any.strconv_FormatInt_10 Tryz.laysM173 n h0 h1 w htab
def Tryz.lays212_ren : Go.Shelf.Ren := ⟨fun | 212 => 123 | 263 => 159 | 264 => 160 | n => n, fun | 46 => 241 | 51 => 327 | 146 => 328 | 53 => 113 | 148 => 330 | n => n, fun | n => n⟩
theorem Tryz.lays212 : Go.Proofs.Lays.n212 Tryz.prog Tryz.lays212_ren := {
  mixed := by kernel_rfl
  f212 := Tryz.func123.trans (congrArg some (by kernel_rfl))
  f263 := Tryz.func159.trans (congrArg some (by kernel_rfl))
  f264 := Tryz.func160.trans (congrArg some (by kernel_rfl))
  t46 := Tryz.underlying241
  a46 := Tryz.isAgg241
  z46 := Tryz.sizeOf241
  v46 := Tryz.zeroValue241
  t51 := Tryz.underlying327
  a51 := Tryz.isAgg327
  z51 := Tryz.sizeOf327
  v51 := Tryz.zeroValue327
  t53 := Tryz.underlying113
  a53 := Tryz.isAgg113
  z53 := Tryz.sizeOf113
  v53 := Tryz.zeroValue113
  t146 := Tryz.underlying328
  a146 := Tryz.isAgg328
  z146 := Tryz.sizeOf328
  v146 := Tryz.zeroValue328
  t148 := Tryz.underlying330
  a148 := Tryz.isAgg330
  z148 := Tryz.sizeOf330
  v148 := Tryz.zeroValue330 }
open Go.RowKit Go.Lib in
theorem Tryz.bits_Mul (x y : Nat) (hx : x < 18446744073709551616) (hy : y < 18446744073709551616) (w : World) :
    Calls Tryz.prog 123 #[.int .u64 x, .int .u64 y] w fun e w' => e = .returned (.tuple #[.int .u64 ((x * y / 18446744073709551616 : Nat) : Int), .int .u64 ((x * y % 18446744073709551616 : Nat) : Int)]) ∧ w' = w := Any.bits_Mul Tryz.lays212 x y hx hy w
end Go.Proofs

namespace Go.Proofs.YtdbdbaepmdmnfaaGreatDoor
open Go.RowKit
theorem only_grow (w : World) (k : Nat) (os : Array Obj) : Only (fun _ => False) w (Sort.grow (w.drewN k) os) :=
  ⟨rfl, rfl, rfl, by show w.heap.size ≤ (w.heap ++ os).size; rw [Array.size_append]; omega, fun i hi _ => by show (w.heap ++ os)[i]? = _; rw [Array.getElem?_append_left hi]⟩
theorem tab_only {P : Program} {w w' : World} {name : String} {k : IntKind} {zs : List Int} (h : Lib.TabIs P w name k zs) (ho : Only (fun _ => False) w w') : Lib.TabIs P w' name k zs := by
  unfold Lib.TabIs World.var? at *
  cases hg : P.globalNamed name with
  | none => simp [hg] at h
  | some g =>
    simp only [hg, Option.bind_some] at h ⊢
    have hlt : g < w.heap.size := by
      rcases Nat.lt_or_ge g w.heap.size with h' | h'
      · exact h'
      · rw [Array.getElem?_eq_none h'] at h; simp at h
    rw [ho.block g hlt (fun e => e)]
    exact h
set_option maxRecDepth 20000 in
set_option maxHeartbeats 1000000 in
theorem text_num (k : Nat) (hk : k ≤ 100000) (s : ByteArray) (w : World) (htab : Lib.TabIs Tryz.prog w "internal/strconv.uint64pow10" .u64 Lib.pow10Tab) :
    Calls Tryz.prog 235 #[.agg #[.int .i64 1, .int .i64 k, .string s]] w fun e w' => e = .returned (.string ⟨(Lib.itoa k).toArray⟩) ∧ Only (fun _ => False) w w' := by
  have HF := hide (fun W h => Tryz.strconv_FormatInt_10 (k : Int) (by omega) (by omega) W h)
  have HT := hide (tab_only htab (onlyA w (.cells #[.int .i64 1, .int .i64 k, .string s] 203)))
  clear htab
  go_enter Tryz.func235, Tryz.ntmps235
  go_wp2_with (go_at_call 153; refine (HF.out _ HT.out).mono ?_; rintro en w2 ⟨rfl, nk, os, hw2⟩; have hO : Only (fun _ => False) w w2 := hw2 ▸ (onlyA w _).trans (only_grow _ nk os) (fun _ _ e => e); have HO := hide hO; clear hw2 hO)
  go_ret
  exact ⟨rfl, HO.out⟩
theorem cf291 (args : Array Value) (w : World) : (callFunc 307 args).run Tryz.prog w = .ok (.enter 307 args) w := callFunc_in Tryz.func307 (by kernel_rfl) rfl args w
theorem cf292 (args : Array Value) (w : World) : (callFunc 308 args).run Tryz.prog w = .ok (.enter 308 args) w := callFunc_in Tryz.func308 (by kernel_rfl) rfl args w
theorem cf370 (args : Array Value) (w : World) : (callFunc 386 args).run Tryz.prog w = .ok (.enter 386 args) w := callFunc_in Tryz.func386 (by kernel_rfl) rfl args w
set_option maxRecDepth 20000 in
set_option maxHeartbeats 1000000 in
theorem vfind_do (m nb : Nat) (w : World) :
    Calls Tryz.prog 307 #[.pointer (some ⟨m, 0, none⟩), .pointer (some ⟨nb, 0, none⟩)] w fun en w' => en = .returned (.agg #[.func (.func 308) #[] #[.pointer (some ⟨w.heap.size, 0, none⟩), .pointer (some ⟨nb, 0, none⟩)], .func (.func 310) #[] #[.pointer (some ⟨w.heap.size, 0, none⟩), .pointer (some ⟨nb, 0, none⟩)]]) ∧ w'.heap[w.heap.size]? = some (.cells #[.pointer (some ⟨m, 0, none⟩)] 130 (0, 0)) ∧ Only (fun _ => False) w w' := by
  have hmf := hmfT
  have hsf := hsfT
  have hsn := hsnT
  go_enter Tryz.func307, Tryz.ntmps307
  go_wp2
  refine bodyPost_ret (v := .agg #[.func (.func 308) #[] #[.pointer (some ⟨w.heap.size, 0, none⟩), .pointer (some ⟨nb, 0, none⟩)], .func (.func 310) #[] #[.pointer (some ⟨w.heap.size, 0, none⟩), .pointer (some ⟨nb, 0, none⟩)]]) (by simp [results, Tryz.results307, go_sem]) rfl ⟨rfl, ?_, ?_⟩
  · exact (Below.heap_alloc _ _ _ (by simp)).trans (new0 w _)
  · exact (onlyA w _).alloc _
set_option maxRecDepth 100000 in
theorem fld428 (F G : Nat) (a b c d : Value) (w : World) : (Instr.field 436 (.agg #[.func (.func F) #[] #[a, b], .func (.func G) #[] #[c, d]]) 0).run Tryz.prog w = .ok (.func (.func F) #[] #[a, b]) w := by kernel_rfl
end Go.Proofs.YtdbdbaepmdmnfaaGreatDoor

namespace Go.Proofs.YtdbdbaepmdmnfaaGreatDoor
open Go.RowKit
/-- The fields of a line cut at newlines: there are none. -/
def lnF (l : List UInt8) : List (List UInt8) := if l = [] then [] else [l]
theorem splitB_one (c : UInt8) : ∀ (cur l : List UInt8), (∀ x ∈ l, x ≠ c) → splitB c cur l = [cur ++ l]
  | cur, [], _ => by simp [splitB]
  | cur, x :: l, h => by
    rw [splitB, if_neg (h x (List.mem_cons_self ..)), splitB_one c (cur ++ [x]) l (fun y hy => h y (List.mem_cons_of_mem _ hy))]
    simp
theorem nl_fields (l : List UInt8) (h : ∀ c ∈ l, c ≠ 10) : (if l = [] then [] else splitB 10 [] l) = lnF l := by
  unfold lnF
  rw [splitB_one 10 [] l h]
  rfl
theorem lnF_len (l : List UInt8) : (lnF l).length ≤ 1 := by
  unfold lnF
  split <;> simp
theorem nl_one : ((ofB [10]).toList.isEmpty) = false := by rw [ByteArray.toList_eq]; rfl
theorem nl_two : ((ofB [10]).toList == [32]) = false := by rw [ByteArray.toList_eq]; rfl
set_option maxRecDepth 100000 in
set_option maxHeartbeats 4000000 in
theorem cut_nlP (t p : ByteArray) (h1 : p.toList.isEmpty = false) (h2 : (p.toList == [32]) = false) (h3 : ((p.size : Int) == 1) = true) (_hp0 : (0 : Int) < (p.size : Int)) (hps : 0 < p.size) (hp : p[0] = 10) (ht : t.size ≤ 500) (hno : ∀ c ∈ t.data.toList, c ≠ 10) (w : World) :
    Calls Tryz.prog 27 #[.string t, .string p] w fun en w' => ∃ v, en = .returned (.tuple #[v, .bool true]) ∧ w'.ownsRow w.heap.size 9 1 v (lnF t.data.toList).length (strsV (lnF t.data.toList)) ∧ Only (fun _ => False) w w' := by
  have HB : Hid (Calls Tryz.prog 38 #[.string t, .int .u8 p[0].toNat] w fun en w' => ∃ v, en = .returned v ∧ w'.ownsRow w.heap.size 9 1 v (lnF t.data.toList).length (strsV (lnF t.data.toList)) ∧ Only (fun _ => False) w w') := by
    rw [hp]
    have := bytes_any t ht 10 w
    rw [nl_fields _ hno] at this
    exact this
  clear hp hno
  go_enter Tryz.func27, Tryz.ntmps27
  go_wp2_with (go_at_call 38; refine (HB.out).mono ?_; rintro en w1 ⟨v, rfl, hr, ho⟩; have HR := hide hr; have HO := hide ho; clear hr ho)
  go_ret2
  exact ⟨_, rfl, HR.out, HO.out⟩
/-- Cutting a line at newlines. -/
theorem cut_nl (t : ByteArray) (ht : t.size ≤ 500) (hno : ∀ c ∈ t.data.toList, c ≠ 10) (w : World) : Calls Tryz.prog 27 #[.string t, .string (ofB [10])] w fun en w' => ∃ v, en = .returned (.tuple #[v, .bool true]) ∧ w'.ownsRow w.heap.size 9 1 v (lnF t.data.toList).length (strsV (lnF t.data.toList)) ∧ Only (fun _ => False) w w' :=
  cut_nlP t (ofB [10]) nl_one nl_two rfl (by decide) (by decide) rfl ht hno w
/-- A machine whose record is a text, its fields told. -/
def MRecN (C : Nat) (w : World) (m ab vb : Nat) (txt : ByteArray) (lst : Value) (size fuel code : Nat) : Prop := ∃ po cap, MAt8 w m ab vb txt (.slice po (lnF txt.data.toList).length cap) lst size fuel code ∧ w.ownsRow C 9 1 (.slice po (lnF txt.data.toList).length cap) (lnF txt.data.toList).length (strsV (lnF txt.data.toList))
set_option maxRecDepth 20000 in
set_option maxHeartbeats 4000000 in
theorem become_recN (m ab vb : Nat) (txt t : ByteArray) (po : Option Addr) (pn pc : Nat) (lst : Value) (size n code : Nat) (ht : t.size ≤ 500) (hno : ∀ c ∈ t.data.toList, c ≠ 10) (hw : (lnF t.data.toList).length ≤ 40) (C : Nat) (w : World) (hC : C ≤ w.heap.size) (h : MAt8 w m ab vb txt (.slice po pn pc) lst size n code) :
    Calls Tryz.prog 167 #[.pointer (some ⟨m, 2, none⟩), .string t, .string (ofB [10])] w fun en w' => en = .returned .nilIface ∧ MRecN C w' m ab vb t lst size n code ∧ Only (fun k => k = m) w w' := by
  have HC := hide (cut_nl t ht hno w)
  have HM := hide h
  have HW := hide hw
  have HN := hide (check_number (lnF t.data.toList).length hw)
  clear h hw hno
  go_enter Tryz.func167, Tryz.ntmps167
  go_wp2_with fail
  refine (HC.out).mono ?_
  rintro en w2 ⟨v, rfl, hown, ho⟩
  obtain ⟨po2, cap2, rfl⟩ := ownsRow_slice hown
  have hm2 := HM.out.only ho (fun e => e)
  have c2 : w2.cell? ⟨m, 2, none⟩ = some (.string txt) := cell_of hm2 rfl
  have c3 : w2.cell? ⟨m, 3, none⟩ = some (.slice po pn pc) := cell_of hm2 rfl
  have cf := free_of hm2
  have cl := heap_lt hm2
  have HM2 := hide hm2
  have HO := hide ho
  have HOw := hide (own_base hown hC)
  clear hown ho hm2 HC
  go_wp2_with (go_at_call 234; refine (HN.out _).mono ?_; rintro en w' ⟨rfl, h3⟩; subst w')
  go_ret
  have hnt := own_tag HOw.out HM2.out (by decide)
  refine ⟨rfl, ⟨po2, cap2, ?_, ownsRow_of HOw.out (fun k hk => (Below.heap_setCell _ _ _ _ (fun e => hnt (by rw [hk, e]))).trans (Below.heap_setCell _ _ _ _ (fun e => hnt (by rw [hk, e]))))⟩, (HO.out.mono (E := fun k => k = m) (fun _ _ e => e.elim)).trans ((((Only.refl (fun k => k = m) w2).setCell (p := ⟨m, 2, none⟩) (fun _ => rfl) _).setCell (p := ⟨m, 3, none⟩) (fun _ => rfl) _)) (fun _ _ e => e)⟩
  exact heap_setCell_same (heap_setCell_same HM2.out _) _
set_option maxRecDepth 20000 in
set_option maxHeartbeats 4000000 in
theorem become_doN (m ab vb : Nat) (txt t : ByteArray) (po : Option Addr) (pn pc : Nat) (lst : Value) (size n code : Nat) (cs : List Value) (x3 x4 x5 : Value) (ht : t.size ≤ 500) (hno : ∀ c ∈ t.data.toList, c ≠ 10) (hw : (lnF t.data.toList).length ≤ 40) (C : Nat) (w : World) (hC : C ≤ w.heap.size) (h : MAt8 w m ab vb txt (.slice po pn pc) lst size n code) (hv : VAt w vb cs) (h3 : cs[3]? = some x3) (h4 : cs[4]? = some x4) (h5 : cs[5]? = some x5) (f0 : cs[6]? = some (.int .i64 2)) (f1 : cs[7]? = some (.int .i64 0)) (f2 : cs[8]? = some (.string (ofB [10]))) (hne : m ≠ vb) :
    Calls Tryz.prog 132 #[.pointer (some ⟨m, 0, none⟩), .string t] w fun en w' => en = .returned (.tuple #[]) ∧ MRecN C w' m ab vb t lst size n code ∧ VAt w' vb (((cs.set 3 (.int .i64 1)).set 4 (.int .i64 (lnF t.data.toList).length)).set 5 (.string ⟨#[]⟩)) ∧ Only (fun k => k = m ∨ k = vb) w w' := by
  have HT := hide (mtext8 m ab vb txt (.slice po pn pc) lst size n code 2 2 0 (ofB [10]) (by decide) (by omega) w.drew h (hv.cell f0) (hv.cell f1) (hv.cell f2))
  have HB := hide (fun W hCW hW => become_recN m ab vb txt t po pn pc lst size n code ht hno hw C W hCW hW)
  have HC := hide (check_nil (some ⟨m, 0, none⟩))
  have HF := hide (fun po2 cap2 W hM hV => count_fields8 m ab vb t po2 (lnF t.data.toList).length cap2 lst size n code cs x3 x4 x5 W hM hV h3 h4 h5 hne)
  have HM := hide h
  have HV := hide hv
  have HNe := hide hne
  have HCw := hide hC
  clear h hv h3 h4 h5 f0 f1 f2 hw ht hno hne hC
  go_enter Tryz.func132, Tryz.ntmps132
  go_upto_region 0 with fail
  go_region_with (first | (go_at_call 168; refine (HT.out).mono ?_; rintro en w2 ⟨rfl, ho2⟩; have HO2 := hide ho2; clear ho2) | (go_at_call 167; refine (HB.out _ (Nat.le_trans HCw.out HO2.out.size) (HM.out.only (fromDrew HO2.out) (fun e => e))).mono ?_; rintro en w3 ⟨rfl, hm3, ho3⟩; have HM3 := hide hm3; have HO3 := hide ho3; clear hm3 ho3) | (go_at_call 166; refine (HC.out _).mono ?_; rintro en w' ⟨rfl, h3⟩; subst w'))
  all_goals
    obtain ⟨po3, cap3, hM3, hW3⟩ := HM3.out
    have hO3 : Only (fun k => k = m) w w3 := (fromDrew (HO2.out.mono (E := fun k => k = m) (fun _ _ e => e.elim))).trans HO3.out (fun _ _ e => e)
    have HF3 := hide (HF.out po3 cap3 w3 hM3 (HV.out.only hO3 (fun e => HNe.out e.symm)))
    have HO4 := hide hO3
    have HM4 := hide hM3
    have HV3 := hide (HV.out.only hO3 (fun e => HNe.out e.symm))
    have HW3 := hide hW3
    clear hO3 hM3 hW3
    go_wp2_with fail
    refine (HF3.out).mono ?_
    rintro en w4 ⟨rfl, hv4, ho4⟩
    have HV4 := hide hv4
    have HO5 := hide ho4
    clear hv4 ho4
    go_wp2
    go_end0
    have hnt := own_tag HW3.out HV3.out (by decide)
    exact ⟨rfl, ⟨po3, cap3, HM4.out.only HO5.out (fun e => HNe.out e), ownsRow_of HW3.out (fun k hk => HO5.out.block k (HW3.out.lt k hk).2 (fun e => hnt (by rw [hk, e])))⟩, HV4.out, (HO4.out.mono (E := fun k => k = m ∨ k = vb) (fun _ _ e => Or.inl e)).trans (HO5.out) (fun _ _ e => Or.inr e)⟩
set_option maxRecDepth 20000 in
set_option maxHeartbeats 4000000 in
theorem read_doN (m ab vb : Nat) (txt t : ByteArray) (po : Option Addr) (pn pc : Nat) (lst : Value) (size n code : Nat) (cs : List Value) (x3 x4 x5 : Value) (ht : t.size ≤ 500) (hno : ∀ c ∈ t.data.toList, c ≠ 10) (hw : (lnF t.data.toList).length ≤ 40) (C : Nat) (w : World) (hC : C ≤ w.heap.size) (h : MAt8 w m ab vb txt (.slice po pn pc) lst size n code) (hv : VAt w vb cs) (h0 : cs[0]? = some (.int .i64 1)) (h1 : cs[1]? = some (.int .i64 0)) (h2 : cs[2]? = some (.string ⟨#[]⟩)) (h3 : cs[3]? = some x3) (h4 : cs[4]? = some x4) (h5 : cs[5]? = some x5) (f0 : cs[6]? = some (.int .i64 2)) (f1 : cs[7]? = some (.int .i64 0)) (f2 : cs[8]? = some (.string (ofB [10]))) (hne : m ≠ vb) :
    Calls Tryz.prog 100 #[.pointer (some ⟨m, 0, none⟩), .string t] w fun en w' => en = .returned (.tuple #[]) ∧ MRecN C w' m ab vb t lst size n code ∧ VAt w' vb (((((((cs.set 0 (.int .i64 1)).set 1 (.int .i64 1)).set 2 (.string ⟨#[]⟩))).set 3 (.int .i64 1)).set 4 (.int .i64 (lnF t.data.toList).length)).set 5 (.string ⟨#[]⟩)) ∧ Only (fun k => k = m ∨ k = vb) w w' := by
  have c1 : w.cell? ⟨m, 1, none⟩ = some (.slice (some ⟨vb, 0, none⟩) 8 8) := cell_of h rfl
  have v0 := hv.cell h0
  have v1 := hv.cell h1
  have v2 := hv.cell h2
  have vf := free_of hv
  have vl := heap_lt hv
  have ml := heap_lt h
  have HN := hide (fun W => number_else 1 0 ⟨#[]⟩ W rfl)
  have HO := hide (ofNumber 1)
  have HB := hide (fun W hCW hM hV => become_doN m ab vb txt t po pn pc lst size n code (((cs.set 0 (.int .i64 1)).set 1 (.int .i64 1)).set 2 (.string ⟨#[]⟩)) x3 x4 x5 ht hno hw C W hCW hM hV (setNe (setNe (setNe h3 (by decide)) (by decide)) (by decide)) (setNe (setNe (setNe h4 (by decide)) (by decide)) (by decide)) (setNe (setNe (setNe h5 (by decide)) (by decide)) (by decide)) (setNe (setNe (setNe f0 (by decide)) (by decide)) (by decide)) (setNe (setNe (setNe f1 (by decide)) (by decide)) (by decide)) (setNe (setNe (setNe f2 (by decide)) (by decide)) (by decide)) hne)
  have HM := hide h
  have HV := hide hv
  have HNe := hide hne
  have HCw := hide hC
  clear h hv h0 h1 h2 h3 h4 h5 f0 f1 f2 hw ht hno hC
  go_enter Tryz.func100, Tryz.ntmps100
  go_upto_region 0 with fail
  go_region_with (first | (go_at_call 131; refine (HN.out _).mono ?_; rintro en w2 ⟨rfl, hb⟩; have ho2 := Only.ofBelow hb (fun _ => False); have c1' := (ho2.cell (p := ⟨m, 1, none⟩) ml (fun e => e)).trans c1; have v0' := (ho2.cell (p := ⟨vb, 0, none⟩) vl (fun e => e)).trans v0; have v1' := (ho2.cell (p := ⟨vb, 1, none⟩) vl (fun e => e)).trans v1; have v2' := (ho2.cell (p := ⟨vb, 2, none⟩) vl (fun e => e)).trans v2; have hv2 := HV.out.only (fromDrew ho2) (fun e => e); have vf' := free_of hv2; have vl' := heap_lt hv2; have ml' : m < w2.heap.size := Nat.lt_of_lt_of_le ml ho2.size; have HO2 := hide (fromDrew ho2); have HV2 := hide hv2; clear hv2 ho2 hb) | (go_at_call 95; refine (HO.out _).mono ?_; rintro en w3 ⟨rfl, hw3⟩; subst hw3))
  all_goals
    go_wp2_with fail
    have hO4 := hide (HO2.out.mono (E := fun k => k = vb) (fun _ _ e => e.elim) |>.setCell (p := ⟨vb, 0, none⟩) (fun _ => rfl) (.int .i64 1) |>.setCell (p := ⟨vb, 1, none⟩) (fun _ => rfl) (.int .i64 1) |>.setCell (p := ⟨vb, 2, none⟩) (fun _ => rfl) (.string ⟨#[]⟩) |>.alloc (.cells #[.int .i64 1, .int .i64 1, .string ⟨#[]⟩] 203))
    have hV4 := hide (((HV2.out.set 0 (.int .i64 1)).set 1 (.int .i64 1)).set 2 (.string ⟨#[]⟩))
    refine (HB.out _ (Nat.le_trans HCw.out hO4.out.size) (HM.out.only hO4.out (fun e => HNe.out e)) ((Below.heap_alloc _ _ _ (heap_lt hV4.out)).trans hV4.out)).mono ?_
    rintro en w4 ⟨rfl, hm4, hv4, ho4⟩
    have HM4 := hide hm4
    have HV4 := hide hv4
    have HO4 := hide ho4
    clear hm4 hv4 ho4
    go_wp2
    go_end0
    exact ⟨rfl, HM4.out, HV4.out, (hO4.out.mono (E := fun k => k = m ∨ k = vb) (fun _ _ e => Or.inr e)).trans HO4.out (fun _ _ e => e)⟩
end Go.Proofs.YtdbdbaepmdmnfaaGreatDoor

namespace Go.Proofs.YtdbdbaepmdmnfaaGreatDoor
open Go.RowKit
/-- A replacement of all matches under way, by an empty text. -/
structure AS where
  at_ : Nat
  last : Int
  made : List UInt8
  count : Nat
/-- One round at a place where the longest match has the length z. -/
def stepA (t : List UInt8) (z : Int) (s : AS) : AS :=
  if 0 < z then ⟨s.at_ + z.toNat, ((s.at_ + z.toNat : Nat) : Int), s.made, s.count + 1⟩
  else if z = 0 ∧ (s.at_ : Int) ≠ s.last then ⟨s.at_ + 1, s.at_, s.made ++ (t.drop s.at_).take 1, s.count + 1⟩
  else ⟨s.at_ + 1, s.last, s.made ++ (t.drop s.at_).take 1, s.count⟩
def runA (t : List UInt8) (L : List Int) : Nat → AS → AS
  | 0, s => s
  | f + 1, s => match L[s.at_]? with
    | none => s
    | some z => runA t L f (stepA t z s)
theorem stepA_at (t : List UInt8) (z : Int) (s : AS) : s.at_ + 1 ≤ (stepA t z s).at_ := by
  unfold stepA
  split
  · show s.at_ + 1 ≤ s.at_ + z.toNat
    omega
  · split <;> exact Nat.le_refl _
theorem runA_more (t : List UInt8) (L : List Int) : ∀ (f : Nat) (s : AS), L.length ≤ s.at_ + f → runA t L (f + 1) s = runA t L f s
  | 0, s, h => by
    unfold runA
    rw [List.getElem?_eq_none (by omega)]
  | f + 1, s, h => by
    show (match L[s.at_]? with | none => s | some z => runA t L (f + 1) (stepA t z s)) = (match L[s.at_]? with | none => s | some z => runA t L f (stepA t z s))
    cases L[s.at_]? with
    | none => rfl
    | some z => exact runA_more t L f _ (by have := stepA_at t z s; omega)
/-- Where it ends. -/
def finA (t : List UInt8) (L : List Int) (s : AS) : AS := runA t L (L.length + 1) s
theorem finA_step (t : List UInt8) (L : List Int) (s : AS) (z : Int) (h : L[s.at_]? = some z) : finA t L (stepA t z s) = finA t L s := by
  have e : finA t L s = runA t L L.length (stepA t z s) := by
    unfold finA
    show (match L[s.at_]? with | none => s | some z => runA t L L.length (stepA t z s)) = _
    rw [h]
  rw [e]
  exact runA_more t L L.length _ (by omega)
theorem finA_end (t : List UInt8) (L : List Int) (s : AS) (h : L.length ≤ s.at_) : finA t L s = s := by
  unfold finA runA
  rw [List.getElem?_eq_none h]
set_option maxRecDepth 20000 in
set_option maxHeartbeats 1000000 in
theorem app_empty (tv : Value) (mt : ByteArray) (po : Option Addr) (n cap : Nat) (htv : tv = .slice po n cap) (w : World) : Calls Tryz.prog 402 #[tv, .string ⟨#[]⟩, .string mt] w fun en w' => en = .returned tv ∧ w' = w := by
  subst htv
  go_enter Tryz.func402, Tryz.ntmps402
  go_wp2
  go_loopg [0, 7] 0 (fun gh s0 s7 wr => gh = 0 ∧ s0 = .slice po n cap ∧ s7 = .int .i64 0 ∧ w = wr)
  case atStart => exact ⟨rfl, rfl, rfl, rfl⟩
  case round =>
    obtain ⟨hgh, rfl, rfl, rfl⟩ := hrel
    go_wp2
    go_ret
    exact ⟨rfl, rfl⟩
end Go.Proofs.YtdbdbaepmdmnfaaGreatDoor

namespace Go.Proofs.YtdbdbaepmdmnfaaGreatDoor
/-- A meaning that does not ask for the ends of the text: of a part of the text it says what it says of the text there. -/
def Loc (R : Pat) : Prop := (∀ t i j, R t i j → i ≤ j) ∧ ∀ (t : List UInt8) (a n i j : Nat), a + n ≤ t.length → j ≤ n → (R ((t.drop a).take n) i j ↔ R t (a + i) (a + j))
theorem loc_byte (S : UInt8 → Bool) : Loc (byteR S) := by
  refine ⟨fun t i j h => by have := h.1; omega, fun t a n i j ha hj => ?_⟩
  constructor
  · rintro ⟨h1, c, h2, h3⟩
    rw [List.getElem?_take, if_pos (by omega), List.getElem?_drop] at h2
    exact ⟨by omega, c, h2, h3⟩
  · rintro ⟨h1, c, h2, h3⟩
    refine ⟨by omega, c, ?_, h3⟩
    rw [List.getElem?_take, if_pos (by omega), List.getElem?_drop]; exact h2
theorem loc_empty : Loc emptyR := ⟨fun t i j h => by have : j = i := h; omega, fun t a n i j _ _ => by unfold emptyR; omega⟩
theorem Loc.comp {R S : Pat} (h : Loc R) (k : Loc S) : Loc (compR R S) := by
  refine ⟨fun t i j ⟨m, h1, h2⟩ => Nat.le_trans (h.1 _ _ _ h1) (k.1 _ _ _ h2), fun t a n i j ha hj => ?_⟩
  constructor
  · rintro ⟨m, h1, h2⟩
    have := k.1 _ _ _ h2
    exact ⟨a + m, (h.2 t a n i m ha (by omega)).1 h1, (k.2 t a n m j ha hj).1 h2⟩
  · rintro ⟨m, h1, h2⟩
    have h3 := h.1 _ _ _ h1
    have h4 := k.1 _ _ _ h2
    obtain ⟨q, rfl⟩ : ∃ q, m = a + q := ⟨m - a, by omega⟩
    exact ⟨q, (h.2 t a n i q ha (by omega)).2 h1, (k.2 t a n q j ha hj).2 h2⟩
theorem Loc.or {R S : Pat} (h : Loc R) (k : Loc S) : Loc (orR R S) :=
  ⟨fun t i j h1 => h1.elim (h.1 t i j) (k.1 t i j), fun t a n i j ha hj => ⟨fun h1 => h1.imp (h.2 t a n i j ha hj).1 (k.2 t a n i j ha hj).1, fun h1 => h1.imp (h.2 t a n i j ha hj).2 (k.2 t a n i j ha hj).2⟩⟩
theorem Loc.opt {R : Pat} (h : Loc R) : Loc (optR R) :=
  ⟨fun t i j h1 => h1.elim (fun e => by omega) (h.1 t i j), fun t a n i j ha hj => ⟨fun h1 => h1.imp (fun e => by omega) (h.2 t a n i j ha hj).1, fun h1 => h1.imp (fun e => by omega) (h.2 t a n i j ha hj).2⟩⟩
theorem Loc.iter {R : Pat} (h : Loc R) (m : Nat) : Loc (fun t => iterR (R t) m) := by
  induction m with
  | zero => exact loc_empty
  | succ m ih => exact h.comp ih
theorem Loc.star {R : Pat} (h : Loc R) : Loc (starR R) :=
  ⟨fun t i j ⟨m, h1⟩ => (h.iter m).1 t i j h1, fun t a n i j ha hj => ⟨fun ⟨m, h1⟩ => ⟨m, ((h.iter m).2 t a n i j ha hj).1 h1⟩, fun ⟨m, h1⟩ => ⟨m, ((h.iter m).2 t a n i j ha hj).2 h1⟩⟩⟩
theorem Loc.plus {R : Pat} (h : Loc R) : Loc (plusR R) := h.comp h.star
theorem loc_row {l : List Pat} (h : ∀ R, R ∈ l → Loc R) : Loc (rowR l) := by
  induction l with
  | nil => exact loc_empty
  | cons A l ih => exact (h A List.mem_cons_self).comp (ih (fun R hR => h R (List.mem_cons_of_mem _ hR)))
theorem loc_alt {l : List Pat} (h : ∀ R, R ∈ l → Loc R) : Loc (altR l) := by
  induction l with
  | nil => exact ⟨fun _ _ _ h => h.elim, fun _ _ _ _ _ _ _ => Iff.rfl⟩
  | cons A l ih => exact (h A List.mem_cons_self).or (ih (fun R hR => h R (List.mem_cons_of_mem _ hR)))
theorem Loc.sign {R : Pat} (h : Loc R) (c : Nat) : Loc (signR c R) := by
  unfold signR
  split
  · exact h.star
  · split
    · exact h.plus
    · exact h.opt
theorem loc_signs {n : Nat} {l : List UInt8} {i : Nat} {R : Pat} (h : Loc R) : Loc (signsP n l i R).1 := by
  induction n generalizing i R with
  | zero => exact h
  | succ n ih =>
    unfold signsP
    split
    · exact h
    · split
      · exact ih (h.sign _)
      · exact h
def NoEnds (l : List UInt8) : Prop := ∀ (k : Nat) c, l[k]? = some c → c.toNat ≠ 94 ∧ c.toNat ≠ 36
def LocSub (sub : Nat → Option (Pat × Nat)) : Prop := ∀ i R j, sub i = some (R, j) → Loc R
theorem loc_unit {sub l i R j} (hn : NoEnds l) (hs : LocSub sub) (h : unitP sub l i = some (R, j)) : Loc R := by
  unfold unitP at h
  split at h
  · cases h
  · rename_i c hc
    have hne := hn i c hc
    split at h
    · cases h
    · split at h
      · rename_i h1; exact absurd h1 hne.1
      · split at h
        · rename_i h1; exact absurd h1 hne.2
        · split at h
          · split at h
            · cases h
            · rename_i R' k hk
              split at h
              · cases h; exact hs _ _ _ hk
              · cases h
          · split at h
            · split at h
              · cases h
              · cases h; exact loc_byte _
            · split at h
              · cases h; exact loc_byte _
              · split at h
                · split at h
                  · cases h
                  · cases h; exact loc_byte _
                · cases h; exact loc_byte _
theorem loc_rep {sub l i R j} (hn : NoEnds l) (hs : LocSub sub) (h : repP sub l i = some (R, j)) : Loc R := by
  unfold repP at h
  split at h
  · cases h
  · rename_i R' k hk
    have h1 := loc_signs (n := l.length + 1) (l := l) (i := k) (loc_unit hn hs hk)
    have h2 := Option.some.inj h
    rw [h2] at h1
    exact h1
theorem loc_rowP {sub l n i acc R j} (hn : NoEnds l) (hs : LocSub sub) (ha : ∀ A, A ∈ acc → Loc A) (h : rowP sub l n i acc = some (R, j)) : Loc R := by
  induction n generalizing i acc with
  | zero => cases h
  | succ n ih =>
    unfold rowP at h
    split at h
    · split at h
      · cases h
      · rename_i R' k hk
        refine ih (fun A hA => ?_) h
        rcases List.mem_append.1 hA with hA | hA
        · exact ha A hA
        · simp at hA; subst hA; exact loc_rep hn hs hk
    · split at h
      · cases h
      · cases h; exact loc_row ha
theorem loc_altP {sub l n i acc R j} (hn : NoEnds l) (hs : LocSub sub) (ha : ∀ A, A ∈ acc → Loc A) (h : altP sub l n i acc = some (R, j)) : Loc R := by
  induction n generalizing i acc with
  | zero => cases h
  | succ n ih =>
    unfold altP at h
    split at h
    · cases h
    · rename_i R' k hk
      have hR' := loc_rowP hn hs (fun A hA => by cases hA) hk
      have hall : ∀ A, A ∈ acc ++ [R'] → Loc A := fun A hA => by
        rcases List.mem_append.1 hA with hA | hA
        · exact ha A hA
        · simp at hA; subst hA; exact hR'
      split at h
      · exact ih hall h
      · cases h; exact loc_alt hall
theorem loc_choice {l : List UInt8} (hn : NoEnds l) (f : Nat) : LocSub (choiceP l f) := by
  induction f with
  | zero => intro i R j h; cases h
  | succ f ih => intro i R j h; exact loc_altP hn ih (fun A hA => by cases hA) h
theorem loc_whole {l : List UInt8} {R : Pat} (hn : NoEnds l) (h : wholeP l = some R) : Loc R := by
  unfold wholeP at h
  split at h
  · cases h; exact loc_empty
  · split at h
    · cases h
    · rename_i R' j hj
      split at h
      · cases h; exact loc_choice hn _ _ _ _ hj
      · cases h
end Go.Proofs.YtdbdbaepmdmnfaaGreatDoor

namespace Go.Proofs.YtdbdbaepmdmnfaaGreatDoor
/-- The lengths of the longest matches, place by place. -/
def LensR (R : Pat) (t : List UInt8) (L : List Int) : Prop := L.length = t.length + 1 ∧ ∀ k, k ≤ t.length → (∃ l : Nat, L[k]? = some (l : Int) ∧ k + l ≤ t.length ∧ R t k (k + l) ∧ ∀ e, e ≤ t.length → R t k e → e ≤ k + l) ∨ (L[k]? = some (-1) ∧ ∀ e, e ≤ t.length → ¬ R t k e)
theorem lens_of {Q : List St} {t : List UInt8} {last : Nat} {L : List Int} {R : Pat} (h : AllLen Q t last L) (hR : ∀ t i e, Acc Q t last e i ↔ R t i e) : LensR R t L := by
  refine ⟨h.1, fun k hk => ?_⟩
  obtain ⟨b, hb, hL⟩ := h.2 k hk
  cases b with
  | none =>
    refine Or.inr ⟨hL, fun e he hr => ?_⟩
    obtain ⟨B, hB, _⟩ := hb.2 e he ((hR t k e).2 hr)
    cases hB
  | some B =>
    obtain ⟨h1, h2, h3⟩ := hb.1 B rfl
    refine Or.inl ⟨B - k, ?_, by omega, ?_, fun e he hr => ?_⟩
    · rw [hL]
      show some ((B : Int) - k) = _
      congr 1
      omega
    · rw [show k + (B - k) = B by omega]
      exact (hR t k B).1 h3
    · obtain ⟨B', hB', hle⟩ := hb.2 e he ((hR t k e).2 hr)
      cases hB'
      omega
/-- The count never falls. -/
theorem runA_count (t : List UInt8) (L : List Int) : ∀ (f : Nat) (s : AS), s.count ≤ (runA t L f s).count
  | 0, s => Nat.le_refl _
  | f + 1, s => by
    unfold runA
    cases L[s.at_]? with
    | none => exact Nat.le_refl _
    | some z =>
      refine Nat.le_trans ?_ (runA_count t L f _)
      unfold stepA
      split
      · exact Nat.le_succ _
      · split
        · exact Nat.le_succ _
        · exact Nat.le_refl _
theorem finA_count (t : List UInt8) (L : List Int) (s : AS) : s.count ≤ (finA t L s).count := runA_count t L _ s
/-- A pattern that matches the empty text is counted. -/
theorem fin_some {R : Pat} {t : List UInt8} {L : List Int} (h : LensR R t L) (h0 : R t 0 0) : 1 ≤ (finA t L ⟨0, -1, [], 0⟩).count := by
  rcases h.2 0 (Nat.zero_le _) with ⟨l, h1, _⟩ | ⟨_, h2⟩
  · rw [← finA_step t L ⟨0, -1, [], 0⟩ l h1]
    refine Nat.le_trans ?_ (finA_count t L _)
    unfold stepA
    split
    · exact Nat.le_refl _
    · rw [if_pos ⟨by omega, by show (0 : Int) ≠ -1; omega⟩]
      exact Nat.le_refl _
  · exact absurd h0 (h2 0 (Nat.zero_le _))
/-- Places at which no match begins are gone over. -/
theorem fin_skip {R : Pat} {t : List UInt8} {L : List Int} (h : LensR R t L) : ∀ (B p : Nat) (la : Int) (M : List UInt8) (c : Nat), p + B ≤ t.length → (∀ k, p ≤ k → k < p + B → ∀ e, e ≤ t.length → ¬ R t k e) → finA t L ⟨p, la, M, c⟩ = finA t L ⟨p + B, la, M ++ (t.drop p).take B, c⟩
  | 0, p, la, M, c, _, _ => by simp
  | B + 1, p, la, M, c, hp, hn => by
    have hL : L[p]? = some (-1) := by
      rcases h.2 p (by omega) with ⟨l, _, h2, h3, _⟩ | ⟨h1, _⟩
      · exact absurd h3 (hn p (Nat.le_refl _) (by omega) _ h2)
      · exact h1
    have hs : stepA t (-1) ⟨p, la, M, c⟩ = ⟨p + 1, la, M ++ (t.drop p).take 1, c⟩ := by
      unfold stepA
      rw [if_neg (by omega), if_neg (by omega)]
    rw [← finA_step t L ⟨p, la, M, c⟩ (-1) hL, hs, fin_skip h B (p + 1) la _ c (by omega) (fun k h1 h2 => hn k (by omega) (by omega))]
    congr 2
    · omega
    · rw [List.append_assoc]
      congr 1
      rw [Nat.add_comm B 1, List.take_add, List.drop_drop]
/-- A match that is longer than nothing is taken away. -/
theorem fin_match {R : Pat} {t : List UInt8} {L : List Int} (h : LensR R t L) (p l : Nat) (hl : 0 < l) (hp : p + l ≤ t.length) (hr : R t p (p + l)) (hm : ∀ e, e ≤ t.length → R t p e → e ≤ p + l) (la : Int) (M : List UInt8) (c : Nat) : finA t L ⟨p, la, M, c⟩ = finA t L ⟨p + l, ((p + l : Nat) : Int), M, c + 1⟩ := by
  rcases h.2 p (by omega) with ⟨l', h1, h2, h3, h4⟩ | ⟨_, h2⟩
  · have e1 := h4 _ hp hr
    have e2 := hm _ h2 h3
    obtain rfl : l' = l := by omega
    rw [← finA_step t L ⟨p, la, M, c⟩ _ h1]
    congr 1
    unfold stepA
    rw [if_pos (by omega)]
    simp
  · exact absurd hr (h2 _ hp)
/-- No match any more. -/
theorem fin_none {R : Pat} {t : List UInt8} {L : List Int} (h : LensR R t L) (p : Nat) (hp : p ≤ t.length) (hn : ∀ k, p ≤ k → k ≤ t.length → ∀ e, e ≤ t.length → ¬ R t k e) (la : Int) (M : List UInt8) (c : Nat) : finA t L ⟨p, la, M, c⟩ = ⟨t.length + 1, la, M ++ t.drop p, c⟩ := by
  rw [fin_skip h (t.length - p) p la M c (by omega) (fun k h1 h2 => hn k h1 (by omega)), show p + (t.length - p) = t.length by omega]
  have hL : L[t.length]? = some (-1) := by
    rcases h.2 t.length (Nat.le_refl _) with ⟨l, _, h2, h3, _⟩ | ⟨h1, _⟩
    · exact absurd h3 (hn _ hp (Nat.le_refl _) _ h2)
    · exact h1
  have hs : stepA t (-1) ⟨t.length, la, M ++ (t.drop p).take (t.length - p), c⟩ = ⟨t.length + 1, la, M ++ t.drop p, c⟩ := by
    unfold stepA
    rw [if_neg (by omega), if_neg (by omega)]
    congr 1
    rw [List.take_of_length_le (by simp), List.drop_eq_nil_of_le (Nat.le_refl _)]
    simp
  rw [← finA_step t L _ (-1) hL, hs, finA_end t L _ (by show L.length ≤ t.length + 1; have := h.1; omega)]
/-- What is found in the rest of a text, by a pattern without ends. -/
theorem finds_rest {R : Pat} (hloc : Loc R) (h0 : ¬ R [] 0 0) {t : List UInt8} {p : Nat} (hp : p ≤ t.length) {best : Option (Nat × Nat)} (hf : Finds R (t.drop p) 0 0 best) :
    (best = none ∧ ∀ k, p ≤ k → k ≤ t.length → ∀ e, e ≤ t.length → ¬ R t k e) ∨ ∃ B l, best = some (B, l) ∧ 0 < l ∧ p + B + l ≤ t.length ∧ (∀ k, p ≤ k → k < p + B → ∀ e, e ≤ t.length → ¬ R t k e) ∧ R t (p + B) (p + B + l) ∧ ∀ e, e ≤ t.length → R t (p + B) e → e ≤ p + B + l := by
  have hlen : (t.drop p).length = t.length - p := by simp
  have hr : ∀ i j, j ≤ t.length - p → (R (t.drop p) i j ↔ R t (p + i) (p + j)) := fun i j hj => by
    have := hloc.2 t p (t.length - p) i j (by omega) hj
    rwa [List.take_of_length_le (by simp)] at this
  have hno : ∀ k, k ≤ t.length → ¬ R t k k := fun k hk h => by
    have := (hloc.2 t k 0 0 0 (by omega) (by omega)).2 (by simpa using h)
    exact h0 (by simpa using this)
  cases best with
  | none =>
    refine Or.inl ⟨rfl, fun k h1 h2 e he h => ?_⟩
    have hke := hloc.1 t k e h
    obtain ⟨B, l, hb, _⟩ := hf.2 (k - p) (e - p) (by omega) (by omega) (by omega) ((hr (k - p) (e - p) (by omega)).2 (by rw [show p + (k - p) = k by omega, show p + (e - p) = e by omega]; exact h))
    cases hb
  | some x =>
    obtain ⟨B, l⟩ := x
    obtain ⟨_, h2, _, h4⟩ := hf.1 B l rfl
    rw [hlen] at h2
    have h5 := (hr B (B + l) (by omega)).1 h4
    have hall : ∀ k e, p ≤ k → k ≤ t.length → e ≤ t.length → R t k e → p + B < k ∨ p + B = k ∧ e ≤ p + B + l := fun k e h1 h2 he h => by
      have hke := hloc.1 t k e h
      obtain ⟨B', l', hb, hx⟩ := hf.2 (k - p) (e - p) (by omega) (by omega) (by omega) ((hr (k - p) (e - p) (by omega)).2 (by rw [show p + (k - p) = k by omega, show p + (e - p) = e by omega]; exact h))
      cases hb
      omega
    refine Or.inr ⟨B, l, rfl, ?_, by omega, fun k h1 h2 e he h => ?_, by rw [Nat.add_assoc]; exact h5, fun e he h => ?_⟩
    · rcases Nat.eq_zero_or_pos l with rfl | hl
      · exact absurd h5 (hno _ (by omega))
      · exact hl
    · have := hall k e h1 (by omega) he h
      omega
    · have := hall (p + B) e (by omega) (by omega) he h
      omega
end Go.Proofs.YtdbdbaepmdmnfaaGreatDoor

namespace Go.Proofs.YtdbdbaepmdmnfaaGreatDoor
open Go.RowKit
theorem one_at (t : ByteArray) (k : Nat) : (t.extract k (k + 1)).data.toList = (t.data.toList.drop k).take 1 := by
  simp [ByteArray.data_extract, Array.toList_extract, List.extract]
theorem drop_all (t : ByteArray) : (t.data.toList.drop t.size).take 1 = [] := by
  rw [List.drop_eq_nil_of_le (by show t.data.toList.length ≤ t.data.size; simp)]; rfl
set_option maxRecDepth 20000 in
set_option maxHeartbeats 8000000 in
/-- All matches are taken away. -/
theorem all_empty {Φ : List Int → Prop} (vS : Value) (last : Nat) (t : ByteArray) (ht : t.size ≤ 60) (w : World) (hvS : ∃ po n cap, vS = .slice po n cap)
    (HL : ∀ W, Only (fun _ => False) w W → Calls Tryz.prog 58 #[.agg #[vS, .int .i64 last], .string t] W fun e w' => Only (fun _ => False) W w' ∧ ∃ lb L, L.length = t.size + 1 ∧ (∀ (k : Nat) z, L[k]? = some z → -1 ≤ z ∧ (k : Int) + z ≤ t.size) ∧ Φ L ∧ w'.heap[lb]? = some (.cells (zints L).toArray 3 (0, 0)) ∧ e = .returned (.slice (some ⟨lb, 0, none⟩) L.length L.length)) :
    Calls Tryz.prog 332 #[.agg #[vS, .int .i64 last], .string t, .string ⟨#[]⟩] w fun en w' => ∃ L, Φ L ∧ en = .returned (.tuple #[.string (ofB (finA t.data.toList L ⟨0, -1, [], 0⟩).made), .int .i64 ((finA t.data.toList L ⟨0, -1, [], 0⟩).count : Nat), .nilIface]) ∧ (finA t.data.toList L ⟨0, -1, [], 0⟩).made.length ≤ 60 ∧ Only (fun _ => False) w w' := by
  obtain ⟨po0, n0, cap0, rfl⟩ := hvS
  obtain ⟨i0, hi0, hz0, hzS, hzB⟩ := info_parts info5t
  have H1 := hide (HL (w.alloc (.cells #[.slice po0 n0 cap0, .int .i64 last] 68)) (onlyA w _))
  clear HL
  go_enter Tryz.func332, Tryz.ntmps332
  go_wp2_with fail
  refine (H1.out).mono ?_
  rintro en w2 ⟨ho2, lb, L, hLl, hLz, hΦ, hlb, rfl⟩
  have hol : Only (fun _ => False) w w2 := (onlyA w _).trans ho2 (fun _ _ e => e)
  have lbl := heap_lt hlb
  have hsz : w.heap.size ≤ w2.heap.size := hol.size
  have HLb := hide hlb
  have HO2 := hide hol
  have HLz := hide hLz
  have HP := hide hΦ
  clear hlb ho2 hol H1 hLz hΦ
  go_wp2
  go_loopg [10, 11, 12, 13] (t.size + 1) (fun gh s10 s11 s12 s13 wr => ∃ s : AS, s.at_ ≤ t.size + 1 ∧ gh = t.size + 1 - s.at_ ∧ s13 = .int .i64 s.at_ ∧ s12 = .int .i64 s.last ∧ s11 = .int .i64 (s.count : Nat) ∧ (s.made.length ≤ s.at_ ∧ s.made.length ≤ t.size ∧ s.count ≤ s.at_ ∧ -1 ≤ s.last ∧ s.last ≤ t.size) ∧ finA t.data.toList L s = finA t.data.toList L ⟨0, -1, [], 0⟩ ∧ wr.ownsRow w2.heap.size 5 1 s10 s.made.length (s.made.map byV) ∧ Only (fun q => w2.heap.size ≤ q) w2 wr)
  case atStart => exact ⟨⟨0, -1, [], 0⟩, by show 0 ≤ _; omega, rfl, rfl, rfl, rfl, ⟨by simp, by simp, by simp, by simp, by show (-1 : Int) ≤ _; omega⟩, rfl, World.ownsRow_nil _ _ _ _, Only.refl _ _⟩
  case round =>
    obtain ⟨⟨A, la, M, c⟩, hat, hgh, rfl, rfl, rfl, ⟨hm1, hm2, hc1, hl1, hl2⟩, hfin, hown, ho⟩ := hrel
    dsimp only at hat hgh hm1 hm2 hc1 hl1 hl2 hfin hown ⊢
    obtain ⟨po, cap1, rfl⟩ := ownsRow_slice hown
    have hz := ho.size
    have hb := (ho.block lb lbl (by omega)).trans HLb.out
    have HOw := hide hown
    have HO := hide ho
    have HG := hide hgh
    have HF := hide hfin
    have ll := heap_lt hb
    have hk0 : (0 : Int) ≤ (A : Int) := by omega
    have hk60 : (A : Int) ≤ 61 := by omega
    have hts : (t.size : Int) ≤ 60 := by omega
    have hc60 : (c : Int) ≤ 61 := by omega
    by_cases hlt : A ≤ t.size
    · obtain ⟨z, hzL⟩ : ∃ z, L[A]? = some z := ⟨_, List.getElem?_eq_getElem (by omega)⟩
      obtain ⟨hzn, hzt⟩ := HLz.out _ z hzL
      have l0 : wr.cell? ⟨lb, A, none⟩ = some (.int .i64 z) := cell_of hb (by simp [zints, hzL])
      have hle : (A : Int) ≤ (t.size : Int) := by omega
      have hli : (A : Int) < (L.length : Int) := by omega
      have HzL := hide hzL
      clear hown ho hgh hfin hb hzL
      by_cases hz1 : 0 < z
      · obtain ⟨m, rfl⟩ : ∃ m : Nat, z = (m : Int) := ⟨z.toNat, by omega⟩
        have hm60 : (A : Int) + (m : Int) ≤ (t.size : Int) := by omega
        have hmn : ¬ ((m : Int) ≤ 0) := by omega
        have hwa : IntKind.i64.wrap ((A : Int) + (m : Int)) = (A : Int) + (m : Int) := by rw [IntKind.wrap_i64]; omega
        have hwc : IntKind.i64.wrap ((c : Int) + 1) = (c : Int) + 1 := by rw [IntKind.wrap_i64]; omega
        have hlm : ¬ ((500 : Int) < (M.length : Int)) := by omega
        have hcp : (0 : Int) < (c : Int) + 1 := by omega
        have hama : (A : Int) ≤ (A : Int) + (m : Int) := by omega
        go_wp2_with (go_at_call 402; refine (app_empty _ _ po _ cap1 rfl _).mono ?_; rintro en w' ⟨rfl, h3⟩; subst w')
        go_roundg (t.size + 1 - (A + m))
        case measure => rw [HG.out]; omega
        case rel =>
          have he : stepA t.data.toList (m : Int) ⟨A, la, M, c⟩ = ⟨A + m, ((A + m : Nat) : Int), M, c + 1⟩ := by unfold stepA; rw [if_pos hz1]; simp
          exact ⟨⟨A + m, ((A + m : Nat) : Int), M, c + 1⟩, by show A + m ≤ _; omega, rfl, by go_num, by go_num, by go_num, ⟨by show M.length ≤ A + m; omega, hm2, by show c + 1 ≤ A + m; omega, by show (-1 : Int) ≤ ((A + m : Nat) : Int); omega, by show ((A + m : Nat) : Int) ≤ _; omega⟩, by rw [← he, finA_step t.data.toList L ⟨A, la, M, c⟩ _ HzL.out]; exact HF.out, HOw.out, HO.out⟩
      · have hzle : z ≤ 0 := by omega
        have hwa : IntKind.i64.wrap ((A : Int) + 1) = (A : Int) + 1 := by rw [IntKind.wrap_i64]; omega
        have hwc : IntKind.i64.wrap ((c : Int) + 1) = (c : Int) + 1 := by rw [IntKind.wrap_i64]; omega
        have hwz : IntKind.i64.wrap ((A : Int) + 0) = (A : Int) := by rw [IntKind.wrap_i64]; omega
        have hcp : (0 : Int) < (c : Int) + 1 := by omega
        have hxz : (t.extract A (A + 1)).size ≤ 1 := by rw [ByteArray.size_extract]; omega
        have hxl : (t.extract A (A + 1)).size = ((t.data.toList.drop A).take 1).length := by rw [← one_at t A]; rfl
        have HXl := hide hxl
        have HEs := hide (show (t.extract A (A + 1)).size = min 1 (t.size - A) by rw [ByteArray.size_extract]; omega)
        have hcz : z = -1 ∨ (z = 0 ∧ (A : Int) = la) ∨ (z = 0 ∧ (A : Int) ≠ la) := by omega
        by_cases hn : A < t.size
        · have h1 : (A : Int) + 1 ≤ (t.size : Int) := by omega
          have h1n : ¬ ((t.size : Int) < (A : Int) + 1) := by omega
          have hmi : min ((A : Int) + 1) (t.size : Int) = (A : Int) + 1 := by omega
          have hlm : ¬ ((500 : Int) < ((M.length + (t.extract A (A + 1)).size : Nat) : Int)) := by omega
          rcases hcz with rfl | ⟨rfl, heq⟩ | ⟨rfl, hne⟩
          · have hq0 : ((-1 : Int) == 0) = false := rfl
            by_cases hc0 : 0 < c
            · have hcI : (0 : Int) < (c : Int) := by omega
              go_wp2_with (first | (at_builtin; refine Lib.wpList_append_own_string _ rfl _ _ 54 9 rfl w2.heap.size 5 i0 Tryz.underlying54 Tryz.underlying9 hi0 hz0 hzS hzB (.slice po M.length cap1) M.length (M.map byV) rfl HOw.out (t.extract A (A + 1)) rfl (by rw [show (t.extract A (A + 1)).size = (t.extract A (A + 1)).size from rfl]; unfold maxLen; omega) (by rw [show (t.extract A (A + 1)).size = (t.extract A (A + 1)).size from rfl]; omega) hz ?_; intro v4 w4 hown4 hgrow4 _; obtain ⟨po4, cap4, rfl⟩ := ownsRow_slice hown4; have R4 := hide hown4; have G4 := hide hgrow4; clear hown4 hgrow4))
              go_roundg (t.size + 1 - (A + 1))
              case measure => rw [HG.out]; omega
              case rel =>
                have he : stepA t.data.toList (-1) ⟨A, la, M, c⟩ = ⟨A + 1, la, M ++ (t.data.toList.drop A).take 1, c⟩ := by unfold stepA; rw [if_neg (by omega), if_neg (by omega)]
                have hrow : w4.ownsRow w2.heap.size 5 1 (.slice po4 (M.length + min 1 (t.size - A)) cap4) (M ++ (t.data.toList.drop A).take 1).length ((M ++ (t.data.toList.drop A).take 1).map byV) := by rw [← HEs.out, List.length_append, List.map_append, ← one_at t A, len_eq]; exact R4.out
                exact ⟨⟨A + 1, la, M ++ (t.data.toList.drop A).take 1, c⟩, by show A + 1 ≤ t.size + 1; omega, rfl, by go_num, by go_num, by go_num, ⟨by show (M ++ (t.data.toList.drop A).take 1).length ≤ A + 1; rw [List.length_append, ← HXl.out]; omega, by show (M ++ (t.data.toList.drop A).take 1).length ≤ t.size; rw [List.length_append, ← HXl.out]; omega, by show c ≤ A + 1; omega, by show (-1 : Int) ≤ la; omega, by show la ≤ (t.size : Int); omega⟩, by rw [← he, finA_step t.data.toList L ⟨A, la, M, c⟩ _ HzL.out]; exact HF.out, hrow, HO.out.grown G4.out (fun q hq _ => (HOw.out.lt q hq).1)⟩
            · have hcI : ¬ ((0 : Int) < (c : Int)) := by omega
              go_wp2_with (first | (at_builtin; refine Lib.wpList_append_own_string _ rfl _ _ 54 9 rfl w2.heap.size 5 i0 Tryz.underlying54 Tryz.underlying9 hi0 hz0 hzS hzB (.slice po M.length cap1) M.length (M.map byV) rfl HOw.out (t.extract A (A + 1)) rfl (by rw [show (t.extract A (A + 1)).size = (t.extract A (A + 1)).size from rfl]; unfold maxLen; omega) (by rw [show (t.extract A (A + 1)).size = (t.extract A (A + 1)).size from rfl]; omega) hz ?_; intro v4 w4 hown4 hgrow4 _; obtain ⟨po4, cap4, rfl⟩ := ownsRow_slice hown4; have R4 := hide hown4; have G4 := hide hgrow4; clear hown4 hgrow4))
              go_roundg (t.size + 1 - (A + 1))
              case measure => rw [HG.out]; omega
              case rel =>
                have he : stepA t.data.toList (-1) ⟨A, la, M, c⟩ = ⟨A + 1, la, M ++ (t.data.toList.drop A).take 1, c⟩ := by unfold stepA; rw [if_neg (by omega), if_neg (by omega)]
                have hrow : w4.ownsRow w2.heap.size 5 1 (.slice po4 (M.length + min 1 (t.size - A)) cap4) (M ++ (t.data.toList.drop A).take 1).length ((M ++ (t.data.toList.drop A).take 1).map byV) := by rw [← HEs.out, List.length_append, List.map_append, ← one_at t A, len_eq]; exact R4.out
                exact ⟨⟨A + 1, la, M ++ (t.data.toList.drop A).take 1, c⟩, by show A + 1 ≤ t.size + 1; omega, rfl, by go_num, by go_num, by go_num, ⟨by show (M ++ (t.data.toList.drop A).take 1).length ≤ A + 1; rw [List.length_append, ← HXl.out]; omega, by show (M ++ (t.data.toList.drop A).take 1).length ≤ t.size; rw [List.length_append, ← HXl.out]; omega, by show c ≤ A + 1; omega, by show (-1 : Int) ≤ la; omega, by show la ≤ (t.size : Int); omega⟩, by rw [← he, finA_step t.data.toList L ⟨A, la, M, c⟩ _ HzL.out]; exact HF.out, hrow, HO.out.grown G4.out (fun q hq _ => (HOw.out.lt q hq).1)⟩
          · have hneb : ((A : Int) != la) = false := by simpa using heq
            have Heq := hide heq
            clear heq
            by_cases hc0 : 0 < c
            · have hcI : (0 : Int) < (c : Int) := by omega
              go_wp2_with (first | (at_builtin; refine Lib.wpList_append_own_string _ rfl _ _ 54 9 rfl w2.heap.size 5 i0 Tryz.underlying54 Tryz.underlying9 hi0 hz0 hzS hzB (.slice po M.length cap1) M.length (M.map byV) rfl HOw.out (t.extract A (A + 1)) rfl (by rw [show (t.extract A (A + 1)).size = (t.extract A (A + 1)).size from rfl]; unfold maxLen; omega) (by rw [show (t.extract A (A + 1)).size = (t.extract A (A + 1)).size from rfl]; omega) hz ?_; intro v4 w4 hown4 hgrow4 _; obtain ⟨po4, cap4, rfl⟩ := ownsRow_slice hown4; have R4 := hide hown4; have G4 := hide hgrow4; clear hown4 hgrow4))
              go_roundg (t.size + 1 - (A + 1))
              case measure => rw [HG.out]; omega
              case rel =>
                have he : stepA t.data.toList 0 ⟨A, la, M, c⟩ = ⟨A + 1, la, M ++ (t.data.toList.drop A).take 1, c⟩ := by unfold stepA; rw [if_neg (by omega), if_neg (fun h => h.2 Heq.out)]
                have hrow : w4.ownsRow w2.heap.size 5 1 (.slice po4 (M.length + min 1 (t.size - A)) cap4) (M ++ (t.data.toList.drop A).take 1).length ((M ++ (t.data.toList.drop A).take 1).map byV) := by rw [← HEs.out, List.length_append, List.map_append, ← one_at t A, len_eq]; exact R4.out
                exact ⟨⟨A + 1, la, M ++ (t.data.toList.drop A).take 1, c⟩, by show A + 1 ≤ t.size + 1; omega, rfl, by go_num, by go_num, by go_num, ⟨by show (M ++ (t.data.toList.drop A).take 1).length ≤ A + 1; rw [List.length_append, ← HXl.out]; omega, by show (M ++ (t.data.toList.drop A).take 1).length ≤ t.size; rw [List.length_append, ← HXl.out]; omega, by show c ≤ A + 1; omega, by show (-1 : Int) ≤ la; omega, by show la ≤ (t.size : Int); omega⟩, by rw [← he, finA_step t.data.toList L ⟨A, la, M, c⟩ _ HzL.out]; exact HF.out, hrow, HO.out.grown G4.out (fun q hq _ => (HOw.out.lt q hq).1)⟩
            · have hcI : ¬ ((0 : Int) < (c : Int)) := by omega
              go_wp2_with (first | (at_builtin; refine Lib.wpList_append_own_string _ rfl _ _ 54 9 rfl w2.heap.size 5 i0 Tryz.underlying54 Tryz.underlying9 hi0 hz0 hzS hzB (.slice po M.length cap1) M.length (M.map byV) rfl HOw.out (t.extract A (A + 1)) rfl (by rw [show (t.extract A (A + 1)).size = (t.extract A (A + 1)).size from rfl]; unfold maxLen; omega) (by rw [show (t.extract A (A + 1)).size = (t.extract A (A + 1)).size from rfl]; omega) hz ?_; intro v4 w4 hown4 hgrow4 _; obtain ⟨po4, cap4, rfl⟩ := ownsRow_slice hown4; have R4 := hide hown4; have G4 := hide hgrow4; clear hown4 hgrow4))
              go_roundg (t.size + 1 - (A + 1))
              case measure => rw [HG.out]; omega
              case rel =>
                have he : stepA t.data.toList 0 ⟨A, la, M, c⟩ = ⟨A + 1, la, M ++ (t.data.toList.drop A).take 1, c⟩ := by unfold stepA; rw [if_neg (by omega), if_neg (fun h => h.2 Heq.out)]
                have hrow : w4.ownsRow w2.heap.size 5 1 (.slice po4 (M.length + min 1 (t.size - A)) cap4) (M ++ (t.data.toList.drop A).take 1).length ((M ++ (t.data.toList.drop A).take 1).map byV) := by rw [← HEs.out, List.length_append, List.map_append, ← one_at t A, len_eq]; exact R4.out
                exact ⟨⟨A + 1, la, M ++ (t.data.toList.drop A).take 1, c⟩, by show A + 1 ≤ t.size + 1; omega, rfl, by go_num, by go_num, by go_num, ⟨by show (M ++ (t.data.toList.drop A).take 1).length ≤ A + 1; rw [List.length_append, ← HXl.out]; omega, by show (M ++ (t.data.toList.drop A).take 1).length ≤ t.size; rw [List.length_append, ← HXl.out]; omega, by show c ≤ A + 1; omega, by show (-1 : Int) ≤ la; omega, by show la ≤ (t.size : Int); omega⟩, by rw [← he, finA_step t.data.toList L ⟨A, la, M, c⟩ _ HzL.out]; exact HF.out, hrow, HO.out.grown G4.out (fun q hq _ => (HOw.out.lt q hq).1)⟩
          · have hneb : ((A : Int) != la) = true := by simpa using hne
            go_wp2_with (first | (go_at_call 402; refine (app_empty _ _ po _ cap1 rfl _).mono ?_; rintro en w' ⟨rfl, h3⟩; subst w') | (at_builtin; refine Lib.wpList_append_own_string _ rfl _ _ 54 9 rfl w2.heap.size 5 i0 Tryz.underlying54 Tryz.underlying9 hi0 hz0 hzS hzB (.slice po M.length cap1) M.length (M.map byV) rfl HOw.out (t.extract A (A + 1)) rfl (by rw [show (t.extract A (A + 1)).size = (t.extract A (A + 1)).size from rfl]; unfold maxLen; omega) (by rw [show (t.extract A (A + 1)).size = (t.extract A (A + 1)).size from rfl]; omega) hz ?_; intro v4 w4 hown4 hgrow4 _; obtain ⟨po4, cap4, rfl⟩ := ownsRow_slice hown4; have R4 := hide hown4; have G4 := hide hgrow4; clear hown4 hgrow4))
            go_roundg (t.size + 1 - (A + 1))
            case measure => rw [HG.out]; omega
            case rel =>
              have he : stepA t.data.toList 0 ⟨A, la, M, c⟩ = ⟨A + 1, A, M ++ (t.data.toList.drop A).take 1, c + 1⟩ := by unfold stepA; rw [if_neg (by omega), if_pos ⟨rfl, hne⟩]
              have hrow : w4.ownsRow w2.heap.size 5 1 (.slice po4 (M.length + min 1 (t.size - A)) cap4) (M ++ (t.data.toList.drop A).take 1).length ((M ++ (t.data.toList.drop A).take 1).map byV) := by rw [← HEs.out, List.length_append, List.map_append, ← one_at t A, len_eq]; exact R4.out
              exact ⟨⟨A + 1, A, M ++ (t.data.toList.drop A).take 1, c + 1⟩, by show A + 1 ≤ t.size + 1; omega, rfl, by go_num, by go_num, by go_num, ⟨by show (M ++ (t.data.toList.drop A).take 1).length ≤ A + 1; rw [List.length_append, ← HXl.out]; omega, by show (M ++ (t.data.toList.drop A).take 1).length ≤ t.size; rw [List.length_append, ← HXl.out]; omega, by show c + 1 ≤ A + 1; omega, by show (-1 : Int) ≤ (A : Int); omega, by show (A : Int) ≤ (t.size : Int); omega⟩, by rw [← he, finA_step t.data.toList L ⟨A, la, M, c⟩ _ HzL.out]; exact HF.out, hrow, HO.out.grown G4.out (fun q hq _ => (HOw.out.lt q hq).1)⟩
        · obtain rfl : A = t.size := by omega
          have h1 : ¬ ((t.size : Int) + 1 ≤ (t.size : Int)) := by omega
          have h1n : (t.size : Int) < (t.size : Int) + 1 := by omega
          have hmi : min ((t.size : Int) + 1) (t.size : Int) = (t.size : Int) := by omega
          have hlm : ¬ ((500 : Int) < (M.length : Int)) := by omega
          rcases hcz with rfl | ⟨rfl, heq⟩ | ⟨rfl, hne⟩
          · have hq0 : ((-1 : Int) == 0) = false := rfl
            by_cases hc0 : 0 < c
            · have hcI : (0 : Int) < (c : Int) := by omega
              go_wp2_with (first | (at_builtin; refine Lib.wpList_append_own_string _ rfl _ _ 54 9 rfl w2.heap.size 5 i0 Tryz.underlying54 Tryz.underlying9 hi0 hz0 hzS hzB (.slice po M.length cap1) M.length (M.map byV) rfl HOw.out (ByteArray.empty) rfl (by rw [ByteArray.size_empty]; unfold maxLen; omega) (by rw [ByteArray.size_empty]; omega) hz ?_; intro v4 w4 hown4 hgrow4 _; obtain ⟨po4, cap4, rfl⟩ := ownsRow_slice hown4; have R4 := hide hown4; have G4 := hide hgrow4; clear hown4 hgrow4))
              go_roundg (t.size + 1 - (t.size + 1))
              case measure => rw [HG.out]; omega
              case rel =>
                have he : stepA t.data.toList (-1) ⟨t.size, la, M, c⟩ = ⟨t.size + 1, la, M ++ (t.data.toList.drop t.size).take 1, c⟩ := by unfold stepA; rw [if_neg (by omega), if_neg (by omega)]
                have hrow : w4.ownsRow w2.heap.size 5 1 (.slice po4 (M.length + ByteArray.empty.size) cap4) (M ++ (t.data.toList.drop t.size).take 1).length ((M ++ (t.data.toList.drop t.size).take 1).map byV) := by rw [drop_all t, List.append_nil]; have h := R4.out; have e0 : Lib.strCells ByteArray.empty = [] := rfl; rw [e0, List.append_nil] at h; simpa using h
                exact ⟨⟨t.size + 1, la, M ++ (t.data.toList.drop t.size).take 1, c⟩, by show t.size + 1 ≤ t.size + 1; omega, rfl, by go_num, by go_num, by go_num, ⟨by show (M ++ (t.data.toList.drop t.size).take 1).length ≤ t.size + 1; rw [drop_all t, List.append_nil]; omega, by show (M ++ (t.data.toList.drop t.size).take 1).length ≤ t.size; rw [drop_all t, List.append_nil]; omega, by show c ≤ t.size + 1; omega, by show (-1 : Int) ≤ la; omega, by show la ≤ (t.size : Int); omega⟩, by rw [← he, finA_step t.data.toList L ⟨t.size, la, M, c⟩ _ HzL.out]; exact HF.out, hrow, HO.out.grown G4.out (fun q hq _ => (HOw.out.lt q hq).1)⟩
            · have hcI : ¬ ((0 : Int) < (c : Int)) := by omega
              go_wp2_with (first | (at_builtin; refine Lib.wpList_append_own_string _ rfl _ _ 54 9 rfl w2.heap.size 5 i0 Tryz.underlying54 Tryz.underlying9 hi0 hz0 hzS hzB (.slice po M.length cap1) M.length (M.map byV) rfl HOw.out (ByteArray.empty) rfl (by rw [ByteArray.size_empty]; unfold maxLen; omega) (by rw [ByteArray.size_empty]; omega) hz ?_; intro v4 w4 hown4 hgrow4 _; obtain ⟨po4, cap4, rfl⟩ := ownsRow_slice hown4; have R4 := hide hown4; have G4 := hide hgrow4; clear hown4 hgrow4))
              go_roundg (t.size + 1 - (t.size + 1))
              case measure => rw [HG.out]; omega
              case rel =>
                have he : stepA t.data.toList (-1) ⟨t.size, la, M, c⟩ = ⟨t.size + 1, la, M ++ (t.data.toList.drop t.size).take 1, c⟩ := by unfold stepA; rw [if_neg (by omega), if_neg (by omega)]
                have hrow : w4.ownsRow w2.heap.size 5 1 (.slice po4 (M.length + ByteArray.empty.size) cap4) (M ++ (t.data.toList.drop t.size).take 1).length ((M ++ (t.data.toList.drop t.size).take 1).map byV) := by rw [drop_all t, List.append_nil]; have h := R4.out; have e0 : Lib.strCells ByteArray.empty = [] := rfl; rw [e0, List.append_nil] at h; simpa using h
                exact ⟨⟨t.size + 1, la, M ++ (t.data.toList.drop t.size).take 1, c⟩, by show t.size + 1 ≤ t.size + 1; omega, rfl, by go_num, by go_num, by go_num, ⟨by show (M ++ (t.data.toList.drop t.size).take 1).length ≤ t.size + 1; rw [drop_all t, List.append_nil]; omega, by show (M ++ (t.data.toList.drop t.size).take 1).length ≤ t.size; rw [drop_all t, List.append_nil]; omega, by show c ≤ t.size + 1; omega, by show (-1 : Int) ≤ la; omega, by show la ≤ (t.size : Int); omega⟩, by rw [← he, finA_step t.data.toList L ⟨t.size, la, M, c⟩ _ HzL.out]; exact HF.out, hrow, HO.out.grown G4.out (fun q hq _ => (HOw.out.lt q hq).1)⟩
          · have hneb : ((t.size : Int) != la) = false := by simpa using heq
            have Heq := hide heq
            clear heq
            by_cases hc0 : 0 < c
            · have hcI : (0 : Int) < (c : Int) := by omega
              go_wp2_with (first | (at_builtin; refine Lib.wpList_append_own_string _ rfl _ _ 54 9 rfl w2.heap.size 5 i0 Tryz.underlying54 Tryz.underlying9 hi0 hz0 hzS hzB (.slice po M.length cap1) M.length (M.map byV) rfl HOw.out (ByteArray.empty) rfl (by rw [ByteArray.size_empty]; unfold maxLen; omega) (by rw [ByteArray.size_empty]; omega) hz ?_; intro v4 w4 hown4 hgrow4 _; obtain ⟨po4, cap4, rfl⟩ := ownsRow_slice hown4; have R4 := hide hown4; have G4 := hide hgrow4; clear hown4 hgrow4))
              go_roundg (t.size + 1 - (t.size + 1))
              case measure => rw [HG.out]; omega
              case rel =>
                have he : stepA t.data.toList 0 ⟨t.size, la, M, c⟩ = ⟨t.size + 1, la, M ++ (t.data.toList.drop t.size).take 1, c⟩ := by unfold stepA; rw [if_neg (by omega), if_neg (fun h => h.2 Heq.out)]
                have hrow : w4.ownsRow w2.heap.size 5 1 (.slice po4 (M.length + ByteArray.empty.size) cap4) (M ++ (t.data.toList.drop t.size).take 1).length ((M ++ (t.data.toList.drop t.size).take 1).map byV) := by rw [drop_all t, List.append_nil]; have h := R4.out; have e0 : Lib.strCells ByteArray.empty = [] := rfl; rw [e0, List.append_nil] at h; simpa using h
                exact ⟨⟨t.size + 1, la, M ++ (t.data.toList.drop t.size).take 1, c⟩, by show t.size + 1 ≤ t.size + 1; omega, rfl, by go_num, by go_num, by go_num, ⟨by show (M ++ (t.data.toList.drop t.size).take 1).length ≤ t.size + 1; rw [drop_all t, List.append_nil]; omega, by show (M ++ (t.data.toList.drop t.size).take 1).length ≤ t.size; rw [drop_all t, List.append_nil]; omega, by show c ≤ t.size + 1; omega, by show (-1 : Int) ≤ la; omega, by show la ≤ (t.size : Int); omega⟩, by rw [← he, finA_step t.data.toList L ⟨t.size, la, M, c⟩ _ HzL.out]; exact HF.out, hrow, HO.out.grown G4.out (fun q hq _ => (HOw.out.lt q hq).1)⟩
            · have hcI : ¬ ((0 : Int) < (c : Int)) := by omega
              go_wp2_with (first | (at_builtin; refine Lib.wpList_append_own_string _ rfl _ _ 54 9 rfl w2.heap.size 5 i0 Tryz.underlying54 Tryz.underlying9 hi0 hz0 hzS hzB (.slice po M.length cap1) M.length (M.map byV) rfl HOw.out (ByteArray.empty) rfl (by rw [ByteArray.size_empty]; unfold maxLen; omega) (by rw [ByteArray.size_empty]; omega) hz ?_; intro v4 w4 hown4 hgrow4 _; obtain ⟨po4, cap4, rfl⟩ := ownsRow_slice hown4; have R4 := hide hown4; have G4 := hide hgrow4; clear hown4 hgrow4))
              go_roundg (t.size + 1 - (t.size + 1))
              case measure => rw [HG.out]; omega
              case rel =>
                have he : stepA t.data.toList 0 ⟨t.size, la, M, c⟩ = ⟨t.size + 1, la, M ++ (t.data.toList.drop t.size).take 1, c⟩ := by unfold stepA; rw [if_neg (by omega), if_neg (fun h => h.2 Heq.out)]
                have hrow : w4.ownsRow w2.heap.size 5 1 (.slice po4 (M.length + ByteArray.empty.size) cap4) (M ++ (t.data.toList.drop t.size).take 1).length ((M ++ (t.data.toList.drop t.size).take 1).map byV) := by rw [drop_all t, List.append_nil]; have h := R4.out; have e0 : Lib.strCells ByteArray.empty = [] := rfl; rw [e0, List.append_nil] at h; simpa using h
                exact ⟨⟨t.size + 1, la, M ++ (t.data.toList.drop t.size).take 1, c⟩, by show t.size + 1 ≤ t.size + 1; omega, rfl, by go_num, by go_num, by go_num, ⟨by show (M ++ (t.data.toList.drop t.size).take 1).length ≤ t.size + 1; rw [drop_all t, List.append_nil]; omega, by show (M ++ (t.data.toList.drop t.size).take 1).length ≤ t.size; rw [drop_all t, List.append_nil]; omega, by show c ≤ t.size + 1; omega, by show (-1 : Int) ≤ la; omega, by show la ≤ (t.size : Int); omega⟩, by rw [← he, finA_step t.data.toList L ⟨t.size, la, M, c⟩ _ HzL.out]; exact HF.out, hrow, HO.out.grown G4.out (fun q hq _ => (HOw.out.lt q hq).1)⟩
          · have hneb : ((t.size : Int) != la) = true := by simpa using hne
            go_wp2_with (first | (go_at_call 402; refine (app_empty _ _ po _ cap1 rfl _).mono ?_; rintro en w' ⟨rfl, h3⟩; subst w') | (at_builtin; refine Lib.wpList_append_own_string _ rfl _ _ 54 9 rfl w2.heap.size 5 i0 Tryz.underlying54 Tryz.underlying9 hi0 hz0 hzS hzB (.slice po M.length cap1) M.length (M.map byV) rfl HOw.out (ByteArray.empty) rfl (by rw [ByteArray.size_empty]; unfold maxLen; omega) (by rw [ByteArray.size_empty]; omega) hz ?_; intro v4 w4 hown4 hgrow4 _; obtain ⟨po4, cap4, rfl⟩ := ownsRow_slice hown4; have R4 := hide hown4; have G4 := hide hgrow4; clear hown4 hgrow4))
            go_roundg (t.size + 1 - (t.size + 1))
            case measure => rw [HG.out]; omega
            case rel =>
              have he : stepA t.data.toList 0 ⟨t.size, la, M, c⟩ = ⟨t.size + 1, t.size, M ++ (t.data.toList.drop t.size).take 1, c + 1⟩ := by unfold stepA; rw [if_neg (by omega), if_pos ⟨rfl, hne⟩]
              have hrow : w4.ownsRow w2.heap.size 5 1 (.slice po4 (M.length + ByteArray.empty.size) cap4) (M ++ (t.data.toList.drop t.size).take 1).length ((M ++ (t.data.toList.drop t.size).take 1).map byV) := by rw [drop_all t, List.append_nil]; have h := R4.out; have e0 : Lib.strCells ByteArray.empty = [] := rfl; rw [e0, List.append_nil] at h; simpa using h
              exact ⟨⟨t.size + 1, t.size, M ++ (t.data.toList.drop t.size).take 1, c + 1⟩, by show t.size + 1 ≤ t.size + 1; omega, rfl, by go_num, by go_num, by go_num, ⟨by show (M ++ (t.data.toList.drop t.size).take 1).length ≤ t.size + 1; rw [drop_all t, List.append_nil]; omega, by show (M ++ (t.data.toList.drop t.size).take 1).length ≤ t.size; rw [drop_all t, List.append_nil]; omega, by show c + 1 ≤ t.size + 1; omega, by show (-1 : Int) ≤ (t.size : Int); omega, by show (t.size : Int) ≤ (t.size : Int); omega⟩, by rw [← he, finA_step t.data.toList L ⟨t.size, la, M, c⟩ _ HzL.out]; exact HF.out, hrow, HO.out.grown G4.out (fun q hq _ => (HOw.out.lt q hq).1)⟩
    · obtain rfl : A = t.size + 1 := by omega
      have hke : ¬ (((t.size + 1 : Nat) : Int) ≤ (t.size : Int)) := by omega
      have kc := bytes_conv HOw.out
      have hend := HF.out
      rw [finA_end t.data.toList L _ (by show L.length ≤ t.size + 1; omega)] at hend
      clear hown ho hgh hfin hb
      go_wp2
      refine bodyPost_ret (v := .tuple #[.string (ofB M), .int .i64 (c : Nat), .nilIface]) (by simp [results, Tryz.results332, go_sem]) rfl ⟨L, HP.out, by rw [← hend], by rw [← hend]; show M.length ≤ 60; omega, HO2.out.trans HO.out (fun q h e => by omega)⟩
end Go.Proofs.YtdbdbaepmdmnfaaGreatDoor

namespace Go.Proofs.YtdbdbaepmdmnfaaGreatDoor
theorem max_end {P : Nat → Prop} : ∀ n, (∃ e, e ≤ n ∧ P e ∧ ∀ e', e' ≤ n → P e' → e' ≤ e) ∨ ∀ e, e ≤ n → ¬ P e
  | 0 => by
    by_cases h : P 0
    · exact Or.inl ⟨0, Nat.le_refl _, h, fun e' he _ => he⟩
    · exact Or.inr (fun e he hp => by
        obtain rfl : e = 0 := by omega
        exact h hp)
  | n + 1 => by
    by_cases h : P (n + 1)
    · exact Or.inl ⟨n + 1, Nat.le_refl _, h, fun e' he _ => he⟩
    · rcases max_end n with ⟨e, h1, h2, h3⟩ | h1
      · refine Or.inl ⟨e, by omega, h2, fun e' he hp => ?_⟩
        by_cases h4 : e' = n + 1
        · exact absurd (h4 ▸ hp) h
        · exact h3 e' (by omega) hp
      · refine Or.inr (fun e he hp => ?_)
        by_cases h4 : e = n + 1
        · exact h (h4 ▸ hp)
        · exact h1 e (by omega) hp
theorem exists_lens {R : Pat} (hk : ∀ t i j, R t i j → i ≤ j) (t : List UInt8) : ∃ L, LensR R t L := by
  have key : ∀ k : Nat, ∃ z : Int, (∃ l : Nat, z = (l : Int) ∧ k + l ≤ t.length ∧ R t k (k + l) ∧ ∀ e, e ≤ t.length → R t k e → e ≤ k + l) ∨ (z = -1 ∧ ∀ e, e ≤ t.length → ¬ R t k e) := by
    intro k
    rcases max_end (P := fun e => R t k e) t.length with ⟨e, h1, h2, h3⟩ | h
    · have hke := hk t k e h2
      exact ⟨((e - k : Nat) : Int), Or.inl ⟨e - k, rfl, by omega, by rw [show k + (e - k) = e by omega]; exact h2, fun e' he hr => by have := h3 e' he hr; omega⟩⟩
    · exact ⟨-1, Or.inr ⟨rfl, h⟩⟩
  obtain ⟨f, hf⟩ := Classical.axiomOfChoice key
  refine ⟨(List.range (t.length + 1)).map f, by simp, fun k hk => ?_⟩
  have e : ((List.range (t.length + 1)).map f)[k]? = some (f k) := by
    rw [List.getElem?_map, List.getElem?_range (by omega)]
    rfl
  rw [e]
  rcases hf k with ⟨l, h1, h2⟩ | ⟨h1, h2⟩
  · exact Or.inl ⟨l, by rw [h1], h2⟩
  · exact Or.inr ⟨by rw [h1], h2⟩
theorem LensR.unique {R : Pat} {t : List UInt8} {L L' : List Int} (h : LensR R t L) (h' : LensR R t L') : L = L' := by
  apply List.ext_getElem?
  intro k
  by_cases hk : k ≤ t.length
  · rcases h.2 k hk with ⟨l, e1, a1, a2, a3⟩ | ⟨e1, a1⟩ <;> rcases h'.2 k hk with ⟨l', e2, b1, b2, b3⟩ | ⟨e2, b1⟩
    · have := a3 _ b1 b2
      have := b3 _ a1 a2
      obtain rfl : l = l' := by omega
      rw [e1, e2]
    · exact absurd a2 (b1 _ a1)
    · exact absurd b2 (a1 _ b1)
    · rw [e1, e2]
  · rw [List.getElem?_eq_none (by have := h.1; omega), List.getElem?_eq_none (by have := h'.1; omega)]
theorem stepA_count (t : List UInt8) (z : Int) (s : AS) : (stepA t z s).count ≤ s.count + 1 := by
  unfold stepA
  split
  · exact Nat.le_refl _
  · split
    · exact Nat.le_refl _
    · exact Nat.le_succ _
theorem runA_few (t : List UInt8) (L : List Int) : ∀ (f : Nat) (s : AS), (runA t L f s).count ≤ s.count + f
  | 0, s => Nat.le_refl _
  | f + 1, s => by
    unfold runA
    cases L[s.at_]? with
    | none => exact Nat.le_add_right _ _
    | some z =>
      refine Nat.le_trans (runA_few t L f _) ?_
      have := stepA_count t z s
      omega
/-- What was made is of the text's bytes, and no longer. -/
def MadeOf (t : List UInt8) (s : AS) : Prop := s.made.length ≤ s.at_ ∧ s.made.length ≤ t.length ∧ ∀ c ∈ s.made, c ∈ t
theorem MadeOf.step {t : List UInt8} {s : AS} (h : MadeOf t s) (z : Int) : MadeOf t (stepA t z s) := by
  obtain ⟨h1, h2, h3⟩ := h
  have hl : ((t.drop s.at_).take 1).length = min 1 (t.length - s.at_) := by simp
  have hm : ∀ c ∈ s.made ++ (t.drop s.at_).take 1, c ∈ t := fun c hc => by
    rcases List.mem_append.1 hc with hc | hc
    · exact h3 c hc
    · exact List.mem_of_mem_drop (List.mem_of_mem_take hc)
  have hln : (s.made ++ (t.drop s.at_).take 1).length ≤ s.at_ + 1 ∧ (s.made ++ (t.drop s.at_).take 1).length ≤ t.length := by
    rw [List.length_append, hl]
    omega
  unfold stepA
  split
  · exact ⟨by show s.made.length ≤ s.at_ + z.toNat; omega, h2, h3⟩
  · split
    · exact ⟨hln.1, hln.2, hm⟩
    · exact ⟨hln.1, hln.2, hm⟩
theorem runA_made (t : List UInt8) (L : List Int) : ∀ (f : Nat) (s : AS), MadeOf t s → MadeOf t (runA t L f s)
  | 0, s, h => h
  | f + 1, s, h => by
    unfold runA
    cases L[s.at_]? with
    | none => exact h
    | some z => exact runA_made t L f _ (h.step z)
/-- What replacing comes to. -/
structure Came (R : Pat) (t : List UInt8) (F : AS) : Prop where
  all : ∀ L, LensR R t L → finA t L ⟨0, -1, [], 0⟩ = F
  few : F.count ≤ t.length + 2
  made : MadeOf t F
theorem came_some {R : Pat} (hk : ∀ t i j, R t i j → i ≤ j) (t : List UInt8) : ∃ L, LensR R t L ∧ Came R t (finA t L ⟨0, -1, [], 0⟩) := by
  obtain ⟨L, hL⟩ := exists_lens hk t
  refine ⟨L, hL, fun L' h' => by rw [h'.unique hL], ?_, runA_made t L _ _ ⟨Nat.le_refl _, Nat.zero_le _, fun c hc => by simp at hc⟩⟩
  have := runA_few t L (L.length + 1) ⟨0, -1, [], 0⟩
  have h1 := hL.1
  show (runA t L (L.length + 1) ⟨0, -1, [], 0⟩).count ≤ _
  have e : (AS.mk 0 (-1) [] 0).count = 0 := rfl
  omega
/-- The record behind a replacement. -/
def left (t : List UInt8) (F : AS) : List UInt8 := if F.count = 0 then t else F.made
/-- What is put out. -/
def outR (t : List UInt8) (F : AS) : List UInt8 := Lib.decDigits F.count ++ [10] ++ left t F ++ [10]
theorem left_of {R : Pat} {t : List UInt8} {F : AS} (h : Came R t F) : (left t F).length ≤ t.length ∧ ∀ c ∈ left t F, c ∈ t := by
  unfold left
  split
  · exact ⟨Nat.le_refl _, fun c hc => hc⟩
  · exact ⟨h.made.2.1, h.made.2.2⟩
end Go.Proofs.YtdbdbaepmdmnfaaGreatDoor

namespace Go.Proofs.YtdbdbaepmdmnfaaGreatDoor
theorem empty_find {R : Pat} {best : Option (Nat × Nat)} (h : Finds R [] 0 0 best) : (bBeg best = 0 ∧ R [] 0 0) ∨ (bBeg best = -1 ∧ ¬ R [] 0 0) := by
  cases best with
  | none =>
    refine Or.inr ⟨rfl, fun hr => ?_⟩
    obtain ⟨B, l, hb, _⟩ := h.2 0 0 (Nat.le_refl _) (Nat.le_refl _) (Nat.le_refl _) hr
    cases hb
  | some x =>
    obtain ⟨B, l⟩ := x
    obtain ⟨_, h2, _, h4⟩ := h.1 B l rfl
    have h2' : B + l ≤ 0 := h2
    obtain rfl : B = 0 := by omega
    obtain rfl : l = 0 := by omega
    exact Or.inl ⟨rfl, h4⟩
/-- Replacing under way, told by Match. -/
structure RestInv (R : Pat) (t : List UInt8) (L : List Int) (F : AS) (p c : Nat) (M : List UInt8) : Prop where
  le : p ≤ t.length
  ml : M.length ≤ p
  cl : c ≤ p
  fin : ∃ la, finA t L ⟨p, la, M, c⟩ = F
  z : c = 0 → p = 0 ∧ M = []
theorem restR_begin {R : Pat} {t : List UInt8} {L : List Int} : RestInv R t L (finA t L ⟨0, -1, [], 0⟩) 0 0 [] := ⟨Nat.zero_le _, Nat.le_refl _, Nat.le_refl _, ⟨-1, rfl⟩, fun _ => ⟨rfl, rfl⟩⟩
theorem restR_none {R : Pat} (hloc : Loc R) (h0 : ¬ R [] 0 0) {t : List UInt8} {L : List Int} (hL : LensR R t L) {F : AS} {p c : Nat} {M : List UInt8} (h : RestInv R t L F p c M) (hf : Finds R (t.drop p) 0 0 none) : outR t F = Lib.decDigits c ++ [10] ++ (M ++ t.drop p) ++ [10] := by
  rcases finds_rest hloc h0 h.le hf with ⟨_, hn⟩ | ⟨B, l, hb, _⟩
  · obtain ⟨la, hF⟩ := h.fin
    rw [fin_none hL p h.le hn la M c] at hF
    subst hF
    unfold outR left
    by_cases hc : c = 0
    · obtain ⟨rfl, rfl⟩ := h.z hc
      rw [if_pos hc]
      rfl
    · rw [if_neg hc]
  · cases hb
theorem restR_some {R : Pat} (hloc : Loc R) (h0 : ¬ R [] 0 0) {t : List UInt8} {L : List Int} (hL : LensR R t L) {F : AS} {p c : Nat} {M : List UInt8} (h : RestInv R t L F p c M) {B l : Nat} (hf : Finds R (t.drop p) 0 0 (some (B, l))) : 0 < l ∧ p + B + l ≤ t.length ∧ RestInv R t L F (p + B + l) (c + 1) (M ++ (t.drop p).take B) := by
  rcases finds_rest hloc h0 h.le hf with ⟨hb, _⟩ | ⟨B', l', hb, h1, h2, h3, h4, h5⟩
  · cases hb
  · cases hb
    obtain ⟨la, hF⟩ := h.fin
    rw [fin_skip hL B p la M c (by omega) h3, fin_match hL (p + B) l h1 h2 h4 h5] at hF
    have := h.ml
    have := h.cl
    refine ⟨h1, h2, ⟨h2, ?_, by omega, ⟨_, hF⟩, fun e => by omega⟩⟩
    rw [List.length_append, List.length_take]
    omega
def ddR (i : Nat) : List UInt8 := if i < 10 then [UInt8.ofNat (48 + i)] else [UInt8.ofNat (48 + i / 10), UInt8.ofNat (48 + i % 10)]
theorem first_digit {c : Nat} (h1 : 1 ≤ c) (h2 : c ≤ 62) : ∃ b r, Lib.decDigits c = b :: r ∧ b.toNat ≠ 48 := by
  have e : Lib.decDigits c = ddR c := by
    unfold ddR
    by_cases h : c < 10
    · rw [if_pos h, Lib.decDigits_one h]
    · rw [if_neg h, Lib.decDigits_two h (by omega)]
  rw [e]
  have h : ∀ i : Fin 63, 1 ≤ i.val → ∃ b r, ddR i.val = b :: r ∧ b.toNat ≠ 48 := by
    intro i hi
    unfold ddR
    by_cases h : i.val < 10
    · rw [if_pos h]
      refine ⟨_, _, rfl, ?_⟩
      have : (UInt8.ofNat (48 + i.val)).toNat = (48 + i.val) % 256 := UInt8.toNat_ofNat'
      omega
    · rw [if_neg h]
      refine ⟨_, _, rfl, ?_⟩
      have : (UInt8.ofNat (48 + i.val / 10)).toNat = (48 + i.val / 10) % 256 := UInt8.toNat_ofNat'
      omega
  exact h ⟨c, by omega⟩ h1
theorem out_first {R : Pat} (hloc : Loc R) (h0 : R [] 0 0) {t : List UInt8} {L : List Int} (hL : LensR R t L) {F : AS} (hF : finA t L ⟨0, -1, [], 0⟩ = F) (hc : F.count ≤ 62) : 1 < (outR t F).length ∧ ∃ b r, outR t F = b :: r ∧ b.toNat ≠ 48 := by
  have h1 : R t 0 0 := by
    have := (hloc.2 t 0 0 0 0 (by omega) (Nat.le_refl _)).1 (by simpa using h0)
    simpa using this
  have h2 := fin_some hL h1
  rw [hF] at h2
  obtain ⟨b, r, e, hb⟩ := first_digit h2 hc
  unfold outR
  rw [e]
  exact ⟨by simp; omega, b, _, rfl, hb⟩
end Go.Proofs.YtdbdbaepmdmnfaaGreatDoor

