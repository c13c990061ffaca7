import Derived.Test.YtdbdbaepmdmnfaaGreatDoorZ10
import Derived.Test.YtdbdbaepmdmnfaaGreatDoorZ11
import Derived.Test.YtdbdbaepmdmnfaaGreatDoorZ13
namespace Go.Proofs.YtdbdbaepmdmnfaaGreatDoor
open Go.RowKit
/-- A machine: its block, and what lies in it. -/
def MAt8 (w : World) (m ab vb : Nat) (txt : ByteArray) (flds lst : Value) (size fuel code : Nat) : Prop :=
  w.heap[m]? = some (.cells #[.pointer (some ⟨ab, 0, none⟩), .slice (some ⟨vb, 0, none⟩) 10 10, .string txt, flds, .slice none 0 0, lst, .int .i64 size, .int .i64 fuel, .int .i64 code] 200 (0, 0))
def zero8 : List Value := [.int .i64 0, .int .i64 0, .string ⟨#[]⟩, .int .i64 0, .int .i64 0, .string ⟨#[]⟩, .int .i64 0, .int .i64 0, .string ⟨#[]⟩, .int .i64 0, .int .i64 0, .string ⟨#[]⟩, .int .i64 0, .int .i64 0, .string ⟨#[]⟩, .int .i64 0, .int .i64 0, .string ⟨#[]⟩, .int .i64 0, .int .i64 0, .string ⟨#[]⟩, .int .i64 0, .int .i64 0, .string ⟨#[]⟩, .int .i64 0, .int .i64 0, .string ⟨#[]⟩, .int .i64 0, .int .i64 0, .string ⟨#[]⟩]
set_option maxRecDepth 100000 in
theorem mk738 (w : World) : (Instr.makeSlice 192 (.int .i64 10) (.int .i64 10)).run Tryz.prog w = .ok (.slice (some ⟨w.heap.size, 0, none⟩) 10 10) (w.alloc (.cells #[.int .i64 0, .int .i64 0, .string ⟨#[]⟩, .int .i64 0, .int .i64 0, .string ⟨#[]⟩, .int .i64 0, .int .i64 0, .string ⟨#[]⟩, .int .i64 0, .int .i64 0, .string ⟨#[]⟩, .int .i64 0, .int .i64 0, .string ⟨#[]⟩, .int .i64 0, .int .i64 0, .string ⟨#[]⟩, .int .i64 0, .int .i64 0, .string ⟨#[]⟩, .int .i64 0, .int .i64 0, .string ⟨#[]⟩, .int .i64 0, .int .i64 0, .string ⟨#[]⟩, .int .i64 0, .int .i64 0, .string ⟨#[]⟩] 203)) := by kernel_rfl
def first8 : List Value := [.int .i64 1, .int .i64 0, .string ⟨#[]⟩, .int .i64 1, .int .i64 0, .string ⟨#[]⟩, .int .i64 2, .int .i64 0, .string ⟨#[32]⟩, .int .i64 2, .int .i64 0, .string ⟨#[32]⟩, .int .i64 2, .int .i64 0, .string ⟨#[10]⟩, .int .i64 1, .int .i64 0, .string ⟨#[]⟩, .int .i64 1, .int .i64 (-1), .string ⟨#[]⟩, .int .i64 0, .int .i64 0, .string ⟨#[]⟩, .int .i64 0, .int .i64 0, .string ⟨#[]⟩, .int .i64 0, .int .i64 0, .string ⟨#[]⟩]
/-- One array just made. -/
def Ar (w : World) (ab aM akb : Nat) : Prop := w.heap[ab]? = some (.cells #[.map (some aM), .slice (some ⟨akb, 0, none⟩) 1 1] 259 (0, 0)) ∧ w.heap[akb]? = some (.cells #[.slice none 0 0] 23 (0, 0)) ∧ w.heap[aM]? = some (.map #[] 0)
theorem Ar.at {w : World} {ab aM akb : Nat} (h : Ar w ab aM akb) (C : Nat) : ArrAt w C ab aM akb (.slice none 0 0) [] := ⟨h.1, h.2.1, World.ownsRow_nil _ _ _ _, ⟨#[], 0, h.2.2, rfl⟩, ⟨by simp, fun p hp => by cases hp⟩, fun _ => rfl⟩
set_option maxRecDepth 20000 in
set_option maxHeartbeats 4000000 in
theorem newArrays1 (w : World) : Calls Tryz.prog 93 #[.int .i64 1] w fun en w' => en = .returned (.pointer (some ⟨w.heap.size + 1 + 1, 0, none⟩)) ∧ w' = ((w.alloc (.map #[] 0)).alloc (.cells #[.slice none 0 0] 23)).alloc (.cells #[.map (some w.heap.size), .slice (some ⟨w.heap.size + 1, 0, none⟩) 1 1] 259) := by
  have hmm := @run_makeMap Tryz.prog
  have mk : ∀ W, (Instr.makeSlice 257 (.int .i64 1) (.int .i64 1)).run Tryz.prog W = .ok (.slice (some ⟨W.heap.size, 0, none⟩) 1 1) (W.alloc (.cells #[.slice none 0 0] 23)) := fun W => by kernel_rfl
  go_enter Tryz.func93, Tryz.ntmps93
  go_wp2
  go_ret
  exact ⟨rfl, rfl⟩
/-- A machine just made. -/
def FreshM8 (w w' : World) (m : Nat) (fuel : Nat) (cs : List Value) : Prop := ∃ ab vb sb aM akb, (w.heap.size ≤ m ∧ w.heap.size ≤ vb ∧ w.heap.size ≤ sb) ∧ (w.heap.size ≤ ab ∧ w.heap.size ≤ aM ∧ w.heap.size ≤ akb) ∧ Ar w' ab aM akb ∧ MAt8 w' m ab vb ⟨#[]⟩ (.slice none 0 0) (.slice (some ⟨sb, 0, none⟩) 1 1) 0 fuel 0 ∧ VAt w' vb cs ∧ w'.heap[sb]? = some (.cells #[.string ⟨#[]⟩, .slice none 0 0] 142 (0, 0)) ∧ Only (fun _ => False) w w'
def FreshZ (w w' : World) (m : Nat) (fuel : Nat) (cs : List Value) : Prop := ∃ A vb sb, MAt8 w' m (A + 1 + 1) vb ⟨#[]⟩ (.slice none 0 0) (.slice (some ⟨sb, 0, none⟩) 1 1) 0 fuel 0 ∧ (w.heap.size ≤ m ∧ w.heap.size ≤ vb ∧ w.heap.size ≤ sb) ∧ w.heap.size ≤ A ∧ Ar w' (A + 1 + 1) A (A + 1) ∧ VAt w' vb cs ∧ w'.heap[sb]? = some (.cells #[.string ⟨#[]⟩, .slice none 0 0] 142 (0, 0)) ∧ Only (fun _ => False) w w'
/-- A machine under way: the places are known. -/
structure Mk8 (w wc : World) (m ab vb sb aM akb fuel : Nat) (cs : List Value) : Prop where
  k4 : w.heap.size ≤ ab ∧ w.heap.size ≤ aM ∧ w.heap.size ≤ akb
  hA : Ar wc ab aM akb
  k1 : w.heap.size ≤ m
  k2 : w.heap.size ≤ vb
  k3 : w.heap.size ≤ sb
  hM : MAt8 wc m ab vb ⟨#[]⟩ (.slice none 0 0) (.slice (some ⟨sb, 0, none⟩) 1 1) 0 fuel 0
  hV : VAt wc vb cs
  hS : wc.heap[sb]? = some (.cells #[.string ⟨#[]⟩, .slice none 0 0] 142 (0, 0))
  hO : Only (fun _ => False) w wc
theorem Mk8.ne {w wc m ab vb sb aM akb fuel cs} (h : Mk8 w wc m ab vb sb aM akb fuel cs) : m ≠ vb := fun e => by have h1 := h.hM; have h2 := h.hV; unfold MAt8 at h1; unfold VAt at h2; rw [e, h2] at h1; cases h1
theorem Mk8.ne2 {w wc m ab vb sb aM akb fuel cs} (h : Mk8 w wc m ab vb sb aM akb fuel cs) : sb ≠ vb := fun e => by have h1 := h.hS; have h2 := h.hV; unfold VAt at h2; rw [e, h2] at h1; cases h1
theorem Mk8.step {w wc m ab vb sb aM akb fuel cs} (h : Mk8 w wc m ab vb sb aM akb fuel cs) (o p q : Nat) (a b c : Value) (ob : Obj) : Mk8 w ((((wc.setCell ⟨vb, o, none⟩ a).setCell ⟨vb, p, none⟩ b).setCell ⟨vb, q, none⟩ c).alloc ob).drew m ab vb sb aM akb fuel (((cs.set o a).set p b).set q c) := by
  have hk := h.k2
  have hb : (((wc.setCell ⟨vb, o, none⟩ a).setCell ⟨vb, p, none⟩ b).setCell ⟨vb, q, none⟩ c).heap[vb]? = some (.cells (((cs.set o a).set p b).set q c).toArray 203 (0, 0)) := by
    have := heap_setCell_same (o := q) (heap_setCell_same (o := p) (heap_setCell_same (o := o) h.hV a) b) c
    simpa using this
  have hm : ∀ k, k ≠ vb → (((wc.setCell ⟨vb, o, none⟩ a).setCell ⟨vb, p, none⟩ b).setCell ⟨vb, q, none⟩ c).heap[k]? = wc.heap[k]? := fun k hk => (Below.heap_setCell _ _ _ _ hk).trans ((Below.heap_setCell _ _ _ _ hk).trans (Below.heap_setCell _ _ _ _ hk))
  have hl : ∀ k, k ≠ vb → ∀ x, wc.heap[k]? = some x → (((((wc.setCell ⟨vb, o, none⟩ a).setCell ⟨vb, p, none⟩ b).setCell ⟨vb, q, none⟩ c).alloc ob).drew).heap[k]? = some x := fun k hk x hx => heapD ((Below.heap_alloc _ _ _ (heap_lt ((hm k hk).trans hx))).trans ((hm k hk).trans hx))
  have hVb := h.hV
  unfold VAt at hVb
  have na : ab ≠ vb := fun e => by have h1 := h.hA.1; rw [e, hVb] at h1; cases h1
  have nk : akb ≠ vb := fun e => by have h1 := h.hA.2.1; rw [e, hVb] at h1; cases h1
  have nm : aM ≠ vb := fun e => by have h1 := h.hA.2.2; rw [e, hVb] at h1; cases h1
  exact ⟨h.k4, ⟨hl ab na _ h.hA.1, hl akb nk _ h.hA.2.1, hl aM nm _ h.hA.2.2⟩, h.k1, h.k2, h.k3, hl m h.ne _ h.hM, heapD ((Below.heap_alloc _ _ _ (heap_lt hb)).trans hb), hl sb h.ne2 _ h.hS, toDrew ((((h.hO.setCell (p := ⟨vb, o, none⟩) (fun e => absurd e (by show ¬ vb < w.heap.size; omega)) _).setCell (p := ⟨vb, p, none⟩) (fun e => absurd e (by show ¬ vb < w.heap.size; omega)) _).setCell (p := ⟨vb, q, none⟩) (fun e => absurd e (by show ¬ vb < w.heap.size; omega)) _).alloc _)⟩
set_option maxRecDepth 20000 in
set_option maxHeartbeats 8000000 in
theorem newMachine8 (fuel : Nat) (w : World) : Calls Tryz.prog 60 #[.int .i64 10, .int .i64 1, .int .i64 fuel] w fun en w' => ∃ m, en = .returned (.pointer (some ⟨m, 0, none⟩)) ∧ FreshM8 w w' m fuel first8 := by
  have HA := hide newArrays1
  have HS := hide newStreams
  have hm7 := mk738
  go_enter Tryz.func60, Tryz.ntmps60
  go_upto_region 1 with fail
  go_cut [7] (fun s7 wc => ∃ m, s7 = .pointer (some ⟨m, 0, none⟩) ∧ FreshZ w wc m fuel zero8)
  case first =>
    go_region_with (first | (go_at_call 93; refine (HA.out _).mono ?_; rintro en w2 ⟨rfl, hw2⟩; subst hw2) | (go_at_call 94; refine (HS.out _).mono ?_; rintro en w2 ⟨rfl, hw2⟩; subst hw2))
    all_goals
      go_wp2_with fail
      go_meet
      refine ⟨_, rfl, _, _, _, heapD (new_at2 (by simp) _), ⟨?_, ?_, ?_⟩, ?_, ⟨heapD ?_, heapD ?_, heapD ?_⟩, ?_, ?_, toDrew (((((((onlyA w _).alloc _).alloc _).alloc _).alloc _).alloc _).alloc _)⟩
      · omega
      · omega
      · omega
      · omega
      · (repeat (first | ((with_reducible refine new_at2 ?_ _); focus (simp; done)) | ((with_reducible refine (Below.heap_alloc _ _ _ ?_).trans ?_); (focus (first | (simp; done) | (simp; omega))))))
      · (repeat (first | ((with_reducible refine new_at2 ?_ _); focus (simp; done)) | ((with_reducible refine (Below.heap_alloc _ _ _ ?_).trans ?_); (focus (first | (simp; done) | (simp; omega))))))
      · (repeat (first | ((with_reducible refine new_at2 ?_ _); focus (simp; done)) | ((with_reducible refine (Below.heap_alloc _ _ _ ?_).trans ?_); (focus (first | (simp; done) | (simp; omega))))))
      · refine heapD ?_
        (repeat ((with_reducible refine (Below.heap_alloc _ _ _ ?_).trans ?_); (focus (first | (simp; done) | (simp; omega)))))
        exact new_at2 (by simp) _
      · refine heapD ?_
        (repeat (first | ((with_reducible refine new_at2 ?_ _); focus (simp; done)) | ((with_reducible refine (Below.heap_alloc _ _ _ ?_).trans ?_); (focus (first | (simp; done) | (simp; omega))))))
  case rest =>
    obtain ⟨m, rfl, A, vb, sb, hM, ⟨k1, k2, k3⟩, kA, hA, hV, hS, hO⟩ := hcut
    have k4 : w.heap.size ≤ A + 1 + 1 ∧ w.heap.size ≤ A ∧ w.heap.size ≤ A + 1 := ⟨by omega, kA, by omega⟩
    clear kA
    generalize A + 1 + 1 = ab at *
    generalize A + 1 = akb at *
    generalize A = aM at *
    have HK := hide (Mk8.mk k4 hA k1 k2 k3 hM hV hS hO)
    have HN := hide ofNumber
    have HT := hide ofText
    clear k1 k2 k3 k4 hA hM hV hS hO HA HS hm7
    have hml := heap_lt HK.out.hM
    have hvl := heap_lt HK.out.hV
    have hne := HK.out.ne
    have c1 : wc.cell? ⟨m, 1, none⟩ = some (.slice (some ⟨vb, 0, none⟩) 10 10) := cell_of HK.out.hM rfl
    have v0 : wc.cell? ⟨vb, 0, none⟩ = some (.int .i64 0) := cell_of HK.out.hV rfl
    have v1 : wc.cell? ⟨vb, 1, none⟩ = some (.int .i64 0) := cell_of HK.out.hV rfl
    have v2 : wc.cell? ⟨vb, 2, none⟩ = some (.string ⟨#[]⟩) := cell_of HK.out.hV rfl
    have vf := free_of HK.out.hV
    go_upto_region 2 with fail
    go_cut [] (fun wx => Mk8 w wx m ab vb sb aM akb fuel [.int .i64 1, .int .i64 0, .string ⟨#[]⟩, .int .i64 0, .int .i64 0, .string ⟨#[]⟩, .int .i64 0, .int .i64 0, .string ⟨#[]⟩, .int .i64 0, .int .i64 0, .string ⟨#[]⟩, .int .i64 0, .int .i64 0, .string ⟨#[]⟩, .int .i64 0, .int .i64 0, .string ⟨#[]⟩, .int .i64 0, .int .i64 0, .string ⟨#[]⟩, .int .i64 0, .int .i64 0, .string ⟨#[]⟩, .int .i64 0, .int .i64 0, .string ⟨#[]⟩, .int .i64 0, .int .i64 0, .string ⟨#[]⟩])
    case first =>
      go_region_with (go_at_call 95; refine (HN.out _ _).mono ?_; rintro en w2 ⟨rfl, hw2⟩; subst hw2)
      all_goals
        go_wp2_with fail
        go_meet
        exact HK.out.step 0 1 2 _ _ _ _
    case rest =>
      clear hml hvl hne c1 v0 v1 v2 vf HK
      have HK := hide hcut
      clear hcut
      have hml := heap_lt HK.out.hM
      have hvl := heap_lt HK.out.hV
      have hne := HK.out.ne
      have c1 : wc.cell? ⟨m, 1, none⟩ = some (.slice (some ⟨vb, 0, none⟩) 10 10) := cell_of HK.out.hM rfl
      have v0 : wc.cell? ⟨vb, 3, none⟩ = some (.int .i64 0) := cell_of HK.out.hV rfl
      have v1 : wc.cell? ⟨vb, 4, none⟩ = some (.int .i64 0) := cell_of HK.out.hV rfl
      have v2 : wc.cell? ⟨vb, 5, none⟩ = some (.string ⟨#[]⟩) := cell_of HK.out.hV rfl
      have vf := free_of HK.out.hV
      go_upto_region 3 with fail
      go_cut [] (fun wx => Mk8 w wx m ab vb sb aM akb fuel [.int .i64 1, .int .i64 0, .string ⟨#[]⟩, .int .i64 1, .int .i64 0, .string ⟨#[]⟩, .int .i64 0, .int .i64 0, .string ⟨#[]⟩, .int .i64 0, .int .i64 0, .string ⟨#[]⟩, .int .i64 0, .int .i64 0, .string ⟨#[]⟩, .int .i64 0, .int .i64 0, .string ⟨#[]⟩, .int .i64 0, .int .i64 0, .string ⟨#[]⟩, .int .i64 0, .int .i64 0, .string ⟨#[]⟩, .int .i64 0, .int .i64 0, .string ⟨#[]⟩, .int .i64 0, .int .i64 0, .string ⟨#[]⟩])
      case first =>
        go_region_with (go_at_call 95; refine (HN.out _ _).mono ?_; rintro en w2 ⟨rfl, hw2⟩; subst hw2)
        all_goals
          go_wp2_with fail
          go_meet
          exact HK.out.step 3 4 5 _ _ _ _
      case rest =>
        clear hml hvl hne c1 v0 v1 v2 vf HK
        have HK := hide hcut
        clear hcut
        have hml := heap_lt HK.out.hM
        have hvl := heap_lt HK.out.hV
        have hne := HK.out.ne
        have c1 : wc.cell? ⟨m, 1, none⟩ = some (.slice (some ⟨vb, 0, none⟩) 10 10) := cell_of HK.out.hM rfl
        have v0 : wc.cell? ⟨vb, 6, none⟩ = some (.int .i64 0) := cell_of HK.out.hV rfl
        have v1 : wc.cell? ⟨vb, 7, none⟩ = some (.int .i64 0) := cell_of HK.out.hV rfl
        have v2 : wc.cell? ⟨vb, 8, none⟩ = some (.string ⟨#[]⟩) := cell_of HK.out.hV rfl
        have vf := free_of HK.out.hV
        go_upto_region 4 with fail
        go_cut [] (fun wx => Mk8 w wx m ab vb sb aM akb fuel [.int .i64 1, .int .i64 0, .string ⟨#[]⟩, .int .i64 1, .int .i64 0, .string ⟨#[]⟩, .int .i64 2, .int .i64 0, .string ⟨#[32]⟩, .int .i64 0, .int .i64 0, .string ⟨#[]⟩, .int .i64 0, .int .i64 0, .string ⟨#[]⟩, .int .i64 0, .int .i64 0, .string ⟨#[]⟩, .int .i64 0, .int .i64 0, .string ⟨#[]⟩, .int .i64 0, .int .i64 0, .string ⟨#[]⟩, .int .i64 0, .int .i64 0, .string ⟨#[]⟩, .int .i64 0, .int .i64 0, .string ⟨#[]⟩])
        case first =>
          go_region_with (go_at_call 96; refine (HT.out _ _).mono ?_; rintro en w2 ⟨rfl, hw2⟩; subst hw2)
          all_goals
            go_wp2_with fail
            go_meet
            exact HK.out.step 6 7 8 _ _ _ _
        case rest =>
          clear hml hvl hne c1 v0 v1 v2 vf HK
          have HK := hide hcut
          clear hcut
          have hml := heap_lt HK.out.hM
          have hvl := heap_lt HK.out.hV
          have hne := HK.out.ne
          have c1 : wc.cell? ⟨m, 1, none⟩ = some (.slice (some ⟨vb, 0, none⟩) 10 10) := cell_of HK.out.hM rfl
          have v0 : wc.cell? ⟨vb, 9, none⟩ = some (.int .i64 0) := cell_of HK.out.hV rfl
          have v1 : wc.cell? ⟨vb, 10, none⟩ = some (.int .i64 0) := cell_of HK.out.hV rfl
          have v2 : wc.cell? ⟨vb, 11, none⟩ = some (.string ⟨#[]⟩) := cell_of HK.out.hV rfl
          have vf := free_of HK.out.hV
          go_upto_region 5 with fail
          go_cut [] (fun wx => Mk8 w wx m ab vb sb aM akb fuel [.int .i64 1, .int .i64 0, .string ⟨#[]⟩, .int .i64 1, .int .i64 0, .string ⟨#[]⟩, .int .i64 2, .int .i64 0, .string ⟨#[32]⟩, .int .i64 2, .int .i64 0, .string ⟨#[32]⟩, .int .i64 0, .int .i64 0, .string ⟨#[]⟩, .int .i64 0, .int .i64 0, .string ⟨#[]⟩, .int .i64 0, .int .i64 0, .string ⟨#[]⟩, .int .i64 0, .int .i64 0, .string ⟨#[]⟩, .int .i64 0, .int .i64 0, .string ⟨#[]⟩, .int .i64 0, .int .i64 0, .string ⟨#[]⟩])
          case first =>
            go_region_with (go_at_call 96; refine (HT.out _ _).mono ?_; rintro en w2 ⟨rfl, hw2⟩; subst hw2)
            all_goals
              go_wp2_with fail
              go_meet
              exact HK.out.step 9 10 11 _ _ _ _
          case rest =>
            clear hml hvl hne c1 v0 v1 v2 vf HK
            have HK := hide hcut
            clear hcut
            have hml := heap_lt HK.out.hM
            have hvl := heap_lt HK.out.hV
            have hne := HK.out.ne
            have c1 : wc.cell? ⟨m, 1, none⟩ = some (.slice (some ⟨vb, 0, none⟩) 10 10) := cell_of HK.out.hM rfl
            have v0 : wc.cell? ⟨vb, 12, none⟩ = some (.int .i64 0) := cell_of HK.out.hV rfl
            have v1 : wc.cell? ⟨vb, 13, none⟩ = some (.int .i64 0) := cell_of HK.out.hV rfl
            have v2 : wc.cell? ⟨vb, 14, none⟩ = some (.string ⟨#[]⟩) := cell_of HK.out.hV rfl
            have vf := free_of HK.out.hV
            go_upto_region 6 with fail
            go_cut [] (fun wx => Mk8 w wx m ab vb sb aM akb fuel [.int .i64 1, .int .i64 0, .string ⟨#[]⟩, .int .i64 1, .int .i64 0, .string ⟨#[]⟩, .int .i64 2, .int .i64 0, .string ⟨#[32]⟩, .int .i64 2, .int .i64 0, .string ⟨#[32]⟩, .int .i64 2, .int .i64 0, .string ⟨#[10]⟩, .int .i64 0, .int .i64 0, .string ⟨#[]⟩, .int .i64 0, .int .i64 0, .string ⟨#[]⟩, .int .i64 0, .int .i64 0, .string ⟨#[]⟩, .int .i64 0, .int .i64 0, .string ⟨#[]⟩, .int .i64 0, .int .i64 0, .string ⟨#[]⟩])
            case first =>
              go_region_with (go_at_call 96; refine (HT.out _ _).mono ?_; rintro en w2 ⟨rfl, hw2⟩; subst hw2)
              all_goals
                go_wp2_with fail
                go_meet
                exact HK.out.step 12 13 14 _ _ _ _
            case rest =>
              clear hml hvl hne c1 v0 v1 v2 vf HK
              have HK := hide hcut
              clear hcut
              have hml := heap_lt HK.out.hM
              have hvl := heap_lt HK.out.hV
              have hne := HK.out.ne
              have c1 : wc.cell? ⟨m, 1, none⟩ = some (.slice (some ⟨vb, 0, none⟩) 10 10) := cell_of HK.out.hM rfl
              have v0 : wc.cell? ⟨vb, 15, none⟩ = some (.int .i64 0) := cell_of HK.out.hV rfl
              have v1 : wc.cell? ⟨vb, 16, none⟩ = some (.int .i64 0) := cell_of HK.out.hV rfl
              have v2 : wc.cell? ⟨vb, 17, none⟩ = some (.string ⟨#[]⟩) := cell_of HK.out.hV rfl
              have vf := free_of HK.out.hV
              go_upto_region 7 with fail
              go_cut [] (fun wx => Mk8 w wx m ab vb sb aM akb fuel [.int .i64 1, .int .i64 0, .string ⟨#[]⟩, .int .i64 1, .int .i64 0, .string ⟨#[]⟩, .int .i64 2, .int .i64 0, .string ⟨#[32]⟩, .int .i64 2, .int .i64 0, .string ⟨#[32]⟩, .int .i64 2, .int .i64 0, .string ⟨#[10]⟩, .int .i64 1, .int .i64 0, .string ⟨#[]⟩, .int .i64 0, .int .i64 0, .string ⟨#[]⟩, .int .i64 0, .int .i64 0, .string ⟨#[]⟩, .int .i64 0, .int .i64 0, .string ⟨#[]⟩, .int .i64 0, .int .i64 0, .string ⟨#[]⟩])
              case first =>
                go_region_with (go_at_call 95; refine (HN.out _ _).mono ?_; rintro en w2 ⟨rfl, hw2⟩; subst hw2)
                all_goals
                  go_wp2_with fail
                  go_meet
                  exact HK.out.step 15 16 17 _ _ _ _
              case rest =>
                clear hml hvl hne c1 v0 v1 v2 vf HK
                have HK := hide hcut
                clear hcut
                have hml := heap_lt HK.out.hM
                have hvl := heap_lt HK.out.hV
                have hne := HK.out.ne
                have c1 : wc.cell? ⟨m, 1, none⟩ = some (.slice (some ⟨vb, 0, none⟩) 10 10) := cell_of HK.out.hM rfl
                have v0 : wc.cell? ⟨vb, 18, none⟩ = some (.int .i64 0) := cell_of HK.out.hV rfl
                have v1 : wc.cell? ⟨vb, 19, none⟩ = some (.int .i64 0) := cell_of HK.out.hV rfl
                have v2 : wc.cell? ⟨vb, 20, none⟩ = some (.string ⟨#[]⟩) := cell_of HK.out.hV rfl
                have vf := free_of HK.out.hV
                go_upto_region 8 with fail
                go_cut [] (fun wx => Mk8 w wx m ab vb sb aM akb fuel [.int .i64 1, .int .i64 0, .string ⟨#[]⟩, .int .i64 1, .int .i64 0, .string ⟨#[]⟩, .int .i64 2, .int .i64 0, .string ⟨#[32]⟩, .int .i64 2, .int .i64 0, .string ⟨#[32]⟩, .int .i64 2, .int .i64 0, .string ⟨#[10]⟩, .int .i64 1, .int .i64 0, .string ⟨#[]⟩, .int .i64 1, .int .i64 (-1), .string ⟨#[]⟩, .int .i64 0, .int .i64 0, .string ⟨#[]⟩, .int .i64 0, .int .i64 0, .string ⟨#[]⟩, .int .i64 0, .int .i64 0, .string ⟨#[]⟩])
                case first =>
                  go_region_with (go_at_call 95; refine (HN.out _ _).mono ?_; rintro en w2 ⟨rfl, hw2⟩; subst hw2)
                  all_goals
                    go_wp2_with fail
                    go_meet
                    exact HK.out.step 18 19 20 _ _ _ _
                case rest =>
                  clear hml hvl hne c1 v0 v1 v2 vf HK
                  have HK := hide hcut
                  clear hcut
                  go_wp2
                  go_ret
                  exact ⟨m, rfl, ab, vb, sb, aM, akb, ⟨HK.out.k1, HK.out.k2, HK.out.k3⟩, HK.out.k4, HK.out.hA, HK.out.hM, HK.out.hV, HK.out.hS, HK.out.hO⟩
theorem MAt8.lt {w m ab vb txt flds lst size fuel code} (h : MAt8 w m ab vb txt flds lst size fuel code) : m < w.heap.size := heap_lt h
theorem MAt8.only {w w' m ab vb txt flds lst size fuel code D} (h : MAt8 w m ab vb txt flds lst size fuel code) (ho : Only D w w') (hd : ¬ D m) : MAt8 w' m ab vb txt flds lst size fuel code := (ho.block _ (heap_lt h) hd).trans h
theorem MAt8.setFuel {w m ab vb txt flds lst size fuel code} (h : MAt8 w m ab vb txt flds lst size fuel code) (n : Nat) : MAt8 (w.setCell ⟨m, 7, none⟩ (.int .i64 n)) m ab vb txt flds lst size n code := heap_setCell_same h _
set_option maxRecDepth 20000 in
set_option maxHeartbeats 1000000 in
theorem step_ok8 (m ab vb : Nat) (txt : ByteArray) (flds lst : Value) (size n code : Nat) (hn : n ≤ 100000) (w : World) (h : MAt8 w m ab vb txt flds lst size (n + 1) code) :
    Calls Tryz.prog 98 #[.pointer (some ⟨m, 0, none⟩)] w fun en w' => en = .returned (.tuple #[]) ∧ w' = w.setCell ⟨m, 7, none⟩ (.int .i64 n) := by
  have c7 : w.cell? ⟨m, 7, none⟩ = some (.int .i64 ((n : Int) + 1)) := cell_of h rfl
  have cf := free_of h
  have d0 : (((n : Int) + 1) == 0) = false := by simp; omega
  clear h
  go_enter Tryz.func98, Tryz.ntmps98
  go_wp2
  go_end0
  exact ⟨rfl, rfl⟩
set_option maxRecDepth 20000 in
set_option maxHeartbeats 1000000 in
theorem record_text8 (m ab vb : Nat) (txt : ByteArray) (flds lst : Value) (size n code : Nat) (w : World) (h : MAt8 w m ab vb txt flds lst size n code) :
    Calls Tryz.prog 282 #[.pointer (some ⟨m, 0, none⟩)] w fun en w' => en = .returned (.string txt) ∧ w' = w := by
  have c2 : w.cell? ⟨m, 2, none⟩ = some (.string txt) := cell_of h rfl
  clear h
  go_enter Tryz.func282, Tryz.ntmps282
  go_wp2
  go_ret
  exact ⟨rfl, rfl⟩
set_option maxRecDepth 20000 in
set_option maxHeartbeats 1000000 in
theorem mtext8 (m ab vb : Nat) (txt : ByteArray) (flds lst : Value) (size n code : Nat) (j : Nat) (k q : Int) (s : ByteArray) (hk : (k == 1) = false) (hj : j < 10) (w : World) (h : MAt8 w m ab vb txt flds lst size n code) (h0 : w.cell? ⟨vb, j * 3, none⟩ = some (.int .i64 k)) (h1 : w.cell? ⟨vb, j * 3 + 1, none⟩ = some (.int .i64 q)) (h2 : w.cell? ⟨vb, j * 3 + 2, none⟩ = some (.string s)) :
    Calls Tryz.prog 168 #[.pointer (some ⟨m, 0, none⟩), .int .i64 j] w fun en w' => en = .returned (.string s) ∧ Only (fun _ => False) w w' := by
  have c1 : w.cell? ⟨m, 1, none⟩ = some (.slice (some ⟨vb, 0, none⟩) 10 10) := cell_of h rfl
  have HT := hide (text_any k q s w hk)
  have hli : 0 ≤ (j : Int) ∧ (j : Int) < 10 := by omega
  clear h
  go_enter Tryz.func168, Tryz.ntmps168
  go_wp2_with (go_at_call 235; refine (HT.out).mono ?_; rintro en w2 ⟨rfl, hb⟩; have HB := hide hb; clear hb)
  go_ret
  exact ⟨rfl, Only.ofBelow HB.out (fun _ => False)⟩
theorem MAt8.setSize {w m ab vb txt flds lst size fuel code} (h : MAt8 w m ab vb txt flds lst size fuel code) (n : Nat) : MAt8 (w.setCell ⟨m, 6, none⟩ (.int .i64 n)) m ab vb txt flds lst n fuel code := heap_setCell_same h _
set_option maxRecDepth 20000 in
set_option maxHeartbeats 2000000 in
theorem stmt_do8 (m ab vb sc F : Nat) (hcf : ∀ (args : Array Value) (w : World), (callFunc F args).run Tryz.prog w = .ok (.enter F args) w) (caps : List Value) (txt : ByteArray) (flds lst : Value) (size n code : Nat) (hn : n ≤ 100000) (Q : World → Prop) (w : World) (h : MAt8 w m ab vb txt flds lst size (n + 1) code) (hsc : sc ≠ m) (hs : w.cell? ⟨sc, 0, none⟩ = some (.func (.func F) #[] caps.toArray))
    (H : Calls Tryz.prog F (.pointer (some ⟨m, 0, none⟩) :: caps).toArray (w.setCell ⟨m, 7, none⟩ (.int .i64 n)) fun en w' => en = .returned (.int .i64 0) ∧ Q w') :
    Calls Tryz.prog 162 #[.pointer (some ⟨m, 0, none⟩), .pointer (some ⟨sc, 0, none⟩)] w fun en w' => en = .returned (.int .i64 0) ∧ Q w' := by
  have HS := hide (step_ok8 m ab vb txt flds lst size n code hn w h)
  have H1 := hide H
  have hs2 : (w.setCell ⟨m, 7, none⟩ (.int .i64 n)).cell? ⟨sc, 0, none⟩ = some (.func (.func F) #[] caps.toArray) := (World.cell?_of_block (Below.heap_setCell _ _ _ _ hsc)).trans hs
  clear h H
  go_enter Tryz.func162, Tryz.ntmps162
  go_wp2_with (go_at_call 98; refine (HS.out).mono ?_; rintro en w2 ⟨rfl, hw2⟩; subst hw2)
  refine (H1.out).mono ?_
  rintro en w3 ⟨rfl, h3⟩
  have H3 := hide h3
  clear h3 H1
  go_wp2
  go_ret
  exact ⟨rfl, H3.out⟩
end Go.Proofs.YtdbdbaepmdmnfaaGreatDoor

