import Derived.Test.YtdbdbaepmdmnfaaGreatDoorQ15
namespace Go.Proofs.YtdbdbaepmdmnfaaGreatDoor
open Go.RowKit
/-- A machine: its block, and what lies in it. -/
def MAt (w : World) (m ab vb : Nat) (txt : ByteArray) (flds lst : Value) (size fuel code : Nat) : Prop :=
  w.heap[m]? = some (.cells #[.pointer (some ⟨ab, 0, none⟩), .slice (some ⟨vb, 0, none⟩) 7 7, .string txt, flds, .slice none 0 0, lst, .int .i64 size, .int .i64 fuel, .int .i64 code] 200 (0, 0))
/-- The seven variables: kind, number, text each. -/
def VAt (w : World) (vb : Nat) (cs : List Value) : Prop := w.heap[vb]? = some (.cells cs.toArray 203 (0, 0))
def zero7 : List Value := [.int .i64 0, .int .i64 0, .string ⟨#[]⟩, .int .i64 0, .int .i64 0, .string ⟨#[]⟩, .int .i64 0, .int .i64 0, .string ⟨#[]⟩, .int .i64 0, .int .i64 0, .string ⟨#[]⟩, .int .i64 0, .int .i64 0, .string ⟨#[]⟩, .int .i64 0, .int .i64 0, .string ⟨#[]⟩, .int .i64 0, .int .i64 0, .string ⟨#[]⟩]
/-- A machine just made. -/
def FreshM (w w' : World) (m : Nat) (fuel : Nat) (cs : List Value) : Prop := ∃ ab vb sb, w.heap.size ≤ m ∧ w.heap.size ≤ vb ∧ w.heap.size ≤ sb ∧ MAt w' m ab vb ⟨#[]⟩ (.slice none 0 0) (.slice (some ⟨sb, 0, none⟩) 1 1) 0 fuel 0 ∧ VAt w' vb cs ∧ w'.heap[sb]? = some (.cells #[.string ⟨#[]⟩, .slice none 0 0] 142 (0, 0)) ∧ Only (fun _ => False) w w'
theorem heapD {w : World} {k : Nat} {o : Option Obj} (h : w.heap[k]? = o) : w.drew.heap[k]? = o := h
/-- A machine under way: the places are known. -/
structure Mk (w wc : World) (m ab vb sb fuel : Nat) (cs : List Value) : Prop where
  k1 : w.heap.size ≤ m
  k2 : w.heap.size ≤ vb
  k3 : w.heap.size ≤ sb
  hM : MAt wc m ab vb ⟨#[]⟩ (.slice none 0 0) (.slice (some ⟨sb, 0, none⟩) 1 1) 0 fuel 0
  hV : VAt wc vb cs
  hS : wc.heap[sb]? = some (.cells #[.string ⟨#[]⟩, .slice none 0 0] 142 (0, 0))
  hO : Only (fun _ => False) w wc
theorem Mk.ne {w wc m ab vb sb fuel cs} (h : Mk w wc m ab vb sb fuel cs) : m ≠ vb := fun e => by have h1 := h.hM; have h2 := h.hV; unfold MAt at h1; unfold VAt at h2; rw [e, h2] at h1; cases h1
theorem Mk.ne2 {w wc m ab vb sb fuel cs} (h : Mk w wc m ab vb sb fuel cs) : sb ≠ vb := fun e => by have h1 := h.hS; have h2 := h.hV; unfold VAt at h2; rw [e, h2] at h1; cases h1
theorem Mk.step {w wc m ab vb sb fuel cs} (h : Mk w wc m ab vb sb fuel cs) (o p q : Nat) (a b c : Value) (ob : Obj) : Mk w ((((wc.setCell ⟨vb, o, none⟩ a).setCell ⟨vb, p, none⟩ b).setCell ⟨vb, q, none⟩ c).alloc ob).drew m ab vb sb fuel (((cs.set o a).set p b).set q c) := by
  have hk := h.k2
  have hb : (((wc.setCell ⟨vb, o, none⟩ a).setCell ⟨vb, p, none⟩ b).setCell ⟨vb, q, none⟩ c).heap[vb]? = some (.cells (((cs.set o a).set p b).set q c).toArray 203 (0, 0)) := by
    have := heap_setCell_same (o := q) (heap_setCell_same (o := p) (heap_setCell_same (o := o) h.hV a) b) c
    simpa using this
  have hm : ∀ k, k ≠ vb → (((wc.setCell ⟨vb, o, none⟩ a).setCell ⟨vb, p, none⟩ b).setCell ⟨vb, q, none⟩ c).heap[k]? = wc.heap[k]? := fun k hk => (Below.heap_setCell _ _ _ _ hk).trans ((Below.heap_setCell _ _ _ _ hk).trans (Below.heap_setCell _ _ _ _ hk))
  have hl : ∀ k, k ≠ vb → ∀ x, wc.heap[k]? = some x → (((((wc.setCell ⟨vb, o, none⟩ a).setCell ⟨vb, p, none⟩ b).setCell ⟨vb, q, none⟩ c).alloc ob).drew).heap[k]? = some x := fun k hk x hx => heapD ((Below.heap_alloc _ _ _ (heap_lt ((hm k hk).trans hx))).trans ((hm k hk).trans hx))
  exact ⟨h.k1, h.k2, h.k3, hl m h.ne _ h.hM, heapD ((Below.heap_alloc _ _ _ (heap_lt hb)).trans hb), hl sb h.ne2 _ h.hS, toDrew ((((h.hO.setCell (p := ⟨vb, o, none⟩) (fun e => absurd e (by show ¬ vb < w.heap.size; omega)) _).setCell (p := ⟨vb, p, none⟩) (fun e => absurd e (by show ¬ vb < w.heap.size; omega)) _).setCell (p := ⟨vb, q, none⟩) (fun e => absurd e (by show ¬ vb < w.heap.size; omega)) _).alloc _)⟩
def first7 : List Value := [.int .i64 1, .int .i64 0, .string ⟨#[]⟩, .int .i64 1, .int .i64 0, .string ⟨#[]⟩, .int .i64 2, .int .i64 0, .string ⟨#[32]⟩, .int .i64 2, .int .i64 0, .string ⟨#[32]⟩, .int .i64 2, .int .i64 0, .string ⟨#[10]⟩, .int .i64 1, .int .i64 0, .string ⟨#[]⟩, .int .i64 1, .int .i64 (-1), .string ⟨#[]⟩]
set_option maxRecDepth 20000 in
set_option maxHeartbeats 8000000 in
theorem newMachine (fuel : Nat) (w : World) : Calls Tryz.prog 60 #[.int .i64 7, .int .i64 0, .int .i64 fuel] w fun en w' => ∃ m, en = .returned (.pointer (some ⟨m, 0, none⟩)) ∧ FreshM w w' m fuel first7 := by
  have HA := hide newArrays
  have HS := hide newStreams
  have hm7 := mk73
  go_enter Tryz.func60, Tryz.ntmps60
  go_upto_region 1 with fail
  go_cut [7] (fun s7 wc => ∃ m, s7 = .pointer (some ⟨m, 0, none⟩) ∧ FreshM w wc m fuel zero7)
  case first =>
    go_region_with (first | (go_at_call 93; refine (HA.out _).mono ?_; rintro en w2 ⟨rfl, hw2⟩; subst hw2) | (go_at_call 94; refine (HS.out _).mono ?_; rintro en w2 ⟨rfl, hw2⟩; subst hw2))
    all_goals
      go_wp2_with fail
      go_meet
      refine ⟨_, rfl, _, _, _, ?_, ?_, ?_, heapD (new_at2 (by simp) _), ?_, ?_, toDrew (((((((onlyA w _).alloc _).alloc _).alloc _).alloc _).alloc _).alloc _)⟩
      · omega
      · omega
      · omega
      · refine heapD ((Below.heap_alloc _ _ _ (by simp <;> omega)).trans ?_)
        first
          | exact new_at2 (by simp) _
          | exact (Below.heap_alloc _ _ _ (by simp <;> omega)).trans ((Below.heap_alloc _ _ _ (by simp <;> omega)).trans (new_at2 (by simp) _))
          | exact (Below.heap_alloc _ _ _ (by simp <;> omega)).trans ((Below.heap_alloc _ _ _ (by simp <;> omega)).trans ((Below.heap_alloc _ _ _ (by simp <;> omega)).trans ((Below.heap_alloc _ _ _ (by simp <;> omega)).trans ((Below.heap_alloc _ _ _ (by simp <;> omega)).trans (new_at2 (by simp) _)))))
      · refine heapD ((Below.heap_alloc _ _ _ (by simp <;> omega)).trans ?_)
        first
          | exact new_at2 (by simp) _
          | exact (Below.heap_alloc _ _ _ (by simp <;> omega)).trans (new_at2 (by simp) _)
  case rest =>
    obtain ⟨m, rfl, ab, vb, sb, k1, k2, k3, hM, hV, hS, hO⟩ := hcut
    have HK := hide (Mk.mk k1 k2 k3 hM hV hS hO)
    have HN := hide ofNumber
    have HT := hide ofText
    clear k1 k2 k3 hM hV hS hO HA HS hm7
    have hml := heap_lt HK.out.hM
    have hvl := heap_lt HK.out.hV
    have hne := HK.out.ne
    have c1 : wc.cell? ⟨m, 1, none⟩ = some (.slice (some ⟨vb, 0, none⟩) 7 7) := cell_of HK.out.hM rfl
    have v0 : wc.cell? ⟨vb, 0, none⟩ = some (.int .i64 0) := cell_of HK.out.hV rfl
    have v1 : wc.cell? ⟨vb, 1, none⟩ = some (.int .i64 0) := cell_of HK.out.hV rfl
    have v2 : wc.cell? ⟨vb, 2, none⟩ = some (.string ⟨#[]⟩) := cell_of HK.out.hV rfl
    have vf := free_of HK.out.hV
    go_upto_region 2 with fail
    go_cut [] (fun wx => Mk w wx m ab vb sb fuel [.int .i64 1, .int .i64 0, .string ⟨#[]⟩, .int .i64 0, .int .i64 0, .string ⟨#[]⟩, .int .i64 0, .int .i64 0, .string ⟨#[]⟩, .int .i64 0, .int .i64 0, .string ⟨#[]⟩, .int .i64 0, .int .i64 0, .string ⟨#[]⟩, .int .i64 0, .int .i64 0, .string ⟨#[]⟩, .int .i64 0, .int .i64 0, .string ⟨#[]⟩])
    case first =>
      go_region_with (go_at_call 95; refine (HN.out _ _).mono ?_; rintro en w2 ⟨rfl, hw2⟩; subst hw2)
      all_goals
        go_wp2_with fail
        go_meet
        exact HK.out.step 0 1 2 _ _ _ _
    case rest =>
      clear hml hvl hne c1 v0 v1 v2 vf HK
      have HK := hide hcut
      clear hcut
      have hml := heap_lt HK.out.hM
      have hvl := heap_lt HK.out.hV
      have hne := HK.out.ne
      have c1 : wc.cell? ⟨m, 1, none⟩ = some (.slice (some ⟨vb, 0, none⟩) 7 7) := cell_of HK.out.hM rfl
      have v0 : wc.cell? ⟨vb, 3, none⟩ = some (.int .i64 0) := cell_of HK.out.hV rfl
      have v1 : wc.cell? ⟨vb, 4, none⟩ = some (.int .i64 0) := cell_of HK.out.hV rfl
      have v2 : wc.cell? ⟨vb, 5, none⟩ = some (.string ⟨#[]⟩) := cell_of HK.out.hV rfl
      have vf := free_of HK.out.hV
      go_upto_region 3 with fail
      go_cut [] (fun wx => Mk w wx m ab vb sb fuel [.int .i64 1, .int .i64 0, .string ⟨#[]⟩, .int .i64 1, .int .i64 0, .string ⟨#[]⟩, .int .i64 0, .int .i64 0, .string ⟨#[]⟩, .int .i64 0, .int .i64 0, .string ⟨#[]⟩, .int .i64 0, .int .i64 0, .string ⟨#[]⟩, .int .i64 0, .int .i64 0, .string ⟨#[]⟩, .int .i64 0, .int .i64 0, .string ⟨#[]⟩])
      case first =>
        go_region_with (go_at_call 95; refine (HN.out _ _).mono ?_; rintro en w2 ⟨rfl, hw2⟩; subst hw2)
        all_goals
          go_wp2_with fail
          go_meet
          exact HK.out.step 3 4 5 _ _ _ _
      case rest =>
        clear hml hvl hne c1 v0 v1 v2 vf HK
        have HK := hide hcut
        clear hcut
        have hml := heap_lt HK.out.hM
        have hvl := heap_lt HK.out.hV
        have hne := HK.out.ne
        have c1 : wc.cell? ⟨m, 1, none⟩ = some (.slice (some ⟨vb, 0, none⟩) 7 7) := cell_of HK.out.hM rfl
        have v0 : wc.cell? ⟨vb, 6, none⟩ = some (.int .i64 0) := cell_of HK.out.hV rfl
        have v1 : wc.cell? ⟨vb, 7, none⟩ = some (.int .i64 0) := cell_of HK.out.hV rfl
        have v2 : wc.cell? ⟨vb, 8, none⟩ = some (.string ⟨#[]⟩) := cell_of HK.out.hV rfl
        have vf := free_of HK.out.hV
        go_upto_region 4 with fail
        go_cut [] (fun wx => Mk w wx m ab vb sb fuel [.int .i64 1, .int .i64 0, .string ⟨#[]⟩, .int .i64 1, .int .i64 0, .string ⟨#[]⟩, .int .i64 2, .int .i64 0, .string ⟨#[32]⟩, .int .i64 0, .int .i64 0, .string ⟨#[]⟩, .int .i64 0, .int .i64 0, .string ⟨#[]⟩, .int .i64 0, .int .i64 0, .string ⟨#[]⟩, .int .i64 0, .int .i64 0, .string ⟨#[]⟩])
        case first =>
          go_region_with (go_at_call 96; refine (HT.out _ _).mono ?_; rintro en w2 ⟨rfl, hw2⟩; subst hw2)
          all_goals
            go_wp2_with fail
            go_meet
            exact HK.out.step 6 7 8 _ _ _ _
        case rest =>
          clear hml hvl hne c1 v0 v1 v2 vf HK
          have HK := hide hcut
          clear hcut
          have hml := heap_lt HK.out.hM
          have hvl := heap_lt HK.out.hV
          have hne := HK.out.ne
          have c1 : wc.cell? ⟨m, 1, none⟩ = some (.slice (some ⟨vb, 0, none⟩) 7 7) := cell_of HK.out.hM rfl
          have v0 : wc.cell? ⟨vb, 9, none⟩ = some (.int .i64 0) := cell_of HK.out.hV rfl
          have v1 : wc.cell? ⟨vb, 10, none⟩ = some (.int .i64 0) := cell_of HK.out.hV rfl
          have v2 : wc.cell? ⟨vb, 11, none⟩ = some (.string ⟨#[]⟩) := cell_of HK.out.hV rfl
          have vf := free_of HK.out.hV
          go_upto_region 5 with fail
          go_cut [] (fun wx => Mk w wx m ab vb sb fuel [.int .i64 1, .int .i64 0, .string ⟨#[]⟩, .int .i64 1, .int .i64 0, .string ⟨#[]⟩, .int .i64 2, .int .i64 0, .string ⟨#[32]⟩, .int .i64 2, .int .i64 0, .string ⟨#[32]⟩, .int .i64 0, .int .i64 0, .string ⟨#[]⟩, .int .i64 0, .int .i64 0, .string ⟨#[]⟩, .int .i64 0, .int .i64 0, .string ⟨#[]⟩])
          case first =>
            go_region_with (go_at_call 96; refine (HT.out _ _).mono ?_; rintro en w2 ⟨rfl, hw2⟩; subst hw2)
            all_goals
              go_wp2_with fail
              go_meet
              exact HK.out.step 9 10 11 _ _ _ _
          case rest =>
            clear hml hvl hne c1 v0 v1 v2 vf HK
            have HK := hide hcut
            clear hcut
            have hml := heap_lt HK.out.hM
            have hvl := heap_lt HK.out.hV
            have hne := HK.out.ne
            have c1 : wc.cell? ⟨m, 1, none⟩ = some (.slice (some ⟨vb, 0, none⟩) 7 7) := cell_of HK.out.hM rfl
            have v0 : wc.cell? ⟨vb, 12, none⟩ = some (.int .i64 0) := cell_of HK.out.hV rfl
            have v1 : wc.cell? ⟨vb, 13, none⟩ = some (.int .i64 0) := cell_of HK.out.hV rfl
            have v2 : wc.cell? ⟨vb, 14, none⟩ = some (.string ⟨#[]⟩) := cell_of HK.out.hV rfl
            have vf := free_of HK.out.hV
            go_upto_region 6 with fail
            go_cut [] (fun wx => Mk w wx m ab vb sb fuel [.int .i64 1, .int .i64 0, .string ⟨#[]⟩, .int .i64 1, .int .i64 0, .string ⟨#[]⟩, .int .i64 2, .int .i64 0, .string ⟨#[32]⟩, .int .i64 2, .int .i64 0, .string ⟨#[32]⟩, .int .i64 2, .int .i64 0, .string ⟨#[10]⟩, .int .i64 0, .int .i64 0, .string ⟨#[]⟩, .int .i64 0, .int .i64 0, .string ⟨#[]⟩])
            case first =>
              go_region_with (go_at_call 96; refine (HT.out _ _).mono ?_; rintro en w2 ⟨rfl, hw2⟩; subst hw2)
              all_goals
                go_wp2_with fail
                go_meet
                exact HK.out.step 12 13 14 _ _ _ _
            case rest =>
              clear hml hvl hne c1 v0 v1 v2 vf HK
              have HK := hide hcut
              clear hcut
              have hml := heap_lt HK.out.hM
              have hvl := heap_lt HK.out.hV
              have hne := HK.out.ne
              have c1 : wc.cell? ⟨m, 1, none⟩ = some (.slice (some ⟨vb, 0, none⟩) 7 7) := cell_of HK.out.hM rfl
              have v0 : wc.cell? ⟨vb, 15, none⟩ = some (.int .i64 0) := cell_of HK.out.hV rfl
              have v1 : wc.cell? ⟨vb, 16, none⟩ = some (.int .i64 0) := cell_of HK.out.hV rfl
              have v2 : wc.cell? ⟨vb, 17, none⟩ = some (.string ⟨#[]⟩) := cell_of HK.out.hV rfl
              have vf := free_of HK.out.hV
              go_upto_region 7 with fail
              go_cut [] (fun wx => Mk w wx m ab vb sb fuel [.int .i64 1, .int .i64 0, .string ⟨#[]⟩, .int .i64 1, .int .i64 0, .string ⟨#[]⟩, .int .i64 2, .int .i64 0, .string ⟨#[32]⟩, .int .i64 2, .int .i64 0, .string ⟨#[32]⟩, .int .i64 2, .int .i64 0, .string ⟨#[10]⟩, .int .i64 1, .int .i64 0, .string ⟨#[]⟩, .int .i64 0, .int .i64 0, .string ⟨#[]⟩])
              case first =>
                go_region_with (go_at_call 95; refine (HN.out _ _).mono ?_; rintro en w2 ⟨rfl, hw2⟩; subst hw2)
                all_goals
                  go_wp2_with fail
                  go_meet
                  exact HK.out.step 15 16 17 _ _ _ _
              case rest =>
                clear hml hvl hne c1 v0 v1 v2 vf HK
                have HK := hide hcut
                clear hcut
                have hml := heap_lt HK.out.hM
                have hvl := heap_lt HK.out.hV
                have hne := HK.out.ne
                have c1 : wc.cell? ⟨m, 1, none⟩ = some (.slice (some ⟨vb, 0, none⟩) 7 7) := cell_of HK.out.hM rfl
                have v0 : wc.cell? ⟨vb, 18, none⟩ = some (.int .i64 0) := cell_of HK.out.hV rfl
                have v1 : wc.cell? ⟨vb, 19, none⟩ = some (.int .i64 0) := cell_of HK.out.hV rfl
                have v2 : wc.cell? ⟨vb, 20, none⟩ = some (.string ⟨#[]⟩) := cell_of HK.out.hV rfl
                have vf := free_of HK.out.hV
                go_upto_region 8 with fail
                go_cut [] (fun wx => Mk w wx m ab vb sb fuel [.int .i64 1, .int .i64 0, .string ⟨#[]⟩, .int .i64 1, .int .i64 0, .string ⟨#[]⟩, .int .i64 2, .int .i64 0, .string ⟨#[32]⟩, .int .i64 2, .int .i64 0, .string ⟨#[32]⟩, .int .i64 2, .int .i64 0, .string ⟨#[10]⟩, .int .i64 1, .int .i64 0, .string ⟨#[]⟩, .int .i64 1, .int .i64 (-1), .string ⟨#[]⟩])
                case first =>
                  go_region_with (go_at_call 95; refine (HN.out _ _).mono ?_; rintro en w2 ⟨rfl, hw2⟩; subst hw2)
                  all_goals
                    go_wp2_with fail
                    go_meet
                    exact HK.out.step 18 19 20 _ _ _ _
                case rest =>
                  clear hml hvl hne c1 v0 v1 v2 vf HK
                  have HK := hide hcut
                  clear hcut
                  go_wp2
                  go_ret
                  exact ⟨m, rfl, ab, vb, sb, HK.out.k1, HK.out.k2, HK.out.k3, HK.out.hM, HK.out.hV, HK.out.hS, HK.out.hO⟩
end Go.Proofs.YtdbdbaepmdmnfaaGreatDoor
