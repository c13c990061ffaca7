import Derived.Test.YthkknpjoifoanaaGreatDoorQ08
import Derived.Deep.LoopGhost
import Derived.Test.YthkknpjoifoanaaGreatDoorQ11
import Derived.Test.YthkknpjoifoanaaGreatDoorQ03
import Derived.Deep.RegionWith
import Derived.Deep.QuietTactic
import Derived.BigQuiet
import Derived.BigRegion
namespace Go.Proofs.YthkknpjoifoanaaGreatDoor
open Go.RowKit
/-- The first place of a row that is no less than 0; -1: there is none. -/
def firstAt : List Int → Nat → Int
  | [], _ => -1
  | z :: l, i => if 0 ≤ z then (i : Int) else firstAt l (i + 1)
theorem firstAt_skip (L : List Int) (i k : Nat) (hk : k ≤ L.length) (h : ∀ (j : Nat) (z : Int), j < k → L[j]? = some z → z < 0) : firstAt L i = firstAt (L.drop k) (i + k) := by
  induction L generalizing i k with
  | nil =>
    have h0 : k = 0 := by simpa using hk
    subst h0
    rfl
  | cons z l ih =>
    cases k with
    | zero => rfl
    | succ k =>
      have h0 : z < 0 := h 0 z (by omega) rfl
      have := ih (i + 1) k (by simpa using hk) (fun j y hj hy => h (j + 1) y (by omega) (by simpa using hy))
      simp only [firstAt, List.drop_succ_cons]
      rw [if_neg (by omega), this, Nat.add_right_comm, Nat.add_assoc]
theorem pred_any (z : Int) (w : World) : Calls Tryz.prog 30 #[.int .i64 z] w fun e w' => e = .returned (.bool (decide (0 ≤ z))) ∧ w' = w := by
  by_cases h : 0 ≤ z
  · go_enter Tryz.func30, Tryz.ntmps30
    go_wp2
    go_ret
    exact ⟨by simp [h], rfl⟩
  · go_enter Tryz.func30, Tryz.ntmps30
    go_wp2
    go_ret
    exact ⟨by simp [h], rfl⟩
set_option maxHeartbeats 2000000 in
theorem index_any (lb : Nat) (L : List Int) (hl : L.length ≤ 100000) (w : World) (hL : ∀ (j : Nat) (z : Int), L[j]? = some z → w.cell? ⟨lb, j, none⟩ = some (.int .i64 z)) :
    Calls Tryz.prog 29 #[.slice (some ⟨lb, 0, none⟩) L.length L.length, .func (.func 30) #[] #[]] w fun e w' => e = .returned (.int .i64 (firstAt L 0)) ∧ w' = w := by
  have HL := hide hL
  clear hL
  go_enter Tryz.func29, Tryz.ntmps29
  go_wp2_with fail
  go_loopg [8] L.length (fun g s8 wr => ∃ k : Nat, s8 = .int .i64 k ∧ k ≤ L.length ∧ g = L.length - k ∧ wr = w ∧ ∀ (j : Nat) (z : Int), j < k → L[j]? = some z → z < 0)
  case atStart => exact ⟨0, rfl, Nat.zero_le _, rfl, rfl, fun j z hj => absurd hj (Nat.not_lt_zero _)⟩
  case round =>
    obtain ⟨k, e8, hk, hg, hw, hneg⟩ := hrel
    subst e8
    subst hw
    have HN := hide hneg
    have Hg := hide hg
    clear hneg hg
    by_cases hke : k = L.length
    · have HF : Hid (firstAt L 0 = -1) := by
        show firstAt L 0 = -1
        rw [firstAt_skip L 0 k hk HN.out, hke, List.drop_length]; rfl
      subst hke
      go_wp2
      go_ret
      exact ⟨by rw [HF.out]; rfl, rfl⟩
    · obtain ⟨z, hz⟩ : ∃ z, L[k]? = some z := ⟨L[k], List.getElem?_eq_getElem (by omega)⟩
      have c := HL.out k z hz
      have HZ := hide hz
      have hlt : (k : Int) < (L.length : Int) := by omega
      clear hz
      by_cases h0 : 0 ≤ z
      · have HF : Hid (firstAt L 0 = (k : Int)) := by
          show firstAt L 0 = (k : Int)
          obtain ⟨hkl, e⟩ := List.getElem?_eq_some_iff.1 HZ.out
          rw [firstAt_skip L 0 k hk HN.out, List.drop_eq_getElem_cons hkl, e, firstAt, if_pos h0, Nat.zero_add]
        have hp := pred_any z wr
        rw [decide_eq_true h0] at hp
        go_wp2_with (go_at_call 30; refine hp.mono ?_; rintro e w' ⟨rfl, rfl⟩)
        go_ret
        exact ⟨by rw [HF.out]; rfl, rfl⟩
      · have hp := pred_any z wr
        rw [decide_eq_false h0] at hp
        go_wp2_with (go_at_call 30; refine hp.mono ?_; rintro e w' ⟨rfl, rfl⟩)
        go_roundg (L.length - (k + 1))
        case measure => have := Hg.out; omega
        case rel => exact ⟨k + 1, by go_num, by omega, rfl, rfl, fun j y hj hy => (by
          by_cases e : j = k
          · subst e; rw [HZ.out] at hy; cases hy; omega
          · exact HN.out j y (by omega) hy)⟩
end Go.Proofs.YthkknpjoifoanaaGreatDoor

namespace Go.Proofs.YthkknpjoifoanaaGreatDoor
open Go.RowKit
def bBeg (best : Option (Nat × Nat)) : Int := match best with | none => -1 | some x => x.1
def bLen (best : Option (Nat × Nat)) : Int := match best with | none => 0 | some x => x.2
theorem firstAt_spec (L : List Int) (i : Nat) : (firstAt L i = -1 ∧ ∀ (j : Nat) (z : Int), L[j]? = some z → z < 0) ∨ ∃ (k : Nat) (z : Int), firstAt L i = ((i + k : Nat) : Int) ∧ L[k]? = some z ∧ 0 ≤ z ∧ ∀ (j : Nat) (y : Int), j < k → L[j]? = some y → y < 0 := by
  induction L generalizing i with
  | nil => exact Or.inl ⟨rfl, fun j z h => by simp at h⟩
  | cons z l ih =>
    by_cases h0 : 0 ≤ z
    · refine Or.inr ⟨0, z, ?_, rfl, h0, fun j y hj => absurd hj (Nat.not_lt_zero _)⟩
      rw [firstAt, if_pos h0, Nat.add_zero]
    · rw [firstAt, if_neg h0]
      rcases ih (i + 1) with ⟨h1, h2⟩ | ⟨k, y, h1, h2, h3, h4⟩
      · refine Or.inl ⟨h1, fun j y hj => ?_⟩
        cases j with
        | zero => simp at hj; omega
        | succ j => exact h2 j y (by simpa using hj)
      · refine Or.inr ⟨k + 1, y, by rw [h1]; congr 1; omega, by simpa using h2, h3, fun j x hj hx => ?_⟩
        cases j with
        | zero => simp at hx; omega
        | succ j => exact h4 j x (by omega) (by simpa using hx)
theorem Steps.back {Q t n q i q' i'} (h : Steps Q t n q i q' i') (hi : i' ≤ t.length) : i ≤ t.length := by
  induction n generalizing q i with
  | zero => obtain ⟨_, rfl⟩ := h; exact hi
  | succ n ih =>
    obtain ⟨r, j, s1, h1⟩ := h
    have hj := ih h1
    obtain ⟨s, _, h2 | h2 | h2 | h2⟩ := s1
    · obtain ⟨_, c, hc, _, _, rfl⟩ := h2
      have := (List.getElem?_eq_some_iff.1 hc).1; omega
    · omega
    · omega
    · omega
theorem Acc.back {Q t q i e} (h : Acc Q t q i e) (hi : e ≤ t.length) : i ≤ t.length := by obtain ⟨n, d, h, _⟩ := h; exact h.back hi
theorem lenV_neg {Q t last k b} (h : LenAt Q t last k b) (hn : lenV k b < 0) : b = none := by
  cases b with
  | none => rfl
  | some B =>
    have h1 := (h.1 B rfl).1
    have h2 : (B : Int) - k < 0 := hn
    omega
/-- What the lengths of all places say of the first match. -/
theorem find_fact {Q : List St} {t : List UInt8} {last : Nat} {L : List Int} {R : Pat} (h : AllLen Q t last L) (hR : ∀ t i e, Acc Q t last e i ↔ R t i e) :
    (firstAt L 0 = -1 ∧ Finds R t 0 0 none) ∨ ∃ (k l : Nat), firstAt L 0 = (k : Int) ∧ L[k]? = some (l : Int) ∧ Finds R t 0 0 (some (k, l)) := by
  obtain ⟨hl, hall⟩ := h
  have hno : ∀ b, b ≤ t.length → (∀ z, L[b]? = some z → z < 0) → ∀ e, ¬ R t b e := by
    intro b hb hneg e hr
    have ha := (hR t b e).2 hr
    obtain ⟨c, h3, h4⟩ := hall b hb
    have hc := lenV_neg h3 (hneg _ h4)
    obtain ⟨B, h5, _⟩ := h3.2 e (ha.back hb) ha
    rw [hc] at h5; cases h5
  rcases firstAt_spec L 0 with ⟨h1, h2⟩ | ⟨k, z, h1, h2, h3, h4⟩
  · exact Or.inl ⟨h1, ⟨fun B l hB => (by cases hB), fun b e _ hb _ hr => absurd hr (hno b hb (fun z hz => h2 b z hz) e)⟩⟩
  · have hk : k ≤ t.length := by have := (List.getElem?_eq_some_iff.1 h2).1; omega
    obtain ⟨c, h5, h6⟩ := hall k hk
    rw [h2] at h6
    have hz : z = lenV k c := Option.some.inj h6
    cases c with
    | none => rw [hz] at h3; exact absurd h3 (by show ¬ (0 : Int) ≤ -1; omega)
    | some B =>
      obtain ⟨b1, b2, b3⟩ := h5.1 B rfl
      have hz2 : z = ((B - k : Nat) : Int) := by rw [hz]; show (B : Int) - k = _; omega
      refine Or.inr ⟨k, B - k, by rw [h1, Nat.zero_add], by rw [h2, hz2], ⟨fun B' l hB => ?_, fun b e _ hb _ hr => ?_⟩⟩
      · cases hB
        refine ⟨Nat.zero_le _, by omega, Nat.zero_le _, ?_⟩
        rw [show k + (B - k) = B by omega]
        exact (hR t k B).1 b3
      · refine ⟨k, B - k, rfl, ?_⟩
        by_cases hbk : b < k
        · exact absurd hr (hno b hb (fun z hz => h4 b z hbk hz) e)
        · by_cases e2 : b = k
          · subst e2
            have ha := (hR t b e).2 hr
            obtain ⟨B', h7, h8⟩ := h5.2 e (ha.back hb) ha
            cases h7
            exact Or.inr ⟨rfl, by omega⟩
          · exact Or.inl (by omega)
end Go.Proofs.YthkknpjoifoanaaGreatDoor


namespace Go.Proofs.YthkknpjoifoanaaGreatDoor
open Go.RowKit
set_option maxHeartbeats 4000000 in
theorem Find_any (vS : Value) (last : Nat) (Q : List St) (R : Pat) (s : ByteArray) (hwf : WfQ Q) (hu : OneDone Q) (hR : ∀ t i e, Acc Q t last e i ↔ R t i e) (hfst : last < Q.length) (h6 : s.size ≤ 65000) (hQ : Q.length ≤ 1000000) (w : World) (hp : PatAt w vS Q) :
    Calls Tryz.prog 18 #[.agg #[vS, .int .i64 last], .string s] w fun e w' => Only (fun _ => False) w w' ∧ ∃ best, Finds R s.data.toList 0 0 best ∧ e = .returned (.tuple #[.int .i64 (bBeg best), .int .i64 (bLen best)]) := by
  obtain ⟨G, capS, rfl⟩ := hp.form (by omega)
  have HP : ∀ o, Hid (PatAt (w.alloc o) (.slice (some ⟨G, 0, none⟩) Q.length capS) Q) := fun o => by
    obtain ⟨xs, h1, h2⟩ := hp
    exact ⟨xs, ownsRow_of h1 (fun k hk => Below.heap_alloc _ _ _ (h1.lt k hk).2), h2⟩
  have HR := hide hR
  have hts : s.data.toList.length = s.size := len_eq s
  clear hp hR
  go_enter Tryz.func18, Tryz.ntmps18
  go_wp2_with fail
  refine (Longest_any _ last Q s hwf hu hfst h6 hQ _ (HP _).out).mono ?_
  rintro e w1 ⟨ho, lb, L, hlb, hall, hrow, rfl⟩
  have hLl : L.length ≤ 100000 := by have := hall.1; omega
  have hcell : ∀ (j : Nat) (z : Int), L[j]? = some z → w1.cell? ⟨lb, j, none⟩ = some (.int .i64 z) := fun j z hz => cell_of hrow (by rw [List.getElem?_toArray]; exact zints_get _ _ _ hz)
  have hidx := index_any lb L hLl w1 hcell
  have HO : Hid (Only (fun _ => False) w w1) := ((Only.refl _ w).alloc _).trans ho (fun _ _ e => e)
  have HC := hide hcell
  rcases find_fact hall HR.out with ⟨h1, h2⟩ | ⟨k, l, h1, h2, h3⟩
  · rw [h1] at hidx
    have HF := hide h2
    clear ho hall hrow hcell h1 h2
    go_wp2_with (go_at_call 29; refine hidx.mono ?_; rintro e w' ⟨rfl, rfl⟩)
    go_ret2
    exact ⟨HO.out, none, HF.out, rfl⟩
  · rw [h1] at hidx
    have hkl : (k : Int) < (L.length : Int) := by have := (List.getElem?_eq_some_iff.1 h2).1; omega
    have c := HC.out k _ h2
    have HF := hide h3
    clear ho hall hrow hcell h1 h2 h3
    go_wp2_with (go_at_call 29; refine hidx.mono ?_; rintro e w' ⟨rfl, rfl⟩)
    go_quiet (fail)
    go_wp2
    go_ret2
    exact ⟨HO.out.drewN _, some (k, l), HF.out, rfl⟩
end Go.Proofs.YthkknpjoifoanaaGreatDoor

namespace Go.Proofs.YthkknpjoifoanaaGreatDoor
open Go.RowKit
theorem long_yes (s : ByteArray) (h : 500 < s.size) (w : World) : Calls Tryz.prog 16 #[.string s] w fun e w' => e = .returned (.bool true) ∧ w' = w := by
  have hi : (500 : Int) < (s.size : Int) := by omega
  go_enter Tryz.func16, Tryz.ntmps16
  go_wp2
  go_ret
  exact ⟨by simp, rfl⟩
theorem long_no (s : ByteArray) (h : ¬ 500 < s.size) (w : World) : Calls Tryz.prog 16 #[.string s] w fun e w' => e = .returned (.bool false) ∧ w' = w := by
  have hi : ¬ (500 : Int) < (s.size : Int) := by omega
  go_enter Tryz.func16, Tryz.ntmps16
  go_wp2
  go_ret
  exact ⟨by simp, rfl⟩
/-- What a Match answers. -/
def MatchIs (p t : ByteArray) (e : Ending) : Prop :=
  (500 < p.size ∨ 500 < t.size → e = .returned (.tuple #[.int .i64 0, .int .i64 0, .int .i64 1])) ∧
  (¬ (500 < p.size ∨ 500 < t.size) → (wholeP p.data.toList = none → e = .returned (.tuple #[.int .i64 0, .int .i64 0, .int .i64 7])) ∧
    ∀ R, wholeP p.data.toList = some R → ∃ best, Finds R t.data.toList 0 0 best ∧ e = .returned (.tuple #[.int .i64 (bBeg best), .int .i64 (bLen best), .int .i64 0]))
theorem MatchIs.unique {p t e e'} (h : MatchIs p t e) (h' : MatchIs p t e') : e = e' := by
  by_cases hl : 500 < p.size ∨ 500 < t.size
  · rw [h.1 hl, h'.1 hl]
  · cases hw : wholeP p.data.toList with
    | none => rw [(h.2 hl).1 hw, (h'.2 hl).1 hw]
    | some R =>
      obtain ⟨b1, h1, rfl⟩ := (h.2 hl).2 R hw
      obtain ⟨b2, h2, rfl⟩ := (h'.2 hl).2 R hw
      rw [h1.unique h2]
set_option maxHeartbeats 4000000 in
theorem match_any (p t : ByteArray) (w : World) : Calls Tryz.prog 8 #[.string p, .string t] w fun e w' => MatchIs p t e ∧ Only (fun _ => False) w w' := by
  by_cases h1 : 500 < p.size
  · go_enter Tryz.func8, Tryz.ntmps8
    go_wp2_with (go_at_call 16; refine (long_yes p h1 _).mono ?_; rintro e w' ⟨rfl, rfl⟩)
    go_ret3
    exact ⟨⟨fun _ => rfl, fun h => absurd (Or.inl h1) h⟩, Only.refl _ _⟩
  · by_cases h2 : 500 < t.size
    · go_enter Tryz.func8, Tryz.ntmps8
      go_wp2_with fail
      refine (long_no p h1 _).mono ?_
      rintro e w' ⟨rfl, rfl⟩
      go_wp2_with fail
      refine (long_yes t h2 _).mono ?_
      rintro e w' ⟨rfl, rfl⟩
      go_wp2
      go_ret3
      exact ⟨⟨fun _ => rfl, fun h => absurd (Or.inr h2) h⟩, Only.refl _ _⟩
    · have hl : ¬ (500 < p.size ∨ 500 < t.size) := by omega
      have HL := hide hl
      clear hl
      go_enter Tryz.func8, Tryz.ntmps8
      go_wp2_with fail
      refine (long_no p h1 _).mono ?_
      rintro e w' ⟨rfl, rfl⟩
      go_wp2_with fail
      refine (long_no t h2 _).mono ?_
      rintro e w' ⟨rfl, rfl⟩
      go_wp2_with fail
      refine (read_any p (by omega) _).mono ?_
      rintro e w1 ⟨ho1, hno, hyes⟩
      have HO1 := hide ho1
      cases hc : wholeP p.data.toList with
      | none =>
        have HC := hide hc
        obtain rfl := hno hc
        clear hno hyes hc ho1
        go_wp2
        go_ret3
        exact ⟨⟨fun h => absurd h HL.out, fun _ => ⟨fun _ => rfl, fun R h => by rw [HC.out] at h; cases h⟩⟩, HO1.out.alloc _⟩
      | some R =>
        have HC := hide hc
        obtain ⟨v, last, Q, rfl, hp1, hp2, hp3, hp4, hp5, hone, hp6⟩ := hyes R hc
        obtain ⟨G, capS, rfl⟩ := hp1.form (by omega)
        have HP : ∀ o, Hid (PatAt (w1.alloc o) (.slice (some ⟨G, 0, none⟩) Q.length capS) Q) := fun o => by
          obtain ⟨xs, h1, h2⟩ := hp1
          exact ⟨xs, ownsRow_of h1 (fun k hk => Below.heap_alloc _ _ _ (h1.lt k hk).2), h2⟩
        have HA := hide hp6
        have HW := hide hp5
        clear hno hyes hc ho1 hp1 hp2 hp5 hp6
        go_wp2_with fail
        refine (Find_any _ last Q R t HW.out hone HA.out hp4 (by omega) hp3 _ (HP _).out).mono ?_
        rintro e w2 ⟨ho2, best, hf, rfl⟩
        have HF := hide hf
        have HO2 := hide ho2
        clear hf ho2
        go_wp2
        go_ret3
        exact ⟨⟨fun h => absurd h HL.out, fun _ => ⟨fun h => (by rw [HC.out] at h; cases h), fun R' h => (by rw [HC.out] at h; cases h; exact ⟨best, HF.out, rfl⟩)⟩⟩, (HO1.out.alloc _).trans HO2.out (fun _ _ e => e)⟩
end Go.Proofs.YthkknpjoifoanaaGreatDoor


namespace Go.Proofs.YthkknpjoifoanaaGreatDoor
open Go.RowKit
/-- A reader of tokens lies at the beginning of a block. -/
def TkAt (w : World) (b : Nat) (T : ByteArray) (i : Nat) (dv : Bool) : Prop := w.cell? ⟨b, 0, none⟩ = some (.string T) ∧ w.cell? ⟨b, 1, none⟩ = some (.int .i64 i) ∧ w.cell? ⟨b, 2, none⟩ = some (.bool dv)
theorem TkAt.drewN {w b T i dv} (h : TkAt w b T i dv) (n : Nat) : TkAt (w.drewN n) b T i dv := h
theorem TkAt.alloc {w b T i dv} (h : TkAt w b T i dv) (hb : b < w.heap.size) (o : Obj) : TkAt (w.alloc o) b T i dv := by
  obtain ⟨h0, h1, h2⟩ := h
  have e := fun k => World.cell?_of_block (w := w) (w' := w.alloc o) (a := ⟨b, k, none⟩) (Below.heap_alloc _ _ _ hb)
  exact ⟨(e 0).trans h0, (e 1).trans h1, (e 2).trans h2⟩
theorem TkAt.lt {w b T i dv} (h : TkAt w b T i dv) : b < w.heap.size := World.block_lt_of_cell? w ⟨b, 0, none⟩ h.1
set_option maxHeartbeats 1000000 in
theorem tended_any (b : Nat) (T : ByteArray) (i : Nat) (dv : Bool) (w : World) (h : TkAt w b T i dv) :
    Calls Tryz.prog 157 #[.pointer (some ⟨b, 0, none⟩)] w fun e w' => e = .returned (.bool (decide (i = T.size))) ∧ ∃ n, w' = w.drewN n := by
  obtain ⟨c0, c1, c2⟩ := h
  go_enter Tryz.func157, Tryz.ntmps157
  go_wp2
  go_quiet (fail)
  go_wp2
  go_ret
  refine ⟨ret_bool ?_, _, rfl⟩
  rw [Bool.eq_iff_iff, beq_iff_eq, decide_eq_true_iff]
  omega
theorem tended_no (b : Nat) (T : ByteArray) (i : Nat) (dv : Bool) (hi : i < T.size) (w : World) (h : TkAt w b T i dv) :
    Calls Tryz.prog 157 #[.pointer (some ⟨b, 0, none⟩)] w fun e w' => e = .returned (.bool false) ∧ ∃ n, w' = w.drewN n := by
  have := tended_any b T i dv w h
  rwa [decide_eq_false (by omega)] at this
theorem tended_yes (b : Nat) (T : ByteArray) (i : Nat) (dv : Bool) (hi : i = T.size) (w : World) (h : TkAt w b T i dv) :
    Calls Tryz.prog 157 #[.pointer (some ⟨b, 0, none⟩)] w fun e w' => e = .returned (.bool true) ∧ ∃ n, w' = w.drewN n := by
  have := tended_any b T i dv w h
  rwa [decide_eq_true hi] at this
def letB (c : UInt8) : Bool := (decide (97 ≤ c.toNat) && decide (c.toNat ≤ 122)) || (decide (65 ≤ c.toNat) && decide (c.toNat ≤ 90)) || c.toNat == 95
set_option maxHeartbeats 1000000 in
theorem tdigit_any (c : UInt8) (w : World) : Calls Tryz.prog 159 #[.int .u8 c.toNat] w fun e w' => e = .returned (.bool (digB c)) ∧ w' = w := by
  obtain ⟨v, HV⟩ : ∃ v, Hid (v = digB c) := ⟨_, rfl⟩
  rw [← HV.out]
  go_enter Tryz.func159, Tryz.ntmps159
  go_wp2
  all_goals
    go_ret
    refine ⟨ret_bool ?_, rfl⟩
    rw [HV.out]
    unfold digB
    rw [Bool.eq_iff_iff]
    simp only [Bool.and_eq_true, decide_eq_true_iff]
    first | omega | (simp; omega)
set_option maxHeartbeats 1000000 in
theorem tletter_any (c : UInt8) (w : World) : Calls Tryz.prog 161 #[.int .u8 c.toNat] w fun e w' => e = .returned (.bool (letB c)) ∧ w' = w := by
  obtain ⟨v, HV⟩ : ∃ v, Hid (v = letB c) := ⟨_, rfl⟩
  rw [← HV.out]
  go_enter Tryz.func161, Tryz.ntmps161
  go_wp2
  all_goals
    go_ret
    refine ⟨ret_bool ?_, rfl⟩
    rw [HV.out]
    unfold letB
    rw [Bool.eq_iff_iff]
    simp only [Bool.and_eq_true, Bool.or_eq_true, decide_eq_true_iff, beq_iff_eq]
    first | omega | (simp; omega)
end Go.Proofs.YthkknpjoifoanaaGreatDoor

namespace Go.Proofs.YthkknpjoifoanaaGreatDoor
open Go.RowKit
def wordB (l : List UInt8) : Bool := l == [66, 69, 71, 73, 78] || l == [69, 78, 68] || l == [102, 117, 110, 99, 116, 105, 111, 110] || l == [105, 102] || l == [101, 108, 115, 101] || l == [119, 104, 105, 108, 101] || l == [102, 111, 114] || l == [105, 110] || l == [112, 114, 105, 110, 116] || l == [110, 101, 120, 116] || l == [101, 120, 105, 116] || l == [114, 101, 116, 117, 114, 110] || l == [98, 114, 101, 97, 107] || l == [99, 111, 110, 116, 105, 110, 117, 101] || l == [100, 101, 108, 101, 116, 101]
def ownB (l : List UInt8) : Bool := l == [108, 101, 110, 103, 116, 104] || l == [115, 117, 98, 115, 116, 114] || l == [105, 110, 100, 101, 120] || l == [115, 112, 108, 105, 116] || l == [115, 117, 98] || l == [103, 115, 117, 98] || l == [109, 97, 116, 99, 104] || l == [116, 111, 117, 112, 112, 101, 114] || l == [116, 111, 108, 111, 119, 101, 114] || l == [115, 112, 114, 105, 110, 116, 102]
def dblB (l : List UInt8) : Bool := l == [124, 124] || l == [38, 38] || l == [33, 126] || l == [60, 61] || l == [61, 61] || l == [33, 61] || l == [62, 61] || l == [43, 61] || l == [45, 61] || l == [42, 61] || l == [47, 61] || l == [37, 61]
def sglB (c : UInt8) : Bool := c == 123 || c == 125 || c == 40 || c == 41 || c == 91 || c == 93 || c == 59 || c == 44 || c == 43 || c == 45 || c == 42 || c == 47 || c == 37 || c == 33 || c == 62 || c == 60 || c == 126 || c == 63 || c == 58 || c == 61 || c == 36
set_option maxRecDepth 10000 in
set_option maxHeartbeats 4000000 in
theorem word_any (x : ByteArray) (w : World) : Calls Tryz.prog 229 #[.string x] w fun e w' => e = .returned (.bool (wordB x.data.toList)) ∧ w' = w := by
  obtain ⟨v, HV⟩ : ∃ v, Hid (v = wordB x.toList) := ⟨_, rfl⟩
  rw [← ByteArray.toList_eq, ← HV.out]
  go_enter Tryz.func229, Tryz.ntmps229
  go_wp2
  all_goals
    go_ret
    refine ⟨ret_bool ?_, rfl⟩
    rw [HV.out]
    unfold wordB
    first | (simp [*]; done) | simp_all
set_option maxRecDepth 10000 in
set_option maxHeartbeats 4000000 in
theorem own_any (x : ByteArray) (w : World) : Calls Tryz.prog 230 #[.string x] w fun e w' => e = .returned (.bool (ownB x.data.toList)) ∧ w' = w := by
  obtain ⟨v, HV⟩ : ∃ v, Hid (v = ownB x.toList) := ⟨_, rfl⟩
  rw [← ByteArray.toList_eq, ← HV.out]
  go_enter Tryz.func230, Tryz.ntmps230
  go_wp2
  all_goals
    go_ret
    refine ⟨ret_bool ?_, rfl⟩
    rw [HV.out]
    unfold ownB
    first | (simp [*]; done) | simp_all
set_option maxRecDepth 10000 in
set_option maxHeartbeats 4000000 in
theorem dbl_any (x : ByteArray) (w : World) : Calls Tryz.prog 233 #[.string x] w fun e w' => e = .returned (.bool (dblB x.data.toList)) ∧ w' = w := by
  obtain ⟨v, HV⟩ : ∃ v, Hid (v = dblB x.toList) := ⟨_, rfl⟩
  rw [← ByteArray.toList_eq, ← HV.out]
  go_enter Tryz.func233, Tryz.ntmps233
  go_wp2
  all_goals
    go_ret
    refine ⟨ret_bool ?_, rfl⟩
    rw [HV.out]
    unfold dblB
    first | (simp [*]; done) | simp_all
theorem u8_int (c : UInt8) (n : UInt8) : (c == n) = ((c.toNat : Int) == (n.toNat : Int)) := by
  rw [Bool.eq_iff_iff, beq_iff_eq, beq_iff_eq]
  constructor
  · rintro rfl; rfl
  · intro h; exact UInt8.toNat_inj.1 (by omega)
set_option maxRecDepth 10000 in
set_option maxHeartbeats 8000000 in
theorem sgl_any (c : UInt8) (w : World) : Calls Tryz.prog 234 #[.int .u8 c.toNat] w fun e w' => e = .returned (.bool (sglB c)) ∧ w' = w := by
  obtain ⟨v, HV⟩ : ∃ v, Hid (v = sglB c) := ⟨_, rfl⟩
  rw [← HV.out]
  go_enter Tryz.func234, Tryz.ntmps234
  go_wp2
  all_goals
    go_ret
    refine ⟨ret_bool ?_, rfl⟩
    rw [HV.out]
    unfold sglB
    first | (simp [u8_int, *]; done) | simp_all [u8_int]
end Go.Proofs.YthkknpjoifoanaaGreatDoor

namespace Go.Proofs.YthkknpjoifoanaaGreatDoor
open Go.RowKit
def tokV (k : Nat) (x : ByteArray) (i : Nat) : Value := .agg #[.int .i64 k, .string x, .int .i64 i]
set_option maxRecDepth 10000 in
set_option maxHeartbeats 4000000 in
theorem token_any (b : Nat) (T : ByteArray) (i : Nat) (dv : Bool) (k e : Nat) (hi : i ≤ e) (he : e ≤ T.size) (w : World) (h : TkAt w b T i dv) :
    Calls Tryz.prog 228 #[.pointer (some ⟨b, 0, none⟩), .int .i64 k, .int .i64 e] w fun en w' => en = .returned (.tuple #[tokV k (T.extract i e) i, .int .i64 e]) ∧ Only (fun _ => False) w w' := by
  have hl := h.lt
  obtain ⟨c0, c1, c2⟩ := h
  have hii : (i : Int) ≤ (e : Int) := by omega
  have hee : (e : Int) ≤ (T.size : Int) := by omega
  unfold tokV
  go_enter Tryz.func228, Tryz.ntmps228
  go_wp2
  go_region
  all_goals
    go_wp2
    refine bodyPost_ret (v := .tuple #[.agg #[.int .i64 k, .string (T.extract i e), .int .i64 i], .int .i64 e]) (by simp [results, Tryz.results228, go_sem]) rfl ⟨rfl, ?_⟩
    exact ((Only.refl _ w).alloc _).drewN 1
/-- The sign at a place: one byte. -/
theorem TkAt.only {w w' b T i dv D} (h : TkAt w b T i dv) (ho : Only D w w') (hd : ¬ D b) : TkAt w' b T i dv := by
  have hl := h.lt
  obtain ⟨h0, h1, h2⟩ := h
  exact ⟨(ho.cell (p := ⟨b, 0, none⟩) hl hd).trans h0, (ho.cell (p := ⟨b, 1, none⟩) hl hd).trans h1, (ho.cell (p := ⟨b, 2, none⟩) hl hd).trans h2⟩
theorem ext2 (T : ByteArray) (i : Nat) (h : i + 2 ≤ T.size) : ((T.extract i T.size).extract 0 2).data.toList = (T.extract i (i + 2)).data.toList := by
  simp only [ByteArray.data_extract, Array.toList_extract, List.extract_eq_take_drop, List.drop_zero, Nat.sub_zero, List.take_take]
  congr 1
  have : T.data.toList.length = T.size := len_eq T
  show min 2 (T.size - i) = i + 2 - i
  omega
/-- A token's box, behind a call. -/
theorem tokbox {w w1 : World} {n : Nat} (ho : Only (fun _ => False) ((w.alloc (.cells #[.int .i64 0, .string ⟨#[]⟩, .int .i64 0] 145)).drewN n) w1) :
    Hid (Only (fun _ => False) w w1) ∧ w1.cell? ⟨w.heap.size, 0, none⟩ = some (.int .i64 0) ∧ w1.cell? ⟨w.heap.size, 1, none⟩ = some (.string ⟨#[]⟩) ∧ w1.cell? ⟨w.heap.size, 2, none⟩ = some (.int .i64 0) ∧ (∀ o, w1.frozen? ⟨w.heap.size, o, none⟩ = false) := by
  have hx1 := (ho.block w.heap.size (by simp) (fun e => e)).trans (new0 w (.cells #[.int .i64 0, .string ⟨#[]⟩, .int .i64 0] 145))
  exact ⟨(((Only.refl _ w).alloc _).drewN n).trans ho (fun _ _ e => e), cell_of hx1 rfl, cell_of hx1 rfl, cell_of hx1 rfl, free_of hx1⟩
theorem tokset {w w1 : World} (ho : Only (fun _ => False) w w1) (v0 v1 v2 : Value) : Only (fun _ => False) w (((w1.setCell ⟨w.heap.size, 0, none⟩ v0).setCell ⟨w.heap.size, 1, none⟩ v1).setCell ⟨w.heap.size, 2, none⟩ v2) :=
  ((ho.setCell (p := ⟨w.heap.size, 0, none⟩) (fun h => absurd h (Nat.lt_irrefl _)) v0).setCell (p := ⟨w.heap.size, 1, none⟩) (fun h => absurd h (Nat.lt_irrefl _)) v1).setCell (p := ⟨w.heap.size, 2, none⟩) (fun h => absurd h (Nat.lt_irrefl _)) v2
set_option maxRecDepth 10000 in
set_option maxHeartbeats 4000000 in
theorem sign_one (b : Nat) (T : ByteArray) (i : Nat) (dv : Bool) (hi : i < T.size) (h5 : T.size ≤ 65000) (hd : i + 1 = T.size ∨ dblB (T.extract i (i + 2)).data.toList = false) (hs : sglB T[i] = true) (w : World) (h : TkAt w b T i dv) :
    Calls Tryz.prog 165 #[.pointer (some ⟨b, 0, none⟩)] w fun en w' => en = .returned (.tuple #[tokV 9 (T.extract i (i + 1)) i, .int .i64 ((i + 1 : Nat) : Int)]) ∧ Only (fun _ => False) w w' := by
  have hl := h.lt
  have HT := hide h
  obtain ⟨c0, c1, c2⟩ := h
  have hii : (i : Int) ≤ (T.size : Int) := by omega
  have hg0 : ∀ (hh : 0 < (T.extract i T.size).size), (T.extract i T.size)[0] = T[i] := by intro hh; simp [ByteArray.getElem_extract]
  have HS : ∀ (hh : 0 < (T.extract i T.size).size) (W : World), Hid (Calls Tryz.prog 234 #[.int .u8 (T.extract i T.size)[0].toNat] W fun e w' => e = .returned (.bool true) ∧ w' = W) := fun hh W => by
    show Calls _ _ _ _ _
    rw [hg0 hh, ← hs]
    exact sgl_any T[i] W
  obtain ⟨X, HX⟩ : ∃ X, Hid (X = T.extract i (i + 1)) := ⟨_, rfl⟩
  rw [← HX.out]
  have HTk : ∀ (o : Obj) (n : Nat), Hid (Calls Tryz.prog 228 #[.pointer (some ⟨b, 0, none⟩), .int .i64 9, .int .i64 ((i : Int) + 1)] ((w.alloc o).drewN n) fun en w' => en = .returned (.tuple #[tokV 9 X i, .int .i64 ((i : Int) + 1)]) ∧ Only (fun _ => False) ((w.alloc o).drewN n) w') := fun o n => by
    rw [HX.out]
    exact token_any b T i dv 9 (i + 1) (by omega) (by omega) _ ((HT.out.alloc hl o).drewN n)
  have hd0 : 0 < T.size - i := by omega
  have hdd : ¬ (1 : Int) < ((T.size - i : Nat) : Int) ∨ (i + 2 ≤ T.size ∧ (1 : Int) < ((T.size - i : Nat) : Int)) := by omega
  have HD : i + 2 ≤ T.size → ∀ W, Hid (Calls Tryz.prog 233 #[.string ((T.extract i T.size).extract 0 2)] W fun e w' => e = .returned (.bool false) ∧ w' = W) := fun h2 W => by
    show Calls _ _ _ _ _
    have h3 := dbl_any ((T.extract i T.size).extract 0 2) W
    rw [ext2 T i h2] at h3
    rcases hd with h4 | h4
    · omega
    · rw [h4] at h3; exact h3
  clear hg0 hd hs
  rcases hdd with hd1 | ⟨h2, hd1⟩
  · clear HD
    go_enter Tryz.func165, Tryz.ntmps165
    go_wp2
    go_quiet (fail)
    go_wp2_with (first | (go_at_call 234; refine ((HS (by simp; omega) _).out).mono ?_; rintro e w' ⟨rfl, rfl⟩) | (go_at_call 228; refine ((HTk _ _).out).mono ?_; rintro e w1 ⟨rfl, ho1⟩; obtain ⟨HO1, q0, q1, q2, qf⟩ := tokbox ho1; clear ho1; unfold tokV))
    exact bodyPost_ret (v := .tuple #[.agg #[.int .i64 9, .string X, .int .i64 i], .int .i64 ((i : Int) + 1)]) (by simp [results, Tryz.results165, go_sem, q0, q1, q2]) rfl ⟨by unfold tokV; rfl, tokset HO1.out _ _ _⟩
  · have HD2 := HD h2
    clear HD
    go_enter Tryz.func165, Tryz.ntmps165
    go_wp2
    go_quiet (fail)
    go_wp2_with (first | (go_at_call 233; refine ((HD2 _).out).mono ?_; rintro e w' ⟨rfl, rfl⟩) | (go_at_call 234; refine ((HS (by simp; omega) _).out).mono ?_; rintro e w' ⟨rfl, rfl⟩) | (go_at_call 228; refine ((HTk _ _).out).mono ?_; rintro e w1 ⟨rfl, ho1⟩; obtain ⟨HO1, q0, q1, q2, qf⟩ := tokbox ho1; clear ho1; unfold tokV))
    exact bodyPost_ret (v := .tuple #[.agg #[.int .i64 9, .string X, .int .i64 i], .int .i64 ((i : Int) + 1)]) (by simp [results, Tryz.results165, go_sem, q0, q1, q2]) rfl ⟨by unfold tokV; rfl, tokset HO1.out _ _ _⟩
end Go.Proofs.YthkknpjoifoanaaGreatDoor

