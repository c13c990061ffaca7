import Derived.Test.YthhiofppbpgipaaGreatDoorGH
import Derived.Deep.LoopGhost
import Derived.Test.YthhiofppbpgipaaGreatDoorGI
namespace Go.Proofs.YthhiofppbpgipaaGreatDoor
open Go.RowKit
/-- The first place of a row that is no less than 0; -1: there is none. -/
def firstAt : List Int → Nat → Int
  | [], _ => -1
  | z :: l, i => if 0 ≤ z then (i : Int) else firstAt l (i + 1)
theorem firstAt_skip (L : List Int) (i k : Nat) (hk : k ≤ L.length) (h : ∀ (j : Nat) (z : Int), j < k → L[j]? = some z → z < 0) : firstAt L i = firstAt (L.drop k) (i + k) := by
  induction L generalizing i k with
  | nil =>
    have h0 : k = 0 := by simpa using hk
    subst h0
    rfl
  | cons z l ih =>
    cases k with
    | zero => rfl
    | succ k =>
      have h0 : z < 0 := h 0 z (by omega) rfl
      have := ih (i + 1) k (by simpa using hk) (fun j y hj hy => h (j + 1) y (by omega) (by simpa using hy))
      simp only [firstAt, List.drop_succ_cons]
      rw [if_neg (by omega), this, Nat.add_right_comm, Nat.add_assoc]
theorem pred_any (z : Int) (w : World) : Calls Tryz.prog 52 #[.int .i64 z] w fun e w' => e = .returned (.bool (decide (0 ≤ z))) ∧ w' = w := by
  by_cases h : 0 ≤ z
  · go_enter Tryz.func52, Tryz.ntmps52
    go_wp2
    go_ret
    exact ⟨by simp [h], rfl⟩
  · go_enter Tryz.func52, Tryz.ntmps52
    go_wp2
    go_ret
    exact ⟨by simp [h], rfl⟩
set_option maxHeartbeats 2000000 in
theorem index_any (lb : Nat) (L : List Int) (hl : L.length ≤ 100000) (w : World) (hL : ∀ (j : Nat) (z : Int), L[j]? = some z → w.cell? ⟨lb, j, none⟩ = some (.int .i64 z)) :
    Calls Tryz.prog 51 #[.slice (some ⟨lb, 0, none⟩) L.length L.length, .func (.func 52) #[] #[]] w fun e w' => e = .returned (.int .i64 (firstAt L 0)) ∧ w' = w := by
  have HL := hide hL
  clear hL
  go_enter Tryz.func51, Tryz.ntmps51
  go_wp2_with fail
  go_loopg [8] L.length (fun g s8 wr => ∃ k : Nat, s8 = .int .i64 k ∧ k ≤ L.length ∧ g = L.length - k ∧ wr = w ∧ ∀ (j : Nat) (z : Int), j < k → L[j]? = some z → z < 0)
  case atStart => exact ⟨0, rfl, Nat.zero_le _, rfl, rfl, fun j z hj => absurd hj (Nat.not_lt_zero _)⟩
  case round =>
    obtain ⟨k, e8, hk, hg, hw, hneg⟩ := hrel
    subst e8
    subst hw
    have HN := hide hneg
    have Hg := hide hg
    clear hneg hg
    by_cases hke : k = L.length
    · have HF : Hid (firstAt L 0 = -1) := by
        show firstAt L 0 = -1
        rw [firstAt_skip L 0 k hk HN.out, hke, List.drop_length]; rfl
      subst hke
      go_wp2
      go_ret
      exact ⟨by rw [HF.out]; rfl, rfl⟩
    · obtain ⟨z, hz⟩ : ∃ z, L[k]? = some z := ⟨L[k], List.getElem?_eq_getElem (by omega)⟩
      have c := HL.out k z hz
      have HZ := hide hz
      have hlt : (k : Int) < (L.length : Int) := by omega
      clear hz
      by_cases h0 : 0 ≤ z
      · have HF : Hid (firstAt L 0 = (k : Int)) := by
          show firstAt L 0 = (k : Int)
          obtain ⟨hkl, e⟩ := List.getElem?_eq_some_iff.1 HZ.out
          rw [firstAt_skip L 0 k hk HN.out, List.drop_eq_getElem_cons hkl, e, firstAt, if_pos h0, Nat.zero_add]
        have hp := pred_any z wr
        rw [decide_eq_true h0] at hp
        go_wp2_with (go_at_call 52; refine hp.mono ?_; rintro e w' ⟨rfl, rfl⟩)
        go_ret
        exact ⟨by rw [HF.out]; rfl, rfl⟩
      · have hp := pred_any z wr
        rw [decide_eq_false h0] at hp
        go_wp2_with (go_at_call 52; refine hp.mono ?_; rintro e w' ⟨rfl, rfl⟩)
        go_roundg (L.length - (k + 1))
        case measure => have := Hg.out; omega
        case rel => exact ⟨k + 1, by go_num, by omega, rfl, rfl, fun j y hj hy => (by
          by_cases e : j = k
          · subst e; rw [HZ.out] at hy; cases hy; omega
          · exact HN.out j y (by omega) hy)⟩
end Go.Proofs.YthhiofppbpgipaaGreatDoor

namespace Go.Proofs.YthhiofppbpgipaaGreatDoor
open Go.RowKit
def bBeg (best : Option (Nat × Nat)) : Int := match best with | none => -1 | some x => x.1
def bLen (best : Option (Nat × Nat)) : Int := match best with | none => 0 | some x => x.2
theorem firstAt_spec (L : List Int) (i : Nat) : (firstAt L i = -1 ∧ ∀ (j : Nat) (z : Int), L[j]? = some z → z < 0) ∨ ∃ (k : Nat) (z : Int), firstAt L i = ((i + k : Nat) : Int) ∧ L[k]? = some z ∧ 0 ≤ z ∧ ∀ (j : Nat) (y : Int), j < k → L[j]? = some y → y < 0 := by
  induction L generalizing i with
  | nil => exact Or.inl ⟨rfl, fun j z h => by simp at h⟩
  | cons z l ih =>
    by_cases h0 : 0 ≤ z
    · refine Or.inr ⟨0, z, ?_, rfl, h0, fun j y hj => absurd hj (Nat.not_lt_zero _)⟩
      rw [firstAt, if_pos h0, Nat.add_zero]
    · rw [firstAt, if_neg h0]
      rcases ih (i + 1) with ⟨h1, h2⟩ | ⟨k, y, h1, h2, h3, h4⟩
      · refine Or.inl ⟨h1, fun j y hj => ?_⟩
        cases j with
        | zero => simp at hj; omega
        | succ j => exact h2 j y (by simpa using hj)
      · refine Or.inr ⟨k + 1, y, by rw [h1]; congr 1; omega, by simpa using h2, h3, fun j x hj hx => ?_⟩
        cases j with
        | zero => simp at hx; omega
        | succ j => exact h4 j x (by omega) (by simpa using hx)
theorem Steps.back {Q t n q i q' i'} (h : Steps Q t n q i q' i') (hi : i' ≤ t.length) : i ≤ t.length := by
  induction n generalizing q i with
  | zero => obtain ⟨_, rfl⟩ := h; exact hi
  | succ n ih =>
    obtain ⟨r, j, s1, h1⟩ := h
    have hj := ih h1
    obtain ⟨s, _, h2 | h2 | h2 | h2⟩ := s1
    · obtain ⟨_, c, hc, _, _, rfl⟩ := h2
      have := (List.getElem?_eq_some_iff.1 hc).1; omega
    · omega
    · omega
    · omega
theorem Acc.back {Q t q i e} (h : Acc Q t q i e) (hi : e ≤ t.length) : i ≤ t.length := by obtain ⟨n, d, h, _⟩ := h; exact h.back hi
theorem lenV_neg {Q t last k b} (h : LenAt Q t last k b) (hn : lenV k b < 0) : b = none := by
  cases b with
  | none => rfl
  | some B =>
    have h1 := (h.1 B rfl).1
    have h2 : (B : Int) - k < 0 := hn
    omega
/-- What the lengths of all places say of the first match. -/
theorem find_fact {Q : List St} {t : List UInt8} {last : Nat} {L : List Int} {R : Pat} (h : AllLen Q t last L) (hR : ∀ t i e, Acc Q t last e i ↔ R t i e) :
    (firstAt L 0 = -1 ∧ Finds R t 0 0 none) ∨ ∃ (k l : Nat), firstAt L 0 = (k : Int) ∧ L[k]? = some (l : Int) ∧ Finds R t 0 0 (some (k, l)) := by
  obtain ⟨hl, hall⟩ := h
  have hno : ∀ b, b ≤ t.length → (∀ z, L[b]? = some z → z < 0) → ∀ e, ¬ R t b e := by
    intro b hb hneg e hr
    have ha := (hR t b e).2 hr
    obtain ⟨c, h3, h4⟩ := hall b hb
    have hc := lenV_neg h3 (hneg _ h4)
    obtain ⟨B, h5, _⟩ := h3.2 e (ha.back hb) ha
    rw [hc] at h5; cases h5
  rcases firstAt_spec L 0 with ⟨h1, h2⟩ | ⟨k, z, h1, h2, h3, h4⟩
  · exact Or.inl ⟨h1, ⟨fun B l hB => (by cases hB), fun b e _ hb _ hr => absurd hr (hno b hb (fun z hz => h2 b z hz) e)⟩⟩
  · have hk : k ≤ t.length := by have := (List.getElem?_eq_some_iff.1 h2).1; omega
    obtain ⟨c, h5, h6⟩ := hall k hk
    rw [h2] at h6
    have hz : z = lenV k c := Option.some.inj h6
    cases c with
    | none => rw [hz] at h3; exact absurd h3 (by show ¬ (0 : Int) ≤ -1; omega)
    | some B =>
      obtain ⟨b1, b2, b3⟩ := h5.1 B rfl
      have hz2 : z = ((B - k : Nat) : Int) := by rw [hz]; show (B : Int) - k = _; omega
      refine Or.inr ⟨k, B - k, by rw [h1, Nat.zero_add], by rw [h2, hz2], ⟨fun B' l hB => ?_, fun b e _ hb _ hr => ?_⟩⟩
      · cases hB
        refine ⟨Nat.zero_le _, by omega, Nat.zero_le _, ?_⟩
        rw [show k + (B - k) = B by omega]
        exact (hR t k B).1 b3
      · refine ⟨k, B - k, rfl, ?_⟩
        by_cases hbk : b < k
        · exact absurd hr (hno b hb (fun z hz => h4 b z hbk hz) e)
        · by_cases e2 : b = k
          · subst e2
            have ha := (hR t b e).2 hr
            obtain ⟨B', h7, h8⟩ := h5.2 e (ha.back hb) ha
            cases h7
            exact Or.inr ⟨rfl, by omega⟩
          · exact Or.inl (by omega)
end Go.Proofs.YthhiofppbpgipaaGreatDoor

