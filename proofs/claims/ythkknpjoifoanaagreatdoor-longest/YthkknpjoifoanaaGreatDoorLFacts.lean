import Derived.Test.YthkknpjoifoanaaGreatDoorQ01
import Derived.Test.YthkknpjoifoanaaGreatDoorQ12
import Derived.Test.YthkknpjoifoanaaGreatDoorLPlain
namespace Go.Proofs.YthkknpjoifoanaaGreatDoor
open Go.RowKit
theorem finds_emptyR {t : List UInt8} {best : Option (Nat × Nat)} (h : Finds emptyR t 0 0 best) : best = some (0, 0) := by
  obtain ⟨B, l, rfl, h1⟩ := h.2 0 0 (Nat.le_refl _) (Nat.zero_le _) (Nat.le_refl _) rfl
  obtain ⟨_, _, _, h2⟩ := h.1 B l rfl
  have h3 : B + l = B := h2
  rw [show B = 0 by omega, show l = 0 by omega]
theorem short_yes {s : ByteArray} (h : (s.size : Int) ≤ 500) (w : World) : Calls Tryz.prog 10 #[.string s] w fun e w' => e = .returned (.bool true) ∧ w' = w :=
  (short_any s w).mono (fun _ _ he => ⟨by rw [he.1, decide_eq_true h], he.2⟩)
theorem short_not {s : ByteArray} (h : ¬ (s.size : Int) ≤ 500) (w : World) : Calls Tryz.prog 10 #[.string s] w fun e w' => e = .returned (.bool false) ∧ w' = w :=
  (short_any s w).mono (fun _ _ he => ⟨by rw [he.1, decide_eq_false h], he.2⟩)
/-- What is asked of a match that was found. -/
theorem best_facts {R : Pat} {t : List UInt8} {best : Option (Nat × Nat)} (h : Finds R t 0 0 best) :
    ¬ bBeg best < -1 ∧ ¬ bLen best < 0 ∧ ¬ (t.length : Int) < bBeg best + bLen best ∧ ((bBeg best = -1 ∧ bLen best = 0) ∨ ¬ bBeg best = -1) ∧
    ∀ a b : Nat, a ≤ b → b ≤ t.length → (R t a b → ¬ bBeg best = -1 ∧ ¬ (a : Int) < bBeg best ∧ ¬ ((a : Int) = bBeg best ∧ bLen best < (b : Int) - (a : Int))) ∧ (¬ R t a b → ¬ ((a : Int) = bBeg best ∧ (b : Int) - (a : Int) = bLen best)) := by
  match best with
  | none =>
    refine ⟨by simp [bBeg], by simp [bLen], by simp [bBeg, bLen], Or.inl ⟨rfl, rfl⟩, fun a b hab hb => ⟨fun hr => ?_, fun _ => ?_⟩⟩
    · obtain ⟨B, l, hc, _⟩ := h.2 a b (Nat.zero_le _) (by omega) hab hr
      cases hc
    · simp only [bBeg, bLen]; omega
  | some (B, l) =>
    obtain ⟨h1, h2, h3, h4⟩ := h.1 B l rfl
    refine ⟨by simp only [bBeg]; omega, by simp only [bLen]; omega, by simp only [bBeg, bLen]; omega, Or.inr (by simp only [bBeg]; omega), fun a b hab hb => ⟨fun hr => ?_, fun hr hc => ?_⟩⟩
    · obtain ⟨B', l', hc, h5⟩ := h.2 a b (Nat.zero_le _) (by omega) hab hr
      cases hc
      simp only [bBeg, bLen]
      omega
    · simp only [bBeg, bLen] at hc
      obtain ⟨c1, c2⟩ := hc
      obtain rfl : a = B := by omega
      obtain rfl : b = a + l := by omega
      exact hr h4
theorem wholeOf_bytes (s : ByteArray) : ((⟨#[94, 40]⟩ : ByteArray) ++ s ++ (⟨#[41, 36]⟩ : ByteArray)).data.toList = wholeOf s.data.toList := by
  rw [ByteArray.data_append, ByteArray.data_append]
  simp [wholeOf]
/-- What Match answers for the pattern between the ends, of a part of the text. -/
theorem whole_match {s t : ByteArray} {R : Pat} {a b : Nat} {e : Ending} (hw : wholeP s.data.toList = some R) (hne : s.data.toList ≠ []) (hnn : NoEnds s.data.toList) (hsh : s.size + 4 ≤ 500) (ht : t.size ≤ 24) (hab : a ≤ b) (hb : b ≤ t.size)
    (h : MatchIs ((⟨#[94, 40]⟩ : ByteArray) ++ s ++ (⟨#[41, 36]⟩ : ByteArray)) (t.extract a b) e) :
    (R t.data.toList a b ∧ e = .returned (.tuple #[.int .i64 0, .int .i64 ((b : Int) - (a : Int)), .int .i64 0])) ∨ (¬ R t.data.toList a b ∧ e = .returned (.tuple #[.int .i64 (-1), .int .i64 0, .int .i64 0])) := by
  have hws : ((⟨#[94, 40]⟩ : ByteArray) ++ s ++ (⟨#[41, 36]⟩ : ByteArray)).size = s.size + 4 := by
    rw [ByteArray.size_append, ByteArray.size_append]; show 2 + s.size + 2 = _; omega
  have hxl : (t.extract a b).data.toList = (t.data.toList.drop a).take (b - a) := by rw [extract_cut]; rfl
  have hll : ((t.data.toList.drop a).take (b - a)).length = b - a := by rw [List.length_take, List.length_drop, len_eq]; omega
  have hxs : (t.extract a b).size = b - a := by rw [← len_eq, hxl, hll]
  obtain ⟨best, hf, rfl⟩ := (h.2 (by omega)).2 _ (by rw [wholeOf_bytes]; exact whole_whole hne hw)
  rw [hxl] at hf
  have hloc := (loc_whole hnn hw).2 t.data.toList a (b - a) 0 (b - a) (by rw [len_eq]; omega) (Nat.le_refl _)
  rw [Nat.add_zero, show a + (b - a) = b by omega] at hloc
  rcases finds_whole hf with ⟨h1, rfl⟩ | ⟨h1, rfl⟩
  · rw [hll] at h1
    refine Or.inl ⟨hloc.1 h1, ?_⟩
    rw [hll]
    show Ending.returned (.tuple #[.int .i64 ((0 : Nat) : Int), .int .i64 ((b - a : Nat) : Int), .int .i64 0]) = _
    rw [show ((b - a : Nat) : Int) = (b : Int) - (a : Int) by omega]
    rfl
  · rw [hll] at h1
    exact Or.inr ⟨fun hr => h1 (hloc.2 hr), rfl⟩
theorem plain_place {s t : List UInt8} {best : Option (Nat × Nat)} {R : Pat} {r : Int} (hw : wholeP s = some R) (hne : s ≠ []) (hp : PlainL s) (hf : Finds R t 0 0 best) (hr : PlaceIs t s 0 r) : bBeg best = r ∧ (r < 0 ∨ bLen best = s.length) := by
  rw [plain_whole hp hne] at hw
  obtain rfl := Option.some.inj hw
  have key : ∀ a b, a ≤ t.length → (altR [rowR (litR s)] t a b ↔ b = a + s.length ∧ b ≤ t.length ∧ cutL t a (a + s.length) = s) := fun a b ha => by
    have h := lit_row (l := s) (t := t) (i := a) (j := b) ha
    unfold cutL
    rw [show a + s.length - a = s.length by omega]
    constructor
    · rintro (h1 | h1)
      · exact h.1 h1
      · exact h1.elim
    · exact fun h1 => Or.inl (h.2 h1)
  rcases hr with ⟨k, rfl, h1, h2, h3, h4⟩ | ⟨rfl, h4⟩
  · obtain ⟨B, l, rfl, h5⟩ := hf.2 k (k + s.length) (Nat.zero_le _) (by omega) (by omega) ((key k _ (by omega)).2 ⟨rfl, h2, h3⟩)
    obtain ⟨g1, g2, g3, g4⟩ := hf.1 B l rfl
    obtain ⟨g5, g6, g7⟩ := (key B _ (by omega)).1 g4
    have hBk : B = k := by
      by_cases e : B < k
      · exact absurd g7 (h4 B (Nat.zero_le _) e)
      · omega
    subst hBk
    exact ⟨rfl, Or.inr (by show ((l : Nat) : Int) = _; omega)⟩
  · match best with
    | none => exact ⟨rfl, Or.inl (by omega)⟩
    | some (B, l) =>
      obtain ⟨g1, g2, g3, g4⟩ := hf.1 B l rfl
      obtain ⟨g5, g6, g7⟩ := (key B _ (by omega)).1 g4
      exact absurd g7 (h4 B (Nat.zero_le _) (by omega))
end Go.Proofs.YthkknpjoifoanaaGreatDoor
