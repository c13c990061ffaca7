import Derived.Test.YthhiofppbpgipaaGreatDoorGL
namespace Go.Proofs.YthhiofppbpgipaaGreatDoor
open Go.RowKit
theorem PcIs.push {P Q : List Pc} {d k : Nat} {R : Pat} (h : PcIs P d k R) : PcIs (P ++ Q) d k R := by
  induction d generalizing k R with
  | zero => exact h
  | succ d ih =>
    obtain ⟨x, hx, hc⟩ := h
    refine ⟨x, by rw [List.getElem?_append_left (List.getElem?_eq_some_iff.1 hx).1]; exact hx, ?_⟩
    rcases hc with h | ⟨h, S, T, h1, h2, h3⟩ | ⟨h, S, T, h1, h2, h3⟩ | ⟨h, S, h1, h2⟩ | ⟨h, S, h1, h2⟩ | ⟨h, S, h1, h2⟩
    · exact Or.inl h
    · exact Or.inr (Or.inl ⟨h, S, T, ih h1, ih h2, h3⟩)
    · exact Or.inr (Or.inr (Or.inl ⟨h, S, T, ih h1, ih h2, h3⟩))
    · exact Or.inr (Or.inr (Or.inr (Or.inl ⟨h, S, ih h1, h2⟩)))
    · exact Or.inr (Or.inr (Or.inr (Or.inr (Or.inl ⟨h, S, ih h1, h2⟩))))
    · exact Or.inr (Or.inr (Or.inr (Or.inr (Or.inr ⟨h, S, ih h1, h2⟩))))
theorem PcIs.up {P : List Pc} {d e k : Nat} {R : Pat} (h : PcIs P d k R) (hd : d ≤ e) : PcIs P e k R := by
  induction d generalizing e k R with
  | zero => exact h.elim
  | succ d ih =>
    obtain ⟨e, rfl⟩ : ∃ e', e = e' + 1 := ⟨e - 1, by omega⟩
    obtain ⟨x, hx, hc⟩ := h
    refine ⟨x, hx, ?_⟩
    rcases hc with h | ⟨h, S, T, h1, h2, h3⟩ | ⟨h, S, T, h1, h2, h3⟩ | ⟨h, S, h1, h2⟩ | ⟨h, S, h1, h2⟩ | ⟨h, S, h1, h2⟩
    · exact Or.inl h
    · exact Or.inr (Or.inl ⟨h, S, T, ih h1 (by omega), ih h2 (by omega), h3⟩)
    · exact Or.inr (Or.inr (Or.inl ⟨h, S, T, ih h1 (by omega), ih h2 (by omega), h3⟩))
    · exact Or.inr (Or.inr (Or.inr (Or.inl ⟨h, S, ih h1 (by omega), h2⟩)))
    · exact Or.inr (Or.inr (Or.inr (Or.inr (Or.inl ⟨h, S, ih h1 (by omega), h2⟩))))
    · exact Or.inr (Or.inr (Or.inr (Or.inr (Or.inr ⟨h, S, ih h1 (by omega), h2⟩))))
theorem rowR_one (R : Pat) : rowR [R] = R := by
  funext t i j
  apply propext
  constructor
  · rintro ⟨k, h, e⟩
    have e' : j = k := e
    rw [e']; exact h
  · intro h
    exact ⟨j, h, rfl⟩
theorem altR_one (R : Pat) : altR [R] = R := by
  funext t i j
  apply propext
  constructor
  · rintro (h | h)
    · exact h
    · exact h.elim
  · exact Or.inl
/-- A new last piece of two parts. -/
theorem PcIs.and {P : List Pc} {d e a b : Nat} {S T : Pat} {C : Nat} {Z : UInt8 → Bool} (h : PcIs P d a S) (k : PcIs P e b T) : PcIs (P ++ [⟨38, C, Z, a, b⟩]) (max d e + 1) P.length (compR S T) :=
  ⟨⟨38, C, Z, a, b⟩, by rw [List.getElem?_append_right (Nat.le_refl _)]; simp, Or.inr (Or.inl ⟨rfl, S, T, h.push.up (Nat.le_max_left _ _), k.push.up (Nat.le_max_right _ _), rfl⟩)⟩
theorem PcIs.or {P : List Pc} {d e a b : Nat} {S T : Pat} {C : Nat} {Z : UInt8 → Bool} (h : PcIs P d a S) (k : PcIs P e b T) : PcIs (P ++ [⟨124, C, Z, a, b⟩]) (max d e + 1) P.length (orR S T) :=
  ⟨⟨124, C, Z, a, b⟩, by rw [List.getElem?_append_right (Nat.le_refl _)]; simp, Or.inr (Or.inr (Or.inl ⟨rfl, S, T, h.push.up (Nat.le_max_left _ _), k.push.up (Nat.le_max_right _ _), rfl⟩))⟩
theorem PcIs.sign {P : List Pc} {d a : Nat} {S : Pat} {c : UInt8} {C B : Nat} {Z : UInt8 → Bool} (h : PcIs P d a S) (hc : isSign c = true) : PcIs (P ++ [⟨c.toNat, C, Z, a, B⟩]) (d + 1) P.length (signR c.toNat S) := by
  refine ⟨⟨c.toNat, C, Z, a, B⟩, by rw [List.getElem?_append_right (Nat.le_refl _)]; simp, ?_⟩
  unfold isSign at hc
  simp only [Bool.or_eq_true, beq_iff_eq] at hc
  rcases hc with (hc | hc) | hc
  · exact Or.inr (Or.inr (Or.inr (Or.inr (Or.inl ⟨hc, S, h.push, by rw [hc]; rfl⟩))))
  · exact Or.inr (Or.inr (Or.inr (Or.inr (Or.inr ⟨hc, S, h.push, by rw [hc]; rfl⟩))))
  · exact Or.inr (Or.inr (Or.inr (Or.inl ⟨hc, S, h.push, by rw [hc]; rfl⟩)))
/-- A new last piece without parts. -/
theorem PcIs.leaf {P : List Pc} {x : Pc} {R : Pat} (hx : Leaf x) (hR : ∀ t i j, i ≤ t.length → (R t i j ↔ oneP x t i = some j)) : PcIs (P ++ [x]) 1 P.length R :=
  ⟨x, by rw [List.getElem?_append_right (Nat.le_refl _)]; simp, Or.inl ⟨hx, hR⟩⟩
theorem one_empty {C A B : Nat} {Z : UInt8 → Bool} (t : List UInt8) (i j : Nat) : emptyR t i j ↔ oneP ⟨101, C, Z, A, B⟩ t i = some j := by
  unfold emptyR oneP
  simp [eq_comm]
theorem one_begin {C A B : Nat} {Z : UInt8 → Bool} (t : List UInt8) (i j : Nat) : beginR t i j ↔ oneP ⟨94, C, Z, A, B⟩ t i = some j := by
  unfold beginR oneP
  by_cases h : i = 0 <;> simp [h, eq_comm]
theorem one_end {C A B : Nat} {Z : UInt8 → Bool} (t : List UInt8) (i j : Nat) : endR t i j ↔ oneP ⟨36, C, Z, A, B⟩ t i = some j := by
  unfold endR oneP
  by_cases h : i = t.length <;> simp [h, eq_comm]
theorem one_byte {x : Pc} {S : UInt8 → Bool} (hk : x.K = 46 ∨ x.K = 99 ∨ x.K = 91) (hS : ∀ c, (x.K = 46 ∨ (x.K = 99 ∧ x.C = c.toNat) ∨ (x.K = 91 ∧ x.set c = true)) ↔ S c = true) (t : List UInt8) (i j : Nat) : byteR S t i j ↔ oneP x t i = some j := by
  unfold byteR oneP
  rw [if_neg (by omega), if_neg (by omega), if_neg (by omega)]
  cases h : t[i]? with
  | none => simp
  | some c =>
    simp only
    by_cases hs : S c = true
    · rw [if_pos ((hS c).2 hs)]
      constructor
      · rintro ⟨rfl, _⟩; rfl
      · intro e; cases e; exact ⟨rfl, c, rfl, hs⟩
    · rw [if_neg (fun e => hs ((hS c).1 e))]
      constructor
      · rintro ⟨_, c', e, h2⟩; cases e; exact absurd h2 hs
      · intro e; cases e
end Go.Proofs.YthhiofppbpgipaaGreatDoor
