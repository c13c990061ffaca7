import Derived.Test.YthhiofppbpgipaaGreatDoorGA
namespace Go.Proofs.YthhiofppbpgipaaGreatDoor
def hx (d : Nat) : UInt8 := if d < 10 then UInt8.ofNat (48 + d) else UInt8.ofNat (87 + d)
def hexFrom (u : Nat) : Nat → List UInt8
  | 0 => []
  | i + 1 => hx (u / 16 ^ i % 16) :: hexFrom u i
def hexMF : Nat → Nat → Nat
  | 0, _ => 0
  | f + 1, u => if u < 16 then 0 else hexMF f (u / 16) + 1
def hexM (u : Nat) : Nat := hexMF 16 u
def hexL (u : Nat) : List UInt8 := hexFrom u (hexM u + 1)
theorem hexFrom_length (u : Nat) : ∀ i, (hexFrom u i).length = i
  | 0 => rfl
  | i + 1 => by simp [hexFrom, hexFrom_length u i]
theorem hexFrom_get (u : Nat) : ∀ i j, j < i → (hexFrom u i)[j]? = some (hx (u / 16 ^ (i - 1 - j) % 16))
  | 0, j, h => by omega
  | i + 1, 0, _ => by simp [hexFrom]
  | i + 1, j + 1, h => by
    have := hexFrom_get u i j (by omega)
    simp only [hexFrom, List.getElem?_cons_succ]
    rw [this]
    congr 5; omega
theorem hexMF_eq : ∀ (m f u : Nat), m < f → u / 16 ^ m < 16 → (m = 0 ∨ 16 ≤ u / 16 ^ (m - 1)) → hexMF f u = m
  | 0, f + 1, u, _, h1, _ => by simp at h1; simp [hexMF, h1]
  | m + 1, f + 1, u, hf, h1, h2 => by
    have h3 : 16 ≤ u / 16 ^ m := by rcases h2 with h | h; omega; simpa using h
    have h4 : ¬ u < 16 := by have := Nat.div_le_self u (16 ^ m); omega
    have e1 : u / 16 / 16 ^ m = u / 16 ^ (m + 1) := by rw [Nat.div_div_eq_div_mul, Nat.pow_succ, Nat.mul_comm]
    simp only [hexMF, h4, if_false]
    rw [hexMF_eq m f (u / 16) (by omega) (by rw [e1]; exact h1) ?_]
    by_cases hm : m = 0
    · exact Or.inl hm
    · refine Or.inr ?_
      have e2 : u / 16 / 16 ^ (m - 1) = u / 16 ^ m := by
        rw [Nat.div_div_eq_div_mul]; congr 1
        obtain ⟨p, rfl⟩ : ∃ p, m = p + 1 := ⟨m - 1, by omega⟩
        rw [Nat.pow_succ, Nat.mul_comm]; rfl
      rw [e2]; exact h3
theorem hexM_eq (m u : Nat) (hm : m ≤ 15) (h1 : u / 16 ^ m < 16) (h2 : m = 0 ∨ 16 ≤ u / 16 ^ (m - 1)) : hexM u = m := hexMF_eq m 16 u (by omega) h1 h2
theorem hex_lt15 (m u : Nat) (hu : u < 18446744073709551616) (hm : m ≤ 15) (h : 16 ≤ u / 16 ^ m) : m + 1 ≤ 15 := by
  by_cases h15 : m = 15
  · subst h15
    have : u / 16 ^ 15 < 16 := by rw [Nat.div_lt_iff_lt_mul (by decide)]; exact hu
    omega
  · omega
theorem div16 (m u v : Nat) (h : v = u / 16 ^ m) : v / 16 = u / 16 ^ (m + 1) := by
  rw [h, Nat.div_div_eq_div_mul, Nat.pow_succ]
theorem hexMF_spec : ∀ (f u : Nat), u < 16 ^ (f + 1) → u / 16 ^ hexMF (f + 1) u < 16 ∧ (hexMF (f + 1) u = 0 ∨ 1 ≤ u / 16 ^ hexMF (f + 1) u) ∧ hexMF (f + 1) u ≤ f
  | 0, u, h => by simp at h; simp [hexMF, h]
  | f + 1, u, h => by
    rw [hexMF]
    split
    · rename_i h1; simp [h1]
    · rename_i h1
      have ih := hexMF_spec f (u / 16) (by rw [Nat.div_lt_iff_lt_mul (by omega)]; rw [Nat.pow_succ] at h; exact h)
      obtain ⟨a, b, c⟩ := ih
      have e : ∀ m, u / 16 ^ (m + 1) = u / 16 / 16 ^ m := fun m => by rw [Nat.div_div_eq_div_mul, Nat.pow_succ, Nat.mul_comm]
      rw [e]
      refine ⟨a, Or.inr ?_, by omega⟩
      rcases b with b | b
      · rw [b]; simp; omega
      · exact b
theorem hexM_spec (u : Nat) (h : u < 18446744073709551616) : u / 16 ^ hexM u < 16 ∧ (hexM u = 0 ∨ 1 ≤ u / 16 ^ hexM u) ∧ hexM u ≤ 15 := hexMF_spec 15 u h
theorem hexMF_le : ∀ f u, hexMF f u ≤ f := by
  intro f
  induction f with
  | zero => intro u; simp [hexMF]
  | succ f ih => intro u; simp only [hexMF]; split; omega; have := ih (u / 16); omega
theorem hexL_len (u : Nat) : (hexL u).length ≤ 100 := by
  unfold hexL; rw [hexFrom_length]
  have := hexMF_le 16 u
  unfold hexM; omega
def hexUp (u k : Nat) : List UInt8 := (hexL u).take (hexM u + 1 - k)
theorem hexUp_top (u : Nat) (h : u < 18446744073709551616) : hexUp u 16 = [] := by
  have := (hexM_spec u h).2.2
  unfold hexUp; rw [show hexM u + 1 - 16 = 0 by omega]; rfl
theorem hexUp_len (u k : Nat) : (hexUp u k).length ≤ 100 := by
  unfold hexUp; rw [List.length_take]; have := hexL_len u; omega
theorem hexUp_zero (u : Nat) : hexUp u 0 = hexL u := by
  unfold hexUp; rw [List.take_of_length_le]; unfold hexL; rw [hexFrom_length]; omega
theorem hexUp_step (u j : Nat) (h : j ≤ hexM u) : hexUp u j = hexUp u (j + 1) ++ [hx (u / 16 ^ j % 16)] := by
  unfold hexUp
  rw [show hexM u + 1 - j = (hexM u - j) + 1 by omega, show hexM u + 1 - (j + 1) = hexM u - j by omega, List.take_add_one]
  have : (hexL u)[hexM u - j]? = some (hx (u / 16 ^ j % 16)) := by
    unfold hexL; rw [hexFrom_get u _ _ (by omega)]
    congr 5; omega
  rw [this]; rfl
theorem hexUp_skip (u j : Nat) (h : hexM u < j) : hexUp u j = [] := by
  unfold hexUp; rw [show hexM u + 1 - j = 0 by omega]; rfl
theorem hexUp_ne (u j : Nat) (h : j ≤ hexM u) : hexUp u j ≠ [] := by rw [hexUp_step u j h]; simp
/-- Above the topmost digit that is not 0 there is 0 alone. -/
theorem hex_above (u j : Nat) (h : u < 18446744073709551616) (hj : hexM u < j) : u / 16 ^ j % 16 = 0 := by
  have h1 := (hexM_spec u h).1
  have : u / 16 ^ j = u / 16 ^ hexM u / 16 ^ (j - hexM u) := by rw [Nat.div_div_eq_div_mul, ← Nat.pow_add]; congr 2; omega
  rw [this]
  have h2 : 16 ≤ 16 ^ (j - hexM u) := by
    obtain ⟨p, hp⟩ : ∃ p, j - hexM u = p + 1 := ⟨j - hexM u - 1, by omega⟩
    rw [hp, Nat.pow_succ]
    have := Nat.one_le_two_pow (n := 0)
    have h3 : 1 ≤ 16 ^ p := Nat.one_le_pow _ _ (by omega)
    omega
  rw [Nat.div_eq_of_lt (by omega)]
theorem hex_at_top (u : Nat) (h : u < 18446744073709551616) (h0 : hexM u ≠ 0) : u / 16 ^ hexM u % 16 ≠ 0 := by
  have h1 := hexM_spec u h
  omega
/-- What the reference's test says: a digit is put behind just where the place is not above the topmost digit. -/
theorem hex_test (u j : Nat) (h : u < 18446744073709551616) : (u / 16 ^ j % 16 ≠ 0 ∨ hexUp u (j + 1) ≠ [] ∨ j = 0) ↔ j ≤ hexM u := by
  constructor
  · intro hh
    by_cases hj : j ≤ hexM u
    · exact hj
    · exfalso
      rcases hh with hh | hh | hh
      · exact hh (hex_above u j h (by omega))
      · exact hh (hexUp_skip u (j + 1) (by omega))
      · omega
  · intro hj
    by_cases h1 : j = hexM u
    · subst h1
      by_cases h0 : hexM u = 0
      · exact Or.inr (Or.inr h0)
      · exact Or.inl (hex_at_top u h h0)
    · exact Or.inr (Or.inl (hexUp_ne u (j + 1) (by omega)))
end Go.Proofs.YthhiofppbpgipaaGreatDoor
