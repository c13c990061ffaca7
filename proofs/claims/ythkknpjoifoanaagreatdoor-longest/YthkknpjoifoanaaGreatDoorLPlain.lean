import Derived.Test.YthkknpjoifoanaaGreatDoorQ01
/- What a pattern means in a part of a text, and what it means between the ends: plain functions on lists of bytes. Nothing of the program is imported. -/
namespace Go.Proofs.YthkknpjoifoanaaGreatDoor
/-- A meaning that does not ask for the ends of the text: of a part of the text it says what it says of the text there. -/
def Loc (R : Pat) : Prop := (∀ t i j, R t i j → i ≤ j) ∧ ∀ (t : List UInt8) (a n i j : Nat), a + n ≤ t.length → j ≤ n → (R ((t.drop a).take n) i j ↔ R t (a + i) (a + j))
theorem loc_byte (S : UInt8 → Bool) : Loc (byteR S) := by
  refine ⟨fun t i j h => by have := h.1; omega, fun t a n i j ha hj => ?_⟩
  constructor
  · rintro ⟨h1, c, h2, h3⟩
    rw [List.getElem?_take, if_pos (by omega), List.getElem?_drop] at h2
    exact ⟨by omega, c, h2, h3⟩
  · rintro ⟨h1, c, h2, h3⟩
    refine ⟨by omega, c, ?_, h3⟩
    rw [List.getElem?_take, if_pos (by omega), List.getElem?_drop]; exact h2
theorem loc_empty : Loc emptyR := ⟨fun t i j h => by have : j = i := h; omega, fun t a n i j _ _ => by unfold emptyR; omega⟩
theorem Loc.comp {R S : Pat} (h : Loc R) (k : Loc S) : Loc (compR R S) := by
  refine ⟨fun t i j ⟨m, h1, h2⟩ => Nat.le_trans (h.1 _ _ _ h1) (k.1 _ _ _ h2), fun t a n i j ha hj => ?_⟩
  constructor
  · rintro ⟨m, h1, h2⟩
    have := k.1 _ _ _ h2
    exact ⟨a + m, (h.2 t a n i m ha (by omega)).1 h1, (k.2 t a n m j ha hj).1 h2⟩
  · rintro ⟨m, h1, h2⟩
    have h3 := h.1 _ _ _ h1
    have h4 := k.1 _ _ _ h2
    obtain ⟨q, rfl⟩ : ∃ q, m = a + q := ⟨m - a, by omega⟩
    exact ⟨q, (h.2 t a n i q ha (by omega)).2 h1, (k.2 t a n q j ha hj).2 h2⟩
theorem Loc.or {R S : Pat} (h : Loc R) (k : Loc S) : Loc (orR R S) :=
  ⟨fun t i j h1 => h1.elim (h.1 t i j) (k.1 t i j), fun t a n i j ha hj => ⟨fun h1 => h1.imp (h.2 t a n i j ha hj).1 (k.2 t a n i j ha hj).1, fun h1 => h1.imp (h.2 t a n i j ha hj).2 (k.2 t a n i j ha hj).2⟩⟩
theorem Loc.opt {R : Pat} (h : Loc R) : Loc (optR R) :=
  ⟨fun t i j h1 => h1.elim (fun e => by omega) (h.1 t i j), fun t a n i j ha hj => ⟨fun h1 => h1.imp (fun e => by omega) (h.2 t a n i j ha hj).1, fun h1 => h1.imp (fun e => by omega) (h.2 t a n i j ha hj).2⟩⟩
theorem Loc.iter {R : Pat} (h : Loc R) (m : Nat) : Loc (fun t => iterR (R t) m) := by
  induction m with
  | zero => exact loc_empty
  | succ m ih => exact h.comp ih
theorem Loc.star {R : Pat} (h : Loc R) : Loc (starR R) :=
  ⟨fun t i j ⟨m, h1⟩ => (h.iter m).1 t i j h1, fun t a n i j ha hj => ⟨fun ⟨m, h1⟩ => ⟨m, ((h.iter m).2 t a n i j ha hj).1 h1⟩, fun ⟨m, h1⟩ => ⟨m, ((h.iter m).2 t a n i j ha hj).2 h1⟩⟩⟩
theorem Loc.plus {R : Pat} (h : Loc R) : Loc (plusR R) := h.comp h.star
theorem loc_row {l : List Pat} (h : ∀ R, R ∈ l → Loc R) : Loc (rowR l) := by
  induction l with
  | nil => exact loc_empty
  | cons A l ih => exact (h A List.mem_cons_self).comp (ih (fun R hR => h R (List.mem_cons_of_mem _ hR)))
theorem loc_alt {l : List Pat} (h : ∀ R, R ∈ l → Loc R) : Loc (altR l) := by
  induction l with
  | nil => exact ⟨fun _ _ _ h => h.elim, fun _ _ _ _ _ _ _ => Iff.rfl⟩
  | cons A l ih => exact (h A List.mem_cons_self).or (ih (fun R hR => h R (List.mem_cons_of_mem _ hR)))
theorem Loc.sign {R : Pat} (h : Loc R) (c : Nat) : Loc (signR c R) := by
  unfold signR
  split
  · exact h.star
  · split
    · exact h.plus
    · exact h.opt
theorem loc_signs {n : Nat} {l : List UInt8} {i : Nat} {R : Pat} (h : Loc R) : Loc (signsP n l i R).1 := by
  induction n generalizing i R with
  | zero => exact h
  | succ n ih =>
    unfold signsP
    split
    · exact h
    · split
      · exact ih (h.sign _)
      · exact h
def NoEnds (l : List UInt8) : Prop := ∀ (k : Nat) c, l[k]? = some c → c.toNat ≠ 94 ∧ c.toNat ≠ 36
def LocSub (sub : Nat → Option (Pat × Nat)) : Prop := ∀ i R j, sub i = some (R, j) → Loc R
theorem loc_unit {sub l i R j} (hn : NoEnds l) (hs : LocSub sub) (h : unitP sub l i = some (R, j)) : Loc R := by
  unfold unitP at h
  split at h
  · cases h
  · rename_i c hc
    have hne := hn i c hc
    split at h
    · cases h
    · split at h
      · rename_i h1; exact absurd h1 hne.1
      · split at h
        · rename_i h1; exact absurd h1 hne.2
        · split at h
          · split at h
            · cases h
            · rename_i R' k hk
              split at h
              · cases h; exact hs _ _ _ hk
              · cases h
          · split at h
            · split at h
              · cases h
              · cases h; exact loc_byte _
            · split at h
              · cases h; exact loc_byte _
              · split at h
                · split at h
                  · cases h
                  · cases h; exact loc_byte _
                · cases h; exact loc_byte _
theorem loc_rep {sub l i R j} (hn : NoEnds l) (hs : LocSub sub) (h : repP sub l i = some (R, j)) : Loc R := by
  unfold repP at h
  split at h
  · cases h
  · rename_i R' k hk
    have h1 := loc_signs (n := l.length + 1) (l := l) (i := k) (loc_unit hn hs hk)
    have h2 := Option.some.inj h
    rw [h2] at h1
    exact h1
theorem loc_rowP {sub l n i acc R j} (hn : NoEnds l) (hs : LocSub sub) (ha : ∀ A, A ∈ acc → Loc A) (h : rowP sub l n i acc = some (R, j)) : Loc R := by
  induction n generalizing i acc with
  | zero => cases h
  | succ n ih =>
    unfold rowP at h
    split at h
    · split at h
      · cases h
      · rename_i R' k hk
        refine ih (fun A hA => ?_) h
        rcases List.mem_append.1 hA with hA | hA
        · exact ha A hA
        · simp at hA; subst hA; exact loc_rep hn hs hk
    · split at h
      · cases h
      · cases h; exact loc_row ha
theorem loc_altP {sub l n i acc R j} (hn : NoEnds l) (hs : LocSub sub) (ha : ∀ A, A ∈ acc → Loc A) (h : altP sub l n i acc = some (R, j)) : Loc R := by
  induction n generalizing i acc with
  | zero => cases h
  | succ n ih =>
    unfold altP at h
    split at h
    · cases h
    · rename_i R' k hk
      have hR' := loc_rowP hn hs (fun A hA => by cases hA) hk
      have hall : ∀ A, A ∈ acc ++ [R'] → Loc A := fun A hA => by
        rcases List.mem_append.1 hA with hA | hA
        · exact ha A hA
        · simp at hA; subst hA; exact hR'
      split at h
      · exact ih hall h
      · cases h; exact loc_alt hall
theorem loc_choice {l : List UInt8} (hn : NoEnds l) (f : Nat) : LocSub (choiceP l f) := by
  induction f with
  | zero => intro i R j h; cases h
  | succ f ih => intro i R j h; exact loc_altP hn ih (fun A hA => by cases hA) h
theorem loc_whole {l : List UInt8} {R : Pat} (hn : NoEnds l) (h : wholeP l = some R) : Loc R := by
  unfold wholeP at h
  split at h
  · cases h; exact loc_empty
  · split at h
    · cases h
    · rename_i R' j hj
      split at h
      · cases h; exact loc_choice hn _ _ _ _ hj
      · cases h
/-- l' holds l from place 2 on, and a closing bracket behind it. -/
structure Sh (l l' : List UInt8) : Prop where
  len : l'.length = l.length + 4
  at' : ∀ i, i < l.length → l'[i + 2]? = l[i]?
  last : l'[l.length + 2]? = some 41
theorem Sh.some {l l' : List UInt8} (h : Sh l l') {i : Nat} {c : UInt8} (hc : l[i]? = some c) : l'[i + 2]? = some c := by rw [h.at' i (some_lt hc)]; exact hc
theorem Sh.has {l l' : List UInt8} (h : Sh l l') {i c : Nat} (hi : i < l.length) : hasB l' (i + 2) c = hasB l i c := by unfold hasB; rw [h.at' i hi]
theorem Sh.hasT {l l' : List UInt8} (h : Sh l l') {i c : Nat} (hi : hasB l i c = true) : hasB l' (i + 2) c = true := by rw [h.has (hasB_lt hi)]; exact hi
theorem Sh.bar {l l' : List UInt8} (h : Sh l l') {i : Nat} (hi : i ≤ l.length) : hasB l' (i + 2) 124 = hasB l i 124 := by
  by_cases h1 : i < l.length
  · exact h.has h1
  · obtain rfl : i = l.length := by omega
    unfold hasB; rw [h.last, List.getElem?_eq_none (Nat.le_refl _)]; rfl
theorem sh_low {l l' i lo j} (h : Sh l l') (k : lowP l i = some (lo, j)) : lowP l' (i + 2) = some (lo, j + 2) := by
  unfold lowP at k ⊢
  split at k
  · cases k
  · rename_i c hc
    rw [h.some hc]
    show (if c.toNat = 92 then _ else _) = _
    split at k
    · rename_i h92
      rw [if_pos h92]
      split at k
      · cases k
      · rename_i d hd
        have := h.some hd
        rw [show i + 1 + 2 = i + 2 + 1 by omega] at this
        rw [this]; cases k; rfl
    · rename_i h92
      rw [if_neg h92]; cases k; rfl
theorem sh_member {l l' i S j} (h : Sh l l') (k : memberP l i = some (S, j)) (hj : j < l.length) (hd : hasB l j 45 = true → j + 1 < l.length) : memberP l' (i + 2) = some (S, j + 2) := by
  unfold memberP at k ⊢
  split at k
  · cases k
  · rename_i lo m hm
    rw [sh_low h hm]
    show (match hasB l' (m + 2) 45, l'[m + 2 + 1]? with | true, some h => _ | _, _ => _) = _
    cases h1 : hasB l m 45 with
    | true =>
      rw [h.hasT h1]
      cases h2 : l[m + 1]? with
      | none =>
        rw [h1, h2] at k
        simp at k
        obtain ⟨_, rfl⟩ := k
        have := hd h1
        rw [List.getElem?_eq_getElem this] at h2; cases h2
      | some x =>
        have h3 := h.some h2
        rw [show m + 1 + 2 = m + 2 + 1 by omega] at h3
        rw [h3]
        rw [h1, h2] at k
        simp only at k ⊢
        split at k
        · rename_i h4; rw [if_pos h4]; cases k; rfl
        · rename_i h4
          rw [if_neg h4]
          split at k
          · cases k
          · rename_i h5
            rw [if_neg h5]; cases k
            congr 2
    | false =>
      rw [h1] at k
      have hk : some (rangeS lo lo, m) = some (S, j) := by cases h2 : l[m + 1]? <;> rw [h2] at k <;> exact k
      cases hk
      rw [h.has hj, h1]
theorem sh_members {l l' n n' i f S T j} (h : Sh l l') (hn : n ≤ n') (k : membersP n l i f S = some (T, j)) : membersP n' l' (i + 2) f S = some (T, j + 2) := by
  induction n generalizing n' i f S with
  | zero => cases k
  | succ n ih =>
    obtain ⟨m, rfl⟩ : ∃ m, n' = m + 1 := ⟨n' - 1, by omega⟩
    unfold membersP at k ⊢
    split at k
    · rename_i h1
      rw [if_pos ⟨h1.1, h.hasT h1.2⟩]
      cases k; rfl
    · rename_i h1
      split at k
      · cases k
      · rename_i U q hq
        have hp := memberP_prog hq
        have hp2 := membersP_prog k
        rw [if_neg (by rw [h.has (by omega)]; exact h1)]
        rw [sh_member h hq (by omega) (fun h45 => ?_)]
        · exact ih (by omega) k
        · cases n with
          | zero => cases k
          | succ n =>
            unfold membersP at k
            split at k
            · rename_i h2
              exfalso
              have h3 := h2.2
              unfold hasB at h45 h3
              split at h45
              · rename_i x hx
                rw [hx] at h3
                simp at h45 h3
                omega
              · cases h45
            · split at k
              · cases k
              · rename_i V q2 hq2
                have := memberP_prog hq2
                have := membersP_prog k
                omega
theorem sh_class {l l' i S j} (h : Sh l l') (k : classP l i = some (S, j)) : classP l' (i + 2) = some (S, j + 2) := by
  have hp := classP_prog k
  unfold classP at k ⊢
  rw [h.has (by omega)]
  have hl := h.len
  split at k
  · rename_i h1
    rw [if_pos h1]
    split at k
    · cases k
    · rename_i U q hq
      have := sh_members h (n' := l'.length + 1) (by omega) hq
      rw [show i + 1 + 2 = i + 2 + 1 by omega] at this
      rw [this]; cases k; rfl
  · rename_i h1
    rw [if_neg h1]
    exact sh_members h (by omega) k
theorem sh_signs {l l' : List UInt8} {n n' i : Nat} {R : Pat} (h : Sh l l') (hn : n ≤ n') (hi : i ≤ l.length) (hf : l.length < n + i) : signsP n' l' (i + 2) R = ((signsP n l i R).1, (signsP n l i R).2 + 2) := by
  induction n generalizing n' i R with
  | zero => omega
  | succ n ih =>
    obtain ⟨m, rfl⟩ : ∃ m, n' = m + 1 := ⟨n' - 1, by omega⟩
    unfold signsP
    by_cases h1 : i < l.length
    · rw [h.at' i h1, List.getElem?_eq_getElem h1]
      simp only
      split
      · exact ih (by omega) (by omega) (by omega)
      · rfl
    · obtain rfl : i = l.length := by omega
      rw [h.last, List.getElem?_eq_none (Nat.le_refl _)]
      rfl
def SubSh (sub sub' : Nat → Option (Pat × Nat)) : Prop := ∀ i R j, sub i = some (R, j) → sub' (i + 2) = some (R, j + 2)
theorem sh_unit {l l' sub sub' i R j} (h : Sh l l') (hs : SubSh sub sub') (k : unitP sub l i = some (R, j)) : unitP sub' l' (i + 2) = some (R, j + 2) := by
  unfold unitP at k ⊢
  split at k
  · cases k
  · rename_i c hc
    rw [h.some hc]
    simp only
    split at k
    · cases k
    · rename_i h1
      rw [if_neg h1]
      split at k
      · rename_i h2; rw [if_pos h2]; cases k; rfl
      · rename_i h2
        rw [if_neg h2]
        split at k
        · rename_i h3; rw [if_pos h3]; cases k; rfl
        · rename_i h3
          rw [if_neg h3]
          split at k
          · rename_i h4
            rw [if_pos h4]
            split at k
            · cases k
            · rename_i R' q hq
              have := hs _ _ _ hq
              rw [show i + 1 + 2 = i + 2 + 1 by omega] at this
              rw [this]
              simp only
              split at k
              · rename_i h5; rw [if_pos (h.hasT h5)]; cases k; rfl
              · cases k
          · rename_i h4
            rw [if_neg h4]
            split at k
            · rename_i h5
              rw [if_pos h5]
              split at k
              · cases k
              · rename_i S q hq
                have := sh_class h hq
                rw [show i + 1 + 2 = i + 2 + 1 by omega] at this
                rw [this]; cases k; rfl
            · rename_i h5
              rw [if_neg h5]
              split at k
              · rename_i h6; rw [if_pos h6]; cases k; rfl
              · rename_i h6
                rw [if_neg h6]
                split at k
                · rename_i h7
                  rw [if_pos h7]
                  split at k
                  · cases k
                  · rename_i d hd
                    have := h.some hd
                    rw [show i + 1 + 2 = i + 2 + 1 by omega] at this
                    rw [this]; cases k; rfl
                · rename_i h7
                  rw [if_neg h7]; cases k; rfl
theorem sh_rep {l l' sub sub' i R j} (h : Sh l l') (hs : SubSh sub sub') (hp : Prog l sub) (k : repP sub l i = some (R, j)) : repP sub' l' (i + 2) = some (R, j + 2) := by
  unfold repP at k ⊢
  split at k
  · cases k
  · rename_i R' q hq
    rw [sh_unit h hs hq]
    have := unitP_prog hp hq
    have hl := h.len
    simp only
    rw [sh_signs (n := l.length + 1) h (by omega) this.2 (by omega)]
    have e := Option.some.inj k
    rw [e]
theorem sh_row {l l' sub sub' n n' i acc R j} (h : Sh l l') (hs : SubSh sub sub') (hp : Prog l sub) (hn : n ≤ n') (hi : i ≤ l.length) (k : rowP sub l n i acc = some (R, j)) : rowP sub' l' n' (i + 2) acc = some (R, j + 2) := by
  induction n generalizing n' i acc with
  | zero => cases k
  | succ n ih =>
    obtain ⟨m, rfl⟩ : ∃ m, n' = m + 1 := ⟨n' - 1, by omega⟩
    have hl := h.len
    unfold rowP at k ⊢
    split at k
    · rename_i h1
      rw [if_pos ⟨by omega, by rw [h.has h1.1]; exact h1.2.1, by rw [h.has h1.1]; exact h1.2.2⟩]
      split at k
      · cases k
      · rename_i R' q hq
        rw [sh_rep h hs hp hq]
        exact ih (by omega) (repP_prog hp hq).2 k
    · rename_i h1
      rw [if_neg]
      · split at k
        · cases k
        · rename_i h2; rw [if_neg h2]; cases k; rfl
      · intro h2
        by_cases h3 : i < l.length
        · rw [h.has h3, h.has h3] at h2; exact h1 ⟨h3, h2.2⟩
        · obtain rfl : i = l.length := by omega
          have := h2.2.2
          unfold hasB at this
          rw [h.last] at this
          simp at this
theorem sh_alt {l l' sub sub' n n' i acc R j} (h : Sh l l') (hs : SubSh sub sub') (hp : Prog l sub) (hn : n ≤ n') (hi : i ≤ l.length) (k : altP sub l n i acc = some (R, j)) : altP sub' l' n' (i + 2) acc = some (R, j + 2) := by
  induction n generalizing n' i acc with
  | zero => cases k
  | succ n ih =>
    obtain ⟨m, rfl⟩ : ∃ m, n' = m + 1 := ⟨n' - 1, by omega⟩
    have hl := h.len
    unfold altP at k ⊢
    split at k
    · cases k
    · rename_i R' q hq
      rw [sh_row h hs hp (by omega) hi hq]
      have hq2 := (rowP_prog hp hq hi).2.1
      simp only
      rw [h.bar hq2]
      split at k
      · rename_i h1
        rw [if_pos h1, show q + 2 + 1 = q + 1 + 2 by omega]
        exact ih (by omega) (by have := hasB_lt h1; omega) k
      · rename_i h1
        rw [if_neg h1]; cases k; rfl
theorem sh_choice {l l' : List UInt8} (h : Sh l l') {f f' : Nat} (hf : f ≤ f') : SubSh (choiceP l f) (choiceP l' f') := by
  induction f generalizing f' with
  | zero => intro i R j k; cases k
  | succ f ih =>
    obtain ⟨m, rfl⟩ : ∃ m, f' = m + 1 := ⟨f' - 1, by omega⟩
    intro i R j k
    have hl := h.len
    by_cases hi : i ≤ l.length
    · unfold choiceP at k ⊢
      exact sh_alt h (ih (by omega)) (choice_prog l f) (by omega) hi k
    · rw [choiceP_beyond l (f + 1) i (by omega)] at k; cases k
/-- A pattern between the ends of a text. -/
def wholeOf (l : List UInt8) : List UInt8 := 94 :: 40 :: (l ++ [41, 36])
theorem wholeOf_len (l : List UInt8) : (wholeOf l).length = l.length + 4 := by simp [wholeOf]
theorem wholeOf_sh (l : List UInt8) : Sh l (wholeOf l) where
  len := wholeOf_len l
  at' i hi := by
    unfold wholeOf
    rw [List.getElem?_cons_succ, List.getElem?_cons_succ, List.getElem?_append_left hi]
  last := by
    unfold wholeOf
    rw [List.getElem?_cons_succ, List.getElem?_cons_succ, List.getElem?_append_right (Nat.le_refl _)]
    simp
theorem wholeOf_end (l : List UInt8) : (wholeOf l)[l.length + 3]? = some 36 := by
  unfold wholeOf
  rw [show l.length + 3 = (l.length + 1) + 1 + 1 by omega, List.getElem?_cons_succ, List.getElem?_cons_succ, List.getElem?_append_right (by omega)]
  simp
theorem whole_whole {l : List UInt8} {R : Pat} (hl : l ≠ []) (h : wholeP l = some R) : wholeP (wholeOf l) = some (altR [rowR [beginR, R, endR]]) := by
  have hlen := wholeOf_len l
  have hz : ¬ l.length = 0 := fun e => hl (List.length_eq_zero_iff.1 e)
  unfold wholeP at h
  rw [if_neg hz] at h
  split at h
  · cases h
  · rename_i R' j hj
    split at h
    · rename_i hjl
      obtain rfl := Option.some.inj h
      subst hjl
      have hin := sh_choice (wholeOf_sh l) (f := l.length + 1) (f' := l.length + 4) (by omega) 0 R' l.length hj
      have s0 : (wholeOf l)[0]? = some 94 := rfl
      have s1 : (wholeOf l)[1]? = some 40 := rfl
      have s2 := (wholeOf_sh l).last
      have s3 := wholeOf_end l
      have s4 : (wholeOf l)[l.length + 4]? = none := List.getElem?_eq_none (by omega)
      generalize wholeOf l = L at *
      have g0 : repP (choiceP L (l.length + 4)) L 0 = some (beginR, 1) := by
        unfold repP unitP
        rw [s0]
        show some (signsP (L.length + 1) L 1 beginR) = _
        unfold signsP
        rw [s1]; rfl
      have g1 : repP (choiceP L (l.length + 4)) L 1 = some (R', l.length + 3) := by
        unfold repP unitP
        rw [s1]
        show (match (match choiceP L (l.length + 4) 2 with | none => none | some (R, j) => if hasB L j 41 then some (R, j + 1) else none) with | none => none | some (R, j) => some (signsP (L.length + 1) L j R)) = _
        rw [show choiceP L (l.length + 4) 2 = some (R', l.length + 2) from hin]
        have h41 : hasB L (l.length + 2) 41 = true := by unfold hasB; rw [s2]; rfl
        simp only
        rw [if_pos h41]
        simp only
        unfold signsP
        rw [show l.length + 2 + 1 = l.length + 3 by omega, s3]; rfl
      have g3 : repP (choiceP L (l.length + 4)) L (l.length + 3) = some (endR, l.length + 4) := by
        unfold repP unitP
        rw [s3]
        show some (signsP (L.length + 1) L (l.length + 3 + 1) endR) = _
        unfold signsP
        rw [show l.length + 3 + 1 = l.length + 4 by omega, s4]
      have b0 : ∀ c, hasB L 0 c = ((94 : Nat) == c) := fun c => by unfold hasB; rw [s0]; rfl
      have b1 : ∀ c, hasB L 1 c = ((40 : Nat) == c) := fun c => by unfold hasB; rw [s1]; rfl
      have b3 : ∀ c, hasB L (l.length + 3) c = ((36 : Nat) == c) := fun c => by unfold hasB; rw [s3]; rfl
      have b4 : ∀ c, hasB L (l.length + 4) c = false := fun c => by unfold hasB; rw [s4]
      have hrow : rowP (choiceP L (l.length + 4)) L (L.length + 1) 0 [] = some (rowR [beginR, R', endR], l.length + 4) := by
        rw [hlen, show l.length + 4 + 1 = (l.length + 1) + 1 + 1 + 1 + 1 by omega]
        rw [rowP, if_pos ⟨by omega, by rw [b0]; rfl, by rw [b0]; rfl⟩, g0]
        simp only
        rw [rowP, if_pos ⟨by omega, by rw [b1]; rfl, by rw [b1]; rfl⟩, g1]
        simp only
        rw [rowP, if_pos ⟨by omega, by rw [b3]; rfl, by rw [b3]; rfl⟩, g3]
        simp only
        rw [rowP, if_neg (by omega)]
        rfl
      unfold wholeP
      rw [if_neg (by omega), hlen, choiceP, hlen, altP, hrow]
      simp only
      rw [b4]
      simp only [Bool.false_eq_true, if_false, if_true, List.nil_append]
    · cases h
theorem wholeR {R : Pat} {x : List UInt8} {b e : Nat} : altR [rowR [beginR, R, endR]] x b e ↔ b = 0 ∧ e = x.length ∧ R x 0 x.length := by
  constructor
  · rintro (⟨k, ⟨h1, h2⟩, m, h3, q, ⟨h4, h5⟩, h6⟩ | h)
    · have : e = q := h6
      subst this h5 h4 h2 h1
      exact ⟨rfl, rfl, h3⟩
    · exact h.elim
  · rintro ⟨rfl, rfl, h⟩
    exact Or.inl ⟨0, ⟨rfl, rfl⟩, _, h, _, ⟨rfl, rfl⟩, rfl⟩
/-- What Match finds for the pattern between the ends: the whole text, or nothing. -/
theorem finds_whole {R : Pat} {x : List UInt8} {best : Option (Nat × Nat)} (h : Finds (altR [rowR [beginR, R, endR]]) x 0 0 best) :
    (R x 0 x.length ∧ best = some (0, x.length)) ∨ (¬ R x 0 x.length ∧ best = none) := by
  by_cases hr : R x 0 x.length
  · obtain ⟨B, l, rfl, _⟩ := h.2 0 x.length (Nat.le_refl _) (Nat.zero_le _) (by omega) (wholeR.2 ⟨rfl, rfl, hr⟩)
    obtain ⟨_, _, _, h4⟩ := h.1 B l rfl
    obtain ⟨rfl, h5, _⟩ := wholeR.1 h4
    exact Or.inl ⟨hr, by rw [show l = x.length by omega]⟩
  · refine Or.inr ⟨hr, ?_⟩
    match best with
    | none => rfl
    | some (B, l) =>
      obtain ⟨_, _, _, h4⟩ := h.1 B l rfl
      exact absurd (wholeR.1 h4).2.2 hr
/-- Bytes that stand for themselves in a pattern. -/
def plainB (c : UInt8) : Bool := decide (48 ≤ c.toNat) && decide (c.toNat ≤ 122) && ! (c.toNat == 63) && (decide (c.toNat < 91) || decide (95 < c.toNat))
theorem plainB_is {c : UInt8} (h : plainB c = true) : isSign c = false ∧ c.toNat ≠ 41 ∧ c.toNat ≠ 124 ∧ c.toNat ≠ 94 ∧ c.toNat ≠ 36 ∧ c.toNat ≠ 40 ∧ c.toNat ≠ 91 ∧ c.toNat ≠ 46 ∧ c.toNat ≠ 92 := by
  unfold plainB at h
  simp only [Bool.and_eq_true, Bool.or_eq_true, decide_eq_true_eq, Bool.not_eq_true', beq_eq_false_iff_ne] at h
  obtain ⟨⟨⟨h1, h2⟩, h3⟩, h4⟩ := h
  refine ⟨?_, by omega, by omega, by omega, by omega, by omega, by omega, by omega, by omega⟩
  unfold isSign
  simp only [Bool.or_eq_false_iff, beq_eq_false_iff_ne]
  omega
def PlainL (l : List UInt8) : Prop := ∀ (k : Nat) c, l[k]? = some c → plainB c = true
def litR (l : List UInt8) : List Pat := l.map (fun c => byteR (oneS c))
theorem plain_rep {sub l i c} (hp : PlainL l) (hc : l[i]? = some c) : repP sub l i = some (byteR (oneS c), i + 1) := by
  obtain ⟨p1, p2, p3, p4, p5, p6, p7, p8, p9⟩ := plainB_is (hp i c hc)
  unfold repP unitP
  rw [hc]
  simp only
  rw [if_neg (by rw [p1]; simp; omega), if_neg p4, if_neg p5, if_neg p6, if_neg p7, if_neg p8, if_neg p9]
  simp only
  unfold signsP
  cases hd : l[i + 1]? with
  | none => rfl
  | some d => simp only; rw [(plainB_is (hp _ d hd)).1]; rfl
theorem plain_has {l : List UInt8} {i : Nat} {c : Nat} (hp : PlainL l) (hc : c = 124 ∨ c = 41) : hasB l i c = false := by
  unfold hasB
  split
  · rename_i x hx
    obtain ⟨p1, p2, p3, _⟩ := plainB_is (hp i x hx)
    rw [beq_eq_false_iff_ne]
    rcases hc with rfl | rfl
    · exact p3
    · exact p2
  · rfl
theorem plain_row {sub l} (hp : PlainL l) : ∀ (m n i : Nat) (acc : List Pat), l.length - i = m → m < n → i ≤ l.length → (acc ≠ [] ∨ i < l.length) → rowP sub l n i acc = some (rowR (acc ++ litR (l.drop i)), l.length) := by
  intro m
  induction m with
  | zero =>
    intro n i acc hm hn hi ha
    obtain ⟨n, rfl⟩ : ∃ k, n = k + 1 := ⟨n - 1, by omega⟩
    obtain rfl : i = l.length := by omega
    rw [rowP, if_neg (by omega), if_neg (by
      rcases ha with ha | ha
      · exact fun e => ha (List.length_eq_zero_iff.1 e)
      · omega)]
    simp [litR]
  | succ m ih =>
    intro n i acc hm hn hi ha
    obtain ⟨n, rfl⟩ : ∃ k, n = k + 1 := ⟨n - 1, by omega⟩
    have hlt : i < l.length := by omega
    have hc : l[i]? = some l[i] := List.getElem?_eq_getElem hlt
    rw [rowP, if_pos ⟨hlt, plain_has hp (Or.inl rfl), plain_has hp (Or.inr rfl)⟩, plain_rep hp hc]
    simp only
    rw [ih n (i + 1) _ (by omega) (by omega) (by omega) (Or.inl (by simp)), List.drop_eq_getElem_cons hlt, List.append_assoc]
    rfl
theorem plain_whole {l : List UInt8} (hp : PlainL l) (hl : l ≠ []) : wholeP l = some (altR [rowR (litR l)]) := by
  have hz : ¬ l.length = 0 := fun e => hl (List.length_eq_zero_iff.1 e)
  unfold wholeP
  rw [if_neg hz, choiceP, altP, plain_row hp l.length _ 0 [] (by omega) (by omega) (by omega) (Or.inr (by omega))]
  simp only
  rw [plain_has hp (Or.inl rfl)]
  simp
theorem oneS_is {c d : UInt8} : oneS c d = true ↔ d = c := by
  unfold oneS rangeS
  simp only [Bool.and_eq_true, decide_eq_true_eq]
  constructor
  · intro h; exact UInt8.toNat_inj.1 (by omega)
  · intro h; subst h; exact ⟨Nat.le_refl _, Nat.le_refl _⟩
theorem lit_row {l t : List UInt8} {i j : Nat} (hi : i ≤ t.length) : rowR (litR l) t i j ↔ j = i + l.length ∧ j ≤ t.length ∧ (t.drop i).take l.length = l := by
  induction l generalizing i with
  | nil => simp [litR, rowR, emptyR]; omega
  | cons c l ih =>
    show (∃ k, byteR (oneS c) t i k ∧ rowR (litR l) t k j) ↔ _
    constructor
    · rintro ⟨k, ⟨rfl, d, h1, h2⟩, h3⟩
      have hlt := some_lt h1
      obtain ⟨h4, h5, h6⟩ := (ih (by omega)).1 h3
      have := oneS_is.1 h2
      subst this
      refine ⟨by simp; omega, h5, ?_⟩
      have hd : t.drop i = d :: t.drop (i + 1) := by
        obtain ⟨hk, e⟩ := List.getElem?_eq_some_iff.1 h1
        rw [List.drop_eq_getElem_cons hk, e]
      rw [hd]; simp; exact h6
    · rintro ⟨h1, h2, h3⟩
      simp at h1
      have hlt : i < t.length := by omega
      have hd : t.drop i = t[i] :: t.drop (i + 1) := List.drop_eq_getElem_cons hlt
      rw [hd, List.length_cons, List.take_succ_cons] at h3
      have h3 := List.cons.inj h3
      refine ⟨i + 1, ⟨rfl, t[i], List.getElem?_eq_getElem hlt, oneS_is.2 h3.1⟩, (ih (by omega)).2 ⟨by omega, h2, h3.2⟩⟩
end Go.Proofs.YthkknpjoifoanaaGreatDoor
