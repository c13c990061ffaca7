import Derived.Test.YthhiofppbpgipaaGreatDoorMRCls
import Derived.BigQuiet
import Derived.Deep.QuietTactic
namespace Go.Proofs.YthhiofppbpgipaaGreatDoor
open Go.RowKit
/-- The contract of the reference's reading of a choice, at fuel f. -/
def EitherOK (f : Nat) : Prop := ∀ (b : Nat) (s : ByteArray) (i : Nat) (v : Value) (P : List Pc) (w : World), s.size ≤ 500 → i ≤ s.size → s.size - i < f → P.length ≤ 2 * i → RefP w b s i false v P → Calls Tryz.prog 54 #[.pointer (some ⟨b, 0, none⟩)] w (RRPost b s i v P (choiceP s.data.toList f i) w)
def ClassOK : Prop := ∀ (b : Nat) (s : ByteArray) (_ : s.size ≤ 500) (i : Nat) (_ : i ≤ s.size) (v : Value) (P : List Pc) (_ : P.length ≤ 2 * i) (w : World) (_ : RefP w b s i false v P), Calls Tryz.prog 260 #[.pointer (some ⟨b, 0, none⟩)] w (RRPost b s i v P ((classP s.data.toList i).map (fun p => (byteR p.1, p.2))) w)
theorem RRPost.back {b s i i0 v P res w w0 e w'} (h : RRPost b s i v P res w e w') (hi : i0 ≤ i) (ho : Only (fun k => k = b) w0 w) (hp : ∀ R j, res = some (R, j) → i ≤ j) : RRPost b s i0 v P res w0 e w' := by
  obtain ⟨z, i', v', Q, h1, h2, h3, h4⟩ := h
  refine ⟨z, i', v', Q, h1, h2, (Grew.of_moved ho).trans h3, fun R j hr => ?_⟩
  obtain ⟨h5, h6, h7⟩ := h4 R j hr
  exact ⟨h5, by have := hp R j hr; omega, h7⟩
theorem RRPost.leaf {b s i j v v' P w w1 w'} {x : Pc} {R : Pat} (ho : Only (fun k => k = b) w w1) (hr : RefP w' b s j false v' (P ++ [x])) (hg : Grew w1 w' b v v') (hij : i < j) (hx : Leaf x) (hR : ∀ t i j, i ≤ t.length → (R t i j ↔ oneP x t i = some j)) : RRPost b s i v P (some (R, j)) w (.returned (.int .i64 P.length)) w' :=
  ⟨P.length, j, v', [x], rfl, hr, (Grew.of_moved ho).trans hg, fun R' j' h => by
    cases h
    exact ⟨rfl, by rw [List.length_singleton]; omega, 1, PcIs.leaf hx hR⟩⟩
theorem RRPost.bad {b s i j v P w w'} (z : Nat) (ho : Only (fun k => k = b) w w') (hr : RdR w' b s j true v) (h : RefP w b s i false v P) : RRPost b s i v P none w (.returned (.int .i64 z)) w' :=
  ⟨z, j, v, [], rfl, by rw [List.append_nil]; exact h.moved ho hr, Grew.of_moved ho, fun R' j' h => by cases h⟩
theorem one_dot {C A B : Nat} {Z : UInt8 → Bool} (t : List UInt8) (i j : Nat) : byteR (notS fun _ => false) t i j ↔ oneP ⟨46, C, Z, A, B⟩ t i = some j := one_byte (Or.inl rfl) (fun _c => ⟨fun _ => rfl, fun _ => Or.inl rfl⟩) t i j
theorem one_c {A B : Nat} {Z : UInt8 → Bool} (d : UInt8) (t : List UInt8) (i j : Nat) : byteR (oneS d) t i j ↔ oneP ⟨99, d.toNat, Z, A, B⟩ t i = some j := one_byte (Or.inr (Or.inl rfl)) (fun c => by
  unfold oneS rangeS
  simp only [Bool.and_eq_true, decide_eq_true_eq]
  constructor
  · rintro (h | ⟨_, h⟩ | ⟨h, _⟩)
    · cases h
    · omega
    · cases h
  · rintro ⟨h1, h2⟩
    exact Or.inr (Or.inl ⟨trivial, by omega⟩)) t i j
theorem unitP_no {sub : Nat → Option (Pat × Nat)} {l : List UInt8} {i : Nat} {c : UInt8} (h : l[i]? = some c) (hc : c.toNat = 42 ∨ c.toNat = 43 ∨ c.toNat = 63 ∨ c.toNat = 41 ∨ c.toNat = 124) : unitP sub l i = none := by
  unfold unitP
  rw [h]
  simp only
  rw [if_pos]
  unfold isSign
  simp only [Bool.or_eq_true, beq_iff_eq]
  omega
theorem no_sign {c : UInt8} (h1 : c.toNat ≠ 42) (h2 : c.toNat ≠ 43) (h3 : c.toNat ≠ 63) (h4 : c.toNat ≠ 41) (h5 : c.toNat ≠ 124) : ¬ (isSign c = true ∨ c.toNat = 41 ∨ c.toNat = 124) := by
  unfold isSign
  simp only [Bool.or_eq_true, beq_iff_eq]
  omega
theorem unitP_begin {sub : Nat → Option (Pat × Nat)} {l : List UInt8} {i : Nat} {c : UInt8} (h : l[i]? = some c) (hc : c.toNat = 94) : unitP sub l i = some (beginR, i + 1) := by
  unfold unitP
  rw [h]
  simp only
  rw [if_neg (no_sign (by omega) (by omega) (by omega) (by omega) (by omega)), if_pos hc]
theorem unitP_end {sub : Nat → Option (Pat × Nat)} {l : List UInt8} {i : Nat} {c : UInt8} (h : l[i]? = some c) (hc : c.toNat = 36) : unitP sub l i = some (endR, i + 1) := by
  unfold unitP
  rw [h]
  simp only
  rw [if_neg (no_sign (by omega) (by omega) (by omega) (by omega) (by omega)), if_neg (by omega), if_pos hc]
theorem unitP_group {sub : Nat → Option (Pat × Nat)} {l : List UInt8} {i : Nat} {c : UInt8} (h : l[i]? = some c) (hc : c.toNat = 40) : unitP sub l i = (match sub (i + 1) with | none => none | some (R, j) => if hasB l j 41 then some (R, j + 1) else none) := by
  unfold unitP
  rw [h]
  simp only
  rw [if_neg (no_sign (by omega) (by omega) (by omega) (by omega) (by omega)), if_neg (by omega), if_neg (by omega), if_pos hc]
  cases sub (i + 1) with
  | none => rfl
  | some p => rfl
theorem unitP_class {sub : Nat → Option (Pat × Nat)} {l : List UInt8} {i : Nat} {c : UInt8} (h : l[i]? = some c) (hc : c.toNat = 91) : unitP sub l i = (classP l (i + 1)).map (fun p => (byteR p.1, p.2)) := by
  unfold unitP
  rw [h]
  simp only
  rw [if_neg (no_sign (by omega) (by omega) (by omega) (by omega) (by omega)), if_neg (by omega), if_neg (by omega), if_neg (by omega), if_pos hc]
  cases classP l (i + 1) with
  | none => rfl
  | some p => rfl
theorem unitP_dot {sub : Nat → Option (Pat × Nat)} {l : List UInt8} {i : Nat} {c : UInt8} (h : l[i]? = some c) (hc : c.toNat = 46) : unitP sub l i = some (byteR (notS fun _ => false), i + 1) := by
  unfold unitP
  rw [h]
  simp only
  rw [if_neg (no_sign (by omega) (by omega) (by omega) (by omega) (by omega)), if_neg (by omega), if_neg (by omega), if_neg (by omega), if_neg (by omega), if_pos hc]
theorem unitP_esc {sub : Nat → Option (Pat × Nat)} {l : List UInt8} {i : Nat} {c d : UInt8} (h : l[i]? = some c) (hc : c.toNat = 92) (h2 : l[i + 1]? = some d) : unitP sub l i = some (byteR (oneS d), i + 2) := by
  unfold unitP
  rw [h]
  simp only
  rw [if_neg (no_sign (by omega) (by omega) (by omega) (by omega) (by omega)), if_neg (by omega), if_neg (by omega), if_neg (by omega), if_neg (by omega), if_neg (by omega), if_pos hc, h2]
theorem unitP_esc_none {sub : Nat → Option (Pat × Nat)} {l : List UInt8} {i : Nat} {c : UInt8} (h : l[i]? = some c) (hc : c.toNat = 92) (h2 : l[i + 1]? = none) : unitP sub l i = none := by
  unfold unitP
  rw [h]
  simp only
  rw [if_neg (no_sign (by omega) (by omega) (by omega) (by omega) (by omega)), if_neg (by omega), if_neg (by omega), if_neg (by omega), if_neg (by omega), if_neg (by omega), if_pos hc, h2]
theorem unitP_byte {sub : Nat → Option (Pat × Nat)} {l : List UInt8} {i : Nat} {c : UInt8} (h : l[i]? = some c) (hc : c.toNat ≠ 42 ∧ c.toNat ≠ 43 ∧ c.toNat ≠ 63 ∧ c.toNat ≠ 41 ∧ c.toNat ≠ 124 ∧ c.toNat ≠ 94 ∧ c.toNat ≠ 36 ∧ c.toNat ≠ 40 ∧ c.toNat ≠ 91 ∧ c.toNat ≠ 46 ∧ c.toNat ≠ 92) : unitP sub l i = some (byteR (oneS c), i + 1) := by
  unfold unitP
  rw [h]
  simp only
  rw [if_neg (no_sign (by omega) (by omega) (by omega) (by omega) (by omega)), if_neg (by omega), if_neg (by omega), if_neg (by omega), if_neg (by omega), if_neg (by omega), if_neg (by omega)]
set_option maxRecDepth 100000 in
set_option maxHeartbeats 4000000 in
theorem runit_any (f : Nat) (hf : EitherOK f) (hC : ClassOK) (b : Nat) (s : ByteArray) (h5 : s.size ≤ 500) (i : Nat) (hi : i < s.size) (hfl : s.size - i ≤ f) (v : Value) (P : List Pc) (hPl : P.length ≤ 2 * i) (w : World) (h : RefP w b s i false v P) :
    Calls Tryz.prog 191 #[.pointer (some ⟨b, 0, none⟩)] w (RRPost b s i v P (unitP (choiceP s.data.toList f) s.data.toList i) w) := by
  have hml : s.size ≤ maxLen := by unfold maxLen; omega
  have HGt := hide (get_of_lt s i hi)
  have c0 : w.cell? ⟨b, 0, none⟩ = some (.string s) := cell_of h.rd rfl
  have c1 : w.cell? ⟨b, 1, none⟩ = some (.int .i64 i) := cell_of h.rd rfl
  have f1 : w.frozen? ⟨b, 1, none⟩ = false := free_of h.rd 1
  have hli : (i : Int) < (s.size : Int) := by omega
  obtain ⟨Res, HRes⟩ : ∃ Res, Hid (unitP (choiceP s.data.toList f) s.data.toList i = Res) := ⟨_, rfl⟩
  rw [HRes.out]
  have HR := hide h
  have HF := hide hf
  have HC := hide hC
  have hbl := heap_lt h.rd
  clear h hf hC
  go_enter Tryz.func191, Tryz.ntmps191
  go_wp2_with fail
  go_quiet (fail)
  go_upto_region 3 with fail
  have hr1 : RdR ((w.drewN nq).setCell ⟨b, 1, none⟩ (.int .i64 ((i : Int) + 1))) b s (i + 1) false v := (HR.out.rd.drewN nq).setI _ (i + 1) (by omega)
  have ho1 : Only (fun k => k = b) w ((w.drewN nq).setCell ⟨b, 1, none⟩ (.int .i64 ((i : Int) + 1))) := Only.setCell (D := fun k => k = b) (p := ⟨b, 1, none⟩) ((Only.refl _ w).drewN nq) (fun _ => rfl) _
  generalize (w.drewN nq).setCell ⟨b, 1, none⟩ (.int .i64 ((i : Int) + 1)) = w1 at hr1 ho1 ⊢
  clear c0 c1 f1
  have c0 : w1.cell? ⟨b, 0, none⟩ = some (.string s) := cell_of hr1 rfl
  have c1 : w1.cell? ⟨b, 1, none⟩ = some (.int .i64 ((i : Int) + 1)) := cell_of hr1 rfl
  have c2 : w1.cell? ⟨b, 2, none⟩ = some (.bool false) := cell_of hr1 rfl
  have f1 : w1.frozen? ⟨b, 1, none⟩ = false := free_of hr1 1
  have f2 : w1.frozen? ⟨b, 2, none⟩ = false := free_of hr1 2
  have hp1 : 0 ≤ (i : Int) + 1 := by omega
  have HR1 := hide hr1
  have HO1 := hide ho1
  clear hr1 ho1
  by_cases a46 : s[i].toNat = 46
  · have HRs : Hid (Res = some (byteR (notS fun _ => false), i + 1)) := HRes.out.symm.trans (unitP_dot HGt.out a46)
    have hcI : (s[i].toNat : Int) = ((46 : Nat) : Int) := by omega
    have HA : Hid (Calls Tryz.prog 53 #[.pointer (some ⟨b, 0, none⟩), .agg #[.int .u8 (s[i].toNat : Int), .int .u8 0, .slice none 0 0, .int .i64 0, .int .i64 0]] w1 (RAddPost b s (i + 1) false v P ⟨46, 0, fun _ => false, 0, 0⟩ w1)) := by
      show Calls _ _ _ _ _
      rw [hcI]
      exact radd_any b s (i + 1) false v P ⟨46, 0, fun _ => false, 0, 0⟩ none 0 0 w1 ⟨⟨_, _, _, rfl⟩, fun e => absurd e (by decide)⟩ (by omega) (HR.out.moved HO1.out HR1.out)
    have k46 : ((s[i].toNat : Int) == 46) = true := by rw [beq_iff_eq]; omega
    clear hcI a46
    go_wp2_with fail
    refine HA.out.mono ?_
    rintro e w9 ⟨rfl, v', hr9, hg9⟩
    have HR9 := hide hr9
    have HG9 := hide hg9
    clear hr9 hg9
    go_wp2
    go_ret
    rw [HRs.out]
    exact RRPost.leaf HO1.out HR9.out HG9.out (by omega) (Or.inr (Or.inr (Or.inr (Or.inl rfl)))) (fun t i' j' _ => one_dot t i' j')
  by_cases a94 : s[i].toNat = 94
  · have HRs : Hid (Res = some (beginR, i + 1)) := HRes.out.symm.trans (unitP_begin HGt.out a94)
    have hcI : (s[i].toNat : Int) = ((94 : Nat) : Int) := by omega
    have HA : Hid (Calls Tryz.prog 53 #[.pointer (some ⟨b, 0, none⟩), .agg #[.int .u8 (s[i].toNat : Int), .int .u8 0, .slice none 0 0, .int .i64 0, .int .i64 0]] w1 (RAddPost b s (i + 1) false v P ⟨94, 0, fun _ => false, 0, 0⟩ w1)) := by
      show Calls _ _ _ _ _
      rw [hcI]
      exact radd_any b s (i + 1) false v P ⟨94, 0, fun _ => false, 0, 0⟩ none 0 0 w1 ⟨⟨_, _, _, rfl⟩, fun e => absurd e (by decide)⟩ (by omega) (HR.out.moved HO1.out HR1.out)
    have k46 : ((s[i].toNat : Int) == 46) = false := by rw [beq_eq_false_iff_ne]; omega
    have k94 : ((s[i].toNat : Int) == 94) = true := by rw [beq_iff_eq]; omega
    clear hcI a94
    go_wp2_with fail
    refine HA.out.mono ?_
    rintro e w9 ⟨rfl, v', hr9, hg9⟩
    have HR9 := hide hr9
    have HG9 := hide hg9
    clear hr9 hg9
    go_wp2
    go_ret
    rw [HRs.out]
    exact RRPost.leaf HO1.out HR9.out HG9.out (by omega) (Or.inr (Or.inl rfl)) (fun t i' j' _ => one_begin t i' j')
  by_cases a36 : s[i].toNat = 36
  · have HRs : Hid (Res = some (endR, i + 1)) := HRes.out.symm.trans (unitP_end HGt.out a36)
    have hcI : (s[i].toNat : Int) = ((36 : Nat) : Int) := by omega
    have HA : Hid (Calls Tryz.prog 53 #[.pointer (some ⟨b, 0, none⟩), .agg #[.int .u8 (s[i].toNat : Int), .int .u8 0, .slice none 0 0, .int .i64 0, .int .i64 0]] w1 (RAddPost b s (i + 1) false v P ⟨36, 0, fun _ => false, 0, 0⟩ w1)) := by
      show Calls _ _ _ _ _
      rw [hcI]
      exact radd_any b s (i + 1) false v P ⟨36, 0, fun _ => false, 0, 0⟩ none 0 0 w1 ⟨⟨_, _, _, rfl⟩, fun e => absurd e (by decide)⟩ (by omega) (HR.out.moved HO1.out HR1.out)
    have k46 : ((s[i].toNat : Int) == 46) = false := by rw [beq_eq_false_iff_ne]; omega
    have k94 : ((s[i].toNat : Int) == 94) = false := by rw [beq_eq_false_iff_ne]; omega
    have k36 : ((s[i].toNat : Int) == 36) = true := by rw [beq_iff_eq]; omega
    clear hcI a36
    go_wp2_with fail
    refine HA.out.mono ?_
    rintro e w9 ⟨rfl, v', hr9, hg9⟩
    have HR9 := hide hr9
    have HG9 := hide hg9
    clear hr9 hg9
    go_wp2
    go_ret
    rw [HRs.out]
    exact RRPost.leaf HO1.out HR9.out HG9.out (by omega) (Or.inr (Or.inr (Or.inl rfl))) (fun t i' j' _ => one_end t i' j')
  by_cases a91 : s[i].toNat = 91
  · have HRs : Hid (Res = (classP s.data.toList (i + 1)).map (fun p => (byteR p.1, p.2))) := HRes.out.symm.trans (unitP_class HGt.out a91)
    have k46 : ((s[i].toNat : Int) == 46) = false := by rw [beq_eq_false_iff_ne]; omega
    have k94 : ((s[i].toNat : Int) == 94) = false := by rw [beq_eq_false_iff_ne]; omega
    have k36 : ((s[i].toNat : Int) == 36) = false := by rw [beq_eq_false_iff_ne]; omega
    have k91 : ((s[i].toNat : Int) == 91) = true := by rw [beq_iff_eq]; omega
    clear a91
    go_wp2_with fail
    refine (HC.out b s h5 (i + 1) (by omega) v P (by omega) w1 (HR.out.moved HO1.out HR1.out)).mono ?_
    intro e w9 h9
    have h8 := h9.back (i0 := i) (by omega) HO1.out (fun R j hh => by
      cases hc : classP s.data.toList (i + 1) with
      | none => rw [hc] at hh; cases hh
      | some p =>
        rw [hc] at hh
        cases hh
        have := (classP_prog hc).1
        omega)
    rw [← HRs.out] at h8
    obtain ⟨z, i', v', Q, rfl, h8⟩ := h8
    have H8 : Hid (RRPost b s i v P Res w (.returned (.int .i64 z)) w9) := ⟨z, i', v', Q, rfl, h8⟩
    clear h9 h8
    go_wp2
    go_ret
    exact H8.out
  by_cases a40 : s[i].toNat = 40
  · have HRs : Hid (Res = (match choiceP s.data.toList f (i + 1) with | none => none | some (R, j) => if hasB s.data.toList j 41 then some (R, j + 1) else none)) := HRes.out.symm.trans (unitP_group HGt.out a40)
    have k46 : ((s[i].toNat : Int) == 46) = false := by rw [beq_eq_false_iff_ne]; omega
    have k94 : ((s[i].toNat : Int) == 94) = false := by rw [beq_eq_false_iff_ne]; omega
    have k36 : ((s[i].toNat : Int) == 36) = false := by rw [beq_eq_false_iff_ne]; omega
    have k91 : ((s[i].toNat : Int) == 91) = false := by rw [beq_eq_false_iff_ne]; omega
    have k40 : ((s[i].toNat : Int) == 40) = true := by rw [beq_iff_eq]; omega
    clear a40
    go_wp2_with fail
    refine (HF.out b s (i + 1) v P w1 h5 (by omega) (by omega) (by omega) (HR.out.moved HO1.out HR1.out)).mono ?_
    rintro e w2 ⟨z, i', v', Q, rfl, hr2, hg2, hres2⟩
    have hg2' := (Grew.of_moved HO1.out).trans hg2
    cases hc : choiceP s.data.toList f (i + 1) with
    | none =>
      rw [hc] at hr2
      have HRn : Hid (Res = none) := by
        show Res = none
        rw [HRs.out, hc]
      have d2 : w2.cell? ⟨b, 2, none⟩ = some (.bool true) := cell_of hr2.rd rfl
      have g2 : w2.frozen? ⟨b, 2, none⟩ = false := free_of hr2.rd 2
      have HR2 := hide hr2
      have HG2 := hide hg2'
      clear hr2 hg2 hg2' hres2 hc HRs HR1 HO1 c0 c1
      go_wp2
      go_ret
      rw [HRn.out]
      exact ⟨0, i', v', Q, rfl, HR2.out.setBad, HG2.out.trans (Grew.of_moved (Only.setCell (D := fun k => k = b) (p := ⟨b, 2, none⟩) (Only.refl _ w2) (fun _ => rfl) _)), fun R j h => by cases h⟩
    | some p =>
      obtain ⟨R, j⟩ := p
      rw [hc] at hr2
      obtain ⟨e1, hql, d, hpc⟩ := hres2 R j hc
      subst e1
      have hpg := choice_prog s.data.toList f (i + 1) R i' hc
      rw [len_eq] at hpg
      have d0 : w2.cell? ⟨b, 0, none⟩ = some (.string s) := cell_of hr2.rd rfl
      have d1 : w2.cell? ⟨b, 1, none⟩ = some (.int .i64 i') := cell_of hr2.rd rfl
      have d2 : w2.cell? ⟨b, 2, none⟩ = some (.bool false) := cell_of hr2.rd rfl
      have g1 : w2.frozen? ⟨b, 1, none⟩ = false := free_of hr2.rd 1
      have g2 : w2.frozen? ⟨b, 2, none⟩ = false := free_of hr2.rd 2
      have HR2 := hide hr2
      have HG2 := hide hg2'
      have HPc := hide hpc
      cases hb : hasB s.data.toList i' 41 with
      | true =>
        have HRn : Hid (Res = some (R, i' + 1)) := by
          show Res = _
          rw [HRs.out, hc]
          simp only
          rw [if_pos hb]
        have HAt : Hid (hasB s.data.toList i' 41 = true) := hb
        clear hr2 hg2 hg2' hres2 hc HRs HR1 HO1 c0 c1 hpc hb
        go_wp2_with fail
        refine (rat_is b s i' hml 41 true HAt.out _ d0 d1).mono ?_
        rintro e w3 ⟨rfl, n3, rfl⟩
        go_wp2
        go_ret
        rw [HRn.out]
        exact ⟨z, i' + 1, v', Q, rfl, RefP.setI (w := w2.drewN n3) HR2.out (i' + 1), HG2.out.trans (Grew.of_moved (Only.setCell (D := fun k => k = b) (p := ⟨b, 1, none⟩) ((Only.refl _ w2).drewN n3) (fun _ => rfl) _)), fun R' j' h => by
          cases h
          exact ⟨rfl, by omega, d, HPc.out⟩⟩
      | false =>
        have HRn : Hid (Res = none) := by
          show Res = _
          rw [HRs.out, hc]
          simp only
          rw [if_neg (by rw [hb]; decide)]
        have HAt : Hid (hasB s.data.toList i' 41 = false) := hb
        clear hr2 hg2 hg2' hres2 hc HRs HR1 HO1 c0 c1 hpc hb
        go_wp2_with fail
        refine (rat_is b s i' hml 41 false HAt.out _ d0 d1).mono ?_
        rintro e w3 ⟨rfl, n3, rfl⟩
        go_wp2
        go_ret
        rw [HRn.out]
        exact ⟨0, i', v', Q, rfl, RefP.setBad (w := w2.drewN n3) HR2.out, HG2.out.trans (Grew.of_moved (Only.setCell (D := fun k => k = b) (p := ⟨b, 2, none⟩) ((Only.refl _ w2).drewN n3) (fun _ => rfl) _)), fun R' j' h => by cases h⟩
  by_cases a92 : s[i].toNat = 92
  · by_cases hl2 : i + 1 < s.size
    · have HRs : Hid (Res = some (byteR (oneS s[i + 1]), i + 2)) := HRes.out.symm.trans (unitP_esc HGt.out a92 (get_of_lt s (i + 1) hl2))
      have HA : ∀ n, Hid (Calls Tryz.prog 53 #[.pointer (some ⟨b, 0, none⟩), .agg #[.int .u8 99, .int .u8 (s[i + 1].toNat : Int), .slice none 0 0, .int .i64 0, .int .i64 0]] ((w1.drewN n).setCell ⟨b, 1, none⟩ (.int .i64 ((i : Int) + 2))) (RAddPost b s (i + 2) false v P ⟨99, s[i + 1].toNat, fun _ => false, 0, 0⟩ ((w1.drewN n).setCell ⟨b, 1, none⟩ (.int .i64 ((i : Int) + 2))))) := fun n =>
        radd_any b s (i + 2) false v P ⟨99, s[i + 1].toNat, fun _ => false, 0, 0⟩ none 0 0 _ ⟨⟨_, _, _, rfl⟩, fun e => absurd e (show ¬ (99 : Nat) = 91 by decide)⟩ (by omega) (HR.out.moved (Only.setCell (D := fun k => k = b) (p := ⟨b, 1, none⟩) (HO1.out.drewN n) (fun _ => rfl) _) ((HR1.out.drewN n).setI _ (i + 2) (by omega)))
      have hli2 : (i : Int) + 1 < (s.size : Int) := by omega
      have hge : ¬ (s.size : Int) ≤ (i : Int) + 1 := by omega
      have k46 : ((s[i].toNat : Int) == 46) = false := by rw [beq_eq_false_iff_ne]; omega
      have k94 : ((s[i].toNat : Int) == 94) = false := by rw [beq_eq_false_iff_ne]; omega
      have k36 : ((s[i].toNat : Int) == 36) = false := by rw [beq_eq_false_iff_ne]; omega
      have k91 : ((s[i].toNat : Int) == 91) = false := by rw [beq_eq_false_iff_ne]; omega
      have k40 : ((s[i].toNat : Int) == 40) = false := by rw [beq_eq_false_iff_ne]; omega
      have k92 : ((s[i].toNat : Int) == 92) = true := by rw [beq_iff_eq]; omega
      clear a92
      go_wp2_with fail
      go_quiet (fail)
      go_wp2_with fail
      go_quiet (fail)
      go_wp2_with fail
      refine (HA _).out.mono ?_
      rintro e w9 ⟨rfl, v', hr9, hg9⟩
      have HR9 := hide hr9
      have HG9 := hide hg9
      clear hr9 hg9
      go_wp2
      go_ret
      rw [HRs.out]
      exact RRPost.leaf (Only.setCell (D := fun k => k = b) (p := ⟨b, 1, none⟩) (HO1.out.drewN _) (fun _ => rfl) _) HR9.out HG9.out (by omega) (Or.inr (Or.inr (Or.inr (Or.inr (Or.inl rfl))))) (fun t i' j' _ => one_c s[i + 1] t i' j')
    · have HRs : Hid (Res = none) := HRes.out.symm.trans (unitP_esc_none HGt.out a92 (get_none s (i + 1) (by omega)))
      have hge : (s.size : Int) ≤ (i : Int) + 1 := by omega
      have k46 : ((s[i].toNat : Int) == 46) = false := by rw [beq_eq_false_iff_ne]; omega
      have k94 : ((s[i].toNat : Int) == 94) = false := by rw [beq_eq_false_iff_ne]; omega
      have k36 : ((s[i].toNat : Int) == 36) = false := by rw [beq_eq_false_iff_ne]; omega
      have k91 : ((s[i].toNat : Int) == 91) = false := by rw [beq_eq_false_iff_ne]; omega
      have k40 : ((s[i].toNat : Int) == 40) = false := by rw [beq_eq_false_iff_ne]; omega
      have k92 : ((s[i].toNat : Int) == 92) = true := by rw [beq_iff_eq]; omega
      clear a92
      go_wp2_with fail
      go_quiet (fail)
      go_wp2_with fail
      go_ret
      rw [HRs.out]
      exact RRPost.bad 0 (Only.setCell (D := fun k => k = b) (p := ⟨b, 2, none⟩) (HO1.out.drewN _) (fun _ => rfl) _) (HR1.out.drewN _).setBad HR.out
  by_cases a42 : s[i].toNat = 42
  · have HRs : Hid (Res = none) := HRes.out.symm.trans (unitP_no HGt.out (by omega))
    have k46 : ((s[i].toNat : Int) == 46) = false := by rw [beq_eq_false_iff_ne]; omega
    have k94 : ((s[i].toNat : Int) == 94) = false := by rw [beq_eq_false_iff_ne]; omega
    have k36 : ((s[i].toNat : Int) == 36) = false := by rw [beq_eq_false_iff_ne]; omega
    have k91 : ((s[i].toNat : Int) == 91) = false := by rw [beq_eq_false_iff_ne]; omega
    have k40 : ((s[i].toNat : Int) == 40) = false := by rw [beq_eq_false_iff_ne]; omega
    have k92 : ((s[i].toNat : Int) == 92) = false := by rw [beq_eq_false_iff_ne]; omega
    have k42 : ((s[i].toNat : Int) == 42) = true := by rw [beq_iff_eq]; omega
    clear a42
    go_wp2_with fail
    go_ret
    rw [HRs.out]
    exact RRPost.bad 0 (Only.setCell (D := fun k => k = b) (p := ⟨b, 2, none⟩) HO1.out (fun _ => rfl) _) HR1.out.setBad HR.out
  by_cases a43 : s[i].toNat = 43
  · have HRs : Hid (Res = none) := HRes.out.symm.trans (unitP_no HGt.out (by omega))
    have k46 : ((s[i].toNat : Int) == 46) = false := by rw [beq_eq_false_iff_ne]; omega
    have k94 : ((s[i].toNat : Int) == 94) = false := by rw [beq_eq_false_iff_ne]; omega
    have k36 : ((s[i].toNat : Int) == 36) = false := by rw [beq_eq_false_iff_ne]; omega
    have k91 : ((s[i].toNat : Int) == 91) = false := by rw [beq_eq_false_iff_ne]; omega
    have k40 : ((s[i].toNat : Int) == 40) = false := by rw [beq_eq_false_iff_ne]; omega
    have k92 : ((s[i].toNat : Int) == 92) = false := by rw [beq_eq_false_iff_ne]; omega
    have k42 : ((s[i].toNat : Int) == 42) = false := by rw [beq_eq_false_iff_ne]; omega
    have k43 : ((s[i].toNat : Int) == 43) = true := by rw [beq_iff_eq]; omega
    clear a43
    go_wp2_with fail
    go_ret
    rw [HRs.out]
    exact RRPost.bad 0 (Only.setCell (D := fun k => k = b) (p := ⟨b, 2, none⟩) HO1.out (fun _ => rfl) _) HR1.out.setBad HR.out
  by_cases a63 : s[i].toNat = 63
  · have HRs : Hid (Res = none) := HRes.out.symm.trans (unitP_no HGt.out (by omega))
    have k46 : ((s[i].toNat : Int) == 46) = false := by rw [beq_eq_false_iff_ne]; omega
    have k94 : ((s[i].toNat : Int) == 94) = false := by rw [beq_eq_false_iff_ne]; omega
    have k36 : ((s[i].toNat : Int) == 36) = false := by rw [beq_eq_false_iff_ne]; omega
    have k91 : ((s[i].toNat : Int) == 91) = false := by rw [beq_eq_false_iff_ne]; omega
    have k40 : ((s[i].toNat : Int) == 40) = false := by rw [beq_eq_false_iff_ne]; omega
    have k92 : ((s[i].toNat : Int) == 92) = false := by rw [beq_eq_false_iff_ne]; omega
    have k42 : ((s[i].toNat : Int) == 42) = false := by rw [beq_eq_false_iff_ne]; omega
    have k43 : ((s[i].toNat : Int) == 43) = false := by rw [beq_eq_false_iff_ne]; omega
    have k63 : ((s[i].toNat : Int) == 63) = true := by rw [beq_iff_eq]; omega
    clear a63
    go_wp2_with fail
    go_ret
    rw [HRs.out]
    exact RRPost.bad 0 (Only.setCell (D := fun k => k = b) (p := ⟨b, 2, none⟩) HO1.out (fun _ => rfl) _) HR1.out.setBad HR.out
  by_cases a41 : s[i].toNat = 41
  · have HRs : Hid (Res = none) := HRes.out.symm.trans (unitP_no HGt.out (by omega))
    have k46 : ((s[i].toNat : Int) == 46) = false := by rw [beq_eq_false_iff_ne]; omega
    have k94 : ((s[i].toNat : Int) == 94) = false := by rw [beq_eq_false_iff_ne]; omega
    have k36 : ((s[i].toNat : Int) == 36) = false := by rw [beq_eq_false_iff_ne]; omega
    have k91 : ((s[i].toNat : Int) == 91) = false := by rw [beq_eq_false_iff_ne]; omega
    have k40 : ((s[i].toNat : Int) == 40) = false := by rw [beq_eq_false_iff_ne]; omega
    have k92 : ((s[i].toNat : Int) == 92) = false := by rw [beq_eq_false_iff_ne]; omega
    have k42 : ((s[i].toNat : Int) == 42) = false := by rw [beq_eq_false_iff_ne]; omega
    have k43 : ((s[i].toNat : Int) == 43) = false := by rw [beq_eq_false_iff_ne]; omega
    have k63 : ((s[i].toNat : Int) == 63) = false := by rw [beq_eq_false_iff_ne]; omega
    have k41 : ((s[i].toNat : Int) == 41) = true := by rw [beq_iff_eq]; omega
    clear a41
    go_wp2_with fail
    go_ret
    rw [HRs.out]
    exact RRPost.bad 0 (Only.setCell (D := fun k => k = b) (p := ⟨b, 2, none⟩) HO1.out (fun _ => rfl) _) HR1.out.setBad HR.out
  by_cases a124 : s[i].toNat = 124
  · have HRs : Hid (Res = none) := HRes.out.symm.trans (unitP_no HGt.out (by omega))
    have k46 : ((s[i].toNat : Int) == 46) = false := by rw [beq_eq_false_iff_ne]; omega
    have k94 : ((s[i].toNat : Int) == 94) = false := by rw [beq_eq_false_iff_ne]; omega
    have k36 : ((s[i].toNat : Int) == 36) = false := by rw [beq_eq_false_iff_ne]; omega
    have k91 : ((s[i].toNat : Int) == 91) = false := by rw [beq_eq_false_iff_ne]; omega
    have k40 : ((s[i].toNat : Int) == 40) = false := by rw [beq_eq_false_iff_ne]; omega
    have k92 : ((s[i].toNat : Int) == 92) = false := by rw [beq_eq_false_iff_ne]; omega
    have k42 : ((s[i].toNat : Int) == 42) = false := by rw [beq_eq_false_iff_ne]; omega
    have k43 : ((s[i].toNat : Int) == 43) = false := by rw [beq_eq_false_iff_ne]; omega
    have k63 : ((s[i].toNat : Int) == 63) = false := by rw [beq_eq_false_iff_ne]; omega
    have k41 : ((s[i].toNat : Int) == 41) = false := by rw [beq_eq_false_iff_ne]; omega
    have k124 : ((s[i].toNat : Int) == 124) = true := by rw [beq_iff_eq]; omega
    clear a124
    go_wp2_with fail
    go_ret
    rw [HRs.out]
    exact RRPost.bad 0 (Only.setCell (D := fun k => k = b) (p := ⟨b, 2, none⟩) HO1.out (fun _ => rfl) _) HR1.out.setBad HR.out
  have HRs : Hid (Res = some (byteR (oneS s[i]), i + 1)) := HRes.out.symm.trans (unitP_byte HGt.out (by omega))
  have HA : Hid (Calls Tryz.prog 53 #[.pointer (some ⟨b, 0, none⟩), .agg #[.int .u8 99, .int .u8 (s[i].toNat : Int), .slice none 0 0, .int .i64 0, .int .i64 0]] w1 (RAddPost b s (i + 1) false v P ⟨99, s[i].toNat, fun _ => false, 0, 0⟩ w1)) :=
    radd_any b s (i + 1) false v P ⟨99, s[i].toNat, fun _ => false, 0, 0⟩ none 0 0 w1 ⟨⟨_, _, _, rfl⟩, fun e => absurd e (show ¬ (99 : Nat) = 91 by decide)⟩ (by omega) (HR.out.moved HO1.out HR1.out)
  have k46 : ((s[i].toNat : Int) == 46) = false := by rw [beq_eq_false_iff_ne]; omega
  have k94 : ((s[i].toNat : Int) == 94) = false := by rw [beq_eq_false_iff_ne]; omega
  have k36 : ((s[i].toNat : Int) == 36) = false := by rw [beq_eq_false_iff_ne]; omega
  have k91 : ((s[i].toNat : Int) == 91) = false := by rw [beq_eq_false_iff_ne]; omega
  have k40 : ((s[i].toNat : Int) == 40) = false := by rw [beq_eq_false_iff_ne]; omega
  have k92 : ((s[i].toNat : Int) == 92) = false := by rw [beq_eq_false_iff_ne]; omega
  have k42 : ((s[i].toNat : Int) == 42) = false := by rw [beq_eq_false_iff_ne]; omega
  have k43 : ((s[i].toNat : Int) == 43) = false := by rw [beq_eq_false_iff_ne]; omega
  have k63 : ((s[i].toNat : Int) == 63) = false := by rw [beq_eq_false_iff_ne]; omega
  have k41 : ((s[i].toNat : Int) == 41) = false := by rw [beq_eq_false_iff_ne]; omega
  have k124 : ((s[i].toNat : Int) == 124) = false := by rw [beq_eq_false_iff_ne]; omega
  clear a46 a94 a36 a91 a40 a92 a42 a43 a63 a41 a124
  go_wp2_with fail
  refine HA.out.mono ?_
  rintro e w9 ⟨rfl, v', hr9, hg9⟩
  have HR9 := hide hr9
  have HG9 := hide hg9
  clear hr9 hg9
  go_wp2
  go_ret
  rw [HRs.out]
  exact RRPost.leaf HO1.out HR9.out HG9.out (by omega) (Or.inr (Or.inr (Or.inr (Or.inr (Or.inl rfl))))) (fun t i' j' _ => one_c s[i] t i' j')
end Go.Proofs.YthhiofppbpgipaaGreatDoor
