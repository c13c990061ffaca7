import Derived.Test.YthkknpjoifoanaaGreatDoorLFacts
namespace Go.Proofs.YthkknpjoifoanaaGreatDoor
open Go.RowKit
set_option maxRecDepth 100000 in
set_option maxHeartbeats 8000000 in
theorem longest_any (K A B : Int) (s t u : ByteArray) (ht : t.size ≤ 24) (ao : Option Addr) (n cap : Nat) (w : World) :
    Calls Tryz.prog 5 #[.agg #[.int .i64 K, .int .i64 A, .int .i64 B, .string s, .string t, .string u, .slice ao n cap]] w fun e w' => e = .returned (.bool true) ∧ Below w.heap.size w w' := by
  have hx0 := new0 w (.cells #[.int .i64 K, .int .i64 A, .int .i64 B, .string s, .string t, .string u, .slice ao n cap] 25)
  have HX0 := hide hx0
  clear hx0
  go_enter Tryz.func5, Tryz.ntmps5
  go_wp2_with fail
  refine (match_any s t _).mono ?_
  rintro e w1 ⟨hm, ho1⟩
  have hx1 : w1.heap[w.heap.size]? = some (.cells #[.int .i64 K, .int .i64 A, .int .i64 B, .string s, .string t, .string u, .slice ao n cap] 25 (0, 0)) := (ho1.block w.heap.size (by simp) (fun e => e)).trans HX0.out
  have p3 : w1.cell? ⟨w.heap.size, 3, none⟩ = some (.string s) := cell_of hx1 rfl
  have p4 : w1.cell? ⟨w.heap.size, 4, none⟩ = some (.string t) := cell_of hx1 rfl
  have HX1 := hide hx1
  have HO1 : Hid (Only (fun _ => False) w w1) := ((Only.refl _ w).alloc _).trans ho1 (fun _ _ e => e)
  clear ho1 hx1 HX0
  have NUM : ∀ (k : Int) (W : World), Calls Tryz.prog 9 #[.int .i64 k] W fun e w' => e = .returned (.int .i64 k) ∧ w' = W := num_any
  have HNum := hide NUM
  clear NUM
  by_cases hsl : 500 < s.size
  · obtain rfl := hm.1 (Or.inl hsl)
    clear hm
    go_wp2_with (go_at_call 9; refine (HNum.out _ _).mono ?_; rintro e w5 ⟨rfl, h5⟩; subst w5)
    go_ret
    exact ⟨rfl, HO1.out.below (Nat.le_refl _) (fun _ _ e => e)⟩
  · have hm2 := hm.2 (by omega)
    clear hm
    cases hw : wholeP s.data.toList with
    | none =>
      obtain rfl := hm2.1 hw
      clear hm2
      go_wp2_with (go_at_call 9; refine (HNum.out _ _).mono ?_; rintro e w5 ⟨rfl, h5⟩; subst w5)
      go_ret
      exact ⟨rfl, HO1.out.below (Nat.le_refl _) (fun _ _ e => e)⟩
    | some R =>
      obtain ⟨best, hf, rfl⟩ := hm2.2 R hw
      clear hm2
      by_cases hse : s.toList = []
      · have he : s.data.toList = [] := by rw [ByteArray.toList_eq] at hse; exact hse
        rw [he] at hw
        cases hw
        obtain rfl := finds_emptyR hf
        clear hf
        unfold bBeg bLen
        go_wp2_with (go_at_call 9; refine (HNum.out _ _).mono ?_; rintro e w5 ⟨rfl, h5⟩; subst w5)
        go_ret
        exact ⟨rfl, HO1.out.below (Nat.le_refl _) (fun _ _ e => e)⟩
      · have hne : s.toList.isEmpty = false := by cases h : s.toList with | nil => exact absurd h hse | cons => rfl
        have HSN : Hid (s.data.toList ≠ []) := hide (by rw [ByteArray.toList_eq] at hse; exact hse)
        have HW := hide hw
        have HF := hide hf
        have hws : ((⟨#[94, 40]⟩ : ByteArray) ++ s ++ (⟨#[41, 36]⟩ : ByteArray)).size = s.size + 4 := by
          rw [ByteArray.size_append, ByteArray.size_append]; show 2 + s.size + 2 = _; omega
        have hws0 : ((⟨#[94, 40]⟩ : ByteArray) ++ s).size = s.size + 2 := by
          rw [ByteArray.size_append]; show 2 + s.size = _; omega
        obtain ⟨f1, f2, f3, f4, f5⟩ := best_facts hf
        rw [len_eq] at f3
        have F5 := hide f5
        have FP : Hid (PlainL s.data.toList → ∀ r, PlaceIs t.data.toList s.data.toList 0 r → bBeg best = r ∧ (r < 0 ∨ bLen best = s.size)) := hide (fun h1 r h2 => by
          have := plain_place hw HSN.out h1 hf h2
          rw [len_eq] at this; exact this)
        have HK4 : Hid (∀ wr, Only (fun _ => False) w1 wr → wr.cell? ⟨w.heap.size, 4, none⟩ = some (.string t)) := hide (fun wr ho => cell_of ((ho.block w.heap.size (by
          have := HX1.out
          exact (Array.getElem?_eq_some_iff.1 this).1) (fun e => e)).trans HX1.out) rfl)
        have ht0 : ¬ ((t.size : Int) < -1) := by omega
        clear hf HF hw hse f5
        generalize bBeg best = I at *
        generalize bLen best = N at *
        rcases f4 with ⟨rfl, rfl⟩ | f4
        · by_cases hsh : (((⟨#[94, 40]⟩ : ByteArray) ++ s ++ (⟨#[41, 36]⟩ : ByteArray)).size : Int) ≤ 500
          · have HSh := hide (short_yes hsh)
            go_wp2_with (first
            | (go_at_call 9; refine (HNum.out _ _).mono ?_; rintro e w5 ⟨rfl, h5⟩; subst w5)
            | (go_at_call 10; refine (HSh.out _).mono ?_; rintro e w5 ⟨rfl, h5⟩; subst w5))
            go_loop [7, 8] (fun p x => ∃ (k : Nat) (pl : Bool), k ≤ s.size ∧ x = .int .i64 k ∧ p = .bool pl ∧ Hid (∀ m c, m < k → s.data.toList[m]? = some c → c.toNat ≠ 94 ∧ c.toNat ≠ 36 ∧ (pl = true → plainB c = true))) (fun p x => s.size - (intOf x).toNat)
            case atStart => exact ⟨0, true, by omega, rfl, rfl, hide (fun m c h => by omega)⟩
            case round =>
              obtain ⟨k, pl, hk, rfl, rfl, HI⟩ := hrel
              by_cases hlt : k < s.size
              · have hki : (k : Int) < (s.size : Int) := by omega
                have HC : Hid (s.data.toList[k]? = some s[k]) := hide (by rw [List.getElem?_eq_getElem (by rw [len_eq]; exact hlt)]; rfl)
                have HN : Hid (∀ b : Bool, s[k].toNat ≠ 94 → s[k].toNat ≠ 36 → (b = true → pl = true ∧ plainB s[k] = true) → ∀ m c, m < k + 1 → s.data.toList[m]? = some c → c.toNat ≠ 94 ∧ c.toNat ≠ 36 ∧ (b = true → plainB c = true)) := hide (fun b h1 h2 h3 m c hm hc => by
                  by_cases e : m = k
                  · subst e
                    rw [HC.out] at hc
                    cases hc
                    exact ⟨h1, h2, fun hb => (h3 hb).2⟩
                  · obtain ⟨g1, g2, g3⟩ := HI.out m c (by omega) hc
                    exact ⟨g1, g2, fun hb => g3 (h3 hb).1⟩)
                have PL : Hid ((48 ≤ s[k].toNat ∧ s[k].toNat ≤ 122 ∧ s[k].toNat ≠ 63 ∧ (s[k].toNat < 91 ∨ 95 < s[k].toNat)) → plainB s[k] = true) := hide (fun ⟨g1, g2, g3, g4⟩ => by
                  unfold plainB
                  simp only [Bool.and_eq_true, Bool.or_eq_true, decide_eq_true_eq, Bool.not_eq_true', beq_eq_false_iff_ne]
                  exact ⟨⟨⟨g1, g2⟩, g3⟩, g4⟩)
                have hcs : s[k].toNat = 94 ∨ s[k].toNat = 36 ∨ (s[k].toNat ≠ 94 ∧ s[k].toNat ≠ 36) := by omega
                rcases hcs with hc | hc | ⟨hc1, hc2⟩
                · have h1 : (s[k].toNat : Int) = 94 := by omega
                  have h2 : ((s[k].toNat : Int) == 94) = true := by rw [beq_iff_eq]; exact h1
                  clear hc HN
                  go_wp2
                  go_ret
                  exact ⟨rfl, HO1.out.below (Nat.le_refl _) (fun _ _ e => e)⟩
                · have h1 : ¬ (s[k].toNat : Int) = 94 := by omega
                  have h2 : ((s[k].toNat : Int) == 94) = false := by rw [beq_eq_false_iff_ne]; exact h1
                  have h3 : (s[k].toNat : Int) = 36 := by omega
                  have h4 : ((s[k].toNat : Int) == 36) = true := by rw [beq_iff_eq]; exact h3
                  clear hc HN
                  go_wp2
                  go_ret
                  exact ⟨rfl, HO1.out.below (Nat.le_refl _) (fun _ _ e => e)⟩
                · have h1 : ¬ (s[k].toNat : Int) = 94 := by omega
                  have h2 : ((s[k].toNat : Int) == 94) = false := by rw [beq_eq_false_iff_ne]; exact h1
                  have h3 : ¬ (s[k].toNat : Int) = 36 := by omega
                  have h4 : ((s[k].toNat : Int) == 36) = false := by rw [beq_eq_false_iff_ne]; exact h3
                  cases pl with
                  | false =>
                    go_wp2
                    go_round
                    case rel => exact ⟨k + 1, false, by omega, by go_num, rfl, hide (HN.out false hc1 hc2 (fun h => by cases h))⟩
                    case measure => simp [intOf]; omega
                  | true =>
                    have hcs : ¬ (48 : Int) ≤ s[k].toNat ∨ ((48 : Int) ≤ s[k].toNat ∧ ¬ (s[k].toNat : Int) ≤ 122) ∨ ((48 : Int) ≤ s[k].toNat ∧ (s[k].toNat : Int) ≤ 122 ∧ (s[k].toNat : Int) = 63) ∨ ((48 : Int) ≤ s[k].toNat ∧ (s[k].toNat : Int) ≤ 122 ∧ ¬ (s[k].toNat : Int) = 63 ∧ ¬ (s[k].toNat : Int) < 91 ∧ ¬ (95 : Int) < s[k].toNat) ∨ ((48 : Int) ≤ s[k].toNat ∧ (s[k].toNat : Int) ≤ 122 ∧ ¬ (s[k].toNat : Int) = 63 ∧ (s[k].toNat : Int) < 91) ∨ ((48 : Int) ≤ s[k].toNat ∧ (s[k].toNat : Int) ≤ 122 ∧ ¬ (s[k].toNat : Int) = 63 ∧ ¬ (s[k].toNat : Int) < 91 ∧ (95 : Int) < s[k].toNat) := by omega
                    rcases hcs with a1 | ⟨a1, a2⟩ | ⟨a1, a2, a3⟩ | ⟨a1, a2, a3, a4, a5⟩ | ⟨a1, a2, a3, a4⟩ | ⟨a1, a2, a3, a4, a5⟩
                    · go_wp2
                      go_round
                      case rel => exact ⟨k + 1, false, by omega, by go_num, rfl, hide (HN.out false hc1 hc2 (fun h => by cases h))⟩
                      case measure => simp [intOf]; omega
                    · go_wp2
                      go_round
                      case rel => exact ⟨k + 1, false, by omega, by go_num, rfl, hide (HN.out false hc1 hc2 (fun h => by cases h))⟩
                      case measure => simp [intOf]; omega
                    · go_wp2
                      go_round
                      case rel => exact ⟨k + 1, false, by omega, by go_num, rfl, hide (HN.out false hc1 hc2 (fun h => by cases h))⟩
                      case measure => simp [intOf]; omega
                    · go_wp2
                      go_round
                      case rel => exact ⟨k + 1, false, by omega, by go_num, rfl, hide (HN.out false hc1 hc2 (fun h => by cases h))⟩
                      case measure => simp [intOf]; omega
                    · go_wp2
                      go_round
                      case rel => exact ⟨k + 1, true, by omega, by go_num, congrArg Value.bool (bne_iff_ne.2 a3), hide (HN.out true hc1 hc2 (fun _ => ⟨rfl, PL.out (by omega)⟩))⟩
                      case measure => simp [intOf]; omega
                    · go_wp2
                      go_round
                      case rel => exact ⟨k + 1, true, by omega, by go_num, congrArg Value.bool (bne_iff_ne.2 a3), hide (HN.out true hc1 hc2 (fun _ => ⟨rfl, PL.out (by omega)⟩))⟩
                      case measure => simp [intOf]; omega
              · obtain rfl : k = s.size := by omega
                cases pl with
                | true =>
                  have HPl : Hid (PlainL s.data.toList) := hide (fun m c hc => (HI.out m c (by have := some_lt hc; rw [len_eq] at this; exact this) hc).2.2 rfl)
                  obtain ⟨r, hr⟩ := place_some t.data.toList s.data.toList _ 0 (Nat.le_refl _)
                  obtain ⟨hr1, hr2⟩ := FP.out HPl.out r hr
                  have HP := hide (place_at (s := t) (t := s) (i := 0) (by omega) (by omega) (by omega) hr)
                  subst hr1
                  clear hr
                  go_wp2_with (go_at_call 11; refine (HP.out _).mono ?_; rintro e w5 ⟨rfl, h5⟩; subst w5)
                  go_ret
                  exact ⟨rfl, HO1.out.below (Nat.le_refl _) (fun _ _ e => e)⟩
                | false =>
                  have HNE : Hid (NoEnds s.data.toList) := hide (fun m c hc => by
                    obtain ⟨g1, g2, _⟩ := HI.out m c (by have := some_lt hc; rw [len_eq] at this; exact this) hc
                    exact ⟨g1, g2⟩)
                  have HM : Hid (∀ (a b : Nat) (W : World), a ≤ b → b ≤ t.size → Calls Tryz.prog 8 #[.string ((⟨#[94, 40]⟩ : ByteArray) ++ s ++ (⟨#[41, 36]⟩ : ByteArray)), .string (t.extract a b)] W fun e w' =>
                      ((R t.data.toList a b ∧ e = .returned (.tuple #[.int .i64 0, .int .i64 ((b : Int) - (a : Int)), .int .i64 0])) ∨ (¬ R t.data.toList a b ∧ e = .returned (.tuple #[.int .i64 (-1), .int .i64 0, .int .i64 0]))) ∧ Only (fun _ => False) W w') :=
                    hide (fun a b W h1 h2 => (match_any _ _ W).mono (fun _ _ ⟨hm, ho⟩ => ⟨whole_match HW.out HSN.out HNE.out (by omega) ht h1 h2 hm, ho⟩))
                  clear FP HNE HW HSN HI
                  go_wp2
                  go_loopw [10] (fun x wr => ∃ a : Nat, a ≤ t.size + 1 ∧ x = .int .i64 a ∧ Only (fun _ => False) w1 wr) (fun x _ => t.size + 1 - (intOf x).toNat)
                  case atStart => exact ⟨0, by omega, rfl, Only.refl _ _⟩
                  case round =>
                    obtain ⟨a, ha, rfl, hoa⟩ := hrel
                    have q4 := HK4.out _ hoa
                    have HOa := hide hoa
                    clear hoa
                    by_cases hla : a ≤ t.size
                    · have hla' : (a : Int) ≤ (t.size : Int) := by omega
                      go_wp2
                      go_loopw [11] (fun x wr => ∃ b : Nat, a ≤ b ∧ b ≤ t.size + 1 ∧ x = .int .i64 b ∧ Only (fun _ => False) w1 wr) (fun x _ => t.size + 1 - (intOf x).toNat)
                      case atStart => exact ⟨a, Nat.le_refl _, ha, rfl, HOa.out⟩
                      case round =>
                        clear q4
                        obtain ⟨b, hab, hb, rfl, hob⟩ := hrel
                        have q4 := HK4.out _ hob
                        have HOb := hide hob
                        clear hob
                        by_cases hlb : b ≤ t.size
                        · have hlb' : (b : Int) ≤ (t.size : Int) := by omega
                          have hab' : (a : Int) ≤ (b : Int) := by omega
                          have HF5 := hide (F5.out a b hab (by rw [len_eq]; exact hlb))
                          go_wp2_with fail
                          refine (HM.out a b _ hab hlb).mono ?_
                          rintro e w2 ⟨⟨hr, rfl⟩ | ⟨hr, rfl⟩, ho2⟩
                          · have HO2 := hide (HOb.out.trans ho2 (fun _ _ e => e))
                            obtain ⟨g1, g2, g3⟩ := HF5.out.1 hr
                            clear ho2 q4
                            exact absurd trivial g1
                          · have HO2 := hide (HOb.out.trans ho2 (fun _ _ e => e))
                            have g3 := HF5.out.2 hr
                            clear ho2 q4
                            by_cases g4 : (a : Int) = (-1)
                            · have g5 : ¬ (b : Int) - (a : Int) = 0 := fun e => g3 ⟨g4, e⟩
                              clear g3
                              exact absurd g4 (by omega)
                            · clear g3
                              go_wp2_with (go_at_call 9; refine (HNum.out _ _).mono ?_; rintro e w5 ⟨rfl, h5⟩; subst w5)
                              go_roundw
                              case rel => exact ⟨b + 1, by omega, by omega, by go_num, HO2.out⟩
                              case measure => simp [intOf]; omega
                        · go_wp2
                          go_roundw
                          case rel => exact ⟨a + 1, by omega, by go_num, HOb.out⟩
                          case measure => simp [intOf]; omega
                    · go_wp2
                      go_ret
                      exact ⟨rfl, (HO1.out.trans HOa.out (fun _ _ e => e)).below (Nat.le_refl _) (fun _ _ e => e)⟩
          · have HSh := hide (short_not hsh)
            go_wp2_with fail
            refine (HNum.out _ _).mono ?_
            rintro e w5 ⟨rfl, h5⟩
            subst w5
            go_wp2_with fail
            refine (HSh.out _).mono ?_
            rintro e w5 ⟨rfl, h5⟩
            subst w5
            go_wp2_with fail
            refine (HSh.out _).mono ?_
            rintro e w5 ⟨rfl, h5⟩
            subst w5
            go_wp2
            go_ret
            exact ⟨rfl, HO1.out.below (Nat.le_refl _) (fun _ _ e => e)⟩
        · have g7 : (I == -1) = false := by rw [beq_eq_false_iff_ne]; exact f4
          by_cases hsh : (((⟨#[94, 40]⟩ : ByteArray) ++ s ++ (⟨#[41, 36]⟩ : ByteArray)).size : Int) ≤ 500
          · have HSh := hide (short_yes hsh)
            go_wp2_with (first
            | (go_at_call 9; refine (HNum.out _ _).mono ?_; rintro e w5 ⟨rfl, h5⟩; subst w5)
            | (go_at_call 10; refine (HSh.out _).mono ?_; rintro e w5 ⟨rfl, h5⟩; subst w5))
            go_loop [7, 8] (fun p x => ∃ (k : Nat) (pl : Bool), k ≤ s.size ∧ x = .int .i64 k ∧ p = .bool pl ∧ Hid (∀ m c, m < k → s.data.toList[m]? = some c → c.toNat ≠ 94 ∧ c.toNat ≠ 36 ∧ (pl = true → plainB c = true))) (fun p x => s.size - (intOf x).toNat)
            case atStart => exact ⟨0, true, by omega, rfl, rfl, hide (fun m c h => by omega)⟩
            case round =>
              obtain ⟨k, pl, hk, rfl, rfl, HI⟩ := hrel
              by_cases hlt : k < s.size
              · have hki : (k : Int) < (s.size : Int) := by omega
                have HC : Hid (s.data.toList[k]? = some s[k]) := hide (by rw [List.getElem?_eq_getElem (by rw [len_eq]; exact hlt)]; rfl)
                have HN : Hid (∀ b : Bool, s[k].toNat ≠ 94 → s[k].toNat ≠ 36 → (b = true → pl = true ∧ plainB s[k] = true) → ∀ m c, m < k + 1 → s.data.toList[m]? = some c → c.toNat ≠ 94 ∧ c.toNat ≠ 36 ∧ (b = true → plainB c = true)) := hide (fun b h1 h2 h3 m c hm hc => by
                  by_cases e : m = k
                  · subst e
                    rw [HC.out] at hc
                    cases hc
                    exact ⟨h1, h2, fun hb => (h3 hb).2⟩
                  · obtain ⟨g1, g2, g3⟩ := HI.out m c (by omega) hc
                    exact ⟨g1, g2, fun hb => g3 (h3 hb).1⟩)
                have PL : Hid ((48 ≤ s[k].toNat ∧ s[k].toNat ≤ 122 ∧ s[k].toNat ≠ 63 ∧ (s[k].toNat < 91 ∨ 95 < s[k].toNat)) → plainB s[k] = true) := hide (fun ⟨g1, g2, g3, g4⟩ => by
                  unfold plainB
                  simp only [Bool.and_eq_true, Bool.or_eq_true, decide_eq_true_eq, Bool.not_eq_true', beq_eq_false_iff_ne]
                  exact ⟨⟨⟨g1, g2⟩, g3⟩, g4⟩)
                have hcs : s[k].toNat = 94 ∨ s[k].toNat = 36 ∨ (s[k].toNat ≠ 94 ∧ s[k].toNat ≠ 36) := by omega
                rcases hcs with hc | hc | ⟨hc1, hc2⟩
                · have h1 : (s[k].toNat : Int) = 94 := by omega
                  have h2 : ((s[k].toNat : Int) == 94) = true := by rw [beq_iff_eq]; exact h1
                  clear hc HN
                  go_wp2
                  go_ret
                  exact ⟨rfl, HO1.out.below (Nat.le_refl _) (fun _ _ e => e)⟩
                · have h1 : ¬ (s[k].toNat : Int) = 94 := by omega
                  have h2 : ((s[k].toNat : Int) == 94) = false := by rw [beq_eq_false_iff_ne]; exact h1
                  have h3 : (s[k].toNat : Int) = 36 := by omega
                  have h4 : ((s[k].toNat : Int) == 36) = true := by rw [beq_iff_eq]; exact h3
                  clear hc HN
                  go_wp2
                  go_ret
                  exact ⟨rfl, HO1.out.below (Nat.le_refl _) (fun _ _ e => e)⟩
                · have h1 : ¬ (s[k].toNat : Int) = 94 := by omega
                  have h2 : ((s[k].toNat : Int) == 94) = false := by rw [beq_eq_false_iff_ne]; exact h1
                  have h3 : ¬ (s[k].toNat : Int) = 36 := by omega
                  have h4 : ((s[k].toNat : Int) == 36) = false := by rw [beq_eq_false_iff_ne]; exact h3
                  cases pl with
                  | false =>
                    go_wp2
                    go_round
                    case rel => exact ⟨k + 1, false, by omega, by go_num, rfl, hide (HN.out false hc1 hc2 (fun h => by cases h))⟩
                    case measure => simp [intOf]; omega
                  | true =>
                    have hcs : ¬ (48 : Int) ≤ s[k].toNat ∨ ((48 : Int) ≤ s[k].toNat ∧ ¬ (s[k].toNat : Int) ≤ 122) ∨ ((48 : Int) ≤ s[k].toNat ∧ (s[k].toNat : Int) ≤ 122 ∧ (s[k].toNat : Int) = 63) ∨ ((48 : Int) ≤ s[k].toNat ∧ (s[k].toNat : Int) ≤ 122 ∧ ¬ (s[k].toNat : Int) = 63 ∧ ¬ (s[k].toNat : Int) < 91 ∧ ¬ (95 : Int) < s[k].toNat) ∨ ((48 : Int) ≤ s[k].toNat ∧ (s[k].toNat : Int) ≤ 122 ∧ ¬ (s[k].toNat : Int) = 63 ∧ (s[k].toNat : Int) < 91) ∨ ((48 : Int) ≤ s[k].toNat ∧ (s[k].toNat : Int) ≤ 122 ∧ ¬ (s[k].toNat : Int) = 63 ∧ ¬ (s[k].toNat : Int) < 91 ∧ (95 : Int) < s[k].toNat) := by omega
                    rcases hcs with a1 | ⟨a1, a2⟩ | ⟨a1, a2, a3⟩ | ⟨a1, a2, a3, a4, a5⟩ | ⟨a1, a2, a3, a4⟩ | ⟨a1, a2, a3, a4, a5⟩
                    · go_wp2
                      go_round
                      case rel => exact ⟨k + 1, false, by omega, by go_num, rfl, hide (HN.out false hc1 hc2 (fun h => by cases h))⟩
                      case measure => simp [intOf]; omega
                    · go_wp2
                      go_round
                      case rel => exact ⟨k + 1, false, by omega, by go_num, rfl, hide (HN.out false hc1 hc2 (fun h => by cases h))⟩
                      case measure => simp [intOf]; omega
                    · go_wp2
                      go_round
                      case rel => exact ⟨k + 1, false, by omega, by go_num, rfl, hide (HN.out false hc1 hc2 (fun h => by cases h))⟩
                      case measure => simp [intOf]; omega
                    · go_wp2
                      go_round
                      case rel => exact ⟨k + 1, false, by omega, by go_num, rfl, hide (HN.out false hc1 hc2 (fun h => by cases h))⟩
                      case measure => simp [intOf]; omega
                    · go_wp2
                      go_round
                      case rel => exact ⟨k + 1, true, by omega, by go_num, congrArg Value.bool (bne_iff_ne.2 a3), hide (HN.out true hc1 hc2 (fun _ => ⟨rfl, PL.out (by omega)⟩))⟩
                      case measure => simp [intOf]; omega
                    · go_wp2
                      go_round
                      case rel => exact ⟨k + 1, true, by omega, by go_num, congrArg Value.bool (bne_iff_ne.2 a3), hide (HN.out true hc1 hc2 (fun _ => ⟨rfl, PL.out (by omega)⟩))⟩
                      case measure => simp [intOf]; omega
              · obtain rfl : k = s.size := by omega
                cases pl with
                | true =>
                  have HPl : Hid (PlainL s.data.toList) := hide (fun m c hc => (HI.out m c (by have := some_lt hc; rw [len_eq] at this; exact this) hc).2.2 rfl)
                  obtain ⟨r, hr⟩ := place_some t.data.toList s.data.toList _ 0 (Nat.le_refl _)
                  obtain ⟨hr1, hr2⟩ := FP.out HPl.out r hr
                  have HP := hide (place_at (s := t) (t := s) (i := 0) (by omega) (by omega) (by omega) hr)
                  subst hr1
                  clear hr
                  by_cases hr0 : I < 0
                  · exact absurd hr0 (by omega)
                  · obtain rfl : N = (s.size : Int) := hr2.elim (fun h => absurd h hr0) id
                    clear hr2
                    go_wp2_with (go_at_call 11; refine (HP.out _).mono ?_; rintro e w5 ⟨rfl, h5⟩; subst w5)
                    go_ret
                    exact ⟨rfl, HO1.out.below (Nat.le_refl _) (fun _ _ e => e)⟩
                | false =>
                  have HNE : Hid (NoEnds s.data.toList) := hide (fun m c hc => by
                    obtain ⟨g1, g2, _⟩ := HI.out m c (by have := some_lt hc; rw [len_eq] at this; exact this) hc
                    exact ⟨g1, g2⟩)
                  have HM : Hid (∀ (a b : Nat) (W : World), a ≤ b → b ≤ t.size → Calls Tryz.prog 8 #[.string ((⟨#[94, 40]⟩ : ByteArray) ++ s ++ (⟨#[41, 36]⟩ : ByteArray)), .string (t.extract a b)] W fun e w' =>
                      ((R t.data.toList a b ∧ e = .returned (.tuple #[.int .i64 0, .int .i64 ((b : Int) - (a : Int)), .int .i64 0])) ∨ (¬ R t.data.toList a b ∧ e = .returned (.tuple #[.int .i64 (-1), .int .i64 0, .int .i64 0]))) ∧ Only (fun _ => False) W w') :=
                    hide (fun a b W h1 h2 => (match_any _ _ W).mono (fun _ _ ⟨hm, ho⟩ => ⟨whole_match HW.out HSN.out HNE.out (by omega) ht h1 h2 hm, ho⟩))
                  clear FP HNE HW HSN HI
                  go_wp2
                  go_loopw [10] (fun x wr => ∃ a : Nat, a ≤ t.size + 1 ∧ x = .int .i64 a ∧ Only (fun _ => False) w1 wr) (fun x _ => t.size + 1 - (intOf x).toNat)
                  case atStart => exact ⟨0, by omega, rfl, Only.refl _ _⟩
                  case round =>
                    obtain ⟨a, ha, rfl, hoa⟩ := hrel
                    have q4 := HK4.out _ hoa
                    have HOa := hide hoa
                    clear hoa
                    by_cases hla : a ≤ t.size
                    · have hla' : (a : Int) ≤ (t.size : Int) := by omega
                      go_wp2
                      go_loopw [11] (fun x wr => ∃ b : Nat, a ≤ b ∧ b ≤ t.size + 1 ∧ x = .int .i64 b ∧ Only (fun _ => False) w1 wr) (fun x _ => t.size + 1 - (intOf x).toNat)
                      case atStart => exact ⟨a, Nat.le_refl _, ha, rfl, HOa.out⟩
                      case round =>
                        clear q4
                        obtain ⟨b, hab, hb, rfl, hob⟩ := hrel
                        have q4 := HK4.out _ hob
                        have HOb := hide hob
                        clear hob
                        by_cases hlb : b ≤ t.size
                        · have hlb' : (b : Int) ≤ (t.size : Int) := by omega
                          have hab' : (a : Int) ≤ (b : Int) := by omega
                          have HF5 := hide (F5.out a b hab (by rw [len_eq]; exact hlb))
                          go_wp2_with fail
                          refine (HM.out a b _ hab hlb).mono ?_
                          rintro e w2 ⟨⟨hr, rfl⟩ | ⟨hr, rfl⟩, ho2⟩
                          · have HO2 := hide (HOb.out.trans ho2 (fun _ _ e => e))
                            obtain ⟨g1, g2, g3⟩ := HF5.out.1 hr
                            clear ho2 q4
                            by_cases g4 : (a : Int) = I
                            · have g5 : ¬ N < (b : Int) - (a : Int) := fun e => g3 ⟨g4, e⟩
                              clear g3
                              subst g4
                              go_wp2_with (go_at_call 9; refine (HNum.out _ _).mono ?_; rintro e w5 ⟨rfl, h5⟩; subst w5)
                              go_roundw
                              case rel => exact ⟨b + 1, by omega, by omega, by go_num, HO2.out⟩
                              case measure => simp [intOf]; omega
                            · have g6 : ((a : Int) == I) = false := by rw [beq_eq_false_iff_ne]; exact g4
                              clear g3
                              go_wp2_with (go_at_call 9; refine (HNum.out _ _).mono ?_; rintro e w5 ⟨rfl, h5⟩; subst w5)
                              go_roundw
                              case rel => exact ⟨b + 1, by omega, by omega, by go_num, HO2.out⟩
                              case measure => simp [intOf]; omega
                          · have HO2 := hide (HOb.out.trans ho2 (fun _ _ e => e))
                            have g3 := HF5.out.2 hr
                            clear ho2 q4
                            by_cases g4 : (a : Int) = I
                            · have g5 : ¬ (b : Int) - (a : Int) = N := fun e => g3 ⟨g4, e⟩
                              clear g3
                              subst g4
                              have g6 : ((b : Int) - (a : Int) == N) = false := by rw [beq_eq_false_iff_ne]; exact g5
                              go_wp2_with (go_at_call 9; refine (HNum.out _ _).mono ?_; rintro e w5 ⟨rfl, h5⟩; subst w5)
                              go_roundw
                              case rel => exact ⟨b + 1, by omega, by omega, by go_num, HO2.out⟩
                              case measure => simp [intOf]; omega
                            · have g6 : ((a : Int) == I) = false := by rw [beq_eq_false_iff_ne]; exact g4
                              clear g3
                              go_wp2_with (go_at_call 9; refine (HNum.out _ _).mono ?_; rintro e w5 ⟨rfl, h5⟩; subst w5)
                              go_roundw
                              case rel => exact ⟨b + 1, by omega, by omega, by go_num, HO2.out⟩
                              case measure => simp [intOf]; omega
                        · go_wp2
                          go_roundw
                          case rel => exact ⟨a + 1, by omega, by go_num, HOb.out⟩
                          case measure => simp [intOf]; omega
                    · go_wp2
                      go_ret
                      exact ⟨rfl, (HO1.out.trans HOa.out (fun _ _ e => e)).below (Nat.le_refl _) (fun _ _ e => e)⟩
          · have HSh := hide (short_not hsh)
            go_wp2_with fail
            refine (HNum.out _ _).mono ?_
            rintro e w5 ⟨rfl, h5⟩
            subst w5
            go_wp2_with fail
            refine (HSh.out _).mono ?_
            rintro e w5 ⟨rfl, h5⟩
            subst w5
            go_wp2_with fail
            refine (HSh.out _).mono ?_
            rintro e w5 ⟨rfl, h5⟩
            subst w5
            go_wp2
            go_ret
            exact ⟨rfl, HO1.out.below (Nat.le_refl _) (fun _ _ e => e)⟩
end Go.Proofs.YthkknpjoifoanaaGreatDoor
