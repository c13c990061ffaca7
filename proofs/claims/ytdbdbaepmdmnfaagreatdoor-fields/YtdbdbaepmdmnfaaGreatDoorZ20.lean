import Derived.Test.YtdbdbaepmdmnfaaGreatDoorZ18
import Derived.Test.YtdbdbaepmdmnfaaGreatDoorZ19
namespace Go.Proofs.YtdbdbaepmdmnfaaGreatDoor
open Go.RowKit
/-- What ran is wanted to answer of the program, of lines. -/
def Ran3 (a : Addr) : Prop := ∀ (line : ByteArray) (W : World), line.size ≤ 60 → 0 < line.size → (∀ b ∈ line.data.toList, b ≠ 10) → SentF W a → Lib.TabIs Tryz.prog W "internal/strconv.uint64pow10" .u64 Lib.pow10Tab → Calls Tryz.prog 18 #[.string F3, .string line, .int .i64 2000] W fun en w' => ∃ g, en = .returned (.agg #[.slice (some ⟨g, 0, none⟩) 1 1, .int .i64 0, .int .i64 0, .int .i64 0]) ∧ w'.heap[g]? = some (.cells #[.string ⟨#[]⟩, .string (ofB (outL (words [] line.data.toList)))] 41 (0, 0)) ∧ Only (fun _ => False) W w'
theorem dd_short (k : Nat) (hk : k ≤ 400) : (Lib.decDigits k).length ≤ 30 := by
  have := itoa_short k hk
  rwa [Lib.itoa_nonneg] at this
theorem row_or {w : World} {B : Nat} {v : Value} {L : List (List UInt8)} (h : w.ownsRow B 9 1 v L.length (strsV L)) : (L = [] ∧ ∃ ao cap, v = .slice ao 0 cap) ∨ (0 < L.length ∧ ∃ g cap, v = .slice (some ⟨g, 0, none⟩) L.length cap ∧ ∀ (i : Nat) l, L[i]? = some l → w.cell? ⟨g, i, none⟩ = some (.string (ofB l))) := by
  rcases h.2 with ⟨h1, h2⟩ | ⟨g, cap, cur, rfl, hb, hg, _⟩
  · exact Or.inl ⟨List.eq_nil_of_length_eq_zero h2, none, 0, h1⟩
  · by_cases h0 : L.length = 0
    · exact Or.inl ⟨List.eq_nil_of_length_eq_zero h0, some ⟨g, 0, none⟩, cap, by rw [h0]⟩
    · refine Or.inr ⟨by omega, g, cap, rfl, fun i l hi => ?_⟩
      have hl : i < L.length := (List.getElem?_eq_some_iff.1 hi).1
      rw [h.cellAt i (by omega)]
      simp [strsV, hi]
set_option maxRecDepth 20000 in
set_option maxHeartbeats 4000000 in
theorem fielded_any (a : Addr) (hR : Ran3 a) (line : ByteArray) (w : World) (h60 : line.size ≤ 60) (h0 : 0 < line.size) (hno : ∀ b ∈ line.data.toList, b ≠ 10) (hse : SentF w a) (htab : Lib.TabIs Tryz.prog w "internal/strconv.uint64pow10" .u64 Lib.pow10Tab) :
    Calls Tryz.prog 21 #[.string line] w fun en w' => en = .returned (.bool true) ∧ Only (fun _ => False) w w' := by
  have HS := hide (split_blank line (by omega) w)
  have HR := hide (fun W (hW : Only (fun _ => False) w W) => hR line W h60 h0 hno (hse.only hW) (tab_only htab hW))
  have hf := words_few (t := line.data.toList) (by rw [lenN]; exact h60)
  have HF := hide hf
  clear hf hR h60 h0 hno hse htab
  go_enter Tryz.func21, Tryz.ntmps21
  go_wp2_with fail
  refine (HS.out).mono ?_
  rintro en w1 ⟨v, rfl, hown, ho1⟩
  have HO1 := hide ho1
  have HOw := hide hown
  clear ho1 hown HS
  have hfew := HF.out
  have HRw := hide (row_or HOw.out)
  clear HOw HF
  generalize words [] line.data.toList = L at *
  obtain ⟨hl30, hl61, hj61⟩ := hfew
  have HJ := hide hj61
  have HL61 := hide hl61
  have hk40 : ¬ (40 : Int) < (L.length : Int) := by omega
  have HDg := hide (fun W => digits_any (L.length + 1) L.length (Nat.lt_succ_self _) (by omega) W)
  clear hj61 hl61
  rcases HRw.out with ⟨hL0, ao, cap, rfl⟩ | ⟨hlp, g1, cap, rfl, hcells⟩
  · subst hL0
    go_wp2_with fail
    refine (HR.out w1 HO1.out).mono ?_
    rintro en w2 ⟨g, rfl, hg, ho2⟩
    have ob := ho2.alloc (.cells #[.slice (some ⟨g, 0, none⟩) 1 1, .int .i64 0, .int .i64 0, .int .i64 0] 38)
    have HW := hide (HO1.out.trans ob (fun _ _ e => e))
    have r0 : (w2.alloc (.cells #[.slice (some ⟨g, 0, none⟩) 1 1, .int .i64 0, .int .i64 0, .int .i64 0] 38)).cell? ⟨w2.heap.size, 0, none⟩ = some (.slice (some ⟨g, 0, none⟩) 1 1) := cell_of (new0 w2 _) rfl
    have r2 : (w2.alloc (.cells #[.slice (some ⟨g, 0, none⟩) 1 1, .int .i64 0, .int .i64 0, .int .i64 0] 38)).cell? ⟨w2.heap.size, 2, none⟩ = some (.int .i64 0) := cell_of (new0 w2 _) rfl
    have t1 : (w2.alloc (.cells #[.slice (some ⟨g, 0, none⟩) 1 1, .int .i64 0, .int .i64 0, .int .i64 0] 38)).cell? ⟨g, 1, none⟩ = some (.string (ofB (outL []))) := past (cell_of hg rfl) _
    clear hg ho2 ob HR
    go_wp2_with (go_at_call 13; refine (numLaw _ _).mono ?_; rintro en w' ⟨rfl, h3⟩; subst w')
    refine (HDg.out _).mono ?_
    rintro en w3 ⟨rfl, ho3⟩
    have q0 := keepC ho3 r0
    have q2 := keepC ho3 r2
    have q1 := keepC ho3 t1
    have HO3 := hide (HW.out.trans ho3 (fun _ _ e => e))
    have hd0 : ofB (Lib.decDigits ([] : List (List UInt8)).length) = ⟨#[48]⟩ := by
      show ofB (Lib.decDigits 0) = _
      rw [Lib.decDigits_one (by omega)]
      rfl
    rw [hd0]
    clear r0 r2 t1 ho3 hd0 HDg HW HJ HL61
    go_wp2_with fail
    go_loopw [6, 7] (fun s6 s7 wr => s6 = .string ⟨#[48, 10]⟩ ∧ s7 = .int .i64 0 ∧ wr = w3) (fun _ _ _ => 0)
    case atStart => exact ⟨rfl, rfl, rfl⟩
    case round =>
      obtain ⟨rfl, rfl, rfl⟩ := hrel
      have hcmp : ((ofB (outL [])).toList == ((⟨#[48, 10]⟩ : ByteArray) ++ ⟨#[]⟩ ++ ⟨#[10]⟩ ++ ⟨#[49, 10]⟩).toList) = true := by
        have : ofB (outL []) = (⟨#[48, 10]⟩ : ByteArray) ++ ⟨#[]⟩ ++ ⟨#[10]⟩ ++ ⟨#[49, 10]⟩ := by
          unfold outL
          have h0 : Lib.decDigits ([] : List (List UInt8)).length = [48] := by
            show Lib.decDigits 0 = _
            rw [Lib.decDigits_one (by omega)]
            rfl
          rw [h0]
          rfl
        rw [this]
        simp
      go_wp2_with (go_at_call 32; refine (joins_zero _ _ _ _).mono ?_; rintro en w' ⟨rfl, h3⟩; subst w')
      go_ret
      exact ⟨rfl, HO3.out⟩
  · have HC := hide hcells
    clear hcells
    go_wp2_with fail
    refine (HR.out w1 HO1.out).mono ?_
    rintro en w2 ⟨g, rfl, hg, ho2⟩
    have ob := ho2.alloc (.cells #[.slice (some ⟨g, 0, none⟩) 1 1, .int .i64 0, .int .i64 0, .int .i64 0] 38)
    have HW := hide (HO1.out.trans ob (fun _ _ e => e))
    have r0 : (w2.alloc (.cells #[.slice (some ⟨g, 0, none⟩) 1 1, .int .i64 0, .int .i64 0, .int .i64 0] 38)).cell? ⟨w2.heap.size, 0, none⟩ = some (.slice (some ⟨g, 0, none⟩) 1 1) := cell_of (new0 w2 _) rfl
    have r2 : (w2.alloc (.cells #[.slice (some ⟨g, 0, none⟩) 1 1, .int .i64 0, .int .i64 0, .int .i64 0] 38)).cell? ⟨w2.heap.size, 2, none⟩ = some (.int .i64 0) := cell_of (new0 w2 _) rfl
    have t1 : (w2.alloc (.cells #[.slice (some ⟨g, 0, none⟩) 1 1, .int .i64 0, .int .i64 0, .int .i64 0] 38)).cell? ⟨g, 1, none⟩ = some (.string (ofB (outL L))) := past (cell_of hg rfl) _
    have HC2 := hide (fun i l hi => keepC ob (HC.out i l hi))
    clear hg ho2 ob HR HC
    go_wp2_with (go_at_call 13; refine (numLaw _ _).mono ?_; rintro en w' ⟨rfl, h3⟩; subst w')
    refine (HDg.out _).mono ?_
    rintro en w3 ⟨rfl, ho3⟩
    have q0 := keepC ho3 r0
    have q2 := keepC ho3 r2
    have q1 := keepC ho3 t1
    have HC3 := hide (fun i l hi => keepC ho3 (HC2.out i l hi))
    have HO3 := hide (HW.out.trans ho3 (fun _ _ e => e))
    obtain ⟨S0, HS0⟩ : ∃ S0, Hid (S0 = ofB (Lib.decDigits L.length ++ [10])) := ⟨_, hide rfl⟩
    have hd30 := dd_short L.length (by omega)
    have HD3 := hide hd30
    have hadd : ∀ W, (Op.stringOp .add (ofB (Lib.decDigits L.length)) ⟨#[10]⟩).run Tryz.prog W = .ok (.string S0) W := fun W => by
      rw [HS0.out, ← ofB_appendR]
      exact run_string_add_sum W _ _ (by rw [ofB_sizeR]; have : (⟨#[10]⟩ : ByteArray).size = 1 := rfl; omega)
    clear r0 r2 t1 ho3 HW hd30 HC2
    go_wp2_with fail
    go_loopw [6, 7] (fun s6 s7 wr => ∃ (k : Nat) (S : ByteArray), k ≤ L.length ∧ s7 = .int .i64 k ∧ s6 = .string S ∧ Hid (S = ofB (Lib.decDigits L.length ++ [10] ++ linesOf (L.take k))) ∧ wr = w3) (fun _ s7 _ => L.length - (intOf s7).toNat)
    case atStart => exact ⟨0, S0, by omega, rfl, rfl, hide (by rw [HS0.out]; simp [linesOf]), rfl⟩
    case round =>
      obtain ⟨k, S, hk, rfl, rfl, HSk, rfl⟩ := hrel
      have hSz : S.size ≤ 100 := by
        rw [HSk.out, ofB_sizeR]
        have h1 := linesOf_take L k
        have h2 := HL61.out
        have h3 := HD3.out
        simp only [List.length_append, List.length_cons, List.length_nil]
        omega
      have HSz := hide hSz
      clear hSz
      by_cases hlt : k < L.length
      · obtain ⟨l, hl⟩ : ∃ l, L[k]? = some l := ⟨L[k], List.getElem?_eq_getElem hlt⟩
        have c0 : wr.cell? ⟨g1, k, none⟩ = some (.string (ofB l)) := HC3.out k l hl
        have hki : (k : Int) < (L.length : Int) := by omega
        have hnx : linesOf (L.take (k + 1)) = linesOf (L.take k) ++ (l ++ [10]) := by rw [jtake_snoc hl, linesOf_snoc]
        have hll : l.length ≤ 61 := by
          have h1 := linesOf_take L (k + 1)
          rw [hnx] at h1
          simp only [List.length_append] at h1
          have := HL61.out
          omega
        obtain ⟨S1, HS1⟩ : ∃ S1, Hid (S1 = S ++ ofB l) := ⟨_, hide rfl⟩
        obtain ⟨S2, HS2⟩ : ∃ S2, Hid (S2 = S1 ++ ⟨#[10]⟩) := ⟨_, hide rfl⟩
        have ha1 : ∀ W, (Op.stringOp .add S (ofB l)).run Tryz.prog W = .ok (.string S1) W := fun W => by
          rw [HS1.out]
          exact run_string_add_sum W _ _ (by rw [ofB_sizeR]; have := HSz.out; omega)
        have ha2 : ∀ W, (Op.stringOp .add S1 ⟨#[10]⟩).run Tryz.prog W = .ok (.string S2) W := fun W => by
          rw [HS2.out]
          exact run_string_add_sum W _ _ (by rw [HS1.out, ByteArray.size_append, ofB_sizeR]; have := HSz.out; have : (⟨#[10]⟩ : ByteArray).size = 1 := rfl; omega)
        have HNx := hide hnx
        have HLt := hide hlt
        clear hnx hll hl hlt hadd
        go_wp2_with fail
        go_roundw
        case rel => exact ⟨k + 1, S2, by have := HLt.out; omega, by simp, rfl, hide (by
          rw [HS2.out, HS1.out, HSk.out, HNx.out]
          show ofB _ ++ ofB l ++ ofB [10] = _
          rw [ofB_appendR, ofB_appendR]
          simp), trivial⟩
        case measure => simp [intOf]; have := HLt.out; omega
      · obtain rfl : k = L.length := by omega
        have hne : ¬ ((L.length : Int) = 0) := by omega
        have hJs : (joinsL [32] L).length ≤ 61 := HJ.out
        have HJn := hide (fun W (hW : W = wr) => joins_any g1 cap L ⟨#[32]⟩ (by omega) (by decide) (Nat.le_trans hJs (by omega)) W (fun i l hi => by rw [hW]; exact HC3.out i l hi))
        obtain ⟨S1, HS1⟩ : ∃ S1, Hid (S1 = S ++ ofB (joinsL [32] L)) := ⟨_, hide rfl⟩
        obtain ⟨S2, HS2⟩ : ∃ S2, Hid (S2 = S1 ++ ⟨#[10]⟩) := ⟨_, hide rfl⟩
        obtain ⟨S3, HS3⟩ : ∃ S3, Hid (S3 = S2 ++ ofB (Lib.decDigits L.length)) := ⟨_, hide rfl⟩
        obtain ⟨S4, HS4⟩ : ∃ S4, Hid (S4 = S3 ++ ⟨#[10]⟩) := ⟨_, hide rfl⟩
        have z1 : S1.size ≤ 200 := by rw [HS1.out, ByteArray.size_append, ofB_sizeR]; have := HSz.out; omega
        have z2 : S2.size ≤ 201 := by rw [HS2.out, ByteArray.size_append]; have : (⟨#[10]⟩ : ByteArray).size = 1 := rfl; omega
        have z3 : S3.size ≤ 231 := by rw [HS3.out, ByteArray.size_append, ofB_sizeR]; have := HD3.out; omega
        have ha1 : ∀ W, (Op.stringOp .add S (ofB (joinsL [32] L))).run Tryz.prog W = .ok (.string S1) W := fun W => by
          rw [HS1.out]
          exact run_string_add_sum W _ _ (by rw [ofB_sizeR]; have := HSz.out; omega)
        have ha2 : ∀ W, (Op.stringOp .add S1 ⟨#[10]⟩).run Tryz.prog W = .ok (.string S2) W := fun W => by
          rw [HS2.out]
          exact run_string_add_sum W _ _ (by have : (⟨#[10]⟩ : ByteArray).size = 1 := rfl; omega)
        have ha3 : ∀ W, (Op.stringOp .add S2 (ofB (Lib.decDigits L.length))).run Tryz.prog W = .ok (.string S3) W := fun W => by
          rw [HS3.out]
          exact run_string_add_sum W _ _ (by rw [ofB_sizeR]; have := HD3.out; omega)
        have ha4 : ∀ W, (Op.stringOp .add S3 ⟨#[10]⟩).run Tryz.prog W = .ok (.string S4) W := fun W => by
          rw [HS4.out]
          exact run_string_add_sum W _ _ (by have : (⟨#[10]⟩ : ByteArray).size = 1 := rfl; omega)
        have hcmp : ((ofB (outL L)).toList == S4.toList) = true := by
          have : ofB (outL L) = S4 := by
            rw [HS4.out, HS3.out, HS2.out, HS1.out, HSk.out]
            show _ = ofB _ ++ ofB _ ++ ofB [10] ++ ofB _ ++ ofB [10]
            rw [ofB_appendR, ofB_appendR, ofB_appendR, ofB_appendR]
            unfold outL
            rw [if_neg (fun e => by rw [e] at hlp; simp at hlp)]
            simp
          rw [this]
          simp
        clear hadd hlt hk z1 z2 z3 hJs
        go_wp2_with (first | (go_at_call 32; refine (HJn.out _ rfl).mono ?_; rintro en w' ⟨rfl, h3⟩; subst w') | (go_at_call 19; refine (HDg.out _).mono ?_; rintro en w5 ⟨rfl, ho5⟩; have u0 := keepC ho5 q0; have u2 := keepC ho5 q2; have u1 := keepC ho5 q1; have HO5 := hide (HO3.out.trans ho5 (fun _ _ e => e)); clear ho5))
        go_ret
        exact ⟨rfl, HO5.out⟩
theorem fieldedOK (a : Addr) (hR : Ran3 a) : FieldedOK a := fun line W h60 h0 hno hse htab => fielded_any a hR line W h60 h0 hno hse htab
end Go.Proofs.YtdbdbaepmdmnfaaGreatDoor

