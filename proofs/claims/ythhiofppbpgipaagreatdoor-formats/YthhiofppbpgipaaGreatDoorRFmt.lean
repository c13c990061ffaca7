import Derived.Test.YthhiofppbpgipaaGreatDoorRItemB
namespace Go.Proofs.YthhiofppbpgipaaGreatDoor
open Go.RowKit

/-- The arguments of a format, read, as the reference holds them in memory. -/
def RefArgs (w : World) (b : Nat) (ar : List (List UInt8)) : Prop :=
  ∀ i a, ar[i]? = some a → w.cell? ⟨b, i * 3, none⟩ = some (.int .u8 (refKind (some a))) ∧ w.cell? ⟨b, i * 3 + 1, none⟩ = some (.int .i64 (codeNum (some a))) ∧ w.cell? ⟨b, i * 3 + 2, none⟩ = some (.string ⟨a.toArray⟩)
theorem RefArgs.below {w w' : World} {b B : Nat} {ar : List (List UInt8)} (h : RefArgs w b ar) (hb : Below B w w') (hB : b < B) : RefArgs w' b ar := fun i a ha => by
  obtain ⟨h1, h2, h3⟩ := h i a ha
  exact ⟨by rw [hb.cell (p := ⟨b, i * 3, none⟩) hB]; exact h1, by rw [hb.cell (p := ⟨b, i * 3 + 1, none⟩) hB]; exact h2, by rw [hb.cell (p := ⟨b, i * 3 + 2, none⟩) hB]; exact h3⟩
theorem ext_one (s : ByteArray) (p : Nat) (h : p < s.size) : s.extract p (p + 1) = ⟨#[s[p]]⟩ := by
  apply ByteArray.ext
  rw [ByteArray.data_extract]
  apply Array.ext'
  have hp : p < s.data.size := h
  simp
  rw [List.drop_eq_getElem_cons (by simpa using hp)]
  simp
  rfl
theorem lt_list (s : ByteArray) (p : Nat) (h : p < s.size) : p < s.data.toList.length := by rw [len_eq]; exact h
theorem ret_fmt {a a' : ByteArray} {c c' : Int} (h1 : a = a') (h2 : c = c') : Ending.returned (.tuple #[.string a, .int .i64 c]) = .returned (.tuple #[.string a', .int .i64 c']) := by rw [h1, h2]
theorem wE_ge (l : List UInt8) (k : Nat) : k ≤ wE l k := by
  have : k ≤ fE l k := runTo_ge _ _ _
  unfold wE; omega
theorem pE_ge (l : List UInt8) (k : Nat) : k ≤ pE l k := by
  have := wE_ge l k
  unfold pE; split <;> omega
theorem letter_ne {l : List UInt8} {k : Nat} (h : itOk l k = true) : (((itLetter l k).toNat : Int) == 37) = false := by
  simp only [itOk, Bool.and_eq_true] at h
  rw [beq_eq_false_iff_ne]
  intro e
  rw [e] at h
  cases itDot l k <;> simp [knownB] at h

set_option maxRecDepth 100000 in
set_option maxHeartbeats 4000000 in
theorem formatted_none (s : ByteArray) (hs : s.size ≤ 500) (w : World) (ht : Tabs w)  (rl : List UInt8) (rc : Nat) (hR : fmtRun s.data.toList s.size 0 [] ([] : List (List UInt8)) = (rl, rc)) :
    Calls Tryz.prog 34 #[.string s, .slice none 0 0] w fun e w' => e = .returned (.tuple #[.string ⟨rl.toArray⟩, .int .i64 rc]) ∧ Below w.heap.size w w' := by
  have HR := hide hR
  have HT := hide ht
  have hs6 : s.size ≤ 65536 := by omega
  have hbig := ht.big
  clear hR ht
  go_enter Tryz.func34, Tryz.ntmps34
  go_wp2
  go_loopw [6, 7, 8] (fun x k i wr => ∃ (p q f : Nat) (M : List UInt8), p ≤ s.size ∧ q ≤ p ∧ M.length ≤ 500 ∧ s.size - p ≤ f ∧ x = .string ⟨M.toArray⟩ ∧ k = .int .i64 q ∧ i = .int .i64 p ∧ Below w.heap.size w wr ∧ fmtRun s.data.toList f p M (([] : List (List UInt8)).drop q) = (rl, rc)) (fun _ _ i _ => s.size - (intOf i).toNat)
  case atStart => exact ⟨0, 0, s.size, [], by omega, by omega, by simp, by omega, rfl, rfl, rfl, Below.refl _ _, HR.out⟩
  case round =>
    obtain ⟨p, q, f, M, hp, hq, hM, hf, rfl, rfl, rfl, hbw, hrun⟩ := hrel
    have HRun := hide hrun
    have HB := hide hbw
    have hzw := hbw.size
    clear hrun hbw
    by_cases hlt : p < s.size
    · obtain ⟨f', rfl⟩ : ∃ f', f = f' + 1 := ⟨f - 1, by omega⟩
      cases h1 : isAt s.data.toList p 37
      · have H1 := hide h1
        have hne : ((s[p].toNat : Int) != 37) = true := by rw [isAt_lt s p 37 hlt] at h1; rw [bne, h1]; rfl
        have hext := ext_one s p hlt
        have HG : Hid (s.data.toList[p]?.getD 0 = s[p]) := by show s.data.toList[p]?.getD 0 = s[p]; rw [get_of_lt s p hlt]; rfl
        clear h1
        by_cases hlen : 500 < M.length + 1
        · have HE : Hid (rl = [] ∧ rc = 8) := by
            have h := HRun.out
            rw [fmt_byte (lt_list s p hlt) H1.out, if_pos hlen] at h
            cases h; exact ⟨rfl, rfl⟩
          go_wp2
          go_ret2
          exact ⟨ret_fmt (by rw [HE.out.1]) (by rw [HE.out.2]; rfl), HB.out⟩
        · have HE : Hid (fmtRun s.data.toList f' (p + 1) (M ++ [s[p]]) (([] : List (List UInt8)).drop q) = (rl, rc)) := by
            have h := HRun.out
            rw [fmt_byte (lt_list s p hlt) H1.out, if_neg hlen, HG.out] at h
            exact h
          go_wp2
          go_roundw
          case rel => exact ⟨p + 1, q, f', M ++ [s[p]], by omega, by omega, by simp; omega, by omega, by rw [app_one], rfl, by go_num, HB.out, HE.out⟩
          case measure => simp [intOf]; omega
      · have H1 := hide h1
        have hne : ((s[p].toNat : Int) != 37) = false := by rw [isAt_lt s p 37 hlt] at h1; rw [bne, h1]; rfl
        clear h1
        cases h2 : isAt s.data.toList (p + 1) 37
        · have H2 := hide h2
          clear h2
          cases h3 : itOk s.data.toList (p + 1)
          · have H3 := hide h3
            clear h3
            have HE : Hid (rl = [] ∧ rc = 10) := by
              have h := HRun.out
              rw [fmt_no (lt_list s p hlt) H1.out H2.out H3.out] at h
              cases h; exact ⟨rfl, rfl⟩
            go_wp2_with fail
            refine (refItem_bad s p _ hs6 (by omega) H2.out H3.out).mono ?_
            rintro e w1 ⟨rfl, hb1⟩
            have hb1' := HB.out.trans (hb1.mono hzw)
            have hz1 := hb1.size
            clear hb1
            go_wp2
            go_ret2
            exact ⟨ret_fmt (by rw [HE.out.1]) (by rw [HE.out.2]; rfl), hb1'.alloc (by omega) _⟩
          · have H3 := hide h3
            clear h3
            have hTL := itemText_len s.data.toList (p + 1) none (by simp [argText])
            have HI := hide (fmt_item (f := f') (made := M) (ar := ([] : List (List UInt8)).drop q) (lt_list s p hlt) H1.out H2.out H3.out)
            have hpe : pE s.data.toList (p + 1) < s.size := by
              have h := H3.out
              simp only [itOk, Bool.and_eq_true, decide_eq_true_eq] at h
              rw [len_eq] at h; exact h.1
            have hpe1 : p + 1 ≤ pE s.data.toList (p + 1) := pE_ge _ _
            have hlet : (((itLetter s.data.toList (p + 1)).toNat : Int) == 37) = false := letter_ne H3.out
            have hlen0 : ((pE s.data.toList (p + 1) : Int) + 1 - p == 0) = false := by rw [beq_eq_false_iff_ne]; omega
            obtain ⟨pp, HPP⟩ : ∃ pp, Hid (pE s.data.toList (p + 1) = pp) := ⟨_, rfl⟩
            have HSI : Hid (∀ W, Tabs W → Calls Tryz.prog 72 #[.agg #[.bool (itLeft s.data.toList (p + 1)), .bool (itZero s.data.toList (p + 1)), .int .i64 (itWidth s.data.toList (p + 1)), .int .i64 (itPr s.data.toList (p + 1)), .int .i64 (pE s.data.toList (p + 1) + 1 - p), .int .u8 (itLetter s.data.toList (p + 1)).toNat], .agg #[.int .u8 117, .int .i64 0, .string ⟨#[]⟩]] W fun e w' => e = .returned (.string ⟨(itemText s.data.toList (p + 1) none).toArray⟩) ∧ Below W.heap.size W w') := fun W hT => by exact shown_item s.data.toList (p + 1) (pE s.data.toList (p + 1) + 1 - p) none ⟨#[]⟩ rfl (by decide) H3.out W hT
            obtain ⟨TT, HTT⟩ : ∃ TT, Hid (itemText s.data.toList (p + 1) none = TT) := ⟨_, rfl⟩
            rw [show (([] : List (List UInt8)).drop q).head? = none by simp, HTT.out] at HI
            rw [HTT.out] at hTL HSI
            rw [HPP.out] at hpe hpe1 hlen0 HSI HI
            by_cases hlen : 500 < M.length + TT.length
            · have HE : Hid (rl = [] ∧ rc = 8) := by
                have h := HRun.out
                rw [HI.out, if_pos hlen] at h
                cases h; exact ⟨rfl, rfl⟩
              go_wp2_with fail
              refine (refItem_ok s p _ hs6 (by omega) H3.out).mono ?_
              rintro e w1 ⟨rfl, hb1⟩
              rw [HPP.out]
              have hb1' := HB.out.trans (hb1.mono hzw)
              have hz1 := hb1.size
              clear hb1
              go_wp2_with fail
              refine (HSI.out _ ?hT).mono ?_
              case hT => exact Tabs.below HT.out ((hb1'.alloc (by omega) _).alloc (by simp; omega) _) hbig
              rintro e w2 ⟨rfl, hb2⟩
              have hb2' := ((hb1'.alloc (by omega) _).alloc (by simp; omega) _).trans (hb2.mono (by simp; omega))
              clear hb2
              go_wp2
              go_ret2
              exact ⟨ret_fmt (by rw [HE.out.1]) (by rw [HE.out.2]; rfl), hb2'⟩
            · have HE : Hid (fmtRun s.data.toList f' (pp + 1) (M ++ TT) (([] : List (List UInt8)).drop (q + 1)) = (rl, rc)) := by
                have h := HRun.out
                rw [HI.out, if_neg hlen, List.tail_drop] at h
                exact h
              go_wp2_with fail
              refine (refItem_ok s p _ hs6 (by omega) H3.out).mono ?_
              rintro e w1 ⟨rfl, hb1⟩
              rw [HPP.out]
              have hb1' := HB.out.trans (hb1.mono hzw)
              have hz1 := hb1.size
              clear hb1
              go_wp2_with fail
              refine (HSI.out _ ?hT).mono ?_
              case hT => exact Tabs.below HT.out ((hb1'.alloc (by omega) _).alloc (by simp; omega) _) hbig
              rintro e w2 ⟨rfl, hb2⟩
              have hb2' := ((hb1'.alloc (by omega) _).alloc (by simp; omega) _).trans (hb2.mono (by simp; omega))
              clear hb2
              go_wp2
              go_roundw
              case rel => exact ⟨pp + 1, q + 1, f', M ++ TT, by omega, by omega, by simp; omega, by omega, by rw [app_two], by go_num, by go_num, hb2', HE.out⟩
              case measure => simp [intOf]; omega
        · have H2 := hide h2
          have hlt2 := isAt_ltB h2
          rw [len_eq] at hlt2
          clear h2
          by_cases hlen : 500 < M.length + 1
          · have HE : Hid (rl = [] ∧ rc = 8) := by
              have h := HRun.out
              rw [fmt_pct (lt_list s p hlt) H1.out H2.out, if_pos hlen] at h
              cases h; exact ⟨rfl, rfl⟩
            go_wp2_with fail
            refine (refItem_pctx s p _ hs6 H2.out).mono ?_
            rintro e w1 ⟨rfl, hb1⟩
            have hb1' := HB.out.trans (hb1.mono hzw)
            have hz1 := hb1.size
            clear hb1
            go_wp2
            go_ret2
            exact ⟨ret_fmt (by rw [HE.out.1]) (by rw [HE.out.2]; rfl), hb1'.alloc (by omega) _⟩
          · have HE : Hid (fmtRun s.data.toList f' (p + 2) (M ++ [37]) (([] : List (List UInt8)).drop q) = (rl, rc)) := by
              have h := HRun.out
              rw [fmt_pct (lt_list s p hlt) H1.out H2.out, if_neg hlen] at h
              exact h
            go_wp2_with fail
            refine (refItem_pctx s p _ hs6 H2.out).mono ?_
            rintro e w1 ⟨rfl, hb1⟩
            have hb1' := HB.out.trans (hb1.mono hzw)
            have hz1 := hb1.size
            clear hb1
            go_wp2
            go_roundw
            case rel => exact ⟨p + 2, q, f', M ++ [37], by omega, by omega, by simp; omega, by omega, by rw [app_one], rfl, by go_num, hb1'.alloc (by omega) _, HE.out⟩
            case measure => simp [intOf]; omega
    · have HE : Hid (M = rl ∧ rc = 0) := by
        have h := HRun.out
        rw [fmt_end (by rw [len_eq]; omega)] at h
        cases h; exact ⟨rfl, rfl⟩
      go_wp2
      go_ret2
      exact ⟨ret_fmt (by rw [HE.out.1]) (by rw [HE.out.2]; rfl), HB.out⟩

set_option maxRecDepth 100000 in
set_option maxHeartbeats 4000000 in
theorem formatted_some (s : ByteArray) (hs : s.size ≤ 500) (ar : List (List UInt8)) (har : ∀ a ∈ ar, a.length ≤ 500) (hal : ar.length ≤ 12) (w : World) (ht : Tabs w) (b cap : Nat) (hA : RefArgs w b ar) (hB : b < w.heap.size) (rl : List UInt8) (rc : Nat) (hR : fmtRun s.data.toList s.size 0 [] ar = (rl, rc)) :
    Calls Tryz.prog 34 #[.string s, .slice (some ⟨b, 0, none⟩) ar.length cap] w fun e w' => e = .returned (.tuple #[.string ⟨rl.toArray⟩, .int .i64 rc]) ∧ Below w.heap.size w w' := by
  have HR := hide hR
  have HT := hide ht
  have hs6 : s.size ≤ 65536 := by omega
  have hbig := ht.big
  clear hR ht
  go_enter Tryz.func34, Tryz.ntmps34
  go_wp2
  go_loopw [6, 7, 8] (fun x k i wr => ∃ (p q f : Nat) (M : List UInt8), p ≤ s.size ∧ q ≤ p ∧ M.length ≤ 500 ∧ s.size - p ≤ f ∧ x = .string ⟨M.toArray⟩ ∧ k = .int .i64 q ∧ i = .int .i64 p ∧ Below w.heap.size w wr ∧ fmtRun s.data.toList f p M (ar.drop q) = (rl, rc)) (fun _ _ i _ => s.size - (intOf i).toNat)
  case atStart => exact ⟨0, 0, s.size, [], by omega, by omega, by simp, by omega, rfl, rfl, rfl, Below.refl _ _, HR.out⟩
  case round =>
    obtain ⟨p, q, f, M, hp, hq, hM, hf, rfl, rfl, rfl, hbw, hrun⟩ := hrel
    have HRun := hide hrun
    have HB := hide hbw
    have hzw := hbw.size
    clear hrun hbw
    by_cases hlt : p < s.size
    · obtain ⟨f', rfl⟩ : ∃ f', f = f' + 1 := ⟨f - 1, by omega⟩
      cases h1 : isAt s.data.toList p 37
      · have H1 := hide h1
        have hne : ((s[p].toNat : Int) != 37) = true := by rw [isAt_lt s p 37 hlt] at h1; rw [bne, h1]; rfl
        have hext := ext_one s p hlt
        have HG : Hid (s.data.toList[p]?.getD 0 = s[p]) := by show s.data.toList[p]?.getD 0 = s[p]; rw [get_of_lt s p hlt]; rfl
        clear h1
        by_cases hlen : 500 < M.length + 1
        · have HE : Hid (rl = [] ∧ rc = 8) := by
            have h := HRun.out
            rw [fmt_byte (lt_list s p hlt) H1.out, if_pos hlen] at h
            cases h; exact ⟨rfl, rfl⟩
          go_wp2
          go_ret2
          exact ⟨ret_fmt (by rw [HE.out.1]) (by rw [HE.out.2]; rfl), HB.out⟩
        · have HE : Hid (fmtRun s.data.toList f' (p + 1) (M ++ [s[p]]) (ar.drop q) = (rl, rc)) := by
            have h := HRun.out
            rw [fmt_byte (lt_list s p hlt) H1.out, if_neg hlen, HG.out] at h
            exact h
          go_wp2
          go_roundw
          case rel => exact ⟨p + 1, q, f', M ++ [s[p]], by omega, by omega, by simp; omega, by omega, by rw [app_one], rfl, by go_num, HB.out, HE.out⟩
          case measure => simp [intOf]; omega
      · have H1 := hide h1
        have hne : ((s[p].toNat : Int) != 37) = false := by rw [isAt_lt s p 37 hlt] at h1; rw [bne, h1]; rfl
        clear h1
        cases h2 : isAt s.data.toList (p + 1) 37
        · have H2 := hide h2
          clear h2
          cases h3 : itOk s.data.toList (p + 1)
          · have H3 := hide h3
            clear h3
            have HE : Hid (rl = [] ∧ rc = 10) := by
              have h := HRun.out
              rw [fmt_no (lt_list s p hlt) H1.out H2.out H3.out] at h
              cases h; exact ⟨rfl, rfl⟩
            go_wp2_with fail
            refine (refItem_bad s p _ hs6 (by omega) H2.out H3.out).mono ?_
            rintro e w1 ⟨rfl, hb1⟩
            have hb1' := HB.out.trans (hb1.mono hzw)
            have hz1 := hb1.size
            clear hb1
            go_wp2
            go_ret2
            exact ⟨ret_fmt (by rw [HE.out.1]) (by rw [HE.out.2]; rfl), hb1'.alloc (by omega) _⟩
          · have H3 := hide h3
            clear h3
            by_cases hqa : q < ar.length
            · obtain ⟨a, ha⟩ : ∃ a, ar[q]? = some a := ⟨ar[q], List.getElem?_eq_getElem hqa⟩
              have hal5 : a.length ≤ 500 := har a (List.mem_of_getElem? ha)
              have HQ := hide (hA q a ha)
              obtain ⟨rk, HRK⟩ : ∃ rk, Hid (refKind (some a) = rk) := ⟨_, rfl⟩
              obtain ⟨rn, HRN⟩ : ∃ rn, Hid (codeNum (some a) = rn) := ⟨_, rfl⟩
              rw [HRK.out, HRN.out] at HQ
              have HH := hide ha
              clear ha
              have hTL := itemText_len s.data.toList (p + 1) (some a) hal5
              have HI := hide (fmt_item (f := f') (made := M) (ar := ar.drop q) (lt_list s p hlt) H1.out H2.out H3.out)
              have hpe : pE s.data.toList (p + 1) < s.size := by
                have h := H3.out
                simp only [itOk, Bool.and_eq_true, decide_eq_true_eq] at h
                rw [len_eq] at h; exact h.1
              have hpe1 : p + 1 ≤ pE s.data.toList (p + 1) := pE_ge _ _
              have hlet : (((itLetter s.data.toList (p + 1)).toNat : Int) == 37) = false := letter_ne H3.out
              have hlen0 : ((pE s.data.toList (p + 1) : Int) + 1 - p == 0) = false := by rw [beq_eq_false_iff_ne]; omega
              obtain ⟨pp, HPP⟩ : ∃ pp, Hid (pE s.data.toList (p + 1) = pp) := ⟨_, rfl⟩
              have HSI : Hid (∀ W, Tabs W → Calls Tryz.prog 72 #[.agg #[.bool (itLeft s.data.toList (p + 1)), .bool (itZero s.data.toList (p + 1)), .int .i64 (itWidth s.data.toList (p + 1)), .int .i64 (itPr s.data.toList (p + 1)), .int .i64 (pE s.data.toList (p + 1) + 1 - p), .int .u8 (itLetter s.data.toList (p + 1)).toNat], .agg #[.int .u8 rk, .int .i64 rn, .string ⟨a.toArray⟩]] W fun e w' => e = .returned (.string ⟨(itemText s.data.toList (p + 1) (some a)).toArray⟩) ∧ Below W.heap.size W w') := fun W hT => by rw [← HRK.out, ← HRN.out]; exact shown_item s.data.toList (p + 1) (pE s.data.toList (p + 1) + 1 - p) (some a) ⟨a.toArray⟩ rfl (by rw [size_mk]; exact hal5) H3.out W hT
              obtain ⟨TT, HTT⟩ : ∃ TT, Hid (itemText s.data.toList (p + 1) (some a) = TT) := ⟨_, rfl⟩
              rw [show (ar.drop q).head? = some a by rw [List.head?_drop]; exact HH.out, HTT.out] at HI
              rw [HTT.out] at hTL HSI
              rw [HPP.out] at hpe hpe1 hlen0 HSI HI
              by_cases hlen : 500 < M.length + TT.length
              · have HE : Hid (rl = [] ∧ rc = 8) := by
                  have h := HRun.out
                  rw [HI.out, if_pos hlen] at h
                  cases h; exact ⟨rfl, rfl⟩
                go_wp2_with fail
                refine (refItem_ok s p _ hs6 (by omega) H3.out).mono ?_
                rintro e w1 ⟨rfl, hb1⟩
                rw [HPP.out]
                have hb1' := HB.out.trans (hb1.mono hzw)
                have hz1 := hb1.size
                clear hb1
                have c0 : w1.cell? ⟨b, q * 3, none⟩ = some (.int .u8 rk) := by rw [hb1'.cell (p := ⟨b, q * 3, none⟩) hB]; exact HQ.out.1
                have c1 : w1.cell? ⟨b, q * 3 + 1, none⟩ = some (.int .i64 rn) := by rw [hb1'.cell (p := ⟨b, q * 3 + 1, none⟩) hB]; exact HQ.out.2.1
                have c2 : w1.cell? ⟨b, q * 3 + 2, none⟩ = some (.string ⟨a.toArray⟩) := by rw [hb1'.cell (p := ⟨b, q * 3 + 2, none⟩) hB]; exact HQ.out.2.2
                have hb9 : b < w1.heap.size := by omega
                go_wp2_with fail
                refine (HSI.out _ ?hT).mono ?_
                case hT => exact Tabs.below HT.out ((hb1'.alloc (by omega) _).alloc (by simp; omega) _) hbig
                rintro e w2 ⟨rfl, hb2⟩
                have hb2' := ((hb1'.alloc (by omega) _).alloc (by simp; omega) _).trans (hb2.mono (by simp; omega))
                clear hb2
                go_wp2
                go_ret2
                exact ⟨ret_fmt (by rw [HE.out.1]) (by rw [HE.out.2]; rfl), hb2'⟩
              · have HE : Hid (fmtRun s.data.toList f' (pp + 1) (M ++ TT) (ar.drop (q + 1)) = (rl, rc)) := by
                  have h := HRun.out
                  rw [HI.out, if_neg hlen, List.tail_drop] at h
                  exact h
                go_wp2_with fail
                refine (refItem_ok s p _ hs6 (by omega) H3.out).mono ?_
                rintro e w1 ⟨rfl, hb1⟩
                rw [HPP.out]
                have hb1' := HB.out.trans (hb1.mono hzw)
                have hz1 := hb1.size
                clear hb1
                have c0 : w1.cell? ⟨b, q * 3, none⟩ = some (.int .u8 rk) := by rw [hb1'.cell (p := ⟨b, q * 3, none⟩) hB]; exact HQ.out.1
                have c1 : w1.cell? ⟨b, q * 3 + 1, none⟩ = some (.int .i64 rn) := by rw [hb1'.cell (p := ⟨b, q * 3 + 1, none⟩) hB]; exact HQ.out.2.1
                have c2 : w1.cell? ⟨b, q * 3 + 2, none⟩ = some (.string ⟨a.toArray⟩) := by rw [hb1'.cell (p := ⟨b, q * 3 + 2, none⟩) hB]; exact HQ.out.2.2
                have hb9 : b < w1.heap.size := by omega
                go_wp2_with fail
                refine (HSI.out _ ?hT).mono ?_
                case hT => exact Tabs.below HT.out ((hb1'.alloc (by omega) _).alloc (by simp; omega) _) hbig
                rintro e w2 ⟨rfl, hb2⟩
                have hb2' := ((hb1'.alloc (by omega) _).alloc (by simp; omega) _).trans (hb2.mono (by simp; omega))
                clear hb2
                go_wp2
                go_roundw
                case rel => exact ⟨pp + 1, q + 1, f', M ++ TT, by omega, by omega, by simp; omega, by omega, by rw [app_two], by go_num, by go_num, hb2', HE.out⟩
                case measure => simp [intOf]; omega
            · have hTL := itemText_len s.data.toList (p + 1) none (by simp [argText])
              have HI := hide (fmt_item (f := f') (made := M) (ar := ar.drop q) (lt_list s p hlt) H1.out H2.out H3.out)
              have hpe : pE s.data.toList (p + 1) < s.size := by
                have h := H3.out
                simp only [itOk, Bool.and_eq_true, decide_eq_true_eq] at h
                rw [len_eq] at h; exact h.1
              have hpe1 : p + 1 ≤ pE s.data.toList (p + 1) := pE_ge _ _
              have hlet : (((itLetter s.data.toList (p + 1)).toNat : Int) == 37) = false := letter_ne H3.out
              have hlen0 : ((pE s.data.toList (p + 1) : Int) + 1 - p == 0) = false := by rw [beq_eq_false_iff_ne]; omega
              obtain ⟨pp, HPP⟩ : ∃ pp, Hid (pE s.data.toList (p + 1) = pp) := ⟨_, rfl⟩
              have HSI : Hid (∀ W, Tabs W → Calls Tryz.prog 72 #[.agg #[.bool (itLeft s.data.toList (p + 1)), .bool (itZero s.data.toList (p + 1)), .int .i64 (itWidth s.data.toList (p + 1)), .int .i64 (itPr s.data.toList (p + 1)), .int .i64 (pE s.data.toList (p + 1) + 1 - p), .int .u8 (itLetter s.data.toList (p + 1)).toNat], .agg #[.int .u8 117, .int .i64 0, .string ⟨#[]⟩]] W fun e w' => e = .returned (.string ⟨(itemText s.data.toList (p + 1) none).toArray⟩) ∧ Below W.heap.size W w') := fun W hT => by exact shown_item s.data.toList (p + 1) (pE s.data.toList (p + 1) + 1 - p) none ⟨#[]⟩ rfl (by decide) H3.out W hT
              obtain ⟨TT, HTT⟩ : ∃ TT, Hid (itemText s.data.toList (p + 1) none = TT) := ⟨_, rfl⟩
              rw [show (ar.drop q).head? = none by simp; omega, HTT.out] at HI
              rw [HTT.out] at hTL HSI
              rw [HPP.out] at hpe hpe1 hlen0 HSI HI
              by_cases hlen : 500 < M.length + TT.length
              · have HE : Hid (rl = [] ∧ rc = 8) := by
                  have h := HRun.out
                  rw [HI.out, if_pos hlen] at h
                  cases h; exact ⟨rfl, rfl⟩
                go_wp2_with fail
                refine (refItem_ok s p _ hs6 (by omega) H3.out).mono ?_
                rintro e w1 ⟨rfl, hb1⟩
                rw [HPP.out]
                have hb1' := HB.out.trans (hb1.mono hzw)
                have hz1 := hb1.size
                clear hb1
                go_wp2_with fail
                refine (HSI.out _ ?hT).mono ?_
                case hT => exact Tabs.below HT.out ((hb1'.alloc (by omega) _).alloc (by simp; omega) _) hbig
                rintro e w2 ⟨rfl, hb2⟩
                have hb2' := ((hb1'.alloc (by omega) _).alloc (by simp; omega) _).trans (hb2.mono (by simp; omega))
                clear hb2
                go_wp2
                go_ret2
                exact ⟨ret_fmt (by rw [HE.out.1]) (by rw [HE.out.2]; rfl), hb2'⟩
              · have HE : Hid (fmtRun s.data.toList f' (pp + 1) (M ++ TT) (ar.drop (q + 1)) = (rl, rc)) := by
                  have h := HRun.out
                  rw [HI.out, if_neg hlen, List.tail_drop] at h
                  exact h
                go_wp2_with fail
                refine (refItem_ok s p _ hs6 (by omega) H3.out).mono ?_
                rintro e w1 ⟨rfl, hb1⟩
                rw [HPP.out]
                have hb1' := HB.out.trans (hb1.mono hzw)
                have hz1 := hb1.size
                clear hb1
                go_wp2_with fail
                refine (HSI.out _ ?hT).mono ?_
                case hT => exact Tabs.below HT.out ((hb1'.alloc (by omega) _).alloc (by simp; omega) _) hbig
                rintro e w2 ⟨rfl, hb2⟩
                have hb2' := ((hb1'.alloc (by omega) _).alloc (by simp; omega) _).trans (hb2.mono (by simp; omega))
                clear hb2
                go_wp2
                go_roundw
                case rel => exact ⟨pp + 1, q + 1, f', M ++ TT, by omega, by omega, by simp; omega, by omega, by rw [app_two], by go_num, by go_num, hb2', HE.out⟩
                case measure => simp [intOf]; omega
        · have H2 := hide h2
          have hlt2 := isAt_ltB h2
          rw [len_eq] at hlt2
          clear h2
          by_cases hlen : 500 < M.length + 1
          · have HE : Hid (rl = [] ∧ rc = 8) := by
              have h := HRun.out
              rw [fmt_pct (lt_list s p hlt) H1.out H2.out, if_pos hlen] at h
              cases h; exact ⟨rfl, rfl⟩
            go_wp2_with fail
            refine (refItem_pctx s p _ hs6 H2.out).mono ?_
            rintro e w1 ⟨rfl, hb1⟩
            have hb1' := HB.out.trans (hb1.mono hzw)
            have hz1 := hb1.size
            clear hb1
            go_wp2
            go_ret2
            exact ⟨ret_fmt (by rw [HE.out.1]) (by rw [HE.out.2]; rfl), hb1'.alloc (by omega) _⟩
          · have HE : Hid (fmtRun s.data.toList f' (p + 2) (M ++ [37]) (ar.drop q) = (rl, rc)) := by
              have h := HRun.out
              rw [fmt_pct (lt_list s p hlt) H1.out H2.out, if_neg hlen] at h
              exact h
            go_wp2_with fail
            refine (refItem_pctx s p _ hs6 H2.out).mono ?_
            rintro e w1 ⟨rfl, hb1⟩
            have hb1' := HB.out.trans (hb1.mono hzw)
            have hz1 := hb1.size
            clear hb1
            go_wp2
            go_roundw
            case rel => exact ⟨p + 2, q, f', M ++ [37], by omega, by omega, by simp; omega, by omega, by rw [app_one], rfl, by go_num, hb1'.alloc (by omega) _, HE.out⟩
            case measure => simp [intOf]; omega
    · have HE : Hid (M = rl ∧ rc = 0) := by
        have h := HRun.out
        rw [fmt_end (by rw [len_eq]; omega)] at h
        cases h; exact ⟨rfl, rfl⟩
      go_wp2
      go_ret2
      exact ⟨ret_fmt (by rw [HE.out.1]) (by rw [HE.out.2]; rfl), HB.out⟩
end Go.Proofs.YthhiofppbpgipaaGreatDoor
