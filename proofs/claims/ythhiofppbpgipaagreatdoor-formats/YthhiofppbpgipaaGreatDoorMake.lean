import Derived.Test.YthhiofppbpgipaaGreatDoorMakeP
import Derived.Test.YthhiofppbpgipaaGreatDoorFWalkH
namespace Go.Proofs.YthhiofppbpgipaaGreatDoor
open Go.RowKit

theorem ret_made {a a' : ByteArray} {c c' : Value} (h1 : a = a') (h2 : c = c') : Ending.returned (.tuple #[.string a, c]) = .returned (.tuple #[.string a', c']) := by rw [h1, h2]
theorem made_snoc {B : Nat} {v' : Value} {M : List UInt8} {c : UInt8} {W0 w' : World} (h : Lib.OwnBuf B 5 v' (M.length + 1) (M.map bV ++ [.int .u8 c.toNat]) W0 w') : Made B v' (M ++ [c]) W0 w' := by
  unfold Made; rw [List.length_append, List.map_append]; exact h
theorem made_app {B : Nat} {v' : Value} {M t : List UInt8} {W0 w' : World} (h : Lib.OwnBuf B 5 v' (M.length + (⟨t.toArray⟩ : ByteArray).size) (M.map bV ++ Lib.strCells ⟨t.toArray⟩) W0 w') : Made B v' (M ++ t) W0 w' := by
  unfold Made; rw [List.length_append, List.map_append, ← strCells_bV, ← size_mk]; exact h

set_option maxRecDepth 100000 in
set_option maxHeartbeats 4000000 in
theorem make_any (s : ByteArray) (hs : s.size ≤ 500) (b : Nat) (ao0 : Option Addr) (off0 C0 : Nat) (ar : List (List UInt8)) (w : World) (ht : Tabs w) (hB : b < w.heap.size) (hC0 : ar.length ≤ C0) (hao : ar ≠ [] → ao0 = some ⟨b, off0, none⟩) (hca : CellsAt w b off0 ar) (hla : ∀ a ∈ ar, a.length ≤ 500)
    (a0 a1 : Addr) (hE0 : w.cell? ⟨0, 0, none⟩ = some (.iface 532 (.pointer (some a0)))) (hE1 : w.cell? ⟨1, 0, none⟩ = some (.iface 532 (.pointer (some a1)))) (rl : List UInt8) (rc : Nat) (hR : fmtRun s.data.toList s.size 0 [] ar = (rl, rc)) :
    Calls Tryz.prog 31 #[.string s, .slice ao0 ar.length C0] w fun e w' => e = .returned (.tuple #[.string ⟨rl.toArray⟩, errVal rc a0 a1]) ∧ Below w.heap.size w w' := by
  obtain ⟨i5, hi5, hz5, hs5, hb5⟩ := info_parts info5
  have HR := hide hR
  have HT := hide ht
  have hs6 : s.size ≤ 65536 := by omega
  have hbig := ht.big
  have HAO0 := hide hao
  have HCA0 := hide hca
  have HLA0 := hide hla
  clear hR ht hao hca hla
  go_enter Tryz.func31, Tryz.ntmps31
  go_wp2
  go_loopw [1, 6, 7] (fun va vm i wr => ∃ (p f off : Nat) (M : List UInt8) (ar' : List (List UInt8)) (ao : Option Addr) (C : Nat) (am : Option Addr) (cm : Nat), p ≤ s.size ∧ M.length ≤ 500 ∧ s.size - p ≤ f ∧ va = .slice ao ar'.length C ∧ ar'.length ≤ C ∧ (ar' ≠ [] → ao = some ⟨b, off, none⟩) ∧ CellsAt w b off ar' ∧ (∀ a ∈ ar', a.length ≤ 500) ∧ vm = .slice am M.length cm ∧ i = .int .i64 p ∧ Made w.heap.size (.slice am M.length cm) M w wr ∧ fmtRun s.data.toList f p M ar' = (rl, rc)) (fun _ _ i _ => s.size - (intOf i).toNat)
  case atStart => exact ⟨0, s.size, off0, [], ar, ao0, C0, some ⟨w.heap.size, 0, none⟩, 0, by omega, by simp, by omega, rfl, hC0, HAO0.out, HCA0.out, HLA0.out, rfl, rfl, Made.empty w, HR.out⟩
  case round =>
    obtain ⟨p, f, off, M, ar', ao, C, am, cm, hp, hM, hf, rfl, hl', hao', hca', hla', rfl, rfl, hmade, hrun⟩ := hrel
    have HRun := hide hrun
    have HM := hide hmade
    have HL := hide hl'
    have HAO := hide hao'
    have HCA := hide hca'
    have HLen := hide hla'
    have hzw := hmade.2.1.size
    clear hrun hmade hl' hao' hca' hla' HAO0 HCA0 HLA0 HR
    by_cases hlt : p < s.size
    · obtain ⟨f', rfl⟩ : ∃ f', f = f' + 1 := ⟨f - 1, by omega⟩
      cases h1 : isAt s.data.toList p 37
      · have H1 := hide h1
        have hne : ((s[p].toNat : Int) != 37) = true := by rw [isAt_lt s p 37 hlt] at h1; rw [bne, h1]; rfl
        have HG : Hid (s.data.toList[p]?.getD 0 = s[p]) := by show s.data.toList[p]?.getD 0 = s[p]; rw [get_of_lt s p hlt]; rfl
        clear h1
        go_wp2_with (at_builtin; refine Lib.wpList_append_byte rfl (.tmp 47) (.tmp 51) 166 rfl w.heap.size 5 i5 Tryz.underlying166 hi5 hz5 hs5 hb5 (.slice am M.length cm) M.length (M.map bV) rfl w wr s[p].toNat HM.out rfl (by omega) ?_)
        intro v' w1 hb1
        have hm1 := made_snoc hb1
        clear hb1
        obtain ⟨am', cm', hv'⟩ := hm1.shape
        rw [hv'] at hm1 ⊢
        rw [List.length_append, List.length_singleton] at hm1 ⊢
        clear hv'
        by_cases hlen : 500 < M.length + 1
        · have HE : Hid (rl = [] ∧ rc = 8) := by
            have h := HRun.out
            rw [fmt_byte (lt_list s p hlt) H1.out, if_pos hlen] at h
            cases h; exact ⟨rfl, rfl⟩
          have e1' : w1.cell? ⟨1, 0, none⟩ = some (.iface 532 (.pointer (some a1))) := by rw [hm1.2.1.cell (p := ⟨1, 0, none⟩) (show 1 < w.heap.size by omega)]; exact hE1
          have hbw1 := hm1.2.1
          clear hm1
          go_wp2
          go_region
          all_goals
            go_wp2
            go_ret2
            exact ⟨ret_made (by rw [HE.out.1]) (by rw [HE.out.2]; rfl), hbw1.drew⟩
        · have HE : Hid (fmtRun s.data.toList f' (p + 1) (M ++ [s[p]]) ar' = (rl, rc)) := by
            have h := HRun.out
            rw [fmt_byte (lt_list s p hlt) H1.out, if_neg hlen, HG.out] at h
            exact h
          have HM1 := hide hm1
          clear hm1
          go_wp2
          go_roundw
          case rel => exact ⟨p + 1, f', off, M ++ [s[p]], ar', ao, C, am', cm', by omega, by simp; omega, by omega, rfl, HL.out, HAO.out, HCA.out, HLen.out, by rw [List.length_append]; rfl, by go_num, by rw [List.length_append]; exact HM1.out, HE.out⟩
          case measure => simp [intOf]; omega
      · have H1 := hide h1
        have HPX := hide (prefix_pct s p hlt h1)
        have hne : ((s[p].toNat : Int) != 37) = false := by rw [isAt_lt s p 37 hlt] at h1; rw [bne, h1]; rfl
        clear h1
        cases h2 : isAt s.data.toList (p + 1) 37
        · have H2 := hide h2
          clear h2
          cases h3 : itOk s.data.toList (p + 1)
          · have H3 := hide h3
            clear h3
            have HE : Hid (rl = [] ∧ rc = 10) := by
              have h := HRun.out
              rw [fmt_no (lt_list s p hlt) H1.out H2.out H3.out] at h
              cases h; exact ⟨rfl, rfl⟩
            go_wp2_with fail
            refine (Tryz.strings_HasPrefix _ _ _).mono ?_
            rintro e w0 ⟨rfl, rfl⟩
            rw [show ({ data := #[37, 37] } : ByteArray).data.toList = [37, 37] from rfl, HPX.out, H2.out]
            go_wp2_with fail
            rw [show ((p : Int) + 1) = ((p + 1 : Nat) : Int) by omega]
            refine (readItem_no s (p + 1) _ hs6 (by omega) H3.out).mono ?_
            rintro e w1 ⟨⟨b1, b2, n1, b3, n2, c, n3, rfl⟩, hb1⟩
            have hm1 := HM.out.below hb1
            have hz1 := hb1.size
            have hbw1 := hm1.2.1
            have e0' : w1.cell? ⟨0, 0, none⟩ = some (.iface 532 (.pointer (some a0))) := by rw [hbw1.cell (p := ⟨0, 0, none⟩) (show 0 < w.heap.size by omega)]; exact hE0
            have h01 : 0 < w1.heap.size := by omega
            clear hb1 hm1
            go_wp2
            go_region
            all_goals
              go_wp2
              go_ret2
              exact ⟨ret_made (by rw [HE.out.1]) (by rw [HE.out.2]; rfl), (hbw1.alloc (by omega) _).drew⟩
          · have H3 := hide h3
            clear h3
            cases har0 : ar' with
            | nil =>
              subst har0
              have hTL := itemText_len s.data.toList (p + 1) none (by simp [argText])
              have HI := hide (fmt_item (f := f') (made := M) (ar := []) (lt_list s p hlt) H1.out H2.out H3.out)
              have hpe : pE s.data.toList (p + 1) < s.size := by
                have h := H3.out
                simp only [itOk, Bool.and_eq_true, decide_eq_true_eq] at h
                rw [len_eq] at h; exact h.1
              have hpe1 : p + 1 ≤ pE s.data.toList (p + 1) := pE_ge _ _
              obtain ⟨pp, HPP⟩ : ∃ pp, Hid (pE s.data.toList (p + 1) = pp) := ⟨_, rfl⟩
              have HSI : Hid (∀ W, Tabs W → Calls Tryz.prog 67 #[.agg #[.bool (itLeft s.data.toList (p + 1)), .bool (itZero s.data.toList (p + 1)), .int .i64 (itWidth s.data.toList (p + 1)), .bool (itDot s.data.toList (p + 1)), .int .i64 (itPrec s.data.toList (p + 1)), .int .u8 (itLetter s.data.toList (p + 1)).toNat], .agg #[.int .i64 0, .int .i64 0, .string ⟨#[]⟩]] W fun e w' => e = .returned (.string ⟨(itemText s.data.toList (p + 1) none).toArray⟩) ∧ Below W.heap.size W w') := fun W hT => by exact text_item s.data.toList (p + 1) none ⟨#[]⟩ rfl (by decide) H3.out W hT
              obtain ⟨TT, HTT⟩ : ∃ TT, Hid (itemText s.data.toList (p + 1) none = TT) := ⟨_, rfl⟩
              rw [show ([] : List (List UInt8)).head? = none from rfl, HTT.out] at HI
              rw [HTT.out] at hTL HSI
              rw [HPP.out] at hpe hpe1 HI
              go_wp2_with fail
              refine (Tryz.strings_HasPrefix _ _ _).mono ?_
              rintro e w0 ⟨rfl, rfl⟩
              rw [show ({ data := #[37, 37] } : ByteArray).data.toList = [37, 37] from rfl, HPX.out, H2.out]
              go_wp2_with fail
              rw [show ((p : Int) + 1) = ((p + 1 : Nat) : Int) by omega]
              refine (readItem_yes s (p + 1) _ hs6 (by omega) H3.out).mono ?_
              rintro e w1 ⟨rfl, hb1⟩
              rw [HPP.out]
              have hm1 := HM.out.below hb1
              have hz1 := hb1.size
              have hbw1 := hm1.2.1
              have HM1 := hide hm1
              clear hb1 hm1
              go_wp2_with fail
              refine (HSI.out _ ?hT).mono ?_
              case hT => exact Tabs.below HT.out ((hbw1.alloc (by omega) _).alloc (by simp; omega) _) hbig
              rintro e w2 ⟨rfl, hb2⟩
              have hm2 := (HM1.out.below (((Below.refl w1.heap.size _).alloc (Nat.le_refl _) _).alloc (by simp) _)).below hb2
              clear hb2 hbw1
              go_wp2_with (at_builtin; refine Lib.wpList_append_text rfl (.tmp 36) (.tmp 39) 166 9 rfl w.heap.size 5 i5 Tryz.underlying166 Tryz.underlying9 hi5 hz5 hs5 hb5 (.slice am M.length cm) M.length (M.map bV) rfl w hm2 _ rfl (by rw [size_mk]; omega) ?_)
              intro v' w3 hb3
              have hm1 := made_app hb3
              clear hb3 hm2
              obtain ⟨am', cm', hv'⟩ := hm1.shape
              rw [hv'] at hm1 ⊢
              rw [List.length_append] at hm1 ⊢
              clear hv'
              by_cases hlen : 500 < M.length + TT.length
              · have HE : Hid (rl = [] ∧ rc = 8) := by
                  have h := HRun.out
                  rw [HI.out, if_pos hlen] at h
                  cases h; exact ⟨rfl, rfl⟩
                have e1' : w3.cell? ⟨1, 0, none⟩ = some (.iface 532 (.pointer (some a1))) := by rw [hm1.2.1.cell (p := ⟨1, 0, none⟩) (show 1 < w.heap.size by omega)]; exact hE1
                have hbw1 := hm1.2.1
                clear hm1
                go_wp2
                go_region
                all_goals
                  go_wp2
                  go_ret2
                  exact ⟨ret_made (by rw [HE.out.1]) (by rw [HE.out.2]; rfl), hbw1.drew⟩
              · have HE : Hid (fmtRun s.data.toList f' (pp + 1) (M ++ TT) [] = (rl, rc)) := by
                  have h := HRun.out
                  rw [HI.out, if_neg hlen] at h
                  exact h
                have HM9 := hide hm1
                clear hm1
                go_wp2
                go_roundw
                case rel => exact ⟨pp + 1, f', off, M ++ TT, [], ao, C, am', cm', by omega, by simp; omega, by omega, rfl, HL.out, HAO.out, HCA.out, HLen.out, by rw [List.length_append], by go_num, by rw [List.length_append]; exact HM9.out, HE.out⟩
                case measure => simp [intOf]; omega
            | cons a r =>
              by_cases hC1 : C = 1
              · have hr0 : r = [] := by
                  have := HL.out
                  rw [har0, List.length_cons] at this
                  exact List.eq_nil_of_length_eq_zero (by omega)
                subst hr0
                subst har0
                have hal5 : a.length ≤ 500 := HLen.out a (by simp)
                obtain ⟨ck, HCK⟩ : ∃ ck, Hid (codeKind (some a) = ck) := ⟨_, rfl⟩
                obtain ⟨cn, HCN⟩ : ∃ cn, Hid (codeNum (some a) = cn) := ⟨_, rfl⟩
                have hq := HCA.out 0 a rfl
                rw [HCK.out, HCN.out] at hq
                have HQ := hide hq
                clear hq
                have hlc := HL.out
                rw [List.length_cons] at hlc
                rw [HAO.out (by simp), List.length_cons]
                have hTL := itemText_len s.data.toList (p + 1) (some a) hal5
                have HI := hide (fmt_item (f := f') (made := M) (ar := [a]) (lt_list s p hlt) H1.out H2.out H3.out)
                have hpe : pE s.data.toList (p + 1) < s.size := by
                  have h := H3.out
                  simp only [itOk, Bool.and_eq_true, decide_eq_true_eq] at h
                  rw [len_eq] at h; exact h.1
                have hpe1 : p + 1 ≤ pE s.data.toList (p + 1) := pE_ge _ _
                obtain ⟨pp, HPP⟩ : ∃ pp, Hid (pE s.data.toList (p + 1) = pp) := ⟨_, rfl⟩
                have HSI : Hid (∀ W, Tabs W → Calls Tryz.prog 67 #[.agg #[.bool (itLeft s.data.toList (p + 1)), .bool (itZero s.data.toList (p + 1)), .int .i64 (itWidth s.data.toList (p + 1)), .bool (itDot s.data.toList (p + 1)), .int .i64 (itPrec s.data.toList (p + 1)), .int .u8 (itLetter s.data.toList (p + 1)).toNat], .agg #[.int .i64 ck, .int .i64 cn, .string ⟨a.toArray⟩]] W fun e w' => e = .returned (.string ⟨(itemText s.data.toList (p + 1) (some a)).toArray⟩) ∧ Below W.heap.size W w') := fun W hT => by rw [← HCK.out, ← HCN.out]; exact text_item s.data.toList (p + 1) (some a) ⟨a.toArray⟩ rfl (by rw [size_mk]; exact hal5) H3.out W hT
                obtain ⟨TT, HTT⟩ : ∃ TT, Hid (itemText s.data.toList (p + 1) (some a) = TT) := ⟨_, rfl⟩
                rw [show [a].head? = some a from rfl, HTT.out] at HI
                rw [HTT.out] at hTL HSI
                rw [HPP.out] at hpe hpe1 HI
                have HLen2 : Hid (∀ x ∈ ([] : List (List UInt8)), x.length ≤ 500) := fun x hx => HLen.out x (by simp [hx])
                have HCA2 : Hid (CellsAt w b off []) := by
                  exact fun i x hx => by simp at hx
                have HL2 : Hid (([] : List (List UInt8)).length ≤ 0) := by show ([] : List (List UInt8)).length ≤ 0; simp
                subst hC1
                go_wp2_with fail
                refine (Tryz.strings_HasPrefix _ _ _).mono ?_
                rintro e w0 ⟨rfl, rfl⟩
                rw [show ({ data := #[37, 37] } : ByteArray).data.toList = [37, 37] from rfl, HPX.out, H2.out]
                go_wp2_with fail
                rw [show ((p : Int) + 1) = ((p + 1 : Nat) : Int) by omega]
                refine (readItem_yes s (p + 1) _ hs6 (by omega) H3.out).mono ?_
                rintro e w1 ⟨rfl, hb1⟩
                rw [HPP.out]
                have hm1 := HM.out.below hb1
                have hz1 := hb1.size
                have hbw1 := hm1.2.1
                have HM1 := hide hm1
                clear hb1 hm1
                have c0 : w1.cell? ⟨b, off, none⟩ = some (.int .i64 ck) := by rw [hbw1.cell (p := ⟨b, off, none⟩) hB]; exact HQ.out.1
                have c1 : w1.cell? ⟨b, off + 1, none⟩ = some (.int .i64 cn) := by rw [hbw1.cell (p := ⟨b, off + 1, none⟩) hB]; exact HQ.out.2.1
                have c2 : w1.cell? ⟨b, off + 2, none⟩ = some (.string ⟨a.toArray⟩) := by rw [hbw1.cell (p := ⟨b, off + 2, none⟩) hB]; exact HQ.out.2.2
                have hb9 : b < w1.heap.size := by omega
                go_wp2_with fail
                go_region
                all_goals
                  go_wp2_with fail
                  refine (HSI.out _ ?hT).mono ?_
                  case hT => exact Tabs.below HT.out (((hbw1.alloc (by omega) _).alloc (by simp; omega) _).drew) hbig
                  rintro e w2 ⟨rfl, hb2⟩
                  have hm2 := (HM1.out.below ((((Below.refl w1.heap.size _).alloc (Nat.le_refl _) _).alloc (by simp) _).drew)).below hb2
                  clear hb2 hbw1
                  go_wp2_with (at_builtin; refine Lib.wpList_append_text rfl (.tmp 36) (.tmp 39) 166 9 rfl w.heap.size 5 i5 Tryz.underlying166 Tryz.underlying9 hi5 hz5 hs5 hb5 (.slice am M.length cm) M.length (M.map bV) rfl w hm2 _ rfl (by rw [size_mk]; omega) ?_)
                  intro v' w3 hb3
                  have hm1 := made_app hb3
                  clear hb3 hm2
                  obtain ⟨am', cm', hv'⟩ := hm1.shape
                  rw [hv'] at hm1 ⊢
                  rw [List.length_append] at hm1 ⊢
                  clear hv'
                  by_cases hlen : 500 < M.length + TT.length
                  · have HE : Hid (rl = [] ∧ rc = 8) := by
                      have h := HRun.out
                      rw [HI.out, if_pos hlen] at h
                      cases h; exact ⟨rfl, rfl⟩
                    have e1' : w3.cell? ⟨1, 0, none⟩ = some (.iface 532 (.pointer (some a1))) := by rw [hm1.2.1.cell (p := ⟨1, 0, none⟩) (show 1 < w.heap.size by omega)]; exact hE1
                    have hbw1 := hm1.2.1
                    clear hm1
                    go_wp2
                    go_region
                    all_goals
                      go_wp2
                      go_ret2
                      exact ⟨ret_made (by rw [HE.out.1]) (by rw [HE.out.2]; rfl), hbw1.drew⟩
                  · have HE : Hid (fmtRun s.data.toList f' (pp + 1) (M ++ TT) [] = (rl, rc)) := by
                      have h := HRun.out
                      rw [HI.out, if_neg hlen] at h
                      exact h
                    have HM9 := hide hm1
                    clear hm1
                    go_wp2
                    go_roundw
                    case rel => exact ⟨pp + 1, f', off, M ++ TT, [], (some ⟨b, off, none⟩), 0, am', cm', by omega, by simp; omega, by omega, rfl, HL2.out, (fun _ => rfl), HCA2.out, HLen2.out, by rw [List.length_append], by go_num, by rw [List.length_append]; exact HM9.out, HE.out⟩
                    case measure => simp [intOf]; omega
              ·
                subst har0
                have hal5 : a.length ≤ 500 := HLen.out a (by simp)
                obtain ⟨ck, HCK⟩ : ∃ ck, Hid (codeKind (some a) = ck) := ⟨_, rfl⟩
                obtain ⟨cn, HCN⟩ : ∃ cn, Hid (codeNum (some a) = cn) := ⟨_, rfl⟩
                have hq := HCA.out 0 a rfl
                rw [HCK.out, HCN.out] at hq
                have HQ := hide hq
                clear hq
                have hlc := HL.out
                rw [List.length_cons] at hlc
                rw [HAO.out (by simp), List.length_cons]
                have hTL := itemText_len s.data.toList (p + 1) (some a) hal5
                have HI := hide (fmt_item (f := f') (made := M) (ar := (a :: r)) (lt_list s p hlt) H1.out H2.out H3.out)
                have hpe : pE s.data.toList (p + 1) < s.size := by
                  have h := H3.out
                  simp only [itOk, Bool.and_eq_true, decide_eq_true_eq] at h
                  rw [len_eq] at h; exact h.1
                have hpe1 : p + 1 ≤ pE s.data.toList (p + 1) := pE_ge _ _
                obtain ⟨pp, HPP⟩ : ∃ pp, Hid (pE s.data.toList (p + 1) = pp) := ⟨_, rfl⟩
                have HSI : Hid (∀ W, Tabs W → Calls Tryz.prog 67 #[.agg #[.bool (itLeft s.data.toList (p + 1)), .bool (itZero s.data.toList (p + 1)), .int .i64 (itWidth s.data.toList (p + 1)), .bool (itDot s.data.toList (p + 1)), .int .i64 (itPrec s.data.toList (p + 1)), .int .u8 (itLetter s.data.toList (p + 1)).toNat], .agg #[.int .i64 ck, .int .i64 cn, .string ⟨a.toArray⟩]] W fun e w' => e = .returned (.string ⟨(itemText s.data.toList (p + 1) (some a)).toArray⟩) ∧ Below W.heap.size W w') := fun W hT => by rw [← HCK.out, ← HCN.out]; exact text_item s.data.toList (p + 1) (some a) ⟨a.toArray⟩ rfl (by rw [size_mk]; exact hal5) H3.out W hT
                obtain ⟨TT, HTT⟩ : ∃ TT, Hid (itemText s.data.toList (p + 1) (some a) = TT) := ⟨_, rfl⟩
                rw [show (a :: r).head? = some a from rfl, HTT.out] at HI
                rw [HTT.out] at hTL HSI
                rw [HPP.out] at hpe hpe1 HI
                have HLen2 : Hid (∀ x ∈ (r : List (List UInt8)), x.length ≤ 500) := fun x hx => HLen.out x (by simp [hx])
                have HCA2 : Hid (CellsAt w b (off + 3) r) := by
                  exact HCA.out.tail
                have HL2 : Hid ((r : List (List UInt8)).length ≤ (C - 1)) := by show (r : List (List UInt8)).length ≤ (C - 1); omega
                go_wp2_with fail
                refine (Tryz.strings_HasPrefix _ _ _).mono ?_
                rintro e w0 ⟨rfl, rfl⟩
                rw [show ({ data := #[37, 37] } : ByteArray).data.toList = [37, 37] from rfl, HPX.out, H2.out]
                go_wp2_with fail
                rw [show ((p : Int) + 1) = ((p + 1 : Nat) : Int) by omega]
                refine (readItem_yes s (p + 1) _ hs6 (by omega) H3.out).mono ?_
                rintro e w1 ⟨rfl, hb1⟩
                rw [HPP.out]
                have hm1 := HM.out.below hb1
                have hz1 := hb1.size
                have hbw1 := hm1.2.1
                have HM1 := hide hm1
                clear hb1 hm1
                have c0 : w1.cell? ⟨b, off, none⟩ = some (.int .i64 ck) := by rw [hbw1.cell (p := ⟨b, off, none⟩) hB]; exact HQ.out.1
                have c1 : w1.cell? ⟨b, off + 1, none⟩ = some (.int .i64 cn) := by rw [hbw1.cell (p := ⟨b, off + 1, none⟩) hB]; exact HQ.out.2.1
                have c2 : w1.cell? ⟨b, off + 2, none⟩ = some (.string ⟨a.toArray⟩) := by rw [hbw1.cell (p := ⟨b, off + 2, none⟩) hB]; exact HQ.out.2.2
                have hb9 : b < w1.heap.size := by omega
                go_wp2_with fail
                go_region
                all_goals
                  go_wp2_with fail
                  refine (HSI.out _ ?hT).mono ?_
                  case hT => exact Tabs.below HT.out (((hbw1.alloc (by omega) _).alloc (by simp; omega) _).drew) hbig
                  rintro e w2 ⟨rfl, hb2⟩
                  have hm2 := (HM1.out.below ((((Below.refl w1.heap.size _).alloc (Nat.le_refl _) _).alloc (by simp) _).drew)).below hb2
                  clear hb2 hbw1
                  go_wp2_with (at_builtin; refine Lib.wpList_append_text rfl (.tmp 36) (.tmp 39) 166 9 rfl w.heap.size 5 i5 Tryz.underlying166 Tryz.underlying9 hi5 hz5 hs5 hb5 (.slice am M.length cm) M.length (M.map bV) rfl w hm2 _ rfl (by rw [size_mk]; omega) ?_)
                  intro v' w3 hb3
                  have hm1 := made_app hb3
                  clear hb3 hm2
                  obtain ⟨am', cm', hv'⟩ := hm1.shape
                  rw [hv'] at hm1 ⊢
                  rw [List.length_append] at hm1 ⊢
                  clear hv'
                  by_cases hlen : 500 < M.length + TT.length
                  · have HE : Hid (rl = [] ∧ rc = 8) := by
                      have h := HRun.out
                      rw [HI.out, if_pos hlen] at h
                      cases h; exact ⟨rfl, rfl⟩
                    have e1' : w3.cell? ⟨1, 0, none⟩ = some (.iface 532 (.pointer (some a1))) := by rw [hm1.2.1.cell (p := ⟨1, 0, none⟩) (show 1 < w.heap.size by omega)]; exact hE1
                    have hbw1 := hm1.2.1
                    clear hm1
                    go_wp2
                    go_region
                    all_goals
                      go_wp2
                      go_ret2
                      exact ⟨ret_made (by rw [HE.out.1]) (by rw [HE.out.2]; rfl), hbw1.drew⟩
                  · have HE : Hid (fmtRun s.data.toList f' (pp + 1) (M ++ TT) r = (rl, rc)) := by
                      have h := HRun.out
                      rw [HI.out, if_neg hlen] at h
                      exact h
                    have HM9 := hide hm1
                    clear hm1
                    go_wp2
                    go_roundw
                    case rel => exact ⟨pp + 1, f', (off + 3), M ++ TT, r, (some ⟨b, off + 3, none⟩), (C - 1), am', cm', by omega, by simp; omega, by omega, rfl, HL2.out, (fun _ => rfl), HCA2.out, HLen2.out, by rw [List.length_append], by go_num, by rw [List.length_append]; exact HM9.out, HE.out⟩
                    case measure => simp [intOf]; omega
        · have H2 := hide h2
          have hlt2 := isAt_ltB h2
          rw [len_eq] at hlt2
          clear h2
          go_wp2_with fail
          refine (Tryz.strings_HasPrefix _ _ _).mono ?_
          rintro e w0 ⟨rfl, rfl⟩
          rw [show ({ data := #[37, 37] } : ByteArray).data.toList = [37, 37] from rfl, HPX.out, H2.out]
          go_wp2_with (at_builtin; refine Lib.wpList_append_byte rfl (.tmp 60) (.tmp 61) 166 rfl w.heap.size 5 i5 Tryz.underlying166 hi5 hz5 hs5 hb5 (.slice am M.length cm) M.length (M.map bV) rfl w _ ((37 : UInt8).toNat) HM.out rfl (by omega) ?_)
          intro v' w1 hb1
          have hm1 := made_snoc (c := 37) (M := M) hb1
          clear hb1
          obtain ⟨am', cm', hv'⟩ := hm1.shape
          rw [hv'] at hm1 ⊢
          rw [List.length_append, List.length_singleton] at hm1 ⊢
          clear hv'
          by_cases hlen : 500 < M.length + 1
          · have HE : Hid (rl = [] ∧ rc = 8) := by
              have h := HRun.out
              rw [fmt_pct (lt_list s p hlt) H1.out H2.out, if_pos hlen] at h
              cases h; exact ⟨rfl, rfl⟩
            have e1' : w1.cell? ⟨1, 0, none⟩ = some (.iface 532 (.pointer (some a1))) := by rw [hm1.2.1.cell (p := ⟨1, 0, none⟩) (show 1 < w.heap.size by omega)]; exact hE1
            have hbw1 := hm1.2.1
            clear hm1
            go_wp2
            go_region
            all_goals
              go_wp2
              go_ret2
              exact ⟨ret_made (by rw [HE.out.1]) (by rw [HE.out.2]; rfl), hbw1.drew⟩
          · have HE : Hid (fmtRun s.data.toList f' (p + 2) (M ++ [37]) ar' = (rl, rc)) := by
              have h := HRun.out
              rw [fmt_pct (lt_list s p hlt) H1.out H2.out, if_neg hlen] at h
              exact h
            have HM1 := hide hm1
            clear hm1
            go_wp2
            go_roundw
            case rel => exact ⟨p + 2, f', off, M ++ [37], ar', ao, C, am', cm', by omega, by simp; omega, by omega, rfl, HL.out, HAO.out, HCA.out, HLen.out, by rw [List.length_append]; rfl, by go_num, by rw [List.length_append]; exact HM1.out, HE.out⟩
            case measure => simp [intOf]; omega
    · have HE : Hid (M = rl ∧ rc = 0) := by
        have h := HRun.out
        rw [fmt_end (by rw [len_eq]; omega)] at h
        cases h; exact ⟨rfl, rfl⟩
      have kc := HM.out.conv
      have hbw := HM.out.2.1
      go_wp2
      go_ret2
      exact ⟨ret_made (by rw [HE.out.1]) (by rw [HE.out.2]; rfl), hbw⟩
end Go.Proofs.YthhiofppbpgipaaGreatDoor
