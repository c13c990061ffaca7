import Derived.Test.YthhiofppbpgipaaGreatDoorSB
import Derived.Test.YthhiofppbpgipaaGreatDoorSC
import Derived.Test.YthhiofppbpgipaaGreatDoorMRMatch
import Derived.Deep.QuietTactic
import Derived.BigQuiet
import Derived.Test.YthhiofppbpgipaaGreatDoorGN
namespace Go.Proofs.YthhiofppbpgipaaGreatDoor
open Go.RowKit
theorem nil_strs (w : World) (B : Nat) : w.ownsRow B 9 1 (.slice none 0 0) ([] : List (List UInt8)).length (strsV []) := World.ownsRow_nil w B 9 1
theorem empty_cases (t : ByteArray) : (t.data.toList = [] ∧ t.size = 0 ∧ t.toList.isEmpty = true) ∨ (t.data.toList ≠ [] ∧ t.size ≠ 0 ∧ t.toList.isEmpty = false) := by
  have hlen := len_eq t
  rw [ByteArray.toList_eq]
  match hl : t.data.toList with
  | [] => rw [hl] at hlen; exact Or.inl ⟨rfl, by simp at hlen; omega, rfl⟩
  | a :: r => rw [hl] at hlen; exact Or.inr ⟨by simp, by simp at hlen; omega, rfl⟩
set_option maxRecDepth 100000 in
set_option maxHeartbeats 8000000 in
theorem rcut_each (t p : ByteArray) (ht : t.size ≤ 500) (h0 : p.data.toList = []) (h1 : p.toList.isEmpty = true) (h2 : (p.toList == [32]) = false) (h3 : ((p.size : Int) == 1) = false) (w : World) :
    Calls Tryz.prog 28 #[.string t, .string p] w (CutPost t p w) := by
  obtain ⟨i0, hi0, hz0, hz1, hz2⟩ := info_parts info9r
  have hlen : t.data.toList.length = t.size := len_eq t
  have HT : Hid (t.data.toList.length ≤ 500) := by show _ ≤ 500; rw [len_eq]; exact ht
  have H0 := hide h0
  clear h0
  go_enter Tryz.func28, Tryz.ntmps28
  go_wp2
  go_loopw [7, 10] (fun s7 s10 wr => ∃ k : Nat, k ≤ t.size ∧ s10 = .int .i64 k ∧ wr.ownsRow w.heap.size 9 1 s7 (eachB (t.data.toList.take k)).length (strsV (eachB (t.data.toList.take k))) ∧ Only (fun _ => False) w wr) (fun _ s10 _ => t.size - (intOf s10).toNat)
  case atStart => exact ⟨0, Nat.zero_le _, rfl, World.ownsRow_nil _ _ _ _, Only.refl _ _⟩
  case round =>
    obtain ⟨k, hk, rfl, hown, how⟩ := hrel
    have HO := hide hown
    have HW := hide how
    have hzw := how.size
    have hel : (eachB (t.data.toList.take k)).length ≤ 500 := by simp [eachB]; omega
    by_cases hlt : k < t.size
    · have hli : (k : Int) < (t.size : Int) := by omega
      have HX : Hid (t.extract k (k + 1) = ofB (cutL t.data.toList k (k + 1))) := extract_cut t k (k + 1)
      have HE := hide (eachB_take (l := t.data.toList) (k := k) (by omega))
      clear hown how
      go_wp2_with (at_builtin; refine wpList_append_own _ rfl (.tmp 59) (.tmp 65) 25 rfl w.heap.size 9 i0 (.string ⟨#[]⟩) 1 16 Tryz.underlying25 hi0 hz0 hz1 hz2 rfl (by decide) _ _ _ rfl (HO.out.alloc _) _ 1 1 [.string (t.extract k (k + 1))] rfl rfl (news_one _ _ _) (fun u hu => by simp at hu; subst hu; rfl) (by unfold maxLen; omega) (by omega) (by simp; omega) ?_; intro v' w3 hown' hgrow _)
      rw [HX.out] at hown'
      have R1 := hide (row_snoc hown')
      have R2 : Hid (Only (fun _ => False) w w3) := (HW.out.alloc _).grown hgrow (fun k hk hlt => by have := (HO.out.lt k hk).1; omega)
      clear hown' hgrow
      go_wp2
      go_roundw
      case rel => exact ⟨k + 1, by omega, by go_num, by rw [HE.out]; exact R1.out, R2.out⟩
      case measure => simp [intOf]; omega
    · have hli : ¬ (k : Int) < (t.size : Int) := by omega
      rw [List.take_of_length_le (by omega)] at hown
      have HO2 := hide hown
      clear hown how
      go_wp2
      go_ret2
      exact ⟨_, _, true, rfl, HO2.out, splitIs_each HT.out H0.out, HW.out⟩
set_option maxRecDepth 100000 in
set_option maxHeartbeats 8000000 in
theorem rcut_byte (t p : ByteArray) (ht : t.size ≤ 500) (c : UInt8) (h0 : p.data.toList = [c]) (h1 : p.size = 1) (hc : c ≠ 32) (h6 : (p.toList == [32]) = false) (w : World) :
    Calls Tryz.prog 28 #[.string t, .string p] w (CutPost t p w) := by
  obtain ⟨i0, hi0, hz0, hz1, hz2⟩ := info_parts info9r
  have hlen : t.data.toList.length = t.size := len_eq t
  have HT : Hid (t.data.toList.length ≤ 500) := by show _ ≤ 500; rw [len_eq]; exact ht
  have H0 := hide h0
  have HC := hide hc
  have hpc : p[0] = c := by
    have := get_of_lt p 0 (by omega)
    rw [h0] at this
    simpa using this.symm
  have HPC := hide hpc
  have hp0 : (0 : Int) < (p.size : Int) := by omega
  clear h0 hc hpc
  rcases empty_cases t with ⟨e0, e1, e2⟩ | ⟨e0, e1, e2⟩
  · have HE : Hid (SplitIs t.data.toList p.data.toList [] 0) := by
      have := splitIs_byte HT.out H0.out HC.out
      rwa [if_pos e0] at this
    clear e0
    go_enter Tryz.func28, Tryz.ntmps28
    go_wp2
    go_ret2
    exact ⟨_, [], true, rfl, nil_strs _ _, HE.out, Only.refl _ _⟩
  · have HE : Hid (SplitIs t.data.toList p.data.toList (splitB c [] t.data.toList) 0) := by
      have := splitIs_byte HT.out H0.out HC.out
      rwa [if_neg e0] at this
    clear e0
    go_enter Tryz.func28, Tryz.ntmps28
    go_wp2
    go_loopw [7, 8, 9] (fun s7 s8 s9 wr => ∃ k frm xs, k ≤ t.size ∧ frm ≤ k ∧ s8 = .int .i64 (frm : Nat) ∧ s9 = .int .i64 (k : Nat) ∧ xs.length ≤ k ∧ splitB c [] t.data.toList = xs ++ splitB c (cutL t.data.toList frm k) (t.data.toList.drop k) ∧ wr.ownsRow w.heap.size 9 1 s7 xs.length (strsV xs) ∧ Only (fun _ => False) w wr) (fun _ _ s9 _ => t.size - (intOf s9).toNat)
    case atStart => exact ⟨0, 0, [], Nat.zero_le _, Nat.le_refl _, rfl, rfl, Nat.le_refl _, rfl, World.ownsRow_nil _ _ _ _, Only.refl _ _⟩
    case round =>
      obtain ⟨k, frm, xs, hk, hfk, rfl, rfl, hxl, hsp, hown, how⟩ := hrel
      have HS := hide hsp
      have HO := hide hown
      have HW := hide how
      have hzw := how.size
      clear hsp hown how
      by_cases hlt : k < t.size
      · have hli : (k : Int) < (t.size : Int) := by omega
        have hget := get_of_lt t k hlt
        by_cases heq : t[k] = c
        · have hbe : ((t[k].toNat : Int) == (p[0].toNat : Int)) = true := by rw [heq, HPC.out]; simp
          have HS2 : Hid (splitB c [] t.data.toList = (xs ++ [cutL t.data.toList frm k]) ++ splitB c (cutL t.data.toList (k + 1) (k + 1)) (t.data.toList.drop (k + 1))) := by
            show _ = _
            rw [HS.out, splitB_hit (by rw [hget, heq]), cutL_same]; simp
          have HX : Hid (t.extract frm k = ofB (cutL t.data.toList frm k)) := extract_cut t frm k
          clear hget heq
          go_wp2
          go_quiet (fail)
          have HO' : Hid ((wr.drewN nq).ownsRow w.heap.size 9 1 _ xs.length (strsV xs)) := HO.out
          go_wp2_with (at_builtin; refine wpList_append_own _ rfl (.tmp 35) (.tmp 40) 25 rfl w.heap.size 9 i0 (.string ⟨#[]⟩) 1 16 Tryz.underlying25 hi0 hz0 hz1 hz2 rfl (by decide) _ _ _ rfl (HO'.out.alloc _) _ 1 1 [.string (t.extract frm k)] rfl rfl (news_one _ _ _) (fun u hu => by simp at hu; subst hu; rfl) (by unfold maxLen; omega) (by omega) (by simp; omega) ?_; intro v' w3 hown' hgrow _)
          rw [HX.out] at hown'
          have R1 := hide (row_snoc hown')
          have R2 : Hid (Only (fun _ => False) w w3) := ((HW.out.drewN _).alloc _).grown hgrow (fun k hk hlt => by have := (HO.out.lt k hk).1; omega)
          clear hown' hgrow
          go_wp2
          go_roundw
          case rel => exact ⟨k + 1, k + 1, _, by omega, Nat.le_refl _, by go_num, by go_num, by simp; omega, HS2.out, R1.out, R2.out⟩
          case measure => simp [intOf]; omega
        · have hbe : ((t[k].toNat : Int) == (p[0].toNat : Int)) = false := by
            rw [HPC.out, beq_eq_false_iff_ne]
            intro e
            exact heq (UInt8.toNat_inj.1 (by omega))
          have HS2 : Hid (splitB c [] t.data.toList = xs ++ splitB c (cutL t.data.toList frm (k + 1)) (t.data.toList.drop (k + 1))) := by
            show _ = _
            rw [HS.out, splitB_pass hfk hget heq]
          clear hget heq
          go_wp2
          go_quiet (fail)
          go_wp2
          go_roundw
          case rel => exact ⟨k + 1, frm, xs, by omega, by omega, by go_num, by go_num, by omega, HS2.out, HO.out, HW.out.drewN _⟩
          case measure => simp [intOf]; omega
      · have hli : ¬ (k : Int) < (t.size : Int) := by omega
        obtain rfl : k = t.size := by omega
        have HX : Hid (t.extract frm t.size = ofB (cutL t.data.toList frm t.size)) := extract_cut t frm t.size
        have HE2 : Hid (xs ++ [cutL t.data.toList frm t.size] = splitB c [] t.data.toList) := by
          show _ = _
          rw [HS.out, ← hlen, splitB_end]
        go_wp2_with (at_builtin; refine wpList_append_own _ rfl (.tmp 44) (.tmp 48) 25 rfl w.heap.size 9 i0 (.string ⟨#[]⟩) 1 16 Tryz.underlying25 hi0 hz0 hz1 hz2 rfl (by decide) _ _ _ rfl (HO.out.alloc _) _ 1 1 [.string (t.extract frm t.size)] rfl rfl (news_one _ _ _) (fun u hu => by simp at hu; subst hu; rfl) (by unfold maxLen; omega) (by omega) (by simp; omega) ?_; intro v' w3 hown' hgrow _)
        rw [HX.out] at hown'
        have R1 := hide (row_snoc hown')
        have R2 : Hid (Only (fun _ => False) w w3) := (HW.out.alloc _).grown hgrow (fun k hk hlt => by have := (HO.out.lt k hk).1; omega)
        clear hown' hgrow
        go_wp2
        go_ret2
        exact ⟨_, _, true, rfl, by rw [← HE2.out]; exact R1.out, HE.out, R2.out⟩
set_option maxRecDepth 100000 in
set_option maxHeartbeats 8000000 in
theorem rcut_any (hC : CompiledOK) (t p : ByteArray) (ht : t.size ≤ 500) (hp : p.size ≤ 500) (w : World) :
    Calls Tryz.prog 28 #[.string t, .string p] w (CutPost t p w) := by
  have HCo := hide hC
  clear hC
  have HT : Hid (t.data.toList.length ≤ 500) := by show _ ≤ 500; rw [len_eq]; exact ht
  have HPl : Hid (p.data.toList.length ≤ 500) := by show _ ≤ 500; rw [len_eq]; exact hp
  rcases sep_cases p with ⟨h0, h1, h2, h3⟩ | ⟨c, h0, h1, h2, h3, h4, h5⟩ | ⟨h0, h1, h2, h3⟩
  · exact rcut_each t p ht h0 h1 h2 h3 w
  · by_cases hc : c = 32
    · have h6 := h4 hc
      have H0 : Hid (p.data.toList = [32]) := by show _ = _; rw [h0, hc]
      clear h0 h4 h5 hc
      go_enter Tryz.func28, Tryz.ntmps28
      go_wp2_with (go_at_call 60; refine (rblanks_any t ht w).mono ?_; rintro en w1 ⟨v, rfl, hr, ho⟩; have HR := hide hr; have HO := hide ho; clear hr ho)
      go_ret2
      exact ⟨_, _, true, rfl, HR.out, splitIs_blank HT.out H0.out, HO.out⟩
    · exact rcut_byte t p ht c h0 h1 hc (h5 hc) w
  · have H2 : Hid (2 ≤ p.data.toList.length) := by show 2 ≤ p.data.toList.length; rw [len_eq]; exact h0
    rcases empty_cases t with ⟨e0, e1, e2⟩ | ⟨e0, e1, e2⟩
    all_goals
      have HE0 := hide e0
      clear e0
      go_enter Tryz.func28, Tryz.ntmps28
      go_wp2_with fail
      refine (HCo.out p w hp).mono ?_
      rintro e w1 ⟨ho1, hno, hyes⟩
      have HO1 := hide ho1
      have hz1 := ho1.size
      cases hc : wholeP p.data.toList with
      | none =>
        have HC := hide hc
        obtain rfl := hno hc
        clear hno hyes hc ho1
        go_wp2
        go_ret2
        exact ⟨_, [], false, rfl, nil_strs _ _, splitIs_none HT.out HPl.out H2.out HC.out, HO1.out.alloc _⟩
      | some R =>
        have HC := hide hc
        obtain ⟨v, top, P, d, rfl, hP, hPl, hk⟩ := hyes R hc
        obtain ⟨po, cap, rfl⟩ : ∃ po cap, v = .slice po P.length cap := by obtain ⟨xs, h2, _⟩ := hP; exact ownsRow_slice h2
        have HP := hide hP
        have HK := hide hk
        obtain ⟨len, hLn⟩ := isLen_some R t.data.toList
        have HLn := hide hLn
        have HPat := hide (splitIs_pat hLn HT.out HPl.out H2.out HC.out)
        unfold patPieces at HPat
        clear hno hyes hc ho1 hP hk hLn
        first
          | (rw [if_pos HE0.out] at HPat
             go_wp2
             go_ret2
             exact ⟨_, [], true, rfl, nil_strs _ _, HPat.out, HO1.out.alloc _⟩)
          | (rw [if_neg HE0.out] at HPat
             go_wp2_with fail
             refine (rpattern_any d P top R HK.out _ t hPl ht HLn.out _ (HP.out.only (D := fun _ => False) ((Only.refl _ w1).alloc _) (fun _ _ e => e))).mono ?_
             rintro e w2 ⟨v2, rfl, hr, ho2⟩
             have HR := hide hr
             have HO2 : Hid (Only (fun _ => False) w w2) := (HO1.out.alloc _).trans ho2 (fun _ _ e => e)
             clear hr ho2
             go_wp2
             go_ret2
             exact ⟨_, _, true, rfl, own_base HR.out (by simp; omega), HPat.out, HO2.out⟩)
end Go.Proofs.YthhiofppbpgipaaGreatDoor

namespace Go.Proofs.YthhiofppbpgipaaGreatDoor
open Go.RowKit
/-- A separator that is no pattern: no pieces. -/
theorem split_no {t p : List UInt8} {L : List (List UInt8)} (h7 : SplitIs t p L 7) : SplitIs t p [] 7 := by
  have hl : L = [] := by
    by_cases hl : 500 < t.length ∨ 500 < p.length
    · exact (h7.1 hl).1
    · obtain ⟨a1, a2, a3, a4⟩ := h7.2 hl
      match p with
      | [] => have := (a2 rfl).2; omega
      | [c] =>
        by_cases hc : c = 32
        · have := (a1 (by rw [hc])).2; omega
        · have := (a3 c rfl hc).2; omega
      | a :: b :: r =>
        obtain ⟨a5, a6⟩ := a4 (by simp)
        cases hw : wholeP (a :: b :: r) with
        | none => exact (a5 hw).1
        | some R => have := (a6 R hw).2; omega
  rw [hl] at h7; exact h7
set_option maxRecDepth 100000 in
set_option maxHeartbeats 8000000 in
theorem rsplit_any (hC : CompiledOK) (t p : ByteArray) (w : World) : Calls Tryz.prog 12 #[.string t, .string p] w (SplitPost t p w) := by
  by_cases h1 : 500 < t.size
  · have HL : Hid (500 < t.data.toList.length ∨ 500 < p.data.toList.length) := by left; rw [len_eq]; exact h1
    have hi : (500 : Int) < (t.size : Int) := by omega
    go_enter Tryz.func12, Tryz.ntmps12
    go_wp2
    go_ret2
    exact ⟨_, [], 1, rfl, nil_strs _ _, splitIs_long HL.out, Only.refl _ _⟩
  · have hi1 : ¬ (500 : Int) < (t.size : Int) := by omega
    by_cases h2 : 500 < p.size
    · have HL : Hid (500 < t.data.toList.length ∨ 500 < p.data.toList.length) := by right; rw [len_eq]; exact h2
      have hi : (500 : Int) < (p.size : Int) := by omega
      go_enter Tryz.func12, Tryz.ntmps12
      go_wp2
      go_ret2
      exact ⟨_, [], 1, rfl, nil_strs _ _, splitIs_long HL.out, Only.refl _ _⟩
    · have hi2 : ¬ (500 : Int) < (p.size : Int) := by omega
      have HR0 := hide (rcut_any hC t p (by omega) (by omega) w)
      clear hC
      go_enter Tryz.func12, Tryz.ntmps12
      go_wp2_with fail
      refine (HR0.out).mono ?_
      rintro e w1 ⟨v, L, ok, rfl, hr, hs, ho⟩
      have HR := hide hr
      have HS := hide hs
      have HO := hide ho
      have hz := ho.size
      clear hr hs ho HR0
      cases ok with
      | true =>
        go_wp2
        go_ret2
        exact ⟨_, L, 0, rfl, HR.out, HS.out, HO.out⟩
      | false =>
        have HE : Hid (SplitIs t.data.toList p.data.toList [] 7) := split_no HS.out
        go_wp2
        go_ret2
        exact ⟨_, [], 7, rfl, nil_strs _ _, HE.out, HO.out⟩
/-- Texts lie one behind the other. -/
def StrAt (w : World) (b o : Nat) (ss : List ByteArray) : Prop := ∀ (i : Nat) (x : ByteArray), ss[i]? = some x → w.cell? ⟨b, o + i, none⟩ = some (.string x)
set_option maxHeartbeats 1000000 in
theorem ssame_any (b1 o1 c1 b2 o2 c2 : Nat) (ss : List ByteArray) (hl : ss.length ≤ maxLen) (w : World) (hA : StrAt w b1 o1 ss) (hA2 : StrAt w b2 o2 ss) :
    Calls Tryz.prog 13 #[.slice (some ⟨b1, o1, none⟩) ss.length c1, .slice (some ⟨b2, o2, none⟩) ss.length c2] w fun e w' => e = .returned (.bool true) ∧ ∃ n, w' = w.drewN n := by
  unfold maxLen at hl
  go_enter Tryz.func13, Tryz.ntmps13
  go_wp2
  go_loopw [5] (fun i wr => ∃ k n : Nat, k ≤ ss.length ∧ i = .int .i64 k ∧ wr = w.drewN n) (fun i _ => ss.length - (intOf i).toNat)
  case atStart => exact ⟨0, 0, by omega, rfl, rfl⟩
  case round =>
    obtain ⟨k, n, hk, rfl, rfl⟩ := hrel
    by_cases hlt : k < ss.length
    · obtain ⟨x, hx⟩ : ∃ x, ss[k]? = some x := ⟨ss[k], List.getElem?_eq_getElem hlt⟩
      have c0 : w.cell? ⟨b1, o1 + k, none⟩ = some (.string x) := hA k x hx
      have c1 : w.cell? ⟨b2, o2 + k, none⟩ = some (.string x) := hA2 k x hx
      have hki : (k : Int) < (ss.length : Int) := by omega
      clear hx
      go_wp2
      go_quiet (fail)
      go_wp2
      go_roundw
      case rel => exact ⟨k + 1, _, by omega, by go_num, rfl⟩
      case measure => simp [intOf]; omega
    · go_wp2
      go_ret
      exact ⟨rfl, n, rfl⟩
set_option maxHeartbeats 1000000 in
theorem ssame_none (ao : Option Addr) (c1 : Nat) (ao2 : Option Addr) (c2 : Nat) (w : World) :
    Calls Tryz.prog 13 #[.slice ao 0 c1, .slice ao2 0 c2] w fun e w' => e = .returned (.bool true) ∧ w' = w := by
  go_enter Tryz.func13, Tryz.ntmps13
  go_wp2
  go_loop [5] (fun i => i = .int .i64 0) (fun _ => 0)
  case atStart => exact rfl
  case round =>
    subst hrel
    go_wp2
    go_ret
    exact ⟨rfl, rfl⟩
/-- Two rows of the same pieces are the same. -/
theorem ssame_rows {w : World} {B C : Nat} {v u : Value} {L : List (List UInt8)} (hL : L.length ≤ 501) (h : w.ownsRow B 9 1 v L.length (strsV L)) (h' : w.ownsRow C 9 1 u L.length (strsV L)) :
    Calls Tryz.prog 13 #[v, u] w fun e w' => e = .returned (.bool true) ∧ ∃ n, w' = w.drewN n := by
  obtain ⟨po, cp, rfl⟩ := ownsRow_slice h
  obtain ⟨qo, cq, rfl⟩ := ownsRow_slice h'
  by_cases h0 : L.length = 0
  · rw [h0]
    exact (ssame_none po cp qo cq w).mono (fun e w' he => ⟨he.1, 0, he.2⟩)
  · obtain ⟨g, cp2, e1⟩ := own_form h h0
    obtain ⟨g', cq2, e2⟩ := own_form h' h0
    rw [e1] at h ⊢
    rw [e2] at h' ⊢
    have key : ∀ {B G cap : Nat}, w.ownsRow B 9 1 (.slice (some ⟨G, 0, none⟩) L.length cap) L.length (strsV L) → StrAt w G 0 (L.map ofB) := by
      intro B G cap hr i x hx
      have hc := hr.cells (g := G) rfl i (.string x) (by
        unfold strsV
        rw [List.getElem?_map] at hx ⊢
        cases hl : L[i]? with
        | none => rw [hl] at hx; cases hx
        | some l => rw [hl] at hx; cases hx; rfl)
      simp only [Addr.add] at hc
      split at hc
      · rename_i hi; subst hi; exact hc
      · exact hc
    have := ssame_any g 0 cp2 g' 0 cq2 (L.map ofB) (by unfold maxLen; simp; omega) w (key h) (key h')
    simpa using this
end Go.Proofs.YthhiofppbpgipaaGreatDoor

namespace Go.Proofs.YthhiofppbpgipaaGreatDoor
open Go.RowKit
set_option maxRecDepth 100000 in
set_option maxHeartbeats 4000000 in
theorem plays_split (hC : ClassOK) (A B : Int) (s t u : ByteArray) (ao : Option Addr) (n cap : Nat) (w : World) :
    Calls Tryz.prog 7 #[.agg #[.int .i64 2, .int .i64 A, .int .i64 B, .string s, .string t, .string u, .slice ao n cap]] w fun e w' => e = .returned (.bool true) ∧ Below w.heap.size w w' := by
  have HC := hide hC
  clear hC
  have hx0 := new0 w (.cells #[.int .i64 2, .int .i64 A, .int .i64 B, .string s, .string t, .string u, .slice ao n cap] 27)
  have HX0 := hide hx0
  clear hx0
  go_enter Tryz.func7, Tryz.ntmps7
  go_wp2_with fail
  refine (split_any t s _).mono ?_
  rintro e w1 ⟨v, L, m, rfl, hr1, hs1, ho1⟩
  have hx1 : w1.heap[w.heap.size]? = some (.cells #[.int .i64 2, .int .i64 A, .int .i64 B, .string s, .string t, .string u, .slice ao n cap] 27 (0, 0)) := (ho1.block w.heap.size (by simp) (fun e => e)).trans HX0.out
  have p3 : w1.cell? ⟨w.heap.size, 3, none⟩ = some (.string s) := cell_of hx1 rfl
  have p4 : w1.cell? ⟨w.heap.size, 4, none⟩ = some (.string t) := cell_of hx1 rfl
  have HS1 := hide hs1
  have HR1 := hide hr1
  have HO1 : Hid (Only (fun _ => False) w w1) := ((Only.refl _ w).alloc _).trans ho1 (fun _ _ e => e)
  clear hs1 hr1 ho1 hx1 HX0
  go_wp2_with fail
  refine (rsplit_any (compiled_all HC.out) t s _).mono ?_
  rintro e w2 ⟨v2, L2, m2, rfl, hr2, hs2, ho2⟩
  obtain ⟨rfl, rfl⟩ := hs2.unique HS1.out
  have hr1 := ownsRow_of HR1.out (fun k hk => ho2.block k (HR1.out.lt k hk).2 (fun e => e))
  have HSm := hide (ssame_rows hs2.len hr1 hr2)
  have HO2 : Hid (Only (fun _ => False) w w2) := HO1.out.trans ho2 (fun _ _ e => e)
  clear hr1 hr2 hs2 ho2 HS1 HR1 HO1
  go_wp2_with fail
  refine (HSm.out).mono ?_
  rintro e w3 ⟨rfl, k, rfl⟩
  go_wp2_with (go_at_call 10; refine (mnum_any _ _).mono ?_; rintro e w5 ⟨rfl, rfl⟩)
  go_ret
  exact ⟨rfl, (HO2.out.drewN k).below (Nat.le_refl _) (fun _ _ e => e)⟩
set_option maxRecDepth 100000 in
set_option maxHeartbeats 4000000 in
theorem upto_split (b off n cap : Nat) (hn : n ≤ 140737488355328) (w : World) (hB : b < w.heap.size) (hO : ∀ i, i < n → OpM w b (off + i * 7)) :
    Calls Tryz.prog 6 #[.slice (some ⟨b, off, none⟩) n cap, .int .i64 2, .int .i64 2] w fun e w' => e = .returned (.int .i64 (-1)) ∧ Below w.heap.size w w' := by
  have HOp := hide hO
  clear hO
  go_enter Tryz.func6, Tryz.ntmps6
  go_wp2
  go_loopw [7] (fun i wr => ∃ k : Nat, k ≤ n ∧ i = .int .i64 k ∧ Below w.heap.size w wr) (fun i _ => n - (intOf i).toNat)
  case atStart => exact ⟨0, by omega, rfl, Below.refl _ _⟩
  case round =>
    obtain ⟨k, hk, rfl, hbw⟩ := hrel
    have hzw := hbw.size
    by_cases hlt : k < n
    · obtain ⟨K, A, B, s, t, u, ao, nn, cp, h0, h1, h2, h3, h4, h5, h6⟩ := (HOp.out k hlt).below hbw hB
      have hk60 : (k : Int) < 1152921504606846976 := by omega
      have HB := hide hbw
      clear hbw
      by_cases hK : K = 2
      · subst hK
        go_wp2_with fail
        refine (plays_split class_ok A B s t u ao nn cp _).mono ?_
        rintro e w1 ⟨rfl, hb1⟩
        have hw1 := HB.out.trans ((mbox_below hb1).mono hzw)
        clear hb1
        go_wp2
        go_roundw
        case rel => exact ⟨k + 1, by omega, by go_num, hw1⟩
        case measure => simp [intOf]; omega
      · by_cases hge : 2 ≤ K
        · have hle : ¬ K ≤ 2 := by omega
          clear hK
          go_wp2
          go_roundw
          case rel => exact ⟨k + 1, by omega, by go_num, HB.out.alloc hzw _⟩
          case measure => simp [intOf]; omega
        · clear hK
          go_wp2
          go_roundw
          case rel => exact ⟨k + 1, by omega, by go_num, HB.out.alloc hzw _⟩
          case measure => simp [intOf]; omega
    · go_wp2
      go_ret
      exact ⟨rfl, hbw⟩
set_option maxHeartbeats 1000000 in
theorem splits_some (b off n cap : Nat) (hn : n ≤ 140737488355328) (w : World) (hB : b < w.heap.size) (hO : ∀ i, i < n → OpM w b (off + i * 7)) :
    Calls Tryz.prog 4 #[.slice (some ⟨b, off, none⟩) n cap] w fun e w' => e = .returned (.bool true) ∧ Below w.heap.size w w' := by
  have HU := hide (upto_split b off n cap hn w hB hO)
  clear hO
  go_enter Tryz.func4, Tryz.ntmps4
  go_wp2_with (go_at_call 6; refine (HU.out).mono ?_; rintro e w' ⟨rfl, hb⟩)
  go_ret
  exact ⟨rfl, hb⟩
set_option maxHeartbeats 1000000 in
theorem splits_none (ao : Option Addr) (cap : Nat) (w : World) :
    Calls Tryz.prog 4 #[.slice ao 0 cap] w fun e w' => e = .returned (.bool true) ∧ Below w.heap.size w w' := by
  go_enter Tryz.func4, Tryz.ntmps4
  go_wp2_with (go_at_call 6; refine (uptom_none 2 2 ao cap _).mono ?_; rintro e w' ⟨rfl, rfl⟩)
  go_ret
  exact ⟨rfl, Below.refl _ _⟩
end Go.Proofs.YthhiofppbpgipaaGreatDoor

