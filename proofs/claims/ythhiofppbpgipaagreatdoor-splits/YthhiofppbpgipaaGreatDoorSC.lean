import Derived.Test.YthhiofppbpgipaaGreatDoorGE
import Derived.Test.YthhiofppbpgipaaGreatDoorSA
import Derived.Test.YthhiofppbpgipaaGreatDoorGM
namespace Go.Proofs.YthhiofppbpgipaaGreatDoor
open Go.RowKit
theorem info9r : (Tryz.prog.info? 9).map (fun i => (i.zero, i.size, i.bytes)) = some (some (.string ⟨#[]⟩), 1, 16) := by kernel_rfl
theorem news_one (W : World) (x : Value) (t : TypeId) : ∀ j u, [x][j]? = some u → (W.alloc (.cells #[x] t)).cell? ((⟨W.heap.size, 0, none⟩ : Addr).add j) = some u := by
  intro j u hj
  match j, hj with
  | 0, hj => simp at hj; subst hj; simp [Addr.add]
  | (j + 1), hj => simp at hj
theorem row_snoc {w : World} {B : Nat} {v : Value} {xs : List (List UInt8)} {l : List UInt8} (h : w.ownsRow B 9 1 v (xs.length + 1) (strsV xs ++ [.string (ofB l)])) : w.ownsRow B 9 1 v (xs ++ [l]).length (strsV (xs ++ [l])) := by
  rw [strsV_snoc, List.length_append]; exact h
/-- How the words go on where one ends. -/
theorem words_stop {l : List UInt8} {m e : Nat} (h : (∃ c, l[e]? = some c ∧ blankB c = true) ∨ e = l.length) : words (cutL l m e) (l.drop e) = (if e ≤ m then [] else [cutL l m e]) ++ words [] (l.drop e) := by
  rcases h with ⟨c, h1, h2⟩ | rfl
  · rw [words_blank h1 h2]
    have h3 : words [] (l.drop e) = words [] (l.drop (e + 1)) := by
      rw [drop_at h1, words, if_pos h2, if_pos rfl]
    rw [h3]
  · rw [words_end, List.drop_length]
    have h3 : words [] [] = [] := by rw [words, if_pos rfl]
    rw [h3, List.append_nil]
theorem words_skip {l : List UInt8} {e : Nat} {c : UInt8} (h1 : l[e]? = some c) (h2 : blankB c = true) : words [] (l.drop e) = words [] (l.drop (e + 1)) := by
  rw [drop_at h1, words, if_pos h2, if_pos rfl]
set_option maxRecDepth 100000 in
set_option maxHeartbeats 8000000 in
theorem rblanks_any (s : ByteArray) (h5 : s.size ≤ 500) (w : World) :
    Calls Tryz.prog 60 #[.string s] w fun en w' => ∃ v, en = .returned v ∧ w'.ownsRow w.heap.size 9 1 v (words [] s.data.toList).length (strsV (words [] s.data.toList)) ∧ Only (fun _ => False) w w' := by
  obtain ⟨i0, hi0, hz0, hz1, hz2⟩ := info_parts info9r
  have hlen : s.data.toList.length = s.size := len_eq s
  go_enter Tryz.func60, Tryz.ntmps60
  go_wp2
  go_loopw [3, 4] (fun v i wr => ∃ k xs, k ≤ s.size ∧ i = .int .i64 (k : Nat) ∧ xs.length ≤ k ∧ words [] s.data.toList = xs ++ words [] (s.data.toList.drop k) ∧ wr.ownsRow w.heap.size 9 1 v xs.length (strsV xs) ∧ Only (fun _ => False) w wr) (fun _ i _ => s.size - (intOf i).toNat)
  case atStart => exact ⟨0, [], Nat.zero_le _, rfl, Nat.le_refl _, rfl, World.ownsRow_nil _ _ _ _, Only.refl _ _⟩
  case round =>
    obtain ⟨k, xs, hk, rfl, hxl, hsp, hown, how⟩ := hrel
    have HS := hide hsp
    have HO := hide hown
    have HW := hide how
    have hzw := how.size
    clear hsp how
    by_cases hlt : k < s.size
    · have hli : (k : Int) < (s.size : Int) := by omega
      clear hown
      go_wp2
      go_loop [4] (fun i => ∃ m : Nat, k ≤ m ∧ m ≤ s.size ∧ i = .int .i64 m ∧ words [] (s.data.toList.drop k) = words [] (s.data.toList.drop m)) (fun i => s.size - (intOf i).toNat)
      case atStart => exact ⟨k, Nat.le_refl _, hk, rfl, rfl⟩
      case round =>
        obtain ⟨m, hkm, hms, rfl, hr1⟩ := hrel
        have HR1 := hide hr1
        clear hr1
        by_cases hm : m < s.size
        · have hmi : (m : Int) < (s.size : Int) := by omega
          have hget := get_of_lt s m hm
          cases hbm : blankB s[m]
          · have hprog : k < m ∨ ∃ h : m < s.size, blankB s[m] = false := Or.inr ⟨hm, hbm⟩
            clear hget
            go_wp2_with (go_at_call 70; refine (refBlank_any _ _).mono ?_; rintro en w2 ⟨rfl, rfl⟩; rw [hbm])
            go_loop [4] (fun i => ∃ e : Nat, m ≤ e ∧ e ≤ s.size ∧ i = .int .i64 e ∧ words [] (s.data.toList.drop m) = words (cutL s.data.toList m e) (s.data.toList.drop e)) (fun i => s.size - (intOf i).toNat)
            case atStart => exact ⟨m, Nat.le_refl _, by omega, rfl, by rw [cutL_same]⟩
            case round =>
              obtain ⟨e, hme, hes, rfl, hr2⟩ := hrel
              have HR2 := hide hr2
              clear hr2
              by_cases he : e < s.size
              · have hei : (e : Int) < (s.size : Int) := by omega
                have hget := get_of_lt s e he
                cases hbe : blankB s[e]
                · have HR3 : Hid (words [] (s.data.toList.drop m) = words (cutL s.data.toList m (e + 1)) (s.data.toList.drop (e + 1))) := by
                    show _ = _
                    rw [HR2.out, words_in hme hget hbe]
                  clear hget
                  go_wp2_with (go_at_call 70; refine (refBlank_any _ _).mono ?_; rintro en w2 ⟨rfl, rfl⟩; rw [hbe])
                  go_round
                  case rel => exact ⟨e + 1, by omega, by omega, by go_num, HR3.out⟩
                  case measure => simp [intOf]; omega
                · have HG := hide hget
                  have hprog2 : k < m ∨ m < e := by
                    rcases hprog with h | ⟨h1, h2⟩
                    · exact Or.inl h
                    · by_cases h3 : m < e
                      · exact Or.inr h3
                      · obtain rfl : m = e := by omega
                        rw [h2] at hbe; cases hbe
                  clear hget
                  by_cases hem : m < e
                  · have hmi : (m : Int) < (e : Int) := by omega
                    have HX : Hid (s.extract m e = ofB (cutL s.data.toList m e)) := extract_cut s m e
                    have HS2 : Hid (words [] s.data.toList = (xs ++ [cutL s.data.toList m e]) ++ words [] (s.data.toList.drop e)) := by
                      show _ = _
                      rw [HS.out, HR1.out, HR2.out, words_stop (Or.inl ⟨_, HG.out, hbe⟩), if_neg (by omega)]; simp
                    go_wp2_with (first | (go_at_call 70; refine (refBlank_any _ _).mono ?_; rintro en w2 ⟨rfl, rfl⟩; rw [hbe]) | (at_builtin; refine wpList_append_own _ rfl (.tmp 39) (.tmp 44) 25 rfl w.heap.size 9 i0 (.string ⟨#[]⟩) 1 16 Tryz.underlying25 hi0 hz0 hz1 hz2 rfl (by decide) _ _ _ rfl (HO.out.alloc _) _ 1 1 [.string (s.extract m e)] rfl rfl (news_one _ _ _) (fun u hu => by simp at hu; subst hu; rfl) (by unfold maxLen; omega) (by omega) (by simp; omega) ?_; intro v' w2 hown' hgrow _))
                    rw [HX.out] at hown'
                    have R1 := hide (row_snoc hown')
                    have R2 : Hid (Only (fun _ => False) w w2) := (HW.out.alloc _).grown hgrow (fun k hk hlt => by have := (HO.out.lt k hk).1; omega)
                    clear hown' hgrow
                    go_wp2
                    go_roundw
                    case rel => exact ⟨e, _, by omega, by go_num, by simp; omega, HS2.out, R1.out, R2.out⟩
                    case measure => simp [intOf]; omega
                  · have hmi : ¬ (m : Int) < (e : Int) := by omega
                    obtain rfl : m = e := by omega
                    have HS2 : Hid (words [] s.data.toList = xs ++ words [] (s.data.toList.drop m)) := by
                      show _ = _
                      rw [HS.out, HR1.out]
                    go_wp2_with (go_at_call 70; refine (refBlank_any _ _).mono ?_; rintro en w2 ⟨rfl, rfl⟩; rw [hbe])
                    go_roundw
                    case rel => exact ⟨m, xs, by omega, by go_num, by omega, HS2.out, HO.out, HW.out⟩
                    case measure => simp [intOf]; omega
              · have hei : ¬ (e : Int) < (s.size : Int) := by omega
                have hel : e = s.data.toList.length := by omega
                have HEL := hide hel
                have hbe := True.intro
                have hprog2 : k < m ∨ m < e := by omega
                clear hel
                by_cases hem : m < e
                · have hmi : (m : Int) < (e : Int) := by omega
                  have HX : Hid (s.extract m e = ofB (cutL s.data.toList m e)) := extract_cut s m e
                  have HS2 : Hid (words [] s.data.toList = (xs ++ [cutL s.data.toList m e]) ++ words [] (s.data.toList.drop e)) := by
                    show _ = _
                    rw [HS.out, HR1.out, HR2.out, words_stop (Or.inr HEL.out), if_neg (by omega)]; simp
                  go_wp2_with (first | (at_builtin; refine wpList_append_own _ rfl (.tmp 39) (.tmp 44) 25 rfl w.heap.size 9 i0 (.string ⟨#[]⟩) 1 16 Tryz.underlying25 hi0 hz0 hz1 hz2 rfl (by decide) _ _ _ rfl (HO.out.alloc _) _ 1 1 [.string (s.extract m e)] rfl rfl (news_one _ _ _) (fun u hu => by simp at hu; subst hu; rfl) (by unfold maxLen; omega) (by omega) (by simp; omega) ?_; intro v' w2 hown' hgrow _))
                  rw [HX.out] at hown'
                  have R1 := hide (row_snoc hown')
                  have R2 : Hid (Only (fun _ => False) w w2) := (HW.out.alloc _).grown hgrow (fun k hk hlt => by have := (HO.out.lt k hk).1; omega)
                  clear hown' hgrow
                  go_wp2
                  go_roundw
                  case rel => exact ⟨e, _, by omega, by go_num, by simp; omega, HS2.out, R1.out, R2.out⟩
                  case measure => simp [intOf]; omega
                · exfalso; omega
          · have HR3 : Hid (words [] (s.data.toList.drop k) = words [] (s.data.toList.drop (m + 1))) := by
              show _ = _
              rw [HR1.out, words_skip hget hbm]
            clear hget
            go_wp2_with (go_at_call 70; refine (refBlank_any _ _).mono ?_; rintro en w2 ⟨rfl, rfl⟩; rw [hbm])
            go_round
            case rel => exact ⟨m + 1, by omega, by omega, by go_num, HR3.out⟩
            case measure => simp [intOf]; omega
        · have hmi : ¬ (m : Int) < (s.size : Int) := by omega
          have hprog : k < m ∨ ∃ h : m < s.size, blankB s[m] = false := Or.inl (by omega)
          go_wp2
          go_loop [4] (fun i => i = .int .i64 m) (fun i => s.size - (intOf i).toNat)
          case atStart => exact rfl
          case round =>
            subst hrel
            have HS2 : Hid (words [] s.data.toList = xs ++ words [] (s.data.toList.drop m)) := by
              show _ = _
              rw [HS.out, HR1.out]
            have hmm : ¬ (m : Int) < (m : Int) := by omega
            go_wp2
            go_roundw
            case rel => exact ⟨m, xs, by omega, by go_num, by omega, HS2.out, HO.out, HW.out⟩
            case measure => simp [intOf]; omega
    · have hli : ¬ (k : Int) < (s.size : Int) := by omega
      have HE : Hid (xs = words [] s.data.toList) := by
        show xs = _
        rw [HS.out, show k = s.data.toList.length by omega, List.drop_length, words, if_pos rfl, List.append_nil]
      clear hown
      go_wp2
      go_ret
      exact ⟨_, rfl, by rw [← HE.out]; exact HO.out, HW.out⟩
end Go.Proofs.YthhiofppbpgipaaGreatDoor

namespace Go.Proofs.YthhiofppbpgipaaGreatDoor
open Go.RowKit
theorem own_baseR {w : World} {B C : Nat} {e : TypeId} {z : Nat} {v : Value} {n : Nat} {xs : List Value} (h : w.ownsRow B e z v n xs) (hC : C ≤ B) : w.ownsRow C e z v n xs := by
  refine ⟨h.1, ?_⟩
  rcases h.2 with h1 | ⟨g, cap, cur, h1, h2, h3⟩
  · exact Or.inl h1
  · exact Or.inr ⟨g, cap, cur, h1, by omega, h3⟩
/-- What the end of the longest match says of its length. -/
theorem long_len {R : Pat} {t : List UInt8} {len : Nat → Nat} (hLn : IsLen R t len) {i : Nat} {o : Option Nat} (h : LongIs R t i o) (hi : i ≤ t.length) : (∃ j, o = some j ∧ i < j ∧ j ≤ t.length ∧ len i = j - i) ∨ ((∀ j, o = some j → ¬ i < j) ∧ len i = 0) := by
  obtain ⟨h1, h2, h3⟩ := h
  cases o with
  | none =>
    refine Or.inr ⟨fun j h => (by cases h), hLn.is ⟨by omega, fun h => absurd h (Nat.lt_irrefl _), fun e he1 he2 hr => absurd hr (h2 rfl e (by omega) he2)⟩⟩
  | some j =>
    obtain ⟨a, b, c, d⟩ := h1 j rfl
    have hl : len i = j - i := hLn.is ⟨by omega, fun _ => by rw [show i + (j - i) = j by omega]; exact c, fun e he1 he2 hr => by
      by_cases he : j < e
      · exact absurd hr (d e he he2)
      · omega⟩
    by_cases hj : i < j
    · exact Or.inl ⟨j, rfl, hj, b, hl⟩
    · exact Or.inr ⟨fun k hk => by cases hk; exact hj, by omega⟩
set_option maxRecDepth 100000 in
set_option maxHeartbeats 8000000 in
theorem rpattern_any (d : Nat) (P : List Pc) (top : Nat) (R : Pat) (hk : PcIs P d top R) (v : Value) (s : ByteArray) (hPl : P.length ≤ 1000000) (h5 : s.size ≤ 500) {len : Nat → Nat} (hLn : IsLen R s.data.toList len) (w : World) (hP : PcAt w v P) :
    Calls Tryz.prog 61 #[.string s, .agg #[v, .int .i64 top]] w fun en w' => ∃ v, en = .returned v ∧ w'.ownsRow w.heap.size 9 1 v (patC s.data.toList len 0 0).length (strsV (patC s.data.toList len 0 0)) ∧ Only (fun _ => False) w w' := by
  obtain ⟨i0, hi0, hz0, hz1, hz2⟩ := info_parts info9r
  obtain ⟨po, cap, rfl⟩ : ∃ po cap, v = .slice po P.length cap := by obtain ⟨xs, h2, _⟩ := hP; exact ownsRow_slice h2
  have hlen : s.data.toList.length = s.size := len_eq s
  obtain ⟨M, HM⟩ : ∃ M, Hid (M = patC s.data.toList len 0 0) := ⟨_, rfl⟩
  rw [← HM.out]
  have HP := hide hP
  have HK := hide hk
  have HLn := hide hLn
  have HBx : Hid ((w.alloc (.cells #[.slice po P.length cap, .int .i64 top] 66)).heap[w.heap.size]? = some (.cells #[.slice po P.length cap, .int .i64 top] 66 (0, 0))) := new0 w _
  clear hP hk hLn
  go_enter Tryz.func61, Tryz.ntmps61
  go_wp2
  go_loopw [5, 6, 7] (fun s5 s6 s7 wr => ∃ k frm xs, k ≤ s.size ∧ frm ≤ k ∧ s6 = .int .i64 (frm : Nat) ∧ s7 = .int .i64 (k : Nat) ∧ xs.length ≤ k ∧ patC s.data.toList len 0 0 = xs ++ patC s.data.toList len frm k ∧ wr.ownsRow (w.heap.size + 1) 9 1 s5 xs.length (strsV xs) ∧ Only (fun _ => False) (w.alloc (.cells #[.slice po P.length cap, .int .i64 top] 66)) wr) (fun _ _ s7 _ => s.size - (intOf s7).toNat)
  case atStart => exact ⟨0, 0, [], Nat.zero_le _, Nat.le_refl _, rfl, rfl, Nat.le_refl _, rfl, World.ownsRow_nil _ _ _ _, Only.refl _ _⟩
  case round =>
    obtain ⟨k, frm, xs, hk, hfk, rfl, rfl, hxl, hsp, hown, ho⟩ := hrel
    have hx := (ho.block w.heap.size (by simp) (fun e => e)).trans HBx.out
    have p0 : wr.cell? ⟨w.heap.size, 0, none⟩ = some (.slice po P.length cap) := cell_of hx rfl
    have p1 : wr.cell? ⟨w.heap.size, 1, none⟩ = some (.int .i64 top) := cell_of hx rfl
    have HO : Hid (Only (fun _ => False) w wr) := ((Only.refl _ w).alloc _).trans ho (fun _ _ e => e)
    have HO0 := hide ho
    have HS := hide hsp
    have HOw := hide hown
    have hzw : w.heap.size + 1 ≤ wr.heap.size := by have := ho.size; simpa using this
    clear hx ho hsp hown
    by_cases hlt : k < s.size
    · have hli : (k : Int) < (s.size : Int) := by omega
      go_wp2_with fail
      refine (longest_any d P top R HK.out _ s k (by omega) hPl (by omega) wr (HP.out.only HO.out (fun _ _ e => e))).mono ?_
      rintro e w2 ⟨o, rfl, hlong, ho2⟩
      have hz2' := ho2.size
      have HOw2 := hide (ownsRow_of (w' := w2) HOw.out (fun k hk => ho2.block k (HOw.out.lt k hk).2 (fun e => e)))
      have HO2 : Hid (Only (fun _ => False) (w.alloc (.cells #[.slice po P.length cap, .int .i64 top] 66)) w2) := HO0.out.trans ho2 (fun _ _ e => e)
      rcases long_len HLn.out hlong (by omega) with ⟨j, rfl, hj1, hj2, hj3⟩ | ⟨hj1, hj2⟩
      · have hji : (k : Int) < (j : Int) := by omega
        have HS2 : Hid (patC s.data.toList len 0 0 = (xs ++ [cutL s.data.toList frm k]) ++ patC s.data.toList len j j) := by
          show _ = _
          rw [HS.out, patC_hit (by omega) (by omega), hj3, show k + (j - k) = j by omega]; simp
        have HX : Hid (s.extract frm k = ofB (cutL s.data.toList frm k)) := extract_cut s frm k
        clear hlong ho2 hj3 p0 p1
        unfold placeI
        go_wp2_with (at_builtin; refine wpList_append_own _ rfl (.tmp 20) (.tmp 25) 25 rfl (w.heap.size + 1) 9 i0 (.string ⟨#[]⟩) 1 16 Tryz.underlying25 hi0 hz0 hz1 hz2 rfl (by decide) _ _ _ rfl (HOw2.out.alloc _) _ 1 1 [.string (s.extract frm k)] rfl rfl (news_one _ _ _) (fun u hu => by simp at hu; subst hu; rfl) (by unfold maxLen; omega) (by omega) (by simp; omega) ?_; intro v' w3 hown' hgrow _)
        rw [HX.out] at hown'
        have R1 := hide (row_snoc hown')
        have R2 : Hid (Only (fun _ => False) (w.alloc (.cells #[.slice po P.length cap, .int .i64 top] 66)) w3) := (HO2.out.alloc _).grown hgrow (fun k hk hlt => by have := (HOw2.out.lt k hk).1; simp at hlt; omega)
        clear hown' hgrow
        go_wp2
        go_roundw
        case rel => exact ⟨j, j, _, by omega, Nat.le_refl _, by go_num, by go_num, by simp; omega, HS2.out, R1.out, R2.out⟩
        case measure => simp [intOf]; omega
      · have HS2 : Hid (patC s.data.toList len 0 0 = xs ++ patC s.data.toList len frm (k + 1)) := by
          show _ = _
          rw [HS.out, patC_pass (by omega) (by omega)]
        cases o with
        | none =>
          have hji : ¬ (k : Int) < -1 := by omega
          clear hlong ho2 hj1 hj2 p0 p1
          unfold placeI
          go_wp2
          go_roundw
          case rel => exact ⟨k + 1, frm, xs, by omega, by omega, by go_num, by go_num, by omega, HS2.out, HOw2.out, HO2.out⟩
          case measure => simp [intOf]; omega
        | some j =>
          have hj3 := hj1 j rfl
          have hji : ¬ (k : Int) < (j : Int) := by omega
          clear hlong ho2 hj1 hj2 hj3 p0 p1
          unfold placeI
          go_wp2
          go_roundw
          case rel => exact ⟨k + 1, frm, xs, by omega, by omega, by go_num, by go_num, by omega, HS2.out, HOw2.out, HO2.out⟩
          case measure => simp [intOf]; omega
    · have hli : ¬ (k : Int) < (s.size : Int) := by omega
      have HX : Hid (s.extract frm s.size = ofB (cutL s.data.toList frm s.size)) := extract_cut s frm s.size
      have HE : Hid (xs ++ [cutL s.data.toList frm s.size] = M) := by
        show _ = M
        rw [HM.out, HS.out, patC_end (by omega), hlen]
      clear p0 p1
      go_wp2_with (at_builtin; refine wpList_append_own _ rfl (.tmp 31) (.tmp 35) 25 rfl (w.heap.size + 1) 9 i0 (.string ⟨#[]⟩) 1 16 Tryz.underlying25 hi0 hz0 hz1 hz2 rfl (by decide) _ _ _ rfl (HOw.out.alloc _) _ 1 1 [.string (s.extract frm s.size)] rfl rfl (news_one _ _ _) (fun u hu => by simp at hu; subst hu; rfl) (by unfold maxLen; omega) (by omega) (by simp; omega) ?_; intro v' w3 hown' hgrow _)
      rw [HX.out] at hown'
      have R1 := hide (row_snoc hown')
      have R2 : Hid (Only (fun _ => False) w w3) := (HO.out.alloc _).grown hgrow (fun k hk hlt => by have := (HOw.out.lt k hk).1; omega)
      clear hown' hgrow
      go_wp2
      go_ret
      exact ⟨_, rfl, by rw [← HE.out]; exact own_baseR R1.out (by omega), R2.out⟩
end Go.Proofs.YthhiofppbpgipaaGreatDoor

