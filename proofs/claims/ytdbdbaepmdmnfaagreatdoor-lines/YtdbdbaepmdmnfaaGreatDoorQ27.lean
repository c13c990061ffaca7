import Derived.Test.YtdbdbaepmdmnfaaGreatDoorQ26
import Derived.Test.YtdbdbaepmdmnfaaGreatDoorQ25
import Derived.Deep.RegionWith
namespace Go.Proofs.YtdbdbaepmdmnfaaGreatDoor
open Go.RowKit
theorem Cutter.own {B : Nat} {X : Nat → Prop} {w : World} {cb gb : Nat} {s : ByteArray} {frm : Nat} {xs : List (List UInt8)} (h : Cutter B X w cb gb s frm xs) : ∃ v cap, w.cell? ⟨cb, 0, none⟩ = some (.slice (some ⟨gb, 0, none⟩) s.size cap) ∧ w.cell? ⟨cb, 1, none⟩ = some (.int .i64 frm) ∧ w.cell? ⟨cb, 2, none⟩ = some v ∧ w.ownsRow B 9 1 v xs.length (strsV xs) := by
  obtain ⟨v, cap, _, hcb, _, _, hown, _⟩ := h
  exact ⟨v, cap, cell_of hcb rfl, cell_of hcb rfl, cell_of hcb rfl, hown⟩
theorem Cutter.drewN {B : Nat} {X : Nat → Prop} {w : World} {cb gb : Nat} {s : ByteArray} {frm : Nat} {xs : List (List UInt8)} (h : Cutter B X w cb gb s frm xs) (n : Nat) : Cutter B X (w.drewN n) cb gb s frm xs := h
set_option maxHeartbeats 4000000 in
theorem filled_yes (B : Nat) (X : Nat → Prop) (cb gb : Nat) (s : ByteArray) (frm e : Nat) (xs : List (List UInt8)) (hfe : frm < e) (hes : e ≤ s.size) (hx : xs.length ≤ 1000000) (w : World) (h : Cutter B X w cb gb s frm xs) :
    Calls Tryz.prog 52 #[.pointer (some ⟨cb, 0, none⟩), .int .i64 e] w fun en w' => en = .returned (.tuple #[]) ∧ Cutter B X w' cb gb s e (xs ++ [cutL s.data.toList frm e]) ∧ Only (fun k => B ≤ k ∧ ¬ X k) w w' := by
  obtain ⟨v, cap, c0, c1, c2, _⟩ := h.own
  have HC := hide (cut_any B X cb gb s frm e e xs (by omega) hes hx w h)
  have hlt : (frm : Int) < (e : Int) := by omega
  clear h
  go_enter Tryz.func52, Tryz.ntmps52
  go_wp2_with (go_at_call 53; refine (HC.out).mono ?_; rintro en w' ⟨rfl, h1, h2⟩)
  go_end0
  exact ⟨rfl, h1, h2⟩
set_option maxHeartbeats 4000000 in
theorem filled_no (B : Nat) (X : Nat → Prop) (cb gb : Nat) (s : ByteArray) (frm e : Nat) (xs : List (List UInt8)) (hfe : ¬ frm < e) (w : World) (h : Cutter B X w cb gb s frm xs) :
    Calls Tryz.prog 52 #[.pointer (some ⟨cb, 0, none⟩), .int .i64 e] w fun en w' => en = .returned (.tuple #[]) ∧ w' = w := by
  obtain ⟨v, cap, c0, c1, c2, _⟩ := h.own
  have hlt : ¬ (frm : Int) < (e : Int) := by omega
  clear h
  go_enter Tryz.func52, Tryz.ntmps52
  go_wp2
  go_end0
  exact ⟨rfl, rfl⟩
set_option maxHeartbeats 4000000 in
theorem rest_none (B : Nat) (X : Nat → Prop) (cb gb : Nat) (s : ByteArray) (frm : Nat) (xs : List (List UInt8)) (hs : s.size = 0) (w : World) (h : Cutter B X w cb gb s frm xs) :
    Calls Tryz.prog 54 #[.pointer (some ⟨cb, 0, none⟩)] w fun en w' => ∃ v, en = .returned v ∧ w'.ownsRow B 9 1 v xs.length (strsV xs) ∧ w' = w := by
  obtain ⟨v, cap, c0, c1, c2, ho⟩ := h.own
  have HO := hide ho
  have hlt : ¬ (0 : Int) < (s.size : Int) := by omega
  clear h ho
  go_enter Tryz.func54, Tryz.ntmps54
  go_wp2
  go_ret
  exact ⟨_, rfl, HO.out, rfl⟩
set_option maxHeartbeats 4000000 in
theorem rest_some (B : Nat) (X : Nat → Prop) (cb gb : Nat) (s : ByteArray) (frm : Nat) (xs : List (List UInt8)) (hs : 0 < s.size) (hf : frm ≤ s.size) (hx : xs.length ≤ 1000000) (w : World) (h : Cutter B X w cb gb s frm xs) :
    Calls Tryz.prog 54 #[.pointer (some ⟨cb, 0, none⟩)] w fun en w' => ∃ v, en = .returned v ∧ w'.ownsRow B 9 1 v (xs.length + 1) (strsV (xs ++ [cutL s.data.toList frm s.size])) ∧ Only (fun k => B ≤ k ∧ ¬ X k) w w' := by
  obtain ⟨v, cap, c0, c1, c2, ho⟩ := h.own
  have HC : ∀ n, Hid (Calls Tryz.prog 53 #[.pointer (some ⟨cb, 0, none⟩), .int .i64 s.size, .int .i64 s.size] (w.drewN n) fun en w' => en = .returned (.tuple #[]) ∧ Cutter B X w' cb gb s s.size (xs ++ [cutL s.data.toList frm s.size]) ∧ Only (fun k => B ≤ k ∧ ¬ X k) (w.drewN n) w') := fun n => cut_any B X cb gb s frm s.size s.size xs hf (Nat.le_refl _) hx (w.drewN n) (h.drewN n)
  have hlt : (0 : Int) < (s.size : Int) := by omega
  clear h ho
  go_enter Tryz.func54, Tryz.ntmps54
  go_wp2
  go_region_with (go_at_call 53; refine ((HC 1).out).mono ?_; rintro en w' ⟨rfl, h1, h2⟩)
  all_goals
    obtain ⟨v2, cap2, d0, d1, d2, ho2⟩ := h1.own
    have HO := hide ho2
    have HO2 := hide h2
    clear h1 h2 ho2
    go_wp2
    go_ret
    exact ⟨_, rfl, by simpa using HO.out, ((Only.refl _ w).drewN 1).trans HO2.out (fun _ _ e => e)⟩
end Go.Proofs.YtdbdbaepmdmnfaaGreatDoor
namespace Go.Proofs.YtdbdbaepmdmnfaaGreatDoor
open Go.RowKit
/-- A cutter that was just made. -/
theorem cutter_new {X : Nat → Prop} {w w1 : World} {s : ByteArray} {cap : Nat} (hcap : s.size ≤ cap) (hby : BytesAt w1 (w.heap.size + 1) s) (hrow : w1.heap[w.heap.size + 2]? = some (.cells #[] 9 (0, 0))) (hz : w1.heap.size = w.heap.size + 3) (hX : ∀ k, X k → k < w.heap.size) :
    Cutter w.heap.size X (w1.alloc (.cells #[.slice (some ⟨w.heap.size + 1, 0, none⟩) s.size cap, .int .i64 0, .slice (some ⟨w.heap.size + 2, 0, none⟩) 0 0] 106)) (w.heap.size + 3) (w.heap.size + 1) s 0 [] := by
  refine ⟨_, cap, hcap, new_at hz _, hby.block (Below.heap_alloc _ _ _ (by omega)), by simp; omega, ⟨rfl, Or.inr ⟨w.heap.size + 2, 0, #[], rfl, by omega, (Below.heap_alloc _ _ _ (by omega)).trans hrow, Nat.le_refl _, by unfold maxLen; omega, rfl, rfl⟩⟩, by omega, fun e => ?_, fun e => ?_, by omega, by omega, fun k hk => ?_⟩
  · have := Option.some.inj e
    simp at this
  · have := Option.some.inj e
    simp at this
  · have := hX k hk
    refine ⟨by simp; omega, by omega, fun e => ?_⟩
    have := Option.some.inj e
    simp at this; omega
theorem eachB_take {l : List UInt8} {k : Nat} (hk : k < l.length) : eachB (l.take (k + 1)) = eachB (l.take k) ++ [cutL l k (k + 1)] := by
  obtain ⟨c, hc⟩ : ∃ c, l[k]? = some c := ⟨l[k], List.getElem?_eq_getElem hk⟩
  rw [List.take_add_one, hc, cutL_snoc (Nat.le_refl _) hc, cutL_same]
  simp [eachB]
set_option maxRecDepth 100000 in
set_option maxHeartbeats 4000000 in
theorem each_any (s : ByteArray) (h5 : s.size ≤ 500) (w : World) :
    Calls Tryz.prog 37 #[.string s] w fun en w' => ∃ v, en = .returned v ∧ w'.ownsRow w.heap.size 9 1 v (eachB s.data.toList).length (strsV (eachB s.data.toList)) ∧ Only (fun _ => False) w w' := by
  have hlen : s.data.toList.length = s.size := len_eq s
  go_enter Tryz.func37, Tryz.ntmps37
  go_wp2_with fail
  refine (start_any s w).mono ?_
  rintro en w1 ⟨cap, hcap, rfl, hby, hrow, hz, ho⟩
  have HC0 := hide (cutter_new (X := fun _ => False) hcap hby hrow hz (fun _ h => h.elim))
  have HO0 := hide (ho.alloc (.cells #[.slice (some ⟨w.heap.size + 1, 0, none⟩) s.size cap, .int .i64 0, .slice (some ⟨w.heap.size + 2, 0, none⟩) 0 0] 106))
  clear hby hrow ho
  go_wp2
  go_loopw [9] (fun i wr => ∃ k : Nat, k ≤ s.size ∧ i = .int .i64 k ∧ Cutter w.heap.size (fun _ => False) wr (w.heap.size + 3) (w.heap.size + 1) s k (eachB (s.data.toList.take k)) ∧ Only (fun _ => False) w wr) (fun i _ => s.size - (intOf i).toNat)
  case atStart => exact ⟨0, Nat.zero_le _, rfl, HC0.out, HO0.out⟩
  case round =>
    obtain ⟨k, hk, rfl, hc, ho⟩ := hrel
    by_cases hlt : k < s.size
    · have hli : (k : Int) < (s.size : Int) := by omega
      have HC := hide (cut_any w.heap.size (fun _ => False) (w.heap.size + 3) (w.heap.size + 1) s k (k + 1) (k + 1) (eachB (s.data.toList.take k)) (by omega) hlt (by simp [eachB]; omega) wr hc)
      have HO := hide ho
      clear hc ho
      go_wp2_with (go_at_call 53; refine (HC.out).mono ?_; rintro en w2 ⟨rfl, h1, h2⟩)
      go_roundw
      case rel => exact ⟨k + 1, by omega, by go_num, by rw [eachB_take (by omega)]; exact h1, HO.out.trans h2 (fun i hi hB => by have := hB.1; omega)⟩
      case measure => simp [intOf]; omega
    · have hli : ¬ (k : Int) < (s.size : Int) := by omega
      obtain ⟨v, cap2, d0, d1, d2, ho2⟩ := hc.own
      rw [List.take_of_length_le (by omega)] at ho2
      have HO := hide ho
      have HR := hide ho2
      clear hc ho ho2
      go_wp2
      go_ret
      exact ⟨_, rfl, HR.out, HO.out⟩
end Go.Proofs.YtdbdbaepmdmnfaaGreatDoor
namespace Go.Proofs.YtdbdbaepmdmnfaaGreatDoor
open Go.RowKit
theorem strs_eq {w : World} {B : Nat} {v : Value} {L M : List (List UInt8)} {n : Nat} (h : w.ownsRow B 9 1 v n (strsV L)) (e : L = M) (hn : n = M.length) : w.ownsRow B 9 1 v M.length (strsV M) := by subst e; subst hn; exact h
set_option maxRecDepth 100000 in
set_option maxHeartbeats 4000000 in
theorem bytes_any (s : ByteArray) (h5 : s.size ≤ 500) (c : UInt8) (w : World) :
    Calls Tryz.prog 38 #[.string s, .int .u8 c.toNat] w fun en w' => ∃ v, en = .returned v ∧ w'.ownsRow w.heap.size 9 1 v (if s.data.toList = [] then [] else splitB c [] s.data.toList).length (strsV (if s.data.toList = [] then [] else splitB c [] s.data.toList)) ∧ Only (fun _ => False) w w' := by
  have hlen : s.data.toList.length = s.size := len_eq s
  obtain ⟨L, HL⟩ : ∃ L, Hid (L = if s.data.toList = [] then [] else splitB c [] s.data.toList) := ⟨_, rfl⟩
  rw [← HL.out]
  go_enter Tryz.func38, Tryz.ntmps38
  go_wp2_with fail
  refine (start_any s w).mono ?_
  rintro en w1 ⟨cap, hcap, rfl, hby, hrow, hz, ho⟩
  have HC0 := hide (cutter_new (X := fun _ => False) hcap hby hrow hz (fun _ h => h.elim))
  have HO0 := hide (ho.alloc (.cells #[.slice (some ⟨w.heap.size + 1, 0, none⟩) s.size cap, .int .i64 0, .slice (some ⟨w.heap.size + 2, 0, none⟩) 0 0] 106))
  clear hby hrow ho
  go_wp2
  go_loopw [11] (fun i wr => ∃ k frm xs, k ≤ s.size ∧ frm ≤ k ∧ i = .int .i64 (k : Nat) ∧ xs.length ≤ k ∧ splitB c [] s.data.toList = xs ++ splitB c (cutL s.data.toList frm k) (s.data.toList.drop k) ∧ Cutter w.heap.size (fun _ => False) wr (w.heap.size + 3) (w.heap.size + 1) s frm xs ∧ Only (fun _ => False) w wr) (fun i _ => s.size - (intOf i).toNat)
  case atStart => exact ⟨0, 0, [], Nat.zero_le _, Nat.le_refl _, rfl, Nat.le_refl _, rfl, HC0.out, HO0.out⟩
  case round =>
    obtain ⟨k, frm, xs, hk, hfk, rfl, hxl, hsp, hc, ho⟩ := hrel
    have HS := hide hsp
    have HO := hide ho
    by_cases hlt : k < s.size
    · have hli : (k : Int) < (s.size : Int) := by omega
      have hget := get_of_lt s k hlt
      by_cases heq : s[k] = c
      · have hbe : ((s[k].toNat : Int) == (c.toNat : Int)) = true := by rw [heq]; simp
        have HS2 : Hid (splitB c [] s.data.toList = (xs ++ [cutL s.data.toList frm k]) ++ splitB c (cutL s.data.toList (k + 1) (k + 1)) (s.data.toList.drop (k + 1))) := by
          show _ = _
          rw [HS.out, splitB_hit (by rw [hget, heq]), cutL_same]; simp
        have HC := hide (cut_any w.heap.size (fun _ => False) (w.heap.size + 3) (w.heap.size + 1) s frm k (k + 1) xs hfk hk (by omega) wr hc)
        clear hc ho hsp hget heq
        go_wp2_with (go_at_call 53; refine (HC.out).mono ?_; rintro en w2 ⟨rfl, h1, h2⟩)
        go_roundw
        case rel => exact ⟨k + 1, k + 1, _, by omega, by omega, by go_num, by simp; omega, HS2.out, h1, HO.out.trans h2 (fun i hi hB => by have := hB.1; omega)⟩
        case measure => simp [intOf]; omega
      · have hbe : ((s[k].toNat : Int) == (c.toNat : Int)) = false := by
          rw [beq_eq_false_iff_ne]
          intro e
          exact heq (UInt8.toNat_inj.1 (by omega))
        have HS2 : Hid (splitB c [] s.data.toList = xs ++ splitB c (cutL s.data.toList frm (k + 1)) (s.data.toList.drop (k + 1))) := by
          show _ = _
          rw [HS.out, splitB_pass hfk hget heq]
        have HC := hide hc
        clear hc ho hsp hget heq
        go_wp2
        go_roundw
        case rel => exact ⟨k + 1, frm, xs, by omega, by omega, by go_num, by omega, HS2.out, HC.out, HO.out⟩
        case measure => simp [intOf]; omega
    · have hli : ¬ (k : Int) < (s.size : Int) := by omega
      obtain rfl : k = s.size := by omega
      by_cases hs0 : s.size = 0
      · have he : s.data.toList = [] := List.eq_nil_of_length_eq_zero (by omega)
        have hx0 : xs = [] := List.eq_nil_of_length_eq_zero (by omega)
        have HE : Hid (xs = L) := by show xs = L; rw [HL.out, if_pos he, hx0]
        have HR := hide (rest_none w.heap.size (fun _ => False) (w.heap.size + 3) (w.heap.size + 1) s frm xs hs0 wr hc)
        clear hc ho hsp he hx0
        go_wp2_with (go_at_call 54; refine (HR.out).mono ?_; rintro en w2 ⟨v, rfl, h1, rfl⟩)
        go_ret
        exact ⟨_, rfl, strs_eq h1 HE.out (by rw [HE.out]), HO.out⟩
      · have he : s.data.toList ≠ [] := fun e => by rw [e] at hlen; simp at hlen; omega
        have HE : Hid (xs ++ [cutL s.data.toList frm s.size] = L) := by
          show _ = L
          rw [HL.out, if_neg he, HS.out, ← hlen, splitB_end]
        have HR := hide (rest_some w.heap.size (fun _ => False) (w.heap.size + 3) (w.heap.size + 1) s frm xs (by omega) hfk (by omega) wr hc)
        clear hc ho hsp he
        go_wp2_with (go_at_call 54; refine (HR.out).mono ?_; rintro en w2 ⟨v, rfl, h1, h2⟩)
        go_ret
        exact ⟨_, rfl, strs_eq h1 HE.out (by rw [← HE.out]; simp), HO.out.trans h2 (fun i hi hB => by have := hB.1; omega)⟩
end Go.Proofs.YtdbdbaepmdmnfaaGreatDoor
namespace Go.Proofs.YtdbdbaepmdmnfaaGreatDoor
open Go.RowKit
theorem Cutter.setFrom {B : Nat} {X : Nat → Prop} {w : World} {cb gb : Nat} {s : ByteArray} {frm : Nat} {xs : List (List UInt8)} (h : Cutter B X w cb gb s frm xs) (f2 : Nat) : Cutter B X (w.setCell ⟨cb, 1, none⟩ (.int .i64 f2)) cb gb s f2 xs := by
  obtain ⟨v, cap, h1, h2, h3, h4, h5, h6, h7, h8, h9, h10, h11⟩ := h
  refine ⟨v, cap, h1, heap_setCell_same h2 _, h3.block (Below.heap_setCell _ _ _ _ (fun e => h6 e.symm)), by simp [World.setCell]; exact h4, ownsRow_of h5 (fun k hk => Below.heap_setCell _ _ _ _ (fun e => h7 (by rw [hk]; exact congrArg some e))), h6, h7, h8, h9, h10, fun k hk => ⟨by simp [World.setCell]; exact (h11 k hk).1, (h11 k hk).2⟩⟩
theorem Cutter.free {B : Nat} {X : Nat → Prop} {w : World} {cb gb : Nat} {s : ByteArray} {frm : Nat} {xs : List (List UInt8)} (h : Cutter B X w cb gb s frm xs) (o : Nat) : w.frozen? ⟨cb, o, none⟩ = false := by
  obtain ⟨v, cap, h1, h2, _⟩ := h
  exact free_of h2 o
set_option maxRecDepth 100000 in
set_option maxHeartbeats 4000000 in
theorem blanks_any (s : ByteArray) (h5 : s.size ≤ 500) (w : World) :
    Calls Tryz.prog 36 #[.string s] w fun en w' => ∃ v, en = .returned v ∧ w'.ownsRow w.heap.size 9 1 v (words [] s.data.toList).length (strsV (words [] s.data.toList)) ∧ Only (fun _ => False) w w' := by
  have hlen : s.data.toList.length = s.size := len_eq s
  obtain ⟨L, HL⟩ : ∃ L, Hid (L = words [] s.data.toList) := ⟨_, rfl⟩
  rw [← HL.out]
  go_enter Tryz.func36, Tryz.ntmps36
  go_wp2_with fail
  refine (start_any s w).mono ?_
  rintro en w1 ⟨cap, hcap, rfl, hby, hrow, hz, ho⟩
  have HC0 := hide (cutter_new (X := fun _ => False) hcap hby hrow hz (fun _ h => h.elim))
  have HO0 := hide (ho.alloc (.cells #[.slice (some ⟨w.heap.size + 1, 0, none⟩) s.size cap, .int .i64 0, .slice (some ⟨w.heap.size + 2, 0, none⟩) 0 0] 106))
  clear hby hrow ho
  go_wp2
  go_loopw [9] (fun i wr => ∃ k frm xs, k ≤ s.size ∧ frm ≤ k ∧ i = .int .i64 (k : Nat) ∧ xs.length ≤ k ∧ words [] s.data.toList = xs ++ words (cutL s.data.toList frm k) (s.data.toList.drop k) ∧ Cutter w.heap.size (fun _ => False) wr (w.heap.size + 3) (w.heap.size + 1) s frm xs ∧ Only (fun _ => False) w wr) (fun i _ => s.size - (intOf i).toNat)
  case atStart => exact ⟨0, 0, [], Nat.zero_le _, Nat.le_refl _, rfl, Nat.le_refl _, rfl, HC0.out, HO0.out⟩
  case round =>
    obtain ⟨k, frm, xs, hk, hfk, rfl, hxl, hsp, hc, ho⟩ := hrel
    have HS := hide hsp
    have HO := hide ho
    by_cases hlt : k < s.size
    · have hli : (k : Int) < (s.size : Int) := by omega
      have hget := get_of_lt s k hlt
      cases hbl : blankB s[k]
      · have HBl := hide (isBlank_any s[k])
        have HS2 : Hid (words [] s.data.toList = xs ++ words (cutL s.data.toList frm (k + 1)) (s.data.toList.drop (k + 1))) := by
          show _ = _
          rw [HS.out, words_in hfk hget hbl]
        have HC := hide hc
        clear hc ho hsp hget
        go_wp2_with (go_at_call 51; refine (HBl.out _).mono ?_; rintro en w2 ⟨rfl, rfl⟩; rw [hbl])
        go_roundw
        case rel => exact ⟨k + 1, frm, xs, by omega, by omega, by go_num, by omega, HS2.out, HC.out, HO.out⟩
        case measure => simp [intOf]; omega
      · have HBl := hide (isBlank_any s[k])
        by_cases hf : frm < k
        · have HS2 : Hid (words [] s.data.toList = (xs ++ [cutL s.data.toList frm k]) ++ words (cutL s.data.toList (k + 1) (k + 1)) (s.data.toList.drop (k + 1))) := by
            show _ = _
            rw [HS.out, words_blank hget hbl, if_neg (by omega), cutL_same]; simp
          have HC := hide (filled_yes w.heap.size (fun _ => False) (w.heap.size + 3) (w.heap.size + 1) s frm k xs hf hk (by omega) wr hc)
          clear hc ho hsp hget
          go_wp2_with (first | (go_at_call 51; refine (HBl.out _).mono ?_; rintro en w2 ⟨rfl, rfl⟩; rw [hbl]) | (go_at_call 52; refine (HC.out).mono ?_; rintro en w2 ⟨rfl, h1, h2⟩; obtain ⟨v, cap2, d0, d1, d2, ho2⟩ := h1.own; have df := h1.free 1; have H1 := hide h1; have H2 := hide h2; clear h1 h2 ho2))
          go_roundw
          case rel => exact ⟨k + 1, k + 1, _, by omega, by omega, by go_num, by simp; omega, HS2.out, H1.out.setFrom (k + 1), (HO.out.trans H2.out (fun i hi hB => by have := hB.1; omega)).setCell (p := ⟨w.heap.size + 3, 1, none⟩) (fun h => absurd h (by simp)) _⟩
          case measure => simp [intOf]; omega
        · have HS2 : Hid (words [] s.data.toList = xs ++ words (cutL s.data.toList (k + 1) (k + 1)) (s.data.toList.drop (k + 1))) := by
            show _ = _
            rw [HS.out, words_blank hget hbl, if_pos (by omega), cutL_same]; simp
          have HF := hide (filled_no w.heap.size (fun _ => False) (w.heap.size + 3) (w.heap.size + 1) s frm k xs hf wr hc)
          obtain ⟨v, cap2, d0, d1, d2, ho2⟩ := hc.own
          have df := hc.free 1
          have HC := hide hc
          clear hc ho hsp hget ho2
          go_wp2_with (first | (go_at_call 51; refine (HBl.out _).mono ?_; rintro en w2 ⟨rfl, rfl⟩; rw [hbl]) | (go_at_call 52; refine (HF.out).mono ?_; rintro en w2 ⟨rfl, rfl⟩))
          go_roundw
          case rel => exact ⟨k + 1, k + 1, _, by omega, by omega, by go_num, by omega, HS2.out, HC.out.setFrom (k + 1), HO.out.setCell (p := ⟨w.heap.size + 3, 1, none⟩) (fun h => absurd h (by simp)) _⟩
          case measure => simp [intOf]; omega
    · have hli : ¬ (k : Int) < (s.size : Int) := by omega
      obtain rfl : k = s.size := by omega
      have HE0 : Hid (L = xs ++ if s.size ≤ frm then [] else [cutL s.data.toList frm s.size]) := by
        show L = _
        rw [HL.out, HS.out, ← hlen, words_end]
      by_cases hf : frm < s.size
      · have HE : Hid (xs ++ [cutL s.data.toList frm s.size] = L) := by
          show _ = L
          rw [HE0.out, if_neg (by omega)]
        have HC := hide (filled_yes w.heap.size (fun _ => False) (w.heap.size + 3) (w.heap.size + 1) s frm s.size xs hf (Nat.le_refl _) (by omega) wr hc)
        clear hc ho hsp
        go_wp2_with (go_at_call 52; refine (HC.out).mono ?_; rintro en w2 ⟨rfl, h1, h2⟩; obtain ⟨v, cap2, d0, d1, d2, ho2⟩ := h1.own; have H1 := hide ho2; have H2 := hide h2; clear h1 h2 ho2)
        go_ret
        exact ⟨_, rfl, strs_eq H1.out HE.out (by rw [HE.out]), HO.out.trans H2.out (fun i hi hB => by have := hB.1; omega)⟩
      · have HE : Hid (xs = L) := by
          show _ = L
          rw [HE0.out, if_pos (by omega), List.append_nil]
        have HF := hide (filled_no w.heap.size (fun _ => False) (w.heap.size + 3) (w.heap.size + 1) s frm s.size xs hf wr hc)
        obtain ⟨v, cap2, d0, d1, d2, ho2⟩ := hc.own
        have H1 := hide ho2
        clear hc ho hsp ho2
        go_wp2_with (go_at_call 52; refine (HF.out).mono ?_; rintro en w2 ⟨rfl, rfl⟩)
        go_ret
        exact ⟨_, rfl, strs_eq H1.out HE.out (by rw [HE.out]), HO.out⟩
end Go.Proofs.YtdbdbaepmdmnfaaGreatDoor
namespace Go.Proofs.YtdbdbaepmdmnfaaGreatDoor
open Go.RowKit
/-- What the lengths of all places say: the longest match at each. -/
theorem lens_are {Q : List St} {t : List UInt8} {last : Nat} {L : List Int} {R : Pat} (h : AllLen Q t last L) (hR : ∀ t i e, Acc Q t last e i ↔ R t i e) {len : Nat → Nat} (hLn : IsLen R t len) (k : Nat) (hk : k ≤ t.length) :
    ∃ z, L[k]? = some z ∧ ((0 < z ∧ z = (len k : Int)) ∨ (¬ 0 < z ∧ len k = 0)) := by
  obtain ⟨b, h1, h2⟩ := h.2 k hk
  refine ⟨_, h2, ?_⟩
  have key : ∀ m, k + m ≤ t.length → (0 < m → R t k (k + m)) → (∀ e, k < e → e ≤ t.length → R t k e → e ≤ k + m) → len k = m := fun m a b c => hLn.is ⟨a, b, c⟩
  cases b with
  | none =>
    right
    refine ⟨by show ¬ (0 : Int) < -1; omega, key 0 (by omega) (fun h => absurd h (Nat.lt_irrefl _)) (fun e he1 he2 hr => ?_)⟩
    obtain ⟨B, h3, _⟩ := h1.2 e he2 ((hR t k e).2 hr)
    cases h3
  | some B =>
    obtain ⟨h3, h4, h5⟩ := h1.1 B rfl
    have hl : len k = B - k := by
      refine key (B - k) (by omega) (fun _ => ?_) (fun e he1 he2 hr => ?_)
      · rw [show k + (B - k) = B by omega]; exact (hR t k B).1 h5
      · obtain ⟨B', h6, h7⟩ := h1.2 e he2 ((hR t k e).2 hr)
        cases h6; omega
    by_cases hB : k < B
    · left
      refine ⟨by show (0 : Int) < (B : Int) - k; omega, ?_⟩
      show (B : Int) - k = _
      rw [hl]; omega
    · right
      refine ⟨by show ¬ (0 : Int) < (B : Int) - k; omega, by omega⟩
theorem own_base {w : World} {B C : Nat} {e : TypeId} {z : Nat} {v : Value} {n : Nat} {xs : List Value} (h : w.ownsRow B e z v n xs) (hC : C ≤ B) : w.ownsRow C e z v n xs := by
  refine ⟨h.1, ?_⟩
  rcases h.2 with h1 | ⟨g, cap, cur, h1, h2, h3⟩
  · exact Or.inl h1
  · exact Or.inr ⟨g, cap, cur, h1, by omega, h3⟩
/-- A cutter stands where nothing old is turned; blocks that were not there may be kept apart from now on. -/
theorem Cutter.kept {B : Nat} {X : Nat → Prop} {w w' : World} {cb gb : Nat} {s : ByteArray} {frm : Nat} {xs : List (List UInt8)} (h : Cutter B (fun _ => False) w cb gb s frm xs) (ho : Only (fun _ => False) w w') (hX : ∀ k, X k → w.heap.size ≤ k ∧ k < w'.heap.size) : Cutter B X w' cb gb s frm xs := by
  obtain ⟨v, cap, h1, h2, h3, h4, h5, h6, h7, h8, h9, h10, _⟩ := h
  have hz := ho.size
  have hcl := heap_lt h2
  refine ⟨v, cap, h1, (ho.block cb hcl (fun e => e)).trans h2, h3.block (ho.block gb h4 (fun e => e)), by omega, ownsRow_of h5 (fun k hk => ho.block k (h5.lt k hk).2 (fun e => e)), h6, h7, h8, h9, h10, fun k hk => ?_⟩
  have := hX k hk
  exact ⟨this.2, by omega, fun e => by have := (h5.lt k e).2; omega⟩
set_option maxRecDepth 100000 in
set_option maxHeartbeats 8000000 in
theorem between_any (vS : Value) (last : Nat) (Q : List St) (R : Pat) (s : ByteArray) (hwf : WfQ Q) (hu : OneDone Q) (hR : ∀ t i e, Acc Q t last e i ↔ R t i e) (hfst : last < Q.length) (h5 : s.size ≤ 500) (hQ : Q.length ≤ 1000000) {len : Nat → Nat} (hLn : IsLen R s.data.toList len) (w : World) (hp : PatAt w vS Q) :
    Calls Tryz.prog 40 #[.string s, .agg #[vS, .int .i64 last]] w fun en w' => ∃ v, en = .returned v ∧ w'.ownsRow w.heap.size 9 1 v (patPieces len s.data.toList).length (strsV (patPieces len s.data.toList)) ∧ Only (fun _ => False) w w' := by
  have hlen : s.data.toList.length = s.size := len_eq s
  obtain ⟨G, capS, rfl⟩ := hp.form (by omega)
  obtain ⟨P, HP⟩ : ∃ P, Hid (P = patPieces len s.data.toList) := ⟨_, rfl⟩
  rw [← HP.out]
  have HPa : ∀ W, Only (fun _ => False) w W → Hid (PatAt W (.slice (some ⟨G, 0, none⟩) Q.length capS) Q) := fun W ho => by
    obtain ⟨xs, h1, h2⟩ := hp
    exact ⟨xs, ownsRow_of h1 (fun k hk => ho.block k (h1.lt k hk).2 (fun e => e)), h2⟩
  have HW := hide hwf
  have HU := hide hu
  have HR := hide hR
  have HLn := hide hLn
  have hbx := new0 w (.cells #[.slice (some ⟨G, 0, none⟩) Q.length capS, .int .i64 last] 68)
  have HBx := hide hbx
  clear hp hR hwf hu hbx hLn
  go_enter Tryz.func40, Tryz.ntmps40
  go_wp2_with fail
  refine (start_any s _).mono ?_
  rintro en w1 ⟨cap, hcap, rfl, hby, hrow, hz, ho⟩
  have hz0 : (w.alloc (.cells #[.slice (some ⟨G, 0, none⟩) Q.length capS, .int .i64 last] 68)).heap.size = w.heap.size + 1 := by simp
  have hc0 := cutter_new (X := fun _ => False) hcap hby hrow hz (fun _ h => h.elim)
  rw [hz0] at hc0 hz
  have hw1 : w1.heap[w.heap.size]? = some (.cells #[.slice (some ⟨G, 0, none⟩) Q.length capS, .int .i64 last] 68 (0, 0)) := (ho.block w.heap.size (by simp) (fun e => e)).trans HBx.out
  have p0 : w1.cell? ⟨w.heap.size, 0, none⟩ = some (.slice (some ⟨G, 0, none⟩) Q.length capS) := cell_of hw1 rfl
  have p1 : w1.cell? ⟨w.heap.size, 1, none⟩ = some (.int .i64 last) := cell_of hw1 rfl
  have HC0 := hide hc0
  have HO0 : Hid (Only (fun _ => False) w w1) := ((Only.refl _ w).alloc _).trans ho (fun _ _ e => e)
  clear hby hrow ho hw1 hc0 hz0
  go_wp2_with fail
  refine (Longest_any _ last Q s HW.out HU.out hfst (by omega) hQ _ (HPa _ (HO0.out.alloc _)).out).mono ?_
  rintro en w2 ⟨ho2, lb, L, hlb, hall, hrow2, rfl⟩
  have hz2 := ho2.size
  have hlb2 := heap_lt hrow2
  have hLl : L.length = s.size + 1 := by rw [hall.1, hlen]
  have HC1 : Hid (Cutter (w.heap.size + 1) (fun k => k = lb) w2 (w.heap.size + 1 + 3) (w.heap.size + 1 + 1) s 0 []) := HC0.out.kept ho2 (fun k hk => by subst hk; exact ⟨hlb, hlb2⟩)
  have HO1 : Hid (Only (fun _ => False) w w2) := (HO0.out.alloc _).trans ho2 (fun _ _ e => e)
  have HRow := hide hrow2
  have HLen := hide (lens_are hall HR.out HLn.out)
  have hlbw : w.heap.size + 1 ≤ lb := by simp at hlb; omega
  clear ho2 hall hrow2 HC0 HO0 HBx HPa HW HU p0 p1 hz2 hlb hz hlb2
  go_wp2
  go_loopw [14] (fun i wr => ∃ k frm xs, k ≤ s.size + 1 ∧ frm ≤ s.size ∧ i = .int .i64 (k : Nat) ∧ xs.length ≤ frm ∧ patC s.data.toList len 0 0 = xs ++ patC s.data.toList len frm (max frm k) ∧ Cutter (w.heap.size + 1) (fun k => k = lb) wr (w.heap.size + 1 + 3) (w.heap.size + 1 + 1) s frm xs ∧ wr.heap[lb]? = some (.cells (zints L).toArray 3 (0, 0)) ∧ Only (fun _ => False) w wr) (fun i _ => s.size + 1 - (intOf i).toNat)
  case atStart => exact ⟨0, 0, [], by omega, by omega, rfl, Nat.le_refl _, by simp, HC1.out, HRow.out, HO1.out⟩
  case round =>
    obtain ⟨k, frm, xs, hk, hfs, rfl, hxl, hsp, hc, hrw, ho⟩ := hrel
    have HS := hide hsp
    have HO := hide ho
    have HRw := hide hrw
    by_cases hlt : k ≤ s.size
    · have hli : (k : Int) < (L.length : Int) := by omega
      obtain ⟨z, hz1, hz2⟩ := HLen.out k (by omega)
      have cz : wr.cell? ⟨lb, k, none⟩ = some (.int .i64 z) := cell_of hrw (by rw [List.getElem?_toArray]; exact zints_get _ _ _ hz1)
      obtain ⟨v, cap2, d0, d1, d2, hown⟩ := hc.own
      by_cases hfk : frm ≤ k
      · have hfi : (frm : Int) ≤ (k : Int) := by omega
        rcases hz2 with ⟨hz2, hz3⟩ | ⟨hz2, hz3⟩
        · have hle := HLn.out.le k (by omega)
          obtain ⟨m, hm⟩ : ∃ m, len k = m := ⟨_, rfl⟩
          rw [hm] at hz3 hle
          subst hz3
          have hm0 : 0 < m := by omega
          have HS2 : Hid (patC s.data.toList len 0 0 = (xs ++ [cutL s.data.toList frm k]) ++ patC s.data.toList len (k + m) (max (k + m) (k + 1))) := by
            show _ = _
            rw [HS.out, show max frm k = k by omega, patC_hit (by omega) (by rw [hm]; exact hm0), hm, show max (k + m) (k + 1) = k + m by omega]; simp
          have hcut := cut_any (w.heap.size + 1) (fun k => k = lb) (w.heap.size + 1 + 3) (w.heap.size + 1 + 1) s frm k (k + m) xs hfk hlt (by omega) wr hc
          rw [Int.natCast_add] at hcut
          have HC := hide hcut
          clear hc ho hsp hrw hown hcut hm hz1
          go_wp2_with (go_at_call 53; refine (HC.out).mono ?_; rintro en w3 ⟨rfl, h1, h2⟩)
          go_roundw
          case rel => exact ⟨k + 1, k + m, _, by omega, by omega, by go_num, by simp; omega, HS2.out, h1, (h2.block lb (heap_lt HRw.out) (fun h => h.2 rfl)).trans HRw.out, HO.out.trans h2 (fun i hi hB => by have := hB.1; omega)⟩
          case measure => simp [intOf]; omega
        · have HS2 : Hid (patC s.data.toList len 0 0 = xs ++ patC s.data.toList len frm (max frm (k + 1))) := by
            show _ = _
            rw [HS.out, show max frm k = k by omega, show max frm (k + 1) = k + 1 by omega]
            by_cases hks : k < s.size
            · rw [patC_pass (by omega) (by omega)]
            · rw [patC_end (by omega), patC_end (by omega)]
          have HC := hide hc
          clear hc ho hsp hrw hown hz1 hz3
          go_wp2
          go_roundw
          case rel => exact ⟨k + 1, frm, xs, by omega, by omega, by go_num, hxl, HS2.out, HC.out, HRw.out, HO.out⟩
          case measure => simp [intOf]; omega
      · have hfi : ¬ (frm : Int) ≤ (k : Int) := by omega
        have HS2 : Hid (patC s.data.toList len 0 0 = xs ++ patC s.data.toList len frm (max frm (k + 1))) := by
          show _ = _
          rw [HS.out, show max frm k = frm by omega, show max frm (k + 1) = frm by omega]
        have HC := hide hc
        clear hc ho hsp hrw hown hz1 hz2
        go_wp2
        go_roundw
        case rel => exact ⟨k + 1, frm, xs, by omega, by omega, by go_num, hxl, HS2.out, HC.out, HRw.out, HO.out⟩
        case measure => simp [intOf]; omega
    · have hli : ¬ (k : Int) < (L.length : Int) := by omega
      by_cases hs0 : s.size = 0
      · have he : s.data.toList = [] := List.eq_nil_of_length_eq_zero (by omega)
        have hx0 : xs = [] := List.eq_nil_of_length_eq_zero (by omega)
        have HE : Hid (xs = P) := by show xs = P; rw [HP.out, hx0]; unfold patPieces; rw [if_pos he]
        have HRs := hide (rest_none (w.heap.size + 1) (fun k => k = lb) (w.heap.size + 1 + 3) (w.heap.size + 1 + 1) s frm xs hs0 wr hc)
        clear hc ho hsp he hx0 hrw
        go_wp2_with (go_at_call 54; refine (HRs.out).mono ?_; rintro en w3 ⟨v, rfl, h1, rfl⟩)
        go_ret
        exact ⟨_, rfl, own_base (strs_eq h1 HE.out (by rw [HE.out])) (by omega), HO.out⟩
      · have he : s.data.toList ≠ [] := fun e => by rw [e] at hlen; simp at hlen; omega
        have HE : Hid (xs ++ [cutL s.data.toList frm s.size] = P) := by
          show _ = P
          rw [HP.out]
          unfold patPieces
          rw [if_neg he, HS.out, patC_end (by omega), hlen]
        have HRs := hide (rest_some (w.heap.size + 1) (fun k => k = lb) (w.heap.size + 1 + 3) (w.heap.size + 1 + 1) s frm xs (by omega) hfs (by omega) wr hc)
        clear hc ho hsp he hrw
        go_wp2_with (go_at_call 54; refine (HRs.out).mono ?_; rintro en w3 ⟨v, rfl, h1, h2⟩)
        go_ret
        exact ⟨_, rfl, own_base (strs_eq h1 HE.out (by rw [← HE.out]; simp)) (by omega), HO.out.trans h2 (fun i hi hB => by have := hB.1; omega)⟩
end Go.Proofs.YtdbdbaepmdmnfaaGreatDoor
