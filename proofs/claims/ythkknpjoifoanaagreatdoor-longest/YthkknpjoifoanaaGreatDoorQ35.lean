import Derived.Test.YthkknpjoifoanaaGreatDoorQ01
import Derived.Test.YthkknpjoifoanaaGreatDoorQ28
import Derived.Deep.QuietTactic
import Derived.BigQuiet
import Derived.Test.YthkknpjoifoanaaGreatDoorQ34
import Derived.Deep.Slices
import Derived.SliceStrings
import Derived.SizedLaws
import Derived.ProofKit
namespace Go.Proofs.YthkknpjoifoanaaGreatDoor
open Go.RowKit
theorem row_cells {w : World} {B G cap : Nat} {L : List (List UInt8)} (hr : w.ownsRow B 9 1 (.slice (some ⟨G, 0, none⟩) L.length cap) L.length (strsV L)) : ∀ (i : Nat) l, L[i]? = some l → w.cell? ⟨G, i, none⟩ = some (.string (ofB l)) := by
  intro i l hl
  have hc := hr.cells (g := G) rfl i (.string (ofB l)) (by unfold strsV; rw [List.getElem?_map, hl]; rfl)
  simp only [Addr.add] at hc
  split at hc
  · rename_i hi; subst hi; exact hc
  · simpa using hc
theorem sep_is {s : ByteArray} (h : (s.toList == [32]) = true) : s.data.toList = [32] := by rw [ByteArray.toList_eq] at h; exact eq_of_beq h
theorem sep_not {s : ByteArray} (h : (s.toList == [32]) = false) : s.data.toList ≠ [32] := by rw [ByteArray.toList_eq, beq_eq_false_iff_ne] at h; exact h
theorem empty_is {s : ByteArray} (h : s.toList.isEmpty = true) : s.data.toList = [] := by rw [ByteArray.toList_eq, List.isEmpty_iff] at h; exact h
theorem joins_none (ao : Option Addr) (cap : Nat) (p : ByteArray) (w : World) : Calls Tryz.prog 15 #[.slice ao 0 cap, .string p] w fun e w' => e = .returned (.string (ofB [])) ∧ w' = w := by
  go_enter Tryz.func15, Tryz.ntmps15
  go_wp2
  go_loop [5, 6] (fun s x => x = .int .i64 0 ∧ s = .string (ofB [])) (fun s x => 0)
  case atStart => exact ⟨rfl, rfl⟩
  case round =>
    obtain ⟨rfl, rfl⟩ := hrel
    go_wp2
    go_ret
    exact ⟨rfl, rfl⟩
theorem joins_row {w : World} {B : Nat} {v : Value} {L : List (List UInt8)} (p : ByteArray) (hl : L.length ≤ 501) (hp : p.size ≤ 500) (hT : (joinsL p.data.toList L).length ≤ 500) (hr : w.ownsRow B 9 1 v L.length (strsV L)) :
    Calls Tryz.prog 15 #[v, .string p] w fun e w' => e = .returned (.string (ofB (joinsL p.data.toList L))) ∧ w' = w := by
  by_cases h0 : L.length = 0
  · obtain ⟨po, cp, rfl⟩ := ownsRow_slice hr
    obtain rfl : L = [] := List.length_eq_zero_iff.1 h0
    exact joins_none po cp p w
  · obtain ⟨G, cap, rfl⟩ := own_form hr h0
    exact joins_any G cap L p hl hp hT w (row_cells hr)
set_option maxRecDepth 100000 in
set_option maxHeartbeats 4000000 in
theorem joined_any (K A B : Int) (s t u : ByteArray) (ao : Option Addr) (n cap : Nat) (w : World) :
    Calls Tryz.prog 7 #[.agg #[.int .i64 K, .int .i64 A, .int .i64 B, .string s, .string t, .string u, .slice ao n cap]] w fun e w' => e = .returned (.bool true) ∧ Below w.heap.size w w' := by
  have hx0 := new0 w (.cells #[.int .i64 K, .int .i64 A, .int .i64 B, .string s, .string t, .string u, .slice ao n cap] 25)
  have HX0 := hide hx0
  clear hx0
  have HSl := hide (len_eq s)
  have HTl := hide (len_eq t)
  go_enter Tryz.func7, Tryz.ntmps7
  go_wp2_with fail
  refine (split_any t s _).mono ?_
  rintro e w1 ⟨v, L, m, rfl, hr1, hs1, ho1⟩
  have hx1 : w1.heap[w.heap.size]? = some (.cells #[.int .i64 K, .int .i64 A, .int .i64 B, .string s, .string t, .string u, .slice ao n cap] 25 (0, 0)) := (ho1.block w.heap.size (by simp) (fun e => e)).trans HX0.out
  have p3 : w1.cell? ⟨w.heap.size, 3, none⟩ = some (.string s) := cell_of hx1 rfl
  have p4 : w1.cell? ⟨w.heap.size, 4, none⟩ = some (.string t) := cell_of hx1 rfl
  have HLn := hide hs1.len
  obtain ⟨j1, j2, j3, j4, j5, j6⟩ := hs1.joinOK
  have J1 := hide j1
  have J2 := hide j2
  have J3 := hide j3
  have J4 := hide j4
  have J5 := hide j5
  have J6 := hide j6
  have HR1 := hide hr1
  have HO1 : Hid (Only (fun _ => False) w w1) := ((Only.refl _ w).alloc _).trans ho1 (fun _ _ e => e)
  clear hs1 hr1 ho1 hx1 HX0 j1 j2 j3 j4 j5 j6
  by_cases hm : m = 0
  · subst hm
    have hsz : t.size ≤ 500 ∧ s.size ≤ 500 := by have := J6.out rfl; rw [len_eq, len_eq] at this; exact this
    by_cases hone : (s.size : Int) ≤ 1 ∧ (s.toList == [32]) = false
    · obtain ⟨hone1, hone2⟩ := hone
      have HJ : Hid (joinsL s.data.toList L = t.data.toList) := J2.out rfl (by rw [len_eq]; omega) (sep_not hone2)
      go_wp2_with (first
        | (go_at_call 9; refine (num_any _ _).mono ?_; rintro e w5 ⟨rfl, rfl⟩)
        | (go_at_call 15; refine (joins_row s HLn.out hsz.2 (by rw [HJ.out, len_eq]; exact hsz.1) HR1.out).mono ?_; rintro e w5 ⟨rfl, rfl⟩; rw [HJ.out, ofB_list]))
      go_ret
      exact ⟨rfl, HO1.out.below (Nat.le_refl _) (fun _ _ e => e)⟩
    · have hcs : ((s.size : Int) ≤ 1 ∧ (s.toList == [32]) = true) ∨ (¬ (s.size : Int) ≤ 1 ∧ (s.toList == [32]) = false) := by
        rcases sep_cases s with ⟨h0, h1, h2, h3⟩ | ⟨c, h0, h1, h2, h3, h4, h5⟩ | ⟨h0, h1, h2, h3⟩
        · exact absurd ⟨by rw [← len_eq, h0]; simp, h2⟩ hone
        · by_cases hc : c = 32
          · exact Or.inl ⟨by omega, h4 hc⟩
          · exact absurd ⟨by omega, h5 hc⟩ hone
        · exact Or.inr ⟨by omega, h2⟩
      clear hone
      have HSt := hide (J3.out rfl)
      have HN : Hid ((s.toList == [32]) = true → ∀ l, l ∈ L → l ≠ []) := hide (fun h => J4.out rfl (sep_is h))
      have HJ5 := hide (J5.out rfl)
      obtain ⟨hsz1, hsz2⟩ := hsz
      clear J1 J2 J3 J4 J5 J6
      obtain ⟨po, cp, rfl⟩ := ownsRow_slice HR1.out
      have hL5 := HLn.out
      rcases hcs with ⟨c1, c2⟩ | ⟨c1, c2⟩
      · go_wp2_with (go_at_call 9; refine (num_any _ _).mono ?_; rintro e w5 ⟨rfl, h5⟩; subst w5)
        go_loopw [6, 7] (fun x y wr => ∃ a i n : Nat, a ≤ 500 ∧ i ≤ L.length ∧ x = .int .i64 a ∧ y = .int .i64 i ∧ Hid (Stand t.data.toList a (L.drop i)) ∧ wr = w1.drewN n) (fun x y _ => L.length - (intOf y).toNat)
        case atStart => exact ⟨0, 0, 0, by omega, by omega, rfl, rfl, HSt, rfl⟩
        case round =>
          obtain ⟨a, i, nn, ha, hi, rfl, rfl, HI, rfl⟩ := hrel
          by_cases hlt : i < L.length
          · have hx : L[i]? = some L[i] := List.getElem?_eq_getElem hlt
            have hne : L[i] ≠ [] := HN.out c2 _ (List.getElem_mem hlt)
            generalize L[i] = x at hx hne
            have hst := HI.out
            rw [List.drop_eq_getElem_cons hlt, (List.getElem?_eq_some_iff.1 hx).2] at hst
            obtain ⟨k, k1, k2, k3, k4⟩ := stand_place hst
            have hxs : (ofB x).size = x.length := ofB_size x
            have HP : Hid (∀ W, Calls Tryz.prog 11 #[.string t, .string (ofB x), .int .i64 a] W fun e w' => e = .returned (.int .i64 k) ∧ w' = W) := hide (fun W => place_at hsz1 (by rw [len_eq] at k3; omega) ha k1 W)
            have HK4 := hide k4
            obtain ⟨G, cap, eG⟩ := own_form HR1.out (by omega)
            cases eG
            have c0 : w1.cell? ⟨G, i, none⟩ = some (.string (ofB x)) := row_cells HR1.out i x hx
            have hki : (i : Int) < (L.length : Int) := by omega
            have k5 : k + x.length ≤ 500 := by rw [len_eq] at k3; omega
            have k6 : (ofB x).toList.isEmpty = false := by
              rw [ByteArray.toList_eq]; show x.isEmpty = false
              cases x with
              | nil => exact absurd rfl hne
              | cons => rfl
            have hb : ¬ ((k : Int) < 0) := by omega
            clear hst k1 k4 hx hne k3 k2
            go_wp2
            go_quiet (first | (go_at_call 11; exact (HP.out _).mono (fun _ _ h => ⟨h.1, _, h.2⟩)))
            go_wp2
            go_roundw
            case rel => exact ⟨k + x.length, i + 1, _, by omega, by omega, by rw [← hxs]; go_num, by go_num, HK4, rfl⟩
            case measure => simp [intOf]; omega
          · obtain rfl : i = L.length := by omega
            have hor : t.toList = [] ∨ (¬ t.toList = [] ∧ 0 < L.length) ∨ (¬ t.toList = [] ∧ ¬ 0 < L.length) := by
              by_cases ht : t.toList = []
              · exact Or.inl ht
              · by_cases hl : 0 < L.length
                · exact Or.inr (Or.inl ⟨ht, hl⟩)
                · exact Or.inr (Or.inr ⟨ht, hl⟩)
            rcases hor with h | ⟨h, h'⟩ | ⟨h, h'⟩
            all_goals go_wp2
            all_goals go_ret
            all_goals exact ⟨rfl, (HO1.out.drewN nn).below (Nat.le_refl _) (fun _ _ e => e)⟩
      · go_wp2_with (go_at_call 9; refine (num_any _ _).mono ?_; rintro e w5 ⟨rfl, h5⟩; subst w5)
        go_loopw [6, 7] (fun x y wr => ∃ a i n : Nat, a ≤ 500 ∧ i ≤ L.length ∧ x = .int .i64 a ∧ y = .int .i64 i ∧ Hid (Stand t.data.toList a (L.drop i)) ∧ wr = w1.drewN n) (fun x y _ => L.length - (intOf y).toNat)
        case atStart => exact ⟨0, 0, 0, by omega, by omega, rfl, rfl, HSt, rfl⟩
        case round =>
          obtain ⟨a, i, nn, ha, hi, rfl, rfl, HI, rfl⟩ := hrel
          by_cases hlt : i < L.length
          · have hx : L[i]? = some L[i] := List.getElem?_eq_getElem hlt
            generalize L[i] = x at hx
            have hst := HI.out
            rw [List.drop_eq_getElem_cons hlt, (List.getElem?_eq_some_iff.1 hx).2] at hst
            obtain ⟨k, k1, k2, k3, k4⟩ := stand_place hst
            have hxs : (ofB x).size = x.length := ofB_size x
            have HP : Hid (∀ W, Calls Tryz.prog 11 #[.string t, .string (ofB x), .int .i64 a] W fun e w' => e = .returned (.int .i64 k) ∧ w' = W) := hide (fun W => place_at hsz1 (by rw [len_eq] at k3; omega) ha k1 W)
            have HK4 := hide k4
            obtain ⟨G, cap, eG⟩ := own_form HR1.out (by omega)
            cases eG
            have c0 : w1.cell? ⟨G, i, none⟩ = some (.string (ofB x)) := row_cells HR1.out i x hx
            have hki : (i : Int) < (L.length : Int) := by omega
            have k5 : k + x.length ≤ 500 := by rw [len_eq] at k3; omega
            have hb : ¬ ((k : Int) < 0) := by omega
            clear hst k1 k4 hx k3 k2
            go_wp2
            go_quiet (first | (go_at_call 11; exact (HP.out _).mono (fun _ _ h => ⟨h.1, _, h.2⟩)))
            go_wp2
            go_roundw
            case rel => exact ⟨k + x.length, i + 1, _, by omega, by omega, by rw [← hxs]; go_num, by go_num, HK4, rfl⟩
            case measure => simp [intOf]; omega
          · obtain rfl : i = L.length := by omega
            have hor : t.toList = [] ∨ (¬ t.toList = [] ∧ 0 < L.length) := by
              by_cases ht : t.toList = []
              · exact Or.inl ht
              · refine Or.inr ⟨ht, ?_⟩
                rcases HJ5.out with h | h | h
                · rw [ByteArray.toList_eq] at ht; exact absurd h ht
                · exact List.length_pos_iff.2 h
                · exact absurd h (sep_not c2)
            rcases hor with h | ⟨h, h'⟩
            all_goals go_wp2
            all_goals go_ret
            all_goals exact ⟨rfl, (HO1.out.drewN nn).below (Nat.le_refl _) (fun _ _ e => e)⟩
  · have hmi : ¬ ((m : Int) = 0) := by omega
    obtain ⟨rfl, hbig⟩ := J1.out hm
    rw [len_eq, len_eq] at hbig
    obtain ⟨po, cp, rfl⟩ := ownsRow_slice HR1.out
    clear J1 J2 J3 J4 J5 J6 hm
    have hcs : 500 < t.size ∨ (t.size ≤ 500 ∧ 500 < s.size) ∨ (t.size ≤ 500 ∧ s.size ≤ 500 ∧ 1 < s.size) := by omega
    rcases hcs with g1 | ⟨g1, g2⟩ | ⟨g1, g2, g3⟩
    · have e1 : ¬ (t.size : Int) ≤ 500 := by omega
      go_wp2_with (first
        | (go_at_call 9; refine (num_any _ _).mono ?_; rintro e w5 ⟨rfl, h5⟩; subst w5)
        | (go_at_call 10; refine (short_any _ _).mono ?_; rintro e w5 ⟨rfl, h5⟩; subst w5))
      go_ret
      exact ⟨rfl, HO1.out.below (Nat.le_refl _) (fun _ _ e => e)⟩
    · have e1 : (t.size : Int) ≤ 500 := by omega
      have e2 : ¬ (s.size : Int) ≤ 500 := by omega
      go_wp2_with (first
        | (go_at_call 9; refine (num_any _ _).mono ?_; rintro e w5 ⟨rfl, h5⟩; subst w5)
        | (go_at_call 10; refine (short_any _ _).mono ?_; rintro e w5 ⟨rfl, h5⟩; subst w5))
      go_ret
      exact ⟨rfl, HO1.out.below (Nat.le_refl _) (fun _ _ e => e)⟩
    · have e1 : (t.size : Int) ≤ 500 := by omega
      have e2 : (s.size : Int) ≤ 500 := by omega
      have e3 : (1 : Int) < (s.size : Int) := by omega
      go_wp2_with (first
        | (go_at_call 9; refine (num_any _ _).mono ?_; rintro e w5 ⟨rfl, h5⟩; subst w5)
        | (go_at_call 10; refine (short_any _ _).mono ?_; rintro e w5 ⟨rfl, h5⟩; subst w5))
      go_ret
      exact ⟨rfl, HO1.out.below (Nat.le_refl _) (fun _ _ e => e)⟩
end Go.Proofs.YthkknpjoifoanaaGreatDoor

namespace Go.Proofs.YthkknpjoifoanaaGreatDoor
open Go.RowKit
/-- A step of a script, as it lies in memory. -/
def OpM (w : World) (b o : Nat) : Prop := ∃ (K A B : Int) (s t u : ByteArray) (ao : Option Addr) (n cap : Nat),
  w.cell? ⟨b, o, none⟩ = some (.int .i64 K) ∧ w.cell? ⟨b, o + 1, none⟩ = some (.int .i64 A) ∧ w.cell? ⟨b, o + 2, none⟩ = some (.int .i64 B) ∧ w.cell? ⟨b, o + 3, none⟩ = some (.string s) ∧ w.cell? ⟨b, o + 4, none⟩ = some (.string t) ∧ w.cell? ⟨b, o + 5, none⟩ = some (.string u) ∧ w.cell? ⟨b, o + 6, none⟩ = some (.slice ao n cap)
theorem OpM.below {w w' : World} {b o : Nat} (h : OpM w b o) (hb : Below w.heap.size w w') (hB : b < w.heap.size) : OpM w' b o := by
  obtain ⟨K, A, B, s, t, u, ao, n, cap, h0, h1, h2, h3, h4, h5, h6⟩ := h
  refine ⟨K, A, B, s, t, u, ao, n, cap, ?_, ?_, ?_, ?_, ?_, ?_, ?_⟩
  · rw [hb.cell (p := ⟨b, o, none⟩) hB]; exact h0
  · rw [hb.cell (p := ⟨b, o + 1, none⟩) hB]; exact h1
  · rw [hb.cell (p := ⟨b, o + 2, none⟩) hB]; exact h2
  · rw [hb.cell (p := ⟨b, o + 3, none⟩) hB]; exact h3
  · rw [hb.cell (p := ⟨b, o + 4, none⟩) hB]; exact h4
  · rw [hb.cell (p := ⟨b, o + 5, none⟩) hB]; exact h5
  · rw [hb.cell (p := ⟨b, o + 6, none⟩) hB]; exact h6
theorem Sent.below {w w' : World} (h : Sent w) (hb : Below w.heap.size w w') : Sent w' := fun k hk => by
  obtain ⟨a, ha⟩ := h k hk
  exact ⟨a, by rw [hb.cell (p := ⟨k, 0, none⟩) (World.block_lt_of_cell? w ⟨k, 0, none⟩ ha)]; exact ha⟩
/-- What is behind the walk over the script. -/
theorem alive_below {w wr : World} (hse : Sent w) (hb : Below w.heap.size w wr) : Calls Tryz.prog 6 #[] wr fun e w' => e = .returned (.bool true) ∧ Below w.heap.size w w' :=
  (alive_any wr (hse.below hb)).mono (fun _ _ ⟨h, ho⟩ => ⟨h, hb.trans (ho.below hb.size (fun _ _ e => e))⟩)
set_option maxRecDepth 100000 in
set_option maxHeartbeats 4000000 in
theorem joinedL_some (b off n cap : Nat) (hn : n ≤ 140737488355328) (w : World) (hB : b < w.heap.size) (hO : ∀ i, i < n → OpM w b (off + i * 7)) (hse : Sent w) :
    Calls Tryz.prog 4 #[.slice (some ⟨b, off, none⟩) n cap] w fun e w' => e = .returned (.bool true) ∧ Below w.heap.size w w' := by
  have HOp := hide hO
  have HSe := hide hse
  clear hO hse
  go_enter Tryz.func4, Tryz.ntmps4
  go_wp2
  go_loopw [3] (fun i wr => ∃ k : Nat, k ≤ n ∧ i = .int .i64 k ∧ Below w.heap.size w wr) (fun i _ => n - (intOf i).toNat)
  case atStart => exact ⟨0, by omega, rfl, Below.refl _ _⟩
  case round =>
    obtain ⟨k, hk, rfl, hbw⟩ := hrel
    have hzw := hbw.size
    by_cases hlt : k < n
    · obtain ⟨K, A, B, s, t, u, ao, nn, cp, h0, h1, h2, h3, h4, h5, h6⟩ := (HOp.out k hlt).below hbw hB
      have hk60 : (k : Int) < 1152921504606846976 := by omega
      have HB := hide hbw
      clear hbw
      go_wp2_with fail
      refine (joined_any K A B s t u ao nn cp _).mono ?_
      rintro e w1 ⟨rfl, hb1⟩
      have hw1 := HB.out.trans (hb1.mono hzw)
      clear hb1
      go_wp2
      go_roundw
      case rel => exact ⟨k + 1, by omega, by go_num, hw1⟩
      case measure => simp [intOf]; omega
    · have HAl := hide (alive_below HSe.out hbw)
      clear hbw
      go_wp2_with (go_at_call 6; refine (HAl.out).mono ?_; rintro e w' ⟨rfl, hb⟩)
      go_ret
      exact ⟨rfl, hb⟩
set_option maxHeartbeats 1000000 in
theorem joinedL_none (ao : Option Addr) (cap : Nat) (w : World) (hse : Sent w) :
    Calls Tryz.prog 4 #[.slice ao 0 cap] w fun e w' => e = .returned (.bool true) ∧ Below w.heap.size w w' := by
  have HAl := hide (alive_below hse (Below.refl _ w))
  clear hse
  go_enter Tryz.func4, Tryz.ntmps4
  go_wp2
  go_loop [3] (fun i => i = .int .i64 0) (fun _ => 0)
  case atStart => exact rfl
  case round =>
    subst hrel
    go_wp2_with (go_at_call 6; refine (HAl.out).mono ?_; rintro e w' ⟨rfl, hb⟩)
    go_ret
    exact ⟨rfl, hb⟩
end Go.Proofs.YthkknpjoifoanaaGreatDoor

namespace Go.Proofs.YthkknpjoifoanaaGreatDoor
open Go.RowKit Go.Deep Go.ChangeShapes

theorem cells25 : Tryz.prog.cellsOf 25 = 7 := by kernel_rfl
theorem cells3 : Tryz.prog.cellsOf 3 = 1 := by kernel_rfl
theorem cells9 : Tryz.prog.cellsOf 9 = 1 := by kernel_rfl
theorem cells23 : Tryz.prog.cellsOf 23 = 1 := by kernel_rfl
theorem bytes9 : Tryz.prog.bytesOf 9 = 16 := by kernel_rfl
theorem bytes25 : Tryz.prog.bytesOf 25 = 96 := by kernel_rfl
theorem spot_of_cell {w : World} {a : Addr} {v : Value} (h : w.cell? a = some v) : ∃ b o, a = ⟨b, o, none⟩ := by
  obtain ⟨b, o, sp⟩ := a
  cases sp with
  | none => exact ⟨b, o, rfl⟩
  | some s =>
    exfalso
    unfold World.cell? at h
    split at h <;> simp_all
theorem add_none (b o j : Nat) : (⟨b, o, none⟩ : Addr).add j = ⟨b, o + j, none⟩ := by
  unfold Addr.add; split
  · rename_i h; subst h; rfl
  · rfl
theorem list7 {α : Type} (l : List α) (h : l.length = 7) : ∃ a b c d e f g, l = [a, b, c, d, e, f, g] := by
  match l, h with
  | [a, b, c, d, e, f, g], _ => exact ⟨a, b, c, d, e, f, g, rfl⟩
theorem lt_of_cell {w : World} {b o : Nat} {v : Value} (h : w.cell? ⟨b, o, none⟩ = some v) : b < w.heap.size := World.block_lt_of_cell? w ⟨b, o, none⟩ h
theorem opm_open {H : Type} {enc : TypeId × Value → H} {W : World} {n b o : Nat} {cs : List Value} {D : DataW H} {Pl : List MemPlace}
    (hc : W.cells? 0 ⟨b, o, none⟩ 7 = some cs) (hf : DataW.trod enc Tryz.prog W 0 (fun _ => true) true n 25 cs = some (D, Pl)) : OpM W b o := by
  obtain ⟨_, hlen, hcell⟩ := World.cells?_some hc
  obtain ⟨xs, m, rfl, hx, _, hxl, hfs⟩ := DataW.trod_struct Tryz.underlying25 hf
  obtain ⟨c0, c1, c2, c3, c4, c5, c6, rfl⟩ := list7 cs hlen
  obtain ⟨x0, x1, x2, x3, x4, x5, x6, rfl⟩ := list7 xs hxl
  have f0 := hfs 0 _ rfl
  have f1 := hfs 1 _ rfl
  have f2 := hfs 2 _ rfl
  have f3 := hfs 3 _ rfl
  have f4 := hfs 4 _ rfl
  have f5 := hfs 5 _ rfl
  have f6 := hfs 6 _ rfl
  simp [cells3, cells9, cells23] at f0 f1 f2 f3 f4 f5 f6
  obtain ⟨K, k0, rfl, _⟩ := DataW.trod_int Tryz.underlying3 f0
  obtain ⟨A, k1, rfl, _⟩ := DataW.trod_int Tryz.underlying3 f1
  obtain ⟨B, k2, rfl, _⟩ := DataW.trod_int Tryz.underlying3 f2
  obtain ⟨s, k3, rfl, hs⟩ := DataW.trod_string Tryz.underlying9 f3
  obtain ⟨t, k4, rfl, ht⟩ := DataW.trod_string Tryz.underlying9 f4
  obtain ⟨u, k5, rfl, hu⟩ := DataW.trod_string Tryz.underlying9 f5
  simp only [List.cons.injEq, and_true] at k0 k1 k2 k3 k4 k5
  subst k0 k1 k2 k3 k4 k5
  have e : ∀ j, j < 7 → W.cell? ⟨b, o + j, none⟩ = [Value.int .i64 K, .int .i64 A, .int .i64 B, .string s, .string t, .string u, c6][j]? := fun j hj => by
    have := hcell j hj; rw [add_none] at this; exact this
  rcases open_strings Tryz.underlying23 Tryz.underlying9 cells9 f6 with ⟨h6, h7⟩ | ⟨a, len, cap, ss, h6, _, hl, hm, hz, h7, hsc, hsz⟩
  · simp only [List.cons.injEq, and_true] at h6
    subst h6
    exact ⟨K, A, B, s, t, u, none, 0, 0, e 0 (by omega), e 1 (by omega), e 2 (by omega), e 3 (by omega), e 4 (by omega), e 5 (by omega), e 6 (by omega)⟩
  · simp only [List.cons.injEq, and_true] at h6
    subst h6
    exact ⟨K, A, B, s, t, u, some a, len, cap, e 0 (by omega), e 1 (by omega), e 2 (by omega), e 3 (by omega), e 4 (by omega), e 5 (by omega), e 6 (by omega)⟩
end Go.Proofs.YthkknpjoifoanaaGreatDoor

