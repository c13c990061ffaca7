import Derived.Test.YthhiofppbpgipaaGreatDoorLaw
import Derived.Test.YthhiofppbpgipaaGreatDoorFmtC
import Derived.Test.YthhiofppbpgipaaGreatDoorRFmtC
namespace Go.Proofs.YthhiofppbpgipaaGreatDoor
open Go.RowKit
/-- What Format answers: of a format and its arguments. -/
def fmtOut (s : ByteArray) (ss : List ByteArray) : List UInt8 × Nat :=
  if 500 < s.size then ([], 1) else if 12 < ss.length then ([], 1) else if ss.any (fun x => decide (500 < x.size)) then ([], 1) else fmtRun s.data.toList s.size 0 [] (ss.map (·.data.toList))
theorem first_long (ss : List ByteArray) (h : ss.any (fun x => decide (500 < x.size)) = true) : ∃ m y, m < ss.length ∧ (∀ i x, i < m → ss[i]? = some x → x.size ≤ 500) ∧ ss[m]? = some y ∧ 500 < y.size := by
  induction ss with
  | nil => simp at h
  | cons a r ih =>
    by_cases ha : 500 < a.size
    · exact ⟨0, a, by simp, fun i x hi => by omega, rfl, ha⟩
    · have hr : r.any (fun x => decide (500 < x.size)) = true := by simpa [ha] using h
      obtain ⟨m, y, h1, h2, h3, h4⟩ := ih hr
      refine ⟨m + 1, y, by simp; omega, fun i x hi hx => ?_, by simpa using h3, h4⟩
      cases i with
      | zero => simp at hx; subst hx; omega
      | succ i => exact h2 i x (by omega) (by simpa using hx)
theorem none_long (ss : List ByteArray) (h : ss.any (fun x => decide (500 < x.size)) = false) : ∀ x ∈ ss, x.size ≤ 500 := by
  intro x hx
  have := List.any_eq_false.1 h x hx
  simpa using this
theorem format_all (s : ByteArray) (b off cap : Nat) (ss : List ByteArray) (w : World) (ht : Tabs w) (hA : StrsAt w b off ss) (hB : b < w.heap.size) (a0 a1 : Addr) (hE : Errs w a0 a1) :
    Calls Tryz.prog 15 #[.string s, .slice (some ⟨b, off, none⟩) ss.length cap] w fun e w' => e = .returned (.tuple #[.string ⟨(fmtOut s ss).1.toArray⟩, .int .i64 (fmtOut s ss).2]) ∧ Below w.heap.size w w' := by
  unfold fmtOut
  by_cases h1 : 500 < s.size
  · rw [if_pos h1]; exact format_long s h1 _ _ _ w
  · rw [if_neg h1]
    by_cases h2 : 12 < ss.length
    · rw [if_pos h2]; exact format_many s (by omega) _ _ _ h2 w
    · rw [if_neg h2]
      cases h3 : ss.any (fun x => decide (500 < x.size))
      · rw [if_neg (by decide)]
        exact format_go s (by omega) b off cap ss (by omega) (none_long ss h3) w ht hA hB a0 a1 hE _ _ rfl
      · rw [if_pos rfl]
        obtain ⟨m, y, q1, q2, q3, q4⟩ := first_long ss h3
        exact format_arg s (by omega) b off cap ss (by omega) m q1 q2 y q3 q4 w hA
theorem format_all_none (s : ByteArray) (ao : Option Addr) (cap : Nat) (w : World) (ht : Tabs w) (a0 a1 : Addr) (hE : Errs w a0 a1) :
    Calls Tryz.prog 15 #[.string s, .slice ao 0 cap] w fun e w' => e = .returned (.tuple #[.string ⟨(fmtOut s []).1.toArray⟩, .int .i64 (fmtOut s []).2]) ∧ Below w.heap.size w w' := by
  unfold fmtOut
  by_cases h1 : 500 < s.size
  · rw [if_pos h1]; exact format_long s h1 _ _ _ w
  · rw [if_neg h1]
    exact format_none s (by omega) ao cap w ht a0 a1 hE _ _ rfl
theorem refFormat_all (s : ByteArray) (hs : s.size ≤ maxLen) (b off cap : Nat) (ss : List ByteArray) (hl : ss.length ≤ maxLen) (hss : ∀ x ∈ ss, x.size ≤ maxLen) (w : World) (ht : Tabs w) (hA : StrsAt w b off ss) (hB : b < w.heap.size) :
    Calls Tryz.prog 16 #[.string s, .slice (some ⟨b, off, none⟩) ss.length cap] w fun e w' => e = .returned (.tuple #[.string ⟨(fmtOut s ss).1.toArray⟩, .int .i64 (fmtOut s ss).2]) ∧ Below w.heap.size w w' := by
  unfold fmtOut
  by_cases h1 : 500 < s.size
  · rw [if_pos h1]; exact refFormat_long s h1 hs _ _ _ w
  · rw [if_neg h1]
    by_cases h2 : 12 < ss.length
    · rw [if_pos h2]; exact refFormat_many s (by omega) _ _ _ h2 hl w
    · rw [if_neg h2]
      cases h3 : ss.any (fun x => decide (500 < x.size))
      · rw [if_neg (by decide)]
        exact refFormat_go s (by omega) b off cap ss (by omega) (none_long ss h3) w ht hA hB _ _ rfl
      · rw [if_pos rfl]
        obtain ⟨m, y, q1, q2, q3, q4⟩ := first_long ss h3
        exact refFormat_arg s (by omega) b off cap ss (by omega) m q1 q2 y q3 q4 (hss y (List.mem_of_getElem? q3)) w hA hB
theorem refFormat_all_none (s : ByteArray) (hs : s.size ≤ maxLen) (ao : Option Addr) (cap : Nat) (w : World) (ht : Tabs w) :
    Calls Tryz.prog 16 #[.string s, .slice ao 0 cap] w fun e w' => e = .returned (.tuple #[.string ⟨(fmtOut s []).1.toArray⟩, .int .i64 (fmtOut s []).2]) ∧ Below w.heap.size w w' := by
  unfold fmtOut
  by_cases h1 : 500 < s.size
  · rw [if_pos h1]; exact refFormat_long s h1 hs _ _ _ w
  · rw [if_neg h1]
    exact refFormat_none s (by omega) ao cap w ht _ _ rfl
set_option maxRecDepth 100000 in
set_option maxHeartbeats 4000000 in
theorem plays_fmt_none (A B : Int) (s t u : ByteArray) (hs : s.size ≤ maxLen) (ao : Option Addr) (cap : Nat) (w : World) (ht : Tabs w) (a0 a1 : Addr) (hE : Errs w a0 a1) :
    Calls Tryz.prog 7 #[.agg #[.int .i64 3, .int .i64 A, .int .i64 B, .string s, .string t, .string u, .slice ao 0 cap]] w fun e w' => e = .returned (.bool true) ∧ Below w.heap.size w w' := by
  have HT := hide ht
  have HE := hide hE
  have hbig := ht.big
  clear ht hE
  go_enter Tryz.func7, Tryz.ntmps7
  go_wp2_with fail
  refine (copied_none ao cap _).mono ?_
  rintro e w1 ⟨rfl, rfl⟩
  go_wp2_with fail
  refine (format_all_none s ao cap _ (HT.out.alloc _) a0 a1 (HE.out.below ((Below.refl w.heap.size _).alloc (Nat.le_refl _) _) (Nat.le_refl _))).mono ?_
  rintro e w2 ⟨rfl, hb2⟩
  have q3 := box_cells hb2 3
  have q6 := box_cells hb2 6
  simp at q3 q6
  have hw2 := box_below hb2
  have hz2 := box_size hb2
  have ht2 := HT.out.below hw2 hbig
  clear hb2
  obtain ⟨rl, HRL⟩ : ∃ rl, Hid ((fmtOut s []).1 = rl) := ⟨_, rfl⟩
  obtain ⟨rc, HRC⟩ : ∃ rc, Hid ((fmtOut s []).2 = rc) := ⟨_, rfl⟩
  rw [HRL.out, HRC.out]
  go_wp2_with fail
  refine (refFormat_all_none s hs none 0 _ ht2).mono ?_
  rintro e w3 ⟨rfl, hb3⟩
  rw [HRL.out, HRC.out]
  have q6' : w3.cell? ⟨w.heap.size, 6, none⟩ = some (.slice ao 0 cap) := by rw [hb3.cell (p := ⟨w.heap.size, 6, none⟩) (show w.heap.size < _ by omega)]; exact q6
  have hw3 := hw2.trans (hb3.mono (by omega))
  clear hb3 q3 q6 ht2
  go_wp2_with fail
  refine (same_none ao cap none 0 _).mono ?_
  rintro e w4 ⟨rfl, rfl⟩
  go_wp2_with (go_at_call 10; refine (num_any _ _).mono ?_; rintro e w5 ⟨rfl, rfl⟩)
  go_ret
  exact ⟨rfl, hw3⟩
set_option maxRecDepth 100000 in
set_option maxHeartbeats 4000000 in
theorem plays_fmt_some (A B : Int) (s t u : ByteArray) (hs : s.size ≤ maxLen) (b off cap : Nat) (ss : List ByteArray) (hne : ss ≠ []) (hl : ss.length * 16 ≤ 140737488355328) (hss : ∀ x ∈ ss, x.size ≤ maxLen) (w : World) (hA : StrsAt w b off ss) (hB : b < w.heap.size) (ht : Tabs w) (a0 a1 : Addr) (hE : Errs w a0 a1) :
    Calls Tryz.prog 7 #[.agg #[.int .i64 3, .int .i64 A, .int .i64 B, .string s, .string t, .string u, .slice (some ⟨b, off, none⟩) ss.length cap]] w fun e w' => e = .returned (.bool true) ∧ Below w.heap.size w w' := by
  have HT := hide ht
  have HE := hide hE
  have hbig := ht.big
  have hlm : ss.length ≤ maxLen := by unfold maxLen; omega
  have hba : ∀ o, Below w.heap.size w (w.alloc o) := fun o => (Below.refl w.heap.size _).alloc (Nat.le_refl _) o
  have HBA := hide hba
  clear ht hE hba
  go_enter Tryz.func7, Tryz.ntmps7
  go_wp2_with fail
  refine (copied_any b off cap ss hl _ (hA.below (HBA.out _) hB) (by simp; omega)).mono ?_
  rintro e w1 ⟨v, rfl, hown, hb1⟩
  obtain ⟨g, cp, HV, HG, hgl⟩ : ∃ g cp, v = .slice (some ⟨g, 0, none⟩) ss.length cp ∧ Hid (StrsAt w1 g 0 ss) ∧ g < w1.heap.size := by
    rcases hown.2 with ⟨_, hn⟩ | ⟨g, cp, cur, hv, _, hg2, _, _, _, hg6⟩
    · exact absurd (List.eq_nil_of_length_eq_zero hn) hne
    · refine ⟨g, cp, hv, ?_, (Array.getElem?_eq_some_iff.1 hg2).1⟩
      intro i x hx
      have hil : i < ss.length := (List.getElem?_eq_some_iff.1 hx).1
      have h1 : cur[i]? = some (.string x) := by
        have h2 : (cur.toList.take (ss.length * 1))[i]? = (ss.map Value.string)[i]? := by rw [hg6]
        rw [List.getElem?_take_of_lt (by omega), Array.getElem?_toList, List.getElem?_map, hx] at h2
        exact h2
      simp [World.cell?, hg2, h1]
  rw [HV]
  have q3 := box_cells hb1 3
  have q6 := box_cells hb1 6
  simp at q3 q6
  have hw1 := box_below hb1
  have hz1 := box_size hb1
  clear hb1 hown HV
  have HA := hide hA
  clear hA
  go_wp2_with fail
  refine (format_all s b off cap ss _ (HT.out.below hw1 hbig) (HA.out.below hw1 hB) (by omega) a0 a1 (HE.out.below hw1 (Nat.le_refl _))).mono ?_
  rintro e w2 ⟨rfl, hb2⟩
  have r3 : w2.cell? ⟨w.heap.size, 3, none⟩ = some (.string s) := by rw [hb2.cell (p := ⟨w.heap.size, 3, none⟩) (show w.heap.size < _ by omega)]; exact q3
  have r6 : w2.cell? ⟨w.heap.size, 6, none⟩ = some (.slice (some ⟨b, off, none⟩) ss.length cap) := by rw [hb2.cell (p := ⟨w.heap.size, 6, none⟩) (show w.heap.size < _ by omega)]; exact q6
  have hw2 := hw1.trans (hb2.mono (by omega))
  have hz2 := hb2.size
  have HG2 := hide (HG.out.below hb2 hgl)
  clear hb2 q3 q6 hw1 HG
  obtain ⟨rl, HRL⟩ : ∃ rl, Hid ((fmtOut s ss).1 = rl) := ⟨_, rfl⟩
  obtain ⟨rc, HRC⟩ : ∃ rc, Hid ((fmtOut s ss).2 = rc) := ⟨_, rfl⟩
  rw [HRL.out, HRC.out]
  go_wp2_with fail
  refine (refFormat_all s hs g 0 cp ss hlm hss _ (HT.out.below hw2 hbig) HG2.out (by omega)).mono ?_
  rintro e w3 ⟨rfl, hb3⟩
  rw [HRL.out, HRC.out]
  have q6' : w3.cell? ⟨w.heap.size, 6, none⟩ = some (.slice (some ⟨b, off, none⟩) ss.length cap) := by rw [hb3.cell (p := ⟨w.heap.size, 6, none⟩) (show w.heap.size < _ by omega)]; exact r6
  have hw3 := hw2.trans (hb3.mono (by omega))
  have HG3 := hide (HG2.out.below hb3 (by omega))
  clear hb3 r3 r6 hw2 HG2
  go_wp2_with fail
  refine (same_any b off cap g 0 cp ss hlm _ (HA.out.below hw3 hB) HG3.out).mono ?_
  rintro e w4 ⟨rfl, n, rfl⟩
  have hw4 := below_drewN hw3 n
  go_wp2_with (go_at_call 10; refine (num_any _ _).mono ?_; rintro e w5 ⟨rfl, rfl⟩)
  go_ret
  exact ⟨rfl, hw4⟩
end Go.Proofs.YthhiofppbpgipaaGreatDoor
