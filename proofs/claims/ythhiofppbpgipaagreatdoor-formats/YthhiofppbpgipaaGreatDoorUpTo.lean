import Derived.Test.YthhiofppbpgipaaGreatDoorLawB
namespace Go.Proofs.YthhiofppbpgipaaGreatDoor
open Go.RowKit
/-- A step of a script, as it lies in memory. -/
def OpAt (w : World) (b o : Nat) : Prop := ∃ (K A B : Int) (s t u : ByteArray) (ao : Option Addr) (cap : Nat) (ss : List ByteArray),
  w.cell? ⟨b, o, none⟩ = some (.int .i64 K) ∧ w.cell? ⟨b, o + 1, none⟩ = some (.int .i64 A) ∧ w.cell? ⟨b, o + 2, none⟩ = some (.int .i64 B) ∧ w.cell? ⟨b, o + 3, none⟩ = some (.string s) ∧ w.cell? ⟨b, o + 4, none⟩ = some (.string t) ∧ w.cell? ⟨b, o + 5, none⟩ = some (.string u) ∧ w.cell? ⟨b, o + 6, none⟩ = some (.slice ao ss.length cap) ∧
  s.size ≤ maxLen ∧ (ss = [] ∨ ∃ b' o', ao = some ⟨b', o', none⟩ ∧ b' < w.heap.size ∧ StrsAt w b' o' ss) ∧ ss.length * 16 ≤ 140737488355328 ∧ ∀ x ∈ ss, x.size ≤ maxLen
theorem OpAt.below {w w' : World} {b o : Nat} (h : OpAt w b o) (hb : Below w.heap.size w w') (hB : b < w.heap.size) : OpAt w' b o := by
  obtain ⟨K, A, B, s, t, u, ao, cap, ss, h0, h1, h2, h3, h4, h5, h6, hs, hss, hl, hx⟩ := h
  refine ⟨K, A, B, s, t, u, ao, cap, ss, ?_, ?_, ?_, ?_, ?_, ?_, ?_, hs, ?_, hl, hx⟩
  · rw [hb.cell (p := ⟨b, o, none⟩) hB]; exact h0
  · rw [hb.cell (p := ⟨b, o + 1, none⟩) hB]; exact h1
  · rw [hb.cell (p := ⟨b, o + 2, none⟩) hB]; exact h2
  · rw [hb.cell (p := ⟨b, o + 3, none⟩) hB]; exact h3
  · rw [hb.cell (p := ⟨b, o + 4, none⟩) hB]; exact h4
  · rw [hb.cell (p := ⟨b, o + 5, none⟩) hB]; exact h5
  · rw [hb.cell (p := ⟨b, o + 6, none⟩) hB]; exact h6
  · rcases hss with rfl | ⟨b', o', rfl, hb', hS⟩
    · exact Or.inl rfl
    · exact Or.inr ⟨b', o', rfl, Nat.lt_of_lt_of_le hb' hb.size, hS.below hb hb'⟩
theorem plays_fmt (A B : Int) (s t u : ByteArray) (hs : s.size ≤ maxLen) (ao : Option Addr) (cap : Nat) (ss : List ByteArray) (w : World) (hss : ss = [] ∨ ∃ b' o', ao = some ⟨b', o', none⟩ ∧ b' < w.heap.size ∧ StrsAt w b' o' ss) (hl : ss.length * 16 ≤ 140737488355328) (hx : ∀ x ∈ ss, x.size ≤ maxLen) (ht : Tabs w) (a0 a1 : Addr) (hE : Errs w a0 a1) :
    Calls Tryz.prog 7 #[.agg #[.int .i64 3, .int .i64 A, .int .i64 B, .string s, .string t, .string u, .slice ao ss.length cap]] w fun e w' => e = .returned (.bool true) ∧ Below w.heap.size w w' := by
  by_cases hne : ss = []
  · subst hne; exact plays_fmt_none A B s t u hs ao cap w ht a0 a1 hE
  · rcases hss with h | ⟨b', o', rfl, hb', hS⟩
    · exact absurd h hne
    · exact plays_fmt_some A B s t u hs b' o' cap ss hne hl hx w hS hb' ht a0 a1 hE
set_option maxRecDepth 100000 in
set_option maxHeartbeats 4000000 in
theorem upto_fmt (b off n cap : Nat) (hn : n ≤ 140737488355328) (w : World) (hB : b < w.heap.size) (hO : ∀ i, i < n → OpAt w b (off + i * 7)) (ht : Tabs w) (a0 a1 : Addr) (hE : Errs w a0 a1) :
    Calls Tryz.prog 6 #[.slice (some ⟨b, off, none⟩) n cap, .int .i64 3, .int .i64 3] w fun e w' => e = .returned (.int .i64 (-1)) ∧ Below w.heap.size w w' := by
  have HT := hide ht
  have HE := hide hE
  have HOp := hide hO
  have hbig := ht.big
  clear ht hE hO
  go_enter Tryz.func6, Tryz.ntmps6
  go_wp2
  go_loopw [7] (fun i wr => ∃ k : Nat, k ≤ n ∧ i = .int .i64 k ∧ Below w.heap.size w wr) (fun i _ => n - (intOf i).toNat)
  case atStart => exact ⟨0, by omega, rfl, Below.refl _ _⟩
  case round =>
    obtain ⟨k, hk, rfl, hbw⟩ := hrel
    have hzw := hbw.size
    by_cases hlt : k < n
    · obtain ⟨K, A, B, s, t, u, ao, cp, ss, h0, h1, h2, h3, h4, h5, h6, hs, hss, hl, hx⟩ := (HOp.out k hlt).below hbw hB
      have hk60 : (k : Int) < 1152921504606846976 := by omega
      have HB := hide hbw
      have HS := hide hss
      have HX := hide hx
      clear hbw hss hx
      by_cases hK : K = 3
      · subst hK
        go_wp2_with fail
        refine (plays_fmt A B s t u hs ao cp ss _ ?hss hl HX.out ?ht a0 a1 ?hE).mono ?_
        case hss =>
          rcases HS.out with h | ⟨b', o', r, hb', hS⟩
          · exact Or.inl h
          · exact Or.inr ⟨b', o', r, by simp; omega, hS.below ((Below.refl wr.heap.size _).alloc (Nat.le_refl _) _) hb'⟩
        case ht => exact (HT.out.below HB.out hbig).alloc _
        case hE => exact (HE.out.below HB.out (Nat.le_refl _)).below ((Below.refl wr.heap.size _).alloc (Nat.le_refl _) _) (Nat.le_refl _)
        rintro e w1 ⟨rfl, hb1⟩
        have hw1 := HB.out.trans ((box_below hb1).mono hzw)
        clear hb1
        go_wp2
        go_roundw
        case rel => exact ⟨k + 1, by omega, by go_num, hw1⟩
        case measure => simp [intOf]; omega
      · by_cases hge : 3 ≤ K
        · have hle : ¬ K ≤ 3 := by omega
          clear hK
          go_wp2
          go_roundw
          case rel => exact ⟨k + 1, by omega, by go_num, HB.out.alloc hzw _⟩
          case measure => simp [intOf]; omega
        · clear hK
          go_wp2
          go_roundw
          case rel => exact ⟨k + 1, by omega, by go_num, HB.out.alloc hzw _⟩
          case measure => simp [intOf]; omega
    · go_wp2
      go_ret
      exact ⟨rfl, hbw⟩
set_option maxHeartbeats 1000000 in
theorem upto_none (lo hi : Int) (ao : Option Addr) (cap : Nat) (w : World) :
    Calls Tryz.prog 6 #[.slice ao 0 cap, .int .i64 lo, .int .i64 hi] w fun e w' => e = .returned (.int .i64 (-1)) ∧ w' = w := by
  go_enter Tryz.func6, Tryz.ntmps6
  go_wp2
  go_loop [7] (fun i => i = .int .i64 0) (fun _ => 0)
  case atStart => exact rfl
  case round =>
    subst hrel
    go_wp2
    go_ret
    exact ⟨rfl, rfl⟩
set_option maxHeartbeats 1000000 in
theorem formats_some (b off n cap : Nat) (hn : n ≤ 140737488355328) (w : World) (hB : b < w.heap.size) (hO : ∀ i, i < n → OpAt w b (off + i * 7)) (ht : Tabs w) (a0 a1 : Addr) (hE : Errs w a0 a1) :
    Calls Tryz.prog 5 #[.slice (some ⟨b, off, none⟩) n cap] w fun e w' => e = .returned (.bool true) ∧ Below w.heap.size w w' := by
  have HU := hide (upto_fmt b off n cap hn w hB hO ht a0 a1 hE)
  clear hO ht hE
  go_enter Tryz.func5, Tryz.ntmps5
  go_wp2_with (go_at_call 6; refine (HU.out).mono ?_; rintro e w' ⟨rfl, hb⟩)
  go_ret
  exact ⟨rfl, hb⟩
set_option maxHeartbeats 1000000 in
theorem formats_none (ao : Option Addr) (cap : Nat) (w : World) :
    Calls Tryz.prog 5 #[.slice ao 0 cap] w fun e w' => e = .returned (.bool true) ∧ Below w.heap.size w w' := by
  go_enter Tryz.func5, Tryz.ntmps5
  go_wp2_with (go_at_call 6; refine (upto_none 3 3 ao cap _).mono ?_; rintro e w' ⟨rfl, rfl⟩)
  go_ret
  exact ⟨rfl, Below.refl _ _⟩
end Go.Proofs.YthhiofppbpgipaaGreatDoor
