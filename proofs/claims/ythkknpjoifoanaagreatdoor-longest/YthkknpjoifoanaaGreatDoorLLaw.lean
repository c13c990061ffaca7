import Derived.Test.YthkknpjoifoanaaGreatDoorQ35
import Derived.Test.YthkknpjoifoanaaGreatDoorLWalk
namespace Go.Proofs.YthkknpjoifoanaaGreatDoor
open Go.RowKit
set_option maxRecDepth 100000 in
set_option maxHeartbeats 4000000 in
theorem longestL_some (b off n cap : Nat) (hn : n ≤ 140737488355328) (w : World) (hB : b < w.heap.size) (hO : ∀ i, i < n → OpM w b (off + i * 7)) (hse : Sent w) :
    Calls Tryz.prog 3 #[.slice (some ⟨b, off, none⟩) n cap] w fun e w' => e = .returned (.bool true) ∧ Below w.heap.size w w' := by
  have HOp := hide hO
  have HSe := hide hse
  clear hO hse
  go_enter Tryz.func3, Tryz.ntmps3
  go_wp2
  go_loopw [3] (fun i wr => ∃ k : Nat, k ≤ n ∧ i = .int .i64 k ∧ Below w.heap.size w wr) (fun i _ => n - (intOf i).toNat)
  case atStart => exact ⟨0, by omega, rfl, Below.refl _ _⟩
  case round =>
    obtain ⟨k, hk, rfl, hbw⟩ := hrel
    have hzw := hbw.size
    by_cases hlt : k < n
    · obtain ⟨K, A, B, s, t, u, ao, nn, cp, h0, h1, h2, h3, h4, h5, h6⟩ := (HOp.out k hlt).below hbw hB
      have hk60 : (k : Int) < 1152921504606846976 := by omega
      have HB := hide hbw
      clear hbw
      by_cases ht : t.size ≤ 24
      · have ht' : (t.size : Int) ≤ 24 := by omega
        go_wp2_with fail
        refine (longest_any K A B s t u ht ao nn cp _).mono ?_
        rintro e w1 ⟨rfl, hb1⟩
        have hw1 := HB.out.trans (hb1.mono hzw)
        clear hb1
        go_wp2
        go_roundw
        case rel => exact ⟨k + 1, by omega, by go_num, hw1⟩
        case measure => simp [intOf]; omega
      · have ht' : ¬ (t.size : Int) ≤ 24 := by omega
        go_wp2
        go_roundw
        case rel => exact ⟨k + 1, by omega, by go_num, HB.out⟩
        case measure => simp [intOf]; omega
    · have HAl := hide (alive_below HSe.out hbw)
      clear hbw
      go_wp2_with (go_at_call 6; refine (HAl.out).mono ?_; rintro e w' ⟨rfl, hb⟩)
      go_ret
      exact ⟨rfl, hb⟩
set_option maxHeartbeats 1000000 in
theorem longestL_none (ao : Option Addr) (cap : Nat) (w : World) (hse : Sent w) :
    Calls Tryz.prog 3 #[.slice ao 0 cap] w fun e w' => e = .returned (.bool true) ∧ Below w.heap.size w w' := by
  have HAl := hide (alive_below hse (Below.refl _ w))
  clear hse
  go_enter Tryz.func3, Tryz.ntmps3
  go_wp2
  go_loop [3] (fun i => i = .int .i64 0) (fun _ => 0)
  case atStart => exact rfl
  case round =>
    subst hrel
    go_wp2_with (go_at_call 6; refine (HAl.out).mono ?_; rintro e w' ⟨rfl, hb⟩)
    go_ret
    exact ⟨rfl, hb⟩
end Go.Proofs.YthkknpjoifoanaaGreatDoor
