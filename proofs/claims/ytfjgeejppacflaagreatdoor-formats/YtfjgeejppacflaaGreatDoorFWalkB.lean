import Derived.Test.YtfjgeejppacflaaGreatDoorFWalk
import Derived.Deep.RegionWith
namespace Go.Proofs.YtfjgeejppacflaaGreatDoor
open Go.RowKit

def itemCells (L Z : Bool) (n : Int) (p : Bool) (q : Int) (c : Int) : Array Value := #[.bool L, .bool Z, .int .i64 n, .bool p, .int .i64 q, .int .u8 c]
theorem flagB_eq (c : UInt8) : flagB c = ((c.toNat : Int) == 45 || (c.toNat : Int) == 48) := rfl
set_option maxHeartbeats 1000000 in
theorem flags_any (W : World) (b : Nat) (hb : b = W.heap.size) (s : ByteArray) (k : Nat) (hs : s.size ≤ 65536) (hk : k ≤ s.size) :
    Calls Tryz.prog 109 #[.pointer (some ⟨b, 0, none⟩), .string s, .int .i64 k] (W.alloc (.cells #[.bool false, .bool false, .int .i64 0, .bool false, .int .i64 0, .int .u8 0] 160)) fun e w' =>
      e = .returned (.int .i64 (fE s.data.toList k)) ∧ w' = W.alloc (.cells #[.bool (itLeft s.data.toList k), .bool (itZero s.data.toList k), .int .i64 0, .bool false, .int .i64 0, .int .u8 0] 160) := by
  subst hb
  go_enter Tryz.func109, Tryz.ntmps109
  go_wp2
  go_loopw [2] (fun i wr => ∃ j : Nat, k ≤ j ∧ j ≤ s.size ∧ i = .int .i64 j ∧ wr = W.alloc (.cells #[.bool (hasIn 45 s.data.toList k j), .bool (hasIn 48 s.data.toList k j), .int .i64 0, .bool false, .int .i64 0, .int .u8 0] 160) ∧ runTo flagB s.data.toList j = runTo flagB s.data.toList k) (fun i _ => s.size - (intOf i).toNat)
  case atStart => exact ⟨k, by omega, hk, rfl, by rw [hasIn_self, hasIn_self], rfl⟩
  case round =>
    obtain ⟨j, hj0, hj, rfl, rfl, hr⟩ := hrel
    have HR : Hid (runTo flagB s.data.toList j = runTo flagB s.data.toList k) := hr
    clear hr
    by_cases hl : j < s.size
    · have HG : Hid (s.data.toList[j]? = some s[j]) := get_of_lt s j hl
      have HF := hide (flagB_eq s[j])
      have H5 := hide (hasIn_step 45 HG.out hj0)
      have H8 := hide (hasIn_step 48 HG.out hj0)
      cases h45 : ((s[j].toNat : Int) == 45)
      · cases h48 : ((s[j].toNat : Int) == 48)
        · have HE : Hid (fE s.data.toList k = j) := by
            show runTo flagB s.data.toList k = j
            rw [← HR.out, runTo_stop (fun c hc => ?_)]
            rw [HG.out] at hc; cases hc; rw [HF.out, h45, h48]; rfl
          go_wp2
          go_ret
          exact ⟨ret_int (by rw [HE.out]), by unfold itLeft itZero; rw [HE.out]⟩
        · go_wp2
          go_roundw
          case rel => exact ⟨j + 1, by omega, by omega, by go_num, by rw [H5.out, H8.out, h45, h48, Bool.or_false, Bool.or_true], by rw [runTo_step HG.out (by rw [HF.out, h45, h48]; rfl)]; exact HR.out⟩
          case measure => simp [intOf]; omega
      · have h48 : ((s[j].toNat : Int) == 48) = false := by
          rw [beq_iff_eq] at h45; rw [beq_eq_false_iff_ne]; omega
        go_wp2
        go_roundw
        case rel => exact ⟨j + 1, by omega, by omega, by go_num, by rw [H5.out, H8.out, h45, h48, Bool.or_false, Bool.or_true], by rw [runTo_step HG.out (by rw [HF.out, h45]; rfl)]; exact HR.out⟩
        case measure => simp [intOf]; omega
    · have HE : Hid (fE s.data.toList k = j) := by
        show runTo flagB s.data.toList k = j
        rw [← HR.out, runTo_stop (fun c hc => ?_)]
        rw [get_none s j (by omega)] at hc; cases hc
      go_wp2
      go_ret
      exact ⟨ret_int (by rw [HE.out]), by unfold itLeft itZero; rw [HE.out]⟩
set_option maxHeartbeats 1000000 in
theorem known_any (L Z : Bool) (n : Int) (p : Bool) (q : Int) (c : Int) (w : World) :
    Calls Tryz.prog 111 #[.agg #[.bool L, .bool Z, .int .i64 n, .bool p, .int .i64 q, .int .u8 c]] w fun e w' => e = .returned (.bool (knownB c p)) ∧ w' = w.alloc (.cells #[.bool L, .bool Z, .int .i64 n, .bool p, .int .i64 q, .int .u8 c] 160) := by
  have HK : Hid (knownB c p = (c == 115 || (!p && (c == 100 || c == 120 || c == 99)))) := rfl
  cases h1 : (c == 115)
  · cases h2 : (c == 100)
    · cases h3 : (c == 120)
      · cases h4 : (c == 99)
        all_goals
          go_enter Tryz.func111, Tryz.ntmps111
          go_wp2
          go_ret
          exact ⟨ret_bool (by rw [HK.out]; simp [*]), rfl⟩
      · go_enter Tryz.func111, Tryz.ntmps111
        go_wp2
        go_ret
        exact ⟨ret_bool (by rw [HK.out]; simp [*]), rfl⟩
    · go_enter Tryz.func111, Tryz.ntmps111
      go_wp2
      go_ret
      exact ⟨ret_bool (by rw [HK.out]; simp [*]), rfl⟩
  · go_enter Tryz.func111, Tryz.ntmps111
    go_wp2
    go_ret
    exact ⟨ret_bool (by rw [HK.out]; simp [*]), rfl⟩
end Go.Proofs.YtfjgeejppacflaaGreatDoor
