import Derived.Test.YthhiofppbpgipaaGreatDoorFWalkG
namespace Go.Proofs.YthhiofppbpgipaaGreatDoor
open Go.RowKit

set_option maxHeartbeats 8000000 in
theorem text_s (L Z : Bool) (n : Nat) (p : Bool) (q : Nat) (k m : Int) (s : ByteArray) (w : World) (hn : n ≤ 99) (hs : s.size ≤ 65536) (hq : q ≤ 99) (hk : (k == 1) = false) :
    Calls Tryz.prog 67 #[.agg #[.bool L, .bool Z, .int .i64 n, .bool p, .int .i64 q, .int .u8 115], .agg #[.int .i64 k, .int .i64 m, .string s]] w fun e w' =>
      e = .returned (.string ⟨(fillL L n (shortL p q s.data.toList)).toArray⟩) ∧ Below w.heap.size w w' := by
  have hl := shortL_len p q s.data.toList
  rw [len_eq] at hl
  go_enter Tryz.func67, Tryz.ntmps67
  go_wp2
  go_region_with (first
    | (go_at_call 130; refine (text_any k m s _ hk).mono ?_; rintro e w1 ⟨rfl, hb1⟩; obtain ⟨qa1, qb1, hz1, hw1⟩ := box2 hb1; clear hb1)
    | (go_at_call 129; refine (shorten_any L Z n p q 115 s _ hq hs).mono ?_; rintro e w2 ⟨rfl, hb2⟩; have qa2 := box_on qa1 hb2 (by omega); have qb2 := box_on qb1 hb2 (by omega); have hz2 := hb2.size; have hw2 := hw1.trans (hb2.mono (by omega)))
    | (go_at_call 127; refine (fill_any L Z n p q 115 _ _ hn (by rw [size_mk]; omega)).mono ?_; rintro e w3 ⟨rfl, hb3⟩; have hw3 := hw2.trans (hb3.mono (by omega))))
  all_goals
    go_wp2
    go_ret
    exact ⟨rfl, hw3⟩
end Go.Proofs.YthhiofppbpgipaaGreatDoor
