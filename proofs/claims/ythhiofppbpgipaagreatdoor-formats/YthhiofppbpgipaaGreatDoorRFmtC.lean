import Derived.Test.YthhiofppbpgipaaGreatDoorRFmtB
namespace Go.Proofs.YthhiofppbpgipaaGreatDoor
open Go.RowKit

set_option maxRecDepth 100000 in
set_option maxHeartbeats 2000000 in
theorem refFormat_arg (s : ByteArray) (hs : s.size ≤ 500) (b off cap : Nat) (ss : List ByteArray) (hl : ss.length ≤ 12) (m : Nat) (hm : m < ss.length) (hss : ∀ i x, i < m → ss[i]? = some x → x.size ≤ 500) (y : ByteArray) (hy : ss[m]? = some y) (hy5 : 500 < y.size) (hy6 : y.size ≤ maxLen) (w : World) (hA : StrsAt w b off ss) (hB : b < w.heap.size) :
    Calls Tryz.prog 16 #[.string s, .slice (some ⟨b, off, none⟩) ss.length cap] w fun e w' => e = .returned (.tuple #[.string ⟨#[]⟩, .int .i64 1]) ∧ Below w.heap.size w w' := by
  unfold maxLen at hy6
  obtain ⟨i0, hi, hz0, hz1, hz2⟩ := info_parts info84
  go_enter Tryz.func16, Tryz.ntmps16
  go_wp2
  go_loopw [6, 7] (fun v i wr => ∃ k : Nat, k ≤ m ∧ i = .int .i64 k ∧ wr.ownsRow w.heap.size 85 3 v k (refCells (ss.take k)) ∧ Below w.heap.size w wr) (fun _ i _ => ss.length - (intOf i).toNat)
  case atStart => exact ⟨0, by omega, rfl, World.ownsRow_nil _ _ _ _, Below.refl _ _⟩
  case round =>
    obtain ⟨k, hk, rfl, hown, hbw⟩ := hrel
    have hzw := hbw.size
    by_cases hlt : k < m
    · have hkl : k < ss.length := by omega
      obtain ⟨x, hx⟩ : ∃ x, ss[k]? = some x := ⟨ss[k], List.getElem?_eq_getElem hkl⟩
      have hx5 : x.size ≤ 500 := hss k x hlt hx
      have c0 : wr.cell? ⟨b, off + k, none⟩ = some (.string x) := by rw [hbw.cell (p := ⟨b, off + k, none⟩) hB]; exact hA k x hx
      have HX := hide hx
      have HO := hide hown
      have HB := hide hbw
      clear hx hown hbw
      go_wp2_with fail
      refine (refRead_any x _ (by unfold maxLen; omega)).mono ?_
      rintro e w1 ⟨rfl, hb1⟩
      have hz1' := hb1.size
      have hown1 := ownsRow_below HO.out hb1
      have hb1' := HB.out.trans (hb1.mono hzw)
      have HO1 := hide hown1
      have HB1 := hide hb1'
      clear hown1 hb1' hb1 HO HB
      obtain ⟨rk, HRK⟩ : ∃ rk, Hid (refKind (some x.data.toList) = rk) := ⟨_, rfl⟩
      obtain ⟨rn, HRN⟩ : ∃ rn, Hid (codeNum (some x.data.toList) = rn) := ⟨_, rfl⟩
      rw [HRK.out, HRN.out]
      have HS : Hid (refCells (ss.take (k + 1)) = refCells (ss.take k) ++ [.int .u8 rk, .int .i64 rn, .string x]) := by
        show refCells (ss.take (k + 1)) = refCells (ss.take k) ++ [.int .u8 rk, .int .i64 rn, .string x]
        rw [List.take_add_one, HX.out, Option.toList_some, refCells_snoc]
        unfold refCell; rw [HRK.out, HRN.out]
      go_wp2_with (at_builtin; refine wpList_append_own _ rfl _ _ 83 rfl w.heap.size 85 i0 (.agg #[.int .u8 0, .int .i64 0, .string ⟨#[]⟩]) 3 32 Tryz.underlying83 hi hz0 hz1 hz2 rfl (by decide) _ _ _ rfl ((HO1.out.alloc _).alloc _) ⟨w1.heap.size + 1, 0, none⟩ 1 1 [.int .u8 rk, .int .i64 rn, .string x] rfl rfl ?c1 ?c2 ?c3 ?c4 ?c5 ?_)
      case c1 =>
        intro j u hj
        match j, hj with
        | 0, hj => simp at hj; subst hj; simp [Addr.add]
        | 1, hj => simp at hj; subst hj; simp [Addr.add]
        | 2, hj => simp at hj; subst hj; simp [Addr.add]
        | (j + 3), hj => simp at hj
      case c2 => intro u hu; simp at hu; rcases hu with rfl | rfl | rfl <;> rfl
      case c3 => unfold maxLen; omega
      case c4 => omega
      case c5 => simp; omega
      intro v' w2 hown' hgrow _
      have R1 : Hid (w2.ownsRow w.heap.size 85 3 v' (k + 1) (refCells (ss.take (k + 1)))) := by rw [HS.out]; exact hown'
      have R2 : Hid (Below w.heap.size w w2) := ((HB1.out.alloc (by omega) _).alloc (by simp; omega) _).grown hgrow (by simp; omega) (fun g hg => ((HO1.out).lt g hg).1)
      clear hown' hgrow
      go_wp2
      go_roundw
      case rel => exact ⟨k + 1, by omega, by go_num, R1.out, R2.out⟩
      case measure => simp [intOf]; omega
    · have hkk : k = m := by omega
      subst hkk
      have c0 : wr.cell? ⟨b, off + k, none⟩ = some (.string y) := by rw [hbw.cell (p := ⟨b, off + k, none⟩) hB]; exact hA k y hy
      have HB := hide hbw
      clear hown hbw
      go_wp2
      go_ret2
      exact ⟨rfl, HB.out⟩

set_option maxHeartbeats 1000000 in
theorem refFormat_long (s : ByteArray) (hs : 500 < s.size) (hs2 : s.size ≤ maxLen) (ao : Option Addr) (n cap : Nat) (w : World) :
    Calls Tryz.prog 16 #[.string s, .slice ao n cap] w fun e w' => e = .returned (.tuple #[.string ⟨#[]⟩, .int .i64 1]) ∧ Below w.heap.size w w' := by
  unfold maxLen at hs2
  go_enter Tryz.func16, Tryz.ntmps16
  go_wp2
  go_ret2
  exact ⟨rfl, Below.refl _ _⟩
set_option maxHeartbeats 1000000 in
theorem refFormat_many (s : ByteArray) (hs : s.size ≤ 500) (ao : Option Addr) (n cap : Nat) (hn : 12 < n) (hn2 : n ≤ maxLen) (w : World) :
    Calls Tryz.prog 16 #[.string s, .slice ao n cap] w fun e w' => e = .returned (.tuple #[.string ⟨#[]⟩, .int .i64 1]) ∧ Below w.heap.size w w' := by
  unfold maxLen at hn2
  go_enter Tryz.func16, Tryz.ntmps16
  go_wp2
  go_ret2
  exact ⟨rfl, Below.refl _ _⟩
set_option maxHeartbeats 1000000 in
theorem refFormat_none (s : ByteArray) (hs : s.size ≤ 500) (ao : Option Addr) (cap : Nat) (w : World) (ht : Tabs w) (rl : List UInt8) (rc : Nat) (hR : fmtRun s.data.toList s.size 0 [] [] = (rl, rc)) :
    Calls Tryz.prog 16 #[.string s, .slice ao 0 cap] w fun e w' => e = .returned (.tuple #[.string ⟨rl.toArray⟩, .int .i64 rc]) ∧ Below w.heap.size w w' := by
  have HR := hide hR
  have HT := hide ht
  clear hR ht
  go_enter Tryz.func16, Tryz.ntmps16
  go_wp2
  go_loop [6, 7] (fun v i => v = .slice none 0 0 ∧ i = .int .i64 0) (fun _ _ => 0)
  case atStart => exact ⟨rfl, rfl⟩
  case round =>
    obtain ⟨rfl, rfl⟩ := hrel
    go_wp2_with fail
    refine (formatted_none s hs _ HT.out rl rc HR.out).mono ?_
    rintro e w1 ⟨rfl, hb1⟩
    go_wp2
    go_ret2
    exact ⟨rfl, hb1⟩
end Go.Proofs.YthhiofppbpgipaaGreatDoor
