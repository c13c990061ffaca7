import Derived.Test.YthhiofppbpgipaaGreatDoorFmtB
namespace Go.Proofs.YthhiofppbpgipaaGreatDoor
open Go.RowKit
set_option maxHeartbeats 1000000 in
theorem format_long (s : ByteArray) (hs : 500 < s.size) (ao : Option Addr) (n cap : Nat) (w : World) :
    Calls Tryz.prog 15 #[.string s, .slice ao n cap] w fun e w' => e = .returned (.tuple #[.string ⟨#[]⟩, .int .i64 1]) ∧ Below w.heap.size w w' := by
  have h1 : decide (500 < (s.size : Int)) = true := by simp; omega
  go_enter Tryz.func15, Tryz.ntmps15
  go_wp2_with (go_at_call 22; refine (isLong_any _ _).mono ?_; rintro e w1 ⟨rfl, rfl⟩; rw [h1])
  go_ret2
  exact ⟨rfl, Below.refl _ _⟩
set_option maxHeartbeats 1000000 in
theorem format_many (s : ByteArray) (hs : s.size ≤ 500) (ao : Option Addr) (n cap : Nat) (hn : 12 < n) (w : World) :
    Calls Tryz.prog 15 #[.string s, .slice ao n cap] w fun e w' => e = .returned (.tuple #[.string ⟨#[]⟩, .int .i64 1]) ∧ Below w.heap.size w w' := by
  have h1 : decide (500 < (s.size : Int)) = false := by simp; omega
  have h2 : decide (12 < (n : Int)) = true := by simp; omega
  go_enter Tryz.func15, Tryz.ntmps15
  go_wp2_with (go_at_call 22; refine (isLong_any _ _).mono ?_; rintro e w1 ⟨rfl, rfl⟩; rw [h1])
  go_ret2
  exact ⟨rfl, Below.refl _ _⟩
set_option maxHeartbeats 1000000 in
theorem format_arg (s : ByteArray) (hs : s.size ≤ 500) (b off cap : Nat) (ss : List ByteArray) (hl : ss.length ≤ 12) (m : Nat) (hm : m < ss.length) (hss : ∀ i x, i < m → ss[i]? = some x → x.size ≤ 500) (y : ByteArray) (hy : ss[m]? = some y) (hy5 : 500 < y.size) (w : World) (hA : StrsAt w b off ss) :
    Calls Tryz.prog 15 #[.string s, .slice (some ⟨b, off, none⟩) ss.length cap] w fun e w' => e = .returned (.tuple #[.string ⟨#[]⟩, .int .i64 1]) ∧ Below w.heap.size w w' := by
  have h1 : decide (500 < (s.size : Int)) = false := by simp; omega
  have h2 : decide (12 < (ss.length : Int)) = false := by simp; omega
  have HC := hide (contains_yes b off cap ss hl m hm hss y hy hy5 w hA)
  clear hy hss
  go_enter Tryz.func15, Tryz.ntmps15
  go_wp2_with fail
  refine (isLong_any _ _).mono ?_
  rintro e w1 ⟨rfl, rfl⟩
  rw [h1]
  go_wp2_with fail
  refine (HC.out).mono ?_
  rintro e w2 ⟨rfl, rfl⟩
  go_wp2
  go_ret2
  exact ⟨rfl, Below.refl _ _⟩
set_option maxRecDepth 100000 in
set_option maxHeartbeats 4000000 in
theorem format_none (s : ByteArray) (hs : s.size ≤ 500) (ao : Option Addr) (cap : Nat) (w : World) (ht : Tabs w) (a0 a1 : Addr) (hE : Errs w a0 a1)
    (rl : List UInt8) (rc : Nat) (hR : fmtRun s.data.toList s.size 0 [] [] = (rl, rc)) :
    Calls Tryz.prog 15 #[.string s, .slice ao 0 cap] w fun e w' => e = .returned (.tuple #[.string ⟨rl.toArray⟩, .int .i64 rc]) ∧ Below w.heap.size w w' := by
  obtain ⟨i0, hi, hz0, hz1, hz2⟩ := info_parts info75
  have h1 : decide (500 < (s.size : Int)) = false := by simp; omega
  have HR := hide hR
  have HT := hide ht
  have HER := hide hE
  have hbig := ht.big
  have hcod := fmtRun_codes s.data.toList s.size 0 [] []
  rw [hR] at hcod
  have HCod := hide hcod
  have hemp := fmtRun_empty s.data.toList s.size 0 [] []
  rw [hR] at hemp
  have HEmp := hide hemp
  clear hR ht hE hcod hemp
  go_enter Tryz.func15, Tryz.ntmps15
  go_wp2_with fail
  refine (isLong_any _ _).mono ?_
  rintro e w1 ⟨rfl, rfl⟩
  rw [h1]
  go_wp2_with fail
  refine (contains_none ao cap _).mono ?_
  rintro e w2 ⟨rfl, rfl⟩
  go_wp2_with (at_make; refine wpList_make_full _ rfl (.tmp 23) (.tmp 23) 73 rfl w2.heap.size 76 i0 (.agg #[.int .i64 0, .int .i64 0, .string ⟨#[]⟩]) 3 Tryz.underlying73 hi hz0 hz1 .i64 .i64 _ _ 0 rfl rfl rfl rfl (by rw [hz2]; omega) (by unfold maxLen; omega) (Nat.le_refl _) ?_)
  intro w3 hown hgrow
  have hb3 : Below w2.heap.size w2 w3 := (Below.refl _ _).grown hgrow (Nat.le_refl _) (fun k hk => by cases hk)
  have hzw := hb3.size
  clear hown hgrow
  go_wp2
  go_loop [7, 8, 27] (fun _ _ c => c = .int .i64 0) (fun _ _ _ => 0)
  case atStart => exact rfl
  case round =>
      subst hrel
      have her := HER.out.below hb3 (Nat.le_refl _)
      have HMk := hide (make_any s hs 0 (some ⟨w2.heap.size, 0, none⟩) 0 0 [] w3 (HT.out.below hb3 hbig) (by omega) (by simp) (fun h => absurd rfl h) (fun i a ha => by simp at ha) (fun a ha => by simp at ha) a0 a1 her.e0 her.e1 rl rc HR.out)
      have HB := hide hb3
      have HE2 := hide her
      clear hb3 her
      go_wp2_with fail
      refine (HMk.out).mono ?_
      rintro e w4 ⟨rfl, hb4⟩
      have her4 := HE2.out.below hb4 (Nat.le_refl _)
      have hb4' := HB.out.trans (hb4.mono hzw)
      have e0 := her4.e0
      have e1 := her4.e1
      have HE4 := hide her4
      clear hb4 her4 HMk
      have HErr := hide (errno_any rc HCod.out a0 a1 w4 HE4.out)
      generalize errVal rc a0 a1 = ev at HErr ⊢
      go_wp2_with fail
      refine HErr.out.mono ?_
      rintro e w5 ⟨rfl, rfl⟩
      go_wp2
      go_ret2
      exact ⟨rfl, hb4'⟩
end Go.Proofs.YthhiofppbpgipaaGreatDoor
