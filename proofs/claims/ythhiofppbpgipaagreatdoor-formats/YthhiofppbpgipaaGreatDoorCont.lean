import Derived.Test.YthhiofppbpgipaaGreatDoorRFmtB
namespace Go.Proofs.YthhiofppbpgipaaGreatDoor
open Go.RowKit
set_option maxHeartbeats 1000000 in
theorem isLong_any (s : ByteArray) (w : World) :
    Calls Tryz.prog 22 #[.string s] w fun e w' => e = .returned (.bool (decide (500 < (s.size : Int)))) ∧ w' = w := by
  go_enter Tryz.func22, Tryz.ntmps22
  go_wp2
  go_ret
  exact ⟨rfl, rfl⟩
set_option maxHeartbeats 1000000 in
theorem indexFunc_no (b off cap : Nat) (ss : List ByteArray) (hl : ss.length ≤ 12) (hss : ∀ x ∈ ss, x.size ≤ 500) (w : World) (hA : StrsAt w b off ss) :
    Calls Tryz.prog 62 #[.slice (some ⟨b, off, none⟩) ss.length cap, .func (Fn.func 22) #[] #[]] w fun e w' => e = .returned (.int .i64 (-1)) ∧ w' = w := by
  go_enter Tryz.func62, Tryz.ntmps62
  go_wp2
  go_loop [5, 8] (fun _ c => ∃ k : Nat, k ≤ ss.length ∧ c = .int .i64 k) (fun _ c => ss.length - (intOf c).toNat)
  case atStart => exact ⟨0, by omega, rfl⟩
  case round =>
    obtain ⟨k, hk, rfl⟩ := hrel
    by_cases hlt : k < ss.length
    · obtain ⟨x, hx⟩ : ∃ x, ss[k]? = some x := ⟨ss[k], List.getElem?_eq_getElem hlt⟩
      have hx5 : x.size ≤ 500 := hss x (List.mem_of_getElem? hx)
      have c0 : w.cell? ⟨b, off + k, none⟩ = some (.string x) := hA k x hx
      have hd : decide (500 < (x.size : Int)) = false := by simp; omega
      clear hx
      go_wp2_with (go_at_call 22; refine (isLong_any _ _).mono ?_; rintro e w' ⟨rfl, rfl⟩; rw [hd])
      go_round
      case rel => exact ⟨k + 1, by omega, by go_num⟩
      case measure => simp [intOf]; omega
    · go_wp2
      go_ret
      exact ⟨rfl, rfl⟩
set_option maxHeartbeats 1000000 in
theorem indexFunc_yes (b off cap : Nat) (ss : List ByteArray) (hl : ss.length ≤ 12) (m : Nat) (hm : m < ss.length) (hss : ∀ i x, i < m → ss[i]? = some x → x.size ≤ 500) (y : ByteArray) (hy : ss[m]? = some y) (hy5 : 500 < y.size) (w : World) (hA : StrsAt w b off ss) :
    Calls Tryz.prog 62 #[.slice (some ⟨b, off, none⟩) ss.length cap, .func (Fn.func 22) #[] #[]] w fun e w' => e = .returned (.int .i64 m) ∧ w' = w := by
  go_enter Tryz.func62, Tryz.ntmps62
  go_wp2
  go_loop [5, 8] (fun _ c => ∃ k : Nat, k ≤ m ∧ c = .int .i64 k) (fun _ c => ss.length - (intOf c).toNat)
  case atStart => exact ⟨0, by omega, rfl⟩
  case round =>
    obtain ⟨k, hk, rfl⟩ := hrel
    by_cases hlt : k < m
    · have hkl : k < ss.length := by omega
      obtain ⟨x, hx⟩ : ∃ x, ss[k]? = some x := ⟨ss[k], List.getElem?_eq_getElem hkl⟩
      have hx5 : x.size ≤ 500 := hss k x hlt hx
      have c0 : w.cell? ⟨b, off + k, none⟩ = some (.string x) := hA k x hx
      have hd : decide (500 < (x.size : Int)) = false := by simp; omega
      clear hx hy
      go_wp2_with (go_at_call 22; refine (isLong_any _ _).mono ?_; rintro e w' ⟨rfl, rfl⟩; rw [hd])
      go_round
      case rel => exact ⟨k + 1, by omega, by go_num⟩
      case measure => simp [intOf]; omega
    · have hkk : k = m := by omega
      subst hkk
      have c0 : w.cell? ⟨b, off + k, none⟩ = some (.string y) := hA k y hy
      have hd : decide (500 < (y.size : Int)) = true := by simp; omega
      clear hy
      go_wp2_with (go_at_call 22; refine (isLong_any _ _).mono ?_; rintro e w' ⟨rfl, rfl⟩; rw [hd])
      go_ret
      exact ⟨rfl, rfl⟩
set_option maxHeartbeats 1000000 in
theorem indexFunc_none (ao : Option Addr) (cap : Nat) (w : World) :
    Calls Tryz.prog 62 #[.slice ao 0 cap, .func (Fn.func 22) #[] #[]] w fun e w' => e = .returned (.int .i64 (-1)) ∧ w' = w := by
  go_enter Tryz.func62, Tryz.ntmps62
  go_wp2
  go_loop [5, 8] (fun _ c => c = .int .i64 0) (fun _ _ => 0)
  case atStart => exact rfl
  case round =>
    subst hrel
    go_wp2
    go_ret
    exact ⟨rfl, rfl⟩
set_option maxHeartbeats 1000000 in
theorem contains_no (b off cap : Nat) (ss : List ByteArray) (hl : ss.length ≤ 12) (hss : ∀ x ∈ ss, x.size ≤ 500) (w : World) (hA : StrsAt w b off ss) :
    Calls Tryz.prog 29 #[.slice (some ⟨b, off, none⟩) ss.length cap, .func (Fn.func 22) #[] #[]] w fun e w' => e = .returned (.bool false) ∧ w' = w := by
  go_enter Tryz.func29, Tryz.ntmps29
  go_wp2_with (go_at_call 62; refine (indexFunc_no b off cap ss hl hss _ hA).mono ?_; rintro e w' ⟨rfl, rfl⟩)
  go_ret
  exact ⟨rfl, rfl⟩
set_option maxHeartbeats 1000000 in
theorem contains_yes (b off cap : Nat) (ss : List ByteArray) (hl : ss.length ≤ 12) (m : Nat) (hm : m < ss.length) (hss : ∀ i x, i < m → ss[i]? = some x → x.size ≤ 500) (y : ByteArray) (hy : ss[m]? = some y) (hy5 : 500 < y.size) (w : World) (hA : StrsAt w b off ss) :
    Calls Tryz.prog 29 #[.slice (some ⟨b, off, none⟩) ss.length cap, .func (Fn.func 22) #[] #[]] w fun e w' => e = .returned (.bool true) ∧ w' = w := by
  have hm0 : (0 : Int) ≤ m := by omega
  go_enter Tryz.func29, Tryz.ntmps29
  go_wp2_with (go_at_call 62; refine (indexFunc_yes b off cap ss hl m hm hss y hy hy5 _ hA).mono ?_; rintro e w' ⟨rfl, rfl⟩)
  go_ret
  exact ⟨by simp, rfl⟩
set_option maxHeartbeats 1000000 in
theorem contains_none (ao : Option Addr) (cap : Nat) (w : World) :
    Calls Tryz.prog 29 #[.slice ao 0 cap, .func (Fn.func 22) #[] #[]] w fun e w' => e = .returned (.bool false) ∧ w' = w := by
  go_enter Tryz.func29, Tryz.ntmps29
  go_wp2_with (go_at_call 62; refine (indexFunc_none ao cap _).mono ?_; rintro e w' ⟨rfl, rfl⟩)
  go_ret
  exact ⟨rfl, rfl⟩
end Go.Proofs.YthhiofppbpgipaaGreatDoor
