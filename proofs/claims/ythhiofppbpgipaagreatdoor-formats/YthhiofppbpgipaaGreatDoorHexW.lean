import Derived.Test.YthhiofppbpgipaaGreatDoorFWalkF
import Derived.Test.YthhiofppbpgipaaGreatDoorHexP
namespace Go.Proofs.YthhiofppbpgipaaGreatDoor
open Go.RowKit

theorem tzNum : IntKind.u64.wrap (bits BinOp.and IntKind.u64 16 (IntKind.u64.wrap (-16)) * 285870213051353865) / 288230376151711744 = 15 := by kernel_rfl
set_option maxHeartbeats 1000000 in
theorem tz16 (w : World) (h15 : w.cell? ⟨13, 15, none⟩ = some (.int .u8 4)) :
    Calls Tryz.prog 422 #[.int .u64 16] w fun e w' => e = .returned (.int .i64 4) ∧ w' = w := by
  have hx := tzNum
  go_enter Tryz.func422, Tryz.ntmps422
  go_wp2
  go_ret
  exact ⟨rfl, rfl⟩
set_option maxHeartbeats 1000000 in
theorem tzu16 (w : World) (h15 : w.cell? ⟨13, 15, none⟩ = some (.int .u8 4)) :
    Calls Tryz.prog 339 #[.int .u64 16] w fun e w' => e = .returned (.int .i64 4) ∧ w' = w := by
  go_enter Tryz.func339, Tryz.ntmps339
  go_wp2_with (go_at_call 422; refine (tz16 _ h15).mono ?_; rintro e w' ⟨rfl, rfl⟩)
  go_ret
  exact ⟨rfl, rfl⟩
set_option maxHeartbeats 1000000 in
theorem pow16 (w : World) :
    Calls Tryz.prog 338 #[.int .i64 16] w fun e w' => e = .returned (.bool true) ∧ w' = w := by
  go_enter Tryz.func338, Tryz.ntmps338
  go_wp2
  go_ret
  exact ⟨rfl, rfl⟩
theorem zero308 : Tryz.zeroCells500.size = 65 := by kernel_rfl
theorem and15 (v : Nat) (h : v < 18446744073709551616) : bits BinOp.and IntKind.u64 (v : Int) 15 = ((v % 16 : Nat) : Int) := by
  have := bits_and_u64_nat v 15 (by omega) (by omega)
  refine this.trans ?_
  rw [show v &&& 15 = v % 16 from Nat.and_two_pow_sub_one_eq_mod v 4]
theorem hx_at : ∀ d : Fin 16, (⟨#[48, 49, 50, 51, 52, 53, 54, 55, 56, 57, 97, 98, 99, 100, 101, 102, 103, 104, 105, 106, 107, 108, 109, 110, 111, 112, 113, 114, 115, 116, 117, 118, 119, 120, 121, 122]⟩ : ByteArray)[d.val]'(Nat.lt_trans d.isLt (by decide)) = hx d.val := by decide +kernel
theorem hx_get (d : Nat) (h : d < 16) (h' : d < (⟨#[48, 49, 50, 51, 52, 53, 54, 55, 56, 57, 97, 98, 99, 100, 101, 102, 103, 104, 105, 106, 107, 108, 109, 110, 111, 112, 113, 114, 115, 116, 117, 118, 119, 120, 121, 122]⟩ : ByteArray).size) : (⟨#[48, 49, 50, 51, 52, 53, 54, 55, 56, 57, 97, 98, 99, 100, 101, 102, 103, 104, 105, 106, 107, 108, 109, 110, 111, 112, 113, 114, 115, 116, 117, 118, 119, 120, 121, 122]⟩ : ByteArray)[d] = hx d := hx_at ⟨d, h⟩
theorem some_at {cur : Array Value} {j : Nat} (h : cur.size = 65) (hj : j < 65) : ∃ x, cur[j]? = some x := ⟨cur[j]'(by omega), Array.getElem?_eq_getElem (by omega)⟩
theorem arr308 : Tryz.prog.arrayLen 500 = 65 := by simp [Program.arrayLen, Tryz.underlying500]
theorem cut308 (b : Nat) (k : Nat) (hk : 1 ≤ k) (hk2 : k ≤ 65) (W : World) : (Instr.sliceAt 500 (.pointer (some ⟨b, 0, none⟩)) (some (.int .i64 ((k : Int) - 1))) none none).run Tryz.prog W = .ok (.slice (some ⟨b, k - 1, none⟩) (66 - k) (66 - k)) W := by
  rw [run_sliceAt_array_l W 500 ⟨b, 0, none⟩ (by simp [Program.arrayLen, Program.elem, Tryz.underlying500]) .i64 ((k : Int) - 1) (by omega) (by rw [arr308]; omega), arr308]
  go_simp
  omega
theorem hexConv (w : World) (u m k v : Nat) (cur : Array Value) (hm : m ≤ 15) (hk : k + m = 65) (hv : v = u / 16 ^ m) (h16 : v < 16) (hlow : m = 0 ∨ 16 ≤ u / 16 ^ (m - 1)) (hcur : cur.size = 65)
    (hdig : ∀ r, r < m → cur[64 - r]? = some (.int .u8 (hx (u / 16 ^ r % 16)).toNat)) :
    (convert 166 9 (.slice (some ⟨w.heap.size, k - 1, none⟩) (66 - k) (66 - k))).run Tryz.prog (w.alloc (.cells (cur.setIfInBounds (k - 1) (.int .u8 (hx v).toNat)) 500)) =
      .ok (.string ⟨(hexL u).toArray⟩) (w.alloc (.cells (cur.setIfInBounds (k - 1) (.int .u8 (hx v).toNat)) 500)) := by
  have hM : hexM u = m := hexM_eq m u hm (by rw [← hv]; exact h16) hlow
  have hl : (hexL u).length = 66 - k := by unfold hexL; rw [hexFrom_length, hM]; omega
  rw [run_convert_bytes_arg _ 166 5 Tryz.underlying166 Tryz.underlying5 w.heap.size (k - 1) (66 - k) (66 - k) ((hexL u).map fun b => (b.toNat : Int)) (by rw [List.length_map, hl]) ?_ 9 Tryz.underlying9]
  · congr 2
    unfold strOfNums
    simp [Function.comp_def]
  · intro i hi
    rw [World.cell?_alloc_at _ _ _ _ rfl]
    have hg : (hexL u)[i]? = some (hx (u / 16 ^ (m - i) % 16)) := by
      unfold hexL; rw [hM, hexFrom_get u (m + 1) i (by omega)]; congr 5
    have hr : ((hexL u).map fun b => (b.toNat : Int)).getD i 0 = ((hx (u / 16 ^ (m - i) % 16)).toNat : Int) := by
      rw [List.getD_eq_getElem?_getD, List.getElem?_map, hg]; rfl
    rw [hr]
    by_cases h0 : i = 0
    · subst h0
      rw [Nat.add_zero, Array.getElem?_setIfInBounds_self_of_lt (by omega), Nat.sub_zero, ← hv, Nat.mod_eq_of_lt h16]
    · rw [Array.getElem?_setIfInBounds_ne (by omega), show k - 1 + i = 64 - (m - i) by omega, hdig (m - i) (by omega)]
set_option maxRecDepth 100000 in
set_option maxHeartbeats 1000000 in
theorem bits16 (u : Nat) (hu : u < 18446744073709551616) (w : World) (h15 : w.cell? ⟨13, 15, none⟩ = some (.int .u8 4)) (h7 : 13 < w.heap.size) :
    Calls Tryz.prog 267 #[.slice none 0 0, .int .u64 u, .int .i64 16, .bool false, .bool false] w fun e w' => e = .returned (.tuple #[.slice none 0 0, .string ⟨(hexL u).toArray⟩]) ∧ Below w.heap.size w w' := by
  go_enter Tryz.func267, Tryz.ntmps267
  go_wp2_with (first | (go_at_call 338; refine (pow16 _).mono ?_; rintro e w' ⟨rfl, rfl⟩) | (go_at_call 339; refine (tzu16 _ (by rw [World.cell?_alloc_past _ _ _ h7]; exact h15)).mono ?_; rintro e w' ⟨rfl, rfl⟩))
  go_loopw [1, 13] (fun t i wr => ∃ (m v k : Nat) (cur : Array Value), m ≤ 15 ∧ k + m = 65 ∧ v = u / 16 ^ m ∧ (m = 0 ∨ 16 ≤ u / 16 ^ (m - 1)) ∧ t = .int .u64 v ∧ i = .int .i64 k ∧ wr = w.alloc (.cells cur 500) ∧ cur.size = 65 ∧ ∀ r, r < m → cur[64 - r]? = some (.int .u8 (hx (u / 16 ^ r % 16)).toNat)) (fun t _ _ => (intOf t).toNat)
  case atStart => exact ⟨0, u, 65, Tryz.zeroCells500, by omega, rfl, by simp, Or.inl rfl, rfl, rfl, rfl, zero308, fun r hr => by omega⟩
  case round =>
    obtain ⟨m, v, k, cur, hm, hk, hv, hlow, rfl, rfl, rfl, hcur, hdig⟩ := hrel
    have HV := hide hv
    have HC := hide hcur
    have HD := hide hdig
    have HW := hide hlow
    have hvu : v < 18446744073709551616 := by rw [hv]; exact Nat.lt_of_le_of_lt (Nat.div_le_self _ _) hu
    clear hv hcur hdig hlow
    have HK := hide hk
    have hk1 : 50 ≤ k := by omega
    have hk2 : k ≤ 65 := by omega
    clear hk
    obtain ⟨x0, hx0⟩ := some_at HC.out (show k - 1 < 65 by omega)
    by_cases h16 : 16 ≤ v
    · obtain ⟨d, HQ⟩ : ∃ d, Hid (v % 16 = d) := ⟨_, rfl⟩
      have hd : d < 16 := by have := HQ.out; omega
      have ha : bits BinOp.and IntKind.u64 (v : Int) 15 = (d : Int) := by rw [and15 v hvu, HQ.out]
      go_wp2
      go_roundw
      case rel =>
        have h1 := hex_lt15 m u hu hm (by rw [← HV.out]; exact h16)
        refine ⟨m + 1, v / 16, k - 1, _, h1, by have := HK.out; omega, div16 m u v HV.out, Or.inr (by rw [show m + 1 - 1 = m from rfl, ← HV.out]; exact h16), by go_num, by go_num, rfl, by rw [Array.size_setIfInBounds]; exact HC.out, ?_⟩
        intro r hr
        have hkm := HK.out
        by_cases hrm : r = m
        · subst hrm
          rw [show 64 - r = k - 1 by omega, Array.getElem?_setIfInBounds_self_of_lt (by rw [HC.out]; omega), hx_get d hd, ← HV.out, HQ.out]
        · rw [Array.getElem?_setIfInBounds_ne (by omega)]
          exact HD.out r (by omega)
      case measure => simp [intOf]; omega
    · have hv16 : v < 16 := by omega
      have hxv : ∀ h' : v < (⟨#[48, 49, 50, 51, 52, 53, 54, 55, 56, 57, 97, 98, 99, 100, 101, 102, 103, 104, 105, 106, 107, 108, 109, 110, 111, 112, 113, 114, 115, 116, 117, 118, 119, 120, 121, 122]⟩ : ByteArray).size, (⟨#[48, 49, 50, 51, 52, 53, 54, 55, 56, 57, 97, 98, 99, 100, 101, 102, 103, 104, 105, 106, 107, 108, 109, 110, 111, 112, 113, 114, 115, 116, 117, 118, 119, 120, 121, 122]⟩ : ByteArray)[v] = hx v := hx_get v hv16
      have hsl := cut308 w.heap.size k (by omega) hk2
      have kc := hexConv w u m k v cur hm HK.out HV.out hv16 HW.out HC.out HD.out
      go_wp2
      go_ret2
      exact ⟨rfl, (Below.refl _ _).alloc (Nat.le_refl _) _⟩
set_option maxHeartbeats 1000000 in
theorem uint16i (u : Nat) (hu : u < 18446744073709551616) (w : World) (h15 : w.cell? ⟨13, 15, none⟩ = some (.int .u8 4)) (h7 : 13 < w.heap.size) :
    Calls Tryz.prog 200 #[.int .u64 u, .int .i64 16] w fun e w' => e = .returned (.string ⟨(hexL u).toArray⟩) ∧ Below w.heap.size w w' := by
  go_enter Tryz.func200, Tryz.ntmps200
  go_wp2_with (go_at_call 267; refine (bits16 u hu _ h15 h7).mono ?_; rintro e w' ⟨rfl, hb⟩)
  go_ret
  exact ⟨rfl, hb⟩
set_option maxHeartbeats 1000000 in
theorem uint16 (u : Nat) (hu : u < 18446744073709551616) (w : World) (h15 : w.cell? ⟨13, 15, none⟩ = some (.int .u8 4)) (h7 : 13 < w.heap.size) :
    Calls Tryz.prog 126 #[.int .u64 u, .int .i64 16] w fun e w' => e = .returned (.string ⟨(hexL u).toArray⟩) ∧ Below w.heap.size w w' := by
  go_enter Tryz.func126, Tryz.ntmps126
  go_wp2_with (go_at_call 200; refine (uint16i u hu _ h15 h7).mono ?_; rintro e w' ⟨rfl, hb⟩)
  go_ret
  exact ⟨rfl, hb⟩
end Go.Proofs.YthhiofppbpgipaaGreatDoor
