import Derived.Test.YthhiofppbpgipaaGreatDoorHexW
namespace Go.Proofs.YthhiofppbpgipaaGreatDoor
open Go.RowKit
theorem and15_i64 (a : Int) : bits BinOp.and IntKind.i64 a 15 = a % 16 := by
  show IntKind.i64.wrap ((BitVec.ofInt 64 a &&& BitVec.ofInt 64 15).toNat : Int) = _
  rw [BitVec.toNat_and, BitVec.toNat_ofInt, show (BitVec.ofInt 64 15).toNat = 15 from rfl, show ∀ x : Nat, x &&& 15 = x % 16 from fun x => Nat.and_two_pow_sub_one_eq_mod x 4, IntKind.wrap_i64]
  omega
theorem hex_digit (n : Int) (j : Nat) (hj : j ≤ 15) : (n / 2 ^ (4 * j)) % 16 = (((IntKind.u64.wrap n).toNat / 16 ^ j % 16 : Nat) : Int) := by
  have hw : IntKind.u64.wrap n = n % 18446744073709551616 := by rw [IntKind.wrap_u64]
  rw [hw]
  have h16 : (2 : Int) ^ (4 * j) = 16 ^ j := by rw [Int.pow_mul]; rfl
  rw [h16]
  have hn : n = n % 18446744073709551616 + 16 ^ j * (16 * (16 ^ (15 - j) * (n / 18446744073709551616))) := by
    have e : (16 : Int) ^ j * (16 * (16 ^ (15 - j) * (n / 18446744073709551616))) = 18446744073709551616 * (n / 18446744073709551616) := by
      have e2 : (16 : Int) ^ j * 16 ^ (15 - j) = 16 ^ 15 := by rw [← Int.pow_add]; congr 1; omega
      have : (16 : Int) ^ j * (16 * (16 ^ (15 - j) * (n / 18446744073709551616))) = 16 * (16 ^ j * 16 ^ (15 - j)) * (n / 18446744073709551616) := by
        rw [Int.mul_left_comm, ← Int.mul_assoc (16 ^ j), ← Int.mul_assoc]
      rw [this, e2]; rfl
    rw [e]; omega
  have hne : (16 : Int) ^ j ≠ 0 := Int.pow_ne_zero (by omega)
  have hd : n / 16 ^ j = (n % 18446744073709551616) / 16 ^ j + 16 * (16 ^ (15 - j) * (n / 18446744073709551616)) := by
    conv => lhs; rw [hn]
    rw [Int.add_mul_ediv_left _ _ hne]
  rw [hd, Int.add_mul_emod_self_left]
  have hu : ((n % 18446744073709551616).toNat : Int) = n % 18446744073709551616 := Int.toNat_of_nonneg (by omega)
  rw [Int.natCast_emod, Int.natCast_ediv, hu, Int.natCast_pow]; rfl
theorem hex_cut : ∀ d : Fin 16, (⟨#[48, 49, 50, 51, 52, 53, 54, 55, 56, 57, 97, 98, 99, 100, 101, 102]⟩ : ByteArray).extract d.val (d.val + 1) = ⟨#[hx d.val]⟩ := by decide +kernel
theorem app_one (l : List UInt8) (c : UInt8) : (⟨l.toArray⟩ : ByteArray) ++ (⟨#[c]⟩ : ByteArray) = ⟨(l ++ [c]).toArray⟩ := by
  apply ByteArray.ext; simp
set_option maxRecDepth 100000 in
set_option maxHeartbeats 1000000 in
theorem refHex_any (n : Int) (w : World) :
    Calls Tryz.prog 136 #[.int .i64 n] w fun e w' => e = .returned (.string ⟨(hexL (IntKind.u64.wrap n).toNat).toArray⟩) ∧ w' = w := by
  have HT := hide (fun j => hex_test (IntKind.u64.wrap n).toNat j (by rw [IntKind.wrap_u64]; omega))
  have HU := hide (hexUp_top (IntKind.u64.wrap n).toNat (by rw [IntKind.wrap_u64]; omega))
  have HD := hide (fun j (hj : j ≤ 15) => (and15_i64 (n / 2 ^ (4 * j))).trans (hex_digit n j hj))
  generalize (IntKind.u64.wrap n).toNat = u at *
  go_enter Tryz.func136, Tryz.ntmps136
  go_wp2
  go_loop [3, 4] (fun s i => ∃ (k : Nat), k ≤ 16 ∧ i = .int .i64 ((k : Int) - 1) ∧ s = .string ⟨(hexUp u k).toArray⟩) (fun _ i => (intOf i + 1).toNat)
  case atStart => exact ⟨16, by omega, rfl, by rw [HU.out]⟩
  case round =>
    obtain ⟨k, hk, rfl, rfl⟩ := hrel
    by_cases hk0 : 1 ≤ k
    · obtain ⟨j, rfl⟩ : ∃ j, k = j + 1 := ⟨k - 1, by omega⟩
      have HJ := hide (HD.out j (by omega))
      obtain ⟨d, HQ⟩ : ∃ d, Hid (u / 16 ^ j % 16 = d) := ⟨_, rfl⟩
      have hd16 : d < 16 := by rw [← HQ.out]; omega
      have hdig : bits BinOp.and IntKind.i64 (n / 2 ^ (4 * j)) 15 = (d : Int) := by rw [HJ.out, HQ.out]
      have hcut := hex_cut ⟨d, hd16⟩
      have HTj := hide (HT.out j)
      have HSt := hide (hexUp_step u j)
      have HSk := hide (hexUp_skip u j)
      have hll := hexUp_len u (j + 1)
      obtain ⟨l, HL⟩ : ∃ l, Hid (hexUp u (j + 1) = l) := ⟨_, rfl⟩
      rw [HL.out] at hll ⊢
      by_cases hd0 : 0 < d
      · have HR : Hid (hexUp u j = l ++ [hx d]) := by
          show hexUp u j = l ++ [hx d]
          rw [HSt.out ((HTj.out).1 (Or.inl (by rw [HQ.out]; omega))), HL.out, HQ.out]
        go_wp2
        go_round
        case rel => exact ⟨j, by omega, rfl, by rw [HR.out, app_one]⟩
        case measure => simp [intOf] <;> omega
      · have hd0' : d = 0 := by omega
        subst hd0'
        cases l with
        | nil =>
          by_cases hj0 : j = 0
          · subst hj0
            have HR : Hid (hexUp u 0 = [hx 0]) := by
              show hexUp u 0 = [hx 0]
              rw [HSt.out ((HTj.out).1 (Or.inr (Or.inr rfl))), HL.out, HQ.out]; rfl
            have hdig0 : bits BinOp.and IntKind.i64 n 15 = 0 := by simpa using hdig
            go_wp2
            go_round
            case rel => exact ⟨0, by omega, rfl, by rw [HR.out]; rfl⟩
            case measure => simp [intOf]
          · have hj0' : ((j : Int) == 0) = false := by rw [beq_eq_false_iff_ne]; omega
            have HR : Hid (hexUp u j = []) := by
              show hexUp u j = []
              refine HSk.out ?_
              by_cases hm : j ≤ hexM u
              · rcases (HTj.out).2 hm with h | h | h
                · exact absurd HQ.out h
                · exact absurd HL.out h
                · exact absurd h hj0
              · omega
            clear hj0
            go_wp2
            go_round
            case rel => exact ⟨j, by omega, rfl, by rw [HR.out]⟩
            case measure => simp [intOf] <;> omega
        | cons c r =>
          have HR : Hid (hexUp u j = (c :: r) ++ [hx 0]) := by
            show hexUp u j = (c :: r) ++ [hx 0]
            rw [HSt.out ((HTj.out).1 (Or.inr (Or.inl (by rw [HL.out]; simp)))), HL.out, HQ.out]
          simp at hll
          go_wp2
          go_round
          case rel => exact ⟨j, by omega, rfl, by rw [HR.out, app_one]⟩
          case measure => simp [intOf] <;> omega
    · obtain rfl : k = 0 := by omega
      have HZ := hide (hexUp_zero u)
      go_wp2
      go_ret
      exact ⟨ret_str (by rw [HZ.out]), rfl⟩
end Go.Proofs.YthhiofppbpgipaaGreatDoor
