import Derived.Test.YtdbdbaepmdmnfaaGreatDoorZ01
import Derived.Deep.RegionWith
import Derived.Test.YtdbdbaepmdmnfaaGreatDoorZ02
import Derived.Deep.QuietTactic
import Derived.BigQuiet
import Derived.WalkKit
import Derived.Below
import Derived.Deep.Draws
import Derived.WalkSmall
import Derived.Laws.BitsAllLaws
namespace Go.Proofs.YtdbdbaepmdmnfaaGreatDoor
open Go.RowKit
end Go.Proofs.YtdbdbaepmdmnfaaGreatDoor
namespace Go.Proofs.YtdbdbaepmdmnfaaGreatDoor
open Go.RowKit
end Go.Proofs.YtdbdbaepmdmnfaaGreatDoor
/- Plain functions on lists of bytes: an item of a format. Nothing of the program is imported. -/
namespace Go.Proofs.YtdbdbaepmdmnfaaGreatDoor
open Go.RowKit
theorem isAt_ltB {l : List UInt8} {k : Nat} {c : Int} (h : isAt l k c = true) : k < l.length := by
  by_cases hk : k < l.length
  · exact hk
  · simp [isAt, List.getElem?_eq_none (show l.length ≤ k by omega)] at h
end Go.Proofs.YtdbdbaepmdmnfaaGreatDoor
namespace Go.Proofs.YtdbdbaepmdmnfaaGreatDoor
open Go.RowKit
end Go.Proofs.YtdbdbaepmdmnfaaGreatDoor
namespace Go.Proofs.YtdbdbaepmdmnfaaGreatDoor
open Go.RowKit
end Go.Proofs.YtdbdbaepmdmnfaaGreatDoor

namespace Go.Proofs.YtdbdbaepmdmnfaaGreatDoor
open Go.RowKit
/-- A reader lies at a place of memory. -/
def RdAt (w : World) (b o : Nat) (s : ByteArray) (i : Nat) : Prop := w.cell? ⟨b, o, none⟩ = some (.string s) ∧ w.cell? ⟨b, o + 1, none⟩ = some (.int .i64 i)
theorem RdAt.drewN {w b o s i} (h : RdAt w b o s i) (n : Nat) : RdAt (w.drewN n) b o s i := h
set_option maxHeartbeats 1000000 in
theorem ended_any (b o : Nat) (s : ByteArray) (i : Nat) (w : World) (h : RdAt w b o s i) :
    Calls Tryz.prog 84 #[.pointer (some ⟨b, o, none⟩)] w fun e w' => e = .returned (.bool (decide (i = s.size))) ∧ ∃ n, w' = w.drewN n := by
  obtain ⟨c0, c1⟩ := h
  go_enter Tryz.func84, Tryz.ntmps84
  go_wp2
  go_quiet (fail)
  go_wp2
  go_ret
  refine ⟨ret_bool ?_, _, rfl⟩
  rw [Bool.eq_iff_iff, beq_iff_eq, decide_eq_true_iff]
  omega
theorem ended_no (b o : Nat) (s : ByteArray) (i : Nat) (hi : i < s.size) (w : World) (h : RdAt w b o s i) :
    Calls Tryz.prog 84 #[.pointer (some ⟨b, o, none⟩)] w fun e w' => e = .returned (.bool false) ∧ ∃ n, w' = w.drewN n := by
  have := ended_any b o s i w h
  rwa [decide_eq_false (by omega)] at this
theorem ended_yes (b o : Nat) (s : ByteArray) (i : Nat) (hi : i = s.size) (w : World) (h : RdAt w b o s i) :
    Calls Tryz.prog 84 #[.pointer (some ⟨b, o, none⟩)] w fun e w' => e = .returned (.bool true) ∧ ∃ n, w' = w.drewN n := by
  have := ended_any b o s i w h
  rwa [decide_eq_true hi] at this
set_option maxHeartbeats 1000000 in
theorem sees_any (b o : Nat) (s : ByteArray) (i : Nat) (hi : i ≤ s.size) (c : Nat) (w : World) (h : RdAt w b o s i) :
    Calls Tryz.prog 122 #[.pointer (some ⟨b, o, none⟩), .int .u8 c] w fun e w' => e = .returned (.bool (hasB s.data.toList i c)) ∧ ∃ n, w' = w.drewN n := by
  have HR := hide h
  obtain ⟨c0, c1⟩ := h
  by_cases hlt : i < s.size
  · have HG := hide (get_of_lt s i hlt)
    go_enter Tryz.func122, Tryz.ntmps122
    go_wp2
    go_quiet (first | (go_at_call 84; exact Calls.quiet_of (ended_no b o s i hlt _ HR.out)))
    go_wp2
    go_ret
    refine ⟨ret_bool ?_, _, rfl⟩
    unfold hasB
    rw [HG.out, Bool.eq_iff_iff, beq_iff_eq, beq_iff_eq]
    omega
  · have HG := hide (get_none s i (by omega))
    have hend : i = s.size := by omega
    go_enter Tryz.func122, Tryz.ntmps122
    go_wp2
    go_quiet (first | (go_at_call 84; exact Calls.quiet_of (ended_yes b o s i hend _ HR.out)))
    go_wp2
    go_ret
    refine ⟨ret_bool ?_, _, rfl⟩
    unfold hasB
    rw [HG.out]
end Go.Proofs.YtdbdbaepmdmnfaaGreatDoor
/- What a call may have turned in memory: the blocks of D, of those that were there. Nothing of the program is imported. -/
namespace Go.Proofs.YtdbdbaepmdmnfaaGreatDoor
open Go.RowKit
structure Only (D : Nat → Prop) (w w' : World) : Prop where
  os : w'.os = w.os
  tape : w'.tape = w.tape
  output : w'.output = w.output
  size : w.heap.size ≤ w'.heap.size
  block : ∀ k, k < w.heap.size → ¬ D k → w'.heap[k]? = w.heap[k]?
theorem Only.refl (D : Nat → Prop) (w : World) : Only D w w := ⟨rfl, rfl, rfl, Nat.le_refl _, fun _ _ _ => rfl⟩
theorem Only.trans {D E : Nat → Prop} {a b c : World} (h : Only D a b) (k : Only E b c) (hE : ∀ i, i < a.heap.size → E i → D i) : Only D a c :=
  ⟨k.os.trans h.os, k.tape.trans h.tape, k.output.trans h.output, Nat.le_trans h.size k.size, fun i hi hd => (k.block i (Nat.lt_of_lt_of_le hi h.size) (fun he => hd (hE i hi he))).trans (h.block i hi hd)⟩
theorem Only.mono {D E : Nat → Prop} {a b : World} (h : Only D a b) (hE : ∀ i, i < a.heap.size → D i → E i) : Only E a b :=
  ⟨h.os, h.tape, h.output, h.size, fun i hi he => h.block i hi (fun hd => he (hE i hi hd))⟩
theorem Only.drewN {D : Nat → Prop} {a w : World} (h : Only D a w) (n : Nat) : Only D a (w.drewN n) := ⟨h.os, h.tape, h.output, h.size, h.block⟩
theorem Only.alloc {D : Nat → Prop} {a w : World} (h : Only D a w) (o : Obj) : Only D a (w.alloc o) :=
  ⟨h.os, h.tape, h.output, by have := h.size; simp; omega, fun k hk hd => (Below.heap_alloc _ _ _ (by have := h.size; omega)).trans (h.block k hk hd)⟩
theorem Only.setCell {D : Nat → Prop} {a w : World} (h : Only D a w) {p : Addr} (hp : p.block < a.heap.size → D p.block) (u : Value) : Only D a (w.setCell p u) :=
  ⟨h.os, h.tape, h.output, by have := h.size; simp [World.setCell]; omega, fun k hk hd => (Below.heap_setCell _ _ _ _ (fun e => by subst e; exact hd (hp hk))).trans (h.block k hk hd)⟩
theorem Only.grown {D : Nat → Prop} {a w w' : World} {row : Option Nat} (h : Only D a w) (hg : w.grownBy w' row) (hr : ∀ k, row = some k → k < a.heap.size → D k) : Only D a w' :=
  ⟨hg.os.trans h.os, hg.tape.trans h.tape, hg.output.trans h.output, Nat.le_trans h.size hg.size, fun k hk hd => (hg.block k (Nat.lt_of_lt_of_le hk h.size) (fun e => hd (hr k e.symm hk))).trans (h.block k hk hd)⟩
theorem Only.below {D : Nat → Prop} {a b : World} (h : Only D a b) {B : Nat} (hB : B ≤ a.heap.size) (hD : ∀ k, k < B → ¬ D k) : Below B a b :=
  ⟨h.os, h.tape, h.output, h.size, fun k hk => h.block k (by omega) (hD k hk)⟩
theorem Only.ofBelow {a b : World} (h : Below a.heap.size a b) (D : Nat → Prop) : Only D a b := ⟨h.os, h.tape, h.output, h.size, fun k hk _ => h.block k hk⟩
theorem Only.cell {D : Nat → Prop} {a b : World} (h : Only D a b) {p : Addr} (hp : p.block < a.heap.size) (hd : ¬ D p.block) : b.cell? p = a.cell? p := World.cell?_of_block (w := a) (h.block p.block hp hd)
theorem heap_setCell_same {w : World} {b o : Nat} {c : Array Value} {t : TypeId} (h : w.heap[b]? = some (.cells c t (0, 0))) (v : Value) : (w.setCell ⟨b, o, none⟩ v).heap[b]? = some (.cells (c.setIfInBounds o v) t (0, 0)) := by
  simp only [World.setCell, Array.getElem?_modify]
  rw [if_pos True.intro, h]; rfl
theorem heap_lt {w : World} {b : Nat} {o : Obj} (h : w.heap[b]? = some o) : b < w.heap.size := (Array.getElem?_eq_some_iff.1 h).1
theorem cell_of {w : World} {b o : Nat} {c : Array Value} {t : TypeId} {v : Value} (h : w.heap[b]? = some (.cells c t (0, 0))) (hv : c[o]? = some v) : w.cell? ⟨b, o, none⟩ = some v := by
  simp [World.cell?, h, hv]
theorem free_of {w : World} {b : Nat} {c : Array Value} {t : TypeId} (h : w.heap[b]? = some (.cells c t (0, 0))) (o : Nat) : w.frozen? ⟨b, o, none⟩ = false := by
  simp [World.frozen?, h]
end Go.Proofs.YtdbdbaepmdmnfaaGreatDoor
namespace Go.Proofs.YtdbdbaepmdmnfaaGreatDoor
open Go.RowKit
/-- A reader is a block of its own. -/
def RdB (w : World) (b : Nat) (s : ByteArray) (i : Nat) : Prop := w.heap[b]? = some (.cells #[.string s, .int .i64 i] 170 (0, 0))
theorem RdB.at {w b s i} (h : RdB w b s i) : RdAt w b 0 s i := ⟨cell_of h rfl, cell_of h rfl⟩
theorem RdB.free {w b s i} (h : RdB w b s i) (o : Nat) : w.frozen? ⟨b, o, none⟩ = false := free_of h o
theorem RdB.only {w w' b s i D} (h : RdB w b s i) (ho : Only D w w') (hd : ¬ D b) : RdB w' b s i := (ho.block b (heap_lt h) hd).trans h
theorem RdB.set {w b s i} (h : RdB w b s i) (j : Nat) : RdB (w.setCell ⟨b, 1, none⟩ (.int .i64 j)) b s j := by
  unfold RdB at *
  rw [heap_setCell_same h]; rfl
theorem RdB.drewN {w b s i} (h : RdB w b s i) (n : Nat) : RdB (w.drewN n) b s i := h
set_option maxHeartbeats 1000000 in
theorem take_some (b : Nat) (s : ByteArray) (hs : s.size ≤ maxLen) (i : Nat) (hi : i < s.size) (w : World) (h : RdB w b s i) :
    Calls Tryz.prog 267 #[.pointer (some ⟨b, 0, none⟩)] w fun e w' => e = .returned (.tuple #[.int .u8 (s[i].toNat), .bool true]) ∧ RdB w' b s (i + 1) ∧ Only (fun k => k = b) w w' := by
  unfold maxLen at hs
  have HR := hide h
  obtain ⟨c0, c1⟩ := h.at
  have hf := h.free 1
  simp only [Nat.zero_add] at c1
  clear h
  go_enter Tryz.func267, Tryz.ntmps267
  go_wp2_with (go_at_call 84; refine (ended_no b 0 s i hi _ HR.out.at).mono ?_; rintro e w' ⟨rfl, n, rfl⟩)
  go_quiet (fail)
  go_wp2
  go_ret2
  exact ⟨rfl, ((HR.out.drewN n).set (i + 1)).drewN nq, (((Only.refl (fun k => k = b) w).drewN n).setCell (p := ⟨b, 1, none⟩) (fun _ => rfl) _).drewN nq⟩
set_option maxHeartbeats 1000000 in
theorem take_none (b : Nat) (s : ByteArray) (w : World) (h : RdB w b s s.size) :
    Calls Tryz.prog 267 #[.pointer (some ⟨b, 0, none⟩)] w fun e w' => e = .returned (.tuple #[.int .u8 0, .bool false]) ∧ RdB w' b s s.size ∧ Only (fun k => k = b) w w' := by
  have HR := hide h
  clear h
  go_enter Tryz.func267, Tryz.ntmps267
  go_wp2_with (go_at_call 84; refine (ended_yes b 0 s s.size rfl _ HR.out.at).mono ?_; rintro e w' ⟨rfl, n, rfl⟩)
  go_ret2
  exact ⟨rfl, HR.out.drewN n, (Only.refl _ w).drewN n⟩
/-- Does a range follow? -/
def rngB (l : List UInt8) (j : Nat) : Bool := hasB l j 45 && decide (j + 1 < l.length) && !hasB l (j + 1) 93
theorem sees_is (b o : Nat) (s : ByteArray) (i : Nat) (hi : i ≤ s.size) (c : Nat) (v : Bool) (hv : hasB s.data.toList i c = v) (w : World) (h : RdAt w b o s i) :
    Calls Tryz.prog 122 #[.pointer (some ⟨b, o, none⟩), .int .u8 c] w fun e w' => e = .returned (.bool v) ∧ ∃ n, w' = w.drewN n := by
  subst hv; exact sees_any b o s i hi c w h
set_option maxHeartbeats 1000000 in
theorem range_any (b : Nat) (s : ByteArray) (hs : s.size ≤ maxLen) (i : Nat) (hi : i ≤ s.size) (w : World) (h : RdB w b s i) :
    Calls Tryz.prog 431 #[.pointer (some ⟨b, 0, none⟩)] w fun e w' => e = .returned (.bool (rngB s.data.toList i)) ∧ ∃ n, w' = w.drewN n := by
  unfold maxLen at hs
  have HR := hide h
  obtain ⟨c0, c1⟩ := h.at
  simp only [Nat.zero_add] at c1
  clear h
  cases h1 : hasB s.data.toList i 45
  · have H1 := hide h1
    clear h1
    go_enter Tryz.func431, Tryz.ntmps431
    go_wp2
    go_quiet (first | (go_at_call 122; exact Calls.quiet_of (sees_is b 0 s i hi 45 false H1.out _ HR.out.at)))
    go_wp2
    go_ret
    exact ⟨ret_bool (by unfold rngB; rw [H1.out]; rfl), _, rfl⟩
  · have H1 := hide h1
    have hlt := hasB_lt h1
    rw [len_eq] at hlt
    clear h1
    obtain ⟨k, hk⟩ : ∃ k, k = i + 1 := ⟨_, rfl⟩
    have hwr : IntKind.i64.wrap ((i : Int) + 1) = (k : Int) := by rw [IntKind.wrap_i64]; omega
    have HK := hide hk
    by_cases h2 : k < s.size
    · have HG := hide (get_of_lt s k h2)
      have hd : decide ((k : Int) < (s.size : Int)) = true := decide_eq_true (by omega)
      have HL : Hid (decide (i + 1 < s.data.toList.length) = true) := decide_eq_true (by rw [len_eq]; omega)
      clear hk
      go_enter Tryz.func431, Tryz.ntmps431
      go_wp2
      go_quiet (first | (go_at_call 122; exact Calls.quiet_of (sees_is b 0 s i hi 45 true H1.out _ HR.out.at)))
      go_wp2
      go_ret
      refine ⟨ret_bool ?_, _, rfl⟩
      unfold rngB
      rw [H1.out, HL.out]
      unfold hasB
      rw [← HK.out, HG.out]
      simp only [Bool.true_and]
      have hq : ((s[k].toNat : Int) == 93) = (s[k].toNat == 93) := by rw [Bool.eq_iff_iff, beq_iff_eq, beq_iff_eq]; omega
      simp [bne, hq]
    · have hd : decide ((k : Int) < (s.size : Int)) = false := decide_eq_false (by omega)
      have HL : Hid (decide (i + 1 < s.data.toList.length) = false) := decide_eq_false (by rw [len_eq]; omega)
      clear hk
      go_enter Tryz.func431, Tryz.ntmps431
      go_wp2
      go_quiet (first | (go_at_call 122; exact Calls.quiet_of (sees_is b 0 s i hi 45 true H1.out _ HR.out.at)))
      go_wp2
      go_ret
      exact ⟨ret_bool (by unfold rngB; rw [HL.out, H1.out]; rfl), _, rfl⟩
end Go.Proofs.YtdbdbaepmdmnfaaGreatDoor
namespace Go.Proofs.YtdbdbaepmdmnfaaGreatDoor
open Go.RowKit
/-- Four words, a bit a byte. -/
def SetIs (xs : Nat → Nat) (S : UInt8 → Bool) : Prop := (∀ k, xs k < 18446744073709551616) ∧ ∀ c : UInt8, S c = (xs (c.toNat / 64)).testBit (c.toNat % 64)
def SetAt (w : World) (b o : Nat) (xs : Nat → Nat) : Prop := ∀ k, k < 4 → w.cell? ⟨b, o + k, none⟩ = some (.int .u64 (xs k))
theorem bit_eq (X m : Nat) (hx : X < 18446744073709551616) : (bits BinOp.and IntKind.u64 ((X : Int) / 2 ^ m) 1 == 1) = X.testBit m := by
  have h1 : (X : Int) / 2 ^ m = ((X / 2 ^ m : Nat) : Int) := by simp
  have h2 : X / 2 ^ m ≤ X := Nat.div_le_self _ _
  have h3 : (0 : Int) ≤ ((X / 2 ^ m : Nat) : Int) := Int.natCast_nonneg _
  have h4 : ((X / 2 ^ m : Nat) : Int) ≤ (X : Int) := Int.ofNat_le.2 h2
  rw [h1, and_one_u64 _ h3 (by omega), Nat.testBit_eq_decide_div_mod_eq, Bool.eq_iff_iff, beq_iff_eq, decide_eq_true_iff]
  omega
set_option maxHeartbeats 1000000 in
theorem has_any (b o : Nat) (xs : Nat → Nat) (S : UInt8 → Bool) (hS : SetIs xs S) (c : UInt8) (w : World) (h : SetAt w b o xs) :
    Calls Tryz.prog 125 #[.pointer (some ⟨b, o, none⟩), .int .u8 c.toNat] w fun e w' => e = .returned (.bool (S c)) ∧ w' = w := by
  have hc := c.toNat_lt
  have c0 := h (c.toNat / 64) (by omega)
  have HS := hide (hS.2 c)
  have hx := hS.1 (c.toNat / 64)
  have h1 : 0 ≤ (c.toNat : Int) / 64 % 256 ∧ (c.toNat : Int) / 64 % 256 < 4 := by omega
  clear h hS
  generalize xs (c.toNat / 64) = X at *
  go_enter Tryz.func125, Tryz.ntmps125
  go_wp2
  go_ret
  refine ⟨ret_bool ?_, rfl⟩
  rw [HS.out, bit_eq X _ hx]
def setCs (xs : Nat → Nat) : Array Value := #[.int .u64 (xs 0), .int .u64 (xs 1), .int .u64 (xs 2), .int .u64 (xs 3)]
def SetB (w : World) (b : Nat) (xs : Nat → Nat) : Prop := w.heap[b]? = some (.cells (setCs xs) 115 (0, 0))
theorem SetB.at {w b xs} (h : SetB w b xs) : SetAt w b 0 xs := by
  intro k hk
  match k, hk with
  | 0, _ => exact cell_of h rfl
  | 1, _ => exact cell_of h rfl
  | 2, _ => exact cell_of h rfl
  | 3, _ => exact cell_of h rfl
def upd (xs : Nat → Nat) (k v : Nat) (j : Nat) : Nat := if j = k then v else xs j
theorem SetB.set {w b xs} (h : SetB w b xs) (k v : Nat) (hk : k < 4) : SetB (w.setCell ⟨b, k, none⟩ (.int .u64 v)) b (upd xs k v) := by
  unfold SetB at *
  rw [heap_setCell_same h]
  match k, hk with
  | 0, _ => rfl
  | 1, _ => rfl
  | 2, _ => rfl
  | 3, _ => rfl
theorem or_eq (X m : Nat) (hx : X < 18446744073709551616) (hm : m < 64) : bits BinOp.or IntKind.u64 (X : Int) (IntKind.u64.wrap (2 ^ m)) = ((X ||| 2 ^ m : Nat) : Int) := by
  have h2 : 2 ^ m < 18446744073709551616 := by
    have : 2 ^ m < 2 ^ 64 := Nat.pow_lt_pow_right (by decide) hm
    omega
  have h1 : IntKind.u64.wrap (2 ^ m) = ((2 ^ m : Nat) : Int) := by
    have h3 : ((2 ^ m : Nat) : Int) = (2 : Int) ^ m := by simp
    rw [IntKind.wrap_u64, ← h3]
    generalize 2 ^ m = y at *
    omega
  rw [h1, u64_or_nat X _ hx h2]
theorem SetIs.add {xs : Nat → Nat} {S T : UInt8 → Bool} {j : Nat} (h : SetIs xs S) (hT : ∀ c : UInt8, T c = (S c || decide (c.toNat = j))) : SetIs (upd xs (j / 64) (xs (j / 64) ||| 2 ^ (j % 64))) T := by
  constructor
  · intro k
    unfold upd
    split
    · have h1 : xs (j / 64) < 2 ^ 64 := by have := h.1 (j / 64); omega
      have h2 : 2 ^ (j % 64) < 2 ^ 64 := Nat.pow_lt_pow_right (by decide) (Nat.mod_lt _ (by decide))
      have := Nat.or_lt_two_pow h1 h2
      omega
    · exact h.1 k
  · intro c
    rw [hT, h.2 c]
    unfold upd
    split
    · rename_i hk
      rw [hk, Nat.testBit_or, Nat.testBit_two_pow]
      congr 1
      rw [Bool.eq_iff_iff, decide_eq_true_iff, decide_eq_true_iff]
      omega
    · rename_i hk
      rw [show decide (c.toNat = j) = false from decide_eq_false (fun e => hk (by rw [e])), Bool.or_false]
theorem Only.drew {D : Nat → Prop} {a w : World} (h : Only D a w) : Only D a w.drew := ⟨h.os, h.tape, h.output, h.size, h.block⟩
set_option maxHeartbeats 1000000 in
theorem add_any (b : Nat) (xs : Nat → Nat) (S : UInt8 → Bool) (hS : SetIs xs S) (lo hi : UInt8) (w : World) (h : SetB w b xs) :
    Calls Tryz.prog 369 #[.pointer (some ⟨b, 0, none⟩), .int .u8 lo.toNat, .int .u8 hi.toNat] w fun e w' => e = .returned (.tuple #[]) ∧ (∃ ys, SetIs ys (orS S (rangeS lo hi)) ∧ SetB w' b ys) ∧ Only (fun k => k = b) w w' := by
  have hlo := lo.toNat_lt
  have hhi := hi.toNat_lt
  go_enter Tryz.func369, Tryz.ntmps369
  go_wp2
  go_loopw [6] (fun i wr => ∃ (j : Nat) (ys : Nat → Nat), lo.toNat ≤ j ∧ (j ≤ hi.toNat + 1 ∨ j = lo.toNat) ∧ i = .int .i64 j ∧ SetIs ys (orS S (fun c => decide (lo.toNat ≤ c.toNat) && decide (c.toNat < j))) ∧ SetB wr b ys ∧ Only (fun k => k = b) w wr) (fun i _ => 256 - (intOf i).toNat)
  case atStart =>
    refine ⟨lo.toNat, xs, Nat.le_refl _, Or.inr rfl, by go_num, ?_, h, Only.refl _ _⟩
    refine ⟨hS.1, fun c => ?_⟩
    rw [← hS.2 c]
    show (S c || (decide (lo.toNat ≤ c.toNat) && decide (c.toNat < lo.toNat))) = S c
    by_cases hc : lo.toNat ≤ c.toNat
    · rw [decide_eq_false (show ¬ c.toNat < lo.toNat by omega), Bool.and_false, Bool.or_false]
    · rw [decide_eq_false hc, Bool.false_and, Bool.or_false]
  case round =>
    obtain ⟨j, ys, h1, h2, rfl, h3, h4, h5⟩ := hrel
    by_cases hj : j ≤ hi.toNat
    · have c0 := h4.at (j / 64) (by omega)
      have hf := free_of h4 (j / 64)
      simp only [Nat.zero_add] at c0
      have H3 : Hid (SetIs (upd ys (j / 64) (ys (j / 64) ||| 2 ^ (j % 64))) (orS S (fun c => decide (lo.toNat ≤ c.toNat) && decide (c.toNat < j + 1)))) := h3.add (fun c => by
        unfold orS
        rw [Bool.or_assoc]
        congr 1
        rw [Bool.eq_iff_iff]
        simp only [Bool.and_eq_true, Bool.or_eq_true, decide_eq_true_iff]
        omega)
      have hx := h3.1 (j / 64)
      have H4 : Hid (SetB ((wr.setCell ⟨b, j / 64, none⟩ (.int .u64 ((ys (j / 64) ||| 2 ^ (j % 64) : Nat))))) b (upd ys (j / 64) (ys (j / 64) ||| 2 ^ (j % 64)))) := h4.set (j / 64) _ (by omega)
      have H5 := hide h5
      have HO := hide (or_eq (ys (j / 64)) (j % 64) hx (by omega))
      clear h h3 h4 h5
      generalize ys (j / 64) = X at *
      go_wp2
      go_region
      rw [HO.out]
      go_wp2
      go_roundw
      case rel => exact ⟨j + 1, _, by omega, Or.inl (by omega), by go_num, H3.out, H4.out, (H5.out.setCell (p := ⟨b, j / 64, none⟩) (fun _ => rfl) _).drew⟩
      case measure => simp [intOf]; omega
    · have H3 : Hid (SetIs ys (orS S (rangeS lo hi))) := by
        refine ⟨h3.1, fun c => ?_⟩
        rw [← h3.2 c]
        unfold orS rangeS
        congr 1
        rw [Bool.eq_iff_iff]
        simp only [Bool.and_eq_true, decide_eq_true_iff]
        omega
      have H4 := hide h4
      have H5 := hide h5
      clear h h3 h4 h5
      go_wp2
      go_end0
      exact ⟨rfl, ⟨_, H3.out, H4.out⟩, H5.out⟩
end Go.Proofs.YtdbdbaepmdmnfaaGreatDoor
namespace Go.Proofs.YtdbdbaepmdmnfaaGreatDoor
open Go.RowKit
theorem SetIs.none : SetIs (fun _ => 0) (fun _ => false) := ⟨fun _ => by simp, fun c => by simp⟩
theorem SetIs.congr {xs S T} (h : SetIs xs S) (e : ∀ c, S c = T c) : SetIs xs T := ⟨h.1, fun c => by rw [← e]; exact h.2 c⟩
theorem new0 (w : World) (a : Obj) : (w.alloc a).heap[w.heap.size]? = some a := heap_alloc_new w a
theorem new1 (w : World) (a b : Obj) : ((w.alloc a).alloc b).heap[w.heap.size + 1]? = some b := by
  have := heap_alloc_new (w.alloc a) b
  rwa [show (w.alloc a).heap.size = w.heap.size + 1 by simp] at this
theorem old1 (w : World) (a b : Obj) : ((w.alloc a).alloc b).heap[w.heap.size]? = some a := by
  rw [Below.heap_alloc _ _ _ (by simp)]; exact new0 w a
set_option maxHeartbeats 1000000 in
theorem single_any (c : UInt8) (w : World) :
    Calls Tryz.prog 271 #[.int .u8 c.toNat] w fun e w' => ∃ ys, e = .returned (.agg (setCs ys)) ∧ SetIs ys (oneS c) ∧ Only (fun _ => False) w w' := by
  go_enter Tryz.func271, Tryz.ntmps271
  go_wp2_with fail
  refine (add_any _ (fun _ => 0) _ SetIs.none c c _ (new1 w _ _)).mono ?_
  rintro e w1 ⟨rfl, ⟨ys, hy, hb⟩, ho⟩
  have q : w1.heap[w.heap.size]? = some (.cells (setCs (fun _ => 0)) 115 (0, 0)) := by
    rw [ho.block w.heap.size (by simp; omega) (by omega)]
    exact old1 w _ _
  have HY : Hid (SetIs ys (oneS c)) := hy.congr (fun d => by simp [orS, oneS])
  have c0 : w1.cell? ⟨w.heap.size + 1, 0, none⟩ = some (.int .u64 (ys 0)) := cell_of hb rfl
  have c1 : w1.cell? ⟨w.heap.size + 1, 1, none⟩ = some (.int .u64 (ys 1)) := cell_of hb rfl
  have c2 : w1.cell? ⟨w.heap.size + 1, 2, none⟩ = some (.int .u64 (ys 2)) := cell_of hb rfl
  have c3 : w1.cell? ⟨w.heap.size + 1, 3, none⟩ = some (.int .u64 (ys 3)) := cell_of hb rfl
  have d0 : w1.cell? ⟨w.heap.size, 0, none⟩ = some (.int .u64 0) := cell_of q rfl
  have d1 : w1.cell? ⟨w.heap.size, 1, none⟩ = some (.int .u64 0) := cell_of q rfl
  have d2 : w1.cell? ⟨w.heap.size, 2, none⟩ = some (.int .u64 0) := cell_of q rfl
  have d3 : w1.cell? ⟨w.heap.size, 3, none⟩ = some (.int .u64 0) := cell_of q rfl
  have f0 := free_of q 0
  have f1 := free_of q 1
  have f2 := free_of q 2
  have f3 := free_of q 3
  have HO := hide ho
  have HQ := hide q
  clear hy hb ho q
  go_wp2
  have hn : ∀ o, w.heap.size < w.heap.size → (fun _ => False) (Addr.block ⟨w.heap.size, o, none⟩) := fun _ h => by omega
  refine bodyPost_ret (v := .agg (setCs ys)) (by simp [results, Tryz.results271, go_sem, setCs, d0, d1, d2, d3]) rfl ⟨ys, rfl, HY.out, ?_⟩
  exact (((((((Only.refl (fun _ => False) w).alloc _).alloc _).trans HO.out (fun i h e => by omega)).setCell (p := ⟨w.heap.size, 0, none⟩) (hn 0) _).setCell (p := ⟨w.heap.size, 1, none⟩) (hn 1) _).setCell (p := ⟨w.heap.size, 2, none⟩) (hn 2) _).setCell (p := ⟨w.heap.size, 3, none⟩) (hn 3) _
def notW (X : Nat) : Nat := 18446744073709551615 - X
theorem SetIs.not {xs S} (h : SetIs xs S) : SetIs (fun k => notW (xs k)) (notS S) := by
  refine ⟨fun k => by show 18446744073709551615 - xs k < _; omega, fun c => ?_⟩
  show (! S c) = (18446744073709551615 - xs (c.toNat / 64)).testBit (c.toNat % 64)
  have hx := h.1 (c.toNat / 64)
  rw [h.2 c, show 18446744073709551615 - xs (c.toNat / 64) = 2 ^ 64 - (xs (c.toNat / 64) + 1) by omega, Nat.testBit_two_pow_sub_succ (by omega)]
  have hm : c.toNat % 64 < 64 := Nat.mod_lt _ (by decide)
  simp [hm]
theorem xor_eq (X : Nat) (hx : X < 18446744073709551616) : bits BinOp.xor IntKind.u64 (if IntKind.u64.signed = true then -1 else IntKind.u64.max) (X : Int) = (notW X : Int) := by
  rw [show (if IntKind.u64.signed = true then -1 else IntKind.u64.max) = ((18446744073709551615 : Nat) : Int) from rfl, u64_xor_nat _ X (by omega) hx]
  congr 1
  unfold notW
  apply Nat.eq_of_testBit_eq
  intro i
  rw [Nat.testBit_xor, show 18446744073709551615 = 2 ^ 64 - 1 by rfl, Nat.testBit_two_pow_sub_one, show 2 ^ 64 - 1 - X = 2 ^ 64 - (X + 1) by omega, Nat.testBit_two_pow_sub_succ (by omega)]
  by_cases h : i < 64
  · simp [h]
  · have : X.testBit i = false := Nat.testBit_lt_two_pow (Nat.lt_of_lt_of_le (show X < 2 ^ 64 by omega) (Nat.pow_le_pow_right (by decide) (by omega)))
    simp [h, this]
def notTo (xs : Nat → Nat) (j k : Nat) : Nat := if k < j then notW (xs k) else xs k
theorem notTo_step (xs : Nat → Nat) (j : Nat) : upd (notTo xs j) j (notW (xs j)) = notTo xs (j + 1) := by
  funext k
  unfold upd notTo
  by_cases h : k = j
  · subst h; simp
  · rw [if_neg h]
    by_cases h2 : k < j
    · rw [if_pos h2, if_pos (by omega)]
    · rw [if_neg h2, if_neg (by omega)]
set_option maxHeartbeats 1000000 in
theorem others_any (xs : Nat → Nat) (S : UInt8 → Bool) (hS : SetIs xs S) (w : World) :
    Calls Tryz.prog 270 #[.agg (setCs xs)] w fun e w' => ∃ ys, e = .returned (.agg (setCs ys)) ∧ SetIs ys (notS S) ∧ Only (fun _ => False) w w' := by
  have HN := hide hS.not
  have HX := hide hS.1
  clear hS
  unfold setCs
  go_enter Tryz.func270, Tryz.ntmps270
  go_wp2
  go_loopw [4] (fun i wr => ∃ j : Nat, j ≤ 4 ∧ i = .int .i64 j ∧ SetB wr w.heap.size (notTo xs j) ∧ SetB wr (w.heap.size + 1) (fun _ => 0) ∧ Only (fun _ => False) w wr) (fun i _ => 4 - (intOf i).toNat)
  case atStart => exact ⟨0, by omega, rfl, old1 w _ _, new1 w _ _, ((Only.refl _ w).alloc _).alloc _⟩
  case round =>
    obtain ⟨j, h1, rfl, h3, h4, h5⟩ := hrel
    by_cases hj : j < 4
    · have c0 : wr.cell? ⟨w.heap.size, j, none⟩ = some (.int .u64 (xs j)) := by
        have := h3.at j hj
        rw [Nat.zero_add] at this
        rw [this]; simp [notTo]
      have f0 := free_of h3 j
      have hx := HX.out j
      have H3 : Hid (SetB (wr.setCell ⟨w.heap.size, j, none⟩ (.int .u64 (notW (xs j)))) w.heap.size (notTo xs (j + 1))) := by
        have := h3.set j (notW (xs j)) hj
        rw [notTo_step] at this
        exact this
      have H4 : Hid (SetB (wr.setCell ⟨w.heap.size, j, none⟩ (.int .u64 (notW (xs j)))) (w.heap.size + 1) (fun _ => 0)) := by
        show SetB _ _ _
        unfold SetB
        rw [Below.heap_setCell _ _ _ _ (show w.heap.size + 1 ≠ w.heap.size by omega)]; exact h4
      have H5 := hide (h5.setCell (p := ⟨w.heap.size, j, none⟩) (fun h => absurd h (Nat.lt_irrefl _)) (.int .u64 (notW (xs j))))
      have HO := hide (xor_eq (xs j) hx)
      clear h3 h4 h5
      go_wp2
      rw [HO.out]
      go_roundw
      case rel => exact ⟨j + 1, by omega, by go_num, H3.out, H4.out, H5.out⟩
      case measure => simp [intOf]; omega
    · obtain rfl : j = 4 := by omega
      have c0 : wr.cell? ⟨w.heap.size, 0, none⟩ = some (.int .u64 (notW (xs 0))) := cell_of h3 rfl
      have c1 : wr.cell? ⟨w.heap.size, 1, none⟩ = some (.int .u64 (notW (xs 1))) := cell_of h3 rfl
      have c2 : wr.cell? ⟨w.heap.size, 2, none⟩ = some (.int .u64 (notW (xs 2))) := cell_of h3 rfl
      have c3 : wr.cell? ⟨w.heap.size, 3, none⟩ = some (.int .u64 (notW (xs 3))) := cell_of h3 rfl
      have d0 : wr.cell? ⟨w.heap.size + 1, 0, none⟩ = some (.int .u64 0) := cell_of h4 rfl
      have d1 : wr.cell? ⟨w.heap.size + 1, 1, none⟩ = some (.int .u64 0) := cell_of h4 rfl
      have d2 : wr.cell? ⟨w.heap.size + 1, 2, none⟩ = some (.int .u64 0) := cell_of h4 rfl
      have d3 : wr.cell? ⟨w.heap.size + 1, 3, none⟩ = some (.int .u64 0) := cell_of h4 rfl
      have f0 := free_of h4 0
      have f1 := free_of h4 1
      have f2 := free_of h4 2
      have f3 := free_of h4 3
      have hn : ∀ o, w.heap.size + 1 < w.heap.size → (fun _ => False) (Addr.block ⟨w.heap.size + 1, o, none⟩) := fun _ h => by omega
      have H5 := hide h5
      clear h3 h4 h5
      go_wp2
      refine bodyPost_ret (v := .agg (setCs (fun k => notW (xs k)))) (by simp [results, Tryz.results270, go_sem, setCs, d0, d1, d2, d3]) rfl ⟨_, rfl, HN.out, ?_⟩
      exact (((H5.out.setCell (p := ⟨w.heap.size + 1, 0, none⟩) (hn 0) _).setCell (p := ⟨w.heap.size + 1, 1, none⟩) (hn 1) _).setCell (p := ⟨w.heap.size + 1, 2, none⟩) (hn 2) _).setCell (p := ⟨w.heap.size + 1, 3, none⟩) (hn 3) _
end Go.Proofs.YtdbdbaepmdmnfaaGreatDoor

