import Derived.Test.YtdbdbaepmdmnfaaGreatDoorQ01
import Derived.Deep.QuietTactic
import Derived.BigQuiet
import Derived.WalkKit
import Derived.Below
import Derived.Deep.Draws
import Derived.WalkSmall
import Derived.Laws.BitsAllLaws
import Derived.Laws.AppendOwn
import Derived.Deep.RegionWith
namespace Go.Proofs.YtdbdbaepmdmnfaaGreatDoor
open Go.RowKit
/-- A reader lies at a place of memory. -/
def RdAt (w : World) (b o : Nat) (s : ByteArray) (i : Nat) : Prop := w.cell? ⟨b, o, none⟩ = some (.string s) ∧ w.cell? ⟨b, o + 1, none⟩ = some (.int .i64 i)
theorem RdAt.drewN {w b o s i} (h : RdAt w b o s i) (n : Nat) : RdAt (w.drewN n) b o s i := h
set_option maxHeartbeats 1000000 in
theorem ended_any (b o : Nat) (s : ByteArray) (i : Nat) (w : World) (h : RdAt w b o s i) :
    Calls Tryz.prog 84 #[.pointer (some ⟨b, o, none⟩)] w fun e w' => e = .returned (.bool (decide (i = s.size))) ∧ ∃ n, w' = w.drewN n := by
  obtain ⟨c0, c1⟩ := h
  go_enter Tryz.func84, Tryz.ntmps84
  go_wp2
  go_quiet (fail)
  go_wp2
  go_ret
  refine ⟨ret_bool ?_, _, rfl⟩
  rw [Bool.eq_iff_iff, beq_iff_eq, decide_eq_true_iff]
  omega
theorem ended_no (b o : Nat) (s : ByteArray) (i : Nat) (hi : i < s.size) (w : World) (h : RdAt w b o s i) :
    Calls Tryz.prog 84 #[.pointer (some ⟨b, o, none⟩)] w fun e w' => e = .returned (.bool false) ∧ ∃ n, w' = w.drewN n := by
  have := ended_any b o s i w h
  rwa [decide_eq_false (by omega)] at this
theorem ended_yes (b o : Nat) (s : ByteArray) (i : Nat) (hi : i = s.size) (w : World) (h : RdAt w b o s i) :
    Calls Tryz.prog 84 #[.pointer (some ⟨b, o, none⟩)] w fun e w' => e = .returned (.bool true) ∧ ∃ n, w' = w.drewN n := by
  have := ended_any b o s i w h
  rwa [decide_eq_true hi] at this
set_option maxHeartbeats 1000000 in
theorem sees_any (b o : Nat) (s : ByteArray) (i : Nat) (hi : i ≤ s.size) (c : Nat) (w : World) (h : RdAt w b o s i) :
    Calls Tryz.prog 122 #[.pointer (some ⟨b, o, none⟩), .int .u8 c] w fun e w' => e = .returned (.bool (hasB s.data.toList i c)) ∧ ∃ n, w' = w.drewN n := by
  have HR := hide h
  obtain ⟨c0, c1⟩ := h
  by_cases hlt : i < s.size
  · have HG := hide (get_of_lt s i hlt)
    go_enter Tryz.func122, Tryz.ntmps122
    go_wp2
    go_quiet (first | (go_at_call 84; exact Calls.quiet_of (ended_no b o s i hlt _ HR.out)))
    go_wp2
    go_ret
    refine ⟨ret_bool ?_, _, rfl⟩
    unfold hasB
    rw [HG.out, Bool.eq_iff_iff, beq_iff_eq, beq_iff_eq]
    omega
  · have HG := hide (get_none s i (by omega))
    have hend : i = s.size := by omega
    go_enter Tryz.func122, Tryz.ntmps122
    go_wp2
    go_quiet (first | (go_at_call 84; exact Calls.quiet_of (ended_yes b o s i hend _ HR.out)))
    go_wp2
    go_ret
    refine ⟨ret_bool ?_, _, rfl⟩
    unfold hasB
    rw [HG.out]
end Go.Proofs.YtdbdbaepmdmnfaaGreatDoor
/- What a call may have turned in memory: the blocks of D, of those that were there. Nothing of the program is imported. -/
namespace Go.Proofs.YtdbdbaepmdmnfaaGreatDoor
open Go.RowKit
structure Only (D : Nat → Prop) (w w' : World) : Prop where
  os : w'.os = w.os
  tape : w'.tape = w.tape
  output : w'.output = w.output
  size : w.heap.size ≤ w'.heap.size
  block : ∀ k, k < w.heap.size → ¬ D k → w'.heap[k]? = w.heap[k]?
theorem Only.refl (D : Nat → Prop) (w : World) : Only D w w := ⟨rfl, rfl, rfl, Nat.le_refl _, fun _ _ _ => rfl⟩
theorem Only.trans {D E : Nat → Prop} {a b c : World} (h : Only D a b) (k : Only E b c) (hE : ∀ i, i < a.heap.size → E i → D i) : Only D a c :=
  ⟨k.os.trans h.os, k.tape.trans h.tape, k.output.trans h.output, Nat.le_trans h.size k.size, fun i hi hd => (k.block i (Nat.lt_of_lt_of_le hi h.size) (fun he => hd (hE i hi he))).trans (h.block i hi hd)⟩
theorem Only.mono {D E : Nat → Prop} {a b : World} (h : Only D a b) (hE : ∀ i, i < a.heap.size → D i → E i) : Only E a b :=
  ⟨h.os, h.tape, h.output, h.size, fun i hi he => h.block i hi (fun hd => he (hE i hi hd))⟩
theorem Only.drewN {D : Nat → Prop} {a w : World} (h : Only D a w) (n : Nat) : Only D a (w.drewN n) := ⟨h.os, h.tape, h.output, h.size, h.block⟩
theorem Only.alloc {D : Nat → Prop} {a w : World} (h : Only D a w) (o : Obj) : Only D a (w.alloc o) :=
  ⟨h.os, h.tape, h.output, by have := h.size; simp; omega, fun k hk hd => (Below.heap_alloc _ _ _ (by have := h.size; omega)).trans (h.block k hk hd)⟩
theorem Only.setCell {D : Nat → Prop} {a w : World} (h : Only D a w) {p : Addr} (hp : p.block < a.heap.size → D p.block) (u : Value) : Only D a (w.setCell p u) :=
  ⟨h.os, h.tape, h.output, by have := h.size; simp [World.setCell]; omega, fun k hk hd => (Below.heap_setCell _ _ _ _ (fun e => by subst e; exact hd (hp hk))).trans (h.block k hk hd)⟩
theorem Only.grown {D : Nat → Prop} {a w w' : World} {row : Option Nat} (h : Only D a w) (hg : w.grownBy w' row) (hr : ∀ k, row = some k → k < a.heap.size → D k) : Only D a w' :=
  ⟨hg.os.trans h.os, hg.tape.trans h.tape, hg.output.trans h.output, Nat.le_trans h.size hg.size, fun k hk hd => (hg.block k (Nat.lt_of_lt_of_le hk h.size) (fun e => hd (hr k e.symm hk))).trans (h.block k hk hd)⟩
theorem Only.below {D : Nat → Prop} {a b : World} (h : Only D a b) {B : Nat} (hB : B ≤ a.heap.size) (hD : ∀ k, k < B → ¬ D k) : Below B a b :=
  ⟨h.os, h.tape, h.output, h.size, fun k hk => h.block k (by omega) (hD k hk)⟩
theorem Only.ofBelow {a b : World} (h : Below a.heap.size a b) (D : Nat → Prop) : Only D a b := ⟨h.os, h.tape, h.output, h.size, fun k hk _ => h.block k hk⟩
theorem Only.cell {D : Nat → Prop} {a b : World} (h : Only D a b) {p : Addr} (hp : p.block < a.heap.size) (hd : ¬ D p.block) : b.cell? p = a.cell? p := World.cell?_of_block (w := a) (h.block p.block hp hd)
theorem heap_setCell_same {w : World} {b o : Nat} {c : Array Value} {t : TypeId} (h : w.heap[b]? = some (.cells c t (0, 0))) (v : Value) : (w.setCell ⟨b, o, none⟩ v).heap[b]? = some (.cells (c.setIfInBounds o v) t (0, 0)) := by
  simp only [World.setCell, Array.getElem?_modify]
  rw [if_pos True.intro, h]; rfl
theorem heap_lt {w : World} {b : Nat} {o : Obj} (h : w.heap[b]? = some o) : b < w.heap.size := (Array.getElem?_eq_some_iff.1 h).1
theorem cell_of {w : World} {b o : Nat} {c : Array Value} {t : TypeId} {v : Value} (h : w.heap[b]? = some (.cells c t (0, 0))) (hv : c[o]? = some v) : w.cell? ⟨b, o, none⟩ = some v := by
  simp [World.cell?, h, hv]
theorem free_of {w : World} {b : Nat} {c : Array Value} {t : TypeId} (h : w.heap[b]? = some (.cells c t (0, 0))) (o : Nat) : w.frozen? ⟨b, o, none⟩ = false := by
  simp [World.frozen?, h]
end Go.Proofs.YtdbdbaepmdmnfaaGreatDoor
namespace Go.Proofs.YtdbdbaepmdmnfaaGreatDoor
open Go.RowKit
/-- A reader is a block of its own. -/
def RdB (w : World) (b : Nat) (s : ByteArray) (i : Nat) : Prop := w.heap[b]? = some (.cells #[.string s, .int .i64 i] 170 (0, 0))
theorem RdB.at {w b s i} (h : RdB w b s i) : RdAt w b 0 s i := ⟨cell_of h rfl, cell_of h rfl⟩
theorem RdB.free {w b s i} (h : RdB w b s i) (o : Nat) : w.frozen? ⟨b, o, none⟩ = false := free_of h o
theorem RdB.only {w w' b s i D} (h : RdB w b s i) (ho : Only D w w') (hd : ¬ D b) : RdB w' b s i := (ho.block b (heap_lt h) hd).trans h
theorem RdB.set {w b s i} (h : RdB w b s i) (j : Nat) : RdB (w.setCell ⟨b, 1, none⟩ (.int .i64 j)) b s j := by
  unfold RdB at *
  rw [heap_setCell_same h]; rfl
theorem RdB.drewN {w b s i} (h : RdB w b s i) (n : Nat) : RdB (w.drewN n) b s i := h
set_option maxHeartbeats 1000000 in
theorem take_some (b : Nat) (s : ByteArray) (hs : s.size ≤ maxLen) (i : Nat) (hi : i < s.size) (w : World) (h : RdB w b s i) :
    Calls Tryz.prog 267 #[.pointer (some ⟨b, 0, none⟩)] w fun e w' => e = .returned (.tuple #[.int .u8 (s[i].toNat), .bool true]) ∧ RdB w' b s (i + 1) ∧ Only (fun k => k = b) w w' := by
  unfold maxLen at hs
  have HR := hide h
  obtain ⟨c0, c1⟩ := h.at
  have hf := h.free 1
  simp only [Nat.zero_add] at c1
  clear h
  go_enter Tryz.func267, Tryz.ntmps267
  go_wp2_with (go_at_call 84; refine (ended_no b 0 s i hi _ HR.out.at).mono ?_; rintro e w' ⟨rfl, n, rfl⟩)
  go_quiet (fail)
  go_wp2
  go_ret2
  exact ⟨rfl, ((HR.out.drewN n).set (i + 1)).drewN nq, (((Only.refl (fun k => k = b) w).drewN n).setCell (p := ⟨b, 1, none⟩) (fun _ => rfl) _).drewN nq⟩
set_option maxHeartbeats 1000000 in
theorem take_none (b : Nat) (s : ByteArray) (w : World) (h : RdB w b s s.size) :
    Calls Tryz.prog 267 #[.pointer (some ⟨b, 0, none⟩)] w fun e w' => e = .returned (.tuple #[.int .u8 0, .bool false]) ∧ RdB w' b s s.size ∧ Only (fun k => k = b) w w' := by
  have HR := hide h
  clear h
  go_enter Tryz.func267, Tryz.ntmps267
  go_wp2_with (go_at_call 84; refine (ended_yes b 0 s s.size rfl _ HR.out.at).mono ?_; rintro e w' ⟨rfl, n, rfl⟩)
  go_ret2
  exact ⟨rfl, HR.out.drewN n, (Only.refl _ w).drewN n⟩
/-- Does a range follow? -/
def rngB (l : List UInt8) (j : Nat) : Bool := hasB l j 45 && decide (j + 1 < l.length) && !hasB l (j + 1) 93
theorem sees_is (b o : Nat) (s : ByteArray) (i : Nat) (hi : i ≤ s.size) (c : Nat) (v : Bool) (hv : hasB s.data.toList i c = v) (w : World) (h : RdAt w b o s i) :
    Calls Tryz.prog 122 #[.pointer (some ⟨b, o, none⟩), .int .u8 c] w fun e w' => e = .returned (.bool v) ∧ ∃ n, w' = w.drewN n := by
  subst hv; exact sees_any b o s i hi c w h
set_option maxHeartbeats 1000000 in
theorem range_any (b : Nat) (s : ByteArray) (hs : s.size ≤ maxLen) (i : Nat) (hi : i ≤ s.size) (w : World) (h : RdB w b s i) :
    Calls Tryz.prog 431 #[.pointer (some ⟨b, 0, none⟩)] w fun e w' => e = .returned (.bool (rngB s.data.toList i)) ∧ ∃ n, w' = w.drewN n := by
  unfold maxLen at hs
  have HR := hide h
  obtain ⟨c0, c1⟩ := h.at
  simp only [Nat.zero_add] at c1
  clear h
  cases h1 : hasB s.data.toList i 45
  · have H1 := hide h1
    clear h1
    go_enter Tryz.func431, Tryz.ntmps431
    go_wp2
    go_quiet (first | (go_at_call 122; exact Calls.quiet_of (sees_is b 0 s i hi 45 false H1.out _ HR.out.at)))
    go_wp2
    go_ret
    exact ⟨ret_bool (by unfold rngB; rw [H1.out]; rfl), _, rfl⟩
  · have H1 := hide h1
    have hlt := hasB_lt h1
    rw [len_eq] at hlt
    clear h1
    obtain ⟨k, hk⟩ : ∃ k, k = i + 1 := ⟨_, rfl⟩
    have hwr : IntKind.i64.wrap ((i : Int) + 1) = (k : Int) := by rw [IntKind.wrap_i64]; omega
    have HK := hide hk
    by_cases h2 : k < s.size
    · have HG := hide (get_of_lt s k h2)
      have hd : decide ((k : Int) < (s.size : Int)) = true := decide_eq_true (by omega)
      have HL : Hid (decide (i + 1 < s.data.toList.length) = true) := decide_eq_true (by rw [len_eq]; omega)
      clear hk
      go_enter Tryz.func431, Tryz.ntmps431
      go_wp2
      go_quiet (first | (go_at_call 122; exact Calls.quiet_of (sees_is b 0 s i hi 45 true H1.out _ HR.out.at)))
      go_wp2
      go_ret
      refine ⟨ret_bool ?_, _, rfl⟩
      unfold rngB
      rw [H1.out, HL.out]
      unfold hasB
      rw [← HK.out, HG.out]
      simp only [Bool.true_and]
      have hq : ((s[k].toNat : Int) == 93) = (s[k].toNat == 93) := by rw [Bool.eq_iff_iff, beq_iff_eq, beq_iff_eq]; omega
      simp [bne, hq]
    · have hd : decide ((k : Int) < (s.size : Int)) = false := decide_eq_false (by omega)
      have HL : Hid (decide (i + 1 < s.data.toList.length) = false) := decide_eq_false (by rw [len_eq]; omega)
      clear hk
      go_enter Tryz.func431, Tryz.ntmps431
      go_wp2
      go_quiet (first | (go_at_call 122; exact Calls.quiet_of (sees_is b 0 s i hi 45 true H1.out _ HR.out.at)))
      go_wp2
      go_ret
      exact ⟨ret_bool (by unfold rngB; rw [HL.out, H1.out]; rfl), _, rfl⟩
end Go.Proofs.YtdbdbaepmdmnfaaGreatDoor
namespace Go.Proofs.YtdbdbaepmdmnfaaGreatDoor
open Go.RowKit
/-- Four words, a bit a byte. -/
def SetIs (xs : Nat → Nat) (S : UInt8 → Bool) : Prop := (∀ k, xs k < 18446744073709551616) ∧ ∀ c : UInt8, S c = (xs (c.toNat / 64)).testBit (c.toNat % 64)
def SetAt (w : World) (b o : Nat) (xs : Nat → Nat) : Prop := ∀ k, k < 4 → w.cell? ⟨b, o + k, none⟩ = some (.int .u64 (xs k))
theorem bit_eq (X m : Nat) (hx : X < 18446744073709551616) : (bits BinOp.and IntKind.u64 ((X : Int) / 2 ^ m) 1 == 1) = X.testBit m := by
  have h1 : (X : Int) / 2 ^ m = ((X / 2 ^ m : Nat) : Int) := by simp
  have h2 : X / 2 ^ m ≤ X := Nat.div_le_self _ _
  have h3 : (0 : Int) ≤ ((X / 2 ^ m : Nat) : Int) := Int.natCast_nonneg _
  have h4 : ((X / 2 ^ m : Nat) : Int) ≤ (X : Int) := Int.ofNat_le.2 h2
  rw [h1, and_one_u64 _ h3 (by omega), Nat.testBit_eq_decide_div_mod_eq, Bool.eq_iff_iff, beq_iff_eq, decide_eq_true_iff]
  omega
set_option maxHeartbeats 1000000 in
theorem has_any (b o : Nat) (xs : Nat → Nat) (S : UInt8 → Bool) (hS : SetIs xs S) (c : UInt8) (w : World) (h : SetAt w b o xs) :
    Calls Tryz.prog 125 #[.pointer (some ⟨b, o, none⟩), .int .u8 c.toNat] w fun e w' => e = .returned (.bool (S c)) ∧ w' = w := by
  have hc := c.toNat_lt
  have c0 := h (c.toNat / 64) (by omega)
  have HS := hide (hS.2 c)
  have hx := hS.1 (c.toNat / 64)
  have h1 : 0 ≤ (c.toNat : Int) / 64 % 256 ∧ (c.toNat : Int) / 64 % 256 < 4 := by omega
  clear h hS
  generalize xs (c.toNat / 64) = X at *
  go_enter Tryz.func125, Tryz.ntmps125
  go_wp2
  go_ret
  refine ⟨ret_bool ?_, rfl⟩
  rw [HS.out, bit_eq X _ hx]
def setCs (xs : Nat → Nat) : Array Value := #[.int .u64 (xs 0), .int .u64 (xs 1), .int .u64 (xs 2), .int .u64 (xs 3)]
def SetB (w : World) (b : Nat) (xs : Nat → Nat) : Prop := w.heap[b]? = some (.cells (setCs xs) 115 (0, 0))
theorem SetB.at {w b xs} (h : SetB w b xs) : SetAt w b 0 xs := by
  intro k hk
  match k, hk with
  | 0, _ => exact cell_of h rfl
  | 1, _ => exact cell_of h rfl
  | 2, _ => exact cell_of h rfl
  | 3, _ => exact cell_of h rfl
def upd (xs : Nat → Nat) (k v : Nat) (j : Nat) : Nat := if j = k then v else xs j
theorem SetB.set {w b xs} (h : SetB w b xs) (k v : Nat) (hk : k < 4) : SetB (w.setCell ⟨b, k, none⟩ (.int .u64 v)) b (upd xs k v) := by
  unfold SetB at *
  rw [heap_setCell_same h]
  match k, hk with
  | 0, _ => rfl
  | 1, _ => rfl
  | 2, _ => rfl
  | 3, _ => rfl
theorem or_eq (X m : Nat) (hx : X < 18446744073709551616) (hm : m < 64) : bits BinOp.or IntKind.u64 (X : Int) (IntKind.u64.wrap (2 ^ m)) = ((X ||| 2 ^ m : Nat) : Int) := by
  have h2 : 2 ^ m < 18446744073709551616 := by
    have : 2 ^ m < 2 ^ 64 := Nat.pow_lt_pow_right (by decide) hm
    omega
  have h1 : IntKind.u64.wrap (2 ^ m) = ((2 ^ m : Nat) : Int) := by
    have h3 : ((2 ^ m : Nat) : Int) = (2 : Int) ^ m := by simp
    rw [IntKind.wrap_u64, ← h3]
    generalize 2 ^ m = y at *
    omega
  rw [h1, u64_or_nat X _ hx h2]
theorem SetIs.add {xs : Nat → Nat} {S T : UInt8 → Bool} {j : Nat} (h : SetIs xs S) (hT : ∀ c : UInt8, T c = (S c || decide (c.toNat = j))) : SetIs (upd xs (j / 64) (xs (j / 64) ||| 2 ^ (j % 64))) T := by
  constructor
  · intro k
    unfold upd
    split
    · have h1 : xs (j / 64) < 2 ^ 64 := by have := h.1 (j / 64); omega
      have h2 : 2 ^ (j % 64) < 2 ^ 64 := Nat.pow_lt_pow_right (by decide) (Nat.mod_lt _ (by decide))
      have := Nat.or_lt_two_pow h1 h2
      omega
    · exact h.1 k
  · intro c
    rw [hT, h.2 c]
    unfold upd
    split
    · rename_i hk
      rw [hk, Nat.testBit_or, Nat.testBit_two_pow]
      congr 1
      rw [Bool.eq_iff_iff, decide_eq_true_iff, decide_eq_true_iff]
      omega
    · rename_i hk
      rw [show decide (c.toNat = j) = false from decide_eq_false (fun e => hk (by rw [e])), Bool.or_false]
theorem Only.drew {D : Nat → Prop} {a w : World} (h : Only D a w) : Only D a w.drew := ⟨h.os, h.tape, h.output, h.size, h.block⟩
set_option maxHeartbeats 1000000 in
theorem add_any (b : Nat) (xs : Nat → Nat) (S : UInt8 → Bool) (hS : SetIs xs S) (lo hi : UInt8) (w : World) (h : SetB w b xs) :
    Calls Tryz.prog 369 #[.pointer (some ⟨b, 0, none⟩), .int .u8 lo.toNat, .int .u8 hi.toNat] w fun e w' => e = .returned (.tuple #[]) ∧ (∃ ys, SetIs ys (orS S (rangeS lo hi)) ∧ SetB w' b ys) ∧ Only (fun k => k = b) w w' := by
  have hlo := lo.toNat_lt
  have hhi := hi.toNat_lt
  go_enter Tryz.func369, Tryz.ntmps369
  go_wp2
  go_loopw [6] (fun i wr => ∃ (j : Nat) (ys : Nat → Nat), lo.toNat ≤ j ∧ (j ≤ hi.toNat + 1 ∨ j = lo.toNat) ∧ i = .int .i64 j ∧ SetIs ys (orS S (fun c => decide (lo.toNat ≤ c.toNat) && decide (c.toNat < j))) ∧ SetB wr b ys ∧ Only (fun k => k = b) w wr) (fun i _ => 256 - (intOf i).toNat)
  case atStart =>
    refine ⟨lo.toNat, xs, Nat.le_refl _, Or.inr rfl, by go_num, ?_, h, Only.refl _ _⟩
    refine ⟨hS.1, fun c => ?_⟩
    rw [← hS.2 c]
    show (S c || (decide (lo.toNat ≤ c.toNat) && decide (c.toNat < lo.toNat))) = S c
    by_cases hc : lo.toNat ≤ c.toNat
    · rw [decide_eq_false (show ¬ c.toNat < lo.toNat by omega), Bool.and_false, Bool.or_false]
    · rw [decide_eq_false hc, Bool.false_and, Bool.or_false]
  case round =>
    obtain ⟨j, ys, h1, h2, rfl, h3, h4, h5⟩ := hrel
    by_cases hj : j ≤ hi.toNat
    · have c0 := h4.at (j / 64) (by omega)
      have hf := free_of h4 (j / 64)
      simp only [Nat.zero_add] at c0
      have H3 : Hid (SetIs (upd ys (j / 64) (ys (j / 64) ||| 2 ^ (j % 64))) (orS S (fun c => decide (lo.toNat ≤ c.toNat) && decide (c.toNat < j + 1)))) := h3.add (fun c => by
        unfold orS
        rw [Bool.or_assoc]
        congr 1
        rw [Bool.eq_iff_iff]
        simp only [Bool.and_eq_true, Bool.or_eq_true, decide_eq_true_iff]
        omega)
      have hx := h3.1 (j / 64)
      have H4 : Hid (SetB ((wr.setCell ⟨b, j / 64, none⟩ (.int .u64 ((ys (j / 64) ||| 2 ^ (j % 64) : Nat))))) b (upd ys (j / 64) (ys (j / 64) ||| 2 ^ (j % 64)))) := h4.set (j / 64) _ (by omega)
      have H5 := hide h5
      have HO := hide (or_eq (ys (j / 64)) (j % 64) hx (by omega))
      clear h h3 h4 h5
      generalize ys (j / 64) = X at *
      go_wp2
      go_region
      rw [HO.out]
      go_wp2
      go_roundw
      case rel => exact ⟨j + 1, _, by omega, Or.inl (by omega), by go_num, H3.out, H4.out, (H5.out.setCell (p := ⟨b, j / 64, none⟩) (fun _ => rfl) _).drew⟩
      case measure => simp [intOf]; omega
    · have H3 : Hid (SetIs ys (orS S (rangeS lo hi))) := by
        refine ⟨h3.1, fun c => ?_⟩
        rw [← h3.2 c]
        unfold orS rangeS
        congr 1
        rw [Bool.eq_iff_iff]
        simp only [Bool.and_eq_true, decide_eq_true_iff]
        omega
      have H4 := hide h4
      have H5 := hide h5
      clear h h3 h4 h5
      go_wp2
      go_end0
      exact ⟨rfl, ⟨_, H3.out, H4.out⟩, H5.out⟩
end Go.Proofs.YtdbdbaepmdmnfaaGreatDoor
namespace Go.Proofs.YtdbdbaepmdmnfaaGreatDoor
open Go.RowKit
theorem SetIs.none : SetIs (fun _ => 0) (fun _ => false) := ⟨fun _ => by simp, fun c => by simp⟩
theorem SetIs.congr {xs S T} (h : SetIs xs S) (e : ∀ c, S c = T c) : SetIs xs T := ⟨h.1, fun c => by rw [← e]; exact h.2 c⟩
theorem new0 (w : World) (a : Obj) : (w.alloc a).heap[w.heap.size]? = some a := heap_alloc_new w a
theorem new1 (w : World) (a b : Obj) : ((w.alloc a).alloc b).heap[w.heap.size + 1]? = some b := by
  have := heap_alloc_new (w.alloc a) b
  rwa [show (w.alloc a).heap.size = w.heap.size + 1 by simp] at this
theorem old1 (w : World) (a b : Obj) : ((w.alloc a).alloc b).heap[w.heap.size]? = some a := by
  rw [Below.heap_alloc _ _ _ (by simp)]; exact new0 w a
set_option maxHeartbeats 1000000 in
theorem single_any (c : UInt8) (w : World) :
    Calls Tryz.prog 271 #[.int .u8 c.toNat] w fun e w' => ∃ ys, e = .returned (.agg (setCs ys)) ∧ SetIs ys (oneS c) ∧ Only (fun _ => False) w w' := by
  go_enter Tryz.func271, Tryz.ntmps271
  go_wp2_with fail
  refine (add_any _ (fun _ => 0) _ SetIs.none c c _ (new1 w _ _)).mono ?_
  rintro e w1 ⟨rfl, ⟨ys, hy, hb⟩, ho⟩
  have q : w1.heap[w.heap.size]? = some (.cells (setCs (fun _ => 0)) 115 (0, 0)) := by
    rw [ho.block w.heap.size (by simp; omega) (by omega)]
    exact old1 w _ _
  have HY : Hid (SetIs ys (oneS c)) := hy.congr (fun d => by simp [orS, oneS])
  have c0 : w1.cell? ⟨w.heap.size + 1, 0, none⟩ = some (.int .u64 (ys 0)) := cell_of hb rfl
  have c1 : w1.cell? ⟨w.heap.size + 1, 1, none⟩ = some (.int .u64 (ys 1)) := cell_of hb rfl
  have c2 : w1.cell? ⟨w.heap.size + 1, 2, none⟩ = some (.int .u64 (ys 2)) := cell_of hb rfl
  have c3 : w1.cell? ⟨w.heap.size + 1, 3, none⟩ = some (.int .u64 (ys 3)) := cell_of hb rfl
  have d0 : w1.cell? ⟨w.heap.size, 0, none⟩ = some (.int .u64 0) := cell_of q rfl
  have d1 : w1.cell? ⟨w.heap.size, 1, none⟩ = some (.int .u64 0) := cell_of q rfl
  have d2 : w1.cell? ⟨w.heap.size, 2, none⟩ = some (.int .u64 0) := cell_of q rfl
  have d3 : w1.cell? ⟨w.heap.size, 3, none⟩ = some (.int .u64 0) := cell_of q rfl
  have f0 := free_of q 0
  have f1 := free_of q 1
  have f2 := free_of q 2
  have f3 := free_of q 3
  have HO := hide ho
  have HQ := hide q
  clear hy hb ho q
  go_wp2
  have hn : ∀ o, w.heap.size < w.heap.size → (fun _ => False) (Addr.block ⟨w.heap.size, o, none⟩) := fun _ h => by omega
  refine bodyPost_ret (v := .agg (setCs ys)) (by simp [results, Tryz.results271, go_sem, setCs, d0, d1, d2, d3]) rfl ⟨ys, rfl, HY.out, ?_⟩
  exact (((((((Only.refl (fun _ => False) w).alloc _).alloc _).trans HO.out (fun i h e => by omega)).setCell (p := ⟨w.heap.size, 0, none⟩) (hn 0) _).setCell (p := ⟨w.heap.size, 1, none⟩) (hn 1) _).setCell (p := ⟨w.heap.size, 2, none⟩) (hn 2) _).setCell (p := ⟨w.heap.size, 3, none⟩) (hn 3) _
def notW (X : Nat) : Nat := 18446744073709551615 - X
theorem SetIs.not {xs S} (h : SetIs xs S) : SetIs (fun k => notW (xs k)) (notS S) := by
  refine ⟨fun k => by show 18446744073709551615 - xs k < _; omega, fun c => ?_⟩
  show (! S c) = (18446744073709551615 - xs (c.toNat / 64)).testBit (c.toNat % 64)
  have hx := h.1 (c.toNat / 64)
  rw [h.2 c, show 18446744073709551615 - xs (c.toNat / 64) = 2 ^ 64 - (xs (c.toNat / 64) + 1) by omega, Nat.testBit_two_pow_sub_succ (by omega)]
  have hm : c.toNat % 64 < 64 := Nat.mod_lt _ (by decide)
  simp [hm]
theorem xor_eq (X : Nat) (hx : X < 18446744073709551616) : bits BinOp.xor IntKind.u64 (if IntKind.u64.signed = true then -1 else IntKind.u64.max) (X : Int) = (notW X : Int) := by
  rw [show (if IntKind.u64.signed = true then -1 else IntKind.u64.max) = ((18446744073709551615 : Nat) : Int) from rfl, u64_xor_nat _ X (by omega) hx]
  congr 1
  unfold notW
  apply Nat.eq_of_testBit_eq
  intro i
  rw [Nat.testBit_xor, show 18446744073709551615 = 2 ^ 64 - 1 by rfl, Nat.testBit_two_pow_sub_one, show 2 ^ 64 - 1 - X = 2 ^ 64 - (X + 1) by omega, Nat.testBit_two_pow_sub_succ (by omega)]
  by_cases h : i < 64
  · simp [h]
  · have : X.testBit i = false := Nat.testBit_lt_two_pow (Nat.lt_of_lt_of_le (show X < 2 ^ 64 by omega) (Nat.pow_le_pow_right (by decide) (by omega)))
    simp [h, this]
def notTo (xs : Nat → Nat) (j k : Nat) : Nat := if k < j then notW (xs k) else xs k
theorem notTo_step (xs : Nat → Nat) (j : Nat) : upd (notTo xs j) j (notW (xs j)) = notTo xs (j + 1) := by
  funext k
  unfold upd notTo
  by_cases h : k = j
  · subst h; simp
  · rw [if_neg h]
    by_cases h2 : k < j
    · rw [if_pos h2, if_pos (by omega)]
    · rw [if_neg h2, if_neg (by omega)]
set_option maxHeartbeats 1000000 in
theorem others_any (xs : Nat → Nat) (S : UInt8 → Bool) (hS : SetIs xs S) (w : World) :
    Calls Tryz.prog 270 #[.agg (setCs xs)] w fun e w' => ∃ ys, e = .returned (.agg (setCs ys)) ∧ SetIs ys (notS S) ∧ Only (fun _ => False) w w' := by
  have HN := hide hS.not
  have HX := hide hS.1
  clear hS
  unfold setCs
  go_enter Tryz.func270, Tryz.ntmps270
  go_wp2
  go_loopw [4] (fun i wr => ∃ j : Nat, j ≤ 4 ∧ i = .int .i64 j ∧ SetB wr w.heap.size (notTo xs j) ∧ SetB wr (w.heap.size + 1) (fun _ => 0) ∧ Only (fun _ => False) w wr) (fun i _ => 4 - (intOf i).toNat)
  case atStart => exact ⟨0, by omega, rfl, old1 w _ _, new1 w _ _, ((Only.refl _ w).alloc _).alloc _⟩
  case round =>
    obtain ⟨j, h1, rfl, h3, h4, h5⟩ := hrel
    by_cases hj : j < 4
    · have c0 : wr.cell? ⟨w.heap.size, j, none⟩ = some (.int .u64 (xs j)) := by
        have := h3.at j hj
        rw [Nat.zero_add] at this
        rw [this]; simp [notTo]
      have f0 := free_of h3 j
      have hx := HX.out j
      have H3 : Hid (SetB (wr.setCell ⟨w.heap.size, j, none⟩ (.int .u64 (notW (xs j)))) w.heap.size (notTo xs (j + 1))) := by
        have := h3.set j (notW (xs j)) hj
        rw [notTo_step] at this
        exact this
      have H4 : Hid (SetB (wr.setCell ⟨w.heap.size, j, none⟩ (.int .u64 (notW (xs j)))) (w.heap.size + 1) (fun _ => 0)) := by
        show SetB _ _ _
        unfold SetB
        rw [Below.heap_setCell _ _ _ _ (show w.heap.size + 1 ≠ w.heap.size by omega)]; exact h4
      have H5 := hide (h5.setCell (p := ⟨w.heap.size, j, none⟩) (fun h => absurd h (Nat.lt_irrefl _)) (.int .u64 (notW (xs j))))
      have HO := hide (xor_eq (xs j) hx)
      clear h3 h4 h5
      go_wp2
      rw [HO.out]
      go_roundw
      case rel => exact ⟨j + 1, by omega, by go_num, H3.out, H4.out, H5.out⟩
      case measure => simp [intOf]; omega
    · obtain rfl : j = 4 := by omega
      have c0 : wr.cell? ⟨w.heap.size, 0, none⟩ = some (.int .u64 (notW (xs 0))) := cell_of h3 rfl
      have c1 : wr.cell? ⟨w.heap.size, 1, none⟩ = some (.int .u64 (notW (xs 1))) := cell_of h3 rfl
      have c2 : wr.cell? ⟨w.heap.size, 2, none⟩ = some (.int .u64 (notW (xs 2))) := cell_of h3 rfl
      have c3 : wr.cell? ⟨w.heap.size, 3, none⟩ = some (.int .u64 (notW (xs 3))) := cell_of h3 rfl
      have d0 : wr.cell? ⟨w.heap.size + 1, 0, none⟩ = some (.int .u64 0) := cell_of h4 rfl
      have d1 : wr.cell? ⟨w.heap.size + 1, 1, none⟩ = some (.int .u64 0) := cell_of h4 rfl
      have d2 : wr.cell? ⟨w.heap.size + 1, 2, none⟩ = some (.int .u64 0) := cell_of h4 rfl
      have d3 : wr.cell? ⟨w.heap.size + 1, 3, none⟩ = some (.int .u64 0) := cell_of h4 rfl
      have f0 := free_of h4 0
      have f1 := free_of h4 1
      have f2 := free_of h4 2
      have f3 := free_of h4 3
      have hn : ∀ o, w.heap.size + 1 < w.heap.size → (fun _ => False) (Addr.block ⟨w.heap.size + 1, o, none⟩) := fun _ h => by omega
      have H5 := hide h5
      clear h3 h4 h5
      go_wp2
      refine bodyPost_ret (v := .agg (setCs (fun k => notW (xs k)))) (by simp [results, Tryz.results270, go_sem, setCs, d0, d1, d2, d3]) rfl ⟨_, rfl, HN.out, ?_⟩
      exact (((H5.out.setCell (p := ⟨w.heap.size + 1, 0, none⟩) (hn 0) _).setCell (p := ⟨w.heap.size + 1, 1, none⟩) (hn 1) _).setCell (p := ⟨w.heap.size + 1, 2, none⟩) (hn 2) _).setCell (p := ⟨w.heap.size + 1, 3, none⟩) (hn 3) _
end Go.Proofs.YtdbdbaepmdmnfaaGreatDoor
namespace Go.Proofs.YtdbdbaepmdmnfaaGreatDoor
open Go.RowKit
theorem rngB_true {l : List UInt8} {j : Nat} (h : rngB l j = true) : hasB l j 45 = true ∧ j + 1 < l.length ∧ hasB l (j + 1) 93 = false := by
  unfold rngB at h
  simp only [Bool.and_eq_true, decide_eq_true_iff, Bool.not_eq_true'] at h
  exact ⟨h.1.1, h.1.2, h.2⟩
theorem memberP_one {l : List UInt8} {i j : Nat} {lo : UInt8} (h : lowP l i = some (lo, j)) (hr : rngB l j = false) : memberP l i = some (rangeS lo lo, j) := by
  unfold memberP
  rw [h]
  simp only
  split
  · rename_i c hd hb hc
    split
    · rfl
    · rename_i h93
      have : rngB l j = true := by
        unfold rngB
        rw [hb, decide_eq_true (some_lt hc)]
        unfold hasB
        rw [hc]
        simp [h93]
      rw [hr] at this; cases this
  · rfl
theorem memberP_two {l : List UInt8} {i j : Nat} {lo h : UInt8} (hl : lowP l i = some (lo, j)) (hr : rngB l j = true) (hh : l[j + 1]? = some h) :
    memberP l i = if h.toNat = 92 ∨ h.toNat < lo.toNat then none else some (rangeS lo h, j + 2) := by
  obtain ⟨h1, h2, h3⟩ := rngB_true hr
  unfold memberP
  rw [hl]
  simp only
  rw [h1, hh]
  simp only
  rw [if_neg]
  unfold hasB at h3
  rw [hh] at h3
  simpa using h3
set_option maxHeartbeats 2000000 in
theorem member_any (b g : Nat) (hgb : ¬ b = g) (s : ByteArray) (hs : s.size ≤ maxLen) (i : Nat) (hi : i ≤ s.size) (xs : Nat → Nat) (S : UInt8 → Bool) (hS : SetIs xs S) (w : World) (h : RdB w b s i) (hg : SetB w g xs) :
    Calls Tryz.prog 368 #[.pointer (some ⟨b, 0, none⟩), .pointer (some ⟨g, 0, none⟩)] w fun e w' => e = .returned (.bool (memberP s.data.toList i).isSome) ∧ Only (fun k => k = b ∨ k = g) w w' ∧
      ∀ T j, memberP s.data.toList i = some (T, j) → RdB w' b s j ∧ ∃ ys, SetIs ys (orS S T) ∧ SetB w' g ys := by
  have HS := hide hS
  have HR0 := hide h
  have HG0 := hide hg
  have hml : s.size ≤ 9223372036854775807 := hs
  clear h hg hS
  by_cases hlt : i < s.size
  · have HG1 := hide (get_of_lt s i hlt)
    go_enter Tryz.func368, Tryz.ntmps368
    go_wp2_with fail
    refine (take_some b s hs i hlt _ HR0.out).mono ?_
    rintro e w1 ⟨rfl, hr1, ho1⟩
    have HR1 := hide hr1
    have HG2 : Hid (SetB w1 g xs) := (ho1.block g (heap_lt HG0.out) (fun e => hgb e.symm)).trans HG0.out
    have HO1 := hide (ho1.mono (E := fun k => k = b ∨ k = g) (fun k _ e => Or.inl e))
    clear hr1 ho1
    by_cases hc : s[i].toNat = 92
    · by_cases hl2 : i + 1 < s.size
      · have HG3 := hide (get_of_lt s (i + 1) hl2)
        have HLow : Hid (lowP s.data.toList i = some (s[i + 1], i + 2)) := by
          show lowP _ _ = _
          unfold lowP; rw [HG1.out]; simp only; rw [if_pos hc, HG3.out]
        have hci : (s[i].toNat : Int) = 92 := by omega
        go_wp2_with fail
        refine (take_some b s hs (i + 1) hl2 _ HR1.out).mono ?_
        rintro e w2 ⟨rfl, hr2, ho2⟩
        obtain ⟨J, hJ⟩ : ∃ J, J = i + 2 := ⟨_, rfl⟩
        have hJs : J ≤ s.size := by omega
        have HRd : Hid (RdB w2 b s J) := by rw [hJ]; exact hr2
        rw [← hJ] at HLow
        generalize s[i + 1] = LW at *
        have HSt : Hid (SetB w2 g xs) := (ho2.block g (heap_lt HG2.out) (fun e => hgb e.symm)).trans HG2.out
        have HOn : Hid (Only (fun k => k = b ∨ k = g) w w2) := HO1.out.trans ho2 (fun k _ e => Or.inl e)
        clear hr2 ho2 hJ
        have c0 : w2.cell? ⟨b, 0, none⟩ = some (.string s) := HRd.out.at.1
        have c1 : w2.cell? ⟨b, 1, none⟩ = some (.int .i64 J) := HRd.out.at.2
        have f1 : w2.frozen? ⟨b, 1, none⟩ = false := HRd.out.free 1
        cases hr : rngB s.data.toList J
        · have HRng := hide hr
          have HM : Hid (memberP s.data.toList i = some (rangeS LW LW, J)) := memberP_one HLow.out hr
          clear hr
          go_wp2_with fail
          refine (range_any b s hs J hJs _ HRd.out).mono ?_
          rintro e w' ⟨rfl, n3, rfl⟩
          rw [HRng.out]
          go_wp2_with fail
          refine (add_any g xs S HS.out LW LW _ ?hset).mono ?_
          case hset => exact HSt.out
          rintro e w4 ⟨rfl, ⟨ys, hy, hb⟩, ho⟩
          have H1 := hide (RdB.only (HRd.out.drewN n3) ho hgb)
          have H2 := hide hy
          have H3 := hide hb
          have H4 := hide ((HOn.out.drewN n3).trans ho (fun k _ e => Or.inr e))
          clear hy hb ho
          go_wp2
          go_ret
          exact ⟨ret_bool (by rw [HM.out]; rfl), H4.out, fun T k h => by rw [HM.out] at h; cases h; exact ⟨H1.out, ys, H2.out, H3.out⟩⟩
        · have HRng := hide hr
          obtain ⟨_, hk2, _⟩ := rngB_true hr
          rw [len_eq] at hk2
          obtain ⟨k, hk⟩ : ∃ k, k = J + 1 := ⟨_, rfl⟩
          have hks : k < s.size := by omega
          have hwr : IntKind.i64.wrap ((J : Int) + 1) = (k : Int) := by rw [IntKind.wrap_i64]; omega
          obtain ⟨m, hm⟩ : ∃ m, m = J + 2 := ⟨_, rfl⟩
          have hwm : IntKind.i64.wrap ((J : Int) + 2) = (m : Int) := by rw [IntKind.wrap_i64]; omega
          have HG := hide (get_of_lt s k hks)
          have HM : Hid (memberP s.data.toList i = if s[k].toNat = 92 ∨ s[k].toNat < LW.toNat then none else some (rangeS LW s[k], m)) := by
            have h7 := memberP_two HLow.out hr (by rw [← hk]; exact HG.out)
            rw [← hm] at h7
            exact h7
          clear hr hk hm hk2
          go_wp2_with fail
          refine (range_any b s hs J hJs _ HRd.out).mono ?_
          rintro e w' ⟨rfl, n3, rfl⟩
          rw [HRng.out]
          go_wp2_with fail
          go_quiet (fail)
          by_cases h92 : (s[k].toNat : Int) = 92
          · go_wp2
            go_ret
            exact ⟨ret_bool (by rw [HM.out, if_pos (Or.inl (by omega))]; rfl), (HOn.out.drewN _).setCell (p := ⟨b, 1, none⟩) (fun _ => Or.inl rfl) _, fun T k h => by rw [HM.out, if_pos (Or.inl (by omega))] at h; cases h⟩
          · by_cases hlo : (s[k].toNat : Int) < (LW.toNat : Int)
            · go_wp2
              go_ret
              exact ⟨ret_bool (by rw [HM.out, if_pos (Or.inr (by omega))]; rfl), (HOn.out.drewN _).setCell (p := ⟨b, 1, none⟩) (fun _ => Or.inl rfl) _, fun T k h => by rw [HM.out, if_pos (Or.inr (by omega))] at h; cases h⟩
            · go_wp2_with fail
              refine (add_any g xs S HS.out LW s[k] _ ?hset).mono ?_
              case hset =>
                unfold SetB
                rw [Below.heap_setCell _ _ _ _ (fun e => hgb e.symm)]
                exact HSt.out
              rintro e w4 ⟨rfl, ⟨ys, hy, hb⟩, ho⟩
              have H1 : Hid (RdB w4 b s m) := RdB.only ((HRd.out.drewN _).set m) ho hgb
              have H2 := hide hy
              have H3 := hide hb
              have H4 := hide (((HOn.out.drewN _).setCell (p := ⟨b, 1, none⟩) (fun _ => Or.inl rfl) _).trans ho (fun k _ e => Or.inr e))
              have HN : Hid (¬ (s[k].toNat = 92 ∨ s[k].toNat < LW.toNat)) := by
                intro h
                omega
              clear hy hb ho
              go_wp2
              go_ret
              exact ⟨ret_bool (by rw [HM.out, if_neg HN.out]; rfl), H4.out, fun T k h => by rw [HM.out, if_neg HN.out] at h; cases h; exact ⟨H1.out, ys, H2.out, H3.out⟩⟩
      · have HM : Hid (memberP s.data.toList i = none) := by
          show memberP _ _ = _
          unfold memberP lowP
          rw [HG1.out]
          simp only
          rw [if_pos hc, get_none s (i + 1) (by omega)]
        have hci : (s[i].toNat : Int) = 92 := by omega
        have HR2 : Hid (RdB w1 b s s.size) := by
          have h7 : i + 1 = s.size := by omega
          rw [← h7]; exact HR1.out
        go_wp2_with fail
        refine (take_none b s _ HR2.out).mono ?_
        rintro e w2 ⟨rfl, hr2, ho2⟩
        have HOn : Hid (Only (fun k => k = b ∨ k = g) w w2) := HO1.out.trans ho2 (fun k _ e => Or.inl e)
        clear hr2 ho2
        go_wp2
        go_ret
        exact ⟨ret_bool (by rw [HM.out]; rfl), HOn.out, fun T k h => by rw [HM.out] at h; cases h⟩
    · have HLow : Hid (lowP s.data.toList i = some (s[i], i + 1)) := by
        show lowP _ _ = _
        unfold lowP; rw [HG1.out]; simp only; rw [if_neg hc]
      have hci : ¬ (s[i].toNat : Int) = 92 := by omega
      obtain ⟨J, hJ⟩ : ∃ J, J = i + 1 := ⟨_, rfl⟩
      have hJs : J ≤ s.size := by omega
      have HRd : Hid (RdB w1 b s J) := by rw [hJ]; exact HR1.out
      rw [← hJ] at HLow
      clear hJ
      have HSt := HG2
      have HOn := HO1
      have c0 : w1.cell? ⟨b, 0, none⟩ = some (.string s) := HRd.out.at.1
      have c1 : w1.cell? ⟨b, 1, none⟩ = some (.int .i64 J) := HRd.out.at.2
      have f1 : w1.frozen? ⟨b, 1, none⟩ = false := HRd.out.free 1
      cases hr : rngB s.data.toList J
      · have HRng := hide hr
        have HM : Hid (memberP s.data.toList i = some (rangeS s[i] s[i], J)) := memberP_one HLow.out hr
        clear hr
        go_wp2_with fail
        refine (range_any b s hs J hJs _ HRd.out).mono ?_
        rintro e w' ⟨rfl, n3, rfl⟩
        rw [HRng.out]
        go_wp2_with fail
        refine (add_any g xs S HS.out s[i] s[i] _ ?hset).mono ?_
        case hset => exact HSt.out
        rintro e w4 ⟨rfl, ⟨ys, hy, hb⟩, ho⟩
        have H1 := hide (RdB.only (HRd.out.drewN n3) ho hgb)
        have H2 := hide hy
        have H3 := hide hb
        have H4 := hide ((HOn.out.drewN n3).trans ho (fun k _ e => Or.inr e))
        clear hy hb ho
        go_wp2
        go_ret
        exact ⟨ret_bool (by rw [HM.out]; rfl), H4.out, fun T k h => by rw [HM.out] at h; cases h; exact ⟨H1.out, ys, H2.out, H3.out⟩⟩
      · have HRng := hide hr
        obtain ⟨_, hk2, _⟩ := rngB_true hr
        rw [len_eq] at hk2
        obtain ⟨k, hk⟩ : ∃ k, k = J + 1 := ⟨_, rfl⟩
        have hks : k < s.size := by omega
        have hwr : IntKind.i64.wrap ((J : Int) + 1) = (k : Int) := by rw [IntKind.wrap_i64]; omega
        obtain ⟨m, hm⟩ : ∃ m, m = J + 2 := ⟨_, rfl⟩
        have hwm : IntKind.i64.wrap ((J : Int) + 2) = (m : Int) := by rw [IntKind.wrap_i64]; omega
        have HG := hide (get_of_lt s k hks)
        have HM : Hid (memberP s.data.toList i = if s[k].toNat = 92 ∨ s[k].toNat < s[i].toNat then none else some (rangeS s[i] s[k], m)) := by
          have h7 := memberP_two HLow.out hr (by rw [← hk]; exact HG.out)
          rw [← hm] at h7
          exact h7
        clear hr hk hm hk2
        go_wp2_with fail
        refine (range_any b s hs J hJs _ HRd.out).mono ?_
        rintro e w' ⟨rfl, n3, rfl⟩
        rw [HRng.out]
        go_wp2_with fail
        go_quiet (fail)
        by_cases h92 : (s[k].toNat : Int) = 92
        · go_wp2
          go_ret
          exact ⟨ret_bool (by rw [HM.out, if_pos (Or.inl (by omega))]; rfl), (HOn.out.drewN _).setCell (p := ⟨b, 1, none⟩) (fun _ => Or.inl rfl) _, fun T k h => by rw [HM.out, if_pos (Or.inl (by omega))] at h; cases h⟩
        · by_cases hlo : (s[k].toNat : Int) < (s[i].toNat : Int)
          · go_wp2
            go_ret
            exact ⟨ret_bool (by rw [HM.out, if_pos (Or.inr (by omega))]; rfl), (HOn.out.drewN _).setCell (p := ⟨b, 1, none⟩) (fun _ => Or.inl rfl) _, fun T k h => by rw [HM.out, if_pos (Or.inr (by omega))] at h; cases h⟩
          · go_wp2_with fail
            refine (add_any g xs S HS.out s[i] s[k] _ ?hset).mono ?_
            case hset =>
              unfold SetB
              rw [Below.heap_setCell _ _ _ _ (fun e => hgb e.symm)]
              exact HSt.out
            rintro e w4 ⟨rfl, ⟨ys, hy, hb⟩, ho⟩
            have H1 : Hid (RdB w4 b s m) := RdB.only ((HRd.out.drewN _).set m) ho hgb
            have H2 := hide hy
            have H3 := hide hb
            have H4 := hide (((HOn.out.drewN _).setCell (p := ⟨b, 1, none⟩) (fun _ => Or.inl rfl) _).trans ho (fun k _ e => Or.inr e))
            have HN : Hid (¬ (s[k].toNat = 92 ∨ s[k].toNat < s[i].toNat)) := by
              intro h
              omega
            clear hy hb ho
            go_wp2
            go_ret
            exact ⟨ret_bool (by rw [HM.out, if_neg HN.out]; rfl), H4.out, fun T k h => by rw [HM.out, if_neg HN.out] at h; cases h; exact ⟨H1.out, ys, H2.out, H3.out⟩⟩
  · obtain rfl : i = s.size := by omega
    have HM : Hid (memberP s.data.toList s.size = none) := by
      show memberP _ _ = _
      unfold memberP lowP
      rw [get_none s s.size (Nat.le_refl _)]
    go_enter Tryz.func368, Tryz.ntmps368
    go_wp2_with fail
    refine (take_none b s _ HR0.out).mono ?_
    rintro e w2 ⟨rfl, hr2, ho2⟩
    have HOn : Hid (Only (fun k => k = b ∨ k = g) w w2) := ho2.mono (fun k _ e => Or.inl e)
    clear hr2 ho2
    go_wp2
    go_ret
    exact ⟨ret_bool (by rw [HM.out]; rfl), HOn.out, fun T k h => by rw [HM.out] at h; cases h⟩
end Go.Proofs.YtdbdbaepmdmnfaaGreatDoor
namespace Go.Proofs.YtdbdbaepmdmnfaaGreatDoor
open Go.RowKit
/-- The place at which a reader stands. -/
def posOf (w : World) (b : Nat) : Nat := match w.cell? ⟨b, 1, none⟩ with | some v => (intOf v).toNat | none => 0
theorem pos_of {w b s i} (h : RdB w b s i) : posOf w b = i := by
  have h1 : w.cell? ⟨b, 1, none⟩ = some (.int .i64 i) := h.at.2
  unfold posOf
  rw [h1]
  simp [intOf]
set_option maxHeartbeats 2000000 in
theorem class_any (b : Nat) (s : ByteArray) (hs : s.size ≤ maxLen) (i : Nat) (hi : i ≤ s.size) (w : World) (h : RdB w b s i) :
    Calls Tryz.prog 269 #[.pointer (some ⟨b, 0, none⟩)] w fun e w' => Only (fun k => k = b) w w' ∧ (classP s.data.toList i = none → e = .returned (.tuple #[.agg (setCs (fun _ => 0)), .bool false])) ∧
      ∀ S j, classP s.data.toList i = some (S, j) → ∃ ys, e = .returned (.tuple #[.agg (setCs ys), .bool true]) ∧ SetIs ys S ∧ RdB w' b s j := by
  have hbl := heap_lt h
  have hml : s.size ≤ 9223372036854775807 := hs
  have HR1 : ∀ o1 o2, Hid (RdB ((w.alloc o1).alloc o2) b s i) := fun o1 o2 => by
    show RdB _ _ _ _
    unfold RdB
    rw [Below.heap_alloc _ _ _ (by simp; omega), Below.heap_alloc _ _ _ hbl]; exact h
  have k1 : w.cell? ⟨b, 1, none⟩ = some (.int .i64 i) := h.at.2
  have kf : w.frozen? ⟨b, 1, none⟩ = false := h.free 1
  clear h
  cases hn : hasB s.data.toList i 94
  · have HN := hide hn
    clear hn
    obtain ⟨R, HR⟩ : ∃ R, Hid (membersP (s.data.toList.length + 1) s.data.toList i true (fun _ => false) = R) := ⟨_, rfl⟩
    go_enter Tryz.func269, Tryz.ntmps269
    go_wp2_with (go_at_call 122; refine (sees_is b 0 s i hi 94 false HN.out _ (HR1 _ _).out.at).mono ?_; rintro e w' ⟨rfl, n1, rfl⟩)
    go_loopw [6] (fun f wr => ∃ (F : Bool) (j n : Nat) (S : UInt8 → Bool) (ys : Nat → Nat), f = .bool F ∧ j ≤ s.size ∧ s.size - j < n ∧ membersP n s.data.toList j F S = R ∧ SetIs ys S ∧ RdB wr b s j ∧ SetB wr (w.heap.size + 1) ys ∧ SetB wr w.heap.size (fun _ => 0) ∧ Only (fun k => k = b) w wr) (fun _ wr => s.size - posOf wr b)
    case atStart => exact ⟨true, i, _, _, fun _ => 0, rfl, hi, by rw [len_eq]; omega, HR.out, SetIs.none, (HR1 _ _).out, new1 w _ _, old1 w _ _, (((Only.refl _ w).alloc _).alloc _).drewN _⟩
    case round =>
      obtain ⟨F, j, n, S, ys, rfl, hj, hn, hm, h3, h4, h5, h6, h7⟩ := hrel
      obtain ⟨m, rfl⟩ : ∃ m, n = m + 1 := ⟨n - 1, by omega⟩
      have HRd := hide h4
      have HSi := hide h3
      have HSt := hide h5
      have HZ := hide h6
      have HOn := hide h7
      have hbw : b ≠ w.heap.size := by omega
      have hn : ∀ o, w.heap.size < w.heap.size → (fun k => k = b) (Addr.block ⟨w.heap.size, o, none⟩) := fun _ h => absurd h (Nat.lt_irrefl _)
      have hpos := pos_of h4
      by_cases hex : F = false ∧ hasB s.data.toList j 93 = true
      · obtain ⟨rfl, hb⟩ := hex
        have HB := hide hb
        have hlt := hasB_lt hb
        rw [len_eq] at hlt
        have HC : Hid (classP s.data.toList i = some (S, j + 1)) := by
          show classP _ _ = _
          have hm2 : R = some (S, j + 1) := by rw [← hm]; unfold membersP; rw [if_pos ⟨rfl, hb⟩]
          have hR2 := HR.out
          rw [hm2] at hR2
          unfold classP
          rw [HN.out]
          simp only [if_false, Bool.false_eq_true]
          rw [hR2]
        have c1 : wr.cell? ⟨b, 1, none⟩ = some (.int .i64 j) := h4.at.2
        have f1 : wr.frozen? ⟨b, 1, none⟩ = false := h4.free 1
        have e0 : wr.cell? ⟨w.heap.size + 1, 0, none⟩ = some (.int .u64 (ys 0)) := cell_of h5 rfl
        have e1 : wr.cell? ⟨w.heap.size + 1, 1, none⟩ = some (.int .u64 (ys 1)) := cell_of h5 rfl
        have e2 : wr.cell? ⟨w.heap.size + 1, 2, none⟩ = some (.int .u64 (ys 2)) := cell_of h5 rfl
        have e3 : wr.cell? ⟨w.heap.size + 1, 3, none⟩ = some (.int .u64 (ys 3)) := cell_of h5 rfl
        have d0 : wr.cell? ⟨w.heap.size, 0, none⟩ = some (.int .u64 0) := cell_of h6 rfl
        have d1 : wr.cell? ⟨w.heap.size, 1, none⟩ = some (.int .u64 0) := cell_of h6 rfl
        have d2 : wr.cell? ⟨w.heap.size, 2, none⟩ = some (.int .u64 0) := cell_of h6 rfl
        have d3 : wr.cell? ⟨w.heap.size, 3, none⟩ = some (.int .u64 0) := cell_of h6 rfl
        have g0 := free_of h6 0
        have g1 := free_of h6 1
        have g2 := free_of h6 2
        have g3 := free_of h6 3
        clear h3 h4 h5 h6 h7 hb hm
        go_wp2_with (go_at_call 122; refine (sees_is b 0 s j hj 93 true HB.out _ HRd.out.at).mono ?_; rintro e w' ⟨rfl, n3, rfl⟩)
        refine bodyPost_ret (v := .tuple #[.agg (setCs ys), .bool true]) (by simp [results, Tryz.results269, go_sem, setCs, d0, d1, d2, d3]) rfl ⟨?_, fun h => (by rw [HC.out] at h; cases h), fun S' j' h => ?_⟩
        · exact (((((HOn.out.drewN _).setCell (p := ⟨b, 1, none⟩) (fun _ => rfl) _).setCell (p := ⟨w.heap.size, 0, none⟩) (hn 0) _).setCell (p := ⟨w.heap.size, 1, none⟩) (hn 1) _).setCell (p := ⟨w.heap.size, 2, none⟩) (hn 2) _).setCell (p := ⟨w.heap.size, 3, none⟩) (hn 3) _
        · rw [HC.out] at h
          cases h
          refine ⟨ys, rfl, HSi.out, ?_⟩
          unfold RdB
          rw [Below.heap_setCell _ _ _ _ hbw, Below.heap_setCell _ _ _ _ hbw, Below.heap_setCell _ _ _ _ hbw, Below.heap_setCell _ _ _ _ hbw]
          exact (HRd.out.drewN _).set (j + 1)
      · have hne : ¬ b = w.heap.size + 1 := by omega
        have hnp : ¬ w.heap.size = b ∧ ¬ w.heap.size = w.heap.size + 1 := by omega
        have HM0 : Hid (membersP (m + 1) s.data.toList j F S = R) := hm
        have HE := hide hex
        cases hM : memberP s.data.toList j with
        | none =>
          have HM := hide hM
          have HC : Hid (classP s.data.toList i = none) := by
            show classP _ _ = _
            have hm2 : R = none := by rw [← hm]; unfold membersP; rw [if_neg hex, hM]
            have hR2 := HR.out
            rw [hm2] at hR2
            unfold classP
            rw [HN.out]
            simp only [if_false, Bool.false_eq_true]
            rw [hR2]
          clear hm hM
          cases F
          · skip
            have HB : Hid (hasB s.data.toList j 93 = false) := by
              show hasB _ _ _ = _
              cases hb : hasB s.data.toList j 93 with
              | false => rfl
              | true => exact absurd ⟨rfl, hb⟩ HE.out
            clear h3 h4 h5 h6 h7 hex
            go_wp2_with (go_at_call 122; refine (sees_is b 0 s j hj 93 false HB.out _ HRd.out.at).mono ?_; rintro e w' ⟨rfl, n3, rfl⟩)
            refine (member_any b (w.heap.size + 1) hne s hs j hj ys S HSi.out _ ?hrd ?hset).mono ?_
            case hrd => exact HRd.out
            case hset => exact HSt.out
            rintro e w2 ⟨rfl, ho, hT⟩
            rw [HM.out]
            have HO2 : Hid (Only (fun k => k = b) w w2) := (HOn.out.drewN n3).trans ho (fun k hk e => by omega)
            have h6 : SetB w2 w.heap.size (fun _ => 0) := (ho.block w.heap.size (heap_lt HZ.out) (fun e => by omega)).trans HZ.out
            have HZ2 := hide h6
            have d0 : w2.cell? ⟨w.heap.size, 0, none⟩ = some (.int .u64 0) := cell_of h6 rfl
            have d1 : w2.cell? ⟨w.heap.size, 1, none⟩ = some (.int .u64 0) := cell_of h6 rfl
            have d2 : w2.cell? ⟨w.heap.size, 2, none⟩ = some (.int .u64 0) := cell_of h6 rfl
            have d3 : w2.cell? ⟨w.heap.size, 3, none⟩ = some (.int .u64 0) := cell_of h6 rfl
            have g0 := free_of h6 0
            have g1 := free_of h6 1
            have g2 := free_of h6 2
            have g3 := free_of h6 3
            clear h6 ho hT
            simp only [Option.isSome_none]
            go_wp2
            refine bodyPost_ret (v := .tuple #[.agg (setCs (fun _ => 0)), .bool false]) (by simp [results, Tryz.results269, go_sem, setCs, d0, d1, d2, d3]) rfl ⟨?_, fun _ => rfl, fun S' j' h => (by rw [HC.out] at h; cases h)⟩
            exact ((((HO2.out).setCell (p := ⟨w.heap.size, 0, none⟩) (hn 0) _).setCell (p := ⟨w.heap.size, 1, none⟩) (hn 1) _).setCell (p := ⟨w.heap.size, 2, none⟩) (hn 2) _).setCell (p := ⟨w.heap.size, 3, none⟩) (hn 3) _
          · skip
            clear h3 h4 h5 h6 h7 hex
            go_wp2_with fail
            refine (member_any b (w.heap.size + 1) hne s hs j hj ys S HSi.out _ ?hrd ?hset).mono ?_
            case hrd => exact HRd.out
            case hset => exact HSt.out
            rintro e w2 ⟨rfl, ho, hT⟩
            rw [HM.out]
            have HO2 : Hid (Only (fun k => k = b) w w2) := HOn.out.trans ho (fun k hk e => by omega)
            have h6 : SetB w2 w.heap.size (fun _ => 0) := (ho.block w.heap.size (heap_lt HZ.out) (fun e => by omega)).trans HZ.out
            have HZ2 := hide h6
            have d0 : w2.cell? ⟨w.heap.size, 0, none⟩ = some (.int .u64 0) := cell_of h6 rfl
            have d1 : w2.cell? ⟨w.heap.size, 1, none⟩ = some (.int .u64 0) := cell_of h6 rfl
            have d2 : w2.cell? ⟨w.heap.size, 2, none⟩ = some (.int .u64 0) := cell_of h6 rfl
            have d3 : w2.cell? ⟨w.heap.size, 3, none⟩ = some (.int .u64 0) := cell_of h6 rfl
            have g0 := free_of h6 0
            have g1 := free_of h6 1
            have g2 := free_of h6 2
            have g3 := free_of h6 3
            clear h6 ho hT
            simp only [Option.isSome_none]
            go_wp2
            refine bodyPost_ret (v := .tuple #[.agg (setCs (fun _ => 0)), .bool false]) (by simp [results, Tryz.results269, go_sem, setCs, d0, d1, d2, d3]) rfl ⟨?_, fun _ => rfl, fun S' j' h => (by rw [HC.out] at h; cases h)⟩
            exact ((((HO2.out).setCell (p := ⟨w.heap.size, 0, none⟩) (hn 0) _).setCell (p := ⟨w.heap.size, 1, none⟩) (hn 1) _).setCell (p := ⟨w.heap.size, 2, none⟩) (hn 2) _).setCell (p := ⟨w.heap.size, 3, none⟩) (hn 3) _
        | some Tk =>
          obtain ⟨T, k⟩ := Tk
          have HM := hide hM
          have HM1 : Hid (membersP m s.data.toList k false (orS S T) = R) := by
            show membersP _ _ _ _ _ = _
            rw [← hm]
            conv => rhs; unfold membersP
            rw [if_neg hex, hM]
          have hpg := memberP_prog hM
          rw [len_eq] at hpg
          clear hm hM
          cases F
          · skip
            have HB : Hid (hasB s.data.toList j 93 = false) := by
              show hasB _ _ _ = _
              cases hb : hasB s.data.toList j 93 with
              | false => rfl
              | true => exact absurd ⟨rfl, hb⟩ HE.out
            clear h3 h4 h5 h6 h7 hex
            go_wp2_with (go_at_call 122; refine (sees_is b 0 s j hj 93 false HB.out _ HRd.out.at).mono ?_; rintro e w' ⟨rfl, n3, rfl⟩)
            refine (member_any b (w.heap.size + 1) hne s hs j hj ys S HSi.out _ ?hrd ?hset).mono ?_
            case hrd => exact HRd.out
            case hset => exact HSt.out
            rintro e w2 ⟨rfl, ho, hT⟩
            rw [HM.out]
            have HO2 : Hid (Only (fun k => k = b) w w2) := (HOn.out.drewN n3).trans ho (fun k hk e => by omega)
            have h6 : SetB w2 w.heap.size (fun _ => 0) := (ho.block w.heap.size (heap_lt HZ.out) (fun e => by omega)).trans HZ.out
            have HZ2 := hide h6
            obtain ⟨hr2, zs, hz1, hz2⟩ := hT T k HM.out
            have HR2 := hide hr2
            have HZ1 := hide hz1
            have HZ3 := hide hz2
            have HP2 := hide (pos_of hr2)
            have HP1 := hide hpos
            clear h6 ho hT hr2 hz1 hz2 hpos
            simp only [Option.isSome_some]
            go_wp2
            go_roundw
            case rel => exact ⟨false, k, m, _, zs, rfl, hpg.2, by omega, HM1.out, HZ1.out, HR2.out, HZ3.out, HZ2.out, HO2.out⟩
            case measure => rw [HP2.out, HP1.out]; omega
          · skip
            clear h3 h4 h5 h6 h7 hex
            go_wp2_with fail
            refine (member_any b (w.heap.size + 1) hne s hs j hj ys S HSi.out _ ?hrd ?hset).mono ?_
            case hrd => exact HRd.out
            case hset => exact HSt.out
            rintro e w2 ⟨rfl, ho, hT⟩
            rw [HM.out]
            have HO2 : Hid (Only (fun k => k = b) w w2) := HOn.out.trans ho (fun k hk e => by omega)
            have h6 : SetB w2 w.heap.size (fun _ => 0) := (ho.block w.heap.size (heap_lt HZ.out) (fun e => by omega)).trans HZ.out
            have HZ2 := hide h6
            obtain ⟨hr2, zs, hz1, hz2⟩ := hT T k HM.out
            have HR2 := hide hr2
            have HZ1 := hide hz1
            have HZ3 := hide hz2
            have HP2 := hide (pos_of hr2)
            have HP1 := hide hpos
            clear h6 ho hT hr2 hz1 hz2 hpos
            simp only [Option.isSome_some]
            go_wp2
            go_roundw
            case rel => exact ⟨false, k, m, _, zs, rfl, hpg.2, by omega, HM1.out, HZ1.out, HR2.out, HZ3.out, HZ2.out, HO2.out⟩
            case measure => rw [HP2.out, HP1.out]; omega
  · have HN := hide hn
    have hlt0 := hasB_lt hn
    rw [len_eq] at hlt0
    clear hn
    obtain ⟨R, HR⟩ : ∃ R, Hid (membersP (s.data.toList.length + 1) s.data.toList (i + 1) true (fun _ => false) = R) := ⟨_, rfl⟩
    go_enter Tryz.func269, Tryz.ntmps269
    go_wp2_with (go_at_call 122; refine (sees_is b 0 s i hi 94 true HN.out _ (HR1 _ _).out.at).mono ?_; rintro e w' ⟨rfl, n1, rfl⟩)
    go_loopw [6] (fun f wr => ∃ (F : Bool) (j n : Nat) (S : UInt8 → Bool) (ys : Nat → Nat), f = .bool F ∧ j ≤ s.size ∧ s.size - j < n ∧ membersP n s.data.toList j F S = R ∧ SetIs ys S ∧ RdB wr b s j ∧ SetB wr (w.heap.size + 1) ys ∧ SetB wr w.heap.size (fun _ => 0) ∧ Only (fun k => k = b) w wr) (fun _ wr => s.size - posOf wr b)
    case atStart =>
      refine ⟨true, i + 1, _, _, fun _ => 0, rfl, by omega, by rw [len_eq]; omega, HR.out, SetIs.none, ((HR1 _ _).out.drewN n1).set (i + 1), ?_, ?_, ((((Only.refl (fun k => k = b) w).alloc _).alloc _).drewN _).setCell (p := ⟨b, 1, none⟩) (fun _ => rfl) _⟩
      · unfold SetB
        rw [Below.heap_setCell _ _ _ _ (show w.heap.size + 1 ≠ b by omega)]; exact new1 w _ _
      · unfold SetB
        rw [Below.heap_setCell _ _ _ _ (show w.heap.size ≠ b by omega)]; exact old1 w _ _
    case round =>
      obtain ⟨F, j, n, S, ys, rfl, hj, hn, hm, h3, h4, h5, h6, h7⟩ := hrel
      obtain ⟨m, rfl⟩ : ∃ m, n = m + 1 := ⟨n - 1, by omega⟩
      have HRd := hide h4
      have HSi := hide h3
      have HSt := hide h5
      have HZ := hide h6
      have HOn := hide h7
      have hbw : b ≠ w.heap.size := by omega
      have hbw1 : w.heap.size + 1 ≠ b := by omega
      have hn1 : ∀ o, w.heap.size + 1 < w.heap.size → (fun k => k = b) (Addr.block ⟨w.heap.size + 1, o, none⟩) := fun _ h => by omega
      have hn : ∀ o, w.heap.size < w.heap.size → (fun k => k = b) (Addr.block ⟨w.heap.size, o, none⟩) := fun _ h => absurd h (Nat.lt_irrefl _)
      have hpos := pos_of h4
      by_cases hex : F = false ∧ hasB s.data.toList j 93 = true
      · obtain ⟨rfl, hb⟩ := hex
        have HB := hide hb
        have hlt := hasB_lt hb
        rw [len_eq] at hlt
        have HC : Hid (classP s.data.toList i = some (notS S, j + 1)) := by
          show classP _ _ = _
          have hm2 : R = some (S, j + 1) := by rw [← hm]; unfold membersP; rw [if_pos ⟨rfl, hb⟩]
          have hR2 := HR.out
          rw [hm2] at hR2
          unfold classP
          rw [HN.out]
          simp only [if_true]
          rw [hR2]
        have c1 : wr.cell? ⟨b, 1, none⟩ = some (.int .i64 j) := h4.at.2
        have f1 : wr.frozen? ⟨b, 1, none⟩ = false := h4.free 1
        have e0 : wr.cell? ⟨w.heap.size + 1, 0, none⟩ = some (.int .u64 (ys 0)) := cell_of h5 rfl
        have e1 : wr.cell? ⟨w.heap.size + 1, 1, none⟩ = some (.int .u64 (ys 1)) := cell_of h5 rfl
        have e2 : wr.cell? ⟨w.heap.size + 1, 2, none⟩ = some (.int .u64 (ys 2)) := cell_of h5 rfl
        have e3 : wr.cell? ⟨w.heap.size + 1, 3, none⟩ = some (.int .u64 (ys 3)) := cell_of h5 rfl
        have d0 : wr.cell? ⟨w.heap.size, 0, none⟩ = some (.int .u64 0) := cell_of h6 rfl
        have d1 : wr.cell? ⟨w.heap.size, 1, none⟩ = some (.int .u64 0) := cell_of h6 rfl
        have d2 : wr.cell? ⟨w.heap.size, 2, none⟩ = some (.int .u64 0) := cell_of h6 rfl
        have d3 : wr.cell? ⟨w.heap.size, 3, none⟩ = some (.int .u64 0) := cell_of h6 rfl
        have g0 := free_of h6 0
        have g1 := free_of h6 1
        have g2 := free_of h6 2
        have g3 := free_of h6 3
        clear h3 h4 h5 h6 h7 hb hm
        go_wp2_with (go_at_call 122; refine (sees_is b 0 s j hj 93 true HB.out _ HRd.out.at).mono ?_; rintro e w' ⟨rfl, n3, rfl⟩)
        refine (others_any ys S HSi.out _).mono ?_
        rintro e w3 ⟨zs, rfl, hz, ho⟩
        have hr3 : RdB w3 b s (j + 1) := RdB.only ((HRd.out.drewN n3).set (j + 1)) ho (fun h => h)
        have h5 : SetB w3 (w.heap.size + 1) ys := by
          have h8 : SetB ((wr.drewN n3).setCell ⟨b, 1, none⟩ (.int .i64 ((j + 1 : Nat) : Int))) (w.heap.size + 1) ys := by
            unfold SetB
            rw [Below.heap_setCell _ _ _ _ hbw1]; exact HSt.out
          exact (ho.block _ (heap_lt h8) (fun h => h)).trans h8
        have h6 : SetB w3 w.heap.size (fun _ => 0) := by
          have h8 : SetB ((wr.drewN n3).setCell ⟨b, 1, none⟩ (.int .i64 ((j + 1 : Nat) : Int))) w.heap.size (fun _ => 0) := by
            unfold SetB
            rw [Below.heap_setCell _ _ _ _ (Ne.symm hbw)]; exact HZ.out
          exact (ho.block _ (heap_lt h8) (fun h => h)).trans h8
        have HO3 : Hid (Only (fun k => k = b) w w3) := ((HOn.out.drewN n3).setCell (p := ⟨b, 1, none⟩) (fun _ => rfl) _).trans ho (fun k _ h => h.elim)
        have HR3 := hide hr3
        have HZ3 := hide hz
        clear e0 e1 e2 e3 d0 d1 d2 d3 g0 g1 g2 g3
        have e0 : w3.cell? ⟨w.heap.size + 1, 0, none⟩ = some (.int .u64 (ys 0)) := cell_of h5 rfl
        have d0 : w3.cell? ⟨w.heap.size, 0, none⟩ = some (.int .u64 0) := cell_of h6 rfl
        have p0 := free_of h5 0
        have g0 := free_of h6 0
        have e1 : w3.cell? ⟨w.heap.size + 1, 1, none⟩ = some (.int .u64 (ys 1)) := cell_of h5 rfl
        have d1 : w3.cell? ⟨w.heap.size, 1, none⟩ = some (.int .u64 0) := cell_of h6 rfl
        have p1 := free_of h5 1
        have g1 := free_of h6 1
        have e2 : w3.cell? ⟨w.heap.size + 1, 2, none⟩ = some (.int .u64 (ys 2)) := cell_of h5 rfl
        have d2 : w3.cell? ⟨w.heap.size, 2, none⟩ = some (.int .u64 0) := cell_of h6 rfl
        have p2 := free_of h5 2
        have g2 := free_of h6 2
        have e3 : w3.cell? ⟨w.heap.size + 1, 3, none⟩ = some (.int .u64 (ys 3)) := cell_of h5 rfl
        have d3 : w3.cell? ⟨w.heap.size, 3, none⟩ = some (.int .u64 0) := cell_of h6 rfl
        have p3 := free_of h5 3
        have g3 := free_of h6 3
        clear hr3 h5 h6 hz ho
        unfold setCs
        go_wp2
        refine bodyPost_ret (v := .tuple #[.agg (setCs zs), .bool true]) (by simp [results, Tryz.results269, go_sem, setCs, d0, d1, d2, d3]) rfl ⟨?_, fun h => (by rw [HC.out] at h; cases h), fun S' j' h => ?_⟩
        · exact ((((((((HO3.out.setCell (p := ⟨w.heap.size + 1, 0, none⟩) (hn1 0) _).setCell (p := ⟨w.heap.size + 1, 1, none⟩) (hn1 1) _).setCell (p := ⟨w.heap.size + 1, 2, none⟩) (hn1 2) _).setCell (p := ⟨w.heap.size + 1, 3, none⟩) (hn1 3) _).setCell (p := ⟨w.heap.size, 0, none⟩) (hn 0) _).setCell (p := ⟨w.heap.size, 1, none⟩) (hn 1) _).setCell (p := ⟨w.heap.size, 2, none⟩) (hn 2) _).setCell (p := ⟨w.heap.size, 3, none⟩) (hn 3) _)
        · rw [HC.out] at h
          cases h
          refine ⟨zs, rfl, HZ3.out, ?_⟩
          unfold RdB
          rw [Below.heap_setCell _ _ _ _ hbw, Below.heap_setCell _ _ _ _ hbw, Below.heap_setCell _ _ _ _ hbw, Below.heap_setCell _ _ _ _ hbw, Below.heap_setCell _ _ _ _ (Ne.symm hbw1), Below.heap_setCell _ _ _ _ (Ne.symm hbw1), Below.heap_setCell _ _ _ _ (Ne.symm hbw1), Below.heap_setCell _ _ _ _ (Ne.symm hbw1)]
          exact HR3.out
      · have hne : ¬ b = w.heap.size + 1 := by omega
        have hnp : ¬ w.heap.size = b ∧ ¬ w.heap.size = w.heap.size + 1 := by omega
        have HM0 : Hid (membersP (m + 1) s.data.toList j F S = R) := hm
        have HE := hide hex
        cases hM : memberP s.data.toList j with
        | none =>
          have HM := hide hM
          have HC : Hid (classP s.data.toList i = none) := by
            show classP _ _ = _
            have hm2 : R = none := by rw [← hm]; unfold membersP; rw [if_neg hex, hM]
            have hR2 := HR.out
            rw [hm2] at hR2
            unfold classP
            rw [HN.out]
            simp only [if_true]
            rw [hR2]
          clear hm hM
          cases F
          · skip
            have HB : Hid (hasB s.data.toList j 93 = false) := by
              show hasB _ _ _ = _
              cases hb : hasB s.data.toList j 93 with
              | false => rfl
              | true => exact absurd ⟨rfl, hb⟩ HE.out
            clear h3 h4 h5 h6 h7 hex
            go_wp2_with (go_at_call 122; refine (sees_is b 0 s j hj 93 false HB.out _ HRd.out.at).mono ?_; rintro e w' ⟨rfl, n3, rfl⟩)
            refine (member_any b (w.heap.size + 1) hne s hs j hj ys S HSi.out _ ?hrd ?hset).mono ?_
            case hrd => exact HRd.out
            case hset => exact HSt.out
            rintro e w2 ⟨rfl, ho, hT⟩
            rw [HM.out]
            have HO2 : Hid (Only (fun k => k = b) w w2) := (HOn.out.drewN n3).trans ho (fun k hk e => by omega)
            have h6 : SetB w2 w.heap.size (fun _ => 0) := (ho.block w.heap.size (heap_lt HZ.out) (fun e => by omega)).trans HZ.out
            have HZ2 := hide h6
            have d0 : w2.cell? ⟨w.heap.size, 0, none⟩ = some (.int .u64 0) := cell_of h6 rfl
            have d1 : w2.cell? ⟨w.heap.size, 1, none⟩ = some (.int .u64 0) := cell_of h6 rfl
            have d2 : w2.cell? ⟨w.heap.size, 2, none⟩ = some (.int .u64 0) := cell_of h6 rfl
            have d3 : w2.cell? ⟨w.heap.size, 3, none⟩ = some (.int .u64 0) := cell_of h6 rfl
            have g0 := free_of h6 0
            have g1 := free_of h6 1
            have g2 := free_of h6 2
            have g3 := free_of h6 3
            clear h6 ho hT
            simp only [Option.isSome_none]
            go_wp2
            refine bodyPost_ret (v := .tuple #[.agg (setCs (fun _ => 0)), .bool false]) (by simp [results, Tryz.results269, go_sem, setCs, d0, d1, d2, d3]) rfl ⟨?_, fun _ => rfl, fun S' j' h => (by rw [HC.out] at h; cases h)⟩
            exact ((((HO2.out).setCell (p := ⟨w.heap.size, 0, none⟩) (hn 0) _).setCell (p := ⟨w.heap.size, 1, none⟩) (hn 1) _).setCell (p := ⟨w.heap.size, 2, none⟩) (hn 2) _).setCell (p := ⟨w.heap.size, 3, none⟩) (hn 3) _
          · skip
            clear h3 h4 h5 h6 h7 hex
            go_wp2_with fail
            refine (member_any b (w.heap.size + 1) hne s hs j hj ys S HSi.out _ ?hrd ?hset).mono ?_
            case hrd => exact HRd.out
            case hset => exact HSt.out
            rintro e w2 ⟨rfl, ho, hT⟩
            rw [HM.out]
            have HO2 : Hid (Only (fun k => k = b) w w2) := HOn.out.trans ho (fun k hk e => by omega)
            have h6 : SetB w2 w.heap.size (fun _ => 0) := (ho.block w.heap.size (heap_lt HZ.out) (fun e => by omega)).trans HZ.out
            have HZ2 := hide h6
            have d0 : w2.cell? ⟨w.heap.size, 0, none⟩ = some (.int .u64 0) := cell_of h6 rfl
            have d1 : w2.cell? ⟨w.heap.size, 1, none⟩ = some (.int .u64 0) := cell_of h6 rfl
            have d2 : w2.cell? ⟨w.heap.size, 2, none⟩ = some (.int .u64 0) := cell_of h6 rfl
            have d3 : w2.cell? ⟨w.heap.size, 3, none⟩ = some (.int .u64 0) := cell_of h6 rfl
            have g0 := free_of h6 0
            have g1 := free_of h6 1
            have g2 := free_of h6 2
            have g3 := free_of h6 3
            clear h6 ho hT
            simp only [Option.isSome_none]
            go_wp2
            refine bodyPost_ret (v := .tuple #[.agg (setCs (fun _ => 0)), .bool false]) (by simp [results, Tryz.results269, go_sem, setCs, d0, d1, d2, d3]) rfl ⟨?_, fun _ => rfl, fun S' j' h => (by rw [HC.out] at h; cases h)⟩
            exact ((((HO2.out).setCell (p := ⟨w.heap.size, 0, none⟩) (hn 0) _).setCell (p := ⟨w.heap.size, 1, none⟩) (hn 1) _).setCell (p := ⟨w.heap.size, 2, none⟩) (hn 2) _).setCell (p := ⟨w.heap.size, 3, none⟩) (hn 3) _
        | some Tk =>
          obtain ⟨T, k⟩ := Tk
          have HM := hide hM
          have HM1 : Hid (membersP m s.data.toList k false (orS S T) = R) := by
            show membersP _ _ _ _ _ = _
            rw [← hm]
            conv => rhs; unfold membersP
            rw [if_neg hex, hM]
          have hpg := memberP_prog hM
          rw [len_eq] at hpg
          clear hm hM
          cases F
          · skip
            have HB : Hid (hasB s.data.toList j 93 = false) := by
              show hasB _ _ _ = _
              cases hb : hasB s.data.toList j 93 with
              | false => rfl
              | true => exact absurd ⟨rfl, hb⟩ HE.out
            clear h3 h4 h5 h6 h7 hex
            go_wp2_with (go_at_call 122; refine (sees_is b 0 s j hj 93 false HB.out _ HRd.out.at).mono ?_; rintro e w' ⟨rfl, n3, rfl⟩)
            refine (member_any b (w.heap.size + 1) hne s hs j hj ys S HSi.out _ ?hrd ?hset).mono ?_
            case hrd => exact HRd.out
            case hset => exact HSt.out
            rintro e w2 ⟨rfl, ho, hT⟩
            rw [HM.out]
            have HO2 : Hid (Only (fun k => k = b) w w2) := (HOn.out.drewN n3).trans ho (fun k hk e => by omega)
            have h6 : SetB w2 w.heap.size (fun _ => 0) := (ho.block w.heap.size (heap_lt HZ.out) (fun e => by omega)).trans HZ.out
            have HZ2 := hide h6
            obtain ⟨hr2, zs, hz1, hz2⟩ := hT T k HM.out
            have HR2 := hide hr2
            have HZ1 := hide hz1
            have HZ3 := hide hz2
            have HP2 := hide (pos_of hr2)
            have HP1 := hide hpos
            clear h6 ho hT hr2 hz1 hz2 hpos
            simp only [Option.isSome_some]
            go_wp2
            go_roundw
            case rel => exact ⟨false, k, m, _, zs, rfl, hpg.2, by omega, HM1.out, HZ1.out, HR2.out, HZ3.out, HZ2.out, HO2.out⟩
            case measure => rw [HP2.out, HP1.out]; omega
          · skip
            clear h3 h4 h5 h6 h7 hex
            go_wp2_with fail
            refine (member_any b (w.heap.size + 1) hne s hs j hj ys S HSi.out _ ?hrd ?hset).mono ?_
            case hrd => exact HRd.out
            case hset => exact HSt.out
            rintro e w2 ⟨rfl, ho, hT⟩
            rw [HM.out]
            have HO2 : Hid (Only (fun k => k = b) w w2) := HOn.out.trans ho (fun k hk e => by omega)
            have h6 : SetB w2 w.heap.size (fun _ => 0) := (ho.block w.heap.size (heap_lt HZ.out) (fun e => by omega)).trans HZ.out
            have HZ2 := hide h6
            obtain ⟨hr2, zs, hz1, hz2⟩ := hT T k HM.out
            have HR2 := hide hr2
            have HZ1 := hide hz1
            have HZ3 := hide hz2
            have HP2 := hide (pos_of hr2)
            have HP1 := hide hpos
            clear h6 ho hT hr2 hz1 hz2 hpos
            simp only [Option.isSome_some]
            go_wp2
            go_roundw
            case rel => exact ⟨false, k, m, _, zs, rfl, hpg.2, by omega, HM1.out, HZ1.out, HR2.out, HZ3.out, HZ2.out, HO2.out⟩
            case measure => rw [HP2.out, HP1.out]; omega
end Go.Proofs.YtdbdbaepmdmnfaaGreatDoor
namespace Go.Proofs.YtdbdbaepmdmnfaaGreatDoor
open Go.RowKit
def CellsAt (w : World) (g o : Nat) (cs : List Value) : Prop := ∀ j v, cs[j]? = some v → w.cell? ⟨g, o + j, none⟩ = some v
/-- A node's six cells. -/
def nodeCs (kind : Int) (xs : Nat → Nat) (po : Option Addr) (n cap : Nat) : List Value := [.int .i64 kind, .int .u64 (xs 0), .int .u64 (xs 1), .int .u64 (xs 2), .int .u64 (xs 3), .slice po n cap]
/-- What a node means whose parts mean Rs. -/
def NodeIs (kind : Int) (xs : Nat → Nat) (Rs : List Pat) (R : Pat) : Prop :=
  (kind = 0 ∧ ∃ S, SetIs xs S ∧ R = byteR S) ∨ (kind = 1 ∧ R = beginR) ∨ (kind = 2 ∧ R = endR) ∨ (kind = 3 ∧ R = rowR Rs) ∨ (kind = 4 ∧ Rs ≠ [] ∧ R = altR Rs) ∨
  (kind = 5 ∧ ∃ A, Rs = [A] ∧ R = starR A) ∨ (kind = 6 ∧ ∃ A, Rs = [A] ∧ R = plusR A) ∨ (kind = 7 ∧ ∃ A, Rs = [A] ∧ R = optR A)
/-- How many states a node makes besides its parts' own. -/
def costOf (kind : Int) (n : Nat) : Nat := if kind = 3 then 0 else if kind = 4 then n - 1 else 1
/-- These six cells are a node that means R; the parts lie in blocks of F; d levels at most, N states at most. -/
def Den : Nat → Nat → World → (Nat → Prop) → List Value → Pat → Prop
  | 0, _, _, _, _, _ => False
  | d + 1, N, w, F, cs, R => ∃ (kind : Int) (xs : Nat → Nat) (po : Option Addr) (n cap : Nat) (Rs : List Pat) (Ns : List Nat), cs = nodeCs kind xs po n cap ∧ NodeIs kind xs Rs R ∧ Rs.length = n ∧ (n ≤ maxLen ∧ n ≤ cap) ∧ Ns.length = n ∧ costOf kind n + Ns.sum ≤ N ∧
      (n = 0 ∨ ∃ g, po = some ⟨g, 0, none⟩ ∧ F g ∧ g < w.heap.size ∧ ∀ i A M, Rs[i]? = some A → Ns[i]? = some M → ∃ cs', CellsAt w g (i * 6) cs' ∧ Den d M w F cs' A)
theorem CellsAt.of {w w' : World} {g o : Nat} {cs : List Value} (h : CellsAt w g o cs) (hb : w'.heap[g]? = w.heap[g]?) : CellsAt w' g o cs := fun j v hv => by
  rw [World.cell?_of_block (w := w) (a := ⟨g, o + j, none⟩) hb]; exact h j v hv
theorem Den.frame {d N : Nat} {w w' : World} {F : Nat → Prop} {cs : List Value} {R : Pat} (h : Den d N w F cs R) (hs : w.heap.size ≤ w'.heap.size) (hf : ∀ g, F g → g < w.heap.size → w'.heap[g]? = w.heap[g]?) : Den d N w' F cs R := by
  induction d generalizing N cs R with
  | zero => exact h
  | succ d ih =>
    obtain ⟨kind, xs, po, n, cap, Rs, Ns, h1, h2, h3, h4, ha, hb, h5⟩ := h
    refine ⟨kind, xs, po, n, cap, Rs, Ns, h1, h2, h3, h4, ha, hb, ?_⟩
    rcases h5 with h5 | ⟨g, h6, h7, h8, h9⟩
    · exact Or.inl h5
    · refine Or.inr ⟨g, h6, h7, Nat.lt_of_lt_of_le h8 hs, fun i A M hA hM => ?_⟩
      obtain ⟨cs', h10, h11⟩ := h9 i A M hA hM
      exact ⟨cs', h10.of (hf g h7 h8), ih h11⟩
theorem Den.mono {d N : Nat} {w : World} {F G : Nat → Prop} {cs : List Value} {R : Pat} (h : Den d N w F cs R) (hf : ∀ g, g < w.heap.size → F g → G g) : Den d N w G cs R := by
  induction d generalizing N cs R with
  | zero => exact h
  | succ d ih =>
    obtain ⟨kind, xs, po, n, cap, Rs, Ns, h1, h2, h3, h4, ha, hb, h5⟩ := h
    refine ⟨kind, xs, po, n, cap, Rs, Ns, h1, h2, h3, h4, ha, hb, ?_⟩
    rcases h5 with h5 | ⟨g, h6, h7, h8, h9⟩
    · exact Or.inl h5
    · refine Or.inr ⟨g, h6, hf g h8 h7, h8, fun i A M hA hM => ?_⟩
      obtain ⟨cs', h10, h11⟩ := h9 i A M hA hM
      exact ⟨cs', h10, ih h11⟩
theorem Den.up {d e N : Nat} {w : World} {F : Nat → Prop} {cs : List Value} {R : Pat} (h : Den d N w F cs R) (hd : d ≤ e) : Den e N w F cs R := by
  induction d generalizing e N cs R with
  | zero => exact h.elim
  | succ d ih =>
    obtain ⟨e, rfl⟩ : ∃ e', e = e' + 1 := ⟨e - 1, by omega⟩
    obtain ⟨kind, xs, po, n, cap, Rs, Ns, h1, h2, h3, h4, ha, hb, h5⟩ := h
    refine ⟨kind, xs, po, n, cap, Rs, Ns, h1, h2, h3, h4, ha, hb, ?_⟩
    rcases h5 with h5 | ⟨g, h6, h7, h8, h9⟩
    · exact Or.inl h5
    · refine Or.inr ⟨g, h6, h7, h8, fun i A M hA hM => ?_⟩
      obtain ⟨cs', h10, h11⟩ := h9 i A M hA hM
      exact ⟨cs', h10, ih h11 (by omega)⟩
theorem Den.more {d N M : Nat} {w : World} {F : Nat → Prop} {cs : List Value} {R : Pat} (h : Den d N w F cs R) (hd : N ≤ M) : Den d M w F cs R := by
  cases d with
  | zero => exact h.elim
  | succ d =>
    obtain ⟨kind, xs, po, n, cap, Rs, Ns, h1, h2, h3, h4, ha, hb, h5⟩ := h
    exact ⟨kind, xs, po, n, cap, Rs, Ns, h1, h2, h3, h4, ha, Nat.le_trans hb hd, h5⟩
theorem Den.only {d N : Nat} {w w' : World} {F D : Nat → Prop} {cs : List Value} {R : Pat} (h : Den d N w F cs R) (ho : Only D w w') (hd : ∀ g, F g → ¬ D g) : Den d N w' F cs R :=
  h.frame ho.size (fun g hg hl => ho.block g hl (hd g hg))
/-- A node of one byte. -/
theorem den_byte {w F xs S cap po} (h : SetIs xs S) : Den 1 1 w F (nodeCs 0 xs po 0 cap) (byteR S) := ⟨0, xs, po, 0, cap, [], [], rfl, Or.inl ⟨rfl, S, h, rfl⟩, rfl, ⟨Nat.zero_le _, Nat.zero_le _⟩, rfl, by decide, Or.inl rfl⟩
theorem den_begin {w F xs cap po} : Den 1 1 w F (nodeCs 1 xs po 0 cap) beginR := ⟨1, xs, po, 0, cap, [], [], rfl, Or.inr (Or.inl ⟨rfl, rfl⟩), rfl, ⟨Nat.zero_le _, Nat.zero_le _⟩, rfl, by decide, Or.inl rfl⟩
theorem den_end {w F xs cap po} : Den 1 1 w F (nodeCs 2 xs po 0 cap) endR := ⟨2, xs, po, 0, cap, [], [], rfl, Or.inr (Or.inr (Or.inl ⟨rfl, rfl⟩)), rfl, ⟨Nat.zero_le _, Nat.zero_le _⟩, rfl, by decide, Or.inl rfl⟩
theorem den_empty {w F xs cap po} : Den 1 0 w F (nodeCs 3 xs po 0 cap) emptyR := ⟨3, xs, po, 0, cap, [], [], rfl, Or.inr (Or.inr (Or.inr (Or.inl ⟨rfl, rfl⟩))), rfl, ⟨Nat.zero_le _, Nat.zero_le _⟩, rfl, by decide, Or.inl rfl⟩
end Go.Proofs.YtdbdbaepmdmnfaaGreatDoor
namespace Go.Proofs.YtdbdbaepmdmnfaaGreatDoor
open Go.RowKit
def nodeAg (kind : Int) (xs : Nat → Nat) (po : Option Addr) (n cap : Nat) : Array Value := #[.int .i64 kind, .int .u64 (xs 0), .int .u64 (xs 1), .int .u64 (xs 2), .int .u64 (xs 3), .slice po n cap]
/-- What a reader of a part answers. -/
def NodePost (b : Nat) (s : ByteArray) (i : Nat) (w : World) (res : Option (Pat × Nat)) (e : Ending) (w' : World) : Prop :=
  Only (fun k => k = b) w w' ∧ ∃ (kind : Int) (xs : Nat → Nat) (po : Option Addr) (n cap : Nat), e = .returned (.tuple #[.agg (nodeAg kind xs po n cap), .bool res.isSome]) ∧
    ∀ R j, res = some (R, j) → RdB w' b s j ∧ ∃ d, Den d (j - i) w' (fun g => w.heap.size ≤ g) (nodeCs kind xs po n cap) R
def ChoiceOK (f : Nat) : Prop := ∀ (b : Nat) (s : ByteArray) (i : Nat) (w : World), RdB w b s i → i ≤ s.size → s.size ≤ maxLen → s.size ≤ 65536 → s.size - i < f → Calls Tryz.prog 83 #[.pointer (some ⟨b, 0, none⟩)] w (NodePost b s i w (choiceP s.data.toList f i))
end Go.Proofs.YtdbdbaepmdmnfaaGreatDoor
namespace Go.Proofs.YtdbdbaepmdmnfaaGreatDoor
open Go.RowKit
/-- Where the row lies behind an append: where it lay, or in a new block. -/
def Moved (w : World) (v v' : Value) : Prop := ∃ G, v'.ownBlock = some G ∧ (v.ownBlock = some G ∨ w.heap.size ≤ G)
theorem wpList_append_sep {P : Program} (w : World) {ops : Array Oper} {rest : List Oper} {o : Oper} {a : Act} {Q : Exit → Act → World → Prop} (hgd : o.guard = none) (s x : Operand) (t : TypeId)
    (ho : o.op = .call { callee := .builtin .append, args := #[s, x], argTypes := #[t, t] })
    (base : Nat) (e : TypeId) (i : TypeInfo) (z : Value) (size bytes : Nat) (ht : P.underlying t = some (.slice e)) (hi : P.info? e = some i) (hz : i.zero = some z)
    (hsize : i.size = size) (hby : i.bytes = bytes) (hzs : z.cells.size = size) (hsz : 0 < size)
    (v : Value) (n : Nat) (xs : List Value) (hs : a.eval s = v) (hown : w.ownsRow base e size v n xs)
    (ad : Addr) (m c : Nat) (news : List Value) (hx : a.eval x = .slice (some ad) m c) (hl : news.length = m * size) (hnews : ∀ j u, news[j]? = some u → w.cell? (ad.add j) = some u) (h1 : ∀ u ∈ news, u.oneCell' = true)
    (h0 : 0 < m) (h63 : n + m ≤ maxLen) (hbytes : (n + m) * bytes ≤ 140737488355328) (hbase : base ≤ w.heap.size)
    (h : ∀ v' w', w'.ownsRow base e size v' (n + m) (xs ++ news) → w.grownBy w' v.ownBlock → Moved w v v' → wpList P ops Q rest (a.put o.dst v') w') : wpList P ops Q (o :: rest) a w := by
  refine wpList_plain hgd fun K hK => ?_
  obtain ⟨v', w', hr, h2, h3, h4⟩ := run_append_own (P := P) w base t o.type e i z size bytes ht hi hz hsize hby hzs hsz v n xs hown ad m c news hl hnews h1 h63 hbytes hbase
  have hmv : Moved w v v' := by
    have hsmall : n + m ≤ 9223372036854775807 := by simp only [maxLen] at h63; omega
    rcases hown.2 with ⟨rfl, rfl⟩ | ⟨g, cap, cur, rfl, hbg, hg, hnc, hcm, hcs, htake⟩
    · subst hsize; subst hby
      rw [run_append_nil (P := P) w t o.type e i z ht hi hz ad m c news hl hnews h0 (by omega) (by rw [Nat.zero_add] at hbytes; omega)] at hr
      injection hr with hv _
      subst hv
      exact ⟨w.heap.size, rfl, Or.inr (Nat.le_refl _)⟩
    · subst hsize; subst hby
      by_cases hroom : n + m ≤ cap
      · have hfit : n * i.size + news.length ≤ cur.size := by rw [hl, hcs, ← Nat.add_mul]; exact Nat.mul_le_mul_right _ hroom
        rw [run_append_room (P := P) w t o.type e i ht hi g n cap cur hg ad m c news hl hnews h1 hroom hfit] at hr
        injection hr with hv _
        subst hv
        exact ⟨g, rfl, Or.inl rfl⟩
      · rcases h2.2 with ⟨_, hn0⟩ | ⟨g', cap', cur', hv', hbg', hg', hnc', hcm', hcs', htake'⟩
        · omega
        · have hr' := run_append_grow (P := P) w t o.type e i z ht hi hz ⟨g, 0, none⟩ n cap xs hown.1 (hown.cells (g := g) rfl) ad m c news hl hnews (by omega) (by omega) (growslice_fits (by omega) hbytes)
          rw [hr'] at hr
          injection hr with hv _
          subst hv
          exact ⟨w.heap.size, rfl, Or.inr (Nat.le_refl _)⟩
  unfold Oper.wp execOp
  simp only [ho, resolve, invoke, builtin, Sem.run_bind, Sem.run_pure, Result.andThen_ok, List.map_toArray, List.map_cons, List.map_nil, hs, hx, hr]
  exact hK _ _ (h v' w' h2 h3 hmv)
theorem ownsRow_of {w w' : World} {base : Nat} {e : TypeId} {size : Nat} {v : Value} {n : Nat} {xs : List Value} (h : w.ownsRow base e size v n xs) (hb : ∀ k, v.ownBlock = some k → w'.heap[k]? = w.heap[k]?) : w'.ownsRow base e size v n xs := by
  refine ⟨h.1, ?_⟩
  rcases h.2 with h2 | ⟨g, cap, cur, hv, h3, h4, h5⟩
  · exact Or.inl h2
  · subst hv
    exact Or.inr ⟨g, cap, cur, rfl, h3, (hb g rfl).trans h4, h5⟩
theorem ownsRow_slice {w : World} {base : Nat} {e : TypeId} {size : Nat} {v : Value} {n : Nat} {xs : List Value} (h : w.ownsRow base e size v n xs) : ∃ po cap, v = .slice po n cap := by
  rcases h.2 with ⟨h2, h3⟩ | ⟨g, cap, cur, hv, _⟩
  · subst h3; exact ⟨none, 0, h2⟩
  · exact ⟨_, _, hv⟩
/-- A row of nodes that means acc, its parts in blocks from base on, N states at most. -/
def PartsOf (d N : Nat) (xs : List Value) (w : World) (base : Nat) (v : Value) (acc : List Pat) : Prop :=
  w.ownsRow base 118 6 v acc.length xs ∧ ∃ Ns : List Nat, Ns.length = acc.length ∧ Ns.sum ≤ N ∧ ∀ k A M, acc[k]? = some A → Ns[k]? = some M → ∃ cs, (∀ j u, cs[j]? = some u → xs[k * 6 + j]? = some u) ∧ Den d M w (fun g => base ≤ g ∧ some g ≠ v.ownBlock) cs A
theorem PartsOf.nil (w : World) (base : Nat) (N : Nat) : PartsOf 0 N [] w base (.slice none 0 0) [] := ⟨World.ownsRow_nil _ _ _ _, [], rfl, Nat.zero_le _, fun k A M h => by simp at h⟩
theorem PartsOf.only {d N xs w w' base v acc D} (h : PartsOf d N xs w base v acc) (ho : Only D w w') (hD : ∀ k, base ≤ k → k < w.heap.size → ¬ D k) : PartsOf d N xs w' base v acc := by
  obtain ⟨h1, Ns, h2, h3, h4⟩ := h
  refine ⟨ownsRow_of h1 (fun k hk => ?_), Ns, h2, h3, fun k A M hA hM => ?_⟩
  · have := h1.lt k hk
    exact ho.block k this.2 (hD k this.1 this.2)
  · obtain ⟨cs, h1, h2⟩ := h4 k A M hA hM
    exact ⟨cs, h1, h2.frame ho.size (fun g hg hl => ho.block g hl (hD g hg.1 hl))⟩
theorem PartsOf.more {d N N' xs w base v acc} (h : PartsOf d N xs w base v acc) (hN : N ≤ N') : PartsOf d N' xs w base v acc := by
  obtain ⟨h1, Ns, h2, h3, h4⟩ := h
  exact ⟨h1, Ns, h2, Nat.le_trans h3 hN, h4⟩
theorem PartsOf.push {d N xs w w' base v v' acc B cs R d' N'} (h : PartsOf d N xs w base v acc) (hB : ∀ k, v.ownBlock = some k → k < B) (hbB : base ≤ B) (hd : Den d' N' w (fun g => B ≤ g) cs R)
    (ho : w'.ownsRow base 118 6 v' (acc.length + 1) (xs ++ cs)) (hg : w.grownBy w' v.ownBlock) (hm : Moved w v v') : PartsOf (max d d') (N + N') (xs ++ cs) w' base v' (acc ++ [R]) := by
  obtain ⟨hh1, Ns, hh2, hh3, hh4⟩ := h
  have hl : xs.length = acc.length * 6 := hh1.1
  have key : ∀ e M ys A, Den e M w (fun g => base ≤ g ∧ some g ≠ v.ownBlock) ys A → Den e M w' (fun g => base ≤ g ∧ some g ≠ v'.ownBlock) ys A := by
    intro e M ys A hA
    obtain ⟨G, hG, hG2⟩ := hm
    have h1 : Den e M w (fun g => (base ≤ g ∧ some g ≠ v'.ownBlock) ∧ some g ≠ v.ownBlock) ys A := hA.mono (fun g hl hg => ⟨⟨hg.1, fun e => by
      rw [hG] at e
      cases e
      rcases hG2 with h | h
      · exact hg.2 h.symm
      · omega⟩, hg.2⟩)
    exact (h1.frame (w' := w') hg.size (fun g hg1 hl => hg.block g hl hg1.2)).mono (fun g _ hg => hg.1)
  refine ⟨by simpa using ho, Ns ++ [N'], by simp [hh2], by simp; omega, fun k A M hA hM => ?_⟩
  by_cases hk : k < acc.length
  · rw [List.getElem?_append_left hk] at hA
    rw [List.getElem?_append_left (by omega)] at hM
    obtain ⟨ys, h1, h2⟩ := hh4 k A M hA hM
    refine ⟨ys, fun j u hj => ?_, (key _ _ _ _ h2).up (Nat.le_max_left _ _)⟩
    have h3 := h1 j u hj
    rw [List.getElem?_append_left (List.getElem?_eq_some_iff.1 h3).1]
    exact h3
  · rw [List.getElem?_append_right (by omega)] at hA
    rw [List.getElem?_append_right (by omega)] at hM
    have hk' : k = acc.length := by
      have := (List.getElem?_eq_some_iff.1 hA).1
      simp at this; omega
    subst hk'
    rw [hh2] at hM
    simp at hA hM
    subst hA
    subst hM
    refine ⟨cs, fun j u hj => ?_, (key _ _ _ _ (hd.mono (fun g _ hg => ⟨Nat.le_trans hbB hg, fun e => ?_⟩))).up (Nat.le_max_right _ _)⟩
    · rw [List.getElem?_append_right (by omega), hl, Nat.add_sub_cancel_left]; exact hj
    · have := hB g e.symm; omega
theorem PartsOf.den {d N M xs w base v acc} (h : PartsOf d N xs w base v acc) (kind : Int) (ys : Nat → Nat) (po : Option Addr) (cap : Nat) (hv : v = .slice po acc.length cap) {R : Pat} (hn : NodeIs kind ys acc R) (hl : acc.length ≤ maxLen) (hc : costOf kind acc.length + N ≤ M) :
    Den (d + 1) M w (fun g => base ≤ g) (nodeCs kind ys po acc.length cap) R := by
  obtain ⟨hh1, Ns, hh2, hh3, hh4⟩ := h
  have hcap : acc.length ≤ cap := by
    rcases hh1.2 with ⟨_, h2⟩ | ⟨g, cap', cur, hv', h3, h4, h5, h6, h7, h8⟩
    · omega
    · rw [hv] at hv'
      injection hv' with e1 e2 e3
      omega
  refine ⟨kind, ys, po, acc.length, cap, acc, Ns, rfl, hn, rfl, ⟨hl, hcap⟩, hh2, by omega, ?_⟩
  rcases hh1.2 with ⟨_, h2⟩ | ⟨g, cap', cur, hv', h3, h4, h5, h6, h7, h8⟩
  · exact Or.inl h2
  · rw [hv] at hv'
    injection hv' with e1 e2 e3
    subst e1
    refine Or.inr ⟨g, rfl, h3, heap_lt h4, fun i A K hA hK => ?_⟩
    obtain ⟨cs, h9, h10⟩ := hh4 i A K hA hK
    refine ⟨cs, fun j u hj => ?_, h10.mono (fun g _ hg => hg.1)⟩
    have h11 := h9 j u hj
    rw [← h8, List.getElem?_take] at h11
    split at h11
    · refine cell_of h4 ?_
      rw [← Array.getElem?_toList]; exact h11
    · cases h11
theorem PartsOf.size {d N xs w base v acc} (h : PartsOf d N xs w base v acc) : acc.length ≤ maxLen := by
  rcases h.1.2 with ⟨_, h2⟩ | ⟨g, cap', cur, hv', h3, h4, h5, h6, h7, h8⟩
  · rw [h2]; exact Nat.zero_le _
  · omega
end Go.Proofs.YtdbdbaepmdmnfaaGreatDoor
namespace Go.Proofs.YtdbdbaepmdmnfaaGreatDoor
open Go.RowKit
/-- A reader of tokens lies at the beginning of a block. -/
def TkAt (w : World) (b : Nat) (T : ByteArray) (i : Nat) (dv : Bool) : Prop := w.cell? ⟨b, 0, none⟩ = some (.string T) ∧ w.cell? ⟨b, 1, none⟩ = some (.int .i64 i) ∧ w.cell? ⟨b, 2, none⟩ = some (.bool dv)
theorem TkAt.drewN {w b T i dv} (h : TkAt w b T i dv) (n : Nat) : TkAt (w.drewN n) b T i dv := h
theorem TkAt.alloc {w b T i dv} (h : TkAt w b T i dv) (hb : b < w.heap.size) (o : Obj) : TkAt (w.alloc o) b T i dv := by
  obtain ⟨h0, h1, h2⟩ := h
  have e := fun k => World.cell?_of_block (w := w) (w' := w.alloc o) (a := ⟨b, k, none⟩) (Below.heap_alloc _ _ _ hb)
  exact ⟨(e 0).trans h0, (e 1).trans h1, (e 2).trans h2⟩
theorem TkAt.lt {w b T i dv} (h : TkAt w b T i dv) : b < w.heap.size := World.block_lt_of_cell? w ⟨b, 0, none⟩ h.1
set_option maxHeartbeats 1000000 in
theorem tended_any (b : Nat) (T : ByteArray) (i : Nat) (dv : Bool) (w : World) (h : TkAt w b T i dv) :
    Calls Tryz.prog 171 #[.pointer (some ⟨b, 0, none⟩)] w fun e w' => e = .returned (.bool (decide (i = T.size))) ∧ ∃ n, w' = w.drewN n := by
  obtain ⟨c0, c1, c2⟩ := h
  go_enter Tryz.func171, Tryz.ntmps171
  go_wp2
  go_quiet (fail)
  go_wp2
  go_ret
  refine ⟨ret_bool ?_, _, rfl⟩
  rw [Bool.eq_iff_iff, beq_iff_eq, decide_eq_true_iff]
  omega
theorem tended_no (b : Nat) (T : ByteArray) (i : Nat) (dv : Bool) (hi : i < T.size) (w : World) (h : TkAt w b T i dv) :
    Calls Tryz.prog 171 #[.pointer (some ⟨b, 0, none⟩)] w fun e w' => e = .returned (.bool false) ∧ ∃ n, w' = w.drewN n := by
  have := tended_any b T i dv w h
  rwa [decide_eq_false (by omega)] at this
theorem tended_yes (b : Nat) (T : ByteArray) (i : Nat) (dv : Bool) (hi : i = T.size) (w : World) (h : TkAt w b T i dv) :
    Calls Tryz.prog 171 #[.pointer (some ⟨b, 0, none⟩)] w fun e w' => e = .returned (.bool true) ∧ ∃ n, w' = w.drewN n := by
  have := tended_any b T i dv w h
  rwa [decide_eq_true hi] at this
def letB (c : UInt8) : Bool := (decide (97 ≤ c.toNat) && decide (c.toNat ≤ 122)) || (decide (65 ≤ c.toNat) && decide (c.toNat ≤ 90)) || c.toNat == 95
set_option maxHeartbeats 1000000 in
theorem tdigit_any (c : UInt8) (w : World) : Calls Tryz.prog 173 #[.int .u8 c.toNat] w fun e w' => e = .returned (.bool (digB c)) ∧ w' = w := by
  obtain ⟨v, HV⟩ : ∃ v, Hid (v = digB c) := ⟨_, rfl⟩
  rw [← HV.out]
  go_enter Tryz.func173, Tryz.ntmps173
  go_wp2
  all_goals
    go_ret
    refine ⟨ret_bool ?_, rfl⟩
    rw [HV.out]
    unfold digB
    rw [Bool.eq_iff_iff]
    simp only [Bool.and_eq_true, decide_eq_true_iff]
    first | omega | (simp; omega)
set_option maxHeartbeats 1000000 in
theorem tletter_any (c : UInt8) (w : World) : Calls Tryz.prog 175 #[.int .u8 c.toNat] w fun e w' => e = .returned (.bool (letB c)) ∧ w' = w := by
  obtain ⟨v, HV⟩ : ∃ v, Hid (v = letB c) := ⟨_, rfl⟩
  rw [← HV.out]
  go_enter Tryz.func175, Tryz.ntmps175
  go_wp2
  all_goals
    go_ret
    refine ⟨ret_bool ?_, rfl⟩
    rw [HV.out]
    unfold letB
    rw [Bool.eq_iff_iff]
    simp only [Bool.and_eq_true, Bool.or_eq_true, decide_eq_true_iff, beq_iff_eq]
    first | omega | (simp; omega)
end Go.Proofs.YtdbdbaepmdmnfaaGreatDoor
