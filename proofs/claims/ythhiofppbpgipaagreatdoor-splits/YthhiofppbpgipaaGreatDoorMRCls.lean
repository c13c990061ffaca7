import Derived.Test.YthhiofppbpgipaaGreatDoorMRPar
import Derived.Test.YthhiofppbpgipaaGreatDoorMEndsW
namespace Go.Proofs.YthhiofppbpgipaaGreatDoor
open Go.RowKit
theorem bools_len (S : UInt8 → Bool) : (bools S).length = 256 := by simp [bools]
theorem bools_nth (S : UInt8 → Bool) (n : Nat) (h : n < 256) : (bools S)[n]? = some (.bool (S (UInt8.ofNat n))) := by
  unfold bools
  rw [List.getElem?_map, List.getElem?_range h]; rfl
theorem ofNat_toNat (c : UInt8) : UInt8.ofNat c.toNat = c := by simp
theorem toNat_ofNat (n : Nat) (h : n < 256) : (UInt8.ofNat n).toNat = n := by simp [UInt8.toNat_ofNat']; omega
/-- One bit of a set is turned. -/
def putS (S : UInt8 → Bool) (n : Nat) (x : Bool) (c : UInt8) : Bool := if c.toNat = n then x else S c
theorem bools_set (S : UInt8 → Bool) (n : Nat) (x : Bool) : (bools S).set n (.bool x) = bools (putS S n x) := by
  apply List.ext_getElem?
  intro j
  by_cases hj : j < 256
  · rw [bools_nth _ j hj]
    by_cases e : n = j
    · subst e
      rw [List.getElem?_set_self (by rw [bools_len]; exact hj)]
      unfold putS
      rw [toNat_ofNat n hj, if_pos rfl]
    · rw [List.getElem?_set_ne e, bools_nth _ j hj]
      unfold putS
      rw [toNat_ofNat j hj, if_neg (Ne.symm e)]
  · rw [List.getElem?_eq_none (by simp [bools_len]; omega), List.getElem?_eq_none (by rw [bools_len]; omega)]
/-- A set to which the bytes from lo on, below n, have been put. -/
def upS (S : UInt8 → Bool) (lo n : Nat) (c : UInt8) : Bool := S c || (decide (lo ≤ c.toNat) && decide (c.toNat < n))
theorem upS_begin (S : UInt8 → Bool) (lo : Nat) : upS S lo lo = S := by
  funext c
  unfold upS
  have : (decide (lo ≤ c.toNat) && decide (c.toNat < lo)) = false := by
    by_cases h : lo ≤ c.toNat
    · rw [decide_eq_false (p := c.toNat < lo) (by omega), Bool.and_false]
    · rw [decide_eq_false h, Bool.false_and]
  rw [this, Bool.or_false]
theorem upS_put (S : UInt8 → Bool) (lo n : Nat) (h : lo ≤ n) : putS (upS S lo n) n true = upS S lo (n + 1) := by
  funext c
  unfold putS upS
  by_cases e : c.toNat = n
  · rw [if_pos e]
    simp [e, h]
  · rw [if_neg e]
    have : decide (c.toNat < n) = decide (c.toNat < n + 1) := by
      apply decide_eq_decide.2; omega
    rw [this]
theorem upS_end (S : UInt8 → Bool) (lo hi : UInt8) : upS S lo.toNat (hi.toNat + 1) = orS S (rangeS lo hi) := by
  funext c
  unfold upS orS rangeS
  have : decide (c.toNat < hi.toNat + 1) = decide (c.toNat ≤ hi.toNat) := by
    apply decide_eq_decide.2; omega
  rw [this]
/-- A set whose bytes below n have been turned. -/
def negS (S : UInt8 → Bool) (n : Nat) (c : UInt8) : Bool := if c.toNat < n then ! S c else S c
theorem negS_begin (S : UInt8 → Bool) : negS S 0 = S := by
  funext c
  unfold negS
  rw [if_neg (by omega)]
theorem negS_at (S : UInt8 → Bool) (n : Nat) (h : n < 256) : negS S n (UInt8.ofNat n) = S (UInt8.ofNat n) := by
  unfold negS
  rw [if_neg (by rw [toNat_ofNat n h]; omega)]
theorem negS_put (S : UInt8 → Bool) (n : Nat) (h : n < 256) : putS (negS S n) n (! negS S n (UInt8.ofNat n)) = negS S (n + 1) := by
  funext c
  rw [negS_at S n h]
  unfold putS
  by_cases e : c.toNat = n
  · rw [if_pos e, ← e, ofNat_toNat]
    unfold negS
    rw [if_pos (by omega)]
  · rw [if_neg e]
    unfold negS
    by_cases h2 : c.toNat < n
    · rw [if_pos h2, if_pos (by omega)]
    · rw [if_neg h2, if_neg (by omega)]
theorem negS_end (S : UInt8 → Bool) : negS S 256 = notS S := by
  funext c
  unfold negS notS
  have := c.toNat_lt
  rw [if_pos (by omega)]
/-- The row of bits of a class lies in block g. -/
def SetG (w : World) (g : Nat) (S : UInt8 → Bool) : Prop := w.heap[g]? = some (.cells (bools S).toArray 4 (0, 0))
theorem SetG.cell {w g S n} (h : SetG w g S) (hn : n < 256) : w.cell? ⟨g, n, none⟩ = some (.bool (S (UInt8.ofNat n))) := cell_of h (by rw [List.getElem?_toArray]; exact bools_nth S n hn)
theorem SetG.put {w g S} (h : SetG w g S) (n : Nat) (x : Bool) : SetG (w.setCell ⟨g, n, none⟩ (.bool x)) g (putS S n x) := by
  unfold SetG at *
  rw [heap_setCell_same (o := n) h]
  simp [← bools_set]
theorem SetG.setNe {w g S} (h : SetG w g S) {p : Addr} (hp : g ≠ p.block) (v : Value) : SetG (w.setCell p v) g S := (Below.heap_setCell _ _ _ _ hp).trans h
theorem SetG.only {w w' g S D} (h : SetG w g S) (ho : Only D w w') (hd : ¬ D g) : SetG w' g S := (ho.block g (heap_lt h) hd).trans h
theorem SetG.drewN {w g S} (h : SetG w g S) (n : Nat) : SetG (w.drewN n) g S := h
theorem bools_none : bools (fun _ => false) = bitsV (List.replicate 256 false) := by
  apply List.ext_getElem?
  intro j
  by_cases hj : j < 256
  · rw [bools_nth _ j hj]
    unfold bitsV
    rw [List.getElem?_map, List.getElem?_replicate, if_pos hj]; rfl
  · rw [List.getElem?_eq_none (by rw [bools_len]; omega), List.getElem?_eq_none (by unfold bitsV; rw [List.length_map, List.length_replicate]; omega)]
/-- The reader itself, and nothing of its pieces. -/
def RdR (w : World) (b : Nat) (s : ByteArray) (i : Nat) (bad : Bool) (v : Value) : Prop := w.heap[b]? = some (.cells #[.string s, .int .i64 i, .bool bad, v] 153 (0, 0))
theorem RdR.setI {w b s i bad v} (h : RdR w b s i bad v) (j : Int) (k : Nat) (hj : j = k) : RdR (w.setCell ⟨b, 1, none⟩ (.int .i64 j)) b s k bad v := by
  subst hj
  exact heap_setCell_same h _
theorem RdR.setBad {w b s i bad v} (h : RdR w b s i bad v) : RdR (w.setCell ⟨b, 2, none⟩ (.bool true)) b s i true v := heap_setCell_same h _
theorem RdR.setNe {w b s i bad v} (h : RdR w b s i bad v) {p : Addr} (hp : b ≠ p.block) (x : Value) : RdR (w.setCell p x) b s i bad v := (Below.heap_setCell _ _ _ _ hp).trans h
theorem RdR.alloc {w b s i bad v} (h : RdR w b s i bad v) (o : Obj) : RdR (w.alloc o) b s i bad v := (Below.heap_alloc _ _ _ (heap_lt h)).trans h
theorem RdR.drewN {w b s i bad v} (h : RdR w b s i bad v) (n : Nat) : RdR (w.drewN n) b s i bad v := h
theorem RefP.rd {w b s i bad v P} (h : RefP w b s i bad v P) : RdR w b s i bad v := h.1
/-- The reader moved on, its pieces stand. -/
theorem RefP.moved {w w' b s i bad v P j bad'} (h : RefP w b s i bad v P) (ho : Only (fun k => k = b) w w') (hr : RdR w' b s j bad' v) : RefP w' b s j bad' v P := by
  have hne := h.own_ne
  obtain ⟨h1, xs, h2, h3⟩ := h
  refine ⟨hr, xs, ownsRow_of h2 (fun k hk => ho.block k (h2.lt k hk).2 (fun e => hne (by rw [hk, e]))), h3.of (fun g c hg => ho.block g (heap_lt hg) (fun e => by
    have e2 : g = b := e
    rw [e2, h1] at hg
    cases hg))⟩
theorem Grew.of_moved {w w' b v} (ho : Only (fun k => k = b) w w') : Grew w w' b v v := ⟨ho.mono (fun _ _ e => Or.inl e), Or.inl rfl⟩
/-- What a part of the reading leaves behind, and what it answers. -/
def RRPost (b : Nat) (s : ByteArray) (i : Nat) (v : Value) (P : List Pc) (res : Option (Pat × Nat)) (w : World) (e : Ending) (w' : World) : Prop :=
  ∃ (z i' : Nat) (v' : Value) (Q : List Pc), e = .returned (.int .i64 z) ∧ RefP w' b s i' res.isNone v' (P ++ Q) ∧ Grew w w' b v v' ∧ ∀ R j, res = some (R, j) → i' = j ∧ Q.length + 1 ≤ 2 * (j - i) ∧ ∃ d, PcIs (P ++ Q) d z R
end Go.Proofs.YthhiofppbpgipaaGreatDoor
