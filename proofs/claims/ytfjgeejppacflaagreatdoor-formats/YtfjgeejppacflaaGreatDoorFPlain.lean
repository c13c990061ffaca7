/- Plain functions on lists of bytes: an item of a format. Nothing of the program is imported. -/
import Derived.Test.YtfjgeejppacflaaGreatDoorVPlain
namespace Go.Proofs.YtfjgeejppacflaaGreatDoor
open Go.RowKit

def flagB (c : UInt8) : Bool := (c.toNat : Int) == 45 || (c.toNat : Int) == 48
def hasIn (c : Int) (l : List UInt8) (a b : Nat) : Bool := ((l.drop a).take (b - a)).any fun x => (x.toNat : Int) == c
theorem hasIn_self (c : Int) (l : List UInt8) (a : Nat) : hasIn c l a a = false := by simp [hasIn]
theorem hasIn_step {l : List UInt8} {a b : Nat} {x : UInt8} (c : Int) (h : l[b]? = some x) (hab : a ≤ b) : hasIn c l a (b + 1) = (hasIn c l a b || ((x.toNat : Int) == c)) := by
  unfold hasIn
  have hc : (l.drop a)[b - a]? = some x := by rw [List.getElem?_drop, show a + (b - a) = b by omega]; exact h
  rw [show b + 1 - a = (b - a) + 1 by omega, List.take_add_one, hc]
  simp

def digAt (l : List UInt8) (k : Nat) : Bool := match l[k]? with | some c => digB c | none => false
def d2m (l : List UInt8) (k : Nat) : Nat := if digAt l k then (if digAt l (k + 1) then 2 else 1) else 0
def numN (l : List UInt8) (k : Nat) : Nat → Nat
  | 0 => 0
  | m + 1 => numN l k m * 10 + ((l[k + m]?.getD 0).toNat - 48)
theorem d2m_eq {l : List UInt8} {k m : Nat} (hm : m ≤ 2) (h : ∀ r, r < m → digAt l (k + r) = true) (he : m = 2 ∨ digAt l (k + m) = false) : d2m l k = m := by
  unfold d2m
  have c0 : m = 0 ∨ m = 1 ∨ m = 2 := by omega
  rcases c0 with rfl | rfl | rfl
  · rcases he with he | he
    · omega
    · simp at he; simp [he]
  · have h0 := h 0 (by omega)
    rcases he with he | he
    · omega
    · simp at h0; simp [h0, he]
  · have h0 := h 0 (by omega)
    have h1 := h 1 (by omega)
    simp at h0; simp [h0, h1]
theorem digAt_lt {l : List UInt8} {k : Nat} (h : digAt l k = true) : k < l.length := by
  by_cases hk : k < l.length
  · exact hk
  · simp [digAt, List.getElem?_eq_none (show l.length ≤ k by omega)] at h
theorem d2m_le {l : List UInt8} {k : Nat} (hk : k ≤ l.length) : k + d2m l k ≤ l.length := by
  unfold d2m
  split
  · rename_i h0
    have := digAt_lt h0
    split
    · rename_i h1
      have := digAt_lt h1
      omega
    · omega
  · omega
theorem d2m_le2 (l : List UInt8) (k : Nat) : d2m l k ≤ 2 := by unfold d2m; split <;> (try split) <;> omega
theorem numN_lt (l : List UInt8) (k m : Nat) (hm : m ≤ 2) (h : ∀ r, r < m → digAt l (k + r) = true) : numN l k m ≤ 99 ∧ (m ≤ 1 → numN l k m ≤ 9) := by
  have d : ∀ r, r < m → (l[k + r]?.getD 0).toNat - 48 ≤ 9 := by
    intro r hr
    have := h r hr
    unfold digAt at this
    cases hc : l[k + r]? with
    | none => simp [hc] at this
    | some c => simp [hc, digB] at this; simp; omega
  have c0 : m = 0 ∨ m = 1 ∨ m = 2 := by omega
  rcases c0 with rfl | rfl | rfl
  · simp [numN]
  · have := d 0 (by omega); simp [numN] at this ⊢; omega
  · have := d 0 (by omega); have := d 1 (by omega); simp [numN] at *; omega

def fE (l : List UInt8) (k : Nat) : Nat := runTo flagB l k
def wE (l : List UInt8) (k : Nat) : Nat := fE l k + d2m l (fE l k)
def itWidth (l : List UInt8) (k : Nat) : Nat := numN l (fE l k) (d2m l (fE l k))
def itDot (l : List UInt8) (k : Nat) : Bool := isAt l (wE l k) 46
def pE (l : List UInt8) (k : Nat) : Nat := if itDot l k then wE l k + 1 + d2m l (wE l k + 1) else wE l k
def itPrec (l : List UInt8) (k : Nat) : Nat := if itDot l k then numN l (wE l k + 1) (d2m l (wE l k + 1)) else 0
def itLetter (l : List UInt8) (k : Nat) : UInt8 := l[pE l k]?.getD 0
def itLeft (l : List UInt8) (k : Nat) : Bool := hasIn 45 l k (fE l k)
def itZero (l : List UInt8) (k : Nat) : Bool := hasIn 48 l k (fE l k)
def knownB (c : Int) (dot : Bool) : Bool := c == 115 || (!dot && (c == 100 || c == 120 || c == 99))
def itOk (l : List UInt8) (k : Nat) : Bool := decide (pE l k < l.length) && knownB (itLetter l k).toNat (itDot l k)

theorem isAt_ltB {l : List UInt8} {k : Nat} {c : Int} (h : isAt l k c = true) : k < l.length := by
  by_cases hk : k < l.length
  · exact hk
  · simp [isAt, List.getElem?_eq_none (show l.length ≤ k by omega)] at h
theorem fE_le {l : List UInt8} {k : Nat} (h : k ≤ l.length) : fE l k ≤ l.length := runTo_le h
theorem wE_le {l : List UInt8} {k : Nat} (h : k ≤ l.length) : wE l k ≤ l.length := d2m_le (fE_le h)
theorem pE_le {l : List UInt8} {k : Nat} (h : k ≤ l.length) : pE l k ≤ l.length := by
  unfold pE
  split
  · rename_i hd
    exact d2m_le (isAt_ltB hd)
  · exact wE_le h
end Go.Proofs.YtfjgeejppacflaaGreatDoor
