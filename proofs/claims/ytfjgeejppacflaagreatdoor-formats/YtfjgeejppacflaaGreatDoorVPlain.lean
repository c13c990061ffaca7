/- Plain functions on lists of bytes: blanks, leading numbers. Nothing of the program is imported. -/
import Derived.WalkKit
namespace Go.Proofs.YtfjgeejppacflaaGreatDoor
open Go.RowKit

def blankB (c : UInt8) : Bool := (c.toNat : Int) == 32 || (c.toNat : Int) == 9 || (c.toNat : Int) == 10
def digB (c : UInt8) : Bool := decide (48 ≤ c.toNat) && decide (c.toNat ≤ 57)

/-- The first place from k on where no byte of the kind p stands. -/
def runTo (p : UInt8 → Bool) (l : List UInt8) (k : Nat) : Nat := k + ((l.drop k).takeWhile p).length

theorem runTo_stop {p : UInt8 → Bool} {l : List UInt8} {k : Nat} (h : ∀ c, l[k]? = some c → p c = false) : runTo p l k = k := by
  unfold runTo
  cases hd : l.drop k with
  | nil => simp
  | cons c r =>
    have : l[k]? = some c := by
      have := congrArg (fun x => x[0]?) hd
      simpa using this
    simp [h c this]
theorem runTo_step {p : UInt8 → Bool} {l : List UInt8} {k : Nat} {c : UInt8} (h : l[k]? = some c) (hp : p c = true) : runTo p l (k + 1) = runTo p l k := by
  unfold runTo
  have hk : k < l.length := by
    by_cases hk : k < l.length
    · exact hk
    · rw [List.getElem?_eq_none (by omega)] at h; cases h
  have hc : l[k] = c := by rw [List.getElem?_eq_getElem hk] at h; exact Option.some.inj h
  rw [List.drop_eq_getElem_cons hk, List.takeWhile_cons, hc, hp]
  simp; omega
theorem runTo_ge (p : UInt8 → Bool) (l : List UInt8) (k : Nat) : k ≤ runTo p l k := by unfold runTo; omega
theorem runTo_le {p : UInt8 → Bool} {l : List UInt8} {k : Nat} (h : k ≤ l.length) : runTo p l k ≤ l.length := by
  unfold runTo
  have := List.takeWhile_prefix p (l := l.drop k) |>.length_le
  simp at this; omega

theorem get_of_lt (s : ByteArray) (k : Nat) (h : k < s.size) : s.data.toList[k]? = some s[k] := by
  rw [List.getElem?_eq_getElem (by simpa using h)]; rfl
theorem get_none (s : ByteArray) (k : Nat) (h : s.size ≤ k) : s.data.toList[k]? = none := by
  rw [List.getElem?_eq_none (by simpa using h)]
theorem len_eq (s : ByteArray) : s.data.toList.length = s.size := by rw [Array.length_toList]; rfl

def accD (n : Int) (c : UInt8) : Int := wrap64 (wrap64 (n * 10) + ((c.toNat : Int) - 48))
def numTo (l : List UInt8) (a b : Nat) : Int := ((l.drop a).take (b - a)).foldl accD 0
def isAt (l : List UInt8) (k : Nat) (c : Int) : Bool := match l[k]? with | some x => (x.toNat : Int) == c | none => false
def leadFirst (l : List UInt8) : Nat := if isAt l (runTo blankB l 0) 45 || isAt l (runTo blankB l 0) 43 then runTo blankB l 0 + 1 else runTo blankB l 0
def leadEnd (l : List UInt8) : Nat := runTo digB l (leadFirst l)
def leadNum (l : List UInt8) : Int := if isAt l (runTo blankB l 0) 45 then wrap64 (-(numTo l (leadFirst l) (leadEnd l))) else numTo l (leadFirst l) (leadEnd l)
def leadOk (l : List UInt8) : Bool := decide (leadFirst l < leadEnd l)

theorem numTo_self (l : List UInt8) (a : Nat) : numTo l a a = 0 := by simp [numTo]
theorem numTo_step {l : List UInt8} {a b : Nat} {c : UInt8} (h : l[b]? = some c) (hab : a ≤ b) : numTo l a (b + 1) = accD (numTo l a b) c := by
  unfold numTo
  have hb : b < l.length := by
    by_cases hk : b < l.length
    · exact hk
    · rw [List.getElem?_eq_none (by omega)] at h; cases h
  have hc : (l.drop a)[b - a]? = some c := by rw [List.getElem?_drop, show a + (b - a) = b by omega]; exact h
  rw [show b + 1 - a = (b - a) + 1 by omega, List.take_add_one, hc]
  simp
theorem leadFirst_le (l : List UInt8) : leadFirst l ≤ l.length := by
  have h := runTo_le (p := blankB) (l := l) (k := 0) (by omega)
  unfold leadFirst
  split
  · rename_i hh
    have : runTo blankB l 0 < l.length := by
      by_cases hk : runTo blankB l 0 < l.length
      · exact hk
      · simp [isAt, List.getElem?_eq_none (show l.length ≤ runTo blankB l 0 by omega)] at hh
    omega
  · exact h
theorem leadEnd_le (l : List UInt8) : leadEnd l ≤ l.length := runTo_le (leadFirst_le l)
theorem leadEnd_ge (l : List UInt8) : leadFirst l ≤ leadEnd l := runTo_ge _ _ _
def numeralB (l : List UInt8) : Bool := leadOk l && decide (runTo blankB l (leadEnd l) = l.length)
def spEnd (l : List UInt8) : Nat := if leadOk l then leadEnd l else 0
theorem spEnd_yes {l : List UInt8} (h : leadOk l = true) : spEnd l = leadEnd l := by simp [spEnd, h]
theorem spEnd_no {l : List UInt8} (h : leadOk l = false) : spEnd l = 0 := by simp [spEnd, h]
theorem leadNum_no {l : List UInt8} (h : leadOk l = false) : leadNum l = 0 := by
  have h1 := leadEnd_ge l
  simp [leadOk] at h
  have h2 : leadEnd l = leadFirst l := by omega
  unfold leadNum
  rw [h2, numTo_self]
  simp [wrap64]
end Go.Proofs.YtfjgeejppacflaaGreatDoor
