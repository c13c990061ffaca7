import Derived.Test.YthhiofppbpgipaaGreatDoorFWalkC
import Derived.Test.YthhiofppbpgipaaGreatDoorShelf
namespace Go.Proofs.YthhiofppbpgipaaGreatDoor
open Go.RowKit

theorem bcell {W w1 : World} (hb : Below W.heap.size W w1) : (∀ b o, b < W.heap.size → w1.cell? ⟨b, o, none⟩ = W.cell? ⟨b, o, none⟩) ∧ (∀ b o, b < W.heap.size → w1.frozen? ⟨b, o, none⟩ = W.frozen? ⟨b, o, none⟩) :=
  ⟨fun b o h => hb.cell (p := ⟨b, o, none⟩) h, fun b o h => hb.frozen (p := ⟨b, o, none⟩) h⟩
theorem repeatL_one (c : UInt8) (n : Nat) : Lib.repeatL [c] n = List.replicate n c := by
  induction n with
  | zero => rfl
  | succ n ih => show [c] ++ Lib.repeatL [c] n = _; rw [ih]; rfl
set_option maxHeartbeats 1000000 in
theorem missing_any (L Z : Bool) (n : Nat) (p : Bool) (q : Int) (c : Int) (s : ByteArray) (w : World) (hn : n ≤ 99) (hs : s.size ≤ maxLen) :
    Calls Tryz.prog 197 #[.agg #[.bool L, .bool Z, .int .i64 n, .bool p, .int .i64 q, .int .u8 c], .string s] w fun e w' => e = .returned (.int .i64 ((n - s.size : Nat) : Int)) ∧ Below w.heap.size w w' := by
  unfold maxLen at hs
  have e0 : Hid (max 0 ((n : Int) - s.size) = ((n - s.size : Nat) : Int)) := by show max 0 ((n : Int) - s.size) = ((n - s.size : Nat) : Int); omega
  go_enter Tryz.func197, Tryz.ntmps197
  go_wp2
  go_ret
  exact ⟨ret_int e0.out, by repeat (first | exact Below.refl _ _ | refine Below.drew ?_ | refine Below.alloc ?_ (by simp <;> omega) _)⟩
def fillL (left : Bool) (n : Nat) (t : List UInt8) : List UInt8 := if left then t ++ List.replicate (n - t.length) 32 else List.replicate (n - t.length) 32 ++ t
theorem app_left (l : List UInt8) (s : ByteArray) : (⟨l.toArray⟩ : ByteArray) ++ s = ⟨(l ++ s.data.toList).toArray⟩ := by
  apply ByteArray.ext; simp
theorem app_right (l : List UInt8) (s : ByteArray) : s ++ (⟨l.toArray⟩ : ByteArray) = ⟨(s.data.toList ++ l).toArray⟩ := by
  apply ByteArray.ext; simp
theorem ret_str {a b : ByteArray} (h : a = b) : Ending.returned (.string a) = .returned (.string b) := by rw [h]
theorem size_mk (l : List UInt8) : (⟨l.toArray⟩ : ByteArray).size = l.length := by simp [ByteArray.size]
set_option maxHeartbeats 1000000 in
theorem fill_any (L Z : Bool) (n : Nat) (p : Bool) (q : Int) (c : Int) (s : ByteArray) (w : World) (hn : n ≤ 99) (hs : s.size ≤ 65536) :
    Calls Tryz.prog 127 #[.agg #[.bool L, .bool Z, .int .i64 n, .bool p, .int .i64 q, .int .u8 c], .string s] w fun e w' => e = .returned (.string ⟨(fillL L n s.data.toList).toArray⟩) ∧ Below w.heap.size w w' := by
  have hs' : s.size ≤ maxLen := by unfold maxLen; omega
  go_enter Tryz.func127, Tryz.ntmps127
  go_wp2_with fail
  refine (missing_any L Z n p q c s _ hn hs').mono ?_
  rintro e w1 ⟨rfl, hb1⟩
  go_wp2_with fail
  refine (Tryz.strings_Repeat _ _ _ (by omega) (by show 1 * _ ≤ _; omega)).mono ?_
  rintro e w2 ⟨rfl, hb2⟩
  rw [show ({ data := #[32] } : ByteArray).data.toList = [32] from rfl, repeatL_one]
  have hz1 := hb1.size
  have q0 : w2.cell? ⟨w.heap.size, 0, none⟩ = some (.bool L) := by
    rw [hb2.cell (p := ⟨w.heap.size, 0, none⟩) (by simp at hz1; show w.heap.size < _; omega), hb1.cell (p := ⟨w.heap.size, 0, none⟩) (by simp), World.cell?_alloc_at _ _ _ _ rfl]; rfl
  have hz2 := hb2.size
  simp at hz1
  have HP : Hid (fillL L n s.data.toList = if L then s.data.toList ++ List.replicate (n - s.size) 32 else List.replicate (n - s.size) 32 ++ s.data.toList) := by
    show fillL L n s.data.toList = if L then s.data.toList ++ List.replicate (n - s.size) 32 else List.replicate (n - s.size) 32 ++ s.data.toList
    unfold fillL; rw [len_eq]
  have hpl : (List.replicate (n - s.size) (32 : UInt8)).length ≤ 99 := by simp; omega
  have hb : Below w.heap.size w w2 := (((Below.refl _ _).alloc (Nat.le_refl _) _).trans (hb1.mono (by simp))).trans (hb2.mono (by omega))
  clear hb1 hb2
  generalize (List.replicate (n - s.size) (32 : UInt8)) = pad at *
  cases L
  · go_wp2
    go_ret
    exact ⟨ret_str (by rw [HP.out, app_left]; rfl), hb⟩
  · go_wp2
    go_ret
    exact ⟨ret_str (by rw [HP.out, app_right]; rfl), hb⟩
def fillN (left zero : Bool) (n : Nat) (t : List UInt8) : List UInt8 :=
  if left || !zero then fillL left n t else if Lib.hasPrefix t [45] then [45] ++ (List.replicate (n - t.length) 48 ++ t.drop 1) else List.replicate (n - t.length) 48 ++ t
set_option maxHeartbeats 1000000 in
theorem fillNumber_fill (L Z : Bool) (n : Nat) (p : Bool) (q : Int) (c : Int) (s : ByteArray) (w : World) (hn : n ≤ 99) (hs : s.size ≤ 65536) (hLZ : (L || !Z) = true) :
    Calls Tryz.prog 123 #[.agg #[.bool L, .bool Z, .int .i64 n, .bool p, .int .i64 q, .int .u8 c], .string s] w fun e w' => e = .returned (.string ⟨(fillN L Z n s.data.toList).toArray⟩) ∧ Below w.heap.size w w' := by
  have HF : Hid (fillN L Z n s.data.toList = fillL L n s.data.toList) := by
    show fillN L Z n s.data.toList = fillL L n s.data.toList
    unfold fillN; rw [hLZ]; rfl
  cases L
  · cases Z
    · go_enter Tryz.func123, Tryz.ntmps123
      go_wp2_with (go_at_call 127; refine (fill_any false false n p q c s _ hn hs).mono ?_; rintro e w1 ⟨rfl, hb1⟩)
      go_ret
      exact ⟨ret_str (by rw [HF.out]), ((Below.refl _ _).alloc (Nat.le_refl _) _).trans (hb1.mono (by simp))⟩
    · cases hLZ
  · go_enter Tryz.func123, Tryz.ntmps123
    go_wp2_with (go_at_call 127; refine (fill_any true Z n p q c s _ hn hs).mono ?_; rintro e w1 ⟨rfl, hb1⟩)
    go_ret
    exact ⟨ret_str (by rw [HF.out]), ((Below.refl _ _).alloc (Nat.le_refl _) _).trans (hb1.mono (by simp))⟩
set_option maxHeartbeats 1000000 in
theorem fillNumber_zero (n : Nat) (p : Bool) (q : Int) (c : Int) (s : ByteArray) (w : World) (hn : n ≤ 99) (hs : s.size ≤ 65536) :
    Calls Tryz.prog 123 #[.agg #[.bool false, .bool true, .int .i64 n, .bool p, .int .i64 q, .int .u8 c], .string s] w fun e w' => e = .returned (.string ⟨(fillN false true n s.data.toList).toArray⟩) ∧ Below w.heap.size w w' := by
  have hs' : s.size ≤ maxLen := by unfold maxLen; omega
  cases hpx : Lib.hasPrefix s.data.toList [45]
  · have HF : Hid (fillN false true n s.data.toList = List.replicate (n - s.size) 48 ++ s.data.toList) := by
      show fillN false true n s.data.toList = List.replicate (n - s.size) 48 ++ s.data.toList
      unfold fillN; rw [hpx, len_eq]; rfl
    have HX := hide hpx
    clear hpx
    have hpl : (List.replicate (n - s.size) (48 : UInt8)).length ≤ 99 := by simp; omega
    go_enter Tryz.func123, Tryz.ntmps123
    go_wp2_with fail
    refine (missing_any false true n p q c s _ hn hs').mono ?_
    rintro e w1 ⟨rfl, hb1⟩
    go_wp2_with fail
    refine (Tryz.strings_Repeat _ _ _ (by omega) (by show 1 * _ ≤ _; omega)).mono ?_
    rintro e w2 ⟨rfl, hb2⟩
    rw [show ({ data := #[48] } : ByteArray).data.toList = [48] from rfl, repeatL_one]
    have hz1 := hb1.size
    have hb : Below w.heap.size w w2 := (((Below.refl _ _).alloc (Nat.le_refl _) _).trans (hb1.mono (by simp))).trans (hb2.mono (by simp at hz1; omega))
    clear hb1 hb2
    generalize (List.replicate (n - s.size) (48 : UInt8)) = pad at *
    go_wp2_with fail
    refine (Tryz.strings_CutPrefix _ _ _).mono ?_
    rintro e w3 ⟨rfl, rfl⟩
    rw [show ({ data := #[45] } : ByteArray).data.toList = [45] from rfl, HX.out]
    go_wp2
    go_ret
    exact ⟨ret_str (by rw [HF.out, app_left]), hb⟩
  · have HF : Hid (fillN false true n s.data.toList = [45] ++ (List.replicate (n - s.size) 48 ++ s.data.toList.drop 1)) := by
      show fillN false true n s.data.toList = [45] ++ (List.replicate (n - s.size) 48 ++ s.data.toList.drop 1)
      unfold fillN; rw [hpx, len_eq]; rfl
    have HT : Hid (Lib.trimPrefix s.data.toList [45] = s.data.toList.drop 1) := by
      show Lib.trimPrefix s.data.toList [45] = s.data.toList.drop 1
      unfold Lib.trimPrefix; rw [hpx]; rfl
    have HX := hide hpx
    clear hpx
    have hpl : (List.replicate (n - s.size) (48 : UInt8)).length ≤ 99 := by simp; omega
    have hdl : (s.data.toList.drop 1).length ≤ 65536 := by rw [List.length_drop, len_eq]; omega
    go_enter Tryz.func123, Tryz.ntmps123
    go_wp2_with fail
    refine (missing_any false true n p q c s _ hn hs').mono ?_
    rintro e w1 ⟨rfl, hb1⟩
    go_wp2_with fail
    refine (Tryz.strings_Repeat _ _ _ (by omega) (by show 1 * _ ≤ _; omega)).mono ?_
    rintro e w2 ⟨rfl, hb2⟩
    rw [show ({ data := #[48] } : ByteArray).data.toList = [48] from rfl, repeatL_one]
    have hz1 := hb1.size
    have hb : Below w.heap.size w w2 := (((Below.refl _ _).alloc (Nat.le_refl _) _).trans (hb1.mono (by simp))).trans (hb2.mono (by simp at hz1; omega))
    clear hb1 hb2
    generalize (List.replicate (n - s.size) (48 : UInt8)) = pad at *
    go_wp2_with fail
    refine (Tryz.strings_CutPrefix _ _ _).mono ?_
    rintro e w3 ⟨rfl, rfl⟩
    rw [show ({ data := #[45] } : ByteArray).data.toList = [45] from rfl, HX.out, HT.out]
    generalize s.data.toList.drop 1 = rest at *
    go_wp2
    go_ret
    refine ⟨ret_str ?_, hb⟩
    rw [HF.out]
    apply ByteArray.ext
    simp
end Go.Proofs.YthhiofppbpgipaaGreatDoor
