import Derived.Test.YthhiofppbpgipaaGreatDoorFWalkE
import Derived.Laws.BytesArg
namespace Go.Proofs.YthhiofppbpgipaaGreatDoor
open Go.RowKit

theorem extract_take (s : ByteArray) (k : Nat) : s.extract 0 k = ⟨(s.data.toList.take k).toArray⟩ := by
  apply ByteArray.ext
  rw [ByteArray.data_extract]
  apply Array.ext'
  simp
theorem take_min (l : List UInt8) (q : Nat) : l.take (min q l.length) = l.take q := by rw [List.take_eq_take_iff]; omega
def byteStr (n : Int) : ByteArray := strOfNums [n]
theorem convByte (W : World) (n : Int) (t : TypeId) : (convert 166 9 (.slice (some ⟨W.heap.size, 0, none⟩) 1 1)).run Tryz.prog (W.alloc (.cells #[.int .u8 n] t)) = .ok (.string (byteStr n)) (W.alloc (.cells #[.int .u8 n] t)) :=
  run_convert_bytes_arg _ 166 5 Tryz.underlying166 Tryz.underlying5 W.heap.size 0 1 1 [n] rfl (fun i hi => by
    obtain rfl : i = 0 := by omega
    rw [World.cell?_alloc_at _ _ _ _ rfl]; rfl) 9 Tryz.underlying9
theorem box_cells {w w1 : World} {c : Array Value} {t : TypeId} (hb : Below (w.alloc (.cells c t)).heap.size (w.alloc (.cells c t)) w1) (i : Nat) : w1.cell? ⟨w.heap.size, i, none⟩ = c[i]? := by
  rw [hb.cell (p := ⟨w.heap.size, i, none⟩) (by simp), World.cell?_alloc_at _ _ _ _ rfl]
theorem box_size {w w1 : World} {c : Array Value} {t : TypeId} (hb : Below (w.alloc (.cells c t)).heap.size (w.alloc (.cells c t)) w1) : w.heap.size + 1 ≤ w1.heap.size := by
  have := hb.size; simpa using this
theorem box_below {w w1 : World} {c : Array Value} {t : TypeId} (hb : Below (w.alloc (.cells c t)).heap.size (w.alloc (.cells c t)) w1) : Below w.heap.size w w1 :=
  ((Below.refl _ _).alloc (Nat.le_refl _) _).trans (hb.mono (by simp))
def shortL (p : Bool) (q : Nat) (t : List UInt8) : List UInt8 := if p then t.take q else t
set_option maxHeartbeats 1000000 in
theorem shorten_any (L Z : Bool) (n : Int) (p : Bool) (q : Nat) (c : Int) (s : ByteArray) (w : World) (hq : q ≤ 99) (hs : s.size ≤ 65536) :
    Calls Tryz.prog 129 #[.agg #[.bool L, .bool Z, .int .i64 n, .bool p, .int .i64 q, .int .u8 c], .string s] w fun e w' => e = .returned (.string ⟨(shortL p q s.data.toList).toArray⟩) ∧ Below w.heap.size w w' := by
  cases p
  · go_enter Tryz.func129, Tryz.ntmps129
    go_wp2
    go_ret
    exact ⟨ret_str (by apply ByteArray.ext; simp [shortL]), by repeat (first | exact Below.refl _ _ | refine Below.drew ?_ | refine Below.alloc ?_ (by simp <;> omega) _)⟩
  · have HM : Hid (s.extract 0 (min (q : Int) s.size).toNat = ⟨(shortL true q s.data.toList).toArray⟩) := by
      show s.extract 0 (min (q : Int) s.size).toNat = ⟨(shortL true q s.data.toList).toArray⟩
      rw [extract_take, show (min (q : Int) s.size).toNat = min q s.size by omega]
      show _ = (⟨(s.data.toList.take q).toArray⟩ : ByteArray)
      rw [← len_eq, take_min]
    go_enter Tryz.func129, Tryz.ntmps129
    go_wp2
    go_ret
    exact ⟨ret_str HM.out, by repeat (first | exact Below.refl _ _ | refine Below.drew ?_ | refine Below.alloc ?_ (by simp <;> omega) _)⟩
set_option maxHeartbeats 1000000 in
theorem char_text (n : Int) (s : ByteArray) (w : World) (hs : s.size ≤ 65536) :
    Calls Tryz.prog 128 #[.agg #[.int .i64 2, .int .i64 n, .string s]] w fun e w' => e = .returned (.string ⟨(s.data.toList.take 1).toArray⟩) ∧ Below w.heap.size w w' := by
  have HM : Hid (s.extract 0 (min (1 : Int) s.size).toNat = ⟨(s.data.toList.take 1).toArray⟩) := by
    show s.extract 0 (min (1 : Int) s.size).toNat = ⟨(s.data.toList.take 1).toArray⟩
    rw [extract_take, show (min (1 : Int) s.size).toNat = min 1 s.size by omega]
    rw [← len_eq, take_min]
  go_enter Tryz.func128, Tryz.ntmps128
  go_wp2_with fail
  refine (isText_any 2 n s _).mono ?_
  rintro e w1 ⟨rfl, hb1⟩
  have q0 := box_cells hb1 0
  have q1 := box_cells hb1 1
  have q2 := box_cells hb1 2
  simp at q0 q1 q2
  have hb := box_below hb1
  have hz := box_size hb1
  clear hb1
  go_wp2_with fail
  refine (text_any 2 n s _ rfl).mono ?_
  rintro e w2 ⟨rfl, hb2⟩
  have hb' := hb.trans (hb2.mono (by omega))
  go_wp2
  go_ret
  exact ⟨ret_str HM.out, hb'⟩
set_option maxHeartbeats 1000000 in
theorem char_else (k n : Int) (s : ByteArray) (w : World) (hk : (k == 2) = false) :
    Calls Tryz.prog 128 #[.agg #[.int .i64 k, .int .i64 n, .string s]] w fun e w' => e = .returned (.string (byteStr (IntKind.u8.wrap n))) ∧ Below w.heap.size w w' := by
  go_enter Tryz.func128, Tryz.ntmps128
  go_wp2_with fail
  refine (isText_any k n s _).mono ?_
  rintro e w1 ⟨rfl, hb1⟩
  have q0 := box_cells hb1 0
  have q1 := box_cells hb1 1
  have q2 := box_cells hb1 2
  simp at q0 q1 q2
  have hb := box_below hb1
  have hz := box_size hb1
  clear hb1
  go_wp2_with fail
  refine (number_else k n s _ hk).mono ?_
  rintro e w2 ⟨rfl, hb2⟩
  have hb' := hb.trans (hb2.mono (by omega))
  have hz2 := hb2.size
  have kc := convByte w2
  clear q0 q1 q2 hb hb2
  go_wp2
  go_ret
  exact ⟨rfl, hb'.alloc (by omega) _⟩
end Go.Proofs.YthhiofppbpgipaaGreatDoor
