import Derived.Test.YthhiofppbpgipaaGreatDoorMEndsW
namespace Go.Proofs.YthhiofppbpgipaaGreatDoor
open Go.RowKit
/-- The end of the longest match that begins at i. -/
def LongIs (R : Pat) (t : List UInt8) (i : Nat) (o : Option Nat) : Prop := (∀ j, o = some j → i ≤ j ∧ j ≤ t.length ∧ R t i j ∧ ∀ j', j < j' → j' ≤ t.length → ¬ R t i j') ∧ (o = none → ∀ j, i ≤ j → j ≤ t.length → ¬ R t i j) ∧ ∀ j, R t i j → j ≤ t.length
theorem one_bit (n i : Nat) (hi : i < n) (j : Nat) : ((List.replicate n false).set i true)[j]? = some true ↔ j = i := by
  by_cases e : j = i
  · subst e
    rw [List.getElem?_set_self (by simpa using hi)]; simp
  · rw [List.getElem?_set_ne (fun h => e h.symm), List.getElem?_replicate]
    split <;> simp [e]
set_option maxRecDepth 10000 in
set_option maxHeartbeats 4000000 in
theorem longest_any (d : Nat) (P : List Pc) (top : Nat) (R : Pat) (hk : PcIs P d top R) (v : Value) (s : ByteArray) (i : Nat) (hi : i ≤ s.size) (hPl : P.length ≤ 1000000) (h6 : s.size ≤ 65000) (w : World) (hP : PcAt w v P) :
    Calls Tryz.prog 55 #[.agg #[v, .int .i64 top], .string s, .int .i64 i] w fun e w' => ∃ o, e = .returned (.int .i64 (placeI o)) ∧ LongIs R s.data.toList i o ∧ Only (fun _ => False) w w' := by
  obtain ⟨po, cap, rfl⟩ : ∃ po cap, v = .slice po P.length cap := by obtain ⟨xs, h2, _⟩ := hP; exact ownsRow_slice h2
  have hmk := run_make_row' (P := Tryz.prog) 117 4 (.bool false) 1 Tryz.underlying117 info4 rfl .i64 .i64 (s.size + 1) (by omega) (by omega)
  have hmk' : ∀ W : World, (Instr.makeSlice 117 (.int .i64 ((s.size : Int) + 1)) (.int .i64 ((s.size : Int) + 1))).run Tryz.prog W = .ok (.slice (some ⟨W.heap.size, 0, none⟩) (s.size + 1) (s.size + 1)) (W.alloc (.cells (madeCells #[.bool false] (s.size + 1)) 4)) := hmk
  have HP := hide hP
  have HK := hide hk
  have hlen : s.data.toList.length = s.size := len_eq s
  clear hmk hP hk
  have HM0 : ∀ o1, Hid (BitsAt ((w.alloc o1).alloc (.cells (madeCells #[.bool false] (s.size + 1)) 4)) (w.heap.size + 1) (List.replicate (s.size + 1) false)) := fun o1 => by
    show BitsAt _ _ _
    unfold BitsAt
    rw [newb1 w, made_bits]
  have hii : (i : Int) < (s.size : Int) + 1 := by omega
  have k0 : ∀ o1, ((w.alloc o1).alloc (.cells (madeCells #[.bool false] (s.size + 1)) 4)).cell? ⟨w.heap.size + 1, i, none⟩ = some (.bool false) := fun o1 => (HM0 o1).out.cell (by rw [List.getElem?_replicate, if_pos (by omega)])
  have f0 : ∀ o1, ((w.alloc o1).alloc (.cells (madeCells #[.bool false] (s.size + 1)) 4)).frozen? ⟨w.heap.size + 1, i, none⟩ = false := fun o1 => free_of (HM0 o1).out i
  go_enter Tryz.func55, Tryz.ntmps55
  go_wp2_with fail
  have hb0 : BitsAt ((w.alloc (.cells #[.slice po P.length cap, .int .i64 top] 66)).alloc (.cells ((madeCells #[.bool false] (s.size + 1)).setIfInBounds i (.bool true)) 4)) (w.heap.size + 1) ((List.replicate (s.size + 1) false).set i true) := by
    unfold BitsAt
    rw [newb1 w, made_bits, List.setIfInBounds_toArray]
    unfold bitsV
    rw [List.map_set]
  have ho0 : Only (fun _ => False) w ((w.alloc (.cells #[.slice po P.length cap, .int .i64 top] 66)).alloc (.cells ((madeCells #[.bool false] (s.size + 1)).setIfInBounds i (.bool true)) 4)) := ((Only.refl _ w).alloc _).alloc _
  refine (ends_all d P top R _ top s (w.heap.size + 1) (s.size + 1) _ _ HK.out (HP.out.only ho0 (fun _ _ e => e)) hPl h6 (by simp) hb0).mono ?_
  rintro e w1 ⟨g, out, co, rfl, hb1, him, hgl, ho1⟩
  have hol : out.length = s.size + 1 := by rw [him.1]; simp
  have HIm : Hid (∀ j, out[j]? = some true ↔ R s.data.toList i j) := fun j => by
    rw [him.2 j]
    exact ⟨fun ⟨i', h1, h2⟩ => by rw [(one_bit _ _ (by omega) i').1 h1] at h2; exact h2, fun h => ⟨i, (one_bit _ _ (by omega) i).2 rfl, h⟩⟩
  have HBd : Hid (∀ j, R s.data.toList i j → j ≤ s.data.toList.length) := fun j h => by
    have := (List.getElem?_eq_some_iff.1 ((HIm.out j).2 h)).1
    omega
  have HB1 := hide hb1
  have HO1 : Hid (Only (fun _ => False) w w1) := ho0.trans ho1 (fun _ _ e => e)
  clear hb0 ho0 hb1 him hgl ho1 hmk' HM0 k0 f0
  go_wp2
  go_loopw [9] (fun s9 wr => ∃ m : Nat, s9 = .int .i64 ((m : Int) - 1) ∧ i ≤ m ∧ m ≤ s.size + 1 ∧ wr = w1 ∧ ∀ j, m ≤ j → j ≤ s.size → ¬ R s.data.toList i j) (fun s9 _ => (intOf s9 + 1).toNat)
  case atStart => exact ⟨s.size + 1, by go_num, by omega, Nat.le_refl _, rfl, fun j h1 h2 => by omega⟩
  case round =>
    obtain ⟨m, e9, him, hms, ew, hno⟩ := hrel
    subst e9
    subst ew
    have HNo := hide hno
    clear hno
    by_cases hmi : m = i
    · have hci : ¬ (i : Int) ≤ (m : Int) - 1 := by omega
      go_wp2
      go_ret
      exact ⟨none, rfl, ⟨fun j h => (by cases h), fun _ j h1 h2 => HNo.out j (by omega) (by omega), HBd.out⟩, HO1.out⟩
    · obtain ⟨m, rfl⟩ : ∃ m', m = m' + 1 := ⟨m - 1, by omega⟩
      have e1 : ((m + 1 : Nat) : Int) - 1 = (m : Int) := by omega
      rw [e1]
      have hci : (i : Int) ≤ (m : Int) := by omega
      have hcs : (m : Int) < (s.size : Int) + 1 := by omega
      obtain ⟨b, hb⟩ : ∃ b, out[m]? = some b := ⟨out[m]'(by omega), List.getElem?_eq_getElem (by omega)⟩
      have k1 : wr.cell? ⟨g, m, none⟩ = some (.bool b) := HB1.out.cell hb
      have HBb := hide hb
      clear hb
      cases b with
      | true =>
        go_wp2
        go_ret
        exact ⟨some m, rfl, ⟨fun j h => (by cases h; exact ⟨by omega, by omega, (HIm.out m).1 HBb.out, fun j' h1 h2 => HNo.out j' (by omega) (by omega)⟩), fun h => (by cases h), HBd.out⟩, HO1.out⟩
      | false =>
        have HN2 : Hid (∀ j, m ≤ j → j ≤ s.size → ¬ R s.data.toList i j) := fun j h1 h2 hr => by
          by_cases e : j = m
          · subst e
            have := (HIm.out j).2 hr
            rw [HBb.out] at this; cases this
          · exact HNo.out j (by omega) h2 hr
        go_wp2
        go_roundw
        case rel => exact ⟨m, by go_num, by omega, by omega, by trivial, HN2.out⟩
        case measure => simp [intOf]
end Go.Proofs.YthhiofppbpgipaaGreatDoor

namespace Go.Proofs.YthhiofppbpgipaaGreatDoor
open Go.RowKit
def endI (best : Option (Nat × Nat)) : Int := match best with | none => -1 | some x => (x.1 + x.2 : Nat)
def begI (best : Option (Nat × Nat)) : Int := match best with | none => -1 | some x => x.1
set_option maxHeartbeats 4000000 in
theorem rfind_any (d : Nat) (P : List Pc) (top : Nat) (R : Pat) (hk : PcIs P d top R) (v : Value) (s : ByteArray) (frm : Nat) (hfr : frm ≤ s.size) (hPl : P.length ≤ 1000000) (h6 : s.size ≤ 65000) (w : World) (hP : PcAt w v P) :
    Calls Tryz.prog 26 #[.agg #[v, .int .i64 top], .string s, .int .i64 frm] w fun e w' => ∃ best, e = .returned (.tuple #[.int .i64 (begI best), .int .i64 (endI best)]) ∧ Finds R s.data.toList frm 0 best ∧ Only (fun _ => False) w w' := by
  obtain ⟨po, cap, rfl⟩ : ∃ po cap, v = .slice po P.length cap := by obtain ⟨xs, h2, _⟩ := hP; exact ownsRow_slice h2
  have HP := hide hP
  have hlen : s.data.toList.length = s.size := len_eq s
  have HBx : Hid ((w.alloc (.cells #[.slice po P.length cap, .int .i64 top] 66)).heap[w.heap.size]? = some (.cells #[.slice po P.length cap, .int .i64 top] 66 (0, 0))) := new0 w _
  have HK := hide hk
  clear hP hk
  go_enter Tryz.func26, Tryz.ntmps26
  go_wp2
  go_loopw [2, 8] (fun s2 _ wr => ∃ i : Nat, s2 = .int .i64 i ∧ frm ≤ i ∧ i ≤ s.size + 1 ∧ Only (fun _ => False) (w.alloc (.cells #[.slice po P.length cap, .int .i64 top] 66)) wr ∧ ∀ b e, frm ≤ b → b < i → b ≤ e → ¬ R s.data.toList b e) (fun s2 _ _ => s.size + 2 - (intOf s2).toNat)
  case atStart => exact ⟨frm, rfl, Nat.le_refl _, by omega, Only.refl _ _, fun b e h1 h2 => by omega⟩
  case round =>
    obtain ⟨i, e2, hfi, his, ho, hno⟩ := hrel
    subst e2
    have hx := (ho.block w.heap.size (by simp) (fun e => e)).trans HBx.out
    have p0 : wr.cell? ⟨w.heap.size, 0, none⟩ = some (.slice po P.length cap) := cell_of hx rfl
    have p1 : wr.cell? ⟨w.heap.size, 1, none⟩ = some (.int .i64 top) := cell_of hx rfl
    have HO : Hid (Only (fun _ => False) w wr) := ((Only.refl _ w).alloc _).trans ho (fun _ _ e => e)
    have HO0 := hide ho
    have HNo := hide hno
    clear hx ho hno
    by_cases hlt : i ≤ s.size
    · have hli : (i : Int) ≤ (s.size : Int) := by omega
      go_wp2_with fail
      refine (longest_any d P top R HK.out _ s i hlt hPl h6 wr (HP.out.only HO.out (fun _ _ e => e))).mono ?_
      rintro e w2 ⟨o, rfl, ⟨hy, hn, hbd⟩, ho2⟩
      cases o with
      | some j =>
        obtain ⟨h1, h2, h3, h4⟩ := hy j rfl
        have HF : Hid (Finds R s.data.toList frm 0 (some (i, j - i))) := by
          refine ⟨fun B l h => ?_, fun b e hb1 hb2 hb3 hr => ⟨i, j - i, rfl, ?_⟩⟩
          · cases h
            refine ⟨hfi, by omega, Nat.zero_le _, ?_⟩
            rw [show i + (j - i) = j by omega]; exact h3
          · by_cases hbi : b < i
            · exact absurd hr (HNo.out b e hb1 hbi (by omega))
            · by_cases hbe : b = i
              · subst hbe
                refine Or.inr ⟨rfl, ?_⟩
                by_cases hej : j < e
                · exact absurd hr (h4 e hej (hbd e hr))
                · omega
              · exact Or.inl (by omega)
        have HO2 : Hid (Only (fun _ => False) w w2) := HO.out.trans ho2 (fun _ _ e => e)
        have hji : i + (j - i) = j := by omega
        have HE : Hid ((j : Int) = endI (some (i, j - i))) := by
          show (j : Int) = ((i + (j - i) : Nat) : Int)
          rw [hji]
        clear hy hn hbd h3 h4 ho2 hji
        unfold placeI
        go_wp2
        go_ret2
        exact ⟨some (i, j - i), by rw [← HE.out]; rfl, HF.out, HO2.out⟩
      | none =>
        have HN2 : Hid (∀ b e, frm ≤ b → b < i + 1 → b ≤ e → ¬ R s.data.toList b e) := fun b e h1 h2 h3 hr => by
          by_cases hbi : b = i
          · subst hbi
            exact hn rfl e h3 (hbd e hr) hr
          · exact HNo.out b e h1 (by omega) h3 hr
        have HO2 : Hid (Only (fun _ => False) (w.alloc (.cells #[.slice po P.length cap, .int .i64 top] 66)) w2) := HO0.out.trans ho2 (fun _ _ e => e)
        clear hy hn hbd ho2
        unfold placeI
        go_wp2
        go_roundw
        case rel => exact ⟨i + 1, by go_num, by omega, by omega, HO2.out, HN2.out⟩
        case measure => simp [intOf]; omega
    · have hli : ¬ (i : Int) ≤ (s.size : Int) := by omega
      have HF : Hid (Finds R s.data.toList frm 0 none) := ⟨fun B l h => (by cases h), fun b e h1 h2 h3 hr => absurd hr (HNo.out b e h1 (by omega) (by omega))⟩
      go_wp2
      go_ret2
      exact ⟨none, rfl, HF.out, HO.out⟩
end Go.Proofs.YthhiofppbpgipaaGreatDoor

