import Derived.Test.YthhiofppbpgipaaGreatDoorRFmt
import Derived.OwnWalk
namespace Go.Proofs.YthhiofppbpgipaaGreatDoor
open Go.RowKit

/-- A list of texts that lies in memory from an address on. -/
def StrsAt (w : World) (b off : Nat) (ss : List ByteArray) : Prop := ∀ i s, ss[i]? = some s → w.cell? ⟨b, off + i, none⟩ = some (.string s)
theorem StrsAt.below {w w' : World} {b off B : Nat} {ss : List ByteArray} (h : StrsAt w b off ss) (hb : Below B w w') (hB : b < B) : StrsAt w' b off ss := fun i s hs => by
  rw [hb.cell (p := ⟨b, off + i, none⟩) hB]; exact h i s hs
def refCell (s : ByteArray) : List Value := [.int .u8 (refKind (some s.data.toList)), .int .i64 (codeNum (some s.data.toList)), .string s]
def refCells (ss : List ByteArray) : List Value := ss.flatMap refCell
theorem refCells_length (ss : List ByteArray) : (refCells ss).length = ss.length * 3 := by
  induction ss with
  | nil => rfl
  | cons s r ih => show (refCell s ++ refCells r).length = _; rw [List.length_append, ih]; simp [refCell]; omega
theorem refCells_snoc (ss : List ByteArray) (s : ByteArray) : refCells (ss ++ [s]) = refCells ss ++ refCell s := by simp [refCells]
theorem refCells_get (ss : List ByteArray) : ∀ i s, ss[i]? = some s → (refCells ss)[i * 3]? = some (.int .u8 (refKind (some s.data.toList))) ∧ (refCells ss)[i * 3 + 1]? = some (.int .i64 (codeNum (some s.data.toList))) ∧ (refCells ss)[i * 3 + 2]? = some (.string s) := by
  induction ss with
  | nil => intro i s h; simp at h
  | cons x r ih =>
    intro i s h
    show (refCell x ++ refCells r)[i * 3]? = _ ∧ (refCell x ++ refCells r)[i * 3 + 1]? = _ ∧ (refCell x ++ refCells r)[i * 3 + 2]? = _
    cases i with
    | zero => simp at h; subst h; exact ⟨rfl, rfl, rfl⟩
    | succ i =>
      obtain ⟨h1, h2, h3⟩ := ih i s (by simpa using h)
      have e : (refCell x).length = 3 := rfl
      rw [List.getElem?_append_right (by rw [e]; omega), List.getElem?_append_right (by rw [e]; omega), List.getElem?_append_right (by rw [e]; omega), e]
      rw [show (i + 1) * 3 - 3 = i * 3 by omega, show (i + 1) * 3 + 1 - 3 = i * 3 + 1 by omega, show (i + 1) * 3 + 2 - 3 = i * 3 + 2 by omega]
      exact ⟨h1, h2, h3⟩
theorem info84 : (Tryz.prog.info? 85).map (fun i => (i.zero, i.size, i.bytes)) = some (some (.agg #[.int .u8 0, .int .i64 0, .string ⟨#[]⟩]), 3, 32) := by kernel_rfl
theorem refRead_any (s : ByteArray) (w : World) (hs : s.size ≤ maxLen) :
    Calls Tryz.prog 33 #[.string s] w fun e w' => e = .returned (.agg #[.int .u8 (refKind (some s.data.toList)), .int .i64 (codeNum (some s.data.toList)), .string s]) ∧ Below w.heap.size w w' := by
  unfold refKind codeNum
  cases h : numeralB s.data.toList
  · exact (refRead_text s w hs h).mono fun e w' hh => by simpa [h] using hh
  · exact (refRead_num s w hs h).mono fun e w' hh => by simpa [h] using hh
theorem ownsRow_below {w w1 : World} {base e size n : Nat} {v : Value} {xs : List Value} (h : w.ownsRow base e size v n xs) (hb : Below w.heap.size w w1) : w1.ownsRow base e size v n xs := by
  refine ⟨h.1, ?_⟩
  rcases h.2 with h2 | ⟨g, cap, cur, h2, h3, h4, h5⟩
  · exact Or.inl h2
  · refine Or.inr ⟨g, cap, cur, h2, h3, ?_, h5⟩
    have hg : g < w.heap.size := by
      by_cases hg : g < w.heap.size
      · exact hg
      · rw [Array.getElem?_eq_none (by omega)] at h4; cases h4
    rw [hb.block g hg]; exact h4
set_option maxRecDepth 100000 in
set_option maxHeartbeats 2000000 in
theorem refFormat_go (s : ByteArray) (hs : s.size ≤ 500) (b off cap : Nat) (ss : List ByteArray) (hl : ss.length ≤ 12) (hss : ∀ x ∈ ss, x.size ≤ 500) (w : World) (ht : Tabs w) (hA : StrsAt w b off ss) (hB : b < w.heap.size)
    (rl : List UInt8) (rc : Nat) (hR : fmtRun s.data.toList s.size 0 [] (ss.map (·.data.toList)) = (rl, rc)) :
    Calls Tryz.prog 16 #[.string s, .slice (some ⟨b, off, none⟩) ss.length cap] w fun e w' => e = .returned (.tuple #[.string ⟨rl.toArray⟩, .int .i64 rc]) ∧ Below w.heap.size w w' := by
  obtain ⟨i0, hi, hz0, hz1, hz2⟩ := info_parts info84
  have HR := hide hR
  have HT := hide ht
  clear hR ht
  go_enter Tryz.func16, Tryz.ntmps16
  go_wp2
  go_loopw [6, 7] (fun v i wr => ∃ k : Nat, k ≤ ss.length ∧ i = .int .i64 k ∧ wr.ownsRow w.heap.size 85 3 v k (refCells (ss.take k)) ∧ Below w.heap.size w wr) (fun _ i _ => ss.length - (intOf i).toNat)
  case atStart => exact ⟨0, by omega, rfl, World.ownsRow_nil _ _ _ _, Below.refl _ _⟩
  case round =>
    obtain ⟨k, hk, rfl, hown, hbw⟩ := hrel
    have hzw := hbw.size
    by_cases hlt : k < ss.length
    · obtain ⟨x, hx⟩ : ∃ x, ss[k]? = some x := ⟨ss[k], List.getElem?_eq_getElem hlt⟩
      have hx5 : x.size ≤ 500 := hss x (List.mem_of_getElem? hx)
      have c0 : wr.cell? ⟨b, off + k, none⟩ = some (.string x) := by rw [hbw.cell (p := ⟨b, off + k, none⟩) hB]; exact hA k x hx
      have HX := hide hx
      have HO := hide hown
      have HB := hide hbw
      clear hx hown hbw
      go_wp2_with fail
      refine (refRead_any x _ (by unfold maxLen; omega)).mono ?_
      rintro e w1 ⟨rfl, hb1⟩
      have hz1' := hb1.size
      have hown1 := ownsRow_below HO.out hb1
      have hb1' := HB.out.trans (hb1.mono hzw)
      have HO1 := hide hown1
      have HB1 := hide hb1'
      clear hown1 hb1' hb1 HO HB
      obtain ⟨rk, HRK⟩ : ∃ rk, Hid (refKind (some x.data.toList) = rk) := ⟨_, rfl⟩
      obtain ⟨rn, HRN⟩ : ∃ rn, Hid (codeNum (some x.data.toList) = rn) := ⟨_, rfl⟩
      rw [HRK.out, HRN.out]
      have HS : Hid (refCells (ss.take (k + 1)) = refCells (ss.take k) ++ [.int .u8 rk, .int .i64 rn, .string x]) := by
        show refCells (ss.take (k + 1)) = refCells (ss.take k) ++ [.int .u8 rk, .int .i64 rn, .string x]
        rw [List.take_add_one, HX.out, Option.toList_some, refCells_snoc]
        unfold refCell; rw [HRK.out, HRN.out]
      go_wp2_with (at_builtin; refine wpList_append_own _ rfl _ _ 83 rfl w.heap.size 85 i0 (.agg #[.int .u8 0, .int .i64 0, .string ⟨#[]⟩]) 3 32 Tryz.underlying83 hi hz0 hz1 hz2 rfl (by decide) _ _ _ rfl ((HO1.out.alloc _).alloc _) ⟨w1.heap.size + 1, 0, none⟩ 1 1 [.int .u8 rk, .int .i64 rn, .string x] rfl rfl ?c1 ?c2 ?c3 ?c4 ?c5 ?_)
      case c1 =>
        intro j u hj
        match j, hj with
        | 0, hj => simp at hj; subst hj; simp [Addr.add]
        | 1, hj => simp at hj; subst hj; simp [Addr.add]
        | 2, hj => simp at hj; subst hj; simp [Addr.add]
        | (j + 3), hj => simp at hj
      case c2 => intro u hu; simp at hu; rcases hu with rfl | rfl | rfl <;> rfl
      case c3 => unfold maxLen; omega
      case c4 => omega
      case c5 => simp; omega
      intro v' w2 hown' hgrow _
      have R1 : Hid (w2.ownsRow w.heap.size 85 3 v' (k + 1) (refCells (ss.take (k + 1)))) := by rw [HS.out]; exact hown'
      have R2 : Hid (Below w.heap.size w w2) := ((HB1.out.alloc (by omega) _).alloc (by simp; omega) _).grown hgrow (by simp; omega) (fun g hg => ((HO1.out).lt g hg).1)
      clear hown' hgrow
      go_wp2
      go_roundw
      case rel => exact ⟨k + 1, by omega, by go_num, R1.out, R2.out⟩
      case measure => simp [intOf]; omega
    · have hkk : k = ss.length := by omega
      subst hkk
      have hall : ss.take ss.length = ss := List.take_length
      rw [hall] at hown
      have HO := hide hown
      have HB := hide hbw
      have HAr : Hid (∀ a ∈ ss.map (·.data.toList), a.length ≤ 500) := by
        intro a ha
        obtain ⟨x, hx, rfl⟩ := List.mem_map.1 ha
        show x.data.toList.length ≤ 500
        rw [len_eq]; exact hss x hx
      have htr := HT.out.below hbw HT.out.big
      have HTr := hide htr
      clear hown hbw htr hall
      rcases HO.out.2 with ⟨hv, hn⟩ | ⟨g, cp, cur, hv, hg1, hg2, hg3, hg4, hg5, hg6⟩
      · have hnil : ss = [] := List.eq_nil_of_length_eq_zero hn
        subst hnil
        rw [hv]
        go_wp2_with fail
        refine (formatted_none s hs _ HTr.out rl rc HR.out).mono ?_
        rintro e w1 ⟨rfl, hb1⟩
        have hb2 := HB.out.trans (hb1.mono hzw)
        clear hb1
        go_wp2
        go_ret2
        exact ⟨rfl, hb2⟩
      · have HC : Hid (RefArgs wr g (ss.map (·.data.toList))) := by
          intro i a ha
          rw [List.getElem?_map] at ha
          obtain ⟨x, hx, hxa⟩ := Option.map_eq_some_iff.1 ha
          obtain ⟨q0, q1, q2⟩ := refCells_get ss i x hx
          have hil : i < ss.length := (List.getElem?_eq_some_iff.1 hx).1
          have key : ∀ j v, j < ss.length * 3 → (refCells ss)[j]? = some v → wr.cell? ⟨g, j, none⟩ = some v := by
            intro j v hj hv
            have h1 : cur[j]? = some v := by
              rw [← hg6, List.getElem?_take_of_lt hj] at hv
              rw [← Array.getElem?_toList]; exact hv
            simp [World.cell?, hg2, h1]
          subst hxa
          exact ⟨key _ _ (by omega) q0, key _ _ (by omega) q1, key _ _ (by omega) q2⟩
        have hgs : g < wr.heap.size := by
          by_cases hg : g < wr.heap.size
          · exact hg
          · rw [Array.getElem?_eq_none (by omega)] at hg2; cases hg2
        have HCF := hide (formatted_some s hs (ss.map (·.data.toList)) HAr.out (by simpa using hl) wr HTr.out g cp HC.out hgs rl rc HR.out)
        rw [List.length_map] at HCF
        rw [hv]
        clear hv hg1 hg2 hg3 hg4 hg5 hg6
        go_wp2_with fail
        refine (HCF.out).mono ?_
        rintro e w1 ⟨rfl, hb1⟩
        have hb2 := HB.out.trans (hb1.mono hzw)
        clear hb1
        go_wp2
        go_ret2
        exact ⟨rfl, hb2⟩
end Go.Proofs.YthhiofppbpgipaaGreatDoor
