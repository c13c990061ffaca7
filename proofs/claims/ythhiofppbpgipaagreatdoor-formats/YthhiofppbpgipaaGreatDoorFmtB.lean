import Derived.Test.YthhiofppbpgipaaGreatDoorFmt
namespace Go.Proofs.YthhiofppbpgipaaGreatDoor
open Go.RowKit
theorem fmtRun_codes (l : List UInt8) : ∀ f p made ar, (fmtRun l f p made ar).2 = 0 ∨ (fmtRun l f p made ar).2 = 8 ∨ (fmtRun l f p made ar).2 = 10 := by
  intro f
  induction f with
  | zero => intro p made ar; exact Or.inl rfl
  | succ f ih =>
    intro p made ar
    rw [fmtRun]
    split
    · exact Or.inl rfl
    · split
      · split
        · exact Or.inr (Or.inl rfl)
        · exact ih _ _ _
      · split
        · split
          · exact Or.inr (Or.inl rfl)
          · exact ih _ _ _
        · split
          · exact Or.inr (Or.inr rfl)
          · split
            · exact Or.inr (Or.inl rfl)
            · exact ih _ _ _
theorem fmtRun_empty (l : List UInt8) : ∀ f p made ar, (fmtRun l f p made ar).2 = 0 ∨ (fmtRun l f p made ar).1 = [] := by
  intro f
  induction f with
  | zero => intro p made ar; exact Or.inl rfl
  | succ f ih =>
    intro p made ar
    rw [fmtRun]
    split
    · exact Or.inl rfl
    · split
      · split
        · exact Or.inr rfl
        · exact ih _ _ _
      · split
        · split
          · exact Or.inr rfl
          · exact ih _ _ _
        · split
          · exact Or.inr rfl
          · split
            · exact Or.inr rfl
            · exact ih _ _ _
set_option maxRecDepth 100000 in
set_option maxHeartbeats 4000000 in
theorem format_go (s : ByteArray) (hs : s.size ≤ 500) (b off cap : Nat) (ss : List ByteArray) (hl : ss.length ≤ 12) (hss : ∀ x ∈ ss, x.size ≤ 500) (w : World) (ht : Tabs w) (hA : StrsAt w b off ss) (hB : b < w.heap.size) (a0 a1 : Addr) (hE : Errs w a0 a1)
    (rl : List UInt8) (rc : Nat) (hR : fmtRun s.data.toList s.size 0 [] (ss.map (·.data.toList)) = (rl, rc)) :
    Calls Tryz.prog 15 #[.string s, .slice (some ⟨b, off, none⟩) ss.length cap] w fun e w' => e = .returned (.tuple #[.string ⟨rl.toArray⟩, .int .i64 rc]) ∧ Below w.heap.size w w' := by
  obtain ⟨i0, hi, hz0, hz1, hz2⟩ := info_parts info75
  have h1 : decide (500 < (s.size : Int)) = false := by simp; omega
  have h2 : decide (12 < (ss.length : Int)) = false := by simp; omega
  have HR := hide hR
  have HT := hide ht
  have HER := hide hE
  have hbig := ht.big
  have hcod := fmtRun_codes s.data.toList s.size 0 [] (ss.map (·.data.toList))
  rw [hR] at hcod
  have HCod := hide hcod
  have hemp := fmtRun_empty s.data.toList s.size 0 [] (ss.map (·.data.toList))
  rw [hR] at hemp
  have HEmp := hide hemp
  clear hR ht hE hcod hemp
  go_enter Tryz.func15, Tryz.ntmps15
  go_wp2_with fail
  refine (isLong_any _ _).mono ?_
  rintro e w1 ⟨rfl, rfl⟩
  rw [h1]
  go_wp2_with fail
  refine (contains_no b off cap ss hl hss _ hA).mono ?_
  rintro e w2 ⟨rfl, rfl⟩
  go_wp2_with (at_make; refine wpList_make_full _ rfl (.tmp 23) (.tmp 23) 73 rfl w2.heap.size 76 i0 (.agg #[.int .i64 0, .int .i64 0, .string ⟨#[]⟩]) 3 Tryz.underlying73 hi hz0 hz1 .i64 .i64 _ _ ss.length rfl rfl rfl rfl (by rw [hz2]; omega) (by unfold maxLen; omega) (Nat.le_refl _) ?_)
  intro w3 hown hgrow
  have hb3 : Below w2.heap.size w2 w3 := (Below.refl _ _).grown hgrow (Nat.le_refl _) (fun k hk => by cases hk)
  have hfil : Filled w3 w2.heap.size ss 0 := by
    rcases hown.2 with ⟨hv, _⟩ | ⟨g, cp, cur, hv, _, hg2, _, _, hg5, _⟩
    · cases hv
    · simp at hv
      obtain ⟨rfl, rfl⟩ := hv
      exact ⟨cur, hg2, hg5, fun i x hi => by omega⟩
  have HF3 := hide hfil
  have HB3 := hide hb3
  clear hown hgrow hfil hb3
  go_wp2
  go_loopw [7, 8, 27] (fun _ _ c wr => ∃ k : Nat, k ≤ ss.length ∧ c = .int .i64 k ∧ Filled wr w2.heap.size ss k ∧ Below w2.heap.size w2 wr) (fun _ _ c _ => ss.length - (intOf c).toNat)
  case atStart => exact ⟨0, by omega, rfl, HF3.out, HB3.out⟩
  case round =>
    obtain ⟨k, hk, rfl, hfil, hbw⟩ := hrel
    have hzw := hbw.size
    have hgl := hfil.lt
    by_cases hlt : k < ss.length
    · obtain ⟨x, hx⟩ : ∃ x, ss[k]? = some x := ⟨ss[k], List.getElem?_eq_getElem hlt⟩
      have hx5 : x.size ≤ 500 := hss x (List.mem_of_getElem? hx)
      have c0 : wr.cell? ⟨b, off + k, none⟩ = some (.string x) := by rw [hbw.cell (p := ⟨b, off + k, none⟩) hB]; exact hA k x hx
      have HX := hide hx
      have HF := hide hfil
      have HB := hide hbw
      clear hx hfil hbw HF3 HB3
      go_wp2_with fail
      refine (codeRead_any x _ (by unfold maxLen; omega)).mono ?_
      rintro e w4 ⟨rfl, hb4⟩
      have hf4 := HF.out.below hb4
      have hb4' := HB.out.trans (hb4.mono hzw)
      have hz4 := hb4.size
      obtain ⟨y0, d0⟩ := hf4.cell (j := k * 3) (by omega)
      obtain ⟨y1, d1⟩ := hf4.cell (j := k * 3 + 1) (by omega)
      obtain ⟨y2, d2⟩ := hf4.cell (j := k * 3 + 2) (by omega)
      have z0 := hf4.frozen (j := k * 3)
      have z1 := hf4.frozen (j := k * 3 + 1)
      have z2 := hf4.frozen (j := k * 3 + 2)
      have HS := hide (hf4.step HX.out)
      have HB4 := hide (((hb4'.setCell (p := ⟨w2.heap.size, k * 3, none⟩) (Nat.le_refl _) (.int .i64 (codeKind (some x.data.toList)))).setCell (p := ⟨w2.heap.size, k * 3 + 1, none⟩) (Nat.le_refl _) (.int .i64 (codeNum (some x.data.toList)))).setCell (p := ⟨w2.heap.size, k * 3 + 2, none⟩) (Nat.le_refl _) (.string x))
      clear hf4 hb4 hb4' HF HB
      generalize codeKind (some x.data.toList) = ck at *
      generalize codeNum (some x.data.toList) = cn at *
      go_wp2
      go_roundw
      case rel => exact ⟨k + 1, by omega, by go_num, HS.out, HB4.out⟩
      case measure => simp [intOf]; omega
    · have hkk : k = ss.length := by omega
      subst hkk
      have HAr : Hid (∀ a ∈ ss.map (·.data.toList), a.length ≤ 500) := by
        intro a ha
        obtain ⟨x, hx, rfl⟩ := List.mem_map.1 ha
        show x.data.toList.length ≤ 500
        rw [len_eq]; exact hss x hx
      have her := HER.out.below hbw (Nat.le_refl _)
      have HMk := hide (make_any s hs w2.heap.size (some ⟨w2.heap.size, 0, none⟩) 0 ss.length (ss.map (·.data.toList)) wr (HT.out.below hbw hbig) hgl (by simp) (fun _ => rfl) hfil.cells HAr.out a0 a1 her.e0 her.e1 rl rc HR.out)
      rw [List.length_map] at HMk
      have HB := hide hbw
      have HE2 := hide her
      clear hfil hbw her HF3 HB3
      go_wp2_with fail
      refine (HMk.out).mono ?_
      rintro e w4 ⟨rfl, hb4⟩
      have her4 := HE2.out.below hb4 (Nat.le_refl _)
      have hb4' := HB.out.trans (hb4.mono hzw)
      have e0 := her4.e0
      have e1 := her4.e1
      have HE4 := hide her4
      clear hb4 her4 HMk
      have HErr := hide (errno_any rc HCod.out a0 a1 w4 HE4.out)
      generalize errVal rc a0 a1 = ev at HErr ⊢
      go_wp2_with fail
      refine HErr.out.mono ?_
      rintro e w5 ⟨rfl, rfl⟩
      go_wp2
      go_ret2
      exact ⟨rfl, hb4'⟩
end Go.Proofs.YthhiofppbpgipaaGreatDoor
