import Derived.Test.YtdbdbaepmdmnfaaGreatDoorQ02
namespace Go.Proofs.YtdbdbaepmdmnfaaGreatDoor
open Go.RowKit
/-- A group, behind its bracket. -/
def groupP (sub : Nat → Option (Pat × Nat)) (l : List UInt8) (i : Nat) : Option (Pat × Nat) := match sub i with | none => none | some (R, j) => if hasB l j 41 then some (R, j + 1) else none
theorem drewN_heap (w : World) (n : Nat) : (w.drewN n).heap = w.heap := rfl
theorem RdB.alloc' {w b s i} (h : RdB w b s i) (o : Obj) : RdB (w.alloc o) b s i := (Below.heap_alloc _ _ _ (heap_lt h)).trans h
theorem RdB.setNe {w b s i} (h : RdB w b s i) {p : Addr} (hp : b ≠ p.block) (v : Value) : RdB (w.setCell p v) b s i := (Below.heap_setCell _ _ _ _ hp).trans h
set_option maxHeartbeats 4000000 in
theorem group_any (f : Nat) (hf : ChoiceOK f) (b : Nat) (s : ByteArray) (hs : s.size ≤ maxLen) (h6 : s.size ≤ 65536) (i : Nat) (hi : i ≤ s.size) (hfl : s.size - i < f) (w : World) (h : RdB w b s i) :
    Calls Tryz.prog 268 #[.pointer (some ⟨b, 0, none⟩)] w (NodePost b s i w (groupP (choiceP s.data.toList f) s.data.toList i)) := by
  have hbl := heap_lt h
  have hml : s.size ≤ 9223372036854775807 := hs
  have hbw : b ≠ w.heap.size := by omega
  have hn : ∀ o, w.heap.size < w.heap.size → (fun k => k = b) (Addr.block ⟨w.heap.size, o, none⟩) := fun _ h => absurd h (Nat.lt_irrefl _)
  have HR0 : ∀ o1, Hid (RdB (w.alloc o1) b s i) := fun o1 => by
    show RdB _ _ _ _
    unfold RdB
    rw [Below.heap_alloc _ _ _ hbl]; exact h
  have HF := hide hf
  clear h hf
  go_enter Tryz.func268, Tryz.ntmps268
  go_wp2_with fail
  refine (HF.out b s i _ (HR0 _).out hi hs h6 hfl).mono ?_
  rintro e w1 ⟨ho1, kind, xs, po, n, cap, rfl, hden⟩
  have hq : w1.heap[w.heap.size]? = some (.cells (nodeAg 0 (fun _ => 0) none 0 0) 118 (0, 0)) := (ho1.block w.heap.size (by simp) (Ne.symm hbw)).trans (new0 w _)
  have HQ := hide hq
  have HO1 : Hid (Only (fun k => k = b) w w1) := ((Only.refl _ w).alloc _).trans ho1 (fun k _ e => e)
  have HD := hide hden
  have z0 : w1.cell? ⟨w.heap.size, 0, none⟩ = some (.int .i64 0) := cell_of hq rfl
  have z1 : w1.cell? ⟨w.heap.size, 1, none⟩ = some (.int .u64 0) := cell_of hq rfl
  have z2 : w1.cell? ⟨w.heap.size, 2, none⟩ = some (.int .u64 0) := cell_of hq rfl
  have z3 : w1.cell? ⟨w.heap.size, 3, none⟩ = some (.int .u64 0) := cell_of hq rfl
  have z4 : w1.cell? ⟨w.heap.size, 4, none⟩ = some (.int .u64 0) := cell_of hq rfl
  have z5 : w1.cell? ⟨w.heap.size, 5, none⟩ = some (.slice none 0 0) := cell_of hq rfl
  have y0 := free_of hq 0
  have y1 := free_of hq 1
  have y2 := free_of hq 2
  have y3 := free_of hq 3
  have y4 := free_of hq 4
  have y5 := free_of hq 5
  have hsz := heap_lt hq
  clear ho1 hq hden
  cases hc : choiceP s.data.toList f i with
  | none =>
    have HU : Hid (groupP (choiceP s.data.toList f) s.data.toList i = none) := by
      show groupP _ _ _ = _
      unfold groupP
      rw [hc]
    clear hc
    unfold nodeAg
    simp only [Option.isSome_none]
    go_wp2
    refine bodyPost_ret (v := .tuple #[.agg (nodeAg 0 (fun _ => 0) none 0 0), .bool false]) (by simp [results, Tryz.results268, go_sem, nodeAg, z0, z1, z2, z3, z4, z5, hsz]) rfl ⟨?_, 0, fun _ => 0, none, 0, 0, ?_, ?_⟩
    · exact ((((((HO1.out.setCell (p := ⟨w.heap.size, 0, none⟩) (hn 0) _).setCell (p := ⟨w.heap.size, 1, none⟩) (hn 1) _).setCell (p := ⟨w.heap.size, 2, none⟩) (hn 2) _).setCell (p := ⟨w.heap.size, 3, none⟩) (hn 3) _).setCell (p := ⟨w.heap.size, 4, none⟩) (hn 4) _).setCell (p := ⟨w.heap.size, 5, none⟩) (hn 5) _).alloc _
    · rw [HU.out]; rfl
    · intro R j h
      rw [HU.out] at h
      cases h
  | some p =>
    obtain ⟨R, j⟩ := p
    have hp := choice_prog s.data.toList f i R j hc
    rw [len_eq] at hp
    have hj := hp.2
    obtain ⟨hr1, d, hdn⟩ := HD.out R j hc
    have HRd := hide hr1
    have HDn := hide hdn
    have hb1 := heap_lt hr1
    have HR2 : ∀ o, Hid (RdB (w1.alloc o) b s j) := fun o => hr1.alloc' o
    have q1 : w1.cell? ⟨b, 1, none⟩ = some (.int .i64 j) := hr1.at.2
    have qf : w1.frozen? ⟨b, 1, none⟩ = false := hr1.free 1
    cases hb : hasB s.data.toList j 41
    · have HU : Hid (groupP (choiceP s.data.toList f) s.data.toList i = none) := by
        show groupP _ _ _ = _
        unfold groupP
        rw [hc]
        simp only
        rw [hb]
        rfl
      have HB := hide hb
      clear hc hb hr1 hdn hp
      unfold nodeAg
      simp only [Option.isSome_some]
      go_wp2_with (go_at_call 122; refine (sees_is b 0 s j hj 41 false HB.out _ (HR2 _).out.at).mono ?_; rintro e w' ⟨rfl, n3, rfl⟩)
      refine bodyPost_ret (v := .tuple #[.agg (nodeAg 0 (fun _ => 0) none 0 0), .bool false]) (by simp [results, Tryz.results268, go_sem, nodeAg, z0, z1, z2, z3, z4, z5, hsz]) rfl ⟨?_, 0, fun _ => 0, none, 0, 0, ?_, ?_⟩
      · exact ((((((((HO1.out.alloc _).drewN n3).setCell (p := ⟨w.heap.size, 0, none⟩) (hn 0) _).setCell (p := ⟨w.heap.size, 1, none⟩) (hn 1) _).setCell (p := ⟨w.heap.size, 2, none⟩) (hn 2) _).setCell (p := ⟨w.heap.size, 3, none⟩) (hn 3) _).setCell (p := ⟨w.heap.size, 4, none⟩) (hn 4) _).setCell (p := ⟨w.heap.size, 5, none⟩) (hn 5) _)
      · rw [HU.out]; rfl
      · intro R j h
        rw [HU.out] at h
        cases h
    · have HU : Hid (groupP (choiceP s.data.toList f) s.data.toList i = some (R, j + 1)) := by
        show groupP _ _ _ = _
        unfold groupP
        rw [hc]
        simp only
        rw [hb]
        rfl
      have HB := hide hb
      have hlt := hasB_lt hb
      rw [len_eq] at hlt
      clear hc hb hr1 hdn hp
      unfold nodeAg
      simp only [Option.isSome_some]
      go_wp2_with (go_at_call 122; refine (sees_is b 0 s j hj 41 true HB.out _ (HR2 _).out.at).mono ?_; rintro e w' ⟨rfl, n3, rfl⟩)
      refine bodyPost_ret (v := .tuple #[.agg (nodeAg kind xs po n cap), .bool true]) (by simp [results, Tryz.results268, go_sem, nodeAg, z0, z1, z2, z3, z4, z5, hsz]) rfl ⟨?_, kind, xs, po, n, cap, ?_, ?_⟩
      · exact (((((((((HO1.out.alloc _).drewN n3).setCell (p := ⟨b, 1, none⟩) (fun _ => rfl) _).setCell (p := ⟨w.heap.size, 0, none⟩) (hn 0) _).setCell (p := ⟨w.heap.size, 1, none⟩) (hn 1) _).setCell (p := ⟨w.heap.size, 2, none⟩) (hn 2) _).setCell (p := ⟨w.heap.size, 3, none⟩) (hn 3) _).setCell (p := ⟨w.heap.size, 4, none⟩) (hn 4) _).setCell (p := ⟨w.heap.size, 5, none⟩) (hn 5) _)
      · rw [HU.out]; rfl
      · intro R' j' h
        rw [HU.out] at h
        cases h
        refine ⟨((((((((((((((HRd.out.alloc' _).drewN n3).set (j + 1)).setNe (p := ⟨w.heap.size, 0, none⟩) hbw _)).setNe (p := ⟨w.heap.size, 1, none⟩) hbw _)).setNe (p := ⟨w.heap.size, 2, none⟩) hbw _)).setNe (p := ⟨w.heap.size, 3, none⟩) hbw _)).setNe (p := ⟨w.heap.size, 4, none⟩) hbw _)).setNe (p := ⟨w.heap.size, 5, none⟩) hbw _), d, ?_⟩
        refine Den.mono (Den.frame (HDn.out.more (show j - i ≤ j + 1 - i by omega)) (by simp [World.setCell]) ?_) (fun g _ hg => ?_)
        · intro g hg hl
          have hg2 : w.heap.size + 1 ≤ g := by simpa using hg
          rw [Below.heap_setCell _ _ _ _ (show g ≠ w.heap.size by omega), Below.heap_setCell _ _ _ _ (show g ≠ w.heap.size by omega), Below.heap_setCell _ _ _ _ (show g ≠ w.heap.size by omega), Below.heap_setCell _ _ _ _ (show g ≠ w.heap.size by omega), Below.heap_setCell _ _ _ _ (show g ≠ w.heap.size by omega), Below.heap_setCell _ _ _ _ (show g ≠ w.heap.size by omega), Below.heap_setCell _ _ _ _ (show g ≠ b by omega), drewN_heap, Below.heap_alloc _ _ _ hl]
        · have hg2 : w.heap.size + 1 ≤ g := by simpa using hg
          omega
end Go.Proofs.YtdbdbaepmdmnfaaGreatDoor
