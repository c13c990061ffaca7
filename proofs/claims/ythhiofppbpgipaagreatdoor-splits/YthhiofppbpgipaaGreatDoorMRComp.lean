import Derived.Test.YthhiofppbpgipaaGreatDoorMREither
import Derived.Test.YthhiofppbpgipaaGreatDoorMRMatch
namespace Go.Proofs.YthhiofppbpgipaaGreatDoor
open Go.RowKit
theorem RefP.pcAt {w b s i bad v P} (h : RefP w b s i bad v P) : PcAt w v P := h.2
/-- Cells of a struct that is no row and no set are set: the pieces stand. -/
theorem PcAt.setStruct {w v P r o x} {cs : Array Value} (h : PcAt w v P) (hr : w.heap[r]? = some (.cells cs 66 (0, 0))) : PcAt (w.setCell ⟨r, o, none⟩ x) v P := by
  obtain ⟨xs, h2, h3⟩ := h
  have hne : v.ownBlock ≠ some r := by
    intro e
    rcases h2.2 with ⟨rfl, _⟩ | ⟨g, cap, cur, rfl, _, h4, _⟩
    · cases e
    · cases e
      rw [h4] at hr
      cases hr
  exact ⟨xs, ownsRow_of h2 (fun k hk => Below.heap_setCell _ _ _ _ (fun e => hne (by rw [hk]; exact congrArg some e))), h3.of (fun g c hg => Below.heap_setCell _ _ _ _ (fun e => by
    have e2 : g = r := e
    rw [e2, hr] at hg
    cases hg))⟩
theorem low_not (n : Nat) : ¬ (n = n + 1 ∨ some n = (Value.slice none 0 0).ownBlock) := by
  rintro (e | e)
  · omega
  · cases e
theorem whole_none {l : List UInt8} (h : l.length ≠ 0) (hc : choiceP l (l.length + 1) 0 = none) : wholeP l = none := by
  unfold wholeP
  rw [if_neg h, hc]
theorem whole_some {l : List UInt8} {R : Pat} {j : Nat} (h : l.length ≠ 0) (hc : choiceP l (l.length + 1) 0 = some (R, j)) : wholeP l = if j = l.length then some R else none := by
  unfold wholeP
  rw [if_neg h, hc]
set_option maxRecDepth 100000 in
set_option maxHeartbeats 4000000 in
theorem compiled_all (hC : ClassOK) : CompiledOK := by
  intro s w h5
  have hlen : s.data.toList.length = s.size := len_eq s
  have HC := hide hC
  have hR0 : ∀ o1, RefP ((w.alloc o1).alloc (.cells #[.string s, .int .i64 0, .bool false, .slice none 0 0] 153)) (w.heap.size + 1) s 0 false (.slice none 0 0) [] := fun o1 => ⟨newb1 w _ _, [], World.ownsRow_nil _ _ _ _, fun k x hk => by simp at hk⟩
  have HR0 := hide hR0
  clear hC hR0
  by_cases hs0 : s.size = 0
  · have hse : s = ⟨#[]⟩ := by
      have : s.data.toList = [] := List.length_eq_zero_iff.1 (by rw [hlen]; exact hs0)
      cases s with
      | mk d =>
        congr 1
        exact Array.toList_eq_nil_iff.1 this
    subst hse
    have hE : wholeP (⟨#[]⟩ : ByteArray).data.toList = some emptyR := rfl
    have HA : Hid (Calls Tryz.prog 53 #[.pointer (some ⟨w.heap.size + 1, 0, none⟩), .agg #[.int .u8 101, .int .u8 0, .slice none 0 0, .int .i64 0, .int .i64 0]] ((w.alloc (.cells #[.slice none 0 0, .int .i64 0] 66)).alloc (.cells #[.string ⟨#[]⟩, .int .i64 0, .bool false, .slice none 0 0] 153)) (RAddPost (w.heap.size + 1) ⟨#[]⟩ 0 false (.slice none 0 0) [] ⟨101, 0, fun _ => false, 0, 0⟩ ((w.alloc (.cells #[.slice none 0 0, .int .i64 0] 66)).alloc (.cells #[.string ⟨#[]⟩, .int .i64 0, .bool false, .slice none 0 0] 153)))) :=
      radd_any (w.heap.size + 1) ⟨#[]⟩ 0 false (.slice none 0 0) [] ⟨101, 0, fun _ => false, 0, 0⟩ none 0 0 _ ⟨⟨_, _, _, rfl⟩, fun e => absurd e (show ¬ (101 : Nat) = 91 by decide)⟩ (Nat.zero_le _) (HR0.out _)
    have HE := hide hE
    clear hE
    go_enter Tryz.func25, Tryz.ntmps25
    go_wp2_with fail
    refine HA.out.mono ?_
    rintro e w1 ⟨rfl, v1, hr1, hg1⟩
    have hx : w1.heap[w.heap.size]? = some (.cells #[.slice none 0 0, .int .i64 0] 66 (0, 0)) := (hg1.1.block w.heap.size (by simp; omega) (low_not w.heap.size)).trans ((Below.heap_alloc _ _ _ (by simp)).trans (new0 w _))
    obtain ⟨po, cap, hv⟩ := hr1.slice
    subst hv
    have p0 : w1.cell? ⟨w.heap.size, 0, none⟩ = some (.slice none 0 0) := cell_of hx rfl
    have p1 : w1.cell? ⟨w.heap.size, 1, none⟩ = some (.int .i64 0) := cell_of hx rfl
    have q0 : w1.frozen? ⟨w.heap.size, 0, none⟩ = false := free_of hx 0
    have q1 : w1.frozen? ⟨w.heap.size, 1, none⟩ = false := free_of hx 1
    have d3 : w1.cell? ⟨w.heap.size + 1, 3, none⟩ = some (.slice po ([] ++ [(⟨101, 0, fun _ => false, 0, 0⟩ : Pc)]).length cap) := cell_of hr1.rd rfl
    have HO1 : Hid (Only (fun _ => False) w w1) := (((Only.refl (fun _ => False) w).alloc _).alloc _).trans hg1.1 (fun k hk e => by
      rcases e with e | e
      · omega
      · cases e)
    have HP1 := hide hr1.pcAt
    have HX := hide hx
    have hn : ∀ o, w.heap.size < w.heap.size → (fun _ => False) (Addr.block ⟨w.heap.size, o, none⟩) := fun _ h => absurd h (Nat.lt_irrefl _)
    have hnl := heap_lt hx
    clear hr1 hg1 hx
    go_wp2_with fail
    refine bodyPost_ret (v := .tuple #[.agg #[.slice po 1 cap, .int .i64 0], .bool true]) (by simp [results, Tryz.results25, go_sem, p0, p1]) rfl ⟨(HO1.out.setCell (p := ⟨w.heap.size, 0, none⟩) (hn 0) _).setCell (p := ⟨w.heap.size, 1, none⟩) (hn 1) _, fun h => (by rw [HE.out] at h; cases h), fun R h => ?_⟩
    rw [HE.out] at h
    cases h
    exact ⟨.slice po 1 cap, 0, [⟨101, 0, fun _ => false, 0, 0⟩], 1, rfl, (HP1.out.setStruct HX.out).setStruct (heap_setCell_same HX.out _), by decide, PcIs.leaf (P := []) (Or.inl rfl) (fun t i j _ => one_empty t i j)⟩
  · have hne : s.toList.isEmpty = false := by
      rw [ByteArray.toList_eq]
      cases h : s.data.toList with
      | nil => rw [h] at hlen; exact absurd hlen.symm hs0
      | cons a l => rfl
    have hl0 : s.data.toList.length ≠ 0 := by omega
    have HEi := hide ((either_all HC.out (s.size + 1)) (w.heap.size + 1) s 0 (.slice none 0 0) [] _ h5 (Nat.zero_le _) (by omega) (Nat.zero_le _) (HR0.out (.cells #[.slice none 0 0, .int .i64 0] 66)))
    go_enter Tryz.func25, Tryz.ntmps25
    go_wp2_with fail
    refine HEi.out.mono ?_
    rintro e w1 ⟨z, i1, v1, Q, rfl, hr1, hg1, hres⟩
    have hx : w1.heap[w.heap.size]? = some (.cells #[.slice none 0 0, .int .i64 0] 66 (0, 0)) := (hg1.1.block w.heap.size (by simp; omega) (low_not w.heap.size)).trans ((Below.heap_alloc _ _ _ (by simp)).trans (new0 w _))
    have p0 : w1.cell? ⟨w.heap.size, 0, none⟩ = some (.slice none 0 0) := cell_of hx rfl
    have p1 : w1.cell? ⟨w.heap.size, 1, none⟩ = some (.int .i64 0) := cell_of hx rfl
    have q0 : w1.frozen? ⟨w.heap.size, 0, none⟩ = false := free_of hx 0
    have q1 : w1.frozen? ⟨w.heap.size, 1, none⟩ = false := free_of hx 1
    have HO1 : Hid (Only (fun _ => False) w w1) := (((Only.refl (fun _ => False) w).alloc _).alloc _).trans hg1.1 (fun k hk e => by
      rcases e with e | e
      · omega
      · cases e)
    have hn : ∀ o, w.heap.size < w.heap.size → (fun _ => False) (Addr.block ⟨w.heap.size, o, none⟩) := fun _ h => absurd h (Nat.lt_irrefl _)
    have HX := hide hx
    cases hc : choiceP s.data.toList (s.size + 1) 0 with
    | none =>
      rw [hc] at hr1
      have HW : Hid (wholeP s.data.toList = none) := whole_none hl0 (by rw [hlen]; exact hc)
      have d2 : w1.cell? ⟨w.heap.size + 1, 2, none⟩ = some (.bool true) := cell_of hr1.rd rfl
      have hnl := heap_lt hx
      clear hr1 hg1 hres hc hx HEi
      go_wp2_with fail
      refine bodyPost_ret (v := .tuple #[.agg #[.slice none 0 0, .int .i64 0], .bool false]) (by simp [results, Tryz.results25, go_sem, p0, p1]) rfl ⟨(HO1.out.setCell (p := ⟨w.heap.size, 0, none⟩) (hn 0) _).setCell (p := ⟨w.heap.size, 1, none⟩) (hn 1) _, fun h => rfl, fun R h => (by rw [HW.out] at h; cases h)⟩
    | some p =>
      obtain ⟨R, j⟩ := p
      rw [hc] at hr1
      obtain ⟨e1, hql, d, hpc⟩ := hres R j hc
      subst e1
      rw [List.nil_append] at hr1 hpc
      have hpg := choice_prog s.data.toList (s.size + 1) 0 R i1 hc
      rw [len_eq] at hpg
      obtain ⟨po, cap, hv⟩ := hr1.slice
      subst hv
      have d1 : w1.cell? ⟨w.heap.size + 1, 1, none⟩ = some (.int .i64 i1) := cell_of hr1.rd rfl
      have d2 : w1.cell? ⟨w.heap.size + 1, 2, none⟩ = some (.bool false) := cell_of hr1.rd rfl
      have d3 : w1.cell? ⟨w.heap.size + 1, 3, none⟩ = some (.slice po Q.length cap) := cell_of hr1.rd rfl
      have HW0 : Hid (wholeP s.data.toList = if i1 = s.size then some R else none) := by
        show _ = _
        rw [whole_some hl0 (by rw [hlen]; exact hc), hlen]
      have HP1 := hide hr1.pcAt
      have HPc := hide hpc
      have hnl := heap_lt hx
      clear hr1 hg1 hres hc hx HEi hpc
      by_cases hj : i1 < s.size
      · have hji : (i1 : Int) < (s.size : Int) := by omega
        have HW : Hid (wholeP s.data.toList = none) := by
          show _ = _
          rw [HW0.out, if_neg (by omega)]
        go_wp2_with fail
        refine bodyPost_ret (v := .tuple #[.agg #[.slice none 0 0, .int .i64 0], .bool false]) (by simp [results, Tryz.results25, go_sem, p0, p1]) rfl ⟨(HO1.out.setCell (p := ⟨w.heap.size, 0, none⟩) (hn 0) _).setCell (p := ⟨w.heap.size, 1, none⟩) (hn 1) _, fun h => rfl, fun R h => (by rw [HW.out] at h; cases h)⟩
      · have hji : ¬ (i1 : Int) < (s.size : Int) := by omega
        have HW : Hid (wholeP s.data.toList = some R) := by
          show _ = _
          rw [HW0.out, if_pos (by omega)]
        go_wp2_with fail
        refine bodyPost_ret (v := .tuple #[.agg #[.slice po Q.length cap, .int .i64 z], .bool true]) (by simp [results, Tryz.results25, go_sem, p0, p1]) rfl ⟨(HO1.out.setCell (p := ⟨w.heap.size, 0, none⟩) (hn 0) _).setCell (p := ⟨w.heap.size, 1, none⟩) (hn 1) _, fun h => (by rw [HW.out] at h; cases h), fun R' h => ?_⟩
        rw [HW.out] at h
        cases h
        exact ⟨.slice po Q.length cap, z, Q, d, rfl, (HP1.out.setStruct HX.out).setStruct (heap_setCell_same HX.out _), by omega, HPc.out⟩
end Go.Proofs.YthhiofppbpgipaaGreatDoor
