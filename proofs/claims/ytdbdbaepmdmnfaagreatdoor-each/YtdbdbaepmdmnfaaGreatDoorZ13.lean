import Derived.Test.YtdbdbaepmdmnfaaGreatDoorZ12
import Derived.Test.YtdbdbaepmdmnfaaGreatDoorProg
import Derived.Shelf.Slices.Clone
import Derived.Shelf.Sort.Plain
import Derived.Sort.OwnSorted
import Derived.Test.YtdbdbaepmdmnfaaGreatDoorZ06
namespace Go.Proofs.YtdbdbaepmdmnfaaGreatDoor
open Go.RowKit
theorem ents_noF {i : Nat} {A : AL} {x : ByteArray} (hno : ∀ p ∈ A, p.1 ≠ x) : ∀ q ∈ entsFrom i A, q.1 ≠ aKey x := fun q hq e => by
  obtain ⟨p, hp, e1⟩ := ents_mem hq
  exact hno p hp (aKey_inj (e1.symm.trans e))
theorem Apart.drop {A : AL} (h : Apart A) (j : Nat) : Apart (A.drop j) := ⟨by rw [List.map_drop]; exact h.1.sublist (List.drop_sublist _ _), fun p hp => h.2 p (List.mem_of_mem_drop hp)⟩
theorem ArrAt.at {W : World} {C ab M kb : Nat} {po : Option Addr} {n cap : Nat} {A : AL} (h : ArrAt W C ab M kb (.slice po n cap) A) (j : Nat) (p : ByteArray × VT3) (hp : A[j]? = some p) : ∃ g, po = some ⟨g, 0, none⟩ ∧ W.cell? ⟨g, j, none⟩ = some (.string p.1) ∧ g ≠ M ∧ g < W.heap.size := by
  have hj := (List.getElem?_eq_some_iff.1 hp).1
  have hr := h.r
  have hM := h.ne.2.2.2.2
  rcases hr.2 with ⟨e, h1⟩ | ⟨g, cap', cur, e, h1, h2, h3, h4, h5, h6⟩
  · have : A.length = 0 := by simpa [keysOf] using h1
    omega
  · cases e
    refine ⟨g, rfl, cell_of h2 ?_, fun e => hM (by rw [e]; rfl), heap_lt h2⟩
    have hk : (keysOf A)[j]? = some (.string p.1) := by unfold keysOf; rw [List.getElem?_map, hp]; rfl
    rw [← h6, List.getElem?_take] at hk
    split at hk
    · rw [Array.getElem?_toList] at hk
      exact hk
    · cases hk
set_option maxRecDepth 20000 in
set_option maxHeartbeats 4000000 in
theorem empty_all (C ab M kb : Nat) (kv : Value) (A : AL) (hA : A.length ≤ 100) (w : World) (h : ArrAt w C ab M kb kv A) :
    Calls Tryz.prog 293 #[.pointer (some ⟨ab, 0, none⟩), .int .i64 0] w fun en w' => en = .returned (.tuple #[]) ∧ ArrAt w' C ab M kb (.slice none 0 0) [] ∧ Only (fun q => q = kb ∨ q = M) w w' := by
  obtain ⟨po, cap, rfl⟩ := ownsRow_slice h.r
  have a0 : w.cell? ⟨ab, 0, none⟩ = some (.map (some M)) := cell_of h.a rfl
  have a1 : w.cell? ⟨ab, 1, none⟩ = some (.slice (some ⟨kb, 0, none⟩) 1 1) := cell_of h.a rfl
  have k0 : w.cell? ⟨kb, 0, none⟩ = some (.slice po A.length cap) := cell_of h.k rfl
  have kf := free_of h.k
  have la := heap_lt h.a
  have lk := heap_lt h.k
  have HH := hide h
  clear h
  go_enter Tryz.func293, Tryz.ntmps293
  go_wp2
  go_loopg [14] A.length (fun gh s wr => ∃ j : Nat, j ≤ A.length ∧ gh = A.length - j ∧ s = .int .i64 j ∧ Only (fun q => q = M) w wr ∧ ∃ es ck, wr.heap[M]? = some (.map es ck) ∧ Ent es (entsFrom j (A.drop j)))
  case atStart =>
    obtain ⟨es, ck, hm, he⟩ := HH.out.m
    exact ⟨0, Nat.zero_le _, rfl, rfl, Only.refl _ _, es, ck, hm, he⟩
  case round =>
    obtain ⟨j, hj, hgh, rfl, ho, es, ck, hm, he⟩ := hrel
    have a0 : wr.cell? ⟨ab, 0, none⟩ = some (.map (some M)) := (ho.cell (p := ⟨ab, 0, none⟩) la HH.out.ne.1.1).trans a0
    by_cases hlt : j < A.length
    · obtain ⟨p, hp⟩ : ∃ p, A[j]? = some p := ⟨_, List.getElem?_eq_getElem hlt⟩
      obtain ⟨g, rfl, hg, hgM, hgl⟩ := HH.out.at j p hp
      have hd : A.drop j = p :: A.drop (j + 1) := by
        rw [List.drop_eq_getElem_cons hlt]
        congr 1
        have := List.getElem?_eq_getElem hlt
        rw [this] at hp
        exact Option.some.inj hp
      have g0 : wr.cell? ⟨g, j, none⟩ = some (.string p.1) := (ho.cell (p := ⟨g, j, none⟩) hgl hgM).trans hg
      have hpA : p ∈ A := List.mem_of_getElem? hp
      have hps := HH.out.p.2 p hpA
      rw [hd, ents_cons] at he
      have hkd : Keyed (entsFrom j (A.drop j)) := (HH.out.p.drop j).keyed j
      rw [hd, ents_cons] at hkd
      have hno : ∀ q ∈ entsFrom (j + 1) (A.drop (j + 1)), q.1 ≠ aKey p.1 := ents_noF (by
        have h1 := (HH.out.p.drop j).1
        rw [hd, List.map_cons, List.nodup_cons] at h1
        intro q hq e
        exact h1.1 (by rw [← e]; exact List.mem_map_of_mem (f := (·.1)) hq))
      obtain ⟨W, es2, hrun, hOW, hMW, hEW⟩ := del_first hm he hkd (by unfold maxLen; omega) hno 0
      unfold aKey at hrun
      have hki : (j : Int) < (A.length : Int) := by omega
      have HOW := hide hOW
      have HMW := hide hMW
      have HEW := hide hEW
      have HO := hide ho
      have HG := hide hgh
      clear hOW hMW hEW ho hgh he hkd hno hm hp hd hpA hg
      go_wp2
      go_roundg (A.length - (j + 1))
      case measure => rw [HG.out]; omega
      case rel => exact ⟨j + 1, by omega, rfl, by go_num, HO.out.trans HOW.out (fun _ _ e => e), es2, ck, HMW.out, HEW.out⟩
    · obtain rfl : j = A.length := by omega
      have hki : ¬ (A.length : Int) < (A.length : Int) := by omega
      have a1r : wr.cell? ⟨ab, 1, none⟩ = some (.slice (some ⟨kb, 0, none⟩) 1 1) := (ho.cell (p := ⟨ab, 1, none⟩) la HH.out.ne.1.1).trans a1
      have hkr := (ho.block kb lk HH.out.ne.2.1).trans HH.out.k
      have k0r : wr.cell? ⟨kb, 0, none⟩ = some (.slice po A.length cap) := cell_of hkr rfl
      have kfr := free_of hkr
      have HO := hide ho
      have HM := hide hm
      have HE := hide he
      have HKr := hide hkr
      clear ho hm he hkr
      go_wp2
      go_end0
      refine ⟨rfl, ⟨(Below.heap_setCell _ _ _ _ HH.out.ne.1.2).trans ((HO.out.block ab la HH.out.ne.1.1).trans HH.out.a), heap_setCell_same HKr.out _, World.ownsRow_nil _ _ _ _, ⟨es, ck, (Below.heap_setCell _ _ _ _ (Ne.symm HH.out.ne.2.1)).trans HM.out, ?_⟩, ⟨by simp, fun p hp => by cases hp⟩, fun _ => rfl⟩, ?_⟩
      · have := HE.out
        rw [List.drop_length] at this
        exact this
      · exact (HO.out.mono (E := fun q => q = kb ∨ q = M) (fun _ _ e => Or.inr e)).setCell (p := ⟨kb, 0, none⟩) (fun _ => Or.inl rfl) _
set_option maxRecDepth 20000 in
set_option maxHeartbeats 4000000 in
theorem take_have (C ab M kb : Nat) (kv : Value) (A : AL) (i : Nat) (x : ByteArray) (v : VT3) (hi : A[i]? = some (x, v)) (w : World) (h : ArrAt w C ab M kb kv A) :
    Calls Tryz.prog 314 #[.pointer (some ⟨ab, 0, none⟩), .agg #[.int .i64 0, .string x]] w fun en w' => en = .returned (.agg #[.int .i64 v.1, .int .i64 v.2.1, .string v.2.2]) ∧ Only (fun _ => False) w w' := by
  have a0 : w.cell? ⟨ab, 0, none⟩ = some (.map (some M)) := cell_of h.a rfl
  have la := heap_lt h.a
  obtain ⟨es, ck, hm, he⟩ := h.m
  have hx := h.p.2 (x, v) (List.mem_of_getElem? hi)
  have hil := (List.getElem?_eq_some_iff.1 hi).1
  have hl : ∀ W : World, W.heap[M]? = some (.map es ck) → (Instr.lookup 256 (.map (some M)) (.agg #[.int .i64 0, .string x]) true).run Tryz.prog W = .ok (.tuple #[.agg #[.int .i64 v.1, .int .i64 v.2.1, .string v.2.2, .int .i64 i], .bool true]) W := fun W hW => look_yes hW he (h.p.keyed 0) (by simp at hx; unfold maxLen; omega) (i := i) (v := aVal v i) (by rw [ents_get, hi]; rfl) (fun j p hj e => by
    rw [ents_get] at hj
    cases hA : A[j]? with
    | none => rw [hA] at hj; cases hj
    | some q =>
      rw [hA] at hj
      simp at hj
      subst hj
      have e1 := aKey_inj e
      have hjl := (List.getElem?_eq_some_iff.1 hA).1
      have h1 : (A.map (·.1))[j]? = some x := by rw [List.getElem?_map, hA]; simp [e1]
      have h2 : (A.map (·.1))[i]? = some x := by rw [List.getElem?_map, hi]; rfl
      exact (List.getElem?_inj (by simpa using hjl) h.p.1).1 (h1.trans h2.symm))
  obtain ⟨w2, hw2⟩ : ∃ w2, w2 = (w.alloc (.cells #[.int .i64 0, .string x] 448)).alloc (.cells #[.int .i64 0, .int .i64 0, .string ⟨#[]⟩] 203) := ⟨_, rfl⟩
  have hO2 : Only (fun _ => False) w w2 := by rw [hw2]; exact (onlyA _ _).alloc _
  have hz2 : w2.heap.size = w.heap.size + 2 := by rw [hw2]; simp
  have hb1 : w2.heap[w.heap.size]? = some (.cells #[.int .i64 0, .string x] 448 (0, 0)) := by rw [hw2]; exact (Below.heap_alloc _ _ _ (by simp)).trans (new0 w _)
  have hb2 : w2.heap[w.heap.size + 1]? = some (.cells #[.int .i64 0, .int .i64 0, .string ⟨#[]⟩] 203 (0, 0)) := by rw [hw2]; exact new_at2 (by simp) _
  have a0 : w2.cell? ⟨ab, 0, none⟩ = some (.map (some M)) := (hO2.cell (p := ⟨ab, 0, none⟩) la (fun e => e)).trans a0
  have x0 : w2.cell? ⟨w.heap.size, 0, none⟩ = some (.int .i64 0) := cell_of hb1 rfl
  have x1 : w2.cell? ⟨w.heap.size, 1, none⟩ = some (.string x) := cell_of hb1 rfl
  have hm2 := (hO2.block M (heap_lt hm) (fun e => e)).trans hm
  have hl0 := hl w2.drew hm2
  have hl1 := hl (w2.alloc (.cells #[.int .i64 0, .int .i64 0, .string ⟨#[]⟩, .int .i64 0] 494)).drew ((Below.heap_alloc _ _ _ (heap_lt hm2)).trans hm2)
  have a0' := Lib.cell?_alloc_some (.cells #[.int .i64 0, .int .i64 0, .string ⟨#[]⟩, .int .i64 0] 494) a0
  have x0' := Lib.cell?_alloc_some (.cells #[.int .i64 0, .int .i64 0, .string ⟨#[]⟩, .int .i64 0] 494) x0
  have x1' := Lib.cell?_alloc_some (.cells #[.int .i64 0, .int .i64 0, .string ⟨#[]⟩, .int .i64 0] 494) x1
  have HH := hide h
  have HO2 := hide hO2
  have HB1 := hide hb1
  have HB2 := hide hb2
  clear h hm he hl hO2 hb1 hb2 hm2
  go_enter Tryz.func314, Tryz.ntmps314
  go_upto_region 1 with fail
  rw [← hw2]
  clear hw2
  go_cut [5, 6] (fun s5 s6 w3 => s5 = .pointer (some ⟨w.heap.size + 2, 0, none⟩) ∧ s6 = .bool true ∧ w3.heap.size = w.heap.size + 3 ∧ w3.heap[w.heap.size + 2]? = some (.cells #[.int .i64 v.1, .int .i64 v.2.1, .string v.2.2, .int .i64 i] 494 (0, 0)) ∧ Only (fun _ => False) w2 w3)
  case first =>
    go_region
    all_goals
      go_wp2_with fail
      go_meet
      refine ⟨rfl, rfl, ?_, new_at2 (by omega) _, toDrew (onlyA _ _)⟩
      show (w2.alloc _).heap.size = _
      simp
      omega
  case rest =>
  obtain ⟨rfl, rfl, hz3, hb3, hO3⟩ := hcut
  have e0 : wc.cell? ⟨w.heap.size + 2, 0, none⟩ = some (.int .i64 v.1) := cell_of hb3 rfl
  have e1 : wc.cell? ⟨w.heap.size + 2, 1, none⟩ = some (.int .i64 v.2.1) := cell_of hb3 rfl
  have e2 : wc.cell? ⟨w.heap.size + 2, 2, none⟩ = some (.string v.2.2) := cell_of hb3 rfl
  have p2 := (hO3.block _ (heap_lt HB2.out) (fun e => e)).trans HB2.out
  have r0 : wc.cell? ⟨w.heap.size + 1, 0, none⟩ = some (.int .i64 0) := cell_of p2 rfl
  have r1 : wc.cell? ⟨w.heap.size + 1, 1, none⟩ = some (.int .i64 0) := cell_of p2 rfl
  have r2 : wc.cell? ⟨w.heap.size + 1, 2, none⟩ = some (.string ⟨#[]⟩) := cell_of p2 rfl
  have rf := free_of p2
  have HO := hide (HO2.out.trans hO3 (fun _ _ e => e))
  clear hO3 hb3 p2 a0 x0 x1 a0' x0' x1' hl0 hl1
  go_wp2
  refine bodyPost_ret (v := .agg #[.int .i64 v.1, .int .i64 v.2.1, .string v.2.2]) (by simp [results, Tryz.results314, go_sem, r0, r1, r2]) rfl ⟨rfl, ?_⟩
  exact ((HO.out.setCell (p := ⟨w.heap.size + 1, 0, none⟩) (fun h => absurd h (by show ¬ w.heap.size + 1 < w.heap.size; omega)) _).setCell (p := ⟨w.heap.size + 1, 1, none⟩) (fun h => absurd h (by show ¬ w.heap.size + 1 < w.heap.size; omega)) _).setCell (p := ⟨w.heap.size + 1, 2, none⟩) (fun h => absurd h (by show ¬ w.heap.size + 1 < w.heap.size; omega)) _
set_option maxRecDepth 20000 in
set_option maxHeartbeats 4000000 in
theorem take_new (C ab M kb : Nat) (kv : Value) (A : AL) (x : ByteArray) (hx : x.size ≤ 1000) (hno : ∀ p ∈ A, p.1 ≠ x) (hA : A.length ≤ 100) (w : World) (hC : C ≤ w.heap.size) (h : ArrAt w C ab M kb kv A) :
    Calls Tryz.prog 314 #[.pointer (some ⟨ab, 0, none⟩), .agg #[.int .i64 0, .string x]] w fun en w' => en = .returned (.agg #[.int .i64 0, .int .i64 0, .string ⟨#[]⟩]) ∧ ∃ kv', ArrAt w' C ab M kb kv' (A ++ [(x, 0, 0, ⟨#[]⟩)]) ∧ Only (fun q => q = kb ∨ q = M ∨ kv.ownBlock = some q) w w' ∧ (∀ q, kv'.ownBlock = some q → kv.ownBlock = some q ∨ w.heap.size ≤ q) := by
  have a0 : w.cell? ⟨ab, 0, none⟩ = some (.map (some M)) := cell_of h.a rfl
  have la := heap_lt h.a
  obtain ⟨es, ck, hm, he⟩ := h.m
  have hl : ∀ W : World, W.heap[M]? = some (.map es ck) → (Instr.lookup 256 (.map (some M)) (.agg #[.int .i64 0, .string x]) true).run Tryz.prog W = .ok (.tuple #[.agg #[.int .i64 0, .int .i64 0, .string ⟨#[]⟩, .int .i64 0], .bool false]) W := fun W hW => look_no hW he (h.p.keyed 0) (by unfold maxLen; omega) (ents_no hno)
  obtain ⟨w2, hw2⟩ : ∃ w2, w2 = (w.alloc (.cells #[.int .i64 0, .string x] 448)).alloc (.cells #[.int .i64 0, .int .i64 0, .string ⟨#[]⟩] 203) := ⟨_, rfl⟩
  have hO2 : Only (fun _ => False) w w2 := by rw [hw2]; exact (onlyA _ _).alloc _
  have hz2 : w2.heap.size = w.heap.size + 2 := by rw [hw2]; simp
  have hb1 : w2.heap[w.heap.size]? = some (.cells #[.int .i64 0, .string x] 448 (0, 0)) := by rw [hw2]; exact (Below.heap_alloc _ _ _ (by simp)).trans (new0 w _)
  have hb2 : w2.heap[w.heap.size + 1]? = some (.cells #[.int .i64 0, .int .i64 0, .string ⟨#[]⟩] 203 (0, 0)) := by rw [hw2]; exact new_at2 (by simp) _
  have a0 : w2.cell? ⟨ab, 0, none⟩ = some (.map (some M)) := (hO2.cell (p := ⟨ab, 0, none⟩) la (fun e => e)).trans a0
  have x0 : w2.cell? ⟨w.heap.size, 0, none⟩ = some (.int .i64 0) := cell_of hb1 rfl
  have x1 : w2.cell? ⟨w.heap.size, 1, none⟩ = some (.string x) := cell_of hb1 rfl
  have hm2 := (hO2.block M (heap_lt hm) (fun e => e)).trans hm
  have hl0 := hl w2.drew hm2
  have hl1 := hl (w2.alloc (.cells #[.int .i64 0, .int .i64 0, .string ⟨#[]⟩, .int .i64 0] 494)).drew ((Below.heap_alloc _ _ _ (heap_lt hm2)).trans hm2)
  have a0' := Lib.cell?_alloc_some (.cells #[.int .i64 0, .int .i64 0, .string ⟨#[]⟩, .int .i64 0] 494) a0
  have x0' := Lib.cell?_alloc_some (.cells #[.int .i64 0, .int .i64 0, .string ⟨#[]⟩, .int .i64 0] 494) x0
  have x1' := Lib.cell?_alloc_some (.cells #[.int .i64 0, .int .i64 0, .string ⟨#[]⟩, .int .i64 0] 494) x1
  have HH := hide h
  have HO2 := hide hO2
  have HB1 := hide hb1
  have HB2 := hide hb2
  clear h hm he hl hO2 hb1 hb2 hm2
  go_enter Tryz.func314, Tryz.ntmps314
  go_upto_region 1 with fail
  rw [← hw2]
  clear hw2
  go_cut [5, 6] (fun s5 s6 w3 => s5 = .pointer (some ⟨w.heap.size + 2, 0, none⟩) ∧ s6 = .bool false ∧ w3.heap.size = w.heap.size + 3 ∧ w3.heap[w.heap.size + 2]? = some (.cells #[.int .i64 0, .int .i64 0, .string ⟨#[]⟩, .int .i64 0] 494 (0, 0)) ∧ Only (fun _ => False) w2 w3)
  case first =>
    go_region
    all_goals
      go_wp2_with fail
      go_meet
      refine ⟨rfl, rfl, ?_, new_at2 (by omega) _, toDrew (onlyA _ _)⟩
      show (w2.alloc _).heap.size = _
      simp
      omega
  case rest =>
  obtain ⟨rfl, rfl, hz3, hb3, hO3⟩ := hcut
  have p2 := (hO3.block _ (heap_lt HB2.out) (fun e => e)).trans HB2.out
  have p1 := (hO3.block _ (heap_lt HB1.out) (fun e => e)).trans HB1.out
  have hOw := HO2.out.trans hO3 (fun _ _ e => e)
  have HS := hide (store_new C ab M kb kv A x (0, 0, ⟨#[]⟩) hx hno hA wc (by omega) (HH.out.calm hOw))
  have x0 : wc.cell? ⟨w.heap.size, 0, none⟩ = some (.int .i64 0) := cell_of p1 rfl
  have x1 : wc.cell? ⟨w.heap.size, 1, none⟩ = some (.string x) := cell_of p1 rfl
  have HKv : Hid (∀ q, kv.ownBlock = some q → q < w.heap.size) := hide (fun q hq => (HH.out.r.lt q hq).2)
  have Lk := heap_lt HH.out.k
  have LM : M < w.heap.size := by obtain ⟨_, _, e, _⟩ := HH.out.m; exact heap_lt e
  have HOw := hide hOw
  have HP2 := hide p2
  have HB3 := hide hb3
  clear hO3 hb3 p2 p1 a0 a0' x0' x1' hl0 hl1 hOw
  go_wp2_with fail
  refine (HS.out).mono ?_
  rintro en w4 ⟨rfl, kv', hA4, ho4, hk4⟩
  have hne : ∀ q, w.heap.size ≤ q → ¬ (q = kb ∨ q = M ∨ kv.ownBlock = some q) := fun q hq e => by
    rcases e with e | e | e
    · omega
    · omega
    · have := HKv.out q e; omega
  have b3 := (ho4.block _ (heap_lt HB3.out) (hne _ (by omega))).trans HB3.out
  have p2 := (ho4.block _ (heap_lt HP2.out) (hne _ (by omega))).trans HP2.out
  have e0 : w4.cell? ⟨w.heap.size + 2, 0, none⟩ = some (.int .i64 0) := cell_of b3 rfl
  have e1 : w4.cell? ⟨w.heap.size + 2, 1, none⟩ = some (.int .i64 0) := cell_of b3 rfl
  have e2 : w4.cell? ⟨w.heap.size + 2, 2, none⟩ = some (.string ⟨#[]⟩) := cell_of b3 rfl
  have r0 : w4.cell? ⟨w.heap.size + 1, 0, none⟩ = some (.int .i64 0) := cell_of p2 rfl
  have r1 : w4.cell? ⟨w.heap.size + 1, 1, none⟩ = some (.int .i64 0) := cell_of p2 rfl
  have r2 : w4.cell? ⟨w.heap.size + 1, 2, none⟩ = some (.string ⟨#[]⟩) := cell_of p2 rfl
  have rf := free_of p2
  have HA4 := hide hA4
  have HO4 := hide ((HOw.out.mono (E := fun q => q = kb ∨ q = M ∨ kv.ownBlock = some q) (fun _ _ e => e.elim)).trans ho4 (fun _ _ e => e))
  have HK4 := hide hk4
  clear hA4 ho4 hk4 b3 p2 hne
  have La := heap_lt HH.out.a
  go_wp2
  have hF : Only (fun q => q = w.heap.size + 1) w4 (((w4.setCell ⟨w.heap.size + 1, 0, none⟩ (.int .i64 0)).setCell ⟨w.heap.size + 1, 1, none⟩ (.int .i64 0)).setCell ⟨w.heap.size + 1, 2, none⟩ (.string ⟨#[]⟩)) := (((Only.refl (fun q => q = w.heap.size + 1) w4).setCell (p := ⟨w.heap.size + 1, 0, none⟩) (fun _ => rfl) _).setCell (p := ⟨w.heap.size + 1, 1, none⟩) (fun _ => rfl) _).setCell (p := ⟨w.heap.size + 1, 2, none⟩) (fun _ => rfl) _
  refine bodyPost_ret (v := .agg #[.int .i64 0, .int .i64 0, .string ⟨#[]⟩]) (by simp [results, Tryz.results314, go_sem, r0, r1, r2]) rfl ⟨rfl, kv', HA4.out.far hF (by omega) (by omega) (by omega) ?_, HO4.out.trans hF (fun i hi e => by omega), fun q hq => ?_⟩
  · intro e
    rcases HK4.out _ e with h | h
    · have := HKv.out _ h; omega
    · omega
  · rcases HK4.out _ hq with h | h
    · exact Or.inl h
    · exact Or.inr (by omega)
end Go.Proofs.YtdbdbaepmdmnfaaGreatDoor

namespace Go.Proofs
open Go.Shelf
def Tryz.laysNm216_ren : Go.Shelf.Ren := ⟨fun | 16 => 372 | n => n, fun | 24 => 23 | 9 => 9 | 4 => 4 | n => n, fun | n => n⟩
theorem Tryz.laysNm216 : Go.Proofs.Lays2.n16 Tryz.prog Tryz.laysNm216_ren := {
  mixed := by kernel_rfl
  f16 := Tryz.func372.trans (congrArg some (by kernel_rfl))
  t4 := Tryz.underlying4
  a4 := Tryz.isAgg4
  z4 := Tryz.sizeOf4
  v4 := Tryz.zeroValue4
  t9 := Tryz.underlying9
  a9 := Tryz.isAgg9
  z9 := Tryz.sizeOf9
  v9 := Tryz.zeroValue9
  t24 := Tryz.underlying23
  a24 := Tryz.isAgg23
  z24 := Tryz.sizeOf23
  v24 := Tryz.zeroValue23
  i9 := by kernel_rfl }
open Go.RowKit Go.Lib in
theorem Tryz.slices_Clone_string (b off n c : Nat) (zs : List ByteArray) (w : World) (hz : n ≤ zs.length) (hbig : n * 16 ≤ 140737488355328) (hc : ∀ j, j < zs.length → w.cell? ⟨b, off + j, none⟩ = some (.string (zs.getD j ByteArray.empty))) :
    Calls Tryz.prog 372 #[.slice (some ⟨b, off, none⟩) n c] w fun e w' => ∃ v', e = .returned v' ∧ w'.ownsRow w.heap.size 9 1 v' n ((zs.take n).map (Value.string)) ∧ v' ≠ .slice none 0 0 ∧ Below w.heap.size w w' := Any.slices_Clone_string Tryz.laysNm216 b off n c zs w hz hbig hc
open Go.RowKit Go.Lib in
theorem Tryz.slices_Clone_string_nil (n c : Nat) (w : World) :
    Calls Tryz.prog 372 #[.slice none n c] w fun e w' => e = .returned (.slice none 0 0) ∧ w' = w := Any.slices_Clone_string_nil Tryz.laysNm216 n c w
end Go.Proofs

namespace Go.Proofs
open Go.Shelf
def Tryz.lays190_ren : Go.Shelf.Ren := ⟨fun | 190 => 373 | 125 => 147 | 258 => 432 | 128 => 198 | 129 => 199 | 302 => 460 | 303 => 461 | 304 => 462 | 305 => 463 | 306 => 464 | 307 => 465 | 308 => 466 | 309 => 467 | 310 => 468 | 333 => 483 | 329 => 259 | 330 => 260 | 334 => 484 | 335 => 485 | 336 => 480 | 344 => 493 | n => n, fun | 31 => 23 | 9 => 9 | 3 => 3 | 46 => 241 | 0 => 0 | 51 => 327 | 53 => 113 | 4 => 4 | 183 => 361 | 182 => 360 | 131 => 84 | 5 => 5 | 218 => 409 | 222 => 413 | 228 => 485 | 229 => 80 | n => n, fun | n => n⟩
theorem Tryz.lays190 : Go.Proofs.Lays.n190 Tryz.prog Tryz.lays190_ren := {
  mixed := by kernel_rfl
  f125 := Tryz.func147.trans (congrArg some (by kernel_rfl))
  f128 := Tryz.func198.trans (congrArg some (by kernel_rfl))
  f129 := Tryz.func199.trans (congrArg some (by kernel_rfl))
  f190 := Tryz.func373.trans (congrArg some (by kernel_rfl))
  f258 := Tryz.func432.trans (congrArg some (by kernel_rfl))
  f302 := Tryz.func460.trans (congrArg some (by kernel_rfl))
  f303 := Tryz.func461.trans (congrArg some (by kernel_rfl))
  f304 := Tryz.func462.trans (congrArg some (by kernel_rfl))
  f305 := Tryz.func463.trans (congrArg some (by kernel_rfl))
  f306 := Tryz.func464.trans (congrArg some (by kernel_rfl))
  f307 := Tryz.func465.trans (congrArg some (by kernel_rfl))
  f308 := Tryz.func466.trans (congrArg some (by kernel_rfl))
  f309 := Tryz.func467.trans (congrArg some (by kernel_rfl))
  f310 := Tryz.func468.trans (congrArg some (by kernel_rfl))
  f329 := Tryz.func259.trans (congrArg some (by kernel_rfl))
  f330 := Tryz.func260.trans (congrArg some (by kernel_rfl))
  f333 := Tryz.func483.trans (congrArg some (by kernel_rfl))
  f334 := Tryz.func484.trans (congrArg some (by kernel_rfl))
  f335 := Tryz.func485.trans (congrArg some (by kernel_rfl))
  f336 := Tryz.func480.trans (congrArg some (by kernel_rfl))
  f344 := Tryz.func493.trans (congrArg some (by kernel_rfl))
  t0 := Tryz.underlying0
  a0 := Tryz.isAgg0
  z0 := Tryz.sizeOf0
  v0 := Tryz.zeroValue0
  t3 := Tryz.underlying3
  a3 := Tryz.isAgg3
  z3 := Tryz.sizeOf3
  v3 := Tryz.zeroValue3
  t4 := Tryz.underlying4
  a4 := Tryz.isAgg4
  z4 := Tryz.sizeOf4
  v4 := Tryz.zeroValue4
  t5 := Tryz.underlying5
  a5 := Tryz.isAgg5
  z5 := Tryz.sizeOf5
  v5 := Tryz.zeroValue5
  t9 := Tryz.underlying9
  a9 := Tryz.isAgg9
  z9 := Tryz.sizeOf9
  v9 := Tryz.zeroValue9
  t31 := Tryz.underlying23
  a31 := Tryz.isAgg23
  z31 := Tryz.sizeOf23
  v31 := Tryz.zeroValue23
  t46 := Tryz.underlying241
  a46 := Tryz.isAgg241
  z46 := Tryz.sizeOf241
  v46 := Tryz.zeroValue241
  t51 := Tryz.underlying327
  a51 := Tryz.isAgg327
  z51 := Tryz.sizeOf327
  v51 := Tryz.zeroValue327
  t53 := Tryz.underlying113
  a53 := Tryz.isAgg113
  z53 := Tryz.sizeOf113
  v53 := Tryz.zeroValue113
  t131 := Tryz.underlying84
  a131 := Tryz.isAgg84
  z131 := Tryz.sizeOf84
  v131 := Tryz.zeroValue84
  t182 := Tryz.underlying360
  a182 := Tryz.isAgg360
  z182 := Tryz.sizeOf360
  v182 := Tryz.zeroValue360
  t183 := Tryz.underlying361
  a183 := Tryz.isAgg361
  z183 := Tryz.sizeOf361
  v183 := Tryz.zeroValue361
  t218 := Tryz.underlying409
  a218 := Tryz.isAgg409
  z218 := Tryz.sizeOf409
  v218 := Tryz.zeroValue409
  t222 := Tryz.underlying413
  a222 := Tryz.isAgg413
  z222 := Tryz.sizeOf413
  v222 := Tryz.zeroValue413
  t228 := Tryz.underlying485
  a228 := Tryz.isAgg485
  z228 := Tryz.sizeOf485
  v228 := Tryz.zeroValue485
  t229 := Tryz.underlying80
  a229 := Tryz.isAgg80
  z229 := Tryz.sizeOf80
  v229 := Tryz.zeroValue80 }
open Go.Sort Go.RowKit in
theorem Tryz.slices_Sort_string (blk off cap : Nat) (ss : List (List UInt8)) (w : World) (hH : Holds encStr w blk off ss.toArray) (hblk : blk < w.heap.size) (hsz : ss.length < 4611686018427387904) :
    Calls Tryz.prog 373 #[.slice (some ⟨blk, off, none⟩) ss.length cap] w fun e w' =>
      e = .returned (.tuple #[]) ∧ ∃ n os, w' = grow (putRow encStr (Sort.ahead w n) blk off (ss.mergeSort fun x y => decide (x ≤ y)).toArray) os := Any.slices_Sort_string Tryz.lays190 blk off cap ss w hH hblk hsz
end Go.Proofs

namespace Go.Proofs.YtdbdbaepmdmnfaaGreatDoor
open Go.RowKit
/-- The keys in rising order. -/
def sortedKeys (A : AL) : List (List UInt8) := (A.map (·.1.data.toList)).mergeSort fun x y => decide (x ≤ y)
set_option maxRecDepth 20000 in
set_option maxHeartbeats 4000000 in
theorem keys_some (C ab M kb : Nat) (kv : Value) (A : AL) (hA : A.length ≤ 100) (h0 : 0 < A.length) (w : World) (h : ArrAt w C ab M kb kv A) :
    Calls Tryz.prog 279 #[.pointer (some ⟨ab, 0, none⟩), .int .i64 0] w fun en w' => ∃ g c', en = .returned (.slice (some ⟨g, 0, none⟩) A.length c') ∧ w'.ownsRow w.heap.size 9 1 (.slice (some ⟨g, 0, none⟩) A.length c') A.length ((sortedKeys A).map (fun s => .string ⟨s.toArray⟩)) ∧ Only (fun _ => False) w w' := by
  obtain ⟨po, cap, rfl⟩ := ownsRow_slice h.r
  obtain ⟨p0, hp0⟩ : ∃ p, A[0]? = some p := ⟨_, List.getElem?_eq_getElem h0⟩
  obtain ⟨g, rfl, _, hgM, hgl⟩ := h.at 0 p0 hp0
  have a1 : w.cell? ⟨ab, 1, none⟩ = some (.slice (some ⟨kb, 0, none⟩) 1 1) := cell_of h.a rfl
  have k0 : w.cell? ⟨kb, 0, none⟩ = some (.slice (some ⟨g, 0, none⟩) A.length cap) := cell_of h.k rfl
  have la := heap_lt h.a
  have lk := heap_lt h.k
  have HC := hide (Tryz.slices_Clone_string g 0 A.length cap (A.map (·.1)) w (by simp) (by omega) (fun j hj => by
    have hj' : j < A.length := by simpa using hj
    obtain ⟨p, hp⟩ : ∃ p, A[j]? = some p := ⟨_, List.getElem?_eq_getElem hj'⟩
    obtain ⟨g', e, hc, _⟩ := h.at j p hp
    cases e
    rw [Nat.zero_add, hc]
    simp [List.getD, hp]))
  clear h hp0
  go_enter Tryz.func279, Tryz.ntmps279
  go_wp2_with fail
  refine (HC.out).mono ?_
  rintro en w1 ⟨v, rfl, hv, hnn, hB⟩
  rcases hv.2 with ⟨_, h1⟩ | ⟨g1, c1, cur, rfl, h1, h2, h3, h4, h5, h6⟩
  · have : A.length = 0 := by simpa using h1
    omega
  have hl1 := heap_lt h2
  have hcur : cur.toList.take (A.map (·.1.data.toList)).length = (A.map (·.1.data.toList)).map Go.Proofs.encStr := by
    have e1 : (A.map (·.1.data.toList)).length = A.length * 1 := by simp
    rw [e1, h6, List.take_of_length_le (by simp), List.map_map, List.map_map]
    rfl
  have hsort := Tryz.slices_Sort_string g1 0 c1 (A.map (·.1.data.toList)) w1 (Go.holds_of_block h2 hcur) hl1 (by simp; omega)
  have e2 : (A.map (·.1.data.toList)).length = A.length := by simp
  rw [e2] at hsort
  have HS := hide hsort
  have HB := hide hB
  have H2 := hide h2
  have hcs : cur.size = c1 * 1 := h5
  have hzB := hB.size
  clear hsort hB h2 hcur hv hnn HC h6
  go_wp2_with fail
  refine (HS.out).mono ?_
  rintro en w2 ⟨rfl, n, os, hw2⟩
  have hgr := Go.grownBy_sorted (w := w1) (g := g1) (n := n) (os := os) ((A.map (·.1.data.toList)).mergeSort fun x y => decide (x ≤ y)).toArray
  have hrow := Go.ownsRow_sorted (w := w1) (base := w.heap.size) (g := g1) (cap := c1) (n := n) (os := os) (ss := A.map (·.1.data.toList)) (ts := (A.map (·.1.data.toList)).mergeSort fun x y => decide (x ≤ y)) (by simp) h1 H2.out (by simp; omega) (by omega) hcs
  rw [← hw2] at hgr hrow
  clear hw2
  have HG := hide hgr
  have HR := hide hrow
  clear hgr hrow
  go_wp2
  go_ret
  have hO : Only (fun _ => False) w w2 := ⟨HG.out.os.trans HB.out.os, HG.out.tape.trans HB.out.tape, HG.out.output.trans HB.out.output, Nat.le_trans HB.out.size HG.out.size, fun k hk _ => (HG.out.block k (by omega) (fun e => by have := Option.some.inj e; omega)).trans (HB.out.block k hk)⟩
  have hrow := HR.out
  rw [e2] at hrow
  exact ⟨g1, c1, rfl, hrow, hO⟩
end Go.Proofs.YtdbdbaepmdmnfaaGreatDoor

namespace Go.Proofs.YtdbdbaepmdmnfaaGreatDoor
open Go.RowKit
set_option maxRecDepth 20000 in
set_option maxHeartbeats 2000000 in
theorem ins_none (w : World) : Calls Tryz.prog 460 #[.slice none 0 0, .int .i64 0, .int .i64 0] w fun en w' => en = .returned (.tuple #[]) ∧ w' = w := by
  go_enter Tryz.func460, Tryz.ntmps460
  go_wp2
  go_loop [6] (fun s => s = .int .i64 1) (fun _ => 0)
  case atStart => exact rfl
  case round =>
    subst hrel
    go_wp2
    go_end0
    exact ⟨rfl, rfl⟩
set_option maxRecDepth 20000 in
set_option maxHeartbeats 2000000 in
theorem pdq_none (l : Int) (w : World) : Calls Tryz.prog 432 #[.slice none 0 0, .int .i64 0, .int .i64 0, .int .i64 l] w fun en w' => en = .returned (.tuple #[]) ∧ w' = w := by
  have HI := hide ins_none
  go_enter Tryz.func432, Tryz.ntmps432
  go_wp2
  go_loop [1, 2] (fun s1 s2 => s1 = .int .i64 0 ∧ s2 = .int .i64 0) (fun _ _ => 0)
  case atStart => exact ⟨rfl, rfl⟩
  case round =>
    obtain ⟨rfl, rfl⟩ := hrel
    go_wp2_with (go_at_call 460; refine (HI.out _).mono ?_; rintro en w' ⟨rfl, rfl⟩)
    refine bodyPost_ret (results_none rfl _ _ _) rfl ?_
    exact ⟨rfl, rfl⟩
set_option maxRecDepth 20000 in
set_option maxHeartbeats 2000000 in
theorem sort_none (w : World) : Calls Tryz.prog 373 #[.slice none 0 0] w fun en w' => en = .returned (.tuple #[]) ∧ w' = w := by
  have HL := hide len_0
  have HP := hide pdq_none
  go_enter Tryz.func373, Tryz.ntmps373
  go_wp2_with (first | (go_at_call 147; refine (HL.out _).mono ?_; rintro en w' ⟨⟨l, rfl⟩, rfl⟩) | (go_at_call 432; refine (HP.out _ _).mono ?_; rintro en w' ⟨rfl, rfl⟩))
  go_end0
  exact ⟨rfl, rfl⟩
set_option maxRecDepth 20000 in
set_option maxHeartbeats 4000000 in
theorem keys_none (C ab M kb : Nat) (w : World) (h : ArrAt w C ab M kb (.slice none 0 0) []) :
    Calls Tryz.prog 279 #[.pointer (some ⟨ab, 0, none⟩), .int .i64 0] w fun en w' => en = .returned (.slice none 0 0) ∧ w' = w := by
  have a1 : w.cell? ⟨ab, 1, none⟩ = some (.slice (some ⟨kb, 0, none⟩) 1 1) := cell_of h.a rfl
  have k0 : w.cell? ⟨kb, 0, none⟩ = some (.slice none 0 0) := cell_of h.k rfl
  have la := heap_lt h.a
  have lk := heap_lt h.k
  have HC := hide (Tryz.slices_Clone_string_nil 0 0)
  have HS := hide sort_none
  clear h
  go_enter Tryz.func279, Tryz.ntmps279
  go_wp2_with (first | (go_at_call 372; refine (HC.out _).mono ?_; rintro en w' ⟨rfl, rfl⟩) | (go_at_call 373; refine (HS.out _).mono ?_; rintro en w' ⟨rfl, rfl⟩))
  go_ret
  exact ⟨rfl, rfl⟩
end Go.Proofs.YtdbdbaepmdmnfaaGreatDoor

