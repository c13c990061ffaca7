import Derived.Test.YtdbdbaepmdmnfaaGreatDoorQ02
import Derived.Test.YtdbdbaepmdmnfaaGreatDoorQ09
import Derived.Deep.RegionLaw
import Derived.Deep.AppendLies
import Derived.Laws.BytesArg
import Derived.Lib.ConvBytes
namespace Go.Proofs.YtdbdbaepmdmnfaaGreatDoor
open Go.RowKit
/-- A text's bytes lie in a block. -/
def BytesAt (w : World) (gb : Nat) (s : ByteArray) : Prop := ∀ (j : Nat) (c : UInt8), s.data.toList[j]? = some c → w.cell? ⟨gb, j, none⟩ = some (.int .u8 c.toNat)
/-- A new row of a text's bytes. -/
theorem bytes_new (s : ByteArray) (W : World) : ∃ W2 cap, (convert 9 54 (.string s)).run Tryz.prog W = .ok (.slice (some ⟨W.heap.size, 0, none⟩) s.size cap) W2 ∧ W2.heap.size = W.heap.size + 1 ∧ s.size ≤ cap ∧ Only (fun _ => False) W W2 ∧ BytesAt W2 W.heap.size s := by
  refine ⟨_, _, Lib.run_convert_string_bytes W 9 54 5 s Tryz.underlying9 Tryz.underlying54 Tryz.underlying5, Lib.bytesWorld_size W 5 s, grownCap_ge _ _ _ _, ⟨rfl, rfl, rfl, by rw [Lib.bytesWorld_size]; omega, fun k hk _ => Lib.bytesWorld_at_old W 5 s k hk⟩, fun j c hc => ?_⟩
  have hj := (List.getElem?_eq_some_iff.1 hc).1
  rw [Lib.bytesWorld_cell W 5 s j (by simpa using hj), List.getD_eq_getElem?_getD, hc]; rfl
theorem BytesAt.block {w w' : World} {gb : Nat} {s : ByteArray} (h : BytesAt w gb s) (hb : w'.heap[gb]? = w.heap[gb]?) : BytesAt w' gb s := fun j c hc => (World.cell?_of_block (w := w) (w' := w') (a := ⟨gb, j, none⟩) hb).trans (h j c hc)
theorem new_at {W : World} {n : Nat} (h : W.heap.size = n) (o : Obj) : (W.alloc o).heap[n]? = some o := by subst h; exact heap_alloc_new W o
set_option maxHeartbeats 4000000 in
theorem start_any (s : ByteArray) (w : World) :
    Calls Tryz.prog 50 #[.string s] w fun e w' => ∃ cap, s.size ≤ cap ∧ e = .returned (.agg #[.slice (some ⟨w.heap.size + 1, 0, none⟩) s.size cap, .int .i64 0, .slice (some ⟨w.heap.size + 2, 0, none⟩) 0 0]) ∧ BytesAt w' (w.heap.size + 1) s ∧ w'.heap[w.heap.size + 2]? = some (.cells #[] 9 (0, 0)) ∧ w'.heap.size = w.heap.size + 3 ∧ Only (fun _ => False) w w' := by
  obtain ⟨W2, cap, kc, hz, hcap, ho, hby⟩ := bytes_new s (w.alloc (.cells #[.slice none 0 0, .int .i64 0, .slice none 0 0] 106))
  have hb : W2.heap[w.heap.size]? = some (.cells #[.slice none 0 0, .int .i64 0, .slice none 0 0] 106 (0, 0)) := (ho.block _ (by simp) (fun e => e)).trans (heap_alloc_new w _)
  have hz2 : W2.heap.size = w.heap.size + 2 := by simpa using hz
  have hc0 : W2.cell? ⟨w.heap.size, 0, none⟩ = some (.slice none 0 0) := cell_of hb rfl
  have hc1 : W2.cell? ⟨w.heap.size, 1, none⟩ = some (.int .i64 0) := cell_of hb rfl
  have hc2 : W2.cell? ⟨w.heap.size, 2, none⟩ = some (.slice none 0 0) := cell_of hb rfl
  have hf : ∀ o, W2.frozen? ⟨w.heap.size, o, none⟩ = false := fun o => free_of hb o
  have kc' : (convert 9 54 (.string s)).run Tryz.prog (w.alloc (.cells #[.slice none 0 0, .int .i64 0, .slice none 0 0] 106)) = .ok (.slice (some ⟨w.heap.size + 1, 0, none⟩) s.size cap) W2 := by simpa using kc
  have HO := hide ho
  have hby2 : BytesAt W2 (w.heap.size + 1) s := by simpa using hby
  have HB := hide hby2
  clear kc hz hb ho hby hby2
  go_enter Tryz.func50, Tryz.ntmps50
  go_wp2
  refine bodyPost_ret (v := .agg #[.slice (some ⟨w.heap.size + 1, 0, none⟩) s.size cap, .int .i64 0, .slice (some ⟨w.heap.size + 2, 0, none⟩) 0 0]) (by simp [results, Tryz.results50, go_sem, hc0, hc1, hc2, hz2]) rfl ⟨cap, hcap, rfl, ?_, ?_, by simp [World.setCell, hz2], ?_⟩
  · refine HB.out.block ?_
    rw [Below.heap_alloc _ _ _ (by simp [World.setCell, hz2]), Below.heap_setCell _ _ _ _ (by simp), Below.heap_setCell _ _ _ _ (by simp), Below.heap_setCell _ _ _ _ (by simp)]
  · exact new_at (by simp [World.setCell, hz2]) _
  · exact ((((((Only.refl _ w).alloc _).trans HO.out (fun _ _ e => e)).setCell (p := ⟨w.heap.size, 0, none⟩) (fun h => absurd h (Nat.lt_irrefl _)) _).setCell (p := ⟨w.heap.size, 1, none⟩) (fun h => absurd h (Nat.lt_irrefl _)) _).setCell (p := ⟨w.heap.size, 2, none⟩) (fun h => absurd h (Nat.lt_irrefl _)) _).alloc _
/-- A cutter: the bytes of s lie in gb, it is the block cb itself; the next piece begins at frm, the pieces are xs. All this is new from block B on, and apart from the blocks of X. -/
def Cutter (B : Nat) (X : Nat → Prop) (w : World) (cb gb : Nat) (s : ByteArray) (frm : Nat) (xs : List (List UInt8)) : Prop := ∃ v cap,
  s.size ≤ cap ∧ w.heap[cb]? = some (.cells #[.slice (some ⟨gb, 0, none⟩) s.size cap, .int .i64 frm, v] 106 (0, 0)) ∧ BytesAt w gb s ∧ gb < w.heap.size ∧ w.ownsRow B 9 1 v xs.length (strsV xs) ∧ cb ≠ gb ∧ v.ownBlock ≠ some cb ∧ v.ownBlock ≠ some gb ∧ B ≤ cb ∧ B ≤ gb ∧ ∀ k, X k → k < w.heap.size ∧ k ≠ cb ∧ v.ownBlock ≠ some k
theorem info9s : (Tryz.prog.info? 9).map (fun i => (i.zero, i.size, i.bytes)) = some (some (.string ⟨#[]⟩), 1, 16) := by kernel_rfl
/-- A piece of the bytes, as a text. -/
theorem piece_conv {w : World} {gb : Nat} {s : ByteArray} (h : BytesAt w gb s) (a b cap : Nat) (hab : a ≤ b) (hb : b ≤ s.size) : (convert 54 9 (.slice (some ⟨gb, a, none⟩) (b - a) cap)).run Tryz.prog w = .ok (.string (ofB (cutL s.data.toList a b))) w := by
  have hl : (cutL s.data.toList a b).length = b - a := by
    unfold cutL
    rw [List.length_take, List.length_drop, len_eq]
    omega
  rw [run_convert_bytes_arg w 54 5 Tryz.underlying54 Tryz.underlying5 gb a (b - a) cap ((cutL s.data.toList a b).map fun b => (b.toNat : Int)) (by simp [hl]) ?_ 9 Tryz.underlying9]
  · congr 2
    unfold strOfNums ofB
    simp [Function.comp_def]
  · intro i hi
    obtain ⟨c, hc⟩ : ∃ c, (cutL s.data.toList a b)[i]? = some c := ⟨_, List.getElem?_eq_getElem (by omega)⟩
    have hc2 : s.data.toList[a + i]? = some c := by
      unfold cutL at hc
      rw [List.getElem?_take_of_lt (by omega), List.getElem?_drop] at hc
      exact hc
    rw [h (a + i) c hc2, List.getD_eq_getElem?_getD, List.getElem?_map, hc]; rfl
set_option maxRecDepth 100000 in
set_option maxHeartbeats 4000000 in
theorem cut_any (B : Nat) (X : Nat → Prop) (cb gb : Nat) (s : ByteArray) (frm e frm2 : Nat) (xs : List (List UInt8)) (hfe : frm ≤ e) (hes : e ≤ s.size) (hx : xs.length ≤ 1000000) (w : World) (h : Cutter B X w cb gb s frm xs) :
    Calls Tryz.prog 53 #[.pointer (some ⟨cb, 0, none⟩), .int .i64 e, .int .i64 frm2] w fun en w' => en = .returned (.tuple #[]) ∧ Cutter B X w' cb gb s frm2 (xs ++ [cutL s.data.toList frm e]) ∧ Only (fun k => B ≤ k ∧ ¬ X k) w w' := by
  obtain ⟨i0, hi0, hz0, hz1, hz2⟩ := info_parts info9s
  obtain ⟨v, cap, hcap, hcb, hby, hgl, hown, hne, hnc, hng, hBc, hBg, hX⟩ := h
  obtain ⟨po, capv, rfl⟩ := ownsRow_slice hown
  have hcl := heap_lt hcb
  have c0 : w.cell? ⟨cb, 0, none⟩ = some (.slice (some ⟨gb, 0, none⟩) s.size cap) := cell_of hcb rfl
  have c1 : w.cell? ⟨cb, 1, none⟩ = some (.int .i64 frm) := cell_of hcb rfl
  have c2 : w.cell? ⟨cb, 2, none⟩ = some (.slice po xs.length capv) := cell_of hcb rfl
  have f0 := free_of hcb
  have kc : (convert 54 9 (.slice (if cap = frm then some ⟨gb, 0, none⟩ else some ⟨gb, frm, none⟩) (e - frm) (cap - frm))).run Tryz.prog w.drew = .ok (.string (ofB (cutL s.data.toList frm e))) w.drew := by
    by_cases hcf : cap = frm
    · rw [if_pos hcf, show e - frm = 0 - 0 by omega, piece_conv (w := w.drew) (fun j c hc => hby j c hc) 0 0 _ (Nat.le_refl _) (Nat.zero_le _), show e = frm by omega, cutL_same, cutL_same]
    · rw [if_neg hcf]
      exact piece_conv (w := w.drew) (fun j c hc => hby j c hc) frm e _ hfe hes
  have hfe' : (frm : Int) ≤ (e : Int) := by omega
  have hec' : (e : Int) ≤ (cap : Int) := by omega
  have HCB := hide hcb
  have HO := hide hown
  have HBy := hide hby
  have HX := hide hX
  clear hcb hown hby hX
  go_enter Tryz.func53, Tryz.ntmps53
  go_wp2_with fail
  have hn1 : some cb ≠ (Value.slice po xs.length capv).ownBlock := fun e => hnc e.symm
  go_region_law (refine step_append_lies _ (by rfl) _ _ _ (by rfl) B 9 i0 _ 1 16 Tryz.underlying23 hi0 hz0 hz1 hz2 rfl (by omega) (.slice po xs.length capv) xs.length (strsV xs) (by rfl) ((HO.out.alloc _).drew) ⟨w.heap.size, 0, none⟩ 1 1 [.string (ofB (cutL s.data.toList frm e))] (by rfl) (by rfl) (World.news_of_block (cs := #[.string (ofB (cutL s.data.toList frm e))]) (t := 9) (fr := (0, 0)) (new_at rfl _)) (by simp [Value.oneCell']) (by omega) (by unfold maxLen; omega) (by omega) (by simp; omega) (w.heap.size + 1) (by simp) ?_; intro gg cap2 w1 hown1 hgrow hat hlt; have hb1 : w1.heap[cb]? = some (.cells #[.slice (some ⟨gb, 0, none⟩) s.size cap, .int .i64 frm, .slice po xs.length capv] 106 (0, 0)) := (hgrow.block cb (by simp; omega) hn1).trans ((Below.heap_alloc _ _ _ hcl).trans HCB.out); have d1 : w1.cell? ⟨cb, 1, none⟩ = some (.int .i64 frm) := cell_of hb1 rfl; have d2 : w1.cell? ⟨cb, 2, none⟩ = some (.slice po xs.length capv) := cell_of hb1 rfl; have df := free_of hb1; have HB1 := hide hb1; clear hb1)
  all_goals
    have HA := hide hat
    have HG := hide hgrow
    have HO1 := hide hown1
    clear hat hgrow hown1
    go_wp2
    all_goals
      go_end0
      have hg1 : gg ≠ cb := by
        rintro rfl
        rcases HA.out with e | e
        · exact hnc e
        · omega
      have hg2 : gg ≠ gb := by
        rintro rfl
        rcases HA.out with e | e
        · exact hng e
        · omega
      refine ⟨rfl, ⟨.slice (some ⟨gg, 0, none⟩) (xs.length + 1) cap2, cap, hcap, ?_, ?_, ?_, ?_, hne, fun e => hg1 (Option.some.inj e), fun e => hg2 (Option.some.inj e), hBc, hBg, ?_⟩, ?_⟩
      · exact heap_setCell_same (heap_setCell_same HB1.out _) _
      · refine HBy.out.block ?_
        rw [Below.heap_setCell _ _ _ _ (fun e => hne e.symm), Below.heap_setCell _ _ _ _ (fun e => hne e.symm)]
        exact (HG.out.block gb (by simp; omega) (fun e => hng e.symm)).trans (Below.heap_alloc _ _ _ hgl)
      · have := HG.out.size
        simp at this
        simp [World.setCell]; omega
      · rw [strsV_snoc, show (xs ++ [cutL s.data.toList frm e]).length = xs.length + 1 by simp]
        exact ownsRow_of HO1.out (fun k hk => by cases hk; rw [Below.heap_setCell _ _ _ _ hg1, Below.heap_setCell _ _ _ _ hg1])
      · intro k hk
        obtain ⟨x1, x2, x3⟩ := HX.out k hk
        refine ⟨?_, x2, fun e => ?_⟩
        · have := HG.out.size
          simp at this
          simp [World.setCell]; omega
        · obtain rfl : gg = k := Option.some.inj e
          rcases HA.out with e | e
          · exact x3 e
          · omega
      · exact (((((Only.refl (fun k => B ≤ k ∧ ¬ X k) w).alloc _).drewN 1).grown HG.out (fun k hk _ => ⟨(HO.out.lt k hk).1, fun hx => (HX.out k hx).2.2 hk⟩)).setCell (p := ⟨cb, 2, none⟩) (fun _ => ⟨hBc, fun hx => (HX.out cb hx).2.1 rfl⟩) _).setCell (p := ⟨cb, 1, none⟩) (fun _ => ⟨hBc, fun hx => (HX.out cb hx).2.1 rfl⟩) _
end Go.Proofs.YtdbdbaepmdmnfaaGreatDoor
