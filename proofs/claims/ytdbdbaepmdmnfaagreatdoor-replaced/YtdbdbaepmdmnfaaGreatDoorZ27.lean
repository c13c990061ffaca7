import Derived.Test.YtdbdbaepmdmnfaaGreatDoorZ05
import Derived.Test.YtdbdbaepmdmnfaaGreatDoorZ06
import Derived.Deep.RegionLaw
import Derived.Deep.AppendLies
import Derived.Laws.BytesArg
import Derived.Lib.ConvBytes
import Derived.Deep.RegionWith
import Derived.Test.YtdbdbaepmdmnfaaGreatDoorZ26
import Derived.Deep.DeepCutAuto
import Derived.Deep.CutBlock
import Derived.Deep.LoopGhost
import Derived.BigQuiet
import Derived.Deep.QuietTactic
import Derived.Test.YtdbdbaepmdmnfaaGreatDoorProg
import Derived.Shelf.Bits.Mul64
import Derived.Laws.CopyOwn
import Derived.Laws.OwnMore
import Derived.Deep.OwnRows
import Derived.Deep.RegionHeld3
import Derived.Deep.CutRange
namespace Go.Proofs.YtdbdbaepmdmnfaaGreatDoor
open Go.RowKit
/-- A text's bytes lie in a block. -/
def BytesAt (w : World) (gb : Nat) (s : ByteArray) : Prop := ∀ (j : Nat) (c : UInt8), s.data.toList[j]? = some c → w.cell? ⟨gb, j, none⟩ = some (.int .u8 c.toNat)
/-- A new row of a text's bytes. -/
theorem bytes_new (s : ByteArray) (W : World) : ∃ W2 cap, (convert 9 54 (.string s)).run Tryz.prog W = .ok (.slice (some ⟨W.heap.size, 0, none⟩) s.size cap) W2 ∧ W2.heap.size = W.heap.size + 1 ∧ s.size ≤ cap ∧ Only (fun _ => False) W W2 ∧ BytesAt W2 W.heap.size s := by
  refine ⟨_, _, Lib.run_convert_string_bytes W 9 54 5 s Tryz.underlying9 Tryz.underlying54 Tryz.underlying5, Lib.bytesWorld_size W 5 s, grownCap_ge _ _ _ _, ⟨rfl, rfl, rfl, by rw [Lib.bytesWorld_size]; omega, fun k hk _ => Lib.bytesWorld_at_old W 5 s k hk⟩, fun j c hc => ?_⟩
  have hj := (List.getElem?_eq_some_iff.1 hc).1
  rw [Lib.bytesWorld_cell W 5 s j (by simpa using hj), List.getD_eq_getElem?_getD, hc]; rfl
theorem BytesAt.block {w w' : World} {gb : Nat} {s : ByteArray} (h : BytesAt w gb s) (hb : w'.heap[gb]? = w.heap[gb]?) : BytesAt w' gb s := fun j c hc => (World.cell?_of_block (w := w) (w' := w') (a := ⟨gb, j, none⟩) hb).trans (h j c hc)
theorem new_at {W : World} {n : Nat} (h : W.heap.size = n) (o : Obj) : (W.alloc o).heap[n]? = some o := by subst h; exact heap_alloc_new W o
set_option maxHeartbeats 4000000 in
theorem start_any (s : ByteArray) (w : World) :
    Calls Tryz.prog 50 #[.string s] w fun e w' => ∃ cap, s.size ≤ cap ∧ e = .returned (.agg #[.slice (some ⟨w.heap.size + 1, 0, none⟩) s.size cap, .int .i64 0, .slice (some ⟨w.heap.size + 2, 0, none⟩) 0 0]) ∧ BytesAt w' (w.heap.size + 1) s ∧ w'.heap[w.heap.size + 2]? = some (.cells #[] 9 (0, 0)) ∧ w'.heap.size = w.heap.size + 3 ∧ Only (fun _ => False) w w' := by
  obtain ⟨W2, cap, kc, hz, hcap, ho, hby⟩ := bytes_new s (w.alloc (.cells #[.slice none 0 0, .int .i64 0, .slice none 0 0] 106))
  have hb : W2.heap[w.heap.size]? = some (.cells #[.slice none 0 0, .int .i64 0, .slice none 0 0] 106 (0, 0)) := (ho.block _ (by simp) (fun e => e)).trans (heap_alloc_new w _)
  have hz2 : W2.heap.size = w.heap.size + 2 := by simpa using hz
  have hc0 : W2.cell? ⟨w.heap.size, 0, none⟩ = some (.slice none 0 0) := cell_of hb rfl
  have hc1 : W2.cell? ⟨w.heap.size, 1, none⟩ = some (.int .i64 0) := cell_of hb rfl
  have hc2 : W2.cell? ⟨w.heap.size, 2, none⟩ = some (.slice none 0 0) := cell_of hb rfl
  have hf : ∀ o, W2.frozen? ⟨w.heap.size, o, none⟩ = false := fun o => free_of hb o
  have kc' : (convert 9 54 (.string s)).run Tryz.prog (w.alloc (.cells #[.slice none 0 0, .int .i64 0, .slice none 0 0] 106)) = .ok (.slice (some ⟨w.heap.size + 1, 0, none⟩) s.size cap) W2 := by simpa using kc
  have HO := hide ho
  have hby2 : BytesAt W2 (w.heap.size + 1) s := by simpa using hby
  have HB := hide hby2
  clear kc hz hb ho hby hby2
  go_enter Tryz.func50, Tryz.ntmps50
  go_wp2
  refine bodyPost_ret (v := .agg #[.slice (some ⟨w.heap.size + 1, 0, none⟩) s.size cap, .int .i64 0, .slice (some ⟨w.heap.size + 2, 0, none⟩) 0 0]) (by simp [results, Tryz.results50, go_sem, hc0, hc1, hc2, hz2]) rfl ⟨cap, hcap, rfl, ?_, ?_, by simp [World.setCell, hz2], ?_⟩
  · refine HB.out.block ?_
    rw [Below.heap_alloc _ _ _ (by simp [World.setCell, hz2]), Below.heap_setCell _ _ _ _ (by simp), Below.heap_setCell _ _ _ _ (by simp), Below.heap_setCell _ _ _ _ (by simp)]
  · exact new_at (by simp [World.setCell, hz2]) _
  · exact ((((((Only.refl _ w).alloc _).trans HO.out (fun _ _ e => e)).setCell (p := ⟨w.heap.size, 0, none⟩) (fun h => absurd h (Nat.lt_irrefl _)) _).setCell (p := ⟨w.heap.size, 1, none⟩) (fun h => absurd h (Nat.lt_irrefl _)) _).setCell (p := ⟨w.heap.size, 2, none⟩) (fun h => absurd h (Nat.lt_irrefl _)) _).alloc _
/-- A cutter: the bytes of s lie in gb, it is the block cb itself; the next piece begins at frm, the pieces are xs. All this is new from block B on, and apart from the blocks of X. -/
def Cutter (B : Nat) (X : Nat → Prop) (w : World) (cb gb : Nat) (s : ByteArray) (frm : Nat) (xs : List (List UInt8)) : Prop := ∃ v cap,
  s.size ≤ cap ∧ w.heap[cb]? = some (.cells #[.slice (some ⟨gb, 0, none⟩) s.size cap, .int .i64 frm, v] 106 (0, 0)) ∧ BytesAt w gb s ∧ gb < w.heap.size ∧ w.ownsRow B 9 1 v xs.length (strsV xs) ∧ cb ≠ gb ∧ v.ownBlock ≠ some cb ∧ v.ownBlock ≠ some gb ∧ B ≤ cb ∧ B ≤ gb ∧ ∀ k, X k → k < w.heap.size ∧ k ≠ cb ∧ v.ownBlock ≠ some k
theorem info9s : (Tryz.prog.info? 9).map (fun i => (i.zero, i.size, i.bytes)) = some (some (.string ⟨#[]⟩), 1, 16) := by kernel_rfl
/-- A piece of the bytes, as a text. -/
theorem piece_conv {w : World} {gb : Nat} {s : ByteArray} (h : BytesAt w gb s) (a b cap : Nat) (hab : a ≤ b) (hb : b ≤ s.size) : (convert 54 9 (.slice (some ⟨gb, a, none⟩) (b - a) cap)).run Tryz.prog w = .ok (.string (ofB (cutL s.data.toList a b))) w := by
  have hl : (cutL s.data.toList a b).length = b - a := by
    unfold cutL
    rw [List.length_take, List.length_drop, len_eq]
    omega
  rw [run_convert_bytes_arg w 54 5 Tryz.underlying54 Tryz.underlying5 gb a (b - a) cap ((cutL s.data.toList a b).map fun b => (b.toNat : Int)) (by simp [hl]) ?_ 9 Tryz.underlying9]
  · congr 2
    unfold strOfNums ofB
    simp [Function.comp_def]
  · intro i hi
    obtain ⟨c, hc⟩ : ∃ c, (cutL s.data.toList a b)[i]? = some c := ⟨_, List.getElem?_eq_getElem (by omega)⟩
    have hc2 : s.data.toList[a + i]? = some c := by
      unfold cutL at hc
      rw [List.getElem?_take_of_lt (by omega), List.getElem?_drop] at hc
      exact hc
    rw [h (a + i) c hc2, List.getD_eq_getElem?_getD, List.getElem?_map, hc]; rfl
set_option maxRecDepth 100000 in
set_option maxHeartbeats 4000000 in
theorem cut_any (B : Nat) (X : Nat → Prop) (cb gb : Nat) (s : ByteArray) (frm e frm2 : Nat) (xs : List (List UInt8)) (hfe : frm ≤ e) (hes : e ≤ s.size) (hx : xs.length ≤ 1000000) (w : World) (h : Cutter B X w cb gb s frm xs) :
    Calls Tryz.prog 53 #[.pointer (some ⟨cb, 0, none⟩), .int .i64 e, .int .i64 frm2] w fun en w' => en = .returned (.tuple #[]) ∧ Cutter B X w' cb gb s frm2 (xs ++ [cutL s.data.toList frm e]) ∧ Only (fun k => B ≤ k ∧ ¬ X k) w w' := by
  obtain ⟨i0, hi0, hz0, hz1, hz2⟩ := info_parts info9s
  obtain ⟨v, cap, hcap, hcb, hby, hgl, hown, hne, hnc, hng, hBc, hBg, hX⟩ := h
  obtain ⟨po, capv, rfl⟩ := ownsRow_slice hown
  have hcl := heap_lt hcb
  have c0 : w.cell? ⟨cb, 0, none⟩ = some (.slice (some ⟨gb, 0, none⟩) s.size cap) := cell_of hcb rfl
  have c1 : w.cell? ⟨cb, 1, none⟩ = some (.int .i64 frm) := cell_of hcb rfl
  have c2 : w.cell? ⟨cb, 2, none⟩ = some (.slice po xs.length capv) := cell_of hcb rfl
  have f0 := free_of hcb
  have kc : (convert 54 9 (.slice (if cap = frm then some ⟨gb, 0, none⟩ else some ⟨gb, frm, none⟩) (e - frm) (cap - frm))).run Tryz.prog w.drew = .ok (.string (ofB (cutL s.data.toList frm e))) w.drew := by
    by_cases hcf : cap = frm
    · rw [if_pos hcf, show e - frm = 0 - 0 by omega, piece_conv (w := w.drew) (fun j c hc => hby j c hc) 0 0 _ (Nat.le_refl _) (Nat.zero_le _), show e = frm by omega, cutL_same, cutL_same]
    · rw [if_neg hcf]
      exact piece_conv (w := w.drew) (fun j c hc => hby j c hc) frm e _ hfe hes
  have hfe' : (frm : Int) ≤ (e : Int) := by omega
  have hec' : (e : Int) ≤ (cap : Int) := by omega
  have HCB := hide hcb
  have HO := hide hown
  have HBy := hide hby
  have HX := hide hX
  clear hcb hown hby hX
  go_enter Tryz.func53, Tryz.ntmps53
  go_wp2_with fail
  have hn1 : some cb ≠ (Value.slice po xs.length capv).ownBlock := fun e => hnc e.symm
  go_region_law (refine step_append_lies _ (by rfl) _ _ _ (by rfl) B 9 i0 _ 1 16 Tryz.underlying23 hi0 hz0 hz1 hz2 rfl (by omega) (.slice po xs.length capv) xs.length (strsV xs) (by rfl) ((HO.out.alloc _).drew) ⟨w.heap.size, 0, none⟩ 1 1 [.string (ofB (cutL s.data.toList frm e))] (by rfl) (by rfl) (World.news_of_block (cs := #[.string (ofB (cutL s.data.toList frm e))]) (t := 9) (fr := (0, 0)) (new_at rfl _)) (by simp [Value.oneCell']) (by omega) (by unfold maxLen; omega) (by omega) (by simp; omega) (w.heap.size + 1) (by simp) ?_; intro gg cap2 w1 hown1 hgrow hat hlt; have hb1 : w1.heap[cb]? = some (.cells #[.slice (some ⟨gb, 0, none⟩) s.size cap, .int .i64 frm, .slice po xs.length capv] 106 (0, 0)) := (hgrow.block cb (by simp; omega) hn1).trans ((Below.heap_alloc _ _ _ hcl).trans HCB.out); have d1 : w1.cell? ⟨cb, 1, none⟩ = some (.int .i64 frm) := cell_of hb1 rfl; have d2 : w1.cell? ⟨cb, 2, none⟩ = some (.slice po xs.length capv) := cell_of hb1 rfl; have df := free_of hb1; have HB1 := hide hb1; clear hb1)
  all_goals
    have HA := hide hat
    have HG := hide hgrow
    have HO1 := hide hown1
    clear hat hgrow hown1
    go_wp2
    all_goals
      go_end0
      have hg1 : gg ≠ cb := by
        rintro rfl
        rcases HA.out with e | e
        · exact hnc e
        · omega
      have hg2 : gg ≠ gb := by
        rintro rfl
        rcases HA.out with e | e
        · exact hng e
        · omega
      refine ⟨rfl, ⟨.slice (some ⟨gg, 0, none⟩) (xs.length + 1) cap2, cap, hcap, ?_, ?_, ?_, ?_, hne, fun e => hg1 (Option.some.inj e), fun e => hg2 (Option.some.inj e), hBc, hBg, ?_⟩, ?_⟩
      · exact heap_setCell_same (heap_setCell_same HB1.out _) _
      · refine HBy.out.block ?_
        rw [Below.heap_setCell _ _ _ _ (fun e => hne e.symm), Below.heap_setCell _ _ _ _ (fun e => hne e.symm)]
        exact (HG.out.block gb (by simp; omega) (fun e => hng e.symm)).trans (Below.heap_alloc _ _ _ hgl)
      · have := HG.out.size
        simp at this
        simp [World.setCell]; omega
      · rw [strsV_snoc, show (xs ++ [cutL s.data.toList frm e]).length = xs.length + 1 by simp]
        exact ownsRow_of HO1.out (fun k hk => by cases hk; rw [Below.heap_setCell _ _ _ _ hg1, Below.heap_setCell _ _ _ _ hg1])
      · intro k hk
        obtain ⟨x1, x2, x3⟩ := HX.out k hk
        refine ⟨?_, x2, fun e => ?_⟩
        · have := HG.out.size
          simp at this
          simp [World.setCell]; omega
        · obtain rfl : gg = k := Option.some.inj e
          rcases HA.out with e | e
          · exact x3 e
          · omega
      · exact (((((Only.refl (fun k => B ≤ k ∧ ¬ X k) w).alloc _).drewN 1).grown HG.out (fun k hk _ => ⟨(HO.out.lt k hk).1, fun hx => (HX.out k hx).2.2 hk⟩)).setCell (p := ⟨cb, 2, none⟩) (fun _ => ⟨hBc, fun hx => (HX.out cb hx).2.1 rfl⟩) _).setCell (p := ⟨cb, 1, none⟩) (fun _ => ⟨hBc, fun hx => (HX.out cb hx).2.1 rfl⟩) _
end Go.Proofs.YtdbdbaepmdmnfaaGreatDoor

namespace Go.Proofs.YtdbdbaepmdmnfaaGreatDoor
open Go.RowKit
theorem Cutter.own {B : Nat} {X : Nat → Prop} {w : World} {cb gb : Nat} {s : ByteArray} {frm : Nat} {xs : List (List UInt8)} (h : Cutter B X w cb gb s frm xs) : ∃ v cap, w.cell? ⟨cb, 0, none⟩ = some (.slice (some ⟨gb, 0, none⟩) s.size cap) ∧ w.cell? ⟨cb, 1, none⟩ = some (.int .i64 frm) ∧ w.cell? ⟨cb, 2, none⟩ = some v ∧ w.ownsRow B 9 1 v xs.length (strsV xs) := by
  obtain ⟨v, cap, _, hcb, _, _, hown, _⟩ := h
  exact ⟨v, cap, cell_of hcb rfl, cell_of hcb rfl, cell_of hcb rfl, hown⟩
theorem Cutter.drewN {B : Nat} {X : Nat → Prop} {w : World} {cb gb : Nat} {s : ByteArray} {frm : Nat} {xs : List (List UInt8)} (h : Cutter B X w cb gb s frm xs) (n : Nat) : Cutter B X (w.drewN n) cb gb s frm xs := h
set_option maxHeartbeats 4000000 in
theorem rest_none (B : Nat) (X : Nat → Prop) (cb gb : Nat) (s : ByteArray) (frm : Nat) (xs : List (List UInt8)) (hs : s.size = 0) (w : World) (h : Cutter B X w cb gb s frm xs) :
    Calls Tryz.prog 54 #[.pointer (some ⟨cb, 0, none⟩)] w fun en w' => ∃ v, en = .returned v ∧ w'.ownsRow B 9 1 v xs.length (strsV xs) ∧ w' = w := by
  obtain ⟨v, cap, c0, c1, c2, ho⟩ := h.own
  have HO := hide ho
  have hlt : ¬ (0 : Int) < (s.size : Int) := by omega
  clear h ho
  go_enter Tryz.func54, Tryz.ntmps54
  go_wp2
  go_ret
  exact ⟨_, rfl, HO.out, rfl⟩
set_option maxHeartbeats 4000000 in
theorem rest_some (B : Nat) (X : Nat → Prop) (cb gb : Nat) (s : ByteArray) (frm : Nat) (xs : List (List UInt8)) (hs : 0 < s.size) (hf : frm ≤ s.size) (hx : xs.length ≤ 1000000) (w : World) (h : Cutter B X w cb gb s frm xs) :
    Calls Tryz.prog 54 #[.pointer (some ⟨cb, 0, none⟩)] w fun en w' => ∃ v, en = .returned v ∧ w'.ownsRow B 9 1 v (xs.length + 1) (strsV (xs ++ [cutL s.data.toList frm s.size])) ∧ Only (fun k => B ≤ k ∧ ¬ X k) w w' := by
  obtain ⟨v, cap, c0, c1, c2, ho⟩ := h.own
  have HC : ∀ n, Hid (Calls Tryz.prog 53 #[.pointer (some ⟨cb, 0, none⟩), .int .i64 s.size, .int .i64 s.size] (w.drewN n) fun en w' => en = .returned (.tuple #[]) ∧ Cutter B X w' cb gb s s.size (xs ++ [cutL s.data.toList frm s.size]) ∧ Only (fun k => B ≤ k ∧ ¬ X k) (w.drewN n) w') := fun n => cut_any B X cb gb s frm s.size s.size xs hf (Nat.le_refl _) hx (w.drewN n) (h.drewN n)
  have hlt : (0 : Int) < (s.size : Int) := by omega
  clear h ho
  go_enter Tryz.func54, Tryz.ntmps54
  go_wp2
  go_region_with (go_at_call 53; refine ((HC 1).out).mono ?_; rintro en w' ⟨rfl, h1, h2⟩)
  all_goals
    obtain ⟨v2, cap2, d0, d1, d2, ho2⟩ := h1.own
    have HO := hide ho2
    have HO2 := hide h2
    clear h1 h2 ho2
    go_wp2
    go_ret
    exact ⟨_, rfl, by simpa using HO.out, ((Only.refl _ w).drewN 1).trans HO2.out (fun _ _ e => e)⟩
end Go.Proofs.YtdbdbaepmdmnfaaGreatDoor

namespace Go.Proofs.YtdbdbaepmdmnfaaGreatDoor
open Go.RowKit
/-- A cutter that was just made. -/
theorem cutter_new {X : Nat → Prop} {w w1 : World} {s : ByteArray} {cap : Nat} (hcap : s.size ≤ cap) (hby : BytesAt w1 (w.heap.size + 1) s) (hrow : w1.heap[w.heap.size + 2]? = some (.cells #[] 9 (0, 0))) (hz : w1.heap.size = w.heap.size + 3) (hX : ∀ k, X k → k < w.heap.size) :
    Cutter w.heap.size X (w1.alloc (.cells #[.slice (some ⟨w.heap.size + 1, 0, none⟩) s.size cap, .int .i64 0, .slice (some ⟨w.heap.size + 2, 0, none⟩) 0 0] 106)) (w.heap.size + 3) (w.heap.size + 1) s 0 [] := by
  refine ⟨_, cap, hcap, new_at hz _, hby.block (Below.heap_alloc _ _ _ (by omega)), by simp; omega, ⟨rfl, Or.inr ⟨w.heap.size + 2, 0, #[], rfl, by omega, (Below.heap_alloc _ _ _ (by omega)).trans hrow, Nat.le_refl _, by unfold maxLen; omega, rfl, rfl⟩⟩, by omega, fun e => ?_, fun e => ?_, by omega, by omega, fun k hk => ?_⟩
  · have := Option.some.inj e
    simp at this
  · have := Option.some.inj e
    simp at this
  · have := hX k hk
    refine ⟨by simp; omega, by omega, fun e => ?_⟩
    have := Option.some.inj e
    simp at this; omega
end Go.Proofs.YtdbdbaepmdmnfaaGreatDoor

namespace Go.Proofs.YtdbdbaepmdmnfaaGreatDoor
open Go.RowKit
theorem strs_eq {w : World} {B : Nat} {v : Value} {L M : List (List UInt8)} {n : Nat} (h : w.ownsRow B 9 1 v n (strsV L)) (e : L = M) (hn : n = M.length) : w.ownsRow B 9 1 v M.length (strsV M) := by subst e; subst hn; exact h
set_option maxRecDepth 100000 in
set_option maxHeartbeats 4000000 in
theorem bytes_any (s : ByteArray) (h5 : s.size ≤ 500) (c : UInt8) (w : World) :
    Calls Tryz.prog 38 #[.string s, .int .u8 c.toNat] w fun en w' => ∃ v, en = .returned v ∧ w'.ownsRow w.heap.size 9 1 v (if s.data.toList = [] then [] else splitB c [] s.data.toList).length (strsV (if s.data.toList = [] then [] else splitB c [] s.data.toList)) ∧ Only (fun _ => False) w w' := by
  have hlen : s.data.toList.length = s.size := len_eq s
  obtain ⟨L, HL⟩ : ∃ L, Hid (L = if s.data.toList = [] then [] else splitB c [] s.data.toList) := ⟨_, rfl⟩
  rw [← HL.out]
  go_enter Tryz.func38, Tryz.ntmps38
  go_wp2_with fail
  refine (start_any s w).mono ?_
  rintro en w1 ⟨cap, hcap, rfl, hby, hrow, hz, ho⟩
  have HC0 := hide (cutter_new (X := fun _ => False) hcap hby hrow hz (fun _ h => h.elim))
  have HO0 := hide (ho.alloc (.cells #[.slice (some ⟨w.heap.size + 1, 0, none⟩) s.size cap, .int .i64 0, .slice (some ⟨w.heap.size + 2, 0, none⟩) 0 0] 106))
  clear hby hrow ho
  go_wp2
  go_loopw [11] (fun i wr => ∃ k frm xs, k ≤ s.size ∧ frm ≤ k ∧ i = .int .i64 (k : Nat) ∧ xs.length ≤ k ∧ splitB c [] s.data.toList = xs ++ splitB c (cutL s.data.toList frm k) (s.data.toList.drop k) ∧ Cutter w.heap.size (fun _ => False) wr (w.heap.size + 3) (w.heap.size + 1) s frm xs ∧ Only (fun _ => False) w wr) (fun i _ => s.size - (intOf i).toNat)
  case atStart => exact ⟨0, 0, [], Nat.zero_le _, Nat.le_refl _, rfl, Nat.le_refl _, rfl, HC0.out, HO0.out⟩
  case round =>
    obtain ⟨k, frm, xs, hk, hfk, rfl, hxl, hsp, hc, ho⟩ := hrel
    have HS := hide hsp
    have HO := hide ho
    by_cases hlt : k < s.size
    · have hli : (k : Int) < (s.size : Int) := by omega
      have hget := get_of_lt s k hlt
      by_cases heq : s[k] = c
      · have hbe : ((s[k].toNat : Int) == (c.toNat : Int)) = true := by rw [heq]; simp
        have HS2 : Hid (splitB c [] s.data.toList = (xs ++ [cutL s.data.toList frm k]) ++ splitB c (cutL s.data.toList (k + 1) (k + 1)) (s.data.toList.drop (k + 1))) := by
          show _ = _
          rw [HS.out, splitB_hit (by rw [hget, heq]), cutL_same]; simp
        have HC := hide (cut_any w.heap.size (fun _ => False) (w.heap.size + 3) (w.heap.size + 1) s frm k (k + 1) xs hfk hk (by omega) wr hc)
        clear hc ho hsp hget heq
        go_wp2_with (go_at_call 53; refine (HC.out).mono ?_; rintro en w2 ⟨rfl, h1, h2⟩)
        go_roundw
        case rel => exact ⟨k + 1, k + 1, _, by omega, by omega, by go_num, by simp; omega, HS2.out, h1, HO.out.trans h2 (fun i hi hB => by have := hB.1; omega)⟩
        case measure => simp [intOf]; omega
      · have hbe : ((s[k].toNat : Int) == (c.toNat : Int)) = false := by
          rw [beq_eq_false_iff_ne]
          intro e
          exact heq (UInt8.toNat_inj.1 (by omega))
        have HS2 : Hid (splitB c [] s.data.toList = xs ++ splitB c (cutL s.data.toList frm (k + 1)) (s.data.toList.drop (k + 1))) := by
          show _ = _
          rw [HS.out, splitB_pass hfk hget heq]
        have HC := hide hc
        clear hc ho hsp hget heq
        go_wp2
        go_roundw
        case rel => exact ⟨k + 1, frm, xs, by omega, by omega, by go_num, by omega, HS2.out, HC.out, HO.out⟩
        case measure => simp [intOf]; omega
    · have hli : ¬ (k : Int) < (s.size : Int) := by omega
      obtain rfl : k = s.size := by omega
      by_cases hs0 : s.size = 0
      · have he : s.data.toList = [] := List.eq_nil_of_length_eq_zero (by omega)
        have hx0 : xs = [] := List.eq_nil_of_length_eq_zero (by omega)
        have HE : Hid (xs = L) := by show xs = L; rw [HL.out, if_pos he, hx0]
        have HR := hide (rest_none w.heap.size (fun _ => False) (w.heap.size + 3) (w.heap.size + 1) s frm xs hs0 wr hc)
        clear hc ho hsp he hx0
        go_wp2_with (go_at_call 54; refine (HR.out).mono ?_; rintro en w2 ⟨v, rfl, h1, rfl⟩)
        go_ret
        exact ⟨_, rfl, strs_eq h1 HE.out (by rw [HE.out]), HO.out⟩
      · have he : s.data.toList ≠ [] := fun e => by rw [e] at hlen; simp at hlen; omega
        have HE : Hid (xs ++ [cutL s.data.toList frm s.size] = L) := by
          show _ = L
          rw [HL.out, if_neg he, HS.out, ← hlen, splitB_end]
        have HR := hide (rest_some w.heap.size (fun _ => False) (w.heap.size + 3) (w.heap.size + 1) s frm xs (by omega) hfk (by omega) wr hc)
        clear hc ho hsp he
        go_wp2_with (go_at_call 54; refine (HR.out).mono ?_; rintro en w2 ⟨v, rfl, h1, h2⟩)
        go_ret
        exact ⟨_, rfl, strs_eq h1 HE.out (by rw [← HE.out]; simp), HO.out.trans h2 (fun i hi hB => by have := hB.1; omega)⟩
end Go.Proofs.YtdbdbaepmdmnfaaGreatDoor

namespace Go.Proofs.YtdbdbaepmdmnfaaGreatDoor
open Go.RowKit
theorem Cutter.free {B : Nat} {X : Nat → Prop} {w : World} {cb gb : Nat} {s : ByteArray} {frm : Nat} {xs : List (List UInt8)} (h : Cutter B X w cb gb s frm xs) (o : Nat) : w.frozen? ⟨cb, o, none⟩ = false := by
  obtain ⟨v, cap, h1, h2, _⟩ := h
  exact free_of h2 o
end Go.Proofs.YtdbdbaepmdmnfaaGreatDoor

namespace Go.Proofs.YtdbdbaepmdmnfaaGreatDoor
open Go.RowKit
def RunPost (w : World) (sb rb lb : Nat) (Q : List St) (t : List UInt8) (last : Nat) (e : Ending) (w' : World) : Prop :=
  e = .returned (.tuple #[]) ∧ ∃ L, AllLen Q t last L ∧ w'.heap[lb]? = some (.cells (zints L).toArray 3 (0, 0)) ∧ w'.cell? ⟨sb, 3, none⟩ = some (.slice (some ⟨lb, 0, none⟩) L.length L.length) ∧ Only (fun k => k = sb ∨ (k = rb ∨ k = lb)) w w'
set_option maxRecDepth 100000 in
set_option maxHeartbeats 4000000 in
theorem run_any (sb rb lb bs : Nat) (vS : Value) (Q : List St) (s : ByteArray) (ls : List Int) (rv : List Nat) (last : Nat)
    (hwf : WfQ Q) (hu : OneDone Q) (hfst : last < Q.length) (h6 : s.size ≤ 65000) (hQ : Q.length ≤ 1000000) (w : World) (h : Srch w sb rb lb bs vS Q ls s.size rv (.slice none 0 0) [] none) (hls : ls.length = s.size + 1) (hlm : ∀ k, k < s.size → ls[k]? = some (-1)) (hrv : ∀ (k x : Nat), rv[k]? = some x → x = 0) (hbw : bs ≤ w.heap.size) :
    Calls Tryz.prog 89 #[.pointer (some ⟨sb, 0, none⟩), .int .i64 last, .string s] w (RunPost w sb rb lb Q s.data.toList last) := by
  obtain ⟨G, capS, rfl⟩ := h.pat.form (by omega)
  have hGs : G ≠ sb ∧ G ≠ rb ∧ G ≠ lb ∧ G < bs := h.ss G rfl
  have hrs := h.rs
  have hsl0 := heap_lt h.blk
  have hts : s.data.toList.length = s.size := len_eq s
  have HWf := hide hwf
  have HU := hide hu
  have HI0 : Hid (RunI w w sb rb lb bs (.slice (some ⟨G, 0, none⟩) Q.length capS) Q s.data.toList ls last s.size (s.size + 1) (.slice none 0 0) (.slice none 0 0) [] none) := by
    have h1 := h
    rw [← hts] at h1
    have := RunI.begin (last := last) h1 hrv
    rwa [hts] at this
  have HL0 : Hid (LsOK Q s.data.toList last s.size ls) := ⟨by rw [hts]; exact hls, fun k h1 h2 => by omega, hlm⟩
  clear h hrv hwf hu hlm hls
  go_enter Tryz.func89, Tryz.ntmps89
  go_wp2_with fail
  go_loopg [6, 7, 8] s.size (fun g s6 s7 s8 wr => ∃ (p : Nat) (O : List (Nat × Nat)) (best : Option Nat) (ls : List Int), s8 = .int .i64 p ∧ g = p ∧ p ≤ s.size ∧ LsOK Q s.data.toList last p ls ∧ RunI w wr sb rb lb bs (.slice (some ⟨G, 0, none⟩) Q.length capS) Q s.data.toList ls last p (p + 1) s6 s7 O best)
  case atStart => exact ⟨s.size, [], none, ls, rfl, rfl, Nat.le_refl _, HL0.out, HI0.out⟩
  case round =>
    clear HI0 HL0
    obtain ⟨p, O, best, ls, e8, hg, hps, hlok, hI⟩ := hrel
    subst e8
    obtain ⟨rv1, vK, stk, N, hS1, hO1, hN1, hap, hR, hrv1, hol, ho, mK, mO, mN⟩ := hI
    obtain ⟨poO, capO, e6⟩ := ownsRow_slice hO1
    subst e6
    obtain ⟨poN, capN, e7⟩ := ownsRow_slice hN1
    subst e7
    have HS1 := hide hS1
    have HO1 := hide hO1
    have HN1 := hide hN1
    have HAp := hide hap
    have HR := hide hR
    have HRv1 := hide hrv1
    have HOn := hide ho
    have HmK := hide mK
    have HmO := hide mO
    have HmN := hide mN
    have Hg := hide hg
    have HLk := hide hlok
    clear hS1 hO1 hN1 hap hR hrv1 ho mK mO mN hg hlok
    go_wp2_with fail
    refine (follow_any sb rb lb bs _ Q s.data.toList ls rv1 vK stk best _ O last p p HWf.out hfst HLk.out.1 (by omega) (by omega) (by omega) hQ wr HS1.out HO1.out HR.out.closed hol (Nat.le_trans hbw HOn.out.size)).mono ?_
    rintro e w2 ⟨vO2, vK2, rv2, O2, best2, rfl, hS2, hO2, hF2, hol2, hrv2, ho2, mk2, mo2⟩
    obtain ⟨f1, f2, f3, f4, f5⟩ := follow_frame HS1.out HN1.out HAp.out ho2 hO2 mk2 mo2 HOn.out HmK.out HmO.out
    obtain ⟨poO2, capO2, e6⟩ := ownsRow_slice hO2
    subst e6
    have HR2 : Hid (RInv Q s.data.toList last p p (fun q => rv2[q]? = some (p + 1)) O2 best2) := HR.out.start HU.out (by omega) hF2
    have HI2 : Hid (RunI w w2 sb rb lb bs (.slice (some ⟨G, 0, none⟩) Q.length capS) Q s.data.toList ls last p p (.slice poO2 O2.length capO2) (.slice poN N.length capN) O2 best2) := ⟨rv2, vK2, [], N, hS2, hO2, f1, f2, HR2.out, (fun k x hx => by rcases hrv2 k x hx with h | h; omega; exact HRv1.out k x h), hol2, f3, f4, f5, HmN.out⟩
    have HOn2 := hide f3
    have HN2 := hide f1
    have c3 : w2.cell? ⟨sb, 3, none⟩ = some (.slice (some ⟨lb, 0, none⟩) ls.length ls.length) := cell_of hS2.blk rfl
    have HLn := hide hS2.lns
    have hO2l : O2.length ≤ 1000000 := by omega
    clear hS2 hO2 hF2 hrv2 ho2 mk2 mo2 f1 f2 f3 f4 f5 HS1 HO1 HN1 HAp HR HRv1 HOn HmK HmO HmN hol hol2
    by_cases hp0 : p = 0
    · subst hp0
      have HAll := hide (HLk.out.all HR2.out.lenAt)
      have HC3 := hide c3
      go_wp2
      go_end0
      exact ⟨rfl, _, HAll.out, HLn.out, by rw [List.length_set]; exact HC3.out, HOn2.out⟩
    · obtain ⟨p, rfl⟩ : ∃ p', p = p' + 1 := ⟨p - 1, by omega⟩
      have hpb : (((p + 1 : Nat) : Int) == 0) = false := by rw [beq_eq_false_iff_ne]; omega
      have hpl : p < s.size := by omega
      have HLk2 := hide (HLk.out.next (by omega) HR2.out.lenAt)
      go_wp2_with fail
      have HIn := hide (InI.begin HI2.out HLk.out)
      obtain ⟨ls2, HLe⟩ : ∃ ls2, Hid (ls.set (p + 1) (lenV (p + 1) best2) = ls2) := ⟨_, rfl⟩
      rw [HLe.out] at HIn HLk2
      clear HI2 HN2 HLn c3 HOn2 HLe
      go_loopg [7, 29] O2.length (fun g s7 s29 wx => ∃ (i : Nat) (b3 : Option Nat), s29 = .int .i64 i ∧ g = O2.length - i ∧ i ≤ O2.length ∧ InI w wx sb rb lb bs (.slice (some ⟨G, 0, none⟩) Q.length capS) Q s.data.toList ls2 p (.slice poO2 O2.length capO2) O2 i s7 b3)
      case atStart => exact ⟨0, none, rfl, rfl, Nat.zero_le _, HIn.out⟩
      case round =>
        clear HIn
        obtain ⟨i, b3, e29, hg, hi, hI⟩ := hrel
        subst e29
        have HI := hide hI
        have Hgi := hide hg
        clear hI hg
        by_cases hil : i < O2.length
        · have hcond : (i : Int) < (O2.length : Int) := by omega
          obtain ⟨⟨q, b⟩, hx⟩ : ∃ x, O2[i]? = some x := ⟨O2[i], List.getElem?_eq_getElem hil⟩
          obtain ⟨rv3, vK3, stk3, N3, hS3, hO3, hN3, hap3, hP3, hrv3, hol3, ho3, mK3, mO3, mN3⟩ := id HI.out
          obtain ⟨GO, capO', eO⟩ := own_form hO3 (by omega)
          injection eO with a1 a2 a3
          subst a1
          clear a2 a3
          obtain ⟨t0, t1⟩ := thr_cell hO3 hx
          have hGO : bs ≤ GO ∧ GO < wr.heap.size := hO3.lt GO rfl
          obtain ⟨hTk, hb1, hb2⟩ := HR2.out.facts.2 (q, b) (List.mem_of_getElem? hx)
          have hb2' : b ≤ s.size := by rw [← hts]; exact hb2
          obtain ⟨⟨kd, S, nx, ot⟩, hq, hk⟩ := hTk
          have hk' : kd = 0 := hk
          subst hk'
          have hq' : Q[q]? = some ⟨0, S, nx, ot⟩ := hq
          have hql : q < Q.length := (List.getElem?_eq_some_iff.1 hq').1
          have hwq := HWf.out _ (List.mem_of_getElem? hq')
          have hnx : nx < Q.length := hwq.2.1
          obtain ⟨ys, hys, hgc⟩ := hS3.pat.cells hq'
          have hys' : SetIs ys S := hys
          have c0 : wr.cell? ⟨sb, 0, none⟩ = some (.slice (some ⟨G, 0, none⟩) Q.length capS) := cell_of hS3.blk rfl
          have g5 : wr.cell? ⟨G, q * 7 + 5, none⟩ = some (.int .i64 nx) := hgc 5 _ rfl
          have HSA : ∀ o n, Hid (SetAt ((wr.alloc o).drewN n) G (q * 7 + 1) ys) := fun o n k hk => by
            have h1 : wr.cell? ⟨G, q * 7 + (k + 1), none⟩ = some (.int .u64 (ys k)) := hgc (k + 1) _ (by match k, hk with | 0, _ => rfl | 1, _ => rfl | 2, _ => rfl | 3, _ => rfl)
            have h2 : ((wr.alloc o).drewN n).cell? ⟨G, q * 7 + (k + 1), none⟩ = wr.cell? ⟨G, q * 7 + (k + 1), none⟩ := World.cell?_of_block (a := ⟨G, q * 7 + (k + 1), none⟩) (Below.heap_alloc _ _ _ (World.block_lt_of_cell? wr _ h1))
            rw [show q * 7 + 1 + k = q * 7 + (k + 1) by omega, h2]
            exact h1
          have HYs := hide hys'
          have HX := hide hx
          have HQ := hide hq'
          have HP3 := hide hP3
          have HG := hide (get_of_lt s p hpl)
          have hsl := heap_lt hS3.blk
          have hGl : G < wr.heap.size := World.block_lt_of_cell? wr _ g5
          have n1 : G ≠ sb := by omega
          have hpl' : (p : Int) < (s.size : Int) := by omega
          have HS3 := hide hS3
          have HO3 := hide hO3
          have HN3 := hide hN3
          have HAp3 := hide hap3
          have HRv3 := hide hrv3
          have HOl3 := hide hol3
          have HOn3 := hide ho3
          have HmK3 := hide mK3
          have HmO3 := hide mO3
          have HmN3 := hide mN3
          clear hS3 hO3 hN3 hap3 hP3 hrv3 hol3 ho3 mK3 mO3 mN3 hgc hys hys' hwq hq hq' hx hk hb2
          cases hSc : S s[p]
          · have HHas : ∀ n, Hid (Calls Tryz.prog 125 #[.pointer (some ⟨G, q * 7 + 1, none⟩), .int .u8 s[p].toNat] ((wr.alloc (.cells #[.int .i64 q, .int .i64 b] 248)).drewN n) fun e w' => e = .returned (.bool false) ∧ w' = (wr.alloc (.cells #[.int .i64 q, .int .i64 b] 248)).drewN n) := fun n => by
              have := has_any G (q * 7 + 1) ys S HYs.out s[p] _ (HSA (.cells #[.int .i64 q, .int .i64 b] 248) n).out
              rw [hSc] at this
              exact this
            have HSc := hide hSc
            clear hSc
            go_wp2_with fail
            go_quiet (fail)
            go_wp2_with fail
            go_quiet (first | (go_at_call 125; exact (HHas _).out.mono (fun _ _ h => ⟨h.1, _, h.2⟩)))
            go_wp2
            go_roundg (O2.length - (i + 1))
            case measure => have := Hgi.out; omega
            case rel => exact ⟨i + 1, b3, by go_num, rfl, by omega, (HI.out.alloc (.cells #[.int .i64 q, .int .i64 b] 248) _).pass HX.out HQ.out rfl HG.out HSc.out⟩
          · have HHas : ∀ n, Hid (Calls Tryz.prog 125 #[.pointer (some ⟨G, q * 7 + 1, none⟩), .int .u8 s[p].toNat] ((wr.alloc (.cells #[.int .i64 q, .int .i64 b] 248)).drewN n) fun e w' => e = .returned (.bool true) ∧ w' = (wr.alloc (.cells #[.int .i64 q, .int .i64 b] 248)).drewN n) := fun n => by
              have := has_any G (q * 7 + 1) ys S HYs.out s[p] _ (HSA (.cells #[.int .i64 q, .int .i64 b] 248) n).out
              rw [hSc] at this
              exact this
            have HSc := hide hSc
            clear hSc
            have HFo : ∀ n, Hid (Calls Tryz.prog 124 #[.pointer (some ⟨sb, 0, none⟩), u7, .agg #[.int .i64 nx, .int .i64 b], .int .i64 (IntKind.i64.wrap (p : Int))] ((wr.alloc (.cells #[.int .i64 q, .int .i64 b] 248)).drewN n) fun e w2 => ∃ vN4 b4, e = .returned vN4 ∧ InI w w2 sb rb lb bs (.slice (some ⟨G, 0, none⟩) Q.length capS) Q s.data.toList ls2 p (.slice (some ⟨GO, 0, none⟩) O2.length capO2) O2 (i + 1) vN4 b4) := fun n => by
              have hoW : Only (fun _ => False) wr ((wr.alloc (.cells #[.int .i64 q, .int .i64 b] 248)).drewN n) := ((Only.refl _ wr).alloc _).drewN n
              have hSW := HS3.out.only hoW (fun e => e) (fun e => e) (fun e => e) (fun _ _ e => e) (fun _ _ e => e)
              have hOW := ownsRow_of HO3.out (fun k hk => hoW.block k (HO3.out.lt k hk).2 (fun e => e))
              have hNW := ownsRow_of HN3.out (fun k hk => hoW.block k (HN3.out.lt k hk).2 (fun e => e))
              have hst := sorted_at HR2.out.facts.1 HX.out
              have hwp : IntKind.i64.wrap (p : Int) = (p : Int) := by rw [IntKind.wrap_i64]; omega
              rw [hwp]
              refine (follow_any sb rb lb bs _ Q s.data.toList ls2 rv3 vK3 stk3 b3 u7 N3 nx b p HWf.out hnx HLk2.out.1 (by omega) (by omega) (by omega) hQ _ hSW hNW (fun a a' h1 h2 => HP3.out.closed a a' h1 h2) HOl3.out (Nat.le_trans hbw (Nat.le_trans HOn3.out.size hoW.size))).mono ?_
              intro e w2 hf
              exact InI.step HU.out hSW hOW HAp3.out HP3.out HRv3.out (HOn3.out.trans hoW (fun _ _ e => e.elim)) HmK3.out HmO3.out HmN3.out HX.out HQ.out rfl HG.out HSc.out hst hf
            go_wp2_with fail
            go_quiet (fail)
            go_wp2_with fail
            go_quiet (first | (go_at_call 125; exact (HHas _).out.mono (fun _ _ h => ⟨h.1, _, h.2⟩)))
            go_wp2_with fail
            go_region_with (go_at_call 124; refine (HFo _).out.mono ?_; rintro e w2 ⟨vN4, b4, rfl, hI4⟩; have HI4 := hide hI4; clear hI4)
            all_goals
              go_wp2
              go_roundg (O2.length - (i + 1))
              case measure => have := Hgi.out; omega
              case rel => exact ⟨i + 1, b4, by go_num, rfl, by omega, HI4.out⟩
        · have hie : i = O2.length := by omega
          subst hie
          have hcond : ¬ ((O2.length : Int) < (O2.length : Int)) := by omega
          obtain ⟨N', hN'⟩ := HI.out.next HR2.out
          have HN' := hide hN'
          clear hN'
          go_wp2
          go_roundg p
          case measure => have := Hg.out; omega
          case rel => exact ⟨p, N', b3, ls2, by go_num, rfl, by omega, HLk2.out, HN'.out⟩
end Go.Proofs.YtdbdbaepmdmnfaaGreatDoor

namespace Go.Proofs
open Go.Shelf
def Tryz.mlays212_ren : Go.Shelf.Ren := ⟨fun | 212 => 123 | 263 => 159 | 264 => 160 | n => n, fun | 46 => 241 | 51 => 327 | 146 => 328 | 53 => 113 | 148 => 330 | n => n, fun | n => n⟩
theorem Tryz.mlays212 : Go.Proofs.Lays.n212 Tryz.prog Tryz.mlays212_ren := {
  mixed := by kernel_rfl
  f212 := Tryz.func123.trans (congrArg some (by kernel_rfl))
  f263 := Tryz.func159.trans (congrArg some (by kernel_rfl))
  f264 := Tryz.func160.trans (congrArg some (by kernel_rfl))
  t46 := Tryz.underlying241
  a46 := Tryz.isAgg241
  z46 := Tryz.sizeOf241
  v46 := Tryz.zeroValue241
  t51 := Tryz.underlying327
  a51 := Tryz.isAgg327
  z51 := Tryz.sizeOf327
  v51 := Tryz.zeroValue327
  t53 := Tryz.underlying113
  a53 := Tryz.isAgg113
  z53 := Tryz.sizeOf113
  v53 := Tryz.zeroValue113
  t146 := Tryz.underlying328
  a146 := Tryz.isAgg328
  z146 := Tryz.sizeOf328
  v146 := Tryz.zeroValue328
  t148 := Tryz.underlying330
  a148 := Tryz.isAgg330
  z148 := Tryz.sizeOf330
  v148 := Tryz.zeroValue330 }
open Go.RowKit Go.Lib in
theorem Tryz.mbits_Mul (x y : Nat) (hx : x < 18446744073709551616) (hy : y < 18446744073709551616) (w : World) :
    Calls Tryz.prog 123 #[.int .u64 x, .int .u64 y] w fun e w' => e = .returned (.tuple #[.int .u64 ((x * y / 18446744073709551616 : Nat) : Int), .int .u64 ((x * y % 18446744073709551616 : Nat) : Int)]) ∧ w' = w := Any.bits_Mul Tryz.mlays212 x y hx hy w
end Go.Proofs
namespace Go.Proofs.YtdbdbaepmdmnfaaGreatDoor
open Go.RowKit
/-- A row of N whole numbers, the first k of them -1, the others 0. -/
def half (k N : Nat) : List Value := List.replicate k (.int .i64 (-1)) ++ List.replicate (N - k) (.int .i64 0)
theorem half_len {k N : Nat} (h : k ≤ N) : (half k N).length = N := by simp [half]; omega
theorem half_zero (N : Nat) : madeCells #[.int .i64 0] N = (half 0 N).toArray := by
  apply Array.ext'
  rw [toList_madeCells_one]
  simp [half]
theorem half_splice {k m N : Nat} (h : k + m ≤ N) : splice (half k N) k (List.replicate m (.int .i64 (-1))) = half (k + m) N := by
  unfold splice half
  rw [List.take_append_of_le_length (by simp), List.take_of_length_le (by simp), List.length_replicate, List.drop_append, List.drop_of_length_le (by simp), List.nil_append, List.length_replicate, List.drop_replicate, ← List.append_assoc, List.replicate_append_replicate]
  congr 2
  omega
theorem half_get {k N j : Nat} {v : Value} (h : (List.replicate k (Value.int .i64 (-1)))[j]? = some v) : (half k N)[j]? = some v := by
  unfold half
  rw [List.getElem?_append_left (List.getElem?_eq_some_iff.1 h).1]; exact h
theorem add_at (g o j : Nat) : (⟨g, o, none⟩ : Addr).add j = ⟨g, o + j, none⟩ := by unfold Addr.add; split <;> simp_all
theorem minus_one (m : Nat) : ∀ v ∈ List.replicate m (Value.int .i64 (-1)), v.oneCell' = true := by
  intro v hv
  rw [(List.mem_replicate.1 hv).2]; rfl
theorem int_size : (Tryz.prog.info? 3).map (·.size) = some 1 := by kernel_rfl
/-- Some of the row's own cells are copied behind them. -/
theorem copy_half {w W : World} {g k m N : Nat} {p : Addr} {dc sl sc : Nat} (hg : W.heap[g]? = some (.cells (half k N).toArray 3 (0, 0))) (hk : k + m ≤ N) (hm : m = Nat.min sl (N - k)) (hsrc : ∀ j, j < m → W.cell? (p.add j) = some (.int .i64 (-1))) (B : Nat) (hB : Below B w W) (hBg : B ≤ g) :
    ∃ W', (Builtin.copy_ #[126, 126] 3 #[.slice (some ⟨g, k, none⟩) (N - k) dc, .slice (some p) sl sc]).run Tryz.prog W = .ok (goInt m) W' ∧ Hid (W'.heap[g]? = some (.cells (half (k + m) N).toArray 3 (0, 0))) ∧ Hid (Below B w W') := by
  have h := run_copy_row (P := Tryz.prog) W 126 126 3 3 g k (N - k) dc p sl sc (half k N).toArray 3 (List.replicate m (.int .i64 (-1))) Tryz.underlying126 int_size hg (by rw [List.length_replicate]; exact hm) (fun j v hj => by
    have hl := (List.getElem?_eq_some_iff.1 hj).1
    rw [List.length_replicate] at hl
    rw [List.getElem?_replicate, if_pos hl] at hj
    cases hj
    exact hsrc j hl) (by rw [List.length_replicate]; show k + m ≤ (half k N).length; rw [half_len (by omega)]; exact hk) (minus_one m)
  rw [List.length_replicate] at h
  refine ⟨_, h, ?_, below_setRow hB hBg _⟩
  refine (setRow_heap W g _ _ 3 (0, 0) hg).trans ?_
  rw [← half_splice hk]
  unfold splice
  rw [List.length_replicate, List.append_assoc]
set_option maxRecDepth 100000 in
set_option maxHeartbeats 4000000 in
theorem repeat_any (xb N : Nat) (h1 : 1 ≤ N) (hN : N ≤ 100000) (w : World) (hx : w.cell? ⟨xb, 0, none⟩ = some (.int .i64 (-1))) :
    Calls Tryz.prog 88 #[.slice (some ⟨xb, 0, none⟩) 1 1, .int .i64 N] w fun e w' => Below w.heap.size w w' ∧ e = .returned (.slice (some ⟨w.heap.size, 0, none⟩) N N) ∧ w'.heap[w.heap.size]? = some (.cells (half N N).toArray 3 (0, 0)) := by
  have hMul := Tryz.mbits_Mul 1 N (by omega) (by omega) w
  rw [Nat.one_mul, Nat.div_eq_of_lt (by omega : N < 18446744073709551616), Nat.mod_eq_of_lt (by omega : N < 18446744073709551616)] at hMul
  have hmk := run_make_row' (P := Tryz.prog) 126 3 (.int .i64 0) 8 Tryz.underlying126 info3 rfl .i64 .i64 N (by omega) (by omega)
  have hxl := World.block_lt_of_cell? w _ hx
  have hW : (w.alloc (.cells (madeCells #[.int .i64 0] N) 3)).heap[w.heap.size]? = some (.cells (half 0 N).toArray 3 (0, 0)) := by
    rw [← half_zero]; exact heap_alloc_new w _
  have hx2 : (w.alloc (.cells (madeCells #[.int .i64 0] N) 3)).cell? ⟨xb, 0, none⟩ = some (.int .i64 (-1)) := (World.cell?_of_block (a := ⟨xb, 0, none⟩) (Below.heap_alloc _ _ _ hxl)).trans hx
  obtain ⟨W1, hcp, HG1, HB1⟩ := copy_half (w := w) (dc := N) (sl := 1) (sc := 1) (p := ⟨xb, 0, none⟩) (m := 1) hW (by omega) (show 1 = Nat.min 1 (N - 0) by rw [Nat.sub_zero]; exact (Nat.min_eq_left h1).symm) (fun j hj => by have hj0 : j = 0 := (by omega); subst hj0; rw [add_at]; exact hx2) w.heap.size ((Below.refl _ w).alloc (Nat.le_refl _) _) (Nat.le_refl _)
  rw [Nat.sub_zero] at hcp
  clear hW hx2 hx
  go_enter Tryz.func88, Tryz.ntmps88
  go_wp2_with (go_at_call 123; refine hMul.mono ?_; rintro e w' ⟨rfl, hw⟩; rw [hw])
  clear hcp hmk hMul
  go_loopg [8] (N - 1) (fun g s8 wr => ∃ k : Nat, s8 = .int .i64 k ∧ 1 ≤ k ∧ k ≤ N ∧ g = N - k ∧ wr.heap[w.heap.size]? = some (.cells (half k N).toArray 3 (0, 0)) ∧ Below w.heap.size w wr)
  case atStart => exact ⟨1, rfl, Nat.le_refl _, h1, rfl, HG1.out, HB1.out⟩
  case round =>
    clear HG1 HB1
    obtain ⟨k, e8, hk1, hkN, hg, hrow, hbel⟩ := hrel
    subst e8
    by_cases hke : k = N
    · subst hke
      have HR := hide hrow
      have HB := hide hbel
      clear hrow hbel
      go_wp2
      go_ret
      exact ⟨HB.out, rfl, HR.out⟩
    · have hlt : (k : Int) < (N : Int) := by omega
      obtain ⟨m, HM⟩ : ∃ m, Hid (m = Nat.min k (N - k)) := ⟨_, rfl⟩
      have hm1 : 1 ≤ m := by rw [HM.out]; exact Nat.le_min.2 ⟨by omega, by omega⟩
      have hm0 : m ≤ k := by rw [HM.out]; exact Nat.min_le_left k (N - k)
      have hm2 : k + m ≤ N := by
        have h2 : m ≤ N - k := by rw [HM.out]; exact Nat.min_le_right k (N - k)
        omega
      have hbd := hbel.drew
      obtain ⟨W2, hcp, HG2, HB2⟩ := copy_half (w := w) (W := wr.drew) (g := w.heap.size) (k := k) (N := N) (dc := N - k) (sl := k) (sc := N) (p := ⟨w.heap.size, 0, none⟩) (m := m) hrow hm2 HM.out (fun j hj => by
        rw [add_at]
        refine cell_of (w := wr.drew) hrow ?_
        rw [List.getElem?_toArray]
        exact half_get (by rw [List.getElem?_replicate, if_pos (by omega)])) w.heap.size hbd (Nat.le_refl _)
      have Hg := hide hg
      have hke2 : ¬ N = k := fun e => hke e.symm
      clear hrow hbel hg hbd
      go_wp2
      go_region
      all_goals
        go_wp2
        go_roundg (N - (k + m))
        case measure => have := Hg.out; omega
        case rel => exact ⟨k + m, rfl, Nat.le_trans hk1 (Nat.le_add_right _ _), hm2, rfl, HG2.out, HB2.out⟩
end Go.Proofs.YtdbdbaepmdmnfaaGreatDoor

namespace Go.Proofs.YtdbdbaepmdmnfaaGreatDoor
open Go.RowKit
theorem made_ints (n : Nat) : madeCells #[.int .i64 0] n = (ints (List.replicate n 0)).toArray := by
  apply Array.ext'
  rw [toList_madeCells_one]
  simp [ints]
theorem half_all (N : Nat) : half N N = zints (List.replicate N (-1)) := by
  unfold half zints
  rw [Nat.sub_self]
  simp
theorem set_same {l : List Int} {k : Nat} {x : Int} (h : l[k]? = some x) : l.set k x = l := by
  apply List.ext_getElem?
  intro j
  by_cases e : j = k
  · subst e
    rw [List.getElem?_set_self (List.getElem?_eq_some_iff.1 h).1, h]
  · rw [List.getElem?_set_ne (fun h => e h.symm)]
/-- A search that was just made. -/
theorem srch_new {w W : World} {sb rb lb n G capS : Nat} {Q : List St} (hQ : 1 ≤ Q.length) (hp : PatAt w (.slice (some ⟨G, 0, none⟩) Q.length capS) Q) (ho : Only (fun _ => False) w W)
    (h1 : W.heap[sb]? = some (.cells #[.slice (some ⟨G, 0, none⟩) Q.length capS, .slice (some ⟨rb, 0, none⟩) Q.length Q.length, .slice none 0 0, .slice (some ⟨lb, 0, none⟩) (n + 1) (n + 1)] 176 (0, 0)))
    (h2 : W.heap[rb]? = some (.cells (madeCells #[.int .i64 0] Q.length) 3 (0, 0))) (h3 : W.heap[lb]? = some (.cells (half (n + 1) (n + 1)).toArray 3 (0, 0))) (h4 : w.heap.size ≤ sb) (h5 : w.heap.size ≤ rb) (h6 : w.heap.size ≤ lb) :
    Srch W sb rb lb W.heap.size (.slice (some ⟨G, 0, none⟩) Q.length capS) Q (List.replicate (n + 1) (-1)) n (List.replicate Q.length 0) (.slice none 0 0) [] none := by
  obtain ⟨xs, hp1, hp2⟩ := hp
  have d1 : rb ≠ sb := fun e => by
    rw [e, h1] at h2
    injection h2 with h7
    injection h7 with _ h8
    exact absurd h8 (by decide)
  have d2 : lb ≠ sb := fun e => by
    rw [e, h1] at h3
    injection h3 with h7
    injection h7 with _ h8
    exact absurd h8 (by decide)
  have d3 : lb ≠ rb := fun e => by
    rw [e, h2, made_ints] at h3
    injection h3 with h7
    injection h7 with h8
    have h9 := congrArg Array.toList h8
    obtain ⟨m, hm⟩ : ∃ m, Q.length = m + 1 := ⟨Q.length - 1, by omega⟩
    rw [hm, half_all] at h9
    simp [ints, zints, List.replicate_succ] at h9
  have hrep : (List.replicate (n + 1) (-1 : Int))[n]? = some (-1) := by rw [List.getElem?_replicate, if_pos (by omega)]
  refine ⟨?_, by rw [h2, made_ints], ?_, by simp, ⟨xs, ownsRow_of hp1 (fun k hk => ho.block k (hp1.lt k hk).2 (fun e => e)), hp2⟩, World.ownsRow_nil _ _ _ _, ⟨d1, d2, d3, heap_lt h1, heap_lt h2, heap_lt h3⟩, fun k hk => ?_⟩
  · rw [List.length_replicate]; exact h1
  · rw [show lenV n none = -1 from rfl, set_same hrep, ← half_all]; exact h3
  · have := (hp1.lt k hk).2
    have := ho.size
    omega
/-- The search of a pattern, over a text, in a search that was just made. -/
theorem run_new {w W : World} {sb rb lb G capS last : Nat} {Q : List St} {s : ByteArray} (hwf : WfQ Q) (hu : OneDone Q) (hfst : last < Q.length) (h6 : s.size ≤ 65000) (hQ : Q.length ≤ 1000000) (hp : PatAt w (.slice (some ⟨G, 0, none⟩) Q.length capS) Q) (ho : Only (fun _ => False) w W)
    (h1 : W.heap[sb]? = some (.cells #[.slice (some ⟨G, 0, none⟩) Q.length capS, .slice (some ⟨rb, 0, none⟩) Q.length Q.length, .slice none 0 0, .slice (some ⟨lb, 0, none⟩) (s.size + 1) (s.size + 1)] 176 (0, 0)))
    (h2 : W.heap[rb]? = some (.cells (madeCells #[.int .i64 0] Q.length) 3 (0, 0))) (h3 : W.heap[lb]? = some (.cells (half (s.size + 1) (s.size + 1)).toArray 3 (0, 0))) (h4 : w.heap.size ≤ sb) (h5 : w.heap.size ≤ rb) (h7 : w.heap.size ≤ lb) :
    Calls Tryz.prog 89 #[.pointer (some ⟨sb, 0, none⟩), .int .i64 last, .string s] W fun e w' => e = .returned (.tuple #[]) ∧ ∃ L, AllLen Q s.data.toList last L ∧ w'.heap[lb]? = some (.cells (zints L).toArray 3 (0, 0)) ∧ w'.cell? ⟨sb, 3, none⟩ = some (.slice (some ⟨lb, 0, none⟩) L.length L.length) ∧ Only (fun _ => False) w w' := by
  have hs := srch_new (by omega) hp ho h1 h2 h3 h4 h5 h7
  refine (run_any sb rb lb W.heap.size _ Q s (List.replicate (s.size + 1) (-1)) (List.replicate Q.length 0) last hwf hu hfst h6 hQ W hs (by simp) (fun k hk => by rw [List.getElem?_replicate, if_pos (by omega)]) (fun k x hx => ?_) (Nat.le_refl _)).mono ?_
  · rw [List.getElem?_replicate] at hx
    split at hx
    · cases hx; rfl
    · cases hx
  · rintro e w' ⟨rfl, L, hL, hl, hc, ho2⟩
    exact ⟨rfl, L, hL, hl, hc, ho.trans ho2 (fun i hi e => by omega)⟩
end Go.Proofs.YtdbdbaepmdmnfaaGreatDoor
namespace Go.Proofs.YtdbdbaepmdmnfaaGreatDoor
open Go.RowKit
theorem at1 (w : World) (P A : Obj) : ((w.alloc P).alloc A).heap[w.heap.size + 1]? = some A := newb1 w P A
theorem at21 (w : World) (P A B : Obj) : (((w.alloc P).alloc A).alloc B).heap[w.heap.size + 1]? = some A := (Below.heap_alloc _ _ _ (by simp)).trans (newb1 w P A)
theorem at22 (w : World) (P A B : Obj) : (((w.alloc P).alloc A).alloc B).heap[w.heap.size + 1 + 1]? = some B := by
  have := heap_alloc_new ((w.alloc P).alloc A) B
  rwa [show ((w.alloc P).alloc A).heap.size = w.heap.size + 1 + 1 by simp] at this
theorem at31 (w : World) (P A B C : Obj) : ((((w.alloc P).alloc A).alloc B).alloc C).heap[w.heap.size + 1]? = some A := (Below.heap_alloc _ _ _ (by simp)).trans (at21 w P A B)
theorem at32 (w : World) (P A B C : Obj) : ((((w.alloc P).alloc A).alloc B).alloc C).heap[w.heap.size + 1 + 1]? = some B := (Below.heap_alloc _ _ _ (by simp)).trans (at22 w P A B)
theorem at33 (w : World) (P A B C : Obj) : ((((w.alloc P).alloc A).alloc B).alloc C).heap[w.heap.size + 1 + 1 + 1]? = some C := by
  have := heap_alloc_new (((w.alloc P).alloc A).alloc B) C
  rwa [show (((w.alloc P).alloc A).alloc B).heap.size = w.heap.size + 1 + 1 + 1 by simp] at this
theorem cell_in {w : World} {b : Nat} {c : Array Value} {t : TypeId} (h : w.heap[b]? = some (.cells c t (0, 0))) (o : Nat) : w.cell? ⟨b, o, none⟩ = c[o]? := by
  unfold World.cell?
  simp [h]
theorem cAt21 (w : World) (P : Obj) (B : Obj) (cs : Array Value) (t : TypeId) (o : Nat) : (((w.alloc P).alloc (.cells cs t (0, 0))).alloc B).cell? ⟨w.heap.size + 1, o, none⟩ = cs[o]? := cell_in (at21 w P _ B) o
theorem fAt21 (w : World) (P : Obj) (B : Obj) (cs : Array Value) (t : TypeId) (o : Nat) : (((w.alloc P).alloc (.cells cs t (0, 0))).alloc B).frozen? ⟨w.heap.size + 1, o, none⟩ = false := free_of (at21 w P _ B) o
theorem cAt22 (w : World) (P : Obj) (A : Obj) (cs : Array Value) (t : TypeId) (o : Nat) : (((w.alloc P).alloc A).alloc (.cells cs t (0, 0))).cell? ⟨w.heap.size + 1 + 1, o, none⟩ = cs[o]? := cell_in (at22 w P A _) o
theorem fAt22 (w : World) (P : Obj) (A : Obj) (cs : Array Value) (t : TypeId) (o : Nat) : (((w.alloc P).alloc A).alloc (.cells cs t (0, 0))).frozen? ⟨w.heap.size + 1 + 1, o, none⟩ = false := free_of (at22 w P A _) o
theorem cAt31 (w : World) (P : Obj) (B C : Obj) (cs : Array Value) (t : TypeId) (o : Nat) : ((((w.alloc P).alloc (.cells cs t (0, 0))).alloc B).alloc C).cell? ⟨w.heap.size + 1, o, none⟩ = cs[o]? := cell_in (at31 w P _ B C) o
theorem fAt31 (w : World) (P : Obj) (B C : Obj) (cs : Array Value) (t : TypeId) (o : Nat) : ((((w.alloc P).alloc (.cells cs t (0, 0))).alloc B).alloc C).frozen? ⟨w.heap.size + 1, o, none⟩ = false := free_of (at31 w P _ B C) o
theorem cAt32 (w : World) (P : Obj) (A C : Obj) (cs : Array Value) (t : TypeId) (o : Nat) : ((((w.alloc P).alloc A).alloc (.cells cs t (0, 0))).alloc C).cell? ⟨w.heap.size + 1 + 1, o, none⟩ = cs[o]? := cell_in (at32 w P A _ C) o
theorem fAt32 (w : World) (P : Obj) (A C : Obj) (cs : Array Value) (t : TypeId) (o : Nat) : ((((w.alloc P).alloc A).alloc (.cells cs t (0, 0))).alloc C).frozen? ⟨w.heap.size + 1 + 1, o, none⟩ = false := free_of (at32 w P A _ C) o
theorem cAt33 (w : World) (P : Obj) (A B : Obj) (cs : Array Value) (t : TypeId) (o : Nat) : ((((w.alloc P).alloc A).alloc B).alloc (.cells cs t (0, 0))).cell? ⟨w.heap.size + 1 + 1 + 1, o, none⟩ = cs[o]? := cell_in (at33 w P A B _) o
theorem fAt33 (w : World) (P : Obj) (A B : Obj) (cs : Array Value) (t : TypeId) (o : Nat) : ((((w.alloc P).alloc A).alloc B).alloc (.cells cs t (0, 0))).frozen? ⟨w.heap.size + 1 + 1 + 1, o, none⟩ = false := free_of (at33 w P A B _) o
theorem hZ2 (w : World) (cs : Array Value) (t : TypeId) (A B : Obj) : (((w.alloc (.cells cs t (0, 0))).alloc A).alloc B).heap[w.heap.size]? = some (.cells cs t (0, 0)) := (Below.heap_alloc _ _ _ (by simp <;> omega)).trans ((Below.heap_alloc _ _ _ (by simp <;> omega)).trans (new0 w _))
theorem cZ2 (w : World) (cs : Array Value) (t : TypeId) (A B : Obj) (o : Nat) : (((w.alloc (.cells cs t (0, 0))).alloc A).alloc B).cell? ⟨w.heap.size, o, none⟩ = cs[o]? := cell_in (hZ2 w cs t A B) o
theorem hZ3 (w : World) (cs : Array Value) (t : TypeId) (A B C : Obj) : ((((w.alloc (.cells cs t (0, 0))).alloc A).alloc B).alloc C).heap[w.heap.size]? = some (.cells cs t (0, 0)) := (Below.heap_alloc _ _ _ (by simp <;> omega)).trans ((Below.heap_alloc _ _ _ (by simp <;> omega)).trans ((Below.heap_alloc _ _ _ (by simp <;> omega)).trans (new0 w _)))
theorem cZ3 (w : World) (cs : Array Value) (t : TypeId) (A B C : Obj) (o : Nat) : ((((w.alloc (.cells cs t (0, 0))).alloc A).alloc B).alloc C).cell? ⟨w.heap.size, o, none⟩ = cs[o]? := cell_in (hZ3 w cs t A B C) o
theorem belowc {W w' : World} (hb : Below W.heap.size W w') (k : Nat) : k < W.heap.size → ∀ o, w'.cell? ⟨k, o, none⟩ = W.cell? ⟨k, o, none⟩ := fun hk o => World.cell?_of_block (a := ⟨k, o, none⟩) (hb.block k hk)
theorem bc {W w' : World} (hb : Below W.heap.size W w') (k o : Nat) : k < W.heap.size → w'.cell? ⟨k, o, none⟩ = W.cell? ⟨k, o, none⟩ := fun hk => belowc hb k hk o
theorem belowf {W w' : World} (hb : Below W.heap.size W w') (k : Nat) : k < W.heap.size → ∀ o, w'.frozen? ⟨k, o, none⟩ = W.frozen? ⟨k, o, none⟩ := fun hk o => by
  unfold World.frozen?
  simp [hb.block k hk]
theorem bf {W w' : World} (hb : Below W.heap.size W w') (k o : Nat) : k < W.heap.size → w'.frozen? ⟨k, o, none⟩ = W.frozen? ⟨k, o, none⟩ := fun hk => belowf hb k hk o
theorem bz {W w' : World} (hb : Below W.heap.size W w') (k : Nat) : k < W.heap.size → k < w'.heap.size := fun hk => Nat.lt_of_lt_of_le hk hb.size
theorem repeat_w (xb n : Nat) (h : n ≤ 65000) (w : World) (hx : w.cell? ⟨xb, 0, none⟩ = some (.int .i64 (-1))) :
    Calls Tryz.prog 88 #[.slice (some ⟨xb, 0, none⟩) 1 1, .int .i64 (IntKind.i64.wrap ((n : Int) + 1))] w fun e w' => Below w.heap.size w w' ∧ e = .returned (.slice (some ⟨w.heap.size, 0, none⟩) (n + 1) (n + 1)) ∧ w'.heap[w.heap.size]? = some (.cells (half (n + 1) (n + 1)).toArray 3 (0, 0)) := by
  have hw : IntKind.i64.wrap ((n : Int) + 1) = ((n + 1 : Nat) : Int) := by rw [IntKind.wrap_i64]; omega
  rw [hw]
  exact repeat_any xb (n + 1) (by omega) (by omega) w hx
theorem cell4 (w : World) (b k o : Nat) (v0 v1 v2 v3 : Value) (h : k ≠ b) : ((((w.setCell ⟨b, 0, none⟩ v0).setCell ⟨b, 1, none⟩ v1).setCell ⟨b, 2, none⟩ v2).setCell ⟨b, 3, none⟩ v3).cell? ⟨k, o, none⟩ = w.cell? ⟨k, o, none⟩ :=
  World.cell?_of_block (a := ⟨k, o, none⟩) ((Below.heap_setCell _ _ _ _ h).trans ((Below.heap_setCell _ _ _ _ h).trans ((Below.heap_setCell _ _ _ _ h).trans (Below.heap_setCell _ _ _ _ h))))
theorem cell4a (w : World) (b k o : Nat) (v0 v1 v2 v3 : Value) (O : Obj) (h : k ≠ b) (hk : k < w.heap.size) : (((((w.setCell ⟨b, 0, none⟩ v0).setCell ⟨b, 1, none⟩ v1).setCell ⟨b, 2, none⟩ v2).setCell ⟨b, 3, none⟩ v3).alloc O).cell? ⟨k, o, none⟩ = w.cell? ⟨k, o, none⟩ :=
  (World.cell?_of_block (a := ⟨k, o, none⟩) (Below.heap_alloc _ _ _ (by rw [size_setCell, size_setCell, size_setCell, size_setCell]; exact hk))).trans (cell4 w b k o v0 v1 v2 v3 h)
abbrev emptyBox : Obj := .cells #[.slice none 0 0, .slice none 0 0, .slice none 0 0, .slice none 0 0] 176 (0, 0)
/-- A search that was just made lies in W, and what lay in w lies as it was. -/
def Fresh (w W : World) (G qn capS n last sb : Nat) : Prop := ∃ rb lb, Only (fun _ => False) w W ∧ W.heap[sb]? = some (.cells #[.slice (some ⟨G, 0, none⟩) qn capS, .slice (some ⟨rb, 0, none⟩) qn qn, .slice none 0 0, .slice (some ⟨lb, 0, none⟩) (n + 1) (n + 1)] 176 (0, 0)) ∧ W.heap[rb]? = some (.cells (madeCells #[.int .i64 0] qn) 3 (0, 0)) ∧ W.heap[lb]? = some (.cells (half (n + 1) (n + 1)).toArray 3 (0, 0)) ∧ w.heap.size ≤ sb ∧ w.heap.size ≤ rb ∧ w.heap.size ≤ lb ∧ W.cell? ⟨w.heap.size, 1, none⟩ = some (.int .i64 last)
theorem kind_ne {w : World} {a b : Nat} {c c' : Array Value} {t t' : TypeId} (h : w.heap[a]? = some (.cells c t (0, 0))) (h' : w.heap[b]? = some (.cells c' t' (0, 0))) (ht : t ≠ t') : a ≠ b := fun e => by
  rw [e, h'] at h
  injection h with h1
  injection h1 with _ h2
  exact ht h2.symm
theorem freshA {w w' : World} {G qn capS n last rb lb : Nat} (ho : Only (fun _ => False) w w') (h2 : w'.heap[rb]? = some (.cells (madeCells #[.int .i64 0] qn) 3 (0, 0))) (h3 : w'.heap[lb]? = some (.cells (half (n + 1) (n + 1)).toArray 3 (0, 0))) (h5 : w.heap.size ≤ rb) (h6 : w.heap.size ≤ lb) (hp : w'.cell? ⟨w.heap.size, 1, none⟩ = some (.int .i64 last)) :
    Fresh w (w'.alloc (.cells #[.slice (some ⟨G, 0, none⟩) qn capS, .slice (some ⟨rb, 0, none⟩) qn qn, .slice none 0 0, .slice (some ⟨lb, 0, none⟩) (n + 1) (n + 1)] 176 (0, 0))) G qn capS n last w'.heap.size :=
  ⟨rb, lb, ho.alloc _, heap_alloc_new _ _, (Below.heap_alloc _ _ _ (heap_lt h2)).trans h2, (Below.heap_alloc _ _ _ (heap_lt h3)).trans h3, ho.size, h5, h6, (World.cell?_of_block (a := ⟨w.heap.size, 1, none⟩) (Below.heap_alloc _ _ _ (World.block_lt_of_cell? w' _ hp))).trans hp⟩
theorem freshC {w w' : World} {G qn capS n last lb : Nat} (ho : Only (fun _ => False) w w') (h3 : w'.heap[lb]? = some (.cells (half (n + 1) (n + 1)).toArray 3 (0, 0))) (h6 : w.heap.size ≤ lb) (hp : w'.cell? ⟨w.heap.size, 1, none⟩ = some (.int .i64 last)) :
    Fresh w ((w'.alloc (.cells (madeCells #[.int .i64 0] qn) 3 (0, 0))).alloc (.cells #[.slice (some ⟨G, 0, none⟩) qn capS, .slice (some ⟨w'.heap.size, 0, none⟩) qn qn, .slice none 0 0, .slice (some ⟨lb, 0, none⟩) (n + 1) (n + 1)] 176 (0, 0))) G qn capS n last (w'.heap.size + 1) := by
  have h := freshA (G := G) (capS := capS) (ho.alloc _) (heap_alloc_new w' (.cells (madeCells #[.int .i64 0] qn) 3 (0, 0))) ((Below.heap_alloc _ _ _ (heap_lt h3)).trans h3) ho.size h6 ((World.cell?_of_block (a := ⟨w.heap.size, 1, none⟩) (Below.heap_alloc _ _ _ (World.block_lt_of_cell? w' _ hp))).trans hp)
  rw [World.size_alloc] at h
  exact h
theorem freshD {w w' : World} {G qn capS n last lb : Nat} (ho : Only (fun _ => False) w w') (h3 : w'.heap[lb]? = some (.cells (half (n + 1) (n + 1)).toArray 3 (0, 0))) (h6 : w.heap.size ≤ lb) (hp : w'.cell? ⟨w.heap.size, 1, none⟩ = some (.int .i64 last)) :
    Fresh w ((w'.alloc (.cells #[.slice (some ⟨G, 0, none⟩) qn capS, .slice (some ⟨w'.heap.size + 1, 0, none⟩) qn qn, .slice none 0 0, .slice (some ⟨lb, 0, none⟩) (n + 1) (n + 1)] 176 (0, 0))).alloc (.cells (madeCells #[.int .i64 0] qn) 3 (0, 0))) G qn capS n last w'.heap.size := by
  have hs := ho.size
  refine ⟨w'.heap.size + 1, lb, (ho.alloc _).alloc _, (Below.heap_alloc _ _ _ (by simp)).trans (heap_alloc_new _ _), newb1 w' _ _, (Below.heap_alloc _ _ _ (by have := heap_lt h3; simp; omega)).trans ((Below.heap_alloc _ _ _ (heap_lt h3)).trans h3), hs, by omega, h6, ?_⟩
  have hl : w.heap.size < w'.heap.size := World.block_lt_of_cell? w' _ hp
  exact (World.cell?_of_block (a := ⟨w.heap.size, 1, none⟩) ((Below.heap_alloc _ _ _ (by simp; omega)).trans (Below.heap_alloc _ _ _ hl))).trans hp
theorem set4_heap (w : World) (b k : Nat) (v0 v1 v2 v3 : Value) (h : k ≠ b) : ((((w.setCell ⟨b, 0, none⟩ v0).setCell ⟨b, 1, none⟩ v1).setCell ⟨b, 2, none⟩ v2).setCell ⟨b, 3, none⟩ v3).heap[k]? = w.heap[k]? :=
  (Below.heap_setCell _ _ _ _ h).trans ((Below.heap_setCell _ _ _ _ h).trans ((Below.heap_setCell _ _ _ _ h).trans (Below.heap_setCell _ _ _ _ h)))
theorem freshB {w w' : World} {G qn capS n last sb rb lb : Nat} (ho : Only (fun _ => False) w w') (h1 : w'.heap[sb]? = some emptyBox) (h2 : w'.heap[rb]? = some (.cells (madeCells #[.int .i64 0] qn) 3 (0, 0))) (h3 : w'.heap[lb]? = some (.cells (half (n + 1) (n + 1)).toArray 3 (0, 0))) (h4 : w.heap.size < sb) (h5 : w.heap.size ≤ rb) (h6 : w.heap.size ≤ lb) (hp : w'.cell? ⟨w.heap.size, 1, none⟩ = some (.int .i64 last)) :
    Fresh w ((((w'.setCell ⟨sb, 0, none⟩ (.slice (some ⟨G, 0, none⟩) qn capS)).setCell ⟨sb, 1, none⟩ (.slice (some ⟨rb, 0, none⟩) qn qn)).setCell ⟨sb, 2, none⟩ (.slice none 0 0)).setCell ⟨sb, 3, none⟩ (.slice (some ⟨lb, 0, none⟩) (n + 1) (n + 1))) G qn capS n last sb := by
  have hn : ∀ o, sb < w.heap.size → (fun _ => False) (Addr.block ⟨sb, o, none⟩) := fun _ h => absurd h (by omega)
  refine ⟨rb, lb, (((ho.setCell (p := ⟨sb, 0, none⟩) (hn 0) _).setCell (p := ⟨sb, 1, none⟩) (hn 1) _).setCell (p := ⟨sb, 2, none⟩) (hn 2) _).setCell (p := ⟨sb, 3, none⟩) (hn 3) _, heap_setCell_same (heap_setCell_same (heap_setCell_same (heap_setCell_same h1 _) _) _) _, (set4_heap _ _ _ _ _ _ _ (kind_ne h2 h1 (by decide))).trans h2, (set4_heap _ _ _ _ _ _ _ (kind_ne h3 h1 (by decide))).trans h3, by omega, h5, h6, ?_⟩
  exact (cell4 _ _ _ _ _ _ _ _ (by omega)).trans hp
theorem freshE {w w' : World} {G qn capS n last sb lb : Nat} (ho : Only (fun _ => False) w w') (h1 : w'.heap[sb]? = some emptyBox) (h3 : w'.heap[lb]? = some (.cells (half (n + 1) (n + 1)).toArray 3 (0, 0))) (h4 : w.heap.size < sb) (h6 : w.heap.size ≤ lb) (hp : w'.cell? ⟨w.heap.size, 1, none⟩ = some (.int .i64 last)) :
    Fresh w (((((w'.setCell ⟨sb, 0, none⟩ (.slice (some ⟨G, 0, none⟩) qn capS)).setCell ⟨sb, 1, none⟩ (.slice (some ⟨w'.heap.size, 0, none⟩) qn qn)).setCell ⟨sb, 2, none⟩ (.slice none 0 0)).setCell ⟨sb, 3, none⟩ (.slice (some ⟨lb, 0, none⟩) (n + 1) (n + 1))).alloc (.cells (madeCells #[.int .i64 0] qn) 3 (0, 0))) G qn capS n last sb := by
  have hn : ∀ o, sb < w.heap.size → (fun _ => False) (Addr.block ⟨sb, o, none⟩) := fun _ h => absurd h (by omega)
  have hs := ho.size
  have hz : ((((w'.setCell ⟨sb, 0, none⟩ (.slice (some ⟨G, 0, none⟩) qn capS)).setCell ⟨sb, 1, none⟩ (.slice (some ⟨w'.heap.size, 0, none⟩) qn qn)).setCell ⟨sb, 2, none⟩ (.slice none 0 0)).setCell ⟨sb, 3, none⟩ (.slice (some ⟨lb, 0, none⟩) (n + 1) (n + 1))).heap.size = w'.heap.size := by rw [size_setCell, size_setCell, size_setCell, size_setCell]
  have hl : w.heap.size < w'.heap.size := World.block_lt_of_cell? w' _ hp
  refine ⟨w'.heap.size, lb, ((((ho.setCell (p := ⟨sb, 0, none⟩) (hn 0) _).setCell (p := ⟨sb, 1, none⟩) (hn 1) _).setCell (p := ⟨sb, 2, none⟩) (hn 2) _).setCell (p := ⟨sb, 3, none⟩) (hn 3) _).alloc _, (Below.heap_alloc _ _ _ (by rw [hz]; exact heap_lt h1)).trans (heap_setCell_same (heap_setCell_same (heap_setCell_same (heap_setCell_same h1 _) _) _) _), ?_, (Below.heap_alloc _ _ _ (by rw [hz]; exact heap_lt h3)).trans ((set4_heap _ _ _ _ _ _ _ (kind_ne h3 h1 (by decide))).trans h3), by omega, hs, h6, ?_⟩
  · have := heap_alloc_new ((((w'.setCell ⟨sb, 0, none⟩ (.slice (some ⟨G, 0, none⟩) qn capS)).setCell ⟨sb, 1, none⟩ (.slice (some ⟨w'.heap.size, 0, none⟩) qn qn)).setCell ⟨sb, 2, none⟩ (.slice none 0 0)).setCell ⟨sb, 3, none⟩ (.slice (some ⟨lb, 0, none⟩) (n + 1) (n + 1))) (.cells (madeCells #[.int .i64 0] qn) 3 (0, 0))
    rwa [hz] at this
  · exact (cell4a _ _ _ _ _ _ _ _ _ (by omega) hl).trans hp
theorem only_below {w W w' : World} (h : Only (fun _ => False) w W) (hb : Below W.heap.size W w') : Only (fun _ => False) w w' :=
  ⟨hb.os.trans h.os, hb.tape.trans h.tape, hb.output.trans h.output, Nat.le_trans h.size hb.size, fun i hi hd => (hb.block i (Nat.lt_of_lt_of_le hi h.size)).trans (h.block i hi hd)⟩
theorem keep1 {w w' : World} {P A : Obj} {o : Option Obj} (hb : Below ((w.alloc P).alloc A).drew.heap.size ((w.alloc P).alloc A).drew w') (hrow : w'.heap[((w.alloc P).alloc A).drew.heap.size]? = o) :
    Only (fun _ => False) w w' ∧ w'.heap[w.heap.size + 1 + 1]? = o ∧ w'.heap[w.heap.size + 1]? = some A ∧ True :=
  ⟨only_below ((((Only.refl _ w).alloc P).alloc A).drewN 1) hb, by rwa [show ((w.alloc P).alloc A).drew.heap.size = w.heap.size + 1 + 1 by simp] at hrow, (hb.block _ (heap_lt (at1 w P A))).trans (at1 w P A), trivial⟩
theorem keep2 {w w' : World} {P A B : Obj} {o : Option Obj} (hb : Below (((w.alloc P).alloc A).alloc B).drew.heap.size (((w.alloc P).alloc A).alloc B).drew w') (hrow : w'.heap[(((w.alloc P).alloc A).alloc B).drew.heap.size]? = o) :
    Only (fun _ => False) w w' ∧ w'.heap[w.heap.size + 1 + 1 + 1]? = o ∧ w'.heap[w.heap.size + 1]? = some A ∧ w'.heap[w.heap.size + 1 + 1]? = some B ∧ True :=
  ⟨only_below (((((Only.refl _ w).alloc P).alloc A).alloc B).drewN 1) hb, by rwa [show (((w.alloc P).alloc A).alloc B).drew.heap.size = w.heap.size + 1 + 1 + 1 by simp] at hrow, (hb.block _ (heap_lt (at21 w P A B))).trans (at21 w P A B), (hb.block _ (heap_lt (at22 w P A B))).trans (at22 w P A B), trivial⟩
theorem keep3 {w w' : World} {P A B C : Obj} {o : Option Obj} (hb : Below ((((w.alloc P).alloc A).alloc B).alloc C).drew.heap.size ((((w.alloc P).alloc A).alloc B).alloc C).drew w') (hrow : w'.heap[((((w.alloc P).alloc A).alloc B).alloc C).drew.heap.size]? = o) :
    Only (fun _ => False) w w' ∧ w'.heap[w.heap.size + 1 + 1 + 1 + 1]? = o ∧ w'.heap[w.heap.size + 1]? = some A ∧ w'.heap[w.heap.size + 1 + 1]? = some B ∧ w'.heap[w.heap.size + 1 + 1 + 1]? = some C ∧ True :=
  ⟨only_below ((((((Only.refl _ w).alloc P).alloc A).alloc B).alloc C).drewN 1) hb, by rwa [show ((((w.alloc P).alloc A).alloc B).alloc C).drew.heap.size = w.heap.size + 1 + 1 + 1 + 1 by simp] at hrow, (hb.block _ (heap_lt (at31 w P A B C))).trans (at31 w P A B C), (hb.block _ (heap_lt (at32 w P A B C))).trans (at32 w P A B C), (hb.block _ (heap_lt (at33 w P A B C))).trans (at33 w P A B C), trivial⟩
end Go.Proofs.YtdbdbaepmdmnfaaGreatDoor

namespace Go.Proofs.YtdbdbaepmdmnfaaGreatDoor
open Go.RowKit
set_option maxRecDepth 100000 in
set_option maxHeartbeats 8000000 in
theorem Longest_any (vS : Value) (last : Nat) (Q : List St) (s : ByteArray) (hwf : WfQ Q) (hu : OneDone Q) (hfst : last < Q.length) (h6 : s.size ≤ 65000) (hQ : Q.length ≤ 1000000) (w : World) (hp : PatAt w vS Q) :
    Calls Tryz.prog 58 #[.agg #[vS, .int .i64 last], .string s] w fun e w' => Only (fun _ => False) w w' ∧ ∃ lb L, w.heap.size ≤ lb ∧ AllLen Q s.data.toList last L ∧ w'.heap[lb]? = some (.cells (zints L).toArray 3 (0, 0)) ∧ e = .returned (.slice (some ⟨lb, 0, none⟩) L.length L.length) := by
  obtain ⟨G, capS, rfl⟩ := hp.form (by omega)
  have HP := hide hp
  have HW := hide hwf
  have HU := hide hu
  have hmk := run_make_row' (P := Tryz.prog) 126 3 (.int .i64 0) 8 Tryz.underlying126 info3 rfl .i64 .i64 Q.length (by omega) (by omega)
  clear hp hwf hu
  go_enter Tryz.func58, Tryz.ntmps58
  go_upto_region 1 with fail
  go_cut [5] (fun s5 wx => ∃ sb, s5 = .pointer (some ⟨sb, 0, none⟩) ∧ Fresh w wx G Q.length capS s.size last sb)
  case first =>
    go_region_held3 (fun W => W.cell? ⟨w.heap.size, 0, none⟩ = some (.slice (some ⟨G, 0, none⟩) Q.length capS)) (first | go_keep | (rw [cell4 _ _ _ _ _ _ _ _ (by omega)]; go_keep) | (rw [cell4a _ _ _ _ _ _ _ _ _ (by omega) (by omega)]; go_keep))
      (first | (go_at_call 88; refine (repeat_w _ s.size h6 _ (by simp [cAt21, cAt22, cAt31, cAt32, cAt33])).mono ?_; rintro e w' ⟨hb, rfl, hrow⟩; have p0 := bc hb w.heap.size 0 (by simp <;> omega); have p1 := bc hb w.heap.size 1 (by simp <;> omega); have z0 := bz hb w.heap.size (by simp <;> omega); have z1 := bz hb (w.heap.size + 1); have z2 := bz hb (w.heap.size + 1 + 1); have z3 := bz hb (w.heap.size + 1 + 1 + 1); have c10 := bc hb (w.heap.size + 1) 0; have f10 := bf hb (w.heap.size + 1) 0; have c11 := bc hb (w.heap.size + 1) 1; have f11 := bf hb (w.heap.size + 1) 1; have c12 := bc hb (w.heap.size + 1) 2; have f12 := bf hb (w.heap.size + 1) 2; have c13 := bc hb (w.heap.size + 1) 3; have f13 := bf hb (w.heap.size + 1) 3; have c20 := bc hb (w.heap.size + 1 + 1) 0; have f20 := bf hb (w.heap.size + 1 + 1) 0; have c21 := bc hb (w.heap.size + 1 + 1) 1; have f21 := bf hb (w.heap.size + 1 + 1) 1; have c22 := bc hb (w.heap.size + 1 + 1) 2; have f22 := bf hb (w.heap.size + 1 + 1) 2; have c23 := bc hb (w.heap.size + 1 + 1) 3; have f23 := bf hb (w.heap.size + 1 + 1) 3; have c30 := bc hb (w.heap.size + 1 + 1 + 1) 0; have f30 := bf hb (w.heap.size + 1 + 1 + 1) 0; have c31 := bc hb (w.heap.size + 1 + 1 + 1) 1; have f31 := bf hb (w.heap.size + 1 + 1 + 1) 1; have c32 := bc hb (w.heap.size + 1 + 1 + 1) 2; have f32 := bf hb (w.heap.size + 1 + 1 + 1) 2; have c33 := bc hb (w.heap.size + 1 + 1 + 1) 3; have f33 := bf hb (w.heap.size + 1 + 1 + 1) 3; simp [cZ2, cZ3, cAt21, cAt22, cAt31, cAt32, cAt33, fAt21, fAt22, fAt31, fAt32, fAt33] at p0 p1 z1 z2 z3 c10 f10 c11 f11 c12 f12 c13 f13 c20 f20 c21 f21 c22 f22 c23 f23 c30 f30 c31 f31 c32 f32 c33 f33; (first | with_reducible (have hk := keep3 hb hrow) | with_reducible (have hk := keep2 hb hrow) | with_reducible (have hk := keep1 hb hrow)); have HK := hide hk; clear hb hrow hk))
    all_goals
      go_wp2_with fail
      go_meet
      case rel =>
        refine ⟨_, rfl, ?_⟩
        first
          | with_reducible exact freshA HK.out.1 HK.out.2.2.1 HK.out.2.1 (by omega) (by omega) p1
          | with_reducible exact freshA HK.out.1 HK.out.2.2.2.1 HK.out.2.1 (by omega) (by omega) p1
          | with_reducible exact freshC HK.out.1 HK.out.2.1 (by omega) p1
          | with_reducible exact freshD HK.out.1 HK.out.2.1 (by omega) p1
          | with_reducible exact freshE HK.out.1 HK.out.2.2.1 HK.out.2.1 (by omega) (by omega) p1
          | with_reducible exact freshE HK.out.1 HK.out.2.2.2.1 HK.out.2.1 (by omega) (by omega) p1
          | with_reducible exact freshB HK.out.1 HK.out.2.2.1 HK.out.2.2.2.1 HK.out.2.1 (by omega) (by omega) (by omega) p1
          | with_reducible exact freshB HK.out.1 HK.out.2.2.1 HK.out.2.2.2.2.1 HK.out.2.1 (by omega) (by omega) (by omega) p1
          | with_reducible exact freshB HK.out.1 HK.out.2.2.2.1 HK.out.2.2.1 HK.out.2.1 (by omega) (by omega) (by omega) p1
          | with_reducible exact freshB HK.out.1 HK.out.2.2.2.1 HK.out.2.2.2.2.1 HK.out.2.1 (by omega) (by omega) (by omega) p1
          | with_reducible exact freshB HK.out.1 HK.out.2.2.2.2.1 HK.out.2.2.1 HK.out.2.1 (by omega) (by omega) (by omega) p1
          | with_reducible exact freshB HK.out.1 HK.out.2.2.2.2.1 HK.out.2.2.2.1 HK.out.2.1 (by omega) (by omega) (by omega) p1
  case rest =>
    obtain ⟨sb, e5, rb, lb, ho, h1, h2, h3, h4, h5, h7, hp1⟩ := hcut
    subst e5
    have HO := hide ho
    have H1 := hide h1
    have H2 := hide h2
    have H3 := hide h3
    clear ho h1 h2 h3 hmk
    go_wp2_with fail
    refine (run_new HW.out HU.out hfst h6 hQ HP.out HO.out H1.out H2.out H3.out h4 h5 h7).mono ?_
    rintro e w2 ⟨rfl, L, hL, hl, hc, ho2⟩
    have HL := hide hL
    have Hl := hide hl
    have HO2 := hide ho2
    clear hL hl ho2
    go_wp2
    go_ret
    exact ⟨HO2.out, lb, L, h7, HL.out, Hl.out, rfl⟩
end Go.Proofs.YtdbdbaepmdmnfaaGreatDoor

namespace Go.Proofs.YtdbdbaepmdmnfaaGreatDoor
open Go.RowKit
set_option maxHeartbeats 4000000 in
theorem Find_any (vS : Value) (last : Nat) (Q : List St) (R : Pat) (s : ByteArray) (hwf : WfQ Q) (hu : OneDone Q) (hR : ∀ t i e, Acc Q t last e i ↔ R t i e) (hfst : last < Q.length) (h6 : s.size ≤ 65000) (hQ : Q.length ≤ 1000000) (w : World) (hp : PatAt w vS Q) :
    Calls Tryz.prog 44 #[.agg #[vS, .int .i64 last], .string s] w fun e w' => Only (fun _ => False) w w' ∧ ∃ best, Finds R s.data.toList 0 0 best ∧ e = .returned (.tuple #[.int .i64 (bBeg best), .int .i64 (bLen best)]) := by
  obtain ⟨G, capS, rfl⟩ := hp.form (by omega)
  have HP : ∀ o, Hid (PatAt (w.alloc o) (.slice (some ⟨G, 0, none⟩) Q.length capS) Q) := fun o => by
    obtain ⟨xs, h1, h2⟩ := hp
    exact ⟨xs, ownsRow_of h1 (fun k hk => Below.heap_alloc _ _ _ (h1.lt k hk).2), h2⟩
  have HR := hide hR
  have hts : s.data.toList.length = s.size := len_eq s
  clear hp hR
  go_enter Tryz.func44, Tryz.ntmps44
  go_wp2_with fail
  refine (Longest_any _ last Q s hwf hu hfst h6 hQ _ (HP _).out).mono ?_
  rintro e w1 ⟨ho, lb, L, hlb, hall, hrow, rfl⟩
  have hLl : L.length ≤ 100000 := by have := hall.1; omega
  have hcell : ∀ (j : Nat) (z : Int), L[j]? = some z → w1.cell? ⟨lb, j, none⟩ = some (.int .i64 z) := fun j z hz => cell_of hrow (by rw [List.getElem?_toArray]; exact zints_get _ _ _ hz)
  have hidx := index_any lb L hLl w1 hcell
  have HO : Hid (Only (fun _ => False) w w1) := ((Only.refl _ w).alloc _).trans ho (fun _ _ e => e)
  have HC := hide hcell
  rcases find_fact hall HR.out with ⟨h1, h2⟩ | ⟨k, l, h1, h2, h3⟩
  · rw [h1] at hidx
    have HF := hide h2
    clear ho hall hrow hcell h1 h2
    go_wp2_with (go_at_call 69; refine hidx.mono ?_; rintro e w' ⟨rfl, rfl⟩)
    go_ret2
    exact ⟨HO.out, none, HF.out, rfl⟩
  · rw [h1] at hidx
    have hkl : (k : Int) < (L.length : Int) := by have := (List.getElem?_eq_some_iff.1 h2).1; omega
    have c := HC.out k _ h2
    have HF := hide h3
    clear ho hall hrow hcell h1 h2 h3
    go_wp2_with (go_at_call 69; refine hidx.mono ?_; rintro e w' ⟨rfl, rfl⟩)
    go_quiet (fail)
    go_wp2
    go_ret2
    exact ⟨HO.out.drewN _, some (k, l), HF.out, rfl⟩
end Go.Proofs.YtdbdbaepmdmnfaaGreatDoor
namespace Go.Proofs.YtdbdbaepmdmnfaaGreatDoor
open Go.RowKit
theorem long_yes (s : ByteArray) (h : 500 < s.size) (w : World) : Calls Tryz.prog 26 #[.string s] w fun e w' => e = .returned (.bool true) ∧ w' = w := by
  have hi : (500 : Int) < (s.size : Int) := by omega
  go_enter Tryz.func26, Tryz.ntmps26
  go_wp2
  go_ret
  exact ⟨by simp, rfl⟩
theorem long_no (s : ByteArray) (h : ¬ 500 < s.size) (w : World) : Calls Tryz.prog 26 #[.string s] w fun e w' => e = .returned (.bool false) ∧ w' = w := by
  have hi : ¬ (500 : Int) < (s.size : Int) := by omega
  go_enter Tryz.func26, Tryz.ntmps26
  go_wp2
  go_ret
  exact ⟨by simp, rfl⟩
/-- What a Match answers. -/
def MatchIs (p t : ByteArray) (e : Ending) : Prop :=
  (500 < p.size ∨ 500 < t.size → e = .returned (.tuple #[.int .i64 0, .int .i64 0, .int .i64 1])) ∧
  (¬ (500 < p.size ∨ 500 < t.size) → (wholeP p.data.toList = none → e = .returned (.tuple #[.int .i64 0, .int .i64 0, .int .i64 7])) ∧
    ∀ R, wholeP p.data.toList = some R → ∃ best, Finds R t.data.toList 0 0 best ∧ e = .returned (.tuple #[.int .i64 (bBeg best), .int .i64 (bLen best), .int .i64 0]))
theorem MatchIs.unique {p t e e'} (h : MatchIs p t e) (h' : MatchIs p t e') : e = e' := by
  by_cases hl : 500 < p.size ∨ 500 < t.size
  · rw [h.1 hl, h'.1 hl]
  · cases hw : wholeP p.data.toList with
    | none => rw [(h.2 hl).1 hw, (h'.2 hl).1 hw]
    | some R =>
      obtain ⟨b1, h1, rfl⟩ := (h.2 hl).2 R hw
      obtain ⟨b2, h2, rfl⟩ := (h'.2 hl).2 R hw
      rw [h1.unique h2]
set_option maxHeartbeats 4000000 in
theorem match_any (p t : ByteArray) (w : World) : Calls Tryz.prog 29 #[.string p, .string t] w fun e w' => MatchIs p t e ∧ Only (fun _ => False) w w' := by
  by_cases h1 : 500 < p.size
  · go_enter Tryz.func29, Tryz.ntmps29
    go_wp2_with (go_at_call 26; refine (long_yes p h1 _).mono ?_; rintro e w' ⟨rfl, rfl⟩)
    go_ret3
    exact ⟨⟨fun _ => rfl, fun h => absurd (Or.inl h1) h⟩, Only.refl _ _⟩
  · by_cases h2 : 500 < t.size
    · go_enter Tryz.func29, Tryz.ntmps29
      go_wp2_with fail
      refine (long_no p h1 _).mono ?_
      rintro e w' ⟨rfl, rfl⟩
      go_wp2_with fail
      refine (long_yes t h2 _).mono ?_
      rintro e w' ⟨rfl, rfl⟩
      go_wp2
      go_ret3
      exact ⟨⟨fun _ => rfl, fun h => absurd (Or.inr h2) h⟩, Only.refl _ _⟩
    · have hl : ¬ (500 < p.size ∨ 500 < t.size) := by omega
      have HL := hide hl
      clear hl
      go_enter Tryz.func29, Tryz.ntmps29
      go_wp2_with fail
      refine (long_no p h1 _).mono ?_
      rintro e w' ⟨rfl, rfl⟩
      go_wp2_with fail
      refine (long_no t h2 _).mono ?_
      rintro e w' ⟨rfl, rfl⟩
      go_wp2_with fail
      refine (read_any p (by omega) _).mono ?_
      rintro e w1 ⟨ho1, hno, hyes⟩
      have HO1 := hide ho1
      cases hc : wholeP p.data.toList with
      | none =>
        have HC := hide hc
        obtain rfl := hno hc
        clear hno hyes hc ho1
        go_wp2
        go_ret3
        exact ⟨⟨fun h => absurd h HL.out, fun _ => ⟨fun _ => rfl, fun R h => by rw [HC.out] at h; cases h⟩⟩, HO1.out.alloc _⟩
      | some R =>
        have HC := hide hc
        obtain ⟨v, last, Q, rfl, hp1, hp2, hp3, hp4, hp5, hone, hp6⟩ := hyes R hc
        obtain ⟨G, capS, rfl⟩ := hp1.form (by omega)
        have HP : ∀ o, Hid (PatAt (w1.alloc o) (.slice (some ⟨G, 0, none⟩) Q.length capS) Q) := fun o => by
          obtain ⟨xs, h1, h2⟩ := hp1
          exact ⟨xs, ownsRow_of h1 (fun k hk => Below.heap_alloc _ _ _ (h1.lt k hk).2), h2⟩
        have HA := hide hp6
        have HW := hide hp5
        clear hno hyes hc ho1 hp1 hp2 hp5 hp6
        go_wp2_with fail
        refine (Find_any _ last Q R t HW.out hone HA.out hp4 (by omega) hp3 _ (HP _).out).mono ?_
        rintro e w2 ⟨ho2, best, hf, rfl⟩
        have HF := hide hf
        have HO2 := hide ho2
        clear hf ho2
        go_wp2
        go_ret3
        exact ⟨⟨fun h => absurd h HL.out, fun _ => ⟨fun h => (by rw [HC.out] at h; cases h), fun R' h => (by rw [HC.out] at h; cases h; exact ⟨best, HF.out, rfl⟩)⟩⟩, (HO1.out.alloc _).trans HO2.out (fun _ _ e => e)⟩
end Go.Proofs.YtdbdbaepmdmnfaaGreatDoor

namespace Go.Proofs.YtdbdbaepmdmnfaaGreatDoor
open Go.RowKit
theorem own_base {w : World} {B C : Nat} {e : TypeId} {z : Nat} {v : Value} {n : Nat} {xs : List Value} (h : w.ownsRow B e z v n xs) (hC : C ≤ B) : w.ownsRow C e z v n xs := by
  refine ⟨h.1, ?_⟩
  rcases h.2 with h1 | ⟨g, cap, cur, h1, h2, h3⟩
  · exact Or.inl h1
  · exact Or.inr ⟨g, cap, cur, h1, by omega, h3⟩
end Go.Proofs.YtdbdbaepmdmnfaaGreatDoor

