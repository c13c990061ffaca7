import Derived.Test.YtdbdbaepmdmnfaaGreatDoorQ32
import Derived.Test.YtdbdbaepmdmnfaaGreatDoorQ21
import Derived.Test.YtdbdbaepmdmnfaaGreatDoorQ17
import Derived.Test.YtdbdbaepmdmnfaaGreatDoorQ31
import Derived.RegionDies
namespace Go.Proofs.YtdbdbaepmdmnfaaGreatDoor
open Go.RowKit
set_option maxRecDepth 20000 in
set_option maxHeartbeats 4000000 in
theorem become_throws (m ab vb : Nat) (txt t : ByteArray) (po : Option Addr) (pn pc : Nat) (lst : Value) (size n code : Nat) (cs : List Value) (ht : t.size ≤ 500) (hw : 40 < (words [] t.data.toList).length) (a : Addr) (w : World) (hg : w.cell? ⟨2, 0, none⟩ = some (.iface 558 (.pointer (some a)))) (h : MAt w m ab vb txt (.slice po pn pc) lst size n code) (hv : VAt w vb cs) (f0 : cs[6]? = some (.int .i64 2)) (f1 : cs[7]? = some (.int .i64 0)) (f2 : cs[8]? = some (.string ⟨#[32]⟩)) :
    Calls Tryz.prog 132 #[.pointer (some ⟨m, 0, none⟩), .string t] w fun en w' => Threw a en ∧ Only (fun _ => False) w w' := by
  have HT := hide (mtext m ab vb txt (.slice po pn pc) lst size n code 2 2 0 ⟨#[32]⟩ (by decide) (by omega) w.drew h (hv.cell f0) (hv.cell f1) (hv.cell f2))
  have HB := hide (fun W hG hW => become_many m ab vb txt t po pn pc lst size n code ht hw a W hG hW)
  have HC := hide (mcheck_err (some ⟨m, 0, none⟩) a)
  have HM := hide h
  have HGl := hide hg
  have hgl := World.block_lt_of_cell? w ⟨2, 0, none⟩ hg
  clear h hv f0 f1 f2 hw ht hg
  go_enter Tryz.func132, Tryz.ntmps132
  go_upto_region 0 with fail
  go_region_dies
  rename_i K hK
  refine (HT.out).mono ?_
  rintro en w2 ⟨rfl, ho2⟩
  refine hK _ _ ?_
  clear hK K
  have HO2 := hide (fromDrew ho2)
  clear ho2
  refine wpAny_ready (rs := [7]) (by kernel_rfl) (by simp) ?_
  refine AllReady.cons rfl (fun K hK => ?_) AllReady.nil
  go_simp
  refine (HB.out _ ((HO2.out.cell (p := ⟨2, 0, none⟩) hgl (fun e => e)).trans HGl.out) (HM.out.only HO2.out (fun e => e))).mono ?_
  rintro en w3 ⟨rfl, ho3⟩
  refine hK _ _ ?_
  clear hK K
  have HO3 := hide ho3
  clear ho3
  refine wpAny_ready (rs := [8]) (by kernel_rfl) (by simp) ?_
  refine AllReady.cons rfl (fun K hK => ?_) AllReady.nil
  go_simp
  refine (HC.out _).mono ?_
  rintro en w4 ⟨rfl, ho4⟩
  exact ⟨rfl, rfl, (HO2.out.trans HO3.out (fun _ _ e => e)).trans ho4 (fun _ _ e => e)⟩
/-- The variables once a record was read: NR and NF. -/
def readVs (cs : List Value) (k : Nat) : List Value := ((cs.set 0 (.int .i64 1)).set 1 (.int .i64 (k + 1 : Nat))).set 2 (.string ⟨#[]⟩)
theorem readVs_get {cs : List Value} {k j : Nat} {x : Value} (h : cs[j]? = some x) (hj : 3 ≤ j) : (readVs cs k)[j]? = some x := setNe (setNe (setNe h (by omega)) (by omega)) (by omega)
set_option maxRecDepth 20000 in
set_option maxHeartbeats 4000000 in
theorem readR_any (m ab vb : Nat) (txt t : ByteArray) (po : Option Addr) (pn pc : Nat) (lst : Value) (size n code k : Nat) (hk : k ≤ 100000) (cs : List Value) (x3 x4 x5 : Value) (ht : t.size ≤ 500) (hw : (words [] t.data.toList).length ≤ 40) (w : World) (h : MAt w m ab vb txt (.slice po pn pc) lst size n code) (hv : VAt w vb cs) (h0 : cs[0]? = some (.int .i64 1)) (h1 : cs[1]? = some (.int .i64 k)) (h2 : cs[2]? = some (.string ⟨#[]⟩)) (h3 : cs[3]? = some x3) (h4 : cs[4]? = some x4) (h5 : cs[5]? = some x5) (f0 : cs[6]? = some (.int .i64 2)) (f1 : cs[7]? = some (.int .i64 0)) (f2 : cs[8]? = some (.string ⟨#[32]⟩)) (hne : m ≠ vb) :
    Calls Tryz.prog 100 #[.pointer (some ⟨m, 0, none⟩), .string t] w fun en w' => en = .returned (.tuple #[]) ∧ MRec w' m ab vb t lst size n code ∧ VAt w' vb ((((readVs cs k).set 3 (.int .i64 1)).set 4 (.int .i64 (words [] t.data.toList).length)).set 5 (.string ⟨#[]⟩)) ∧ Only (fun k => k = m ∨ k = vb) w w' := by
  have c1 : w.cell? ⟨m, 1, none⟩ = some (.slice (some ⟨vb, 0, none⟩) 7 7) := cell_of h rfl
  have v0 := hv.cell h0
  have v1 := hv.cell h1
  have v2 := hv.cell h2
  have vf := free_of hv
  have vl := heap_lt hv
  have ml := heap_lt h
  have hwr : IntKind.i64.wrap ((k : Int) + 1) = (k : Int) + 1 := by rw [IntKind.wrap_i64]; omega
  have HN := hide (fun W => number_else 1 k ⟨#[]⟩ W rfl)
  have HO : Hid (∀ W, Calls Tryz.prog 95 #[.int .i64 ((k : Int) + 1)] W fun en w' => en = .returned (.agg #[.int .i64 1, .int .i64 ((k : Int) + 1), .string ⟨#[]⟩]) ∧ w' = W.alloc (.cells #[.int .i64 1, .int .i64 ((k : Int) + 1), .string ⟨#[]⟩] 203)) := hide (ofNumber ((k : Int) + 1))
  have HB := hide (fun W hM hV => become_do m ab vb txt t po pn pc lst size n code (readVs cs k) x3 x4 x5 ht hw W hM hV (readVs_get h3 (by omega)) (readVs_get h4 (by omega)) (readVs_get h5 (by omega)) (readVs_get f0 (by omega)) (readVs_get f1 (by omega)) (readVs_get f2 (by omega)) hne)
  have HM := hide h
  have HV := hide hv
  have HNe := hide hne
  clear h hv h0 h1 h2 h3 h4 h5 f0 f1 f2 hw ht
  go_enter Tryz.func100, Tryz.ntmps100
  go_upto_region 0 with fail
  go_region_with (first | (go_at_call 131; refine (HN.out _).mono ?_; rintro en w2 ⟨rfl, hb⟩; have ho2 := Only.ofBelow hb (fun _ => False); have c1' := (ho2.cell (p := ⟨m, 1, none⟩) ml (fun e => e)).trans c1; have v0' := (ho2.cell (p := ⟨vb, 0, none⟩) vl (fun e => e)).trans v0; have v1' := (ho2.cell (p := ⟨vb, 1, none⟩) vl (fun e => e)).trans v1; have v2' := (ho2.cell (p := ⟨vb, 2, none⟩) vl (fun e => e)).trans v2; have hv2 := HV.out.only (fromDrew ho2) (fun e => e); have vf' := free_of hv2; have vl' := heap_lt hv2; have ml' : m < w2.heap.size := Nat.lt_of_lt_of_le ml ho2.size; have HO2 := hide (fromDrew ho2); have HV2 := hide hv2; clear hv2 ho2 hb) | (go_at_call 95; refine (HO.out _).mono ?_; rintro en w3 ⟨rfl, hw3⟩; subst hw3))
  all_goals
    go_wp2_with fail
    have hO4 := hide (HO2.out.mono (E := fun k => k = vb) (fun _ _ e => e.elim) |>.setCell (p := ⟨vb, 0, none⟩) (fun _ => rfl) (.int .i64 1) |>.setCell (p := ⟨vb, 1, none⟩) (fun _ => rfl) (.int .i64 ((k : Int) + 1)) |>.setCell (p := ⟨vb, 2, none⟩) (fun _ => rfl) (.string ⟨#[]⟩) |>.alloc (.cells #[.int .i64 1, .int .i64 ((k : Int) + 1), .string ⟨#[]⟩] 203))
    have hV4 := hide (((HV2.out.set 0 (.int .i64 1)).set 1 (.int .i64 ((k : Int) + 1))).set 2 (.string ⟨#[]⟩))
    refine (HB.out _ (HM.out.only hO4.out (fun e => HNe.out e)) ((Below.heap_alloc _ _ _ (heap_lt hV4.out)).trans hV4.out)).mono ?_
    rintro en w4 ⟨rfl, hm4, hv4, ho4⟩
    have HM4 := hide hm4
    have HV4 := hide hv4
    have HO4 := hide ho4
    clear hm4 hv4 ho4
    go_wp2
    go_end0
    exact ⟨rfl, HM4.out, HV4.out, (hO4.out.mono (E := fun k => k = m ∨ k = vb) (fun _ _ e => Or.inr e)).trans HO4.out (fun _ _ e => e)⟩
set_option maxRecDepth 20000 in
set_option maxHeartbeats 4000000 in
theorem read_throws (m ab vb : Nat) (txt t : ByteArray) (po : Option Addr) (pn pc : Nat) (lst : Value) (size n code k : Nat) (hk : k ≤ 100000) (cs : List Value) (ht : t.size ≤ 500) (hw : 40 < (words [] t.data.toList).length) (a : Addr) (w : World) (hg : w.cell? ⟨2, 0, none⟩ = some (.iface 558 (.pointer (some a)))) (hgv : vb ≠ 2) (h : MAt w m ab vb txt (.slice po pn pc) lst size n code) (hv : VAt w vb cs) (h0 : cs[0]? = some (.int .i64 1)) (h1 : cs[1]? = some (.int .i64 k)) (h2 : cs[2]? = some (.string ⟨#[]⟩)) (f0 : cs[6]? = some (.int .i64 2)) (f1 : cs[7]? = some (.int .i64 0)) (f2 : cs[8]? = some (.string ⟨#[32]⟩)) (hne : m ≠ vb) :
    Calls Tryz.prog 100 #[.pointer (some ⟨m, 0, none⟩), .string t] w fun en w' => Threw a en ∧ (∃ cs', VAt w' vb cs') ∧ Only (fun k => k = vb) w w' := by
  have c1 : w.cell? ⟨m, 1, none⟩ = some (.slice (some ⟨vb, 0, none⟩) 7 7) := cell_of h rfl
  have v0 := hv.cell h0
  have v1 := hv.cell h1
  have v2 := hv.cell h2
  have vf := free_of hv
  have vl := heap_lt hv
  have ml := heap_lt h
  have gl := World.block_lt_of_cell? w ⟨2, 0, none⟩ hg
  have hwr : IntKind.i64.wrap ((k : Int) + 1) = (k : Int) + 1 := by rw [IntKind.wrap_i64]; omega
  have HN := hide (fun W => number_else 1 k ⟨#[]⟩ W rfl)
  have HO : Hid (∀ W, Calls Tryz.prog 95 #[.int .i64 ((k : Int) + 1)] W fun en w' => en = .returned (.agg #[.int .i64 1, .int .i64 ((k : Int) + 1), .string ⟨#[]⟩]) ∧ w' = W.alloc (.cells #[.int .i64 1, .int .i64 ((k : Int) + 1), .string ⟨#[]⟩] 203)) := hide (ofNumber ((k : Int) + 1))
  have HB := hide (fun W hG hM hV => become_throws m ab vb txt t po pn pc lst size n code (readVs cs k) ht hw a W hG hM hV (readVs_get f0 (by omega)) (readVs_get f1 (by omega)) (readVs_get f2 (by omega)))
  have HM := hide h
  have HV := hide hv
  have HNe := hide hne
  have HGl := hide hg
  have HGv := hide hgv
  clear h hv h0 h1 h2 f0 f1 f2 hw ht hg hgv
  go_enter Tryz.func100, Tryz.ntmps100
  go_upto_region 0 with fail
  go_region_with (first | (go_at_call 131; refine (HN.out _).mono ?_; rintro en w2 ⟨rfl, hb⟩; have ho2 := Only.ofBelow hb (fun _ => False); have c1' := (ho2.cell (p := ⟨m, 1, none⟩) ml (fun e => e)).trans c1; have v0' := (ho2.cell (p := ⟨vb, 0, none⟩) vl (fun e => e)).trans v0; have v1' := (ho2.cell (p := ⟨vb, 1, none⟩) vl (fun e => e)).trans v1; have v2' := (ho2.cell (p := ⟨vb, 2, none⟩) vl (fun e => e)).trans v2; have hv2 := HV.out.only (fromDrew ho2) (fun e => e); have vf' := free_of hv2; have vl' := heap_lt hv2; have ml' : m < w2.heap.size := Nat.lt_of_lt_of_le ml ho2.size; have HO2 := hide (fromDrew ho2); have HV2 := hide hv2; clear hv2 ho2 hb) | (go_at_call 95; refine (HO.out _).mono ?_; rintro en w3 ⟨rfl, hw3⟩; subst hw3))
  all_goals
    go_wp2_with fail
    have hO4 := hide (HO2.out.mono (E := fun k => k = vb) (fun _ _ e => e.elim) |>.setCell (p := ⟨vb, 0, none⟩) (fun _ => rfl) (.int .i64 1) |>.setCell (p := ⟨vb, 1, none⟩) (fun _ => rfl) (.int .i64 ((k : Int) + 1)) |>.setCell (p := ⟨vb, 2, none⟩) (fun _ => rfl) (.string ⟨#[]⟩) |>.alloc (.cells #[.int .i64 1, .int .i64 ((k : Int) + 1), .string ⟨#[]⟩] 203))
    have hV4 := hide (((HV2.out.set 0 (.int .i64 1)).set 1 (.int .i64 ((k : Int) + 1))).set 2 (.string ⟨#[]⟩))
    refine (HB.out _ ((hO4.out.cell (p := ⟨2, 0, none⟩) gl (fun e => HGv.out e.symm)).trans HGl.out) (HM.out.only hO4.out (fun e => HNe.out e)) ((Below.heap_alloc _ _ _ (heap_lt hV4.out)).trans hV4.out)).mono ?_
    rintro en w4 ⟨rfl, ho4⟩
    have HO4 := hide ho4
    clear ho4
    go_wp2
    exact ⟨rfl, rfl, ⟨_, (HO4.out.block vb (heap_lt ((Below.heap_alloc _ _ _ (heap_lt hV4.out)).trans hV4.out)) (fun e => e)).trans ((Below.heap_alloc _ _ _ (heap_lt hV4.out)).trans hV4.out)⟩, hO4.out.trans HO4.out (fun _ _ e => e.elim)⟩
end Go.Proofs.YtdbdbaepmdmnfaaGreatDoor
namespace Go.Proofs.YtdbdbaepmdmnfaaGreatDoor
open Go.RowKit
set_option maxRecDepth 100000 in
theorem mk217one (w : World) : (Instr.makeSlice 132 (.int .i64 1) (.int .i64 1)).run Tryz.prog w = .ok (.slice (some ⟨w.heap.size, 0, none⟩) 1 1) (w.alloc (.cells #[.nilFunc] 185)) := by kernel_rfl
theorem set1a {w : World} {b t : Nat} {x : Value} (h : w.heap[b]? = some (.cells #[x] t (0, 0))) (u : Value) : (w.setCell ⟨b, 0, none⟩ u).heap[b]? = some (.cells #[u] t (0, 0)) := heap_setCell_same h u
/-- A made block of one statement. -/
def BlockF1 (I : Nat → World → Value → Prop) (B : Nat) (w : World) (v : Value) : Prop := ∃ lc g x, v = .func (.func 127) #[] #[.pointer (some ⟨lc, 0, none⟩)] ∧ (B ≤ lc ∧ B ≤ g) ∧ w.heap[lc]? = some (.cells #[.slice (some ⟨g, 0, none⟩) 1 1] 132 (0, 0)) ∧ w.heap[g]? = some (.cells #[x] 185 (0, 0)) ∧ I B w x
theorem block1_keeps {I : Nat → World → Value → Prop} (hI : Keeps I) : Keeps (BlockF1 I) where
  isF := fun _ _ _ ⟨_, _, _, e, _⟩ => ⟨_, _, e⟩
  keep := fun B w w' x ⟨lc, g, y, e, ⟨k1, k2⟩, h1, h2, h3⟩ ho => ⟨lc, g, y, e, ⟨k1, k2⟩, (ho.block lc (heap_lt h1) (by omega)).trans h1, (ho.block g (heap_lt h2) (by omega)).trans h2, hI.keep _ _ _ _ h3 ho⟩
  down := fun A B w x ⟨lc, g, y, e, ⟨k1, k2⟩, h1, h2, h3⟩ hA => ⟨lc, g, y, e, ⟨by omega, by omega⟩, h1, h2, hI.down _ _ _ _ h3 hA⟩
set_option maxRecDepth 20000 in
set_option maxHeartbeats 4000000 in
theorem block1_made (kp : Option Addr) (I : Nat → World → Value → Prop) (hI : Keeps I) (r cap : Nat) (t0 : Nat) (u0 : Value) (w : World) (hr : r < w.heap.size) (e0 : w.cell? ⟨r, 0, none⟩ = some (.iface t0 u0)) (H0 : StmtOK kp w (.iface t0 u0) I) :
    Calls Tryz.prog 91 #[.pointer kp, .slice (some ⟨r, 0, none⟩) 1 cap] w fun en w' => ∃ x, en = .returned (.agg #[x]) ∧ BlockF1 I w.heap.size w' x ∧ Only (fun _ => False) w w' := by
  have hmf := hmfT
  have hsf := hsfT
  have hsn := hsnT
  have hmk := mk217one
  have K0 := hide H0
  have HI := hide hI
  clear hI H0
  go_enter Tryz.func91, Tryz.ntmps91
  go_wp2
  go_loopg [13] 1 (fun gh s13 wr => ∃ k : Nat, ∃ x, k ≤ 1 ∧ gh = 1 - k ∧ s13 = .int .i64 k ∧ wr.heap[w.heap.size]? = some (.cells #[.nilFunc] 185 (0, 0)) ∧ wr.heap[w.heap.size + 1]? = some (.cells #[x] 185 (0, 0)) ∧ wr.heap[w.heap.size + 1 + 1]? = some (.cells #[.slice (some ⟨w.heap.size + 1, 0, none⟩) 1 1] 132 (0, 0)) ∧ (1 ≤ k → I (w.heap.size + 1 + 1 + 1) wr x) ∧ Only (fun _ => False) w wr)
  case atStart =>
    refine ⟨0, .nilFunc, by omega, rfl, rfl, ?_, ?_, ?_, (by omega), ((onlyA w _).alloc _).alloc _⟩
    · exact (Below.heap_alloc _ _ _ (by simp <;> omega)).trans ((Below.heap_alloc _ _ _ (by simp <;> omega)).trans (new0 w _))
    · exact (Below.heap_alloc _ _ _ (by simp <;> omega)).trans (new_at2 (by simp) _)
    · exact new_at2 (by simp) _
  case round =>
    obtain ⟨k, x, hk, hgh, rfl, h0, h1, h2, hx, ho⟩ := hrel
    have hzz := heap_lt h2
    have hrr : r < wr.heap.size := by omega
    have q0 := (ho.cell (p := ⟨r, 0, none⟩) hr (fun e => e)).trans e0
    have l0 : wr.cell? ⟨w.heap.size + 1 + 1, 0, none⟩ = some (.slice (some ⟨w.heap.size + 1, 0, none⟩) 1 1) := cell_of h2 rfl
    have B0 := hide h0
    have B1 := hide h1
    have B2 := hide h2
    have X0 := hide hx
    have HO := hide ho
    have HG := hide hgh
    clear h0 h1 h2 hx ho hgh
    have hk3 : k = 0 ∨ k = 1 := by omega
    rcases hk3 with rfl | rfl
    · go_upto_region 5 with fail
      go_region_held3 (fun W => W.cell? ⟨w.heap.size + 1 + 1, 0, none⟩ = some (.slice (some ⟨w.heap.size + 1, 0, none⟩) 1 1)) (first | (with_reducible assumption) | go_keep | skip)
        (first | (go_at_call 126; refine (K0.out _ (toDrew HO.out)).mono ?_; rintro en w2 ⟨z, rfl, hz, ho2⟩; obtain ⟨F, fcap, rfl⟩ := HI.out.isF _ _ _ hz; have hb0 := (ho2.block w.heap.size (heap_lt B0.out) (fun e => e)).trans B0.out; have hb1 := (ho2.block (w.heap.size + 1) (heap_lt B1.out) (fun e => e)).trans B1.out; have hb2 := (ho2.block (w.heap.size + 1 + 1) (heap_lt B2.out) (fun e => e)).trans B2.out; have m0 : w2.cell? ⟨w.heap.size + 1 + 1, 0, none⟩ = some (.slice (some ⟨w.heap.size + 1, 0, none⟩) 1 1) := cell_of hb2 rfl; have m1 : w2.cell? ⟨w.heap.size + 1, 0, none⟩ = some x := cell_of hb1 rfl; have mf := free_of hb1; have ml := heap_lt hb1; have C0 := hide hb0; have C1 := hide hb1; have C2 := hide hb2; have HZ := hide hz; have HO2 := hide ho2; clear hb0 hb1 hb2 hz ho2))
      all_goals
        go_wp2
        go_roundg 0
        case measure => rw [HG.out]; omega
        case rel =>
          refine ⟨1, .func (.func F) #[] fcap, by omega, rfl, by go_num, ?_, set1a C1.out _, ?_, fun _ => HI.out.keep _ _ _ _ (HI.out.down _ _ _ _ HZ.out (by show _ ≤ wr.heap.size; omega)) ?_, ?_⟩
          · exact (Below.heap_setCell _ _ _ _ (by show w.heap.size ≠ w.heap.size + 1; omega)).trans C0.out
          · exact (Below.heap_setCell _ _ _ _ (by show w.heap.size + 1 + 1 ≠ w.heap.size + 1; omega)).trans C2.out
          · exact (Only.refl _ w2).setCell (p := ⟨w.heap.size + 1, 0, none⟩) (fun _ => by show w.heap.size + 1 < _; omega) _
          · exact (HO.out.trans (fromDrew HO2.out) (fun _ _ e => e)).setCell (p := ⟨w.heap.size + 1, 0, none⟩) (fun h => absurd h (by show ¬ w.heap.size + 1 < w.heap.size; omega)) _
    · have r0 : wr.cell? ⟨w.heap.size, 0, none⟩ = some .nilFunc := cell_of B0.out rfl
      have rf := free_of B0.out
      have rl := heap_lt B0.out
      go_wp2
      refine bodyPost_ret (v := .agg #[.func (.func 127) #[] #[.pointer (some ⟨w.heap.size + 1 + 1, 0, none⟩)]]) (by simp [results, Tryz.results91, go_sem, r0]) rfl ⟨_, rfl, (block1_keeps HI.out).down w.heap.size (w.heap.size + 1) _ _ ((block1_keeps HI.out).keep _ wr _ _ ⟨w.heap.size + 1 + 1, w.heap.size + 1, x, rfl, ⟨by omega, by omega⟩, B2.out, B1.out, HI.out.down _ _ _ _ (X0.out (by omega)) (by omega)⟩ ((Only.refl _ wr).setCell (p := ⟨w.heap.size, 0, none⟩) (fun _ => by show w.heap.size < _; omega) _)) (by omega), ?_⟩
      · exact HO.out.setCell (p := ⟨w.heap.size, 0, none⟩) (fun h => absurd h (by show ¬ w.heap.size < w.heap.size; omega)) _
/-- The block of a program that prints each record. -/
def KP : Nat → World → Value → Prop := BlockF1 (StF PrintF)
theorem kp_keeps : Keeps KP := block1_keeps (st_keeps print_keeps)
theorem body1_ok (r cap : Nat) (w : World) (hrl : r < w.heap.size) (e0 : w.cell? ⟨r, 0, none⟩ = some printV) (kp : Option Addr) : BodyOK kp w (.slice (some ⟨r, 0, none⟩) 1 cap) KP := fun W hW => by
  refine block1_made kp (StF PrintF) (st_keeps print_keeps) r cap 285 _ W (Nat.lt_of_lt_of_le hrl hW.size) ((hW.cell (p := ⟨r, 0, none⟩) hrl (fun e => e)).trans e0) ?_
  intro W2 h2
  exact stmt_made kp _ print_keeps 285 _ W2 (ts419_191 _) (tx419_470 _) (fun W3 h3 => counted_print kp W3)
end Go.Proofs.YtdbdbaepmdmnfaaGreatDoor
namespace Go.Proofs.YtdbdbaepmdmnfaaGreatDoor
open Go.RowKit
theorem strCells_append (a b : ByteArray) : Lib.strCells (a ++ b) = Lib.strCells a ++ Lib.strCells b := by
  unfold Lib.strCells
  rw [ByteArray.data_append]
  simp
set_option maxRecDepth 20000 in
set_option maxHeartbeats 4000000 in
/-- A text put out behind what was put out. -/
theorem put_more (C m ab vb sb : Nat) (txt : ByteArray) (flds tv : Value) (n code : Nat) (out s : ByteArray) (hs : s.size ≤ 1000) (hos : out.size + s.size ≤ 4000) (w : World) (hCw : C ≤ w.heap.size) (h : MAt w m ab vb txt flds (.slice (some ⟨sb, 0, none⟩) 1 1) out.size n code) (hS : w.heap[sb]? = some (.cells #[.string ⟨#[]⟩, tv] 142 (0, 0))) (hown0 : w.ownsRow C 5 1 tv out.size (Lib.strCells out)) :
    Calls Tryz.prog 376 #[.pointer (some ⟨m, 5, none⟩), .string ⟨#[]⟩, .string s] w fun en w' => en = .returned .nilIface ∧ MAt w' m ab vb txt flds (.slice (some ⟨sb, 0, none⟩) 1 1) (out ++ s).size n code ∧ (∃ tv, w'.heap[sb]? = some (.cells #[.string ⟨#[]⟩, tv] 142 (0, 0)) ∧ w'.ownsRow C 5 1 tv (out ++ s).size (Lib.strCells (out ++ s))) ∧ Only (fun k => k = m ∨ k = sb ∨ C ≤ k) w w' := by
  obtain ⟨i0, hi, hz0, hz1, hz2⟩ := info_parts infoByte5
  have hne : sb ≠ m := fun e => by have h1 := h; unfold MAt at h1; rw [← e, hS] at h1; cases h1
  have c5 : w.cell? ⟨m, 5, none⟩ = some (.slice (some ⟨sb, 0, none⟩) 1 1) := cell_of h rfl
  have c6 : w.cell? ⟨m, 6, none⟩ = some (.int .i64 out.size) := cell_of h rfl
  have cf := free_of h
  have s0 : w.cell? ⟨sb, 0, none⟩ = some (.string ⟨#[]⟩) := cell_of hS rfl
  have s1 : w.cell? ⟨sb, 1, none⟩ = some tv := cell_of hS rfl
  have sf := free_of hS
  have hli : ¬ (4000 : Int) < (out.size : Int) + (s.size : Int) := by omega
  have hS6 : (w.setCell ⟨m, 6, none⟩ (.int .i64 ((out.size : Int) + (s.size : Int)))).heap[sb]? = some (.cells #[.string ⟨#[]⟩, tv] 142 (0, 0)) := (Below.heap_setCell _ _ _ _ hne).trans hS
  have hM6 := h.setSize (out.size + s.size)
  have hM6 : MAt (w.setCell ⟨m, 6, none⟩ (.int .i64 ((out.size : Int) + (s.size : Int)))) m ab vb txt flds (.slice (some ⟨sb, 0, none⟩) 1 1) (out.size + s.size) n code := by
    rw [show ((out.size : Int) + (s.size : Int)) = ((out.size + s.size : Nat) : Int) by omega]; exact hM6
  have HN := hide (named_main m 5 sb _ (cell_of hM6 rfl) (cell_of hS6 rfl))
  have htm := own_tag hown0 h (by decide)
  have hto := own_tag hown0 hS (by decide)
  have hown6 : (w.setCell ⟨m, 6, none⟩ (.int .i64 ((out.size : Int) + (s.size : Int)))).ownsRow C 5 1 tv out.size (Lib.strCells out) := ownsRow_of hown0 (fun k hk => Below.heap_setCell _ _ _ _ (fun e => htm (by rw [hk, e])))
  have HM6 := hide hM6
  have HS6 := hide hS6
  have HTm := hide htm
  have HTo := hide hto
  have HCw := hide hCw
  have HOw0 := hide hown0
  clear h hS hM6 hS6 htm hto hown0 hCw
  obtain ⟨po, pc, rfl⟩ := ownsRow_slice hown6
  have HOw6 := hide hown6
  clear hown6
  go_enter Tryz.func376, Tryz.ntmps376
  go_wp2_with (first | (go_at_call 434; refine (HN.out).mono ?_; rintro en w2 ⟨rfl, hw2⟩; subst hw2) | (at_builtin; refine Lib.wpList_append_own_string _ rfl _ _ 54 9 rfl C 5 i0 Tryz.underlying54 Tryz.underlying9 hi hz0 hz1 hz2 (.slice po out.size pc) out.size (Lib.strCells out) rfl HOw6.out s rfl (by unfold maxLen; omega) (by omega) (by have := HCw.out; simpa using this) ?_; intro v' w3 hown hgrow _; obtain ⟨ao, cap, rfl⟩ := ownsRow_slice hown; have hb3 := (hgrow.block sb (heap_lt HS6.out) (fun e => HTo.out e.symm)).trans HS6.out; have t1 : w3.cell? ⟨sb, 1, none⟩ = some (.slice po out.size pc) := cell_of hb3 rfl; have tf := free_of hb3; have HB3 := hide hb3; have HOw := hide hown; have HG := hide hgrow; clear hb3 hown hgrow))
  go_ret
  have hrow : w3.ownsRow C 5 1 (.slice ao (out.size + s.size) cap) (out ++ s).size (Lib.strCells (out ++ s)) := by rw [ByteArray.size_append, strCells_append]; exact HOw.out
  have hnt := own_tag hrow HB3.out (by decide)
  refine ⟨rfl, ?_, ⟨.slice ao (out.size + s.size) cap, heap_setCell_same HB3.out _, ownsRow_of hrow (fun k hk => Below.heap_setCell _ _ _ _ (fun e => hnt (by rw [hk, e])))⟩, ?_⟩
  · rw [ByteArray.size_append]
    exact (Below.heap_setCell _ _ _ _ (Ne.symm hne)).trans ((HG.out.block m (heap_lt HM6.out) (fun e => HTm.out e.symm)).trans HM6.out)
  · exact (((Only.refl (fun k => k = m ∨ k = sb ∨ C ≤ k) w).setCell (p := ⟨m, 6, none⟩) (fun _ => Or.inl rfl) _).grown HG.out (fun q hq _ => Or.inr (Or.inr (HOw0.out.lt q hq).1))).setCell (p := ⟨sb, 1, none⟩) (fun _ => Or.inr (Or.inl rfl)) _
set_option maxRecDepth 20000 in
set_option maxHeartbeats 4000000 in
theorem mput_more (C m ab vb sb : Nat) (txt : ByteArray) (flds tv : Value) (n code : Nat) (out s : ByteArray) (hs : s.size ≤ 1000) (hos : out.size + s.size ≤ 4000) (w : World) (hCw : C ≤ w.heap.size) (h : MAt w m ab vb txt flds (.slice (some ⟨sb, 0, none⟩) 1 1) out.size n code) (hS : w.heap[sb]? = some (.cells #[.string ⟨#[]⟩, tv] 142 (0, 0))) (hown0 : w.ownsRow C 5 1 tv out.size (Lib.strCells out)) :
    Calls Tryz.prog 284 #[.pointer (some ⟨m, 0, none⟩), .string ⟨#[]⟩, .string s] w fun en w' => en = .returned (.tuple #[]) ∧ MAt w' m ab vb txt flds (.slice (some ⟨sb, 0, none⟩) 1 1) (out ++ s).size n code ∧ (∃ tv, w'.heap[sb]? = some (.cells #[.string ⟨#[]⟩, tv] 142 (0, 0)) ∧ w'.ownsRow C 5 1 tv (out ++ s).size (Lib.strCells (out ++ s))) ∧ Only (fun k => k = m ∨ k = sb ∨ C ≤ k) w w' := by
  have HP := hide (put_more C m ab vb sb txt flds tv n code out s hs hos w hCw h hS hown0)
  have HC := hide (check_nil (some ⟨m, 0, none⟩))
  clear h hS hown0
  go_enter Tryz.func284, Tryz.ntmps284
  go_wp2_with (first | (go_at_call 376; refine (HP.out).mono ?_; rintro en w2 ⟨rfl, h1, h2, h3⟩; have H1 := hide h1; have H2 := hide h2; have H3 := hide h3; clear h1 h2 h3) | (go_at_call 166; refine (HC.out _).mono ?_; rintro en w' ⟨rfl, h3⟩; subst w'))
  go_end0
  exact ⟨rfl, H1.out, H2.out, H3.out⟩
end Go.Proofs.YtdbdbaepmdmnfaaGreatDoor
namespace Go.Proofs.YtdbdbaepmdmnfaaGreatDoor
open Go.RowKit
set_option maxRecDepth 20000 in
set_option maxHeartbeats 4000000 in
/-- A print that was made, done: the record behind what was put out. -/
theorem print_more (C m ab vb sb lb eb c : Nat) (po : Option Addr) (lcap : Nat) (txt out : ByteArray) (flds tv : Value) (n code : Nat) (htx : txt.size ≤ 900) (hos : out.size + txt.size + 1 ≤ 4000) (w : World) (hCw : C ≤ w.heap.size) (h : MAt w m ab vb txt flds (.slice (some ⟨sb, 0, none⟩) 1 1) out.size n code) (hS : w.heap[sb]? = some (.cells #[.string ⟨#[]⟩, tv] 142 (0, 0))) (hown : w.ownsRow C 5 1 tv out.size (Lib.strCells out))
    (v0 : w.cell? ⟨vb, 12, none⟩ = some (.int .i64 2)) (v1 : w.cell? ⟨vb, 13, none⟩ = some (.int .i64 0)) (v2 : w.cell? ⟨vb, 14, none⟩ = some (.string ⟨#[10]⟩)) (hvb : vb < w.heap.size)
    (hl : w.cell? ⟨lb, 0, none⟩ = some (.slice po 0 lcap)) (hlb : lb < w.heap.size) (he : w.cell? ⟨eb, 0, none⟩ = some (.func (.func 298) #[] #[.pointer (some ⟨c, 0, none⟩)])) (heb : eb < w.heap.size)
    (k0 : w.cell? ⟨c, 0, none⟩ = some (.int .i64 0)) (k1 : w.cell? ⟨c, 1, none⟩ = some (.int .i64 0)) (k2 : w.cell? ⟨c, 2, none⟩ = some (.string ⟨#[]⟩)) (hc : c < w.heap.size) :
    Calls Tryz.prog 280 #[.pointer (some ⟨m, 0, none⟩), .pointer (some ⟨lb, 0, none⟩), .pointer (some ⟨eb, 0, none⟩)] w fun en w' => en = .returned (.int .i64 0) ∧ MAt w' m ab vb txt flds (.slice (some ⟨sb, 0, none⟩) 1 1) (out ++ (txt ++ ⟨#[10]⟩)).size n code ∧ (∃ tv, w'.heap[sb]? = some (.cells #[.string ⟨#[]⟩, tv] 142 (0, 0)) ∧ w'.ownsRow C 5 1 tv (out ++ (txt ++ ⟨#[10]⟩)).size (Lib.strCells (out ++ (txt ++ ⟨#[10]⟩)))) ∧ Only (fun k => k = m ∨ k = sb ∨ C ≤ k) w w' := by
  have hcf := cf480
  have HT := hide (textsOf_none (some ⟨m, 0, none⟩) po lcap w)
  have O1 := onlyA w (.cells #[] 9)
  have HC := hide (const_do (some ⟨m, 0, none⟩) c 0 0 ⟨#[]⟩ _ ((O1.cell (p := ⟨c, 0, none⟩) hc (fun e => e)).trans k0) ((O1.cell (p := ⟨c, 1, none⟩) hc (fun e => e)).trans k1) ((O1.cell (p := ⟨c, 2, none⟩) hc (fun e => e)).trans k2))
  have O2 := O1.alloc (.cells #[.int .i64 0, .int .i64 0, .string ⟨#[]⟩] 203)
  have HX := hide (text_any 0 0 ⟨#[]⟩ ((w.alloc (.cells #[] 9)).alloc (.cells #[.int .i64 0, .int .i64 0, .string ⟨#[]⟩] 203)) (by decide))
  have HM := hide h
  have HS := hide hS
  have HOw := hide hown
  have HCw := hide hCw
  have HO2 := hide O2
  clear h hS hown hCw O1 O2 k0 k1 k2
  go_enter Tryz.func280, Tryz.ntmps280
  go_wp2_with (first | (go_at_call 281; refine (HT.out).mono ?_; rintro en w2 ⟨rfl, hw2⟩; subst hw2) | (go_at_call 298; refine (HC.out).mono ?_; rintro en w2 ⟨rfl, hw2⟩; subst hw2))
  refine (HX.out).mono ?_
  rintro en w3 ⟨rfl, hb3⟩
  have O3 : Only (fun _ => False) w w3 := HO2.out.trans (Only.ofBelow hb3 (fun _ => False)) (fun _ _ e => e)
  have hM3 := HM.out.only O3 (fun e => e)
  have HR := hide (record_text m ab vb txt flds _ out.size n code w3 hM3)
  have l3 := (O3.cell (p := ⟨lb, 0, none⟩) hlb (fun e => e)).trans hl
  have HX2 := hide (mtext m ab vb txt flds _ out.size n code 4 2 0 ⟨#[10]⟩ (by decide) (by omega) w3 hM3 ((O3.cell (p := ⟨vb, 12, none⟩) hvb (fun e => e)).trans v0) ((O3.cell (p := ⟨vb, 13, none⟩) hvb (fun e => e)).trans v1) ((O3.cell (p := ⟨vb, 14, none⟩) hvb (fun e => e)).trans v2))
  have HO3 := hide O3
  clear hb3 O3 hM3 HX
  go_wp2_with (first | (go_at_call 282; refine (HR.out).mono ?_; rintro en w' ⟨rfl, h3⟩; subst w'))
  refine (HX2.out).mono ?_
  rintro en w4 ⟨rfl, ho4⟩
  have O4 : Only (fun _ => False) w w4 := HO3.out.trans ho4 (fun _ _ e => e)
  have HP := hide (mput_more C m ab vb sb txt flds tv n code out (txt ++ ⟨#[10]⟩) (by rw [ByteArray.size_append]; show txt.size + 1 ≤ 1000; omega) (by rw [ByteArray.size_append]; show out.size + (txt.size + 1) ≤ 4000; omega) w4 (Nat.le_trans HCw.out O4.size) (HM.out.only O4 (fun e => e)) ((O4.block sb (heap_lt HS.out) (fun e => e)).trans HS.out) (ownsRow_of HOw.out (fun k hk => O4.block k (HOw.out.lt k hk).2 (fun e => e))))
  have HO4 := hide O4
  clear ho4 O4 HX2
  go_wp2_with (go_at_call 284; refine (HP.out).mono ?_; rintro en w5 ⟨rfl, h1, h2, h3⟩; have H1 := hide h1; have H2 := hide h2; have H3 := hide h3; clear h1 h2 h3)
  go_ret
  exact ⟨rfl, H1.out, H2.out, (HO4.out.mono (E := fun k => k = m ∨ k = sb ∨ C ≤ k) (fun _ _ e => e.elim)).trans H3.out (fun _ _ e => e)⟩
end Go.Proofs.YtdbdbaepmdmnfaaGreatDoor
namespace Go.Proofs.YtdbdbaepmdmnfaaGreatDoor
open Go.RowKit
/-- A run under way that has put out a text. -/
structure UnderL (wN wS W : World) (m ab vb sb : Nat) (txt out : ByteArray) (n : Nat) (cs : List Value) : Prop where
  hNS : wN.heap.size ≤ wS.heap.size
  lm : m < wS.heap.size
  lv : vb < wS.heap.size
  ls : sb < wS.heap.size
  ex : ∃ tv, Under wN wS W m ab vb sb txt out.size n tv cs ∧ W.ownsRow wS.heap.size 5 1 tv out.size (Lib.strCells out)
theorem UnderL.calm {wN wS W W' m ab vb sb txt out n cs} (h : UnderL wN wS W m ab vb sb txt out n cs) (ho : Only (fun _ => False) W W') : UnderL wN wS W' m ab vb sb txt out n cs := by
  obtain ⟨a, b, c, d, tv, h1, h2⟩ := h
  exact ⟨a, b, c, d, tv, h1.calm ho, ownsRow_of h2 (fun k hk => ho.block k (h2.lt k hk).2 (fun e => e))⟩
theorem UnderL.step {wN wS W m ab vb sb txt out n cs} (h : UnderL wN wS W m ab vb sb txt out (n + 1) cs) : UnderL wN wS (W.setCell ⟨m, 7, none⟩ (.int .i64 n)) m ab vb sb txt out n cs := by
  obtain ⟨a, b, c, d, tv, h1, h2⟩ := h
  obtain ⟨po, pn, pc, hM⟩ := h1.hM
  have hne := own_tag h2 hM (by decide)
  exact ⟨a, b, c, d, tv, h1.step, ownsRow_of h2 (fun k hk => Below.heap_setCell _ _ _ _ (fun e => hne (by rw [hk, e])))⟩
/-- The printing statement, done: the record behind what was put out. -/
theorem print_stmt_more (B : Nat) (wN wS : World) (x : Value) (hx : StF PrintF B wN x) (m ab vb sb n : Nat) (cs : List Value) (hcs : Vs cs) (hn : n ≤ 100000) (txt out : ByteArray) (htx : txt.size ≤ 900) (hos : out.size + txt.size + 1 ≤ 4000) (W : World) (h : UnderL wN wS W m ab vb sb txt out (n + 1) cs) :
    ∃ F caps, x = .func (.func F) #[] (caps : List Value).toArray ∧ F = 162 ∧ Calls Tryz.prog F (.pointer (some ⟨m, 0, none⟩) :: caps).toArray W fun en w' => en = .returned (.int .i64 0) ∧ UnderL wN wS w' m ab vb sb txt (out ++ (txt ++ ⟨#[10]⟩)) n cs := by
  obtain ⟨hNS, lm, lv, ls, tv, hS, hown⟩ := h.step
  obtain ⟨_, _, _, _, tv0, h, _⟩ := h
  have hx2 := (st_keeps print_keeps).keep _ _ _ _ hx (hS.hO.mono (fun _ _ e => e.elim))
  obtain ⟨bN, fN, eN, _, hbN, _⟩ := hx
  obtain ⟨b, f, e, _, hb, lb, eb, c, g, z, rfl, _, hlb, heb, hc⟩ := hx2
  rw [eN] at e
  cases e
  subst eN
  have hbm : bN ≠ m := fun e => by have := heap_lt hbN; have := h.hm; omega
  have hbW := (h.hO.block bN (heap_lt hbN) (fun e => e)).trans hbN
  have hfe : fN = .func (.func 280) #[] #[.pointer (some ⟨lb, 0, none⟩), .pointer (some ⟨eb, 0, none⟩)] := by
    have h1 := (hS.hO.block bN (heap_lt hbN) (fun e => e)).trans hbN
    rw [hb] at h1; cases h1; rfl
  rw [hfe] at hbW
  obtain ⟨po, pn, pc, hM⟩ := h.hM
  refine ⟨162, [.pointer (some ⟨bN, 0, none⟩)], rfl, rfl, ?_⟩
  refine stmt_do m ab vb bN 280 cf462 [.pointer (some ⟨lb, 0, none⟩), .pointer (some ⟨eb, 0, none⟩)] txt (.slice po pn pc) (.slice (some ⟨sb, 0, none⟩) 1 1) out.size n 0 hn _ W hM hbm (cell_of hbW rfl) ?_
  obtain ⟨po1, pn1, pc1, hM1⟩ := hS.hM
  obtain ⟨_, _, _, _, g0, g1, g2⟩ := hcs
  have hsz := hS.hT.size
  refine (print_more wS.heap.size m ab vb sb lb eb c (some ⟨g, 0, none⟩) 0 txt out (.slice po1 pn1 pc1) tv n 0 htx hos _ hsz hM1 hS.hS hown (hS.hV.cell g0) (hS.hV.cell g1) (hS.hV.cell g2) (heap_lt hS.hV) (cell_of hlb rfl) (heap_lt hlb) (cell_of heb rfl) (heap_lt heb) (cell_of hc rfl) (cell_of hc rfl) (cell_of hc rfl) (heap_lt hc)).mono ?_
  rintro en w' ⟨hv, hM2, ⟨tv2, hS2, hown2⟩, hO2⟩
  have hm := hS.hm
  have hvv := hS.hs
  have hvl := heap_lt hS.hV
  exact ⟨hv, hNS, lm, lv, ls, tv2, ⟨hS.hm, hS.hv, hS.hs, hS.nmv, hS.nms, hS.nvs, ⟨po1, pn1, pc1, hM2⟩, hS.hV.only hO2 (fun e => by rcases e with e | e | e; exact hS.nmv e.symm; exact hS.nvs e; omega), hS2, hS.hO.trans hO2 (fun q hq e => by omega), hS.hT.trans hO2 (fun q hq e => by rcases e with e | e | e; exact Or.inl e; exact Or.inr (Or.inr e); omega)⟩, hown2⟩
/-- What the rule's block does with a record. -/
theorem body1_do (B : Nat) (wN wS : World) (x : Value) (hx : KP B wN x) (m ab vb sb n : Nat) (cs : List Value) (hcs : Vs cs) (hn : n ≤ 100000) (txt out : ByteArray) (htx : txt.size ≤ 900) (hos : out.size + txt.size + 1 ≤ 4000) (W : World) (h : UnderL wN wS W m ab vb sb txt out (n + 1) cs) :
    ∃ lc, x = .func (.func 127) #[] #[.pointer (some ⟨lc, 0, none⟩)] ∧ Calls Tryz.prog 127 #[.pointer (some ⟨m, 0, none⟩), .pointer (some ⟨lc, 0, none⟩)] W fun en w' => en = .returned (.int .i64 0) ∧ UnderL wN wS w' m ab vb sb txt (out ++ (txt ++ ⟨#[10]⟩)) n cs := by
  obtain ⟨lc, g, x0, rfl, _, hlc, hg, h0⟩ := hx
  refine ⟨lc, rfl, ?_⟩
  have hw0 := fun W (c : UnderL wN wS W m ab vb sb txt out (n + 1) cs) => print_stmt_more B wN wS x0 h0 m ab vb sb n cs hcs hn txt out htx hos W c
  obtain ⟨b0, y0, hx0, _⟩ := h0
  have hO0 : ∀ W, (∃ txt out n cs, UnderL wN wS W m ab vb sb txt out n cs) → Only (fun _ => False) wN W := fun W ⟨_, _, _, _, h⟩ => by
    obtain ⟨_, _, _, _, _, h1, _⟩ := h
    exact h1.hO
  refine (block_do m lc g 1 1 (by omega) (fun _ => 162) (fun i _ => cf304) (fun _ => [.pointer (some ⟨b0, 0, none⟩)]) (fun i W => if i = 0 then UnderL wN wS W m ab vb sb txt out (n + 1) cs else UnderL wN wS W m ab vb sb txt (out ++ (txt ++ ⟨#[10]⟩)) n cs) W (cell_of (((hO0 W ⟨_, _, _, _, h⟩).block lc (heap_lt hlc) (fun e => e)).trans hlc) rfl) h ?_ ?_).mono ?_
  · intro i W2 hJ
    have hO : Only (fun _ => False) wN W2 := by
      by_cases hi : i = 0
      · rw [if_pos hi] at hJ; exact hO0 W2 ⟨_, _, _, _, hJ⟩
      · rw [if_neg hi] at hJ; exact hO0 W2 ⟨_, _, _, _, hJ⟩
    have hb := (hO.block g (heap_lt hg) (fun e => e)).trans hg
    refine ⟨heap_lt hb, fun j hj => ?_⟩
    obtain rfl : j = 0 := by omega
    rw [cell_of hb (o := 0) rfl, hx0]; rfl
  · intro i W2 hi hJ
    obtain rfl : i = 0 := by omega
    obtain ⟨F, caps, e, rfl, hC⟩ := hw0 (W2.alloc _) (UnderL.calm hJ (onlyA W2 (.cells #[.func (.func 162) #[] #[.pointer (some ⟨b0, 0, none⟩)]] 185)))
    rw [hx0] at e
    have hce : caps = [.pointer (some ⟨b0, 0, none⟩)] := by
      injection e with _ _ e3
      have := congrArg Array.toList e3
      simpa using this.symm
    subst hce
    exact hC
  · rintro en w' ⟨rfl, hJ⟩
    exact ⟨rfl, hJ⟩
end Go.Proofs.YtdbdbaepmdmnfaaGreatDoor
namespace Go.Proofs.YtdbdbaepmdmnfaaGreatDoor
open Go.RowKit
theorem ofB_sizeR (l : List UInt8) : (ofB l).size = l.length := by show l.toArray.size = _; simp
theorem ofB_appendR (a b : List UInt8) : ofB a ++ ofB b = ofB (a ++ b) := by
  apply ByteArray.ext
  rw [ByteArray.data_append]
  apply Array.toList_inj.1
  simp [ofB]
def Few (r : List UInt8) : Prop := (words [] r).length ≤ 40
def AllFew (L : List (List UInt8)) : Prop := ∀ r, r ∈ L → Few r
/-- The variables of a run that has read k records. -/
def VsK (cs : List Value) (k : Nat) : Prop := Vs cs ∧ cs[0]? = some (.int .i64 1) ∧ cs[1]? = some (.int .i64 k) ∧ cs[2]? = some (.string ⟨#[]⟩)
theorem first7_vs : VsK first7 0 := ⟨⟨⟨_, _, _, rfl, rfl, rfl⟩, rfl, rfl, rfl, rfl, rfl, rfl⟩, rfl, rfl, rfl⟩
theorem readVs_vs {cs : List Value} {k n : Nat} (h : VsK cs k) : VsK ((((readVs cs k).set 3 (.int .i64 1)).set 4 (.int .i64 n)).set 5 (.string ⟨#[]⟩)) (k + 1) := by
  obtain ⟨⟨⟨x3, x4, x5, h3, h4, h5⟩, f0, f1, f2, g0, g1, g2⟩, h0, h1, h2⟩ := h
  have hv : Vs (readVs cs k) := ⟨⟨x3, x4, x5, readVs_get h3 (by omega), readVs_get h4 (by omega), readVs_get h5 (by omega)⟩, readVs_get f0 (by omega), readVs_get f1 (by omega), readVs_get f2 (by omega), readVs_get g0 (by omega), readVs_get g1 (by omega), readVs_get g2 (by omega)⟩
  have l0 := (List.getElem?_eq_some_iff.1 h0).1
  have l1 := (List.getElem?_eq_some_iff.1 h1).1
  have l2 := (List.getElem?_eq_some_iff.1 h2).1
  refine ⟨hv.set345 _ _ _, ?_, ?_, ?_⟩
  · refine setNe (setNe (setNe ?_ (by decide)) (by decide)) (by decide)
    unfold readVs
    rw [List.getElem?_set_ne (by decide), List.getElem?_set_ne (by decide), List.getElem?_set_self (by simpa using l0)]
  · refine setNe (setNe (setNe ?_ (by decide)) (by decide)) (by decide)
    unfold readVs
    rw [List.getElem?_set_ne (by decide), List.getElem?_set_self (by simpa using l1)]
  · refine setNe (setNe (setNe ?_ (by decide)) (by decide)) (by decide)
    unfold readVs
    rw [List.getElem?_set_self (by simpa using l2)]
/-- A record read: the machine goes on. -/
theorem UnderL.read {wN wS W W' m ab vb sb txt t out n cs cs'} (h : UnderL wN wS W m ab vb sb txt out n cs) (hM : MRec W' m ab vb t (.slice (some ⟨sb, 0, none⟩) 1 1) out.size n 0) (hV : VAt W' vb cs') (ho : Only (fun k => k = m ∨ k = vb) W W') : UnderL wN wS W' m ab vb sb t out n cs' := by
  obtain ⟨a, b, c, d, tv, h1, h2⟩ := h
  obtain ⟨po, cap, hM'⟩ := hM
  obtain ⟨po1, pn1, pc1, hM1⟩ := h1.hM
  have hm := h1.hm
  have hv := h1.hv
  have n1 := own_tag h2 hM1 (by decide)
  have n2 := own_tag h2 h1.hV (by decide)
  refine ⟨a, b, c, d, tv, ⟨h1.hm, h1.hv, h1.hs, h1.nmv, h1.nms, h1.nvs, ⟨po, _, cap, hM'⟩, hV, (ho.block sb (heap_lt h1.hS) (fun e => e.elim (fun e => h1.nms e.symm) (fun e => h1.nvs e.symm))).trans h1.hS, h1.hO.trans ho (fun q hq e => by omega), h1.hT.trans ho (fun _ _ e => e.elim Or.inl (fun e => Or.inr (Or.inl e)))⟩, ownsRow_of h2 (fun k hk => ho.block k (h2.lt k hk).2 (fun e => e.elim (fun e => n1 (by rw [hk, e])) (fun e => n2 (by rw [hk, e]))))⟩
/-- A record that could not be read: what was put out stands. -/
theorem UnderL.spoilt {wN wS W W' m ab vb sb txt out n cs cs'} (h : UnderL wN wS W m ab vb sb txt out n cs) (hV : VAt W' vb cs') (ho : Only (fun k => k = vb) W W') : UnderL wN wS W' m ab vb sb txt out n cs' := by
  obtain ⟨a, b, c, d, tv, h1, h2⟩ := h
  obtain ⟨po1, pn1, pc1, hM1⟩ := h1.hM
  have hv := h1.hv
  have n2 := own_tag h2 h1.hV (by decide)
  refine ⟨a, b, c, d, tv, ⟨h1.hm, h1.hv, h1.hs, h1.nmv, h1.nms, h1.nvs, ⟨po1, pn1, pc1, hM1.only ho (fun e => h1.nmv e)⟩, hV, (ho.block sb (heap_lt h1.hS) (fun e => h1.nvs e.symm)).trans h1.hS, h1.hO.trans ho (fun q hq e => by omega), h1.hT.trans ho (fun _ _ e => Or.inr (Or.inl e))⟩, ownsRow_of h2 (fun k hk => ho.block k (h2.lt k hk).2 (fun e => n2 (by rw [hk, e])))⟩
/-- What reading all of an input comes to: the run goes on, or it gave up for a record with too many fields. -/
def AllPost (wN wS : World) (m ab vb sb n0 : Nat) (a : Addr) (T : List UInt8) (O : List (List UInt8) → ByteArray) (en : Ending) (w' : World) : Prop :=
  (AllFew (recs T) ∧ en = .returned (.tuple #[]) ∧ ∃ txt cs, VsK cs (recs T).length ∧ UnderL wN wS w' m ab vb sb txt (O (recs T)) n0 cs) ∨
  (¬ AllFew (recs T) ∧ Threw a en ∧ ∃ txt out n cs, UnderL wN wS w' m ab vb sb txt out n cs)
set_option maxRecDepth 20000 in
set_option maxHeartbeats 8000000 in
theorem readAll_print (B pb : Nat) (rs : Value) (wN wS : World) (hp : wN.heap[pb]? = some (.cells #[.slice none 0 0, rs, .slice none 0 0, .int .i64 7, .int .i64 0] 135 (0, 0))) (hr : RuleF KP B wN rs) (a : Addr) (hgl : wN.cell? ⟨2, 0, none⟩ = some (.iface 558 (.pointer (some a)))) (m ab vb sb n0 : Nat) (hn0 : n0 ≤ 50000) (T : ByteArray) (hT : T.size ≤ 400) (w : World) (h : UnderL wN wS w m ab vb sb ⟨#[]⟩ ⟨#[]⟩ (n0 + 2 * (recs T.data.toList).length) first7) :
    Calls Tryz.prog 64 #[.pointer (some ⟨pb, 0, none⟩), .pointer (some ⟨m, 0, none⟩), .string T] w (AllPost wN wS m ab vb sb n0 a T.data.toList (fun L => ofB (printed L))) := by
  have hg2 := World.block_lt_of_cell? wN ⟨2, 0, none⟩ hgl
  obtain ⟨cg, x, hown, hx⟩ := hr
  obtain ⟨g, cap, ers, hgl2, hgc⟩ := own_at hown (by simp)
  have HDo : Hid (∀ (txt out : ByteArray) n cs W, Vs cs → n ≤ 100000 → txt.size ≤ 900 → out.size + txt.size + 1 ≤ 4000 → UnderL wN wS W m ab vb sb txt out (n + 1) cs → Calls Tryz.prog 101 #[.pointer (some ⟨pb, 0, none⟩), .pointer (some ⟨m, 0, none⟩)] W fun en w' => en = .returned (.tuple #[]) ∧ UnderL wN wS w' m ab vb sb txt (out ++ (txt ++ ⟨#[10]⟩)) n cs) := hide (fun txt out n cs W h1 h2 h3 h4 hW => by
    obtain ⟨lc, ex, hC⟩ := body1_do B wN wS x hx m ab vb sb n cs h1 h2 txt out h3 h4 W hW
    have hO : Only (fun _ => False) wN W := by obtain ⟨_, _, _, _, _, h5, _⟩ := hW; exact h5.hO
    have hpW := (hO.block pb (heap_lt hp) (fun e => e)).trans hp
    have c0 := (hO.cell (p := ⟨g, 0, none⟩) hgl2 (fun e => e)).trans (hgc 0 _ rfl)
    have c2 := (hO.cell (p := ⟨g, 2, none⟩) hgl2 (fun e => e)).trans (hgc 2 _ rfl)
    rw [ex] at c2
    refine doRules_one pb m g cap 127 (some ⟨cg, 0, none⟩) 0 cf236 [.pointer (some ⟨lc, 0, none⟩)] _ W ?_ c0 c2 (hC.mono ?_)
    · have c1 : W.cell? ⟨pb, 1, none⟩ = some rs := cell_of hpW rfl
      rw [c1, ers]
    · rintro en w' ⟨e, h5⟩
      exact ⟨e, h5⟩)
  have HGl := hide hgl
  have HTl : Hid (T.data.toList.length ≤ 400) := hide (by rw [len_eq]; exact hT)
  have HStart := hide h
  have HPr : Hid (∀ L1 l', recs T.data.toList = L1 ++ recs l' → (printed L1).length ≤ 801) := hide (fun L1 l' e => by
    have h1 : (printed (recs T.data.toList)).length ≤ 401 := by
      rw [printed_recs]
      unfold nlT
      have := HTl.out
      split
      · simp
      · split
        · omega
        · simp; omega
    rw [e] at h1
    unfold printed at h1
    rw [List.map_append, List.flatten_append, List.length_append] at h1
    unfold printed
    omega)
  clear h hown hx hgc hgl2 ers hp hgl
  go_enter Tryz.func64, Tryz.ntmps64
  go_wp2
  go_loopg [2] T.data.toList.length (fun gh s2 wr => ∃ L1 l' txt cs, gh = l'.length ∧ s2 = .string (ofB l') ∧ Hid (recs T.data.toList = L1 ++ recs l') ∧ Hid (AllFew L1) ∧ Hid (VsK cs L1.length) ∧ Hid (l'.length ≤ 400) ∧ Hid (UnderL wN wS wr m ab vb sb txt (ofB (printed L1)) (n0 + 2 * (recs l').length) cs))
  case atStart => exact ⟨[], T.data.toList, ⟨#[]⟩, first7, rfl, rfl, hide rfl, hide (fun r hr => by cases hr), hide first7_vs, HTl, HStart⟩
  case round =>
    obtain ⟨L1, l', txt, cs, hgh, rfl, H1, H2, H3, H4, HU⟩ := hrel
    by_cases hl : l' = []
    · subst hl
      have he : (ofB ([] : List UInt8)).toList.isEmpty = true := by rw [ByteArray.toList_eq]; rfl
      have HFin : Hid (AllPost wN wS m ab vb sb n0 a T.data.toList (fun L => ofB (printed L)) (.returned (.tuple #[])) wr) := hide (Or.inl (by
        have e1 : recs T.data.toList = L1 := by rw [H1.out, recs_nil, List.append_nil]
        rw [e1]
        exact ⟨H2.out, rfl, txt, cs, H3.out, HU.out⟩))
      clear H1 H2 H3 H4 HU hgh
      go_wp2
      go_end0
      exact HFin.out
    · have he : (ofB l').toList.isEmpty = false := by
        rw [ByteArray.toList_eq]; show l'.isEmpty = false
        cases l' with
        | nil => exact absurd rfl hl
        | cons => rfl
      have hsz : (ofB l').size = l'.length := ofB_sizeR l'
      have hll := lineOf_len l'
      have h400 := H4.out
      have hrl := restOf_len l' hl
      have HLs : Hid ((ofB (lineOf l')).size = (lineOf l').length) := hide (ofB_sizeR _)
      have hpl := HPr.out L1 l' H1.out
      have HPs : Hid ((ofB (printed L1)).size = (printed L1).length) := hide (ofB_sizeR _)
      have H1' : Hid (recs T.data.toList = (L1 ++ [lineOf l']) ++ recs (restOf l')) := hide (by rw [H1.out, recs_cons hl]; simp)
      have hU := HU.out
      rw [recs_cons hl, List.length_cons] at hU
      generalize hq : (recs (restOf l')).length = q at hU
      have hq4 : q ≤ 400 := by have := recs_len (restOf l'); omega
      rw [show n0 + 2 * (q + 1) = (n0 + 2 * q + 1) + 1 by omega] at hU
      have HM : Hid (∃ po pn pc, MAt wr m ab vb txt (.slice po pn pc) (.slice (some ⟨sb, 0, none⟩) 1 1) (ofB (printed L1)).size (n0 + 2 * q + 1 + 1) 0) := hide (by obtain ⟨_, _, _, _, _, h1, _⟩ := hU; exact h1.hM)
      obtain ⟨po, pn, pc, hM⟩ := HM.out
      have HS := hide (step_ok m ab vb txt (.slice po pn pc) (.slice (some ⟨sb, 0, none⟩) 1 1) (ofB (printed L1)).size (n0 + 2 * q + 1) 0 (by omega) wr hM)
      have HU1 := hide (UnderL.step hU)
      have HC : Hid (∀ W, Calls Tryz.prog 99 #[.string (ofB l'), .string ⟨#[10]⟩] W fun en w' => en = .returned (.tuple #[.string (ofB (lineOf l')), .string (ofB (restOf l')), .bool (hasNl l')]) ∧ Only (fun _ => False) W w') := hide (fun W => cutS_any (ofB l') (by rw [hsz]; omega) W)
      have HVs := H3
      clear hM hU HM
      by_cases hfew : Few (lineOf l')
      · have HRd : Hid (∀ W, UnderL wN wS W m ab vb sb txt (ofB (printed L1)) (n0 + 2 * q + 1) cs → Calls Tryz.prog 100 #[.pointer (some ⟨m, 0, none⟩), .string (ofB (lineOf l'))] W fun en w' => en = .returned (.tuple #[]) ∧ ∃ cs', VsK cs' (L1.length + 1) ∧ UnderL wN wS w' m ab vb sb (ofB (lineOf l')) (ofB (printed L1)) (n0 + 2 * q + 1) cs') := hide (fun W hW => by
          have hW0 := hW
          obtain ⟨_, _, _, _, _, h1, _⟩ := hW0
          obtain ⟨po1, pn1, pc1, hM1⟩ := h1.hM
          obtain ⟨⟨⟨x3, x4, x5, h3, h4, h5⟩, f0, f1, f2, _⟩, v0, v1, v2⟩ := HVs.out
          have hk : L1.length ≤ 100000 := by
            have h6 := congrArg List.length H1.out
            rw [List.length_append] at h6
            have := recs_len T.data.toList
            have := HTl.out
            omega
          refine (readR_any m ab vb txt (ofB (lineOf l')) po1 pn1 pc1 (.slice (some ⟨sb, 0, none⟩) 1 1) (ofB (printed L1)).size (n0 + 2 * q + 1) 0 L1.length hk cs x3 x4 x5 (by rw [HLs.out]; omega) hfew W hM1 h1.hV v0 v1 v2 h3 h4 h5 f0 f1 f2 h1.nmv).mono ?_
          rintro en w' ⟨e, hm2, hv2, ho2⟩
          exact ⟨e, _, readVs_vs HVs.out, hW.read hm2 hv2 ho2⟩)
        have HFew := hide hfew
        have HGh := hide hgh
        have HRl := hide hrl
        have Hq := hide hq
        have HNum : Hid (n0 + 2 * q ≤ 100000 ∧ (ofB (lineOf l')).size ≤ 900 ∧ (ofB (printed L1)).size + (ofB (lineOf l')).size + 1 ≤ 4000) := hide ⟨by omega, by rw [HLs.out]; omega, by rw [HLs.out, HPs.out]; omega⟩
        have HR4 : Hid ((restOf l').length ≤ 400) := hide (by omega)
        clear hfew hgh hrl hq hpl hll h400 hq4 hsz
        go_wp2_with (first | (go_at_call 98; refine (HS.out).mono ?_; rintro en w2 ⟨rfl, hw2⟩; subst hw2) | (go_at_call 99; refine (HC.out _).mono ?_; rintro en w3 ⟨rfl, h3⟩; have HO3 := hide h3; clear h3))
        refine (HRd.out _ (HU1.out.calm HO3.out)).mono ?_
        rintro en w4 ⟨rfl, cs', hvs', hU4⟩
        have HV4 := hide hvs'
        have HD4 := hide (HDo.out (ofB (lineOf l')) (ofB (printed L1)) (n0 + 2 * q) cs' w4 hvs'.1 HNum.out.1 HNum.out.2.1 HNum.out.2.2 hU4)
        clear hvs' hU4
        go_wp2_with fail
        refine (HD4.out).mono ?_
        rintro en w5 ⟨rfl, hU5⟩
        have HU5 := hide hU5
        clear hU5
        go_wp2
        go_roundg (restOf l').length
        case measure => rw [HGh.out]; exact HRl.out
        case rel =>
          refine ⟨L1 ++ [lineOf l'], restOf l', ofB (lineOf l'), cs', rfl, rfl, H1', hide ?_, hide ?_, HR4, hide ?_⟩
          · intro r hr
            rcases List.mem_append.1 hr with hr | hr
            · exact H2.out r hr
            · simp at hr; subst hr; exact HFew.out
          · rw [List.length_append]; exact HV4.out
          · rw [Hq.out, printed_snoc, ← ofB_appendR, ← ofB_appendR]; exact HU5.out
      · have hmany : 40 < (words [] (lineOf l')).length := by unfold Few at hfew; omega
        have HNot : Hid (¬ AllFew (recs T.data.toList)) := hide (fun h => hfew (h _ (by rw [H1'.out]; simp)))
        have HRd : Hid (∀ W, UnderL wN wS W m ab vb sb txt (ofB (printed L1)) (n0 + 2 * q + 1) cs → Calls Tryz.prog 100 #[.pointer (some ⟨m, 0, none⟩), .string (ofB (lineOf l'))] W fun en w' => Threw a en ∧ ∃ cs', UnderL wN wS w' m ab vb sb txt (ofB (printed L1)) (n0 + 2 * q + 1) cs') := hide (fun W hW => by
          have hW0 := hW
          obtain ⟨_, _, _, _, _, h1, _⟩ := hW0
          obtain ⟨po1, pn1, pc1, hM1⟩ := h1.hM
          obtain ⟨⟨_, f0, f1, f2, _⟩, v0, v1, v2⟩ := HVs.out
          have hk : L1.length ≤ 100000 := by
            have h6 := congrArg List.length H1.out
            rw [List.length_append] at h6
            have := recs_len T.data.toList
            have := HTl.out
            omega
          have hvN := h1.hv
          refine (read_throws m ab vb txt (ofB (lineOf l')) po1 pn1 pc1 (.slice (some ⟨sb, 0, none⟩) 1 1) (ofB (printed L1)).size (n0 + 2 * q + 1) 0 L1.length hk cs (by rw [HLs.out]; omega) hmany a W ((h1.hO.cell (p := ⟨2, 0, none⟩) hg2 (fun e => e)).trans HGl.out) (by omega) hM1 h1.hV v0 v1 v2 f0 f1 f2 h1.nmv).mono ?_
          rintro en w' ⟨e, ⟨cs', hv2⟩, ho2⟩
          exact ⟨e, cs', hW.spoilt hv2 ho2⟩)
        clear hfew hmany hgh hrl hq hpl hll h400 hq4 hsz
        go_wp2_with (first | (go_at_call 98; refine (HS.out).mono ?_; rintro en w2 ⟨rfl, hw2⟩; subst hw2) | (go_at_call 99; refine (HC.out _).mono ?_; rintro en w3 ⟨rfl, h3⟩; have HO3 := hide h3; clear h3))
        refine (HRd.out _ (HU1.out.calm HO3.out)).mono ?_
        rintro en w4 ⟨rfl, cs', hU4⟩
        have HU4 := hide hU4
        clear hU4
        go_wp2
        exact ⟨rfl, Or.inr ⟨HNot.out, rfl, _, _, _, _, HU4.out⟩⟩
end Go.Proofs.YtdbdbaepmdmnfaaGreatDoor
