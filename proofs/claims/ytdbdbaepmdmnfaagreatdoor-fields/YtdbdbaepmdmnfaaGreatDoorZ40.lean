import Derived.Test.YtdbdbaepmdmnfaaGreatDoorZ39
import Derived.Test.YtdbdbaepmdmnfaaGreatDoorZ36
import Derived.Test.YtdbdbaepmdmnfaaGreatDoorZ10
import Derived.Test.YtdbdbaepmdmnfaaGreatDoorZ18
namespace Go.Proofs.YtdbdbaepmdmnfaaGreatDoor
open Go.RowKit
def us3 : List Use := [(NFx, 8, 0), (ix, 17, 0), (ix, 24, 0), (NFx, 29, 0), (ix, 33, 0), (ix, 48, 0), (NFx, 73, 0)]
/-- What the judge knows: nothing, or that i is a variable. -/
def MapI (w : World) (M : Nat) (b : Bool) : Prop := w.heap[M]? = some (if b then .map #[⟨.string ix, .int .i64 0, 0⟩] 1 else .map #[] 0)
theorem MapI.only {w w' : World} {M : Nat} {b : Bool} {D : Nat → Prop} (h : MapI w M b) (ho : Only D w w') (hd : ¬ D M) : MapI w' M b := (ho.block M (heap_lt h) hd).trans h
theorem look_nf {w : World} {M : Nat} {b : Bool} (h : MapI w M b) : (Instr.lookup 230 (.map (some M)) (.string NFx) true).run Tryz.prog w = .ok (.tuple #[.int .i64 0, .bool false]) w := by
  cases b with
  | false => exact look360 h NFx
  | true =>
    have h1 := MapKept.run_getObj_map (P := Tryz.prog) h
    have h2 : (Instr.checkKey false 10000 9 (.string NFx)).run Tryz.prog w = .ok () w := MapKept.run_checkKey (d := .string) Tryz.underlying9 (by simp [MapKept.IsKey]) false 9999
    have h3 : (Instr.findKey 9 (.string NFx) [⟨.string ix, .int .i64 0, 0⟩]).run Tryz.prog w = .ok none w := MapKept.run_findKey Tryz.underlying9 (by kernel_rfl)
    simp [Instr.lookup, go_sem, h1, h2, h3]
theorem look_i {w : World} {M : Nat} {b : Bool} (h : MapI w M b) : (Instr.lookup 230 (.map (some M)) (.string ix) true).run Tryz.prog w = .ok (.tuple #[.int .i64 0, .bool b]) w := by
  cases b with
  | false => exact look360 h ix
  | true =>
    have h1 := MapKept.run_getObj_map (P := Tryz.prog) h
    have h2 : (Instr.checkKey false 10000 9 (.string ix)).run Tryz.prog w = .ok () w := MapKept.run_checkKey (d := .string) Tryz.underlying9 (by simp [MapKept.IsKey]) false 9999
    have h3 : (Instr.findKey 9 (.string ix) [⟨.string ix, .int .i64 0, 0⟩]).run Tryz.prog w = .ok (some (0, .int .i64 0)) w := MapKept.run_findKey Tryz.underlying9 (by kernel_rfl)
    simp [Instr.lookup, go_sem, h1, h2, h3]
set_option maxRecDepth 20000 in
set_option maxHeartbeats 1000000 in
theorem there_nf (w : World) : Calls Tryz.prog 110 #[.string NFx] w fun en w' => en = .returned (.bool true) ∧ w' = w := by
  unfold NFx
  go_enter Tryz.func110, Tryz.ntmps110
  go_wp2
  go_ret
  exact ⟨rfl, rfl⟩
set_option maxRecDepth 20000 in
set_option maxHeartbeats 1000000 in
theorem there_i (w : World) : Calls Tryz.prog 110 #[.string ix] w fun en w' => en = .returned (.bool false) ∧ w' = w := by
  unfold ix
  go_enter Tryz.func110, Tryz.ntmps110
  go_wp2
  go_ret
  exact ⟨rfl, rfl⟩
theorem rising3 : Rising us3 := by
  intro i u v h1 h2
  match i with
  | 0 => cases h1; cases h2; decide
  | 1 => cases h1; cases h2; decide
  | 2 => cases h1; cases h2; decide
  | 3 => cases h1; cases h2; decide
  | 4 => cases h1; cases h2; decide
  | 5 => cases h1; cases h2; decide
  | k + 6 => cases h2
theorem usc3 {B : Nat} {w : World} {v : Value} (h : w.ownsRow B 227 3 v 7 (usC us3)) : ∃ g cap, v = .slice (some ⟨g, 0, none⟩) 7 cap ∧ g < w.heap.size ∧ ∀ (i : Nat) u, us3[i]? = some u → w.cell? ⟨g, i * 3, none⟩ = some (.string u.1) ∧ w.cell? ⟨g, i * 3 + 1, none⟩ = some (.int .i64 u.2.1) ∧ w.cell? ⟨g, i * 3 + 2, none⟩ = some (.int .i64 u.2.2) := by
  obtain ⟨g, cap, rfl, hg, hc⟩ := own_at h (by omega)
  refine ⟨g, cap, rfl, hg, fun i u hu => ?_⟩
  match i with
  | 0 => cases hu; exact ⟨hc 0 _ rfl, hc 1 _ rfl, hc 2 _ rfl⟩
  | 1 => cases hu; exact ⟨hc 3 _ rfl, hc 4 _ rfl, hc 5 _ rfl⟩
  | 2 => cases hu; exact ⟨hc 6 _ rfl, hc 7 _ rfl, hc 8 _ rfl⟩
  | 3 => cases hu; exact ⟨hc 9 _ rfl, hc 10 _ rfl, hc 11 _ rfl⟩
  | 4 => cases hu; exact ⟨hc 12 _ rfl, hc 13 _ rfl, hc 14 _ rfl⟩
  | 5 => cases hu; exact ⟨hc 15 _ rfl, hc 16 _ rfl, hc 17 _ rfl⟩
  | 6 => cases hu; exact ⟨hc 18 _ rfl, hc 19 _ rfl, hc 20 _ rfl⟩
  | k + 7 => cases hu
set_option maxRecDepth 20000 in
set_option maxHeartbeats 8000000 in
theorem judge3 (W0 : World) (cb M lp : Nat) (rec : Bool) (w : World) (h : UJ W0 cb M lp rec us3 w) :
    Calls Tryz.prog 78 #[.pointer (some ⟨cb, 0, none⟩)] w fun en w' => en = .returned (.tuple #[]) ∧ Only (fun _ => False) w w' := by
  have hmm := @run_makeMap Tryz.prog
  obtain ⟨v, h1, h2, _, _⟩ := h
  obtain ⟨g, cap, rfl, hg, hc⟩ := usc3 h2
  have hcl := heap_lt h1.1
  have c2 : w.cell? ⟨cb, 2, none⟩ = some (.slice (some ⟨g, 0, none⟩) 7 cap) := cell_of h1.1 rfl
  have HS := hide (sort_rising g cap us3 rfl rising3 w hc hg)
  have HTn := hide there_nf
  have HTi := hide there_i
  have HC := hide hc
  clear h1 h2 hc
  go_enter Tryz.func78, Tryz.ntmps78
  go_wp2_with fail
  refine (HS.out).mono ?_
  rintro en w1 ⟨rfl, ho1⟩
  have d2 : w1.cell? ⟨cb, 2, none⟩ = some (.slice (some ⟨g, 0, none⟩) 7 cap) := (ho1.cell (p := ⟨cb, 2, none⟩) hcl (fun e => e)).trans c2
  have hz1 := ho1.size
  have hcl1 : cb < w1.heap.size := by omega
  have HO1 := hide ho1
  clear ho1 HS c2
  go_wp2_with fail
  go_loopg [19] 7 (fun gh s wr => ∃ k : Nat, k ≤ 7 ∧ gh = 7 - k ∧ s = .int .i64 k ∧ MapI wr w1.heap.size (decide (2 ≤ k)) ∧ Only (fun _ => False) w1 wr)
  case atStart => exact ⟨0, by omega, rfl, rfl, new0 w1 _, onlyA _ _⟩
  case round =>
    obtain ⟨k, hk, hgh, rfl, hM, ho⟩ := hrel
    have hMl := heap_lt hM
    have keep : ∀ (o : Nat) x, w.cell? ⟨g, o, none⟩ = some x → wr.cell? ⟨g, o, none⟩ = some x := fun o x h => (ho.cell (p := ⟨g, o, none⟩) (by show g < _; omega) (fun e => e)).trans ((HO1.out.cell (p := ⟨g, o, none⟩) hg (fun e => e)).trans h)
    have HM := hide hM
    have HO := hide ho
    have HG := hide hgh
    match k, hk with
    | 0, _ =>
      have a0 := keep _ _ (HC.out 0 (NFx, 8, 0) rfl).1
      have a1 := keep _ _ (HC.out 0 (NFx, 8, 0) rfl).2.1
      have a2 := keep _ _ (HC.out 0 (NFx, 8, 0) rfl).2.2
      clear hM ho hgh keep
      have hl := look_nf (HM.out.only (onlyA wr (.cells #[.string NFx, .int .i64 8, .int .i64 0] 227)) (fun e => e))
      go_wp2_with (go_at_call 110; refine (HTn.out _).mono ?_; rintro en w' ⟨rfl, h3⟩; subst w')
      go_roundg 6
      case measure => rw [HG.out]; omega
      case rel => exact ⟨1, by omega, rfl, rfl, HM.out.only (onlyA _ _) (fun e => e), HO.out.alloc _⟩
    | 1, _ =>
      have a0 := keep _ _ (HC.out 1 (ix, 17, 0) rfl).1
      have a1 := keep _ _ (HC.out 1 (ix, 17, 0) rfl).2.1
      have a2 := keep _ _ (HC.out 1 (ix, 17, 0) rfl).2.2
      clear hM ho hgh keep
      have hl := look_i (HM.out.only (onlyA wr (.cells #[.string ix, .int .i64 17, .int .i64 0] 227)) (fun e => e))
      go_wp2_with (go_at_call 110; refine (HTi.out _).mono ?_; rintro en w' ⟨rfl, h3⟩; subst w')
      have hM2 : ((wr.alloc (.cells #[.string ix, .int .i64 17, .int .i64 0] 227)).drew).heap[w1.heap.size]? = some (.map #[] 0) := HM.out.only (D := fun _ => False) (toDrew (onlyA _ _)) (fun e => e)
      obtain ⟨W3, hmu, ho3, hM3⟩ : ∃ W3, (Instr.mapUpdate 230 (.map (some w1.heap.size)) (.string ix) (.int .i64 0)).run Tryz.prog ((wr.alloc (.cells #[.string ix, .int .i64 17, .int .i64 0] 227)).drew) = .ok () W3 ∧ Only (fun k => k = w1.heap.size) ((wr.alloc (.cells #[.string ix, .int .i64 17, .int .i64 0] 227)).drew) W3 ∧ MapI W3 w1.heap.size true := by
        refine ⟨_, run_mapUpdate_first _ 230 9 225 w1.heap.size 0 ix (.int .i64 0) Tryz.underlying230 Tryz.underlying9 hM2, ⟨rfl, rfl, rfl, by simp, fun k _ hk => ?_⟩, ?_⟩
        · simp [Ne.symm hk]
        · unfold MapI
          have hlt2 := heap_lt hM2
          rw [Array.getElem?_setIfInBounds, if_pos rfl, if_pos hlt2]
          rfl
      have hb3 := (ho3.block wr.heap.size (by simp [World.drew]) (by omega)).trans (new0 wr (.cells #[.string ix, .int .i64 17, .int .i64 0] 227))
      have e2 : W3.cell? ⟨wr.heap.size, 2, none⟩ = some (.int .i64 0) := cell_of hb3 rfl
      have HO3 : Hid (Only (fun _ => False) w1 W3) := hide ((toDrew (HO.out.alloc _)).trans ho3 (fun i hi e => absurd hi (by omega)))
      have HM3 := hide hM3
      clear ho3 hb3 hM3 hM2
      go_region
      all_goals
        go_wp2
        go_roundg 5
        case measure => rw [HG.out]; omega
        case rel => exact ⟨2, by omega, rfl, rfl, HM3.out, HO3.out⟩
    | 2, _ =>
      have a0 := keep _ _ (HC.out 2 (ix, 24, 0) rfl).1
      have a1 := keep _ _ (HC.out 2 (ix, 24, 0) rfl).2.1
      have a2 := keep _ _ (HC.out 2 (ix, 24, 0) rfl).2.2
      clear hM ho hgh keep
      have hl := look_i (HM.out.only (onlyA wr (.cells #[.string ix, .int .i64 24, .int .i64 0] 227)) (fun e => e))
      go_wp2_with (go_at_call 110; refine (HTi.out _).mono ?_; rintro en w' ⟨rfl, h3⟩; subst w')
      go_roundg 4
      case measure => rw [HG.out]; omega
      case rel => exact ⟨3, by omega, rfl, rfl, HM.out.only (onlyA _ _) (fun e => e), HO.out.alloc _⟩
    | 3, _ =>
      have a0 := keep _ _ (HC.out 3 (NFx, 29, 0) rfl).1
      have a1 := keep _ _ (HC.out 3 (NFx, 29, 0) rfl).2.1
      have a2 := keep _ _ (HC.out 3 (NFx, 29, 0) rfl).2.2
      clear hM ho hgh keep
      have hl := look_nf (HM.out.only (onlyA wr (.cells #[.string NFx, .int .i64 29, .int .i64 0] 227)) (fun e => e))
      go_wp2_with (go_at_call 110; refine (HTn.out _).mono ?_; rintro en w' ⟨rfl, h3⟩; subst w')
      go_roundg 3
      case measure => rw [HG.out]; omega
      case rel => exact ⟨4, by omega, rfl, rfl, HM.out.only (onlyA _ _) (fun e => e), HO.out.alloc _⟩
    | 4, _ =>
      have a0 := keep _ _ (HC.out 4 (ix, 33, 0) rfl).1
      have a1 := keep _ _ (HC.out 4 (ix, 33, 0) rfl).2.1
      have a2 := keep _ _ (HC.out 4 (ix, 33, 0) rfl).2.2
      clear hM ho hgh keep
      have hl := look_i (HM.out.only (onlyA wr (.cells #[.string ix, .int .i64 33, .int .i64 0] 227)) (fun e => e))
      go_wp2_with (go_at_call 110; refine (HTi.out _).mono ?_; rintro en w' ⟨rfl, h3⟩; subst w')
      go_roundg 2
      case measure => rw [HG.out]; omega
      case rel => exact ⟨5, by omega, rfl, rfl, HM.out.only (onlyA _ _) (fun e => e), HO.out.alloc _⟩
    | 5, _ =>
      have a0 := keep _ _ (HC.out 5 (ix, 48, 0) rfl).1
      have a1 := keep _ _ (HC.out 5 (ix, 48, 0) rfl).2.1
      have a2 := keep _ _ (HC.out 5 (ix, 48, 0) rfl).2.2
      clear hM ho hgh keep
      have hl := look_i (HM.out.only (onlyA wr (.cells #[.string ix, .int .i64 48, .int .i64 0] 227)) (fun e => e))
      go_wp2_with (go_at_call 110; refine (HTi.out _).mono ?_; rintro en w' ⟨rfl, h3⟩; subst w')
      go_roundg 1
      case measure => rw [HG.out]; omega
      case rel => exact ⟨6, by omega, rfl, rfl, HM.out.only (onlyA _ _) (fun e => e), HO.out.alloc _⟩
    | 6, _ =>
      have a0 := keep _ _ (HC.out 6 (NFx, 73, 0) rfl).1
      have a1 := keep _ _ (HC.out 6 (NFx, 73, 0) rfl).2.1
      have a2 := keep _ _ (HC.out 6 (NFx, 73, 0) rfl).2.2
      clear hM ho hgh keep
      have hl := look_nf (HM.out.only (onlyA wr (.cells #[.string NFx, .int .i64 73, .int .i64 0] 227)) (fun e => e))
      go_wp2_with (go_at_call 110; refine (HTn.out _).mono ?_; rintro en w' ⟨rfl, h3⟩; subst w')
      go_roundg 0
      case measure => rw [HG.out]; omega
      case rel => exact ⟨7, by omega, rfl, rfl, HM.out.only (onlyA _ _) (fun e => e), HO.out.alloc _⟩
    | 7, _ =>
      clear keep
      go_wp2
      go_end0
      exact ⟨rfl, HO1.out.trans HO.out (fun _ _ e => e)⟩
end Go.Proofs.YtdbdbaepmdmnfaaGreatDoor

namespace Go.Proofs.YtdbdbaepmdmnfaaGreatDoor
open Go.RowKit
theorem UJ.setRec {W0 cb M lp rec us w} (h : UJ W0 cb M lp rec us w) (r : Bool) : UJ W0 cb M lp r us (w.setCell ⟨cb, 6, none⟩ (.bool r)) := by
  obtain ⟨v, h1, h2, h3, h4⟩ := h
  refine ⟨v, ⟨heap_setCell_same h1.1 _, (Below.heap_setCell _ _ _ _ h1.ne).trans h1.2⟩, ownsRow_of h2 (fun k hk => Below.heap_setCell _ _ _ _ (fun e => own_tag h2 h1.1 (by decide) (by rw [hk, e]))), h3.setCell (p := ⟨cb, 6, none⟩) (fun _ => rfl) _, h4⟩
set_option maxRecDepth 20000 in
set_option maxHeartbeats 4000000 in
theorem uruleJ (W0 : World) (cb M : Nat) (us ns : List Use) (body : Value) (hsl : ∃ po n cap, body = .slice po n cap) (w : World) (h : UJ W0 cb M 0 false us w)
    (h1 : ∀ W, UJ W0 cb M 0 true us W → Calls Tryz.prog 113 #[.pointer (some ⟨cb, 0, none⟩), body] W fun en w' => en = .returned (.tuple #[]) ∧ UJ W0 cb M 0 true (us ++ ns) w' ∧ UK cb W w') :
    Calls Tryz.prog 77 #[.pointer (some ⟨cb, 0, none⟩), .agg #[.int .i64 0, .slice none 0 0, body]] w fun en w' => en = .returned (.tuple #[]) ∧ UJ W0 cb M 0 false (us ++ ns) w' := by
  obtain ⟨po, n, cap, rfl⟩ := hsl
  have HE := hide (uexprs_nil (some ⟨cb, 0, none⟩))
  have hu0 := (h.setRec true).calm (onlyA _ (.cells #[.int .i64 0, .slice none 0 0, .slice po n cap] 102))
  have hlc := h.lt
  have c6 : w.cell? ⟨cb, 6, none⟩ = some (.bool false) := by obtain ⟨v, h1, _⟩ := h; exact cell_of h1.1 rfl
  have cf : ∀ o, w.frozen? ⟨cb, o, none⟩ = false := by obtain ⟨v, h1, _⟩ := h; exact free_of h1.1
  have H1 := hide (h1 _ hu0)
  clear h h1 hu0
  go_enter Tryz.func77, Tryz.ntmps77
  go_wp2_with (go_at_call 114; refine (HE.out _).mono ?_; rintro en w2 ⟨rfl, h3⟩; subst h3)
  refine (H1.out).mono ?_
  rintro en w2 ⟨rfl, hu2, _⟩
  have d6 : w2.cell? ⟨cb, 6, none⟩ = some (.bool true) := by obtain ⟨v, h1, _⟩ := hu2; exact cell_of h1.1 rfl
  have df : ∀ o, w2.frozen? ⟨cb, o, none⟩ = false := by obtain ⟨v, h1, _⟩ := hu2; exact free_of h1.1
  have HU2 := hide hu2
  clear hu2 H1
  go_wp2
  go_end0
  exact ⟨rfl, HU2.out.setRec false⟩
set_option maxRecDepth 20000 in
set_option maxHeartbeats 8000000 in
theorem leastJ (V : World → Value → Prop) (hsl : IsSl V) (ns : List Use) (v : Value) (w : World) (h : ProgT 0 V w v) (hB : ∀ u, V w u → ∀ W0 W cb M, Only (fun _ => False) w W0 → w.heap.size ≤ cb → UJ W0 cb M 0 true [] W → Calls Tryz.prog 113 #[.pointer (some ⟨cb, 0, none⟩), u] W fun en w' => en = .returned (.tuple #[]) ∧ UJ W0 cb M 0 true ns w' ∧ UK cb W w')
    (hj : ∀ W0 W cb M, UJ W0 cb M 0 false ns W → Calls Tryz.prog 78 #[.pointer (some ⟨cb, 0, none⟩)] W fun en w' => en = .returned (.tuple #[]) ∧ Only (fun _ => False) W w') :
    Calls Tryz.prog 46 #[v] w fun en w' => en = .returned (.tuple #[.int .i64 0, .bool false]) ∧ Only (fun _ => False) w w' := by
  have hmm := @run_makeMap Tryz.prog
  obtain ⟨rs, u, rfl, hr, hu⟩ := h
  obtain ⟨po, n, cap, rfl⟩ := hsl _ _ hu
  obtain ⟨g, cr, rfl, hg, hc⟩ := own_at hr (by omega)
  have g0 : w.cell? ⟨g, 0, none⟩ = some (.int .i64 0) := hc 0 _ rfl
  have g1 : w.cell? ⟨g, 1, none⟩ = some (.slice none 0 0) := hc 1 _ rfl
  have g2 : w.cell? ⟨g, 2, none⟩ = some (.slice po n cap) := hc 2 _ rfl
  have HB := hide (hB _ hu)
  have HJ := hide hj
  clear hr hu hc hB hj hsl
  go_enter Tryz.func46, Tryz.ntmps46
  go_wp2
  go_loop [16] (fun s => s = .int .i64 0) (fun _ => 0)
  case atStart => exact rfl
  case round =>
    subst hrel
    go_wp2
    go_loop [26] (fun s => s = .int .i64 0) (fun _ => 0)
    case atStart => exact rfl
    case round =>
      subst hrel
      go_wp2
      have hO0 : Only (fun _ => False) w (((w.alloc (.cells #[.slice none 0 0, .slice (some ⟨g, 0, none⟩) 1 cr] 60)).alloc (.map #[] 0)).alloc (.cells #[.map (some (w.heap.size + 1)), .slice none 0 0, .slice none 0 0, .slice none 0 0, .int .i64 0, .bool false, .bool false] 159)) := ((onlyA w _).alloc _).alloc _
      have hux : UJ (((w.alloc (.cells #[.slice none 0 0, .slice (some ⟨g, 0, none⟩) 1 cr] 60)).alloc (.map #[] 0)).alloc (.cells #[.map (some (w.heap.size + 1)), .slice none 0 0, .slice none 0 0, .slice none 0 0, .int .i64 0, .bool false, .bool false] 159)) (w.heap.size + 1 + 1) (w.heap.size + 1) 0 false [] (((w.alloc (.cells #[.slice none 0 0, .slice (some ⟨g, 0, none⟩) 1 cr] 60)).alloc (.map #[] 0)).alloc (.cells #[.map (some (w.heap.size + 1)), .slice none 0 0, .slice none 0 0, .slice none 0 0, .int .i64 0, .bool false, .bool false] 159)) := ⟨.slice none 0 0, ⟨new_at2 (W := (w.alloc _).alloc _) (by simp) _, (Below.heap_alloc _ _ _ (by simp)).trans (new_at2 (W := w.alloc _) (by simp) _)⟩, World.ownsRow_nil _ _ _ _, Only.refl _ _, by simp⟩
      have HR := hide (uruleJ (((w.alloc (.cells #[.slice none 0 0, .slice (some ⟨g, 0, none⟩) 1 cr] 60)).alloc (.map #[] 0)).alloc (.cells #[.map (some (w.heap.size + 1)), .slice none 0 0, .slice none 0 0, .slice none 0 0, .int .i64 0, .bool false, .bool false] 159)) (w.heap.size + 1 + 1) (w.heap.size + 1) [] ns (.slice po n cap) ⟨po, n, cap, rfl⟩ _ (hux.calm (onlyA _ (.cells #[.int .i64 0, .slice none 0 0, .slice po n cap] 102))) (fun W hW => HB.out (((w.alloc (.cells #[.slice none 0 0, .slice (some ⟨g, 0, none⟩) 1 cr] 60)).alloc (.map #[] 0)).alloc (.cells #[.map (some (w.heap.size + 1)), .slice none 0 0, .slice none 0 0, .slice none 0 0, .int .i64 0, .bool false, .bool false] 159)) W _ _ hO0 (by omega) hW))
      rw [List.nil_append] at HR
      have HO0 := hide hO0
      clear hux hO0 HB
      go_loopg [36] 1 (fun gh s wr => (gh = 1 ∧ s = .int .i64 0 ∧ wr = (((w.alloc (.cells #[.slice none 0 0, .slice (some ⟨g, 0, none⟩) 1 cr] 60)).alloc (.map #[] 0)).alloc (.cells #[.map (some (w.heap.size + 1)), .slice none 0 0, .slice none 0 0, .slice none 0 0, .int .i64 0, .bool false, .bool false] 159))) ∨ (gh = 0 ∧ s = .int .i64 1 ∧ UJ (((w.alloc (.cells #[.slice none 0 0, .slice (some ⟨g, 0, none⟩) 1 cr] 60)).alloc (.map #[] 0)).alloc (.cells #[.map (some (w.heap.size + 1)), .slice none 0 0, .slice none 0 0, .slice none 0 0, .int .i64 0, .bool false, .bool false] 159)) (w.heap.size + 1 + 1) (w.heap.size + 1) 0 false ns wr ∧ Only (fun _ => False) w wr))
      case atStart => exact Or.inl ⟨rfl, rfl, rfl⟩
      case round =>
        rcases hrel with ⟨hgh, rfl, hw⟩ | ⟨hgh, rfl, hux, ho⟩
        · subst hw
          have k0 := (HO0.out.cell (p := ⟨g, 0, none⟩) hg (fun e => e)).trans g0
          have k1 := (HO0.out.cell (p := ⟨g, 1, none⟩) hg (fun e => e)).trans g1
          have k2 := (HO0.out.cell (p := ⟨g, 2, none⟩) hg (fun e => e)).trans g2
          go_wp2_with (go_at_call 77; refine (HR.out).mono ?_; rintro en w2 ⟨rfl, h2⟩; have H2 := hide h2; clear h2)
          go_roundg 0
          case measure => omega
          case rel =>
            obtain ⟨v, hv1, hv2, hv3, hv4⟩ := H2.out
            exact Or.inr ⟨rfl, rfl, H2.out, HO0.out.trans hv3 (fun i hi e => absurd hi (by omega))⟩
        · have HJ2 := hide (HJ.out _ _ _ _ hux)
          have HU := hide hux
          have HO := hide ho
          clear hux ho HR HJ
          go_wp2_with fail
          refine (HJ2.out).mono ?_
          rintro en w3 ⟨rfl, ho3⟩
          have c3 : w3.cell? ⟨w.heap.size + 1 + 1, 3, none⟩ = some (.slice none 0 0) := by obtain ⟨v, h1, _⟩ := HU.out.calm ho3; exact cell_of h1.1 rfl
          have HO3 := hide ho3
          clear ho3 HJ2
          go_wp2
          go_ret2
          exact ⟨rfl, HO.out.trans HO3.out (fun _ _ e => e)⟩
end Go.Proofs.YtdbdbaepmdmnfaaGreatDoor

namespace Go.Proofs.YtdbdbaepmdmnfaaGreatDoor
open Go.RowKit
def nss3 : List (List Use) := [[(NFx, 8, 0)], [(ix, 17, 0), (ix, 24, 0), (NFx, 29, 0), (ix, 33, 0), (ix, 48, 0)], [], [], [(NFx, 73, 0)]]
theorem row_at {pb : Nat} {vs : List Value} {w W0 : World} {r : Value} {cb : Nat} (h : Row pb vs w r) (ho : Only (fun _ => False) w W0) (hcb : w.heap.size ≤ cb) : Row pb vs W0 r ∧ r.ownBlock ≠ some cb := by
  refine ⟨row_stab pb vs w W0 r h (ho.mono (fun _ _ e => e.elim)), fun e => ?_⟩
  have := (h.1.lt cb e).2
  omega
theorem use_print (W0 w : World) (cb M lp : Nat) (rec : Bool) (pb : Nat) (t : TypeId) (x : Value) (ns : List Use) (s : Value) (h : PrintL pb [.iface t x] w s) (ho : Only (fun _ => False) w W0) (hcb : w.heap.size ≤ cb) (hE : UseE W0 cb M lp rec (.iface t x) ns) : UseS W0 cb M lp rec s ns := by
  obtain ⟨r, rfl, hr⟩ := h
  obtain ⟨h1, h2⟩ := row_at hr ho hcb
  exact useS_printL W0 cb M lp rec pb r t x ns h1 h2 hE
theorem use3 (W0 w : World) (cb M pb : Nat) (ho : Only (fun _ => False) w W0) (hcb : w.heap.size ≤ cb) : ∀ (i : Nat) (s : Value) (ns : List Use), V3 pb i w s → nss3[i]? = some ns → UseS W0 cb M 0 true s ns
  | 0, s, ns, h, hn => by
    cases hn
    exact use_print W0 w cb M 0 true pb _ _ _ s h ho hcb (useE_name W0 cb M 0 true NFx 8)
  | 1, s, ns, h, hn => by
    cases hn
    obtain ⟨b, rfl, vs, hl, hr, hb, hv⟩ := h
    match vs, hl with
    | [u], _ =>
      have hu := hv 0 u rfl
      have hif : ∃ t x, u = .iface t x := printL_if pb _ _ _ hu
      exact useS_for W0 cb M 0 (by omega) true _ _ _ _ _ _ b [(ix, 17, 0)] [(ix, 24, 0), (NFx, 29, 0)] [(ix, 33, 0)] [(ix, 48, 0)]
        (useE_store W0 cb M 0 true _ _ _ _ eqx [(ix, 17, 0)] [] (useE_name W0 cb M 0 true ix 17) (useE_num W0 cb M 0 true 1))
        (useE_bin W0 cb M 0 true _ _ _ _ lex [(ix, 24, 0)] [(NFx, 29, 0)] (useE_name W0 cb M 0 true ix 24) (useE_name W0 cb M 0 true NFx 29))
        (useE_store W0 cb M 0 true _ _ _ _ plx [(ix, 33, 0)] [] (useE_name W0 cb M 0 true ix 33) (useE_num W0 cb M 0 true 1))
        u hif (ownsRow_of hr (fun k hk => ho.block k (hr.lt k hk).2 (fun e => e))) (fun e => by have := (hr.lt cb e).2; omega)
        (use_print W0 w cb M 1 true pb _ _ _ u hu ho hcb (useE_field W0 cb M 1 true _ _ _ (useE_name W0 cb M 1 true ix 48)))
  | 2, s, ns, h, hn => by
    cases hn
    obtain ⟨u, rfl, hu⟩ := h
    obtain rfl := hu
    exact useS_work W0 cb M 0 true _ _ [] (useE_store W0 cb M 0 true _ _ _ _ eqx [] [] (useE_field W0 cb M 0 true _ _ _ (useE_num W0 cb M 0 true 1)) (useE_field W0 cb M 0 true _ _ _ (useE_num W0 cb M 0 true 1)))
  | 3, s, ns, h, hn => by
    cases hn
    obtain rfl := h
    exact useS_print W0 cb M 0 true
  | 4, s, ns, h, hn => by
    cases hn
    exact use_print W0 w cb M 0 true pb _ _ _ s h ho hcb (useE_name W0 cb M 0 true NFx 73)
  | k + 5, s, ns, h, hn => by cases hn
theorem least3 (pb : Nat) (w : World) (v : Value) (h : ProgT 0 (B3 pb) w v) : Calls Tryz.prog 46 #[v] w fun en w' => en = .returned (.tuple #[.int .i64 0, .bool false]) ∧ Only (fun _ => False) w w' := by
  refine leastJ (B3 pb) (b3_sl pb) us3 v w h ?_ (fun W0 W cb M hJ => judge3 W0 cb M 0 false W hJ)
  rintro u ⟨vs, hl, hr, hb, hv⟩ W0 W cb M ho hcb hJ
  have hr0 : W0.ownsRow 0 235 1 u 5 vs := ownsRow_of hr (fun k hk => ho.block k (hr.lt k hk).2 (fun e => e))
  have hne : u.ownBlock ≠ some cb := fun e => by have := (hr.lt cb e).2; omega
  obtain ⟨g, cap, c, rfl, hg, hbk, hc⟩ := row_block hr0 (by omega) hne (by obtain ⟨_, _, _, h3, _⟩ := hJ; exact h3)
  have := useSs W0 cb M 0 true g cap vs nss3 (by rw [hl]; rfl) (by omega) (fun i s ns h1 h2 => use3 W0 w cb M pb ho hcb i s ns (hv i s h1) h2) (fun i s h1 => v3_if pb i (by have := (List.getElem?_eq_some_iff.1 h1).1; omega) w s (hv i s h1)) [] W (by decide) hJ c _ hbk (by decide) hg hc
  rw [hl, List.nil_append] at this
  exact this
/-- The program of Fields is read and in order. -/
theorem readProgram3 (w : World) : Calls Tryz.prog 34 #[.string F3] w fun en w' => ∃ pb v, en = .returned (.tuple #[v, .int .i64 0, .int .i64 0]) ∧ ProgT 0 (B3 pb) w' v ∧ Only (fun _ => False) w w' :=
  readProgram_okK F3 (by decide) 0 B3 b3_stab3 w read3 (fun pb W v h => least3 pb W v h)
end Go.Proofs.YtdbdbaepmdmnfaaGreatDoor

