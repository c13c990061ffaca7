import Derived.Test.YtdbdbaepmdmnfaaGreatDoorZ39
import Derived.Test.YtdbdbaepmdmnfaaGreatDoorZ06
import Derived.KernelRfl
import Derived.WideMake
import Derived.Test.YtdbdbaepmdmnfaaGreatDoorZ38
import Derived.Test.YtdbdbaepmdmnfaaGreatDoorZ22
import Derived.Test.YtdbdbaepmdmnfaaGreatDoorZ12
namespace Go.Proofs.YtdbdbaepmdmnfaaGreatDoor
open Go.RowKit
theorem look230_yes {w : World} {M n : Nat} {vs : Array MapEntry} {x : ByteArray} {i : Nat} {v : Value} (h : w.heap[M]? = some (.map vs n)) (hf : Instr.findNow .string (.string x) vs.toList 0 = some (some (i, v))) : (Instr.lookup 230 (.map (some M)) (.string x) true).run Tryz.prog w = .ok (.tuple #[v, .bool true]) w := by
  have h1 := MapKept.run_getObj_map (P := Tryz.prog) h
  have h2 : (Instr.checkKey vs.isEmpty 10000 9 (.string x)).run Tryz.prog w = .ok () w := MapKept.run_checkKey (d := .string) Tryz.underlying9 (by simp [MapKept.IsKey]) _ 9999
  have h3 : (Instr.findKey 9 (.string x) vs.toList).run Tryz.prog w = .ok (some (i, v)) w := MapKept.run_findKey Tryz.underlying9 hf
  simp [Instr.lookup, run_underlying Tryz.underlying230, h1, h2, h3, Result.andThen]
theorem look230_no {w : World} {M n : Nat} {vs : Array MapEntry} {x : ByteArray} (h : w.heap[M]? = some (.map vs n)) (hf : Instr.findNow .string (.string x) vs.toList 0 = some none) : (Instr.lookup 230 (.map (some M)) (.string x) true).run Tryz.prog w = .ok (.tuple #[.int .i64 0, .bool false]) w := by
  have h1 := MapKept.run_getObj_map (P := Tryz.prog) h
  have h2 : (Instr.checkKey vs.isEmpty 10000 9 (.string x)).run Tryz.prog w = .ok () w := MapKept.run_checkKey (d := .string) Tryz.underlying9 (by simp [MapKept.IsKey]) _ 9999
  have h3 : (Instr.findKey 9 (.string x) vs.toList).run Tryz.prog w = .ok none w := MapKept.run_findKey Tryz.underlying9 hf
  simp [Instr.lookup, run_underlying Tryz.underlying230, h1, h2, h3, Result.andThen]
theorem upd230 {w : World} {M n : Nat} {vs : Array MapEntry} {x : ByteArray} (v : Value) (h : w.heap[M]? = some (.map vs n)) (hf : Instr.findNow .string (.string x) vs.toList 0 = some none) : ∃ W, (Instr.mapUpdate 230 (.map (some M)) (.string x) v).run Tryz.prog w = .ok () W ∧ Only (fun k => k = M) w W ∧ W.heap[M]? = some (.map (vs.push ⟨.string x, v, n⟩) (n + 1)) := by
  have hc : (Instr.checkKey false 10000 9 (.string x)).run Tryz.prog w = .ok () w := MapKept.run_checkKey (k := .string x) Tryz.underlying9 (by simp [MapKept.IsKey]) false 9999
  refine ⟨{ w with heap := w.heap.setIfInBounds M (.map (vs.push ⟨.string x, v, n⟩) (n + 1)) }, ?_, ⟨rfl, rfl, rfl, by simp, fun k _ hk => ?_⟩, ?_⟩
  · simp [Instr.mapUpdate, run_underlying Tryz.underlying230, MapKept.run_getObj_map h, hc, MapKept.run_findKey Tryz.underlying9 hf, MapKept.run_setObj_map _ h, Result.andThen]
  · simp [Ne.symm hk]
  · rw [Array.getElem?_setIfInBounds, if_pos rfl, if_pos (heap_lt h)]
/-- The names that the judge has met. -/
def entE : Nat → Array MapEntry
  | 0 => #[]
  | 1 => #[⟨.string nx, .int .i64 0, 0⟩]
  | 2 => #[⟨.string nx, .int .i64 0, 0⟩, ⟨.string ax, .int .i64 1, 1⟩]
  | 3 => #[⟨.string nx, .int .i64 0, 0⟩, ⟨.string ax, .int .i64 1, 1⟩, ⟨.string kx, .int .i64 0, 2⟩]
  | _ => #[⟨.string nx, .int .i64 0, 0⟩, ⟨.string ax, .int .i64 1, 1⟩, ⟨.string kx, .int .i64 0, 2⟩, ⟨.string cx, .int .i64 0, 3⟩]
def cntE : Nat → Nat
  | 0 => 0
  | 1 => 1
  | 2 => 2
  | 3 => 3
  | 4 => 3
  | 5 => 3
  | 6 => 3
  | 7 => 3
  | 8 => 3
  | 9 => 3
  | 10 => 3
  | 11 => 4
  | 12 => 4
  | 13 => 4
  | 14 => 4
  | _ => 4
def MapE (w : World) (M : Nat) (c : Nat) : Prop := w.heap[M]? = some (.map (entE c) c)
theorem MapE.only {w w' : World} {M c : Nat} {D : Nat → Prop} (h : MapE w M c) (ho : Only D w w') (hd : ¬ D M) : MapE w' M c := (ho.block M (heap_lt h) hd).trans h
set_option maxRecDepth 20000 in
set_option maxHeartbeats 1000000 in
theorem there_nx (w : World) : Calls Tryz.prog 110 #[.string nx] w fun en w' => en = .returned (.bool false) ∧ w' = w := by
  unfold nx
  go_enter Tryz.func110, Tryz.ntmps110
  go_wp2
  go_ret
  exact ⟨rfl, rfl⟩
set_option maxRecDepth 20000 in
set_option maxHeartbeats 1000000 in
theorem there_ax (w : World) : Calls Tryz.prog 110 #[.string ax] w fun en w' => en = .returned (.bool false) ∧ w' = w := by
  unfold ax
  go_enter Tryz.func110, Tryz.ntmps110
  go_wp2
  go_ret
  exact ⟨rfl, rfl⟩
set_option maxRecDepth 20000 in
set_option maxHeartbeats 1000000 in
theorem there_kx (w : World) : Calls Tryz.prog 110 #[.string kx] w fun en w' => en = .returned (.bool false) ∧ w' = w := by
  unfold kx
  go_enter Tryz.func110, Tryz.ntmps110
  go_wp2
  go_ret
  exact ⟨rfl, rfl⟩
set_option maxRecDepth 20000 in
set_option maxHeartbeats 1000000 in
theorem there_cx (w : World) : Calls Tryz.prog 110 #[.string cx] w fun en w' => en = .returned (.bool false) ∧ w' = w := by
  unfold cx
  go_enter Tryz.func110, Tryz.ntmps110
  go_wp2
  go_ret
  exact ⟨rfl, rfl⟩
theorem risingE : ∀ (i j : Nat) u v, usE[i]? = some u → usE[j]? = some v → i < j → u.2.1 < v.2.1 := by
  have h : ∀ i < 15, ∀ j < 15, i < j → (usE.getD i (nx, 0, 0)).2.1 < (usE.getD j (nx, 0, 0)).2.1 := by decide
  intro i j u v hu hv hij
  have hi := (List.getElem?_eq_some_iff.1 hu).1
  have hj := (List.getElem?_eq_some_iff.1 hv).1
  have := h i hi j hj hij
  simpa [List.getD, hu, hv] using this
theorem uscE {B : Nat} {w : World} {v : Value} (h : w.ownsRow B 227 3 v 15 (usC usE)) : ∃ g cap, v = .slice (some ⟨g, 0, none⟩) 15 cap ∧ g < w.heap.size ∧ CellsU w g usE := by
  obtain ⟨g, cap, rfl, hg, hc⟩ := own_at h (by omega)
  refine ⟨g, cap, rfl, hg, fun i u hu => ?_⟩
  match i with
  | 0 => cases hu; exact ⟨hc 0 _ rfl, hc 1 _ rfl, hc 2 _ rfl⟩
  | 1 => cases hu; exact ⟨hc 3 _ rfl, hc 4 _ rfl, hc 5 _ rfl⟩
  | 2 => cases hu; exact ⟨hc 6 _ rfl, hc 7 _ rfl, hc 8 _ rfl⟩
  | 3 => cases hu; exact ⟨hc 9 _ rfl, hc 10 _ rfl, hc 11 _ rfl⟩
  | 4 => cases hu; exact ⟨hc 12 _ rfl, hc 13 _ rfl, hc 14 _ rfl⟩
  | 5 => cases hu; exact ⟨hc 15 _ rfl, hc 16 _ rfl, hc 17 _ rfl⟩
  | 6 => cases hu; exact ⟨hc 18 _ rfl, hc 19 _ rfl, hc 20 _ rfl⟩
  | 7 => cases hu; exact ⟨hc 21 _ rfl, hc 22 _ rfl, hc 23 _ rfl⟩
  | 8 => cases hu; exact ⟨hc 24 _ rfl, hc 25 _ rfl, hc 26 _ rfl⟩
  | 9 => cases hu; exact ⟨hc 27 _ rfl, hc 28 _ rfl, hc 29 _ rfl⟩
  | 10 => cases hu; exact ⟨hc 30 _ rfl, hc 31 _ rfl, hc 32 _ rfl⟩
  | 11 => cases hu; exact ⟨hc 33 _ rfl, hc 34 _ rfl, hc 35 _ rfl⟩
  | 12 => cases hu; exact ⟨hc 36 _ rfl, hc 37 _ rfl, hc 38 _ rfl⟩
  | 13 => cases hu; exact ⟨hc 39 _ rfl, hc 40 _ rfl, hc 41 _ rfl⟩
  | 14 => cases hu; exact ⟨hc 42 _ rfl, hc 43 _ rfl, hc 44 _ rfl⟩
  | k + 15 => cases hu
set_option maxRecDepth 20000 in
set_option maxHeartbeats 16000000 in
theorem judgeE (W0 : World) (cb M lp : Nat) (rec : Bool) (w : World) (h : UJ W0 cb M lp rec usE w) :
    Calls Tryz.prog 78 #[.pointer (some ⟨cb, 0, none⟩)] w fun en w' => en = .returned (.tuple #[]) ∧ Only (fun _ => False) w w' := by
  have hmm := @run_makeMap Tryz.prog
  obtain ⟨v, h1, h2, _, _⟩ := h
  obtain ⟨g, cap, rfl, hg, hc⟩ := uscE h2
  have hcl := heap_lt h1.1
  have c2 : w.cell? ⟨cb, 2, none⟩ = some (.slice (some ⟨g, 0, none⟩) 15 cap) := cell_of h1.1 rfl
  have HS := hide (sort15 g cap usE rfl risingE w hc hg)
  have HTnx := hide there_nx
  have HTax := hide there_ax
  have HTkx := hide there_kx
  have HTcx := hide there_cx
  have HC := hide hc
  clear h1 h2 hc
  go_enter Tryz.func78, Tryz.ntmps78
  go_wp2_with fail
  refine (HS.out).mono ?_
  rintro en w1 ⟨rfl, ho1⟩
  have d2 : w1.cell? ⟨cb, 2, none⟩ = some (.slice (some ⟨g, 0, none⟩) 15 cap) := (ho1.cell (p := ⟨cb, 2, none⟩) hcl (fun e => e)).trans c2
  have hz1 := ho1.size
  have hcl1 : cb < w1.heap.size := by omega
  have HO1 := hide ho1
  clear ho1 HS c2
  go_wp2_with fail
  go_loopg [19] 15 (fun gh s wr => ∃ k : Nat, k ≤ 15 ∧ gh = 15 - k ∧ s = .int .i64 k ∧ MapE wr w1.heap.size (cntE k) ∧ Only (fun _ => False) w1 wr)
  case atStart => exact ⟨0, by omega, rfl, rfl, new0 w1 _, onlyA _ _⟩
  case round =>
    obtain ⟨k, hk, hgh, rfl, hM, ho⟩ := hrel
    have hMl := heap_lt hM
    have keep : ∀ (o : Nat) x, w.cell? ⟨g, o, none⟩ = some x → wr.cell? ⟨g, o, none⟩ = some x := fun o x h => (ho.cell (p := ⟨g, o, none⟩) (by show g < _; omega) (fun e => e)).trans ((HO1.out.cell (p := ⟨g, o, none⟩) hg (fun e => e)).trans h)
    have HM := hide hM
    have HO := hide ho
    have HG := hide hgh
    match k, hk with
    | 0, _ =>
      have a0 := keep _ _ (HC.out 0 (nx, 2, 0) rfl).1
      have a1 := keep _ _ (HC.out 0 (nx, 2, 0) rfl).2.1
      have a2 := keep _ _ (HC.out 0 (nx, 2, 0) rfl).2.2
      clear hM ho hgh keep
      have hl := look230_no (x := nx) (HM.out.only (onlyA wr (.cells #[.string nx, .int .i64 2, .int .i64 0] 227)) (fun e => e)) (by kernel_rfl)
      go_wp2_with (go_at_call 110; refine (HTnx.out _).mono ?_; rintro en w' ⟨rfl, h3⟩; subst w')
      obtain ⟨W3, hmu, ho3, hM3⟩ := upd230 (w := (wr.alloc (.cells #[.string nx, .int .i64 2, .int .i64 0] 227)).drew) (x := nx) (.int .i64 0) (HM.out.only (D := fun _ => False) (toDrew (onlyA wr (.cells #[.string nx, .int .i64 2, .int .i64 0] 227))) (fun e => e)) (by kernel_rfl)
      have hb3 := (ho3.block wr.heap.size (by simp [World.drew]) (by omega)).trans (new0 wr (.cells #[.string nx, .int .i64 2, .int .i64 0] 227))
      have e2 : W3.cell? ⟨wr.heap.size, 2, none⟩ = some (.int .i64 0) := cell_of hb3 rfl
      have HO3 : Hid (Only (fun _ => False) w1 W3) := hide ((toDrew (HO.out.alloc _)).trans ho3 (fun i hi e => absurd hi (by omega)))
      have HM3 : Hid (MapE W3 w1.heap.size 1) := hide hM3
      clear ho3 hb3 hM3
      go_region
      all_goals
        go_wp2
        go_roundg 14
        case measure => rw [HG.out]; omega
        case rel => exact ⟨1, by omega, rfl, rfl, HM3.out, HO3.out⟩
    | 1, _ =>
      have a0 := keep _ _ (HC.out 1 (ax, 16, 1) rfl).1
      have a1 := keep _ _ (HC.out 1 (ax, 16, 1) rfl).2.1
      have a2 := keep _ _ (HC.out 1 (ax, 16, 1) rfl).2.2
      clear hM ho hgh keep
      have hl := look230_no (x := ax) (HM.out.only (onlyA wr (.cells #[.string ax, .int .i64 16, .int .i64 1] 227)) (fun e => e)) (by kernel_rfl)
      go_wp2_with (go_at_call 110; refine (HTax.out _).mono ?_; rintro en w' ⟨rfl, h3⟩; subst w')
      obtain ⟨W3, hmu, ho3, hM3⟩ := upd230 (w := (wr.alloc (.cells #[.string ax, .int .i64 16, .int .i64 1] 227)).drew) (x := ax) (.int .i64 1) (HM.out.only (D := fun _ => False) (toDrew (onlyA wr (.cells #[.string ax, .int .i64 16, .int .i64 1] 227))) (fun e => e)) (by kernel_rfl)
      have hb3 := (ho3.block wr.heap.size (by simp [World.drew]) (by omega)).trans (new0 wr (.cells #[.string ax, .int .i64 16, .int .i64 1] 227))
      have e2 : W3.cell? ⟨wr.heap.size, 2, none⟩ = some (.int .i64 1) := cell_of hb3 rfl
      have HO3 : Hid (Only (fun _ => False) w1 W3) := hide ((toDrew (HO.out.alloc _)).trans ho3 (fun i hi e => absurd hi (by omega)))
      have HM3 : Hid (MapE W3 w1.heap.size 2) := hide hM3
      clear ho3 hb3 hM3
      go_region
      all_goals
        go_wp2
        go_roundg 13
        case measure => rw [HG.out]; omega
        case rel => exact ⟨2, by omega, rfl, rfl, HM3.out, HO3.out⟩
    | 2, _ =>
      have a0 := keep _ _ (HC.out 2 (kx, 25, 0) rfl).1
      have a1 := keep _ _ (HC.out 2 (kx, 25, 0) rfl).2.1
      have a2 := keep _ _ (HC.out 2 (kx, 25, 0) rfl).2.2
      clear hM ho hgh keep
      have hl := look230_no (x := kx) (HM.out.only (onlyA wr (.cells #[.string kx, .int .i64 25, .int .i64 0] 227)) (fun e => e)) (by kernel_rfl)
      go_wp2_with (go_at_call 110; refine (HTkx.out _).mono ?_; rintro en w' ⟨rfl, h3⟩; subst w')
      obtain ⟨W3, hmu, ho3, hM3⟩ := upd230 (w := (wr.alloc (.cells #[.string kx, .int .i64 25, .int .i64 0] 227)).drew) (x := kx) (.int .i64 0) (HM.out.only (D := fun _ => False) (toDrew (onlyA wr (.cells #[.string kx, .int .i64 25, .int .i64 0] 227))) (fun e => e)) (by kernel_rfl)
      have hb3 := (ho3.block wr.heap.size (by simp [World.drew]) (by omega)).trans (new0 wr (.cells #[.string kx, .int .i64 25, .int .i64 0] 227))
      have e2 : W3.cell? ⟨wr.heap.size, 2, none⟩ = some (.int .i64 0) := cell_of hb3 rfl
      have HO3 : Hid (Only (fun _ => False) w1 W3) := hide ((toDrew (HO.out.alloc _)).trans ho3 (fun i hi e => absurd hi (by omega)))
      have HM3 : Hid (MapE W3 w1.heap.size 3) := hide hM3
      clear ho3 hb3 hM3
      go_region
      all_goals
        go_wp2
        go_roundg 12
        case measure => rw [HG.out]; omega
        case rel => exact ⟨3, by omega, rfl, rfl, HM3.out, HO3.out⟩
    | 3, _ =>
      have a0 := keep _ _ (HC.out 3 (ax, 30, 1) rfl).1
      have a1 := keep _ _ (HC.out 3 (ax, 30, 1) rfl).2.1
      have a2 := keep _ _ (HC.out 3 (ax, 30, 1) rfl).2.2
      clear hM ho hgh keep
      have hl := look230_yes (i := 1) (v := .int .i64 1) (x := ax) (HM.out.only (onlyA wr (.cells #[.string ax, .int .i64 30, .int .i64 1] 227)) (fun e => e)) (by kernel_rfl)
      go_wp2_with (go_at_call 110; refine (HTax.out _).mono ?_; rintro en w' ⟨rfl, h3⟩; subst w')
      go_roundg 11
      case measure => rw [HG.out]; omega
      case rel => exact ⟨4, by omega, rfl, rfl, HM.out.only (onlyA _ _) (fun e => e), HO.out.alloc _⟩
    | 4, _ =>
      have a0 := keep _ _ (HC.out 4 (kx, 41, 0) rfl).1
      have a1 := keep _ _ (HC.out 4 (kx, 41, 0) rfl).2.1
      have a2 := keep _ _ (HC.out 4 (kx, 41, 0) rfl).2.2
      clear hM ho hgh keep
      have hl := look230_yes (i := 2) (v := .int .i64 0) (x := kx) (HM.out.only (onlyA wr (.cells #[.string kx, .int .i64 41, .int .i64 0] 227)) (fun e => e)) (by kernel_rfl)
      go_wp2_with (go_at_call 110; refine (HTkx.out _).mono ?_; rintro en w' ⟨rfl, h3⟩; subst w')
      go_roundg 10
      case measure => rw [HG.out]; omega
      case rel => exact ⟨5, by omega, rfl, rfl, HM.out.only (onlyA _ _) (fun e => e), HO.out.alloc _⟩
    | 5, _ =>
      have a0 := keep _ _ (HC.out 5 (ax, 44, 1) rfl).1
      have a1 := keep _ _ (HC.out 5 (ax, 44, 1) rfl).2.1
      have a2 := keep _ _ (HC.out 5 (ax, 44, 1) rfl).2.2
      clear hM ho hgh keep
      have hl := look230_yes (i := 1) (v := .int .i64 1) (x := ax) (HM.out.only (onlyA wr (.cells #[.string ax, .int .i64 44, .int .i64 1] 227)) (fun e => e)) (by kernel_rfl)
      go_wp2_with (go_at_call 110; refine (HTax.out _).mono ?_; rintro en w' ⟨rfl, h3⟩; subst w')
      go_roundg 9
      case measure => rw [HG.out]; omega
      case rel => exact ⟨6, by omega, rfl, rfl, HM.out.only (onlyA _ _) (fun e => e), HO.out.alloc _⟩
    | 6, _ =>
      have a0 := keep _ _ (HC.out 6 (kx, 46, 0) rfl).1
      have a1 := keep _ _ (HC.out 6 (kx, 46, 0) rfl).2.1
      have a2 := keep _ _ (HC.out 6 (kx, 46, 0) rfl).2.2
      clear hM ho hgh keep
      have hl := look230_yes (i := 2) (v := .int .i64 0) (x := kx) (HM.out.only (onlyA wr (.cells #[.string kx, .int .i64 46, .int .i64 0] 227)) (fun e => e)) (by kernel_rfl)
      go_wp2_with (go_at_call 110; refine (HTkx.out _).mono ?_; rintro en w' ⟨rfl, h3⟩; subst w')
      go_roundg 8
      case measure => rw [HG.out]; omega
      case rel => exact ⟨7, by omega, rfl, rfl, HM.out.only (onlyA _ _) (fun e => e), HO.out.alloc _⟩
    | 7, _ =>
      have a0 := keep _ _ (HC.out 7 (ax, 57, 1) rfl).1
      have a1 := keep _ _ (HC.out 7 (ax, 57, 1) rfl).2.1
      have a2 := keep _ _ (HC.out 7 (ax, 57, 1) rfl).2.2
      clear hM ho hgh keep
      have hl := look230_yes (i := 1) (v := .int .i64 1) (x := ax) (HM.out.only (onlyA wr (.cells #[.string ax, .int .i64 57, .int .i64 1] 227)) (fun e => e)) (by kernel_rfl)
      go_wp2_with (go_at_call 110; refine (HTax.out _).mono ?_; rintro en w' ⟨rfl, h3⟩; subst w')
      go_roundg 7
      case measure => rw [HG.out]; omega
      case rel => exact ⟨8, by omega, rfl, rfl, HM.out.only (onlyA _ _) (fun e => e), HO.out.alloc _⟩
    | 8, _ =>
      have a0 := keep _ _ (HC.out 8 (ax, 60, 1) rfl).1
      have a1 := keep _ _ (HC.out 8 (ax, 60, 1) rfl).2.1
      have a2 := keep _ _ (HC.out 8 (ax, 60, 1) rfl).2.2
      clear hM ho hgh keep
      have hl := look230_yes (i := 1) (v := .int .i64 1) (x := ax) (HM.out.only (onlyA wr (.cells #[.string ax, .int .i64 60, .int .i64 1] 227)) (fun e => e)) (by kernel_rfl)
      go_wp2_with (go_at_call 110; refine (HTax.out _).mono ?_; rintro en w' ⟨rfl, h3⟩; subst w')
      go_roundg 6
      case measure => rw [HG.out]; omega
      case rel => exact ⟨9, by omega, rfl, rfl, HM.out.only (onlyA _ _) (fun e => e), HO.out.alloc _⟩
    | 9, _ =>
      have a0 := keep _ _ (HC.out 9 (kx, 66, 0) rfl).1
      have a1 := keep _ _ (HC.out 9 (kx, 66, 0) rfl).2.1
      have a2 := keep _ _ (HC.out 9 (kx, 66, 0) rfl).2.2
      clear hM ho hgh keep
      have hl := look230_yes (i := 2) (v := .int .i64 0) (x := kx) (HM.out.only (onlyA wr (.cells #[.string kx, .int .i64 66, .int .i64 0] 227)) (fun e => e)) (by kernel_rfl)
      go_wp2_with (go_at_call 110; refine (HTkx.out _).mono ?_; rintro en w' ⟨rfl, h3⟩; subst w')
      go_roundg 5
      case measure => rw [HG.out]; omega
      case rel => exact ⟨10, by omega, rfl, rfl, HM.out.only (onlyA _ _) (fun e => e), HO.out.alloc _⟩
    | 10, _ =>
      have a0 := keep _ _ (HC.out 10 (cx, 75, 0) rfl).1
      have a1 := keep _ _ (HC.out 10 (cx, 75, 0) rfl).2.1
      have a2 := keep _ _ (HC.out 10 (cx, 75, 0) rfl).2.2
      clear hM ho hgh keep
      have hl := look230_no (x := cx) (HM.out.only (onlyA wr (.cells #[.string cx, .int .i64 75, .int .i64 0] 227)) (fun e => e)) (by kernel_rfl)
      go_wp2_with (go_at_call 110; refine (HTcx.out _).mono ?_; rintro en w' ⟨rfl, h3⟩; subst w')
      obtain ⟨W3, hmu, ho3, hM3⟩ := upd230 (w := (wr.alloc (.cells #[.string cx, .int .i64 75, .int .i64 0] 227)).drew) (x := cx) (.int .i64 0) (HM.out.only (D := fun _ => False) (toDrew (onlyA wr (.cells #[.string cx, .int .i64 75, .int .i64 0] 227))) (fun e => e)) (by kernel_rfl)
      have hb3 := (ho3.block wr.heap.size (by simp [World.drew]) (by omega)).trans (new0 wr (.cells #[.string cx, .int .i64 75, .int .i64 0] 227))
      have e2 : W3.cell? ⟨wr.heap.size, 2, none⟩ = some (.int .i64 0) := cell_of hb3 rfl
      have HO3 : Hid (Only (fun _ => False) w1 W3) := hide ((toDrew (HO.out.alloc _)).trans ho3 (fun i hi e => absurd hi (by omega)))
      have HM3 : Hid (MapE W3 w1.heap.size 4) := hide hM3
      clear ho3 hb3 hM3
      go_region
      all_goals
        go_wp2
        go_roundg 4
        case measure => rw [HG.out]; omega
        case rel => exact ⟨11, by omega, rfl, rfl, HM3.out, HO3.out⟩
    | 11, _ =>
      have a0 := keep _ _ (HC.out 11 (kx, 87, 0) rfl).1
      have a1 := keep _ _ (HC.out 11 (kx, 87, 0) rfl).2.1
      have a2 := keep _ _ (HC.out 11 (kx, 87, 0) rfl).2.2
      clear hM ho hgh keep
      have hl := look230_yes (i := 2) (v := .int .i64 0) (x := kx) (HM.out.only (onlyA wr (.cells #[.string kx, .int .i64 87, .int .i64 0] 227)) (fun e => e)) (by kernel_rfl)
      go_wp2_with (go_at_call 110; refine (HTkx.out _).mono ?_; rintro en w' ⟨rfl, h3⟩; subst w')
      go_roundg 3
      case measure => rw [HG.out]; omega
      case rel => exact ⟨12, by omega, rfl, rfl, HM.out.only (onlyA _ _) (fun e => e), HO.out.alloc _⟩
    | 12, _ =>
      have a0 := keep _ _ (HC.out 12 (ax, 92, 1) rfl).1
      have a1 := keep _ _ (HC.out 12 (ax, 92, 1) rfl).2.1
      have a2 := keep _ _ (HC.out 12 (ax, 92, 1) rfl).2.2
      clear hM ho hgh keep
      have hl := look230_yes (i := 1) (v := .int .i64 1) (x := ax) (HM.out.only (onlyA wr (.cells #[.string ax, .int .i64 92, .int .i64 1] 227)) (fun e => e)) (by kernel_rfl)
      go_wp2_with (go_at_call 110; refine (HTax.out _).mono ?_; rintro en w' ⟨rfl, h3⟩; subst w')
      go_roundg 2
      case measure => rw [HG.out]; omega
      case rel => exact ⟨13, by omega, rfl, rfl, HM.out.only (onlyA _ _) (fun e => e), HO.out.alloc _⟩
    | 13, _ =>
      have a0 := keep _ _ (HC.out 13 (cx, 95, 0) rfl).1
      have a1 := keep _ _ (HC.out 13 (cx, 95, 0) rfl).2.1
      have a2 := keep _ _ (HC.out 13 (cx, 95, 0) rfl).2.2
      clear hM ho hgh keep
      have hl := look230_yes (i := 3) (v := .int .i64 0) (x := cx) (HM.out.only (onlyA wr (.cells #[.string cx, .int .i64 95, .int .i64 0] 227)) (fun e => e)) (by kernel_rfl)
      go_wp2_with (go_at_call 110; refine (HTcx.out _).mono ?_; rintro en w' ⟨rfl, h3⟩; subst w')
      go_roundg 1
      case measure => rw [HG.out]; omega
      case rel => exact ⟨14, by omega, rfl, rfl, HM.out.only (onlyA _ _) (fun e => e), HO.out.alloc _⟩
    | 14, _ =>
      have a0 := keep _ _ (HC.out 14 (cx, 109, 0) rfl).1
      have a1 := keep _ _ (HC.out 14 (cx, 109, 0) rfl).2.1
      have a2 := keep _ _ (HC.out 14 (cx, 109, 0) rfl).2.2
      clear hM ho hgh keep
      have hl := look230_yes (i := 3) (v := .int .i64 0) (x := cx) (HM.out.only (onlyA wr (.cells #[.string cx, .int .i64 109, .int .i64 0] 227)) (fun e => e)) (by kernel_rfl)
      go_wp2_with (go_at_call 110; refine (HTcx.out _).mono ?_; rintro en w' ⟨rfl, h3⟩; subst w')
      go_roundg 0
      case measure => rw [HG.out]; omega
      case rel => exact ⟨15, by omega, rfl, rfl, HM.out.only (onlyA _ _) (fun e => e), HO.out.alloc _⟩
    | 15, _ =>
      clear keep
      go_wp2
      go_end0
      exact ⟨rfl, HO1.out.trans HO.out (fun _ _ e => e)⟩
end Go.Proofs.YtdbdbaepmdmnfaaGreatDoor

namespace Go.Proofs.YtdbdbaepmdmnfaaGreatDoor
open Go.RowKit
/-- What the judge knows: nothing, or that i is a variable. -/
def MapI (w : World) (M : Nat) (b : Bool) : Prop := w.heap[M]? = some (if b then .map #[⟨.string ix, .int .i64 0, 0⟩] 1 else .map #[] 0)
theorem MapI.only {w w' : World} {M : Nat} {b : Bool} {D : Nat → Prop} (h : MapI w M b) (ho : Only D w w') (hd : ¬ D M) : MapI w' M b := (ho.block M (heap_lt h) hd).trans h
end Go.Proofs.YtdbdbaepmdmnfaaGreatDoor

namespace Go.Proofs.YtdbdbaepmdmnfaaGreatDoor
open Go.RowKit
theorem UJ.setRec {W0 cb M lp rec us w} (h : UJ W0 cb M lp rec us w) (r : Bool) : UJ W0 cb M lp r us (w.setCell ⟨cb, 6, none⟩ (.bool r)) := by
  obtain ⟨v, h1, h2, h3, h4⟩ := h
  refine ⟨v, ⟨heap_setCell_same h1.1 _, (Below.heap_setCell _ _ _ _ h1.ne).trans h1.2⟩, ownsRow_of h2 (fun k hk => Below.heap_setCell _ _ _ _ (fun e => own_tag h2 h1.1 (by decide) (by rw [hk, e]))), h3.setCell (p := ⟨cb, 6, none⟩) (fun _ => rfl) _, h4⟩
set_option maxRecDepth 20000 in
set_option maxHeartbeats 4000000 in
theorem uruleJ (W0 : World) (cb M : Nat) (us ns : List Use) (body : Value) (hsl : ∃ po n cap, body = .slice po n cap) (w : World) (h : UJ W0 cb M 0 false us w)
    (h1 : ∀ W, UJ W0 cb M 0 true us W → Calls Tryz.prog 113 #[.pointer (some ⟨cb, 0, none⟩), body] W fun en w' => en = .returned (.tuple #[]) ∧ UJ W0 cb M 0 true (us ++ ns) w' ∧ UK cb W w') :
    Calls Tryz.prog 77 #[.pointer (some ⟨cb, 0, none⟩), .agg #[.int .i64 0, .slice none 0 0, body]] w fun en w' => en = .returned (.tuple #[]) ∧ UJ W0 cb M 0 false (us ++ ns) w' := by
  obtain ⟨po, n, cap, rfl⟩ := hsl
  have HE := hide (uexprs_nil (some ⟨cb, 0, none⟩))
  have hu0 := (h.setRec true).calm (onlyA _ (.cells #[.int .i64 0, .slice none 0 0, .slice po n cap] 102))
  have hlc := h.lt
  have c6 : w.cell? ⟨cb, 6, none⟩ = some (.bool false) := by obtain ⟨v, h1, _⟩ := h; exact cell_of h1.1 rfl
  have cf : ∀ o, w.frozen? ⟨cb, o, none⟩ = false := by obtain ⟨v, h1, _⟩ := h; exact free_of h1.1
  have H1 := hide (h1 _ hu0)
  clear h h1 hu0
  go_enter Tryz.func77, Tryz.ntmps77
  go_wp2_with (go_at_call 114; refine (HE.out _).mono ?_; rintro en w2 ⟨rfl, h3⟩; subst h3)
  refine (H1.out).mono ?_
  rintro en w2 ⟨rfl, hu2, _⟩
  have d6 : w2.cell? ⟨cb, 6, none⟩ = some (.bool true) := by obtain ⟨v, h1, _⟩ := hu2; exact cell_of h1.1 rfl
  have df : ∀ o, w2.frozen? ⟨cb, o, none⟩ = false := by obtain ⟨v, h1, _⟩ := hu2; exact free_of h1.1
  have HU2 := hide hu2
  clear hu2 H1
  go_wp2
  go_end0
  exact ⟨rfl, HU2.out.setRec false⟩
set_option maxRecDepth 20000 in
set_option maxHeartbeats 8000000 in
theorem leastJ (V : World → Value → Prop) (hsl : IsSl V) (ns : List Use) (v : Value) (w : World) (h : ProgT 0 V w v) (hB : ∀ u, V w u → ∀ W0 W cb M, Only (fun _ => False) w W0 → w.heap.size ≤ cb → UJ W0 cb M 0 true [] W → Calls Tryz.prog 113 #[.pointer (some ⟨cb, 0, none⟩), u] W fun en w' => en = .returned (.tuple #[]) ∧ UJ W0 cb M 0 true ns w' ∧ UK cb W w')
    (hj : ∀ W0 W cb M, UJ W0 cb M 0 false ns W → Calls Tryz.prog 78 #[.pointer (some ⟨cb, 0, none⟩)] W fun en w' => en = .returned (.tuple #[]) ∧ Only (fun _ => False) W w') :
    Calls Tryz.prog 46 #[v] w fun en w' => en = .returned (.tuple #[.int .i64 0, .bool false]) ∧ Only (fun _ => False) w w' := by
  have hmm := @run_makeMap Tryz.prog
  obtain ⟨rs, u, rfl, hr, hu⟩ := h
  obtain ⟨po, n, cap, rfl⟩ := hsl _ _ hu
  obtain ⟨g, cr, rfl, hg, hc⟩ := own_at hr (by omega)
  have g0 : w.cell? ⟨g, 0, none⟩ = some (.int .i64 0) := hc 0 _ rfl
  have g1 : w.cell? ⟨g, 1, none⟩ = some (.slice none 0 0) := hc 1 _ rfl
  have g2 : w.cell? ⟨g, 2, none⟩ = some (.slice po n cap) := hc 2 _ rfl
  have HB := hide (hB _ hu)
  have HJ := hide hj
  clear hr hu hc hB hj hsl
  go_enter Tryz.func46, Tryz.ntmps46
  go_wp2
  go_loop [16] (fun s => s = .int .i64 0) (fun _ => 0)
  case atStart => exact rfl
  case round =>
    subst hrel
    go_wp2
    go_loop [26] (fun s => s = .int .i64 0) (fun _ => 0)
    case atStart => exact rfl
    case round =>
      subst hrel
      go_wp2
      have hO0 : Only (fun _ => False) w (((w.alloc (.cells #[.slice none 0 0, .slice (some ⟨g, 0, none⟩) 1 cr] 60)).alloc (.map #[] 0)).alloc (.cells #[.map (some (w.heap.size + 1)), .slice none 0 0, .slice none 0 0, .slice none 0 0, .int .i64 0, .bool false, .bool false] 159)) := ((onlyA w _).alloc _).alloc _
      have hux : UJ (((w.alloc (.cells #[.slice none 0 0, .slice (some ⟨g, 0, none⟩) 1 cr] 60)).alloc (.map #[] 0)).alloc (.cells #[.map (some (w.heap.size + 1)), .slice none 0 0, .slice none 0 0, .slice none 0 0, .int .i64 0, .bool false, .bool false] 159)) (w.heap.size + 1 + 1) (w.heap.size + 1) 0 false [] (((w.alloc (.cells #[.slice none 0 0, .slice (some ⟨g, 0, none⟩) 1 cr] 60)).alloc (.map #[] 0)).alloc (.cells #[.map (some (w.heap.size + 1)), .slice none 0 0, .slice none 0 0, .slice none 0 0, .int .i64 0, .bool false, .bool false] 159)) := ⟨.slice none 0 0, ⟨new_at2 (W := (w.alloc _).alloc _) (by simp) _, (Below.heap_alloc _ _ _ (by simp)).trans (new_at2 (W := w.alloc _) (by simp) _)⟩, World.ownsRow_nil _ _ _ _, Only.refl _ _, by simp⟩
      have HR := hide (uruleJ (((w.alloc (.cells #[.slice none 0 0, .slice (some ⟨g, 0, none⟩) 1 cr] 60)).alloc (.map #[] 0)).alloc (.cells #[.map (some (w.heap.size + 1)), .slice none 0 0, .slice none 0 0, .slice none 0 0, .int .i64 0, .bool false, .bool false] 159)) (w.heap.size + 1 + 1) (w.heap.size + 1) [] ns (.slice po n cap) ⟨po, n, cap, rfl⟩ _ (hux.calm (onlyA _ (.cells #[.int .i64 0, .slice none 0 0, .slice po n cap] 102))) (fun W hW => HB.out (((w.alloc (.cells #[.slice none 0 0, .slice (some ⟨g, 0, none⟩) 1 cr] 60)).alloc (.map #[] 0)).alloc (.cells #[.map (some (w.heap.size + 1)), .slice none 0 0, .slice none 0 0, .slice none 0 0, .int .i64 0, .bool false, .bool false] 159)) W _ _ hO0 (by omega) hW))
      rw [List.nil_append] at HR
      have HO0 := hide hO0
      clear hux hO0 HB
      go_loopg [36] 1 (fun gh s wr => (gh = 1 ∧ s = .int .i64 0 ∧ wr = (((w.alloc (.cells #[.slice none 0 0, .slice (some ⟨g, 0, none⟩) 1 cr] 60)).alloc (.map #[] 0)).alloc (.cells #[.map (some (w.heap.size + 1)), .slice none 0 0, .slice none 0 0, .slice none 0 0, .int .i64 0, .bool false, .bool false] 159))) ∨ (gh = 0 ∧ s = .int .i64 1 ∧ UJ (((w.alloc (.cells #[.slice none 0 0, .slice (some ⟨g, 0, none⟩) 1 cr] 60)).alloc (.map #[] 0)).alloc (.cells #[.map (some (w.heap.size + 1)), .slice none 0 0, .slice none 0 0, .slice none 0 0, .int .i64 0, .bool false, .bool false] 159)) (w.heap.size + 1 + 1) (w.heap.size + 1) 0 false ns wr ∧ Only (fun _ => False) w wr))
      case atStart => exact Or.inl ⟨rfl, rfl, rfl⟩
      case round =>
        rcases hrel with ⟨hgh, rfl, hw⟩ | ⟨hgh, rfl, hux, ho⟩
        · subst hw
          have k0 := (HO0.out.cell (p := ⟨g, 0, none⟩) hg (fun e => e)).trans g0
          have k1 := (HO0.out.cell (p := ⟨g, 1, none⟩) hg (fun e => e)).trans g1
          have k2 := (HO0.out.cell (p := ⟨g, 2, none⟩) hg (fun e => e)).trans g2
          go_wp2_with (go_at_call 77; refine (HR.out).mono ?_; rintro en w2 ⟨rfl, h2⟩; have H2 := hide h2; clear h2)
          go_roundg 0
          case measure => omega
          case rel =>
            obtain ⟨v, hv1, hv2, hv3, hv4⟩ := H2.out
            exact Or.inr ⟨rfl, rfl, H2.out, HO0.out.trans hv3 (fun i hi e => absurd hi (by omega))⟩
        · have HJ2 := hide (HJ.out _ _ _ _ hux)
          have HU := hide hux
          have HO := hide ho
          clear hux ho HR HJ
          go_wp2_with fail
          refine (HJ2.out).mono ?_
          rintro en w3 ⟨rfl, ho3⟩
          have c3 : w3.cell? ⟨w.heap.size + 1 + 1, 3, none⟩ = some (.slice none 0 0) := by obtain ⟨v, h1, _⟩ := HU.out.calm ho3; exact cell_of h1.1 rfl
          have HO3 := hide ho3
          clear ho3 HJ2
          go_wp2
          go_ret2
          exact ⟨rfl, HO.out.trans HO3.out (fun _ _ e => e)⟩
end Go.Proofs.YtdbdbaepmdmnfaaGreatDoor

namespace Go.Proofs.YtdbdbaepmdmnfaaGreatDoor
open Go.RowKit
theorem leastE (pb : Nat) (w : World) (v : Value) (h : ProgT 0 (BE pb) w v) : Calls Tryz.prog 46 #[v] w fun en w' => en = .returned (.tuple #[.int .i64 0, .bool false]) ∧ Only (fun _ => False) w w' := by
  refine leastJ (BE pb) (be_sl pb) usE v w h ?_ (fun W0 W cb M hJ => judgeE W0 cb M 0 false W hJ)
  rintro u ⟨vs, hl, hr, hb, hv⟩ W0 W cb M ho hcb hJ
  have hr0 : W0.ownsRow 0 235 1 u 5 vs := ownsRow_of hr (fun k hk => ho.block k (hr.lt k hk).2 (fun e => e))
  have hne : u.ownBlock ≠ some cb := fun e => by have := (hr.lt cb e).2; omega
  obtain ⟨g, cap, c, rfl, hg, hbk, hc⟩ := row_block hr0 (by omega) hne (by obtain ⟨_, _, _, h3, _⟩ := hJ; exact h3)
  have := useSs W0 cb M 0 true g cap vs nssE (by rw [hl]; rfl) (by omega) (fun i s ns h1 h2 => useAll W0 w cb M pb ho hcb i s ns (hv i s h1) h2) (fun i s h1 => ve_if pb i (by have := (List.getElem?_eq_some_iff.1 h1).1; omega) w s (hv i s h1)) [] W (by decide) hJ c _ hbk (by decide) hg hc
  rw [hl, List.nil_append] at this
  exact this
/-- The program of Each is read and in order. -/
theorem readProgramE (w : World) : Calls Tryz.prog 34 #[.string FE] w fun en w' => ∃ pb v, en = .returned (.tuple #[v, .int .i64 0, .int .i64 0]) ∧ ProgT 0 (BE pb) w' v ∧ Only (fun _ => False) w w' :=
  readProgram_okK FE (by decide) 0 BE be_stab3 w readE (fun pb W v h => leastE pb W v h)
end Go.Proofs.YtdbdbaepmdmnfaaGreatDoor

