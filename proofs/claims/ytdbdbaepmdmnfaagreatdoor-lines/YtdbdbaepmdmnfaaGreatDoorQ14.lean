import Derived.Test.YtdbdbaepmdmnfaaGreatDoorQ13
import Derived.WideMake
import Derived.Shelf.Strings.Builder1
import Derived.Shelf.Strings.Builder2
import Derived.Shelf.Strings.BuilderF
import Derived.Shelf.Small.Wraps
namespace Go.Proofs.YtdbdbaepmdmnfaaGreatDoor
open Go.RowKit
theorem look360 {w : World} {M n : Nat} (h : w.heap[M]? = some (.map #[] n)) (x : ByteArray) : (Instr.lookup 230 (.map (some M)) (.string x) true).run Tryz.prog w = .ok (.tuple #[.int .i64 0, .bool false]) w := by
  have h1 := MapKept.run_getObj_map (P := Tryz.prog) h
  have h2 : (Instr.checkKey true 10000 9 (.string x)).run Tryz.prog w = .ok () w := MapKept.run_checkKey (d := .string) Tryz.underlying9 (by simp [MapKept.IsKey]) true 9999
  have h3 : (Instr.findKey 9 (.string x) []).run Tryz.prog w = .ok none w := MapKept.run_findKey Tryz.underlying9 rfl
  simp [Instr.lookup, go_sem, h1, h2, h3]
theorem upd360 {w : World} {M n : Nat} (h : w.heap[M]? = some (.map #[] n)) (x : ByteArray) (v : Value) : ∃ W, (Instr.mapUpdate 230 (.map (some M)) (.string x) v).run Tryz.prog w = .ok () W ∧ Only (fun k => k = M) w W := by
  refine ⟨_, run_mapUpdate_first w 230 9 225 M n x v Tryz.underlying230 Tryz.underlying9 h, ⟨rfl, rfl, rfl, by simp, fun k _ hk => ?_⟩⟩
  simp [Ne.symm hk]
set_option maxRecDepth 20000 in
set_option maxHeartbeats 1000000 in
theorem there_x (w : World) : Calls Tryz.prog 110 #[.string ⟨#[120]⟩] w fun en w' => en = .returned (.bool false) ∧ w' = w := by
  go_enter Tryz.func110, Tryz.ntmps110
  go_wp2
  go_ret
  exact ⟨rfl, rfl⟩
set_option maxRecDepth 20000 in
set_option maxHeartbeats 4000000 in
theorem judge_none (cb M : Nat) (rec : Bool) (w : World) (h : UX w cb M none rec) :
    Calls Tryz.prog 78 #[.pointer (some ⟨cb, 0, none⟩)] w fun en w' => en = .returned (.tuple #[]) ∧ Only (fun _ => False) w w' := by
  have hmm := @run_makeMap Tryz.prog
  have hcl : cb < w.heap.size := by obtain ⟨v, h1, h2⟩ := h; exact heap_lt h1.1
  have c2 : w.cell? ⟨cb, 2, none⟩ = some (.slice none 0 0) := by obtain ⟨v, h1, h2⟩ := h; cases h2; exact cell_of h1.1 rfl
  have HS := hide (sort_0 none 0 (.func (.func 116) #[] #[]))
  clear h
  go_enter Tryz.func78, Tryz.ntmps78
  go_wp2_with (go_at_call 115; refine (HS.out _).mono ?_; rintro en w' ⟨rfl, h3⟩; subst w')
  go_loop [19] (fun s => s = .int .i64 0) (fun _ => 0)
  case atStart => exact rfl
  case round =>
    subst hrel
    go_wp2
    go_end0
    exact ⟨rfl, onlyA _ _⟩
set_option maxRecDepth 20000 in
set_option maxHeartbeats 4000000 in
theorem judge_one (cb M a : Nat) (rec : Bool) (w : World) (h : UX w cb M (some (⟨#[120]⟩, a)) rec) :
    Calls Tryz.prog 78 #[.pointer (some ⟨cb, 0, none⟩)] w fun en w' => en = .returned (.tuple #[]) ∧ Only (fun _ => False) w w' := by
  have hmm := @run_makeMap Tryz.prog
  obtain ⟨v, h1, h2⟩ := h
  obtain ⟨g, cap, rfl, hg, hc⟩ := own_at h2 (by simp)
  have hcl := heap_lt h1.1
  have c2 : w.cell? ⟨cb, 2, none⟩ = some (.slice (some ⟨g, 0, none⟩) 1 cap) := cell_of h1.1 rfl
  have g0 : w.cell? ⟨g, 0, none⟩ = some (.string ⟨#[120]⟩) := hc 0 _ rfl
  have g1 : w.cell? ⟨g, 1, none⟩ = some (.int .i64 a) := hc 1 _ rfl
  have g2 : w.cell? ⟨g, 2, none⟩ = some (.int .i64 0) := hc 2 _ rfl
  have HS := hide (sort_1 (some ⟨g, 0, none⟩) cap (.func (.func 116) #[] #[]))
  have HT := hide there_x
  clear h1 h2 hc
  go_enter Tryz.func78, Tryz.ntmps78
  go_wp2_with (go_at_call 115; refine (HS.out _).mono ?_; rintro en w' ⟨rfl, h3⟩; subst w')
  go_loopg [19] 1 (fun gh s wr => (gh = 1 ∧ s = .int .i64 0 ∧ wr = w.alloc (.map #[] 0)) ∨ (gh = 0 ∧ s = .int .i64 1 ∧ Only (fun _ => False) w wr))
  case atStart => exact Or.inl ⟨rfl, rfl, rfl⟩
  case round =>
    rcases hrel with ⟨hgh, rfl, hw⟩ | ⟨hgh, rfl, ho⟩
    · subst hw
      have hl := look360 (w := (w.alloc (.map #[] 0)).alloc (.cells #[.string ⟨#[120]⟩, .int .i64 a, .int .i64 0] 227)) (M := w.heap.size) ((Below.heap_alloc _ _ _ (by simp)).trans (new0 w _)) ⟨#[120]⟩
      go_wp2_with (go_at_call 110; refine (HT.out _).mono ?_; rintro en w' ⟨rfl, h3⟩; subst w')
      obtain ⟨W3, hmu, ho3⟩ := upd360 (w := ((w.alloc (.map #[] 0)).alloc (.cells #[.string ⟨#[120]⟩, .int .i64 a, .int .i64 0] 227)).drew) (M := w.heap.size) ((Below.heap_alloc _ _ _ (by simp)).trans (new0 w _)) ⟨#[120]⟩ (.int .i64 0)
      have hb3 := (ho3.block (w.heap.size + 1) (by simp [World.drew]) (by omega)).trans (new_at2 (W := w.alloc (.map #[] 0)) (by simp) (.cells #[.string ⟨#[120]⟩, .int .i64 a, .int .i64 0] 227))
      have d2 : W3.cell? ⟨w.heap.size + 1, 2, none⟩ = some (.int .i64 0) := cell_of hb3 rfl
      have HO3 : Hid (Only (fun _ => False) w W3) := ((toDrew ((onlyA w _).alloc _)).trans ho3 (fun i hi e => absurd hi (by omega)))
      clear ho3 hb3
      go_region
      all_goals
        go_wp2
        go_roundg 0
        case measure => omega
        case rel => exact Or.inr ⟨rfl, rfl, HO3.out⟩
    · go_wp2
      go_end0
      exact ⟨rfl, ho⟩
end Go.Proofs.YtdbdbaepmdmnfaaGreatDoor

namespace Go.Proofs.YtdbdbaepmdmnfaaGreatDoor
open Go.RowKit
/-- What the checker does with the body of the one rule. -/
def Checks (w : World) (u : Value) (o : Option (ByteArray × Nat)) : Prop := ∀ W cb M, Only (fun _ => False) w W → w.heap.size ≤ cb → UX W cb M none true → Calls Tryz.prog 113 #[.pointer (some ⟨cb, 0, none⟩), u] W fun en w' => en = .returned (.tuple #[]) ∧ UX w' cb M o true ∧ Only (fun k => k = cb) W w'
set_option maxRecDepth 20000 in
set_option maxHeartbeats 8000000 in
theorem least_ok (V : World → Value → Prop) (hsl : IsSl V) (o : Option (ByteArray × Nat)) (v : Value) (w : World) (h : ProgT 0 V w v) (hB : ∀ u, V w u → Checks w u o)
    (hj : ∀ W cb M, UX W cb M o false → Calls Tryz.prog 78 #[.pointer (some ⟨cb, 0, none⟩)] W fun en w' => en = .returned (.tuple #[]) ∧ Only (fun _ => False) W w') :
    Calls Tryz.prog 46 #[v] w fun en w' => en = .returned (.tuple #[.int .i64 0, .bool false]) ∧ Only (fun _ => False) w w' := by
  have hmm := @run_makeMap Tryz.prog
  obtain ⟨rs, u, rfl, hr, hu⟩ := h
  obtain ⟨po, n, cap, rfl⟩ := hsl _ _ hu
  obtain ⟨g, cr, rfl, hg, hc⟩ := own_at hr (by omega)
  have g0 : w.cell? ⟨g, 0, none⟩ = some (.int .i64 0) := hc 0 _ rfl
  have g1 : w.cell? ⟨g, 1, none⟩ = some (.slice none 0 0) := hc 1 _ rfl
  have g2 : w.cell? ⟨g, 2, none⟩ = some (.slice po n cap) := hc 2 _ rfl
  have HB := hide (hB _ hu)
  have HJ := hide hj
  clear hr hu hc hB hj hsl
  go_enter Tryz.func46, Tryz.ntmps46
  go_wp2
  go_loop [16] (fun s => s = .int .i64 0) (fun _ => 0)
  case atStart => exact rfl
  case round =>
    subst hrel
    go_wp2
    go_loop [26] (fun s => s = .int .i64 0) (fun _ => 0)
    case atStart => exact rfl
    case round =>
      subst hrel
      go_wp2
      have hux : UX (((w.alloc (.cells #[.slice none 0 0, .slice (some ⟨g, 0, none⟩) 1 cr] 60)).alloc (.map #[] 0)).alloc (.cells #[.map (some (w.heap.size + 1)), .slice none 0 0, .slice none 0 0, .slice none 0 0, .int .i64 0, .bool false, .bool false] 159)) (w.heap.size + 1 + 1) (w.heap.size + 1) none false := ⟨.slice none 0 0, ⟨new_at2 (W := (w.alloc _).alloc _) (by simp) _, (Below.heap_alloc _ _ _ (by simp)).trans (new_at2 (W := w.alloc _) (by simp) _)⟩, rfl⟩
      have hO0 : Only (fun _ => False) w (((w.alloc (.cells #[.slice none 0 0, .slice (some ⟨g, 0, none⟩) 1 cr] 60)).alloc (.map #[] 0)).alloc (.cells #[.map (some (w.heap.size + 1)), .slice none 0 0, .slice none 0 0, .slice none 0 0, .int .i64 0, .bool false, .bool false] 159)) := ((onlyA w _).alloc _).alloc _
      have HR := hide (urule (w.heap.size + 1 + 1) (w.heap.size + 1) o (.slice po n cap) ⟨po, n, cap, rfl⟩ _ (hux.alloc (.cells #[.int .i64 0, .slice none 0 0, .slice po n cap] 102)) (fun W hW hO => HB.out W _ _ ((hO0.alloc _).trans hO (fun i hi e => absurd hi (by omega))) (by omega) hW))
      have HO0 := hide hO0
      clear hux hO0 HB
      go_loopg [36] 1 (fun gh s wr => (gh = 1 ∧ s = .int .i64 0 ∧ wr = ((w.alloc (.cells #[.slice none 0 0, .slice (some ⟨g, 0, none⟩) 1 cr] 60)).alloc (.map #[] 0)).alloc (.cells #[.map (some (w.heap.size + 1)), .slice none 0 0, .slice none 0 0, .slice none 0 0, .int .i64 0, .bool false, .bool false] 159)) ∨ (gh = 0 ∧ s = .int .i64 1 ∧ UX wr (w.heap.size + 1 + 1) (w.heap.size + 1) o false ∧ Only (fun _ => False) w wr))
      case atStart => exact Or.inl ⟨rfl, rfl, rfl⟩
      case round =>
        rcases hrel with ⟨hgh, rfl, hw⟩ | ⟨hgh, rfl, hux, ho⟩
        · subst hw
          have k0 := (HO0.out.cell (p := ⟨g, 0, none⟩) hg (fun e => e)).trans g0
          have k1 := (HO0.out.cell (p := ⟨g, 1, none⟩) hg (fun e => e)).trans g1
          have k2 := (HO0.out.cell (p := ⟨g, 2, none⟩) hg (fun e => e)).trans g2
          go_wp2_with (go_at_call 77; refine (HR.out).mono ?_; rintro en w2 ⟨rfl, h2, h3⟩; have H2 := hide h2; have H3 := hide h3; clear h2 h3)
          go_roundg 0
          case measure => omega
          case rel => exact Or.inr ⟨rfl, rfl, H2.out, (HO0.out.alloc _).trans H3.out (fun i hi e => absurd hi (by omega))⟩
        · have HJ2 := hide (HJ.out _ _ _ hux)
          have HU := hide hux
          have HO := hide ho
          clear hux ho HR HJ
          go_wp2_with fail
          refine (HJ2.out).mono ?_
          rintro en w3 ⟨rfl, ho3⟩
          have c3 : w3.cell? ⟨w.heap.size + 1 + 1, 3, none⟩ = some (.slice none 0 0) := by obtain ⟨v, h1, _⟩ := HU.out.calm ho3; exact cell_of h1.1 rfl
          have HO3 := hide ho3
          clear ho3 HJ2
          go_wp2
          go_ret2
          exact ⟨rfl, HO.out.trans HO3.out (fun _ _ e => e)⟩
end Go.Proofs.YtdbdbaepmdmnfaaGreatDoor

namespace Go.Proofs.YtdbdbaepmdmnfaaGreatDoor
open Go.RowKit
theorem prog_calm {kd : Nat} {V : World → Value → Prop} (hV3 : Stab3 V) {w w' : World} {v : Value} (h : ProgT kd V w v) (ho : Only (fun _ => False) w w') : ProgT kd V w' v := prog_only hV3 h ho (fun _ e => e.elim)
set_option maxRecDepth 20000 in
set_option maxHeartbeats 8000000 in
theorem readProgram_ok (T : ByteArray) (hT : T.size ≤ 600) (V : Nat → World → Value → Prop) (hV3 : ∀ pb, Stab3 (V pb)) (w : World)
    (hr : ∀ W, Calls Tryz.prog 45 #[.string T] W fun en w' => ∃ pb v, en = .returned (.tuple #[v, .int .i64 0, .bool true]) ∧ ProgT 0 (V pb) w' v ∧ Only (fun _ => False) W w')
    (hl : ∀ pb W v, ProgT 0 (V pb) W v → Calls Tryz.prog 46 #[v] W fun en w' => en = .returned (.tuple #[.int .i64 0, .bool false]) ∧ Only (fun _ => False) W w') :
    Calls Tryz.prog 34 #[.string T] w fun en w' => ∃ pb v, en = .returned (.tuple #[v, .int .i64 0, .int .i64 0]) ∧ ProgT 0 (V pb) w' v ∧ Only (fun _ => False) w w' := by
  have hli : ¬ (600 : Int) < (T.size : Int) := by omega
  have HR := hide (hr (w.alloc (.cells #[.slice none 0 0, .slice none 0 0] 60)))
  have HL := hide hl
  have HV3 := hide hV3
  clear hr hl hV3
  go_enter Tryz.func34, Tryz.ntmps34
  go_wp2_with fail
  refine (HR.out).mono ?_
  rintro en w1 ⟨pb, v, rfl, hp, ho⟩
  have hp0 := hp
  obtain ⟨rs, u, rfl, hrow, hu⟩ := hp
  obtain ⟨pr, cr, rfl⟩ := ownsRow_slice hrow
  have hpA := prog_calm (HV3.out pb) hp0 (onlyA w1 (.cells #[.slice none 0 0, .slice pr 1 cr] 60))
  have HLs := hide (HL.out pb _ _ hpA)
  have HPA := hide hpA
  have HO := hide ho
  have hz1 : w.heap.size + 1 ≤ w1.heap.size := by have := ho.size; simpa using this
  clear hrow hu hp0 hpA ho HR HL
  go_wp2_with fail
  refine (HLs.out).mono ?_
  rintro en w2 ⟨rfl, ho2⟩
  have hb5 := (ho2.block w1.heap.size (by simp) (fun e => e)).trans (new0 w1 (.cells #[.slice none 0 0, .slice pr 1 cr] 60))
  have hb2 := (ho2.block w.heap.size (by simp; omega) (fun e => e)).trans ((Below.heap_alloc _ _ _ (by omega)).trans ((HO.out.block w.heap.size (by simp) (fun e => e)).trans (new0 w (.cells #[.slice none 0 0, .slice none 0 0] 60))))
  have c0 : w2.cell? ⟨w1.heap.size, 0, none⟩ = some (.slice none 0 0) := cell_of hb5 rfl
  have c1 : w2.cell? ⟨w1.heap.size, 1, none⟩ = some (.slice pr 1 cr) := cell_of hb5 rfl
  have d0 : w2.cell? ⟨w.heap.size, 0, none⟩ = some (.slice none 0 0) := cell_of hb2 rfl
  have d1 : w2.cell? ⟨w.heap.size, 1, none⟩ = some (.slice none 0 0) := cell_of hb2 rfl
  have df := free_of hb2
  have HB2 := hide hb2
  have HP2 := hide (prog_calm (HV3.out pb) HPA.out ho2)
  have HO2 := hide ho2
  clear hb5 hb2 ho2 HLs
  go_wp2
  refine bodyPost_ret (v := .tuple #[.agg #[.slice none 0 0, .slice pr 1 cr], .int .i64 0, .int .i64 0]) (by simp [results, Tryz.results34, go_sem, d0, d1]) rfl ⟨pb, _, rfl, ?_, ?_⟩
  · refine prog_only (HV3.out pb) (D := fun k => k = w.heap.size) HP2.out (((Only.refl (fun k => k = w.heap.size) w2).setCell (p := ⟨w.heap.size, 0, none⟩) (fun _ => rfl) _).setCell (p := ⟨w.heap.size, 1, none⟩) (fun _ => rfl) _) ?_
    rintro k rfl
    exact ⟨_, _, HB2.out, by decide, by decide, by decide⟩
  · exact (((((onlyA w _).trans HO.out (fun _ _ e => e)).alloc _).trans HO2.out (fun _ _ e => e)).setCell (p := ⟨w.heap.size, 0, none⟩) (fun h => absurd h (Nat.lt_irrefl _)) _).setCell (p := ⟨w.heap.size, 1, none⟩) (fun h => absurd h (Nat.lt_irrefl _)) _
end Go.Proofs.YtdbdbaepmdmnfaaGreatDoor

namespace Go.Proofs.YtdbdbaepmdmnfaaGreatDoor
open Go.RowKit
theorem lies186 : liesAt Tryz.prog Tryz.prog.depth 90 (2 / Tryz.prog.cellsOf 90) 0 88 1 = true := by kernel_rfl
theorem size184 : (Tryz.prog.info? 88).map (·.size) = some 2 := by kernel_rfl
set_option maxHeartbeats 1000000 in
set_option maxRecDepth 100000 in
theorem check_used (b : Nat) (w : World) (h0 : w.cell? ⟨b, 0, none⟩ = some (.pointer (some ⟨b, 0, none⟩))) :
    Calls Tryz.prog 149 #[.pointer (some ⟨b, 0, none⟩)] w fun e w' => e = .returned (.tuple #[]) ∧ w' = w := by
  obtain ⟨j, hj, _⟩ := Option.map_eq_some_iff.1 size184
  go_enter Tryz.func149, Tryz.ntmps149
  go_wp2
  rw [Lib.run_neq_ptr_same w _ Tryz.underlying86 hj]
  go_wp2
  go_end0
  exact ⟨rfl, rfl⟩
set_option maxHeartbeats 1000000 in
set_option maxRecDepth 100000 in
theorem check_fresh (b : Nat) (w : World) (h0 : w.cell? ⟨b, 0, none⟩ = some (.pointer none)) (hsh : w.shape? b = some (90, 2)) (hfz : w.frozen? ⟨b, 0, none⟩ = false) :
    Calls Tryz.prog 149 #[.pointer (some ⟨b, 0, none⟩)] w fun e w' => e = .returned (.tuple #[]) ∧ w' = w.setCell ⟨b, 0, none⟩ (.pointer (some ⟨b, 0, none⟩)) := by
  obtain ⟨j, hj, hjs⟩ := Option.map_eq_some_iff.1 size184
  go_enter Tryz.func149, Tryz.ntmps149
  go_wp2
  rw [Lib.run_to_unsafe w ⟨b, 0, none⟩ Tryz.underlying86 Tryz.underlying368 hj (by rw [hjs]; decide) hsh (Nat.zero_lt_succ 1)]
  simp only [Result.andThen]
  rw [Oper.upon_value]
  go_wp2
  rw [run_callFunc_extern Tryz.func200 (by kernel_rfl) (by kernel_rfl) (by kernel_rfl) (e := Extern.AbiNoEscape.same) (by kernel_rfl)]
  rw [Lib.run_noEscape]
  simp only [Result.andThen]
  rw [Oper.upon_value]
  go_wp2
  rw [Lib.run_from_unsafe w ⟨b, 0, none⟩ Tryz.underlying368 Tryz.underlying86 hj hsh lies186]
  simp only [Result.andThen]
  rw [Oper.upon_value]
  go_wp2
  go_end0
  exact ⟨rfl, rfl⟩
theorem check_any (B b : Nat) (bs : List Value) (w : World) (h : Lib.IsBuilder 90 5 B b bs w) :
    Calls Tryz.prog 149 #[.pointer (some ⟨b, 0, none⟩)] w fun e w' => e = .returned (.tuple #[]) ∧ (Lib.BuilderAt 90 5 B b (.pointer (some ⟨b, 0, none⟩)) bs w' ∧ Below B w w') := by
  rcases h with h | h
  · refine (check_fresh b w h.cell0 h.shape h.frozen0).mono ?_
    rintro e w' ⟨rfl, rfl⟩
    exact ⟨rfl, h.used _, (Below.refl B w).setCell (p := ⟨b, 0, none⟩) h.1 _⟩
  · refine (check_used b w h.cell0).mono ?_
    rintro e w' ⟨rfl, rfl⟩
    exact ⟨rfl, h, Below.refl B _⟩
theorem infoByte5 : (Tryz.prog.info? 5).map (fun i => (i.zero, i.size, i.bytes)) = some (some (.int .u8 0), 1, 1) := by kernel_rfl
set_option maxHeartbeats 2000000 in
set_option maxRecDepth 100000 in
theorem put_str (B b : Nat) (bs : List Value) (s : ByteArray) (w : World) (h : Lib.IsBuilder 90 5 B b bs w) (hlen : bs.length + s.size ≤ 140737488355328) (hBw : B ≤ w.heap.size) :
    Calls Tryz.prog 118 #[.pointer (some ⟨b, 0, none⟩), .string s] w fun e w' => e = .returned (.tuple #[.int .i64 s.size, .nilIface]) ∧ (Lib.BuilderAt 90 5 B b (.pointer (some ⟨b, 0, none⟩)) (bs ++ Lib.strCells s) w' ∧ Below B w w') := by
  obtain ⟨i0, hi, hz0, hz1, hz2⟩ := info_parts infoByte5
  have HC := hide (check_any B b bs w h)
  clear h
  go_enter Tryz.func118, Tryz.ntmps118
  go_wp2_with fail
  refine (HC.out).mono ?_
  rintro e w1 ⟨rfl, h1, hb1⟩
  obtain ⟨hB, v, hbk, hown, hne⟩ := h1
  have c1 : w1.cell? ⟨b, 1, none⟩ = some v := by rw [Lib.cell_of_heap hbk]; rfl
  have hz := hb1.size
  go_wp2_with (at_builtin; refine Lib.wpList_append_own_string _ rfl _ _ 54 9 rfl B 5 i0 Tryz.underlying54 Tryz.underlying9 hi hz0 hz1 hz2 _ _ _ rfl hown s rfl (by unfold maxLen; omega) (by omega) (by omega) ?_; intro v' w2 hown' hgrow _; obtain ⟨ao, cap, rfl⟩ := ownsRow_slice hown'; have hb2 : w2.heap[b]? = some (.cells #[.pointer (some ⟨b, 0, none⟩), v] 90 (0, 0)) := (hgrow.block b (heap_lt hbk) (fun e => hne e.symm)).trans hbk; have d0 : w2.cell? ⟨b, 0, none⟩ = some (.pointer (some ⟨b, 0, none⟩)) := (by rw [Lib.cell_of_heap hb2]; rfl); have d1 : w2.cell? ⟨b, 1, none⟩ = some v := (by rw [Lib.cell_of_heap hb2]; rfl); have f1 : w2.frozen? ⟨b, 1, none⟩ = false := Lib.frozen_of_heap hb2 1)
  go_ret2
  refine ⟨rfl, ?_, ?_⟩
  · exact Lib.BuilderAt.put (T := 90) (e := 5) hB hb2 (bs' := bs ++ Lib.strCells s) (by simpa [Lib.strCells_length] using hown') (by decide)
  · exact (hb1.grown hgrow (by omega) (fun k hk => (hown.lt k hk).1)).setCell (p := ⟨b, 1, none⟩) hB _
set_option maxHeartbeats 1000000 in
set_option maxRecDepth 100000 in
theorem str_any (B b : Nat) (l : List UInt8) (w : World) (h : Lib.IsBuilder 90 5 B b (Lib.byteCells l) w) (h0 : l ≠ []) :
    Calls Tryz.prog 49 #[.pointer (some ⟨b, 0, none⟩)] w fun e w' => e = .returned (.string ⟨l.toArray⟩) ∧ Below B w w' := by
  obtain ⟨p, hB, v, hbk, hown, hne⟩ : ∃ p, Lib.BuilderAt 90 5 B b p (Lib.byteCells l) w := h.elim (fun h => ⟨_, h⟩) (fun h => ⟨_, h⟩)
  have hl0 : l.length ≠ 0 := by simpa using h0
  rw [Lib.byteCells_length] at hown
  obtain ⟨g, cap, cur, rfl, hbg, hg, hnc, hcm, hcs, htake⟩ : ∃ g cap cur, v = .slice (some ⟨g, 0, none⟩) l.length cap ∧ B ≤ g ∧ w.heap[g]? = some (.cells cur 5 (0, 0)) ∧ l.length ≤ cap ∧ cap ≤ maxLen ∧ cur.size = cap * 1 ∧ cur.toList.take (l.length * 1) = Lib.byteCells l := by
    rcases hown.2 with ⟨_, hz⟩ | h
    · exact absurd hz hl0
    · exact h
  have c1 : w.drew.cell? ⟨b, 1, none⟩ = some (.slice (some ⟨g, 0, none⟩) l.length cap) := cell_of (w := w.drew) hbk rfl
  have hSD : (Builtin.unsafeSliceData_ #[54] 167 #[.slice (some ⟨g, 0, none⟩) l.length cap]).run Tryz.prog w.drew = .ok (.pointer (some ⟨g, 0, none⟩)) w.drew :=
    Lib.run_unsafeSliceData_row _ _ _ _ _ _ (by omega)
  have hUS : (Builtin.unsafeString_ #[167, 3] 9 #[.pointer (some ⟨g, 0, none⟩), .int .i64 l.length]).run Tryz.prog w.drew = .ok (.string ⟨l.toArray⟩) (w.drew.freeze ⟨g, 0, none⟩ l.length) := by
    refine Lib.run_unsafeString_row w.drew 167 3 9 5 Tryz.underlying167 (by kernel_rfl) g cur.size (by have hg' : w.drew.heap[g]? = some (.cells cur 5 (0, 0)) := hg; simp [World.shape?, hg']) l h0 (by omega) (by unfold maxLen at hcm; omega) ?_
    intro j x hx
    exact hown.cells (g := g) rfl j (.int .u8 x.toNat) (by simp [Lib.byteCells, hx])
  go_enter Tryz.func49, Tryz.ntmps49
  go_wp2
  go_region
  all_goals (go_wp2; go_ret; exact ⟨rfl, Lib.below_freeze (Below.drew (Below.refl B w)) (p := ⟨g, 0, none⟩) hbg _⟩)
end Go.Proofs.YtdbdbaepmdmnfaaGreatDoor

namespace Go.Proofs.YtdbdbaepmdmnfaaGreatDoor
open Go.RowKit
/-- A writer that has written l. -/
def WrAt (B b : Nat) (l : List UInt8) (w : World) : Prop := Lib.IsBuilder 90 5 B b (Lib.byteCells l) w ∧ B ≤ w.heap.size
theorem WrAt.lt {B b l w} (h : WrAt B b l w) : b < w.heap.size := h.1.elim (fun h => h.lt) (fun h => h.lt)
theorem WrAt.le {B b l w} (h : WrAt B b l w) : B ≤ b := h.1.elim (fun h => h.1) (fun h => h.1)
theorem builderAt_of {B b p bs} {w w' : World} (h : Lib.BuilderAt 90 5 B b p bs w) (hk : ∀ k, k < w.heap.size → w'.heap[k]? = w.heap[k]?) : Lib.BuilderAt 90 5 B b p bs w' := by
  obtain ⟨h1, v, h2, h3, h4⟩ := h
  exact ⟨h1, v, (hk b (heap_lt h2)).trans h2, ownsRow_of h3 (fun k hkk => hk k (h3.lt k hkk).2), h4⟩
theorem WrAt.calm {B b l w w'} (h : WrAt B b l w) (ho : Only (fun _ => False) w w') : WrAt B b l w' := ⟨h.1.elim (fun h => Or.inl (builderAt_of h (fun k hk => ho.block k hk (fun e => e)))) (fun h => Or.inr (builderAt_of h (fun k hk => ho.block k hk (fun e => e)))), Nat.le_trans h.2 ho.size⟩
theorem WrAt.alloc {B b l w} (h : WrAt B b l w) (o : Obj) : WrAt B b l (w.alloc o) := h.calm (onlyA w o)
theorem cells_app (l : List UInt8) (s : ByteArray) : Lib.byteCells l ++ Lib.strCells s = Lib.byteCells (l ++ s.data.toList) := by
  simp [Lib.byteCells, Lib.strCells]
set_option maxRecDepth 20000 in
set_option maxHeartbeats 4000000 in
theorem wput1 (B b : Nat) (l : List UInt8) (s : ByteArray) (hl : l.length + s.size ≤ 1000) (g cap : Nat) (w : World) (h : WrAt B b l w) (hg : w.cell? ⟨g, 0, none⟩ = some (.string s)) :
    Calls Tryz.prog 80 #[.pointer (some ⟨b, 0, none⟩), .slice (some ⟨g, 0, none⟩) 1 cap] w fun en w' => en = .returned (.tuple #[]) ∧ WrAt B b (l ++ s.data.toList) w' ∧ Below B w w' := by
  have HP := hide (put_str B b (Lib.byteCells l) s w h.1 (by rw [Lib.byteCells_length]; omega) h.2)
  have hB := h.2
  clear h
  go_enter Tryz.func80, Tryz.ntmps80
  go_wp2
  go_loopg [8] 1 (fun gh s8 wr => (gh = 1 ∧ s8 = .int .i64 0 ∧ wr = w) ∨ (gh = 0 ∧ s8 = .int .i64 1 ∧ WrAt B b (l ++ s.data.toList) wr ∧ Below B w wr))
  case atStart => exact Or.inl ⟨rfl, rfl, rfl⟩
  case round =>
    rcases hrel with ⟨hgh, rfl, hw⟩ | ⟨hgh, rfl, h1, h2⟩
    · subst wr
      go_wp2_with (go_at_call 118; refine (HP.out).mono ?_; rintro en w2 ⟨rfl, h1, h2⟩; have H1 := hide h1; have H2 := hide h2; clear h1 h2)
      go_roundg 0
      case measure => omega
      case rel => exact Or.inr ⟨rfl, rfl, ⟨Or.inr (by rw [← cells_app]; exact H1.out), Nat.le_trans hB H2.out.size⟩, H2.out⟩
    · go_wp2
      go_end0
      exact ⟨rfl, h1, h2⟩
theorem we188_434 (v : Value) (w : World) : (Instr.typeAssert (.iface 92 v) 238 300 true).run Tryz.prog w = .ok (.tuple #[.agg #[.int .i64 0], .bool false]) w := by kernel_rfl
theorem we188_436 (v : Value) (w : World) : (Instr.typeAssert (.iface 92 v) 238 303 true).run Tryz.prog w = .ok (.tuple #[.agg #[.string ⟨#[]⟩], .bool false]) w := by kernel_rfl
theorem we188_437 (v : Value) (w : World) : (Instr.typeAssert (.iface 92 v) 238 304 true).run Tryz.prog w = .ok (.tuple #[.agg #[.string ⟨#[]⟩], .bool false]) w := by kernel_rfl
set_option maxRecDepth 20000 in
set_option maxHeartbeats 4000000 in
theorem wexpr_name (B b : Nat) (l : List UInt8) (x : ByteArray) (a : Nat) (hl : l.length + x.size ≤ 1000) (w : World) (h : WrAt B b l w) :
    Calls Tryz.prog 120 #[.pointer (some ⟨b, 0, none⟩), nameV x a] w fun en w' => en = .returned (.tuple #[]) ∧ WrAt B b (l ++ x.data.toList) w' ∧ Below B w w' := by
  have q0 := we188_434 (.agg #[.string x, .int .i64 a])
  have q1 := we188_436 (.agg #[.string x, .int .i64 a])
  have q2 := we188_437 (.agg #[.string x, .int .i64 a])
  have q3 := te188_188 (.agg #[.string x, .int .i64 a])
  have HP := hide (wput1 B b l x hl (w.heap.size + 1) 1 _ ((h.alloc (.cells #[.string x, .int .i64 a] 92)).alloc (.cells #[.string x] 9)) (cell_of (new_at2 (W := w.alloc _) (by simp) _) rfl))
  have hB := h.2
  clear h
  unfold nameV
  go_enter Tryz.func120, Tryz.ntmps120
  go_wp2_with (go_at_call 80; refine (HP.out).mono ?_; rintro en w2 ⟨rfl, h1, h2⟩; have H1 := hide h1; have H2 := hide h2; clear h1 h2)
  go_end0
  exact ⟨rfl, H1.out, (((Below.refl B w).alloc hB _).alloc (by simp; omega) _).trans H2.out⟩
set_option maxRecDepth 20000 in
set_option maxHeartbeats 4000000 in
theorem wsimple_x (B b : Nat) (l : List UInt8) (x : ByteArray) (a : Nat) (hl : l.length + x.size ≤ 1000) (w : World) (h : WrAt B b l w) :
    Calls Tryz.prog 152 #[.pointer (some ⟨b, 0, none⟩), .iface 350 (.agg #[nameV x a])] w fun en w' => en = .returned (.tuple #[]) ∧ WrAt B b (l ++ x.data.toList) w' ∧ Below B w w' := by
  have q0 := ts507_507 (.agg #[nameV x a])
  have HP := hide (wexpr_name B b l x a hl _ (h.alloc (.cells #[nameV x a] 350)))
  have hB := h.2
  clear h
  unfold nameV at *
  go_enter Tryz.func152, Tryz.ntmps152
  go_wp2_with (go_at_call 120; refine (HP.out).mono ?_; rintro en w2 ⟨rfl, h1, h2⟩; have H1 := hide h1; have H2 := hide h2; clear h1 h2)
  go_end0
  exact ⟨rfl, H1.out, ((Below.refl B w).alloc hB _).trans H2.out⟩
set_option maxRecDepth 20000 in
set_option maxHeartbeats 4000000 in
theorem wstmt_x (B b : Nat) (l : List UInt8) (x : ByteArray) (a : Nat) (hl : l.length + x.size ≤ 900) (w : World) (h : WrAt B b l w) :
    Calls Tryz.prog 119 #[.pointer (some ⟨b, 0, none⟩), .iface 350 (.agg #[nameV x a])] w fun en w' => en = .returned (.tuple #[]) ∧ WrAt B b (l ++ x.data.toList ++ [59, 32]) w' ∧ Below B w w' := by
  have q0 := ts507_191 (.agg #[nameV x a])
  have q1 := ts507_424 (.agg #[nameV x a])
  have q2 := ts507_427 (.agg #[nameV x a])
  have q3 := ts507_429 (.agg #[nameV x a])
  have q4 := ts507_432 (.agg #[nameV x a])
  have HS := hide (wsimple_x B b l x a (by omega) w h)
  have hx : x.data.toList.length = x.size := by rw [Array.length_toList]; rfl
  clear h
  unfold nameV at *
  go_enter Tryz.func119, Tryz.ntmps119
  go_wp2_with fail
  refine (HS.out).mono ?_
  rintro en w2 ⟨rfl, h1, h2⟩
  have HP := hide (wput1 B b (l ++ x.data.toList) ⟨#[59, 32]⟩ (by rw [show (ByteArray.mk #[59, 32]).size = 2 from rfl]; rw [List.length_append]; omega) w2.heap.size 1 _ (h1.alloc (.cells #[.string ⟨#[59, 32]⟩] 9)) (cell_of (new0 w2 _) rfl))
  have hB := h1.2
  have H2 := hide h2
  clear h1 h2 HS
  go_wp2_with (go_at_call 80; refine (HP.out).mono ?_; rintro en w3 ⟨rfl, h1, h2⟩; have H3 := hide h1; have H4 := hide h2; clear h1 h2)
  go_end0
  exact ⟨rfl, H3.out, (H2.out.alloc hB _).trans H4.out⟩
set_option maxRecDepth 20000 in
set_option maxHeartbeats 4000000 in
theorem wblock_x (B b : Nat) (l : List UInt8) (x : ByteArray) (a : Nat) (hl : l.length + x.size ≤ 800) (g cap : Nat) (hg : g < B) (w : World) (h : WrAt B b l w) (hc : w.cell? ⟨g, 0, none⟩ = some (.iface 350 (.agg #[nameV x a]))) :
    Calls Tryz.prog 81 #[.pointer (some ⟨b, 0, none⟩), .slice (some ⟨g, 0, none⟩) 1 cap] w fun en w' => en = .returned (.tuple #[]) ∧ WrAt B b (l ++ [123, 32] ++ x.data.toList ++ [59, 32] ++ [125, 32]) w' ∧ Below B w w' := by
  have hx : x.data.toList.length = x.size := by rw [Array.length_toList]; rfl
  have HP := hide (wput1 B b l ⟨#[123, 32]⟩ (by rw [show (ByteArray.mk #[123, 32]).size = 2 from rfl]; omega) w.heap.size 1 _ (h.alloc (.cells #[.string ⟨#[123, 32]⟩] 9)) (cell_of (new0 w _) rfl))
  have hB := h.2
  clear h
  go_enter Tryz.func81, Tryz.ntmps81
  go_wp2_with fail
  refine (HP.out).mono ?_
  rintro en w1 ⟨rfl, h1, h2⟩
  have hb1 : Below B w w1 := ((Below.refl B w).alloc hB _).trans h2
  have c1 : w1.cell? ⟨g, 0, none⟩ = some (.iface 350 (.agg #[nameV x a])) := (World.cell?_of_block (hb1.block g hg)).trans hc
  have HS := hide (wstmt_x B b (l ++ [123, 32]) x a (by simp only [List.length_append, List.length_cons, List.length_nil]; omega) w1 h1)
  have HB1 := hide hb1
  clear h1 h2 hb1 HP
  go_wp2
  go_loopg [11] 1 (fun gh s wr => (gh = 1 ∧ s = .int .i64 0 ∧ wr = w1) ∨ (gh = 0 ∧ s = .int .i64 1 ∧ WrAt B b (l ++ [123, 32] ++ x.data.toList ++ [59, 32]) wr ∧ Below B w wr))
  case atStart => exact Or.inl ⟨rfl, rfl, rfl⟩
  case round =>
    rcases hrel with ⟨hgh, rfl, hw⟩ | ⟨hgh, rfl, h1, h2⟩
    · subst wr
      go_wp2_with (go_at_call 119; refine (HS.out).mono ?_; rintro en w2 ⟨rfl, h1, h2⟩; have H1 := hide h1; have H2 := hide h2; clear h1 h2)
      go_roundg 0
      case measure => omega
      case rel => exact Or.inr ⟨rfl, rfl, H1.out, HB1.out.trans H2.out⟩
    · have HP := hide (wput1 B b (l ++ [123, 32] ++ x.data.toList ++ [59, 32]) ⟨#[125, 32]⟩ (by rw [show (ByteArray.mk #[125, 32]).size = 2 from rfl]; simp only [List.length_append, List.length_cons, List.length_nil]; omega) wr.heap.size 1 _ (h1.alloc (.cells #[.string ⟨#[125, 32]⟩] 9)) (cell_of (new0 wr _) rfl))
      have hB1 := h1.2
      have H2 := hide h2
      clear h1 h2 HS
      go_wp2_with (go_at_call 80; refine (HP.out).mono ?_; rintro en w3 ⟨rfl, h1, h2⟩; have H3 := hide h1; have H4 := hide h2; clear h1 h2)
      go_end0
      exact ⟨rfl, H3.out, (H2.out.alloc hB1 _).trans H4.out⟩
end Go.Proofs.YtdbdbaepmdmnfaaGreatDoor

namespace Go.Proofs.YtdbdbaepmdmnfaaGreatDoor
open Go.RowKit
/-- The tree of a program that is { x } alone. -/
def VX (x : ByteArray) (a : Nat) (pb : Nat) : World → Value → Prop := BlockT pb 1 (fun _ => WorkT (Is (nameV x a)))
theorem VX.at {x a pb w v} (h : VX x a pb w v) : ∃ g cap, v = .slice (some ⟨g, 0, none⟩) 1 cap ∧ g < w.heap.size ∧ w.cell? ⟨g, 0, none⟩ = some (.iface 350 (.agg #[nameV x a])) := by
  obtain ⟨vs, hl, h1, _, h4⟩ := h
  obtain ⟨g, cap, e, hg, hc⟩ := own_at h1 (by omega)
  obtain ⟨u, hu⟩ : ∃ u, vs[0]? = some u := ⟨_, List.getElem?_eq_getElem (by omega)⟩
  obtain ⟨y, hy, hz⟩ := h4 0 u hu
  cases hz
  exact ⟨g, cap, e, hg, (hc 0 u hu).trans (by rw [hy])⟩
set_option maxRecDepth 20000 in
set_option maxHeartbeats 4000000 in
theorem wrule_x (B b : Nat) (x : ByteArray) (a : Nat) (hl : x.size ≤ 100) (g cap : Nat) (hg : g < B) (w : World) (h : WrAt B b [] w) (hc : w.cell? ⟨g, 0, none⟩ = some (.iface 350 (.agg #[nameV x a]))) :
    Calls Tryz.prog 48 #[.pointer (some ⟨b, 0, none⟩), .agg #[.int .i64 0, .slice none 0 0, .slice (some ⟨g, 0, none⟩) 1 cap]] w fun en w' => en = .returned (.tuple #[]) ∧ WrAt B b ([] ++ [123, 32] ++ x.data.toList ++ [59, 32] ++ [125, 32]) w' ∧ Below B w w' := by
  have hB := h.2
  have hc' : (w.alloc (.cells #[.int .i64 0, .slice none 0 0, .slice (some ⟨g, 0, none⟩) 1 cap] 102)).cell? ⟨g, 0, none⟩ = some (.iface 350 (.agg #[nameV x a])) := (World.cell?_alloc_past _ _ _ (by show g < w.heap.size; omega)).trans hc
  have HP := hide (wblock_x B b [] x a (by simp; omega) g cap hg _ (h.alloc _) hc')
  clear h hc hc'
  go_enter Tryz.func48, Tryz.ntmps48
  go_wp2_with (go_at_call 81; refine (HP.out).mono ?_; rintro en w3 ⟨rfl, h1, h2⟩; have H3 := hide h1; have H4 := hide h2; clear h1 h2)
  go_end0
  exact ⟨rfl, H3.out, ((Below.refl B w).alloc hB _).trans H4.out⟩
set_option maxRecDepth 20000 in
set_option maxHeartbeats 4000000 in
theorem write_x (pb : Nat) (x : ByteArray) (a : Nat) (hl : x.size ≤ 100) (v : Value) (w : World) (h : ProgT 0 (VX x a pb) w v) :
    Calls Tryz.prog 35 #[v] w fun en w' => en = .returned (.string ⟨(123 :: 32 :: (x.data.toList ++ [59, 32, 125, 32])).toArray⟩) ∧ Below w.heap.size w w' := by
  obtain ⟨rs, u, rfl, hr, hu⟩ := h
  obtain ⟨g, cap, rfl, hg, hc⟩ := hu.at
  obtain ⟨q, cr, rfl, hq, hqc⟩ := own_at hr (by omega)
  have g0 : w.cell? ⟨q, 0, none⟩ = some (.int .i64 0) := hqc 0 _ rfl
  have g1 : w.cell? ⟨q, 1, none⟩ = some (.slice none 0 0) := hqc 1 _ rfl
  have g2 : w.cell? ⟨q, 2, none⟩ = some (.slice (some ⟨g, 0, none⟩) 1 cap) := hqc 2 _ rfl
  clear hr hu hqc
  go_enter Tryz.func35, Tryz.ntmps35
  go_wp2
  go_loop [11] (fun s => s = .int .i64 0) (fun _ => 0)
  case atStart => exact rfl
  case round =>
    subst hrel
    go_wp2
    have hO0 : Only (fun _ => False) w ((w.alloc (.cells #[.slice none 0 0, .slice (some ⟨q, 0, none⟩) 1 cr] 60)).alloc (.cells #[.pointer none, .slice none 0 0] 90)) := (onlyA w _).alloc _
    have hw0 : WrAt w.heap.size (w.heap.size + 1) [] ((w.alloc (.cells #[.slice none 0 0, .slice (some ⟨q, 0, none⟩) 1 cr] 60)).alloc (.cells #[.pointer none, .slice none 0 0] 90)) := ⟨Or.inl ⟨by omega, .slice none 0 0, new_at2 (W := w.alloc _) (by simp) _, World.ownsRow_nil _ _ _ _, by simp [Value.ownBlock]⟩, by simp; omega⟩
    have k0 := (hO0.cell (p := ⟨q, 0, none⟩) hq (fun e => e)).trans g0
    have k1 := (hO0.cell (p := ⟨q, 1, none⟩) hq (fun e => e)).trans g1
    have k2 := (hO0.cell (p := ⟨q, 2, none⟩) hq (fun e => e)).trans g2
    have HR := hide (wrule_x w.heap.size (w.heap.size + 1) x a hl g cap hg _ (hw0.alloc (.cells #[.int .i64 0, .slice none 0 0, .slice (some ⟨g, 0, none⟩) 1 cap] 102)) (((hO0.alloc _).cell (p := ⟨g, 0, none⟩) hg (fun e => e)).trans hc))
    clear hO0 hw0 hc
    go_loopg [21] 1 (fun gh s wr => (gh = 1 ∧ s = .int .i64 0 ∧ wr = (w.alloc (.cells #[.slice none 0 0, .slice (some ⟨q, 0, none⟩) 1 cr] 60)).alloc (.cells #[.pointer none, .slice none 0 0] 90)) ∨ (gh = 0 ∧ s = .int .i64 1 ∧ WrAt w.heap.size (w.heap.size + 1) ([] ++ [123, 32] ++ x.data.toList ++ [59, 32] ++ [125, 32]) wr ∧ Below w.heap.size w wr))
    case atStart => exact Or.inl ⟨rfl, rfl, rfl⟩
    case round =>
      rcases hrel with ⟨hgh, rfl, hw⟩ | ⟨hgh, rfl, h1, h2⟩
      · subst hw
        go_wp2_with (go_at_call 48; refine (HR.out).mono ?_; rintro en w2 ⟨rfl, h1, h2⟩; have H1 := hide h1; have H2 := hide h2; clear h1 h2)
        go_roundg 0
        case measure => omega
        case rel => exact Or.inr ⟨rfl, rfl, H1.out, ((((Below.refl w.heap.size w).alloc (Nat.le_refl _) _).alloc (by simp) _).alloc (by simp; omega) _).trans H2.out⟩
      · have HS := hide (str_any w.heap.size (w.heap.size + 1) ([] ++ [123, 32] ++ x.data.toList ++ [59, 32] ++ [125, 32]) wr h1.1 (by simp))
        have H2 := hide h2
        clear h1 h2 HR
        go_wp2_with (go_at_call 49; refine (HS.out).mono ?_; rintro en w3 ⟨rfl, h2⟩; have H4 := hide h2; clear h2)
        go_ret
        exact ⟨rfl, H2.out.trans H4.out⟩
end Go.Proofs.YtdbdbaepmdmnfaaGreatDoor

namespace Go.Proofs.YtdbdbaepmdmnfaaGreatDoor
open Go.RowKit
theorem nx_of (pb : Nat) (T : ByteArray) (s s' : TS) (hi : s.i ≤ T.size) (h5 : T.size ≤ 65000) (hj : runTo blankB T.data.toList s.i = s'.xa) (hc : ∀ c, T.data.toList[s'.xa]? = some c → ((c.toNat : Int) == 35) = false) (hr : ReadsTo pb T s'.xa s.dv s'.k s'.x s'.i) (hd : s'.dv = endsB s'.k s'.x.data.toList) : Nx pb T s s' := by
  have h := goOn_any pb T s.i s.dv hi h5 (by rw [hj]; exact hc) s'.k s'.x s'.i (by rw [hj]; exact hr)
  rw [hj] at h
  exact ⟨h, hd⟩
def T1 : ByteArray := ⟨#[123, 32, 120, 32, 125]⟩
def a1 : TS := ⟨1, false, 9, ⟨#[123]⟩, 0⟩
def a2 : TS := ⟨3, true, 5, ⟨#[120]⟩, 2⟩
def a3 : TS := ⟨5, false, 9, ⟨#[125]⟩, 4⟩
def a4 : TS := ⟨5, false, 1, ⟨#[]⟩, 5⟩
theorem cmt {T : ByteArray} {j : Nat} (h : (match T.data.toList[j]? with | some c => (c.toNat : Int) == 35 | none => false) = false) : ∀ c, T.data.toList[j]? = some c → ((c.toNat : Int) == 35) = false := by
  intro c hc; rw [hc] at h; exact h
theorem n1_1 (pb : Nat) : Nx pb T1 ts0 a1 := by
  refine nx_of pb T1 ts0 a1 (by decide) (by decide) (by decide) (cmt (by decide)) ?_ (by decide)
  refine read_sign pb T1 0 false 9 ⟨#[123]⟩ 1 (by decide) (by decide) (by decide) (by decide) (by decide) (fun w h => ?_)
  have e := sign_one pb T1 0 false (by decide) (by decide) (Or.inr (by decide)) (by decide) w h
  exact e
theorem n1_2 (pb : Nat) : Nx pb T1 a1 a2 := by
  refine nx_of pb T1 a1 a2 (by decide) (by decide) (by decide) (cmt (by decide)) ?_ (by decide)
  refine read_name pb T1 2 false 5 ⟨#[120]⟩ 3 (by decide) (by decide) (by decide) (fun w h => ?_)
  exact name_any pb T1 2 false (by decide) (by decide) w h
theorem n1_3 (pb : Nat) : Nx pb T1 a2 a3 := by
  refine nx_of pb T1 a2 a3 (by decide) (by decide) (by decide) (cmt (by decide)) ?_ (by decide)
  refine read_sign pb T1 4 true 9 ⟨#[125]⟩ 5 (by decide) (by decide) (by decide) (by decide) (by decide) (fun w h => ?_)
  exact sign_one pb T1 4 true (by decide) (by decide) (Or.inl (by decide)) (by decide) w h
theorem n1_4 (pb : Nat) : Nx pb T1 a3 a4 := by
  refine nx_of pb T1 a3 a4 (by decide) (by decide) (by decide) (cmt (by decide)) ?_ (by decide)
  exact read_end pb T1 false
end Go.Proofs.YtdbdbaepmdmnfaaGreatDoor

namespace Go.Proofs.YtdbdbaepmdmnfaaGreatDoor
open Go.RowKit
theorem is_stab3 (v : Value) : Stab3 (Is v) := fun _ _ _ _ h _ _ => h
theorem row_stab3 (pb : Nat) (vs : List Value) : Stab3 (Row pb vs) := by
  rintro w w' v D ⟨h, h2⟩ ho hD
  refine ⟨ownsRow_of h (fun k hk => ho.block k (h.lt k hk).2 (fun e => ?_)), h2⟩
  obtain ⟨c, t, hc, _, h3⟩ := hD k e
  exact own_tag h hc (Ne.symm h3) hk
theorem own_stab3 (pb : Nat) (x : ByteArray) (a : Nat) (vs : List Value) : Stab3 (OwnT pb x a vs) := fun w w' _ D ⟨r, e, h⟩ ho hD => ⟨r, e, row_stab3 pb vs w w' r D h ho hD⟩
theorem work_stab3 {V : World → Value → Prop} (h : Stab3 V) : Stab3 (WorkT V) := fun w w' _ D ⟨u, e, hu⟩ ho hD => ⟨u, e, h w w' u D hu ho hD⟩
theorem block_stab3 {pb n : Nat} {Vf : Nat → World → Value → Prop} (hV : ∀ i, i < n → Stab3 (Vf i)) : Stab3 (BlockT pb n Vf) := by
  rintro w w' v D ⟨vs, h1, h2, h3, h4⟩ ho hD
  refine ⟨vs, h1, ownsRow_of h2 (fun k hk => ho.block k (h2.lt k hk).2 (fun e => ?_)), h3, fun i u hu => ?_⟩
  · obtain ⟨c, t, hc, h5, _⟩ := hD k e
    exact own_tag h2 hc (Ne.symm h5) hk
  · exact hV i (by have := (List.getElem?_eq_some_iff.1 hu).1; omega) _ _ _ D (h4 i u hu) ho hD
theorem vx_stab3 (x : ByteArray) (a pb : Nat) : Stab3 (VX x a pb) := block_stab3 (fun _ _ => work_stab3 (is_stab3 _))
theorem vx_sl (x : ByteArray) (a pb : Nat) : IsSl (VX x a pb) := block_sl _ _ _
def X1 : ByteArray := ⟨#[120]⟩
theorem ends_of {s : TS} (h : (opS.all (fun t => seen s t == false) && !(s.k == 2) && !(s.k == 3) && !(s.k == 5) && !(s.k == 6) && !(s.k == 8)) = true) : Ends s := by
  simp only [Bool.and_eq_true, List.all_eq_true, beq_iff_eq, Bool.not_eq_true', beq_eq_false_iff_ne] at h
  obtain ⟨⟨⟨⟨⟨h0, h1⟩, h2⟩, h3⟩, h4⟩, h5⟩ := h
  exact ⟨h0, h1, h2, h3, h4, h5⟩
theorem expr1 (pb : Nat) : Reads 143 pb T1 false a2 a3 (Is (nameV X1 2)) :=
  expr_rd pb T1 false a2 a3 _ true (place_name X1 2) (is_stab pb _) (ends_of (by decide)) (either_of pb T1 false a2 a3 _ (is_stab pb _) (ends_of (by decide)) ⟨by decide, by decide, by decide⟩ (prim_name pb T1 false a2 a3 rfl (n1_3 pb) (by decide)))
theorem noWord_of {s : TS} (h : ([[112, 114, 105, 110, 116], [110, 101, 120, 116], [98, 114, 101, 97, 107], [99, 111, 110, 116, 105, 110, 117, 101], [101, 120, 105, 116], [114, 101, 116, 117, 114, 110], [100, 101, 108, 101, 116, 101]].all (fun t => seen s t == false)) = true) : NoWord s := by
  intro t ht
  exact beq_iff_eq.1 (List.all_eq_true.1 h t ht)
theorem noComp_of {s : TS} (h : ([[123], [59], [105, 102], [119, 104, 105, 108, 101], [102, 111, 114]].all (fun t => seen s t == false)) = true) : NoComp s := by
  intro t ht
  exact beq_iff_eq.1 (List.all_eq_true.1 h t ht)
theorem name_if (x : ByteArray) (a : Nat) : IsIf (Is (nameV x a)) := fun _ _ h => ⟨_, _, h⟩
theorem stmt1 (pb : Nat) : Reads 181 pb T1 false a2 a3 (WorkT (Is (nameV X1 2))) :=
  stmt_last pb T1 false a2 a3 _ (noComp_of (by decide)) (simple_work pb T1 false a2 a3 _ (name_if X1 2) (noWord_of (by decide)) (expr1 pb)) (by decide)
theorem block1 (pb : Nat) : Reads 142 pb T1 false a1 a4 (VX X1 2 pb) :=
  block_rd pb T1 false a1 1 (by omega) (fun i => if i = 0 then a2 else a3) a4 (fun _ => WorkT (Is (nameV X1 2))) (fun _ _ => work_stab (is_stab pb _)) (fun _ _ => work_stab2 (is_stab2 _)) (fun _ _ => work_if) (by decide) (n1_2 pb)
    (fun i hi => by obtain rfl : i = 0 := (by omega); exact stmt1 pb) (fun i hi => by obtain rfl : i = 0 := (by omega); decide) (by decide) (n1_4 pb)
theorem prog1 (pb : Nat) (w : World) (h : PAt w pb T1 a1 false) : Calls Tryz.prog 74 #[.pointer (some ⟨pb, 0, none⟩)] w fun en w' => ∃ v, en = .returned v ∧ ProgT 0 (VX X1 2 pb) w' v ∧ PAt w' pb T1 a4 false ∧ Only (fun k => k = pb) w w' :=
  program_one pb T1 a1 a4 0 _ (vx_sl X1 2 pb) (vx_stab3 X1 2 pb) (by decide) (by decide) (fun W hW => rule_main pb T1 false a1 a4 _ (vx_sl X1 2 pb) (vx_stab3 X1 2 pb) (by decide) (by decide) (by decide) (block1 pb) W hW) rfl w h
theorem read1 (w : World) : Calls Tryz.prog 45 #[.string T1] w fun en w' => ∃ pb v, en = .returned (.tuple #[v, .int .i64 0, .bool true]) ∧ ProgT 0 (VX X1 2 pb) w' v ∧ Only (fun _ => False) w w' :=
  read_one T1 0 (VX X1 2) (vx_stab3 X1 2) a1 a4 n1_1 prog1 w
theorem checks1 (pb : Nat) (w : World) (u : Value) (hu : VX X1 2 pb w u) : Checks w u (some (X1, 2)) := by
  intro W cb M ho hcb hux
  obtain ⟨vs, hl, h1, h3, h4⟩ := vx_stab3 X1 2 pb w W u (fun _ => False) hu ho (fun _ e => e.elim)
  have hlt : ∀ k, u.ownBlock = some k → k < w.heap.size := by
    obtain ⟨vs', _, h1', _⟩ := hu
    exact fun k hk => (h1'.lt k hk).2
  have hne : u.ownBlock ≠ some cb := fun e => by have := hlt cb e; omega
  refine (ublock cb 1 (by omega) u vs (fun i X => (i = 0 ∧ X = W) ∨ (i = 1 ∧ UX X cb M (some (X1, 2)) true ∧ Only (fun k => k = cb) W X)) W h1 hne ?_ (Or.inl ⟨rfl, rfl⟩) ?_).mono ?_
  · rintro i X (⟨_, rfl⟩ | ⟨_, _, h⟩)
    · exact Only.refl _ _
    · exact h
  · rintro i y hy X hX
    obtain ⟨z, hz, hz2⟩ := h4 i y hy
    have hi : i < 1 := by have := (List.getElem?_eq_some_iff.1 hy).1; omega
    rcases hX with ⟨rfl, rfl⟩ | ⟨h, _⟩
    · cases hz2
      subst hz
      refine (ustmt_work cb 92 _ (fun X2 => UX X2 cb M (some (X1, 2)) true ∧ Only (fun k => k = cb) X X2) X (fun Y hY => ?_)).mono (fun _ _ h => ⟨h.1, Or.inr ⟨rfl, h.2.1, h.2.2⟩⟩)
      obtain ⟨v0, k1, k2⟩ := hux.calm hY
      cases k2
      refine (uexpr_name cb M true X1 2 Y k1).mono ?_
      rintro en w' ⟨rfl, v, e1, e2, e3⟩
      exact ⟨rfl, ⟨v, e2, e1⟩, (hY.mono (E := fun k => k = cb) (fun _ _ e => e.elim)).trans e3 (fun _ _ e => e)⟩
    · omega
  · rintro en w' ⟨rfl, (⟨h, _⟩ | ⟨_, h5, h6⟩)⟩
    · omega
    · exact ⟨rfl, h5, h6⟩
theorem least1 (pb : Nat) (w : World) (v : Value) (h : ProgT 0 (VX X1 2 pb) w v) : Calls Tryz.prog 46 #[v] w fun en w' => en = .returned (.tuple #[.int .i64 0, .bool false]) ∧ Only (fun _ => False) w w' :=
  least_ok (VX X1 2 pb) (vx_sl X1 2 pb) (some (X1, 2)) v w h (fun u hu => checks1 pb w u hu) (fun W cb M hW => judge_one cb M 2 false W hW)
theorem readProgram1 (w : World) : Calls Tryz.prog 34 #[.string T1] w fun en w' => ∃ pb v, en = .returned (.tuple #[v, .int .i64 0, .int .i64 0]) ∧ ProgT 0 (VX X1 2 pb) w' v ∧ Only (fun _ => False) w w' :=
  readProgram_ok T1 (by decide) (VX X1 2) (vx_stab3 X1 2) w read1 least1
end Go.Proofs.YtdbdbaepmdmnfaaGreatDoor

namespace Go.Proofs.YtdbdbaepmdmnfaaGreatDoor
open Go.RowKit
set_option maxRecDepth 20000 in
set_option maxHeartbeats 4000000 in
/-- Print of the program that is x alone. -/
theorem print1 (w : World) : Calls Tryz.prog 25 #[.string T1] w fun en w' => en = .returned (.tuple #[.string ⟨#[123, 32, 120, 59, 32, 125, 32]⟩, .int .i64 0, .int .i64 0]) ∧ Only (fun _ => False) w w' := by
  have HR := hide (readProgram1 w)
  go_enter Tryz.func25, Tryz.ntmps25
  go_wp2_with fail
  refine (HR.out).mono ?_
  rintro en w1 ⟨pb, v, rfl, hp, ho⟩
  have hp0 := hp
  obtain ⟨rs, u, rfl, hrow, hu⟩ := hp
  obtain ⟨pr, cr, rfl⟩ := ownsRow_slice hrow
  have HW := hide (write_x pb X1 2 (by decide) _ _ (prog_calm (vx_stab3 X1 2 pb) hp0 (onlyA w1 (.cells #[.slice none 0 0, .slice pr 1 cr] 60))))
  have HO := hide ho
  clear hrow hu hp0 ho HR
  go_wp2_with (go_at_call 35; refine (HW.out).mono ?_; rintro en w3 ⟨rfl, h2⟩; have H4 := hide h2; clear h2)
  go_ret3
  exact ⟨rfl, (HO.out.alloc _).trans (Only.ofBelow H4.out (fun _ => False)) (fun _ _ e => e)⟩
end Go.Proofs.YtdbdbaepmdmnfaaGreatDoor

namespace Go.Proofs.YtdbdbaepmdmnfaaGreatDoor
open Go.RowKit
def T2 : ByteArray := ⟨#[123, 32, 103, 115, 117, 98, 40, 47, 98, 42, 47, 44, 32, 34, 45, 34, 41, 59, 32, 112, 114, 105, 110, 116, 32, 125]⟩
def b1 : TS := ⟨1, false, 9, ⟨#[123]⟩, 0⟩
def b2 : TS := ⟨6, false, 8, ⟨#[103, 115, 117, 98]⟩, 2⟩
def b3 : TS := ⟨7, false, 9, ⟨#[40]⟩, 6⟩
def b4 : TS := ⟨11, true, 4, ⟨#[98, 42]⟩, 7⟩
def b5 : TS := ⟨12, false, 9, ⟨#[44]⟩, 11⟩
def b6 : TS := ⟨16, true, 3, ⟨#[45]⟩, 13⟩
def b7 : TS := ⟨17, true, 9, ⟨#[41]⟩, 16⟩
def b8 : TS := ⟨18, false, 9, ⟨#[59]⟩, 17⟩
def b9 : TS := ⟨24, false, 7, ⟨#[112, 114, 105, 110, 116]⟩, 19⟩
def b10 : TS := ⟨26, false, 9, ⟨#[125]⟩, 25⟩
def b11 : TS := ⟨26, false, 1, ⟨#[]⟩, 26⟩
theorem nx_sign (pb : Nat) (T : ByteArray) (s s' : TS) (h5 : T.size ≤ 65000) (hi : s.i ≤ T.size) (hj : runTo blankB T.data.toList s.i = s'.xa) (hc : ∀ c, T.data.toList[s'.xa]? = some c → ((c.toNat : Int) == 35) = false) (hd : s'.dv = endsB s'.k s'.x.data.toList)
    (h : s'.xa < T.size) (hdg : digB T[s'.xa] = false) (hlt : letB T[s'.xa] = false) (hqt : ((T[s'.xa].toNat : Int) == 34) = false) (hsl : ((T[s'.xa].toNat : Int) == 47) = false) (hdb : s'.xa + 1 = T.size ∨ dblB (T.extract s'.xa (s'.xa + 2)).data.toList = false) (hs : sglB T[s'.xa] = true) (hk : s'.k = 9) (hx : T.extract s'.xa (s'.xa + 1) = s'.x) (he : s'.xa + 1 = s'.i) : Nx pb T s s' := by
  refine nx_of pb T s s' hi h5 hj hc (read_sign pb T s'.xa s.dv s'.k s'.x s'.i h hdg hlt hqt hsl (fun w hw => ?_)) hd
  have := sign_one pb T s'.xa s.dv h h5 hdb hs w hw
  rw [hk, ← hx, ← he]
  exact this
theorem n2_1 (pb : Nat) : Nx pb T2 ts0 b1 := nx_sign pb T2 ts0 b1 (by decide) (by decide) (by decide) (cmt (by decide)) (by decide) (by decide) (by decide) (by decide) (by decide) (by decide) (Or.inr (by decide)) (by decide) rfl (by decide) rfl
theorem n2_2 (pb : Nat) : Nx pb T2 b1 b2 := by
  refine nx_of pb T2 b1 b2 (by decide) (by decide) (by decide) (cmt (by decide)) ?_ (by decide)
  refine read_name pb T2 2 false 8 ⟨#[103, 115, 117, 98]⟩ 6 (by decide) (by decide) (by decide) (fun w h => ?_)
  exact name_any pb T2 2 false (by decide) (by decide) w h
theorem n2_3 (pb : Nat) : Nx pb T2 b2 b3 := nx_sign pb T2 b2 b3 (by decide) (by decide) (by decide) (cmt (by decide)) (by decide) (by decide) (by decide) (by decide) (by decide) (by decide) (Or.inr (by decide)) (by decide) rfl (by decide) rfl
theorem pat_some : ∃ R, wholeP [98, 42] = some R := Option.isSome_iff_exists.1 (by decide)
theorem n2_4 (pb : Nat) : Nx pb T2 b3 b4 := by
  obtain ⟨R, hR⟩ := pat_some
  refine nx_of pb T2 b3 b4 (by decide) (by decide) (by decide) (cmt (by decide)) ?_ (by decide)
  refine read_pattern pb T2 7 false 4 ⟨#[98, 42]⟩ 11 (by decide) (by decide) (by decide) (by decide) (by decide) rfl (fun w h => ?_)
  refine pattern_plain pb T2 7 false 10 (by decide) (by decide) (by decide) (by decide) ?_ R ?_ w h
  · intro j h1 h2 c hc
    have : j = 8 ∨ j = 9 := by omega
    rcases this with rfl | rfl
    · have : c = 98 := (Option.some.inj (show some (98 : UInt8) = some c from hc)).symm
      subst this; decide
    · have : c = 42 := (Option.some.inj (show some (42 : UInt8) = some c from hc)).symm
      subst this; decide
  · exact hR
theorem n2_5 (pb : Nat) : Nx pb T2 b4 b5 := nx_sign pb T2 b4 b5 (by decide) (by decide) (by decide) (cmt (by decide)) (by decide) (by decide) (by decide) (by decide) (by decide) (by decide) (Or.inr (by decide)) (by decide) rfl (by decide) rfl
theorem n2_6 (pb : Nat) : Nx pb T2 b5 b6 := by
  refine nx_of pb T2 b5 b6 (by decide) (by decide) (by decide) (cmt (by decide)) ?_ (by decide)
  refine read_string pb T2 13 false 3 ⟨#[45]⟩ 16 (by decide) (by decide) (by decide) (by decide) (fun w h => ?_)
  refine quoted_plain pb T2 13 false 15 (by decide) (by decide) (by decide) (by decide) ?_ w h
  intro j h1 h2 c hc
  obtain rfl : j = 14 := by omega
  have : c = 45 := (Option.some.inj (show some (45 : UInt8) = some c from hc)).symm
  subst this; decide
theorem n2_7 (pb : Nat) : Nx pb T2 b6 b7 := nx_sign pb T2 b6 b7 (by decide) (by decide) (by decide) (cmt (by decide)) (by decide) (by decide) (by decide) (by decide) (by decide) (by decide) (Or.inr (by decide)) (by decide) rfl (by decide) rfl
theorem n2_8 (pb : Nat) : Nx pb T2 b7 b8 := nx_sign pb T2 b7 b8 (by decide) (by decide) (by decide) (cmt (by decide)) (by decide) (by decide) (by decide) (by decide) (by decide) (by decide) (Or.inr (by decide)) (by decide) rfl (by decide) rfl
theorem n2_9 (pb : Nat) : Nx pb T2 b8 b9 := by
  refine nx_of pb T2 b8 b9 (by decide) (by decide) (by decide) (cmt (by decide)) ?_ (by decide)
  refine read_name pb T2 19 false 7 ⟨#[112, 114, 105, 110, 116]⟩ 24 (by decide) (by decide) (by decide) (fun w h => ?_)
  exact name_any pb T2 19 false (by decide) (by decide) w h
theorem n2_10 (pb : Nat) : Nx pb T2 b9 b10 := nx_sign pb T2 b9 b10 (by decide) (by decide) (by decide) (cmt (by decide)) (by decide) (by decide) (by decide) (by decide) (by decide) (by decide) (Or.inl (by decide)) (by decide) rfl (by decide) rfl
theorem n2_11 (pb : Nat) : Nx pb T2 b10 b11 := nx_of pb T2 b10 b11 (by decide) (by decide) (by decide) (cmt (by decide)) (read_end pb T2 false) (by decide)
end Go.Proofs.YtdbdbaepmdmnfaaGreatDoor

namespace Go.Proofs.YtdbdbaepmdmnfaaGreatDoor
open Go.RowKit
def gsubX : ByteArray := ⟨#[103, 115, 117, 98]⟩
def patX : Value := .agg #[.string ⟨#[98, 42]⟩]
def strX : Value := .agg #[.string ⟨#[45]⟩]
def vs2 : List Value := [.iface 304 patX, .iface 303 strX]
def Vf2 (pb : Nat) (i : Nat) : World → Value → Prop := if i = 0 then WorkT (OwnT pb gsubX 2 vs2) else Is printV
/-- The tree of the program that replaces and prints. -/
def VG (pb : Nat) : World → Value → Prop := BlockT pb 2 (Vf2 pb)
theorem own_if (pb : Nat) (x : ByteArray) (a : Nat) (vs : List Value) : IsIf (OwnT pb x a vs) := fun _ _ ⟨_, e, _⟩ => ⟨_, _, e⟩
theorem vf2_if (pb i : Nat) : IsIf (Vf2 pb i) := by
  unfold Vf2; split
  · exact work_if
  · exact fun _ _ h => ⟨_, _, h⟩
theorem vf2_stab (pb i : Nat) : Stab pb (Vf2 pb i) := by
  unfold Vf2; split
  · exact work_stab (own_stab pb _ _ _)
  · exact is_stab pb _
theorem vf2_stab2 (pb i : Nat) : Stab2 (Vf2 pb i) := by
  unfold Vf2; split
  · exact work_stab2 (own_stab2 pb _ _ _)
  · exact is_stab2 _
theorem vf2_stab3 (pb i : Nat) : Stab3 (Vf2 pb i) := by
  unfold Vf2; split
  · exact work_stab3 (own_stab3 pb _ _ _)
  · exact is_stab3 _
theorem vg_stab3 (pb : Nat) : Stab3 (VG pb) := block_stab3 (fun i _ => vf2_stab3 pb i)
theorem vg_sl (pb : Nat) : IsSl (VG pb) := block_sl _ _ _
theorem noSign_of {s : TS} (h : (seen s [33] == false && seen s [45] == false && seen s [43] == false) = true) : seen s [33] = false ∧ seen s [45] = false ∧ seen s [43] = false := by
  simp only [Bool.and_eq_true, beq_iff_eq] at h
  exact ⟨h.1.1, h.1.2, h.2⟩
theorem e2_pat (pb : Nat) : Reads 143 pb T2 false b4 b5 (Is (.iface 304 patX)) :=
  expr_rd pb T2 false b4 b5 _ false (place_pat ⟨#[98, 42]⟩) (is_stab pb _) (ends_of (by decide)) (either_of pb T2 false b4 b5 _ (is_stab pb _) (ends_of (by decide)) (noSign_of (by decide)) (prim_pat pb T2 false b4 b5 rfl (n2_5 pb)))
theorem e2_str (pb : Nat) : Reads 143 pb T2 false b6 b7 (Is (.iface 303 strX)) :=
  expr_rd pb T2 false b6 b7 _ false (place_str ⟨#[45]⟩) (is_stab pb _) (ends_of (by decide)) (either_of pb T2 false b6 b7 _ (is_stab pb _) (ends_of (by decide)) (noSign_of (by decide)) (prim_str pb T2 false b6 b7 rfl (n2_7 pb)))
theorem e2_list (pb : Nat) : Reads 424 pb T2 false b4 b7 (Row pb vs2) :=
  list_two pb T2 false b4 b5 b6 b7 304 303 patX strX (e2_pat pb) (by decide) (n2_6 pb) (e2_str pb) (by decide)
theorem e2_own (pb : Nat) : Reads 143 pb T2 false b2 b8 (OwnT pb gsubX 2 vs2) :=
  expr_rd pb T2 false b2 b8 _ false (place_own pb _ _ _) (own_stab pb _ _ _) (ends_of (by decide)) (either_of pb T2 false b2 b8 _ (own_stab pb _ _ _) (ends_of (by decide)) (noSign_of (by decide)) (prim_own pb T2 false b2 b3 b8 vs2 rfl (n2_3 pb) (args_some pb T2 false b3 b4 b7 b8 _ (row_stab pb vs2) (by decide) (n2_4 pb) (by decide) (e2_list pb) (by decide) (n2_8 pb))))
theorem s2_0 (pb : Nat) : Reads 181 pb T2 false b2 b9 (WorkT (OwnT pb gsubX 2 vs2)) :=
  stmt_semi pb T2 false b2 b8 b9 _ (work_stab (own_stab pb _ _ _)) (noComp_of (by decide)) (simple_work pb T2 false b2 b8 _ (own_if pb _ _ _) (noWord_of (by decide)) (e2_own pb)) (by decide) (by decide) (n2_9 pb)
theorem s2_1 (pb : Nat) : Reads 181 pb T2 false b9 b10 (Is printV) :=
  stmt_last pb T2 false b9 b10 _ (noComp_of (by decide)) (simple_print pb T2 false b9 b10 b10 _ (by decide) (n2_10 pb) (print_bare pb T2 false b10 (Or.inr ⟨by decide, by decide⟩) (by decide))) (by decide)
theorem block2 (pb : Nat) : Reads 142 pb T2 false b1 b11 (VG pb) :=
  block_rd pb T2 false b1 2 (by omega) (fun i => if i = 0 then b2 else if i = 1 then b9 else b10) b11 (Vf2 pb) (fun i _ => vf2_stab pb i) (fun i _ => vf2_stab2 pb i) (fun i _ => vf2_if pb i) (by decide) (n2_2 pb)
    (fun i hi => by
      have : i = 0 ∨ i = 1 := by omega
      rcases this with rfl | rfl
      · exact s2_0 pb
      · exact s2_1 pb)
    (fun i hi => by
      have : i = 0 ∨ i = 1 := by omega
      rcases this with rfl | rfl <;> decide) (by decide) (n2_11 pb)
theorem prog2 (pb : Nat) (w : World) (h : PAt w pb T2 b1 false) : Calls Tryz.prog 74 #[.pointer (some ⟨pb, 0, none⟩)] w fun en w' => ∃ v, en = .returned v ∧ ProgT 0 (VG pb) w' v ∧ PAt w' pb T2 b11 false ∧ Only (fun k => k = pb) w w' :=
  program_one pb T2 b1 b11 0 _ (vg_sl pb) (vg_stab3 pb) (by decide) (by decide) (fun W hW => rule_main pb T2 false b1 b11 _ (vg_sl pb) (vg_stab3 pb) (by decide) (by decide) (by decide) (block2 pb) W hW) rfl w h
theorem read2 (w : World) : Calls Tryz.prog 45 #[.string T2] w fun en w' => ∃ pb v, en = .returned (.tuple #[v, .int .i64 0, .bool true]) ∧ ProgT 0 (VG pb) w' v ∧ Only (fun _ => False) w w' :=
  read_one T2 0 VG vg_stab3 b1 b11 n2_1 prog2 w
theorem checks2 (pb : Nat) (w : World) (u : Value) (hu : VG pb w u) : Checks w u none := by
  intro W cb M ho hcb hux
  have hlt : ∀ k, u.ownBlock = some k → k < w.heap.size := by
    obtain ⟨vs', _, h1', _⟩ := hu
    exact fun k hk => (h1'.lt k hk).2
  have hne : u.ownBlock ≠ some cb := fun e => by have := hlt cb e; omega
  obtain ⟨vs, hl, h1, h3, h4⟩ := vg_stab3 pb w W u (fun _ => False) hu ho (fun _ e => e.elim)
  refine (ublock cb 2 (by omega) u vs (fun _ X => Only (fun _ => False) W X) W h1 hne ?_ (Only.refl _ _) ?_).mono ?_
  · exact fun i X hX => hX.mono (fun _ _ e => e.elim)
  · rintro i y hy X hX
    have h5 := vf2_stab3 pb i W X y (fun _ => False) (h4 i y hy) hX (fun _ e => e.elim)
    unfold Vf2 at h5
    split at h5
    · obtain ⟨z, rfl, r, rfl, hr⟩ := h5
      refine (ustmt_work cb 312 _ (fun X2 => Only (fun _ => False) W X2) X (fun Y hY => ?_)).mono (fun _ _ h => h)
      obtain ⟨po, cap, hrv⟩ := row_one hr
      refine (uexpr_own cb _ (fun _ => False) Y ⟨_, _, _, rfl, po, _, cap, hrv⟩ (fun Z hZ => uown_gsub cb pb 2 patX strX r Z (row_stab3 pb vs2 X Z r (fun _ => False) hr (hY.trans hZ (fun _ _ e => e)) (fun _ e => e.elim)))).mono ?_
      rintro en w' ⟨rfl, h6⟩
      exact ⟨rfl, (hX.trans hY (fun _ _ e => e)).trans h6 (fun _ _ e => e)⟩
    · cases h5
      refine (ustmt_print (some ⟨cb, 0, none⟩) X).mono ?_
      rintro en w' ⟨rfl, h6⟩
      exact ⟨rfl, hX.trans h6 (fun _ _ e => e)⟩
  · rintro en w' ⟨rfl, h6⟩
    exact ⟨rfl, hux.calm h6, h6.mono (fun _ _ e => e.elim)⟩
theorem least2 (pb : Nat) (w : World) (v : Value) (h : ProgT 0 (VG pb) w v) : Calls Tryz.prog 46 #[v] w fun en w' => en = .returned (.tuple #[.int .i64 0, .bool false]) ∧ Only (fun _ => False) w w' :=
  least_ok (VG pb) (vg_sl pb) none v w h (fun u hu => checks2 pb w u hu) (fun W cb M hW => judge_none cb M false W hW)
theorem readProgram2 (w : World) : Calls Tryz.prog 34 #[.string T2] w fun en w' => ∃ pb v, en = .returned (.tuple #[v, .int .i64 0, .int .i64 0]) ∧ ProgT 0 (VG pb) w' v ∧ Only (fun _ => False) w w' :=
  readProgram_ok T2 (by decide) VG vg_stab3 w read2 least2
end Go.Proofs.YtdbdbaepmdmnfaaGreatDoor

