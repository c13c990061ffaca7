import Derived.Test.YtdbdbaepmdmnfaaGreatDoorQ13
import Derived.WideMake
import Derived.Shelf.Strings.Builder1
import Derived.Shelf.Strings.Builder2
import Derived.Shelf.Strings.BuilderF
import Derived.Shelf.Small.Wraps
namespace Go.Proofs.YtdbdbaepmdmnfaaGreatDoor
open Go.RowKit
theorem look360 {w : World} {M n : Nat} (h : w.heap[M]? = some (.map #[] n)) (x : ByteArray) : (Instr.lookup 230 (.map (some M)) (.string x) true).run Tryz.prog w = .ok (.tuple #[.int .i64 0, .bool false]) w := by
  have h1 := MapKept.run_getObj_map (P := Tryz.prog) h
  have h2 : (Instr.checkKey true 10000 9 (.string x)).run Tryz.prog w = .ok () w := MapKept.run_checkKey (d := .string) Tryz.underlying9 (by simp [MapKept.IsKey]) true 9999
  have h3 : (Instr.findKey 9 (.string x) []).run Tryz.prog w = .ok none w := MapKept.run_findKey Tryz.underlying9 rfl
  simp [Instr.lookup, go_sem, h1, h2, h3]
set_option maxRecDepth 20000 in
set_option maxHeartbeats 4000000 in
theorem judge_none (cb M : Nat) (rec : Bool) (w : World) (h : UX w cb M none rec) :
    Calls Tryz.prog 78 #[.pointer (some ⟨cb, 0, none⟩)] w fun en w' => en = .returned (.tuple #[]) ∧ Only (fun _ => False) w w' := by
  have hmm := @run_makeMap Tryz.prog
  have hcl : cb < w.heap.size := by obtain ⟨v, h1, h2⟩ := h; exact heap_lt h1.1
  have c2 : w.cell? ⟨cb, 2, none⟩ = some (.slice none 0 0) := by obtain ⟨v, h1, h2⟩ := h; cases h2; exact cell_of h1.1 rfl
  have HS := hide (sort_0 none 0 (.func (.func 116) #[] #[]))
  clear h
  go_enter Tryz.func78, Tryz.ntmps78
  go_wp2_with (go_at_call 115; refine (HS.out _).mono ?_; rintro en w' ⟨rfl, h3⟩; subst w')
  go_loop [19] (fun s => s = .int .i64 0) (fun _ => 0)
  case atStart => exact rfl
  case round =>
    subst hrel
    go_wp2
    go_end0
    exact ⟨rfl, onlyA _ _⟩
end Go.Proofs.YtdbdbaepmdmnfaaGreatDoor
namespace Go.Proofs.YtdbdbaepmdmnfaaGreatDoor
open Go.RowKit
/-- What the checker does with the body of the one rule. -/
def Checks (w : World) (u : Value) (o : Option (ByteArray × Nat)) : Prop := ∀ W cb M, Only (fun _ => False) w W → w.heap.size ≤ cb → UX W cb M none true → Calls Tryz.prog 113 #[.pointer (some ⟨cb, 0, none⟩), u] W fun en w' => en = .returned (.tuple #[]) ∧ UX w' cb M o true ∧ Only (fun k => k = cb) W w'
set_option maxRecDepth 20000 in
set_option maxHeartbeats 8000000 in
theorem least_ok (V : World → Value → Prop) (hsl : IsSl V) (o : Option (ByteArray × Nat)) (v : Value) (w : World) (h : ProgT 0 V w v) (hB : ∀ u, V w u → Checks w u o)
    (hj : ∀ W cb M, UX W cb M o false → Calls Tryz.prog 78 #[.pointer (some ⟨cb, 0, none⟩)] W fun en w' => en = .returned (.tuple #[]) ∧ Only (fun _ => False) W w') :
    Calls Tryz.prog 46 #[v] w fun en w' => en = .returned (.tuple #[.int .i64 0, .bool false]) ∧ Only (fun _ => False) w w' := by
  have hmm := @run_makeMap Tryz.prog
  obtain ⟨rs, u, rfl, hr, hu⟩ := h
  obtain ⟨po, n, cap, rfl⟩ := hsl _ _ hu
  obtain ⟨g, cr, rfl, hg, hc⟩ := own_at hr (by omega)
  have g0 : w.cell? ⟨g, 0, none⟩ = some (.int .i64 0) := hc 0 _ rfl
  have g1 : w.cell? ⟨g, 1, none⟩ = some (.slice none 0 0) := hc 1 _ rfl
  have g2 : w.cell? ⟨g, 2, none⟩ = some (.slice po n cap) := hc 2 _ rfl
  have HB := hide (hB _ hu)
  have HJ := hide hj
  clear hr hu hc hB hj hsl
  go_enter Tryz.func46, Tryz.ntmps46
  go_wp2
  go_loop [16] (fun s => s = .int .i64 0) (fun _ => 0)
  case atStart => exact rfl
  case round =>
    subst hrel
    go_wp2
    go_loop [26] (fun s => s = .int .i64 0) (fun _ => 0)
    case atStart => exact rfl
    case round =>
      subst hrel
      go_wp2
      have hux : UX (((w.alloc (.cells #[.slice none 0 0, .slice (some ⟨g, 0, none⟩) 1 cr] 60)).alloc (.map #[] 0)).alloc (.cells #[.map (some (w.heap.size + 1)), .slice none 0 0, .slice none 0 0, .slice none 0 0, .int .i64 0, .bool false, .bool false] 159)) (w.heap.size + 1 + 1) (w.heap.size + 1) none false := ⟨.slice none 0 0, ⟨new_at2 (W := (w.alloc _).alloc _) (by simp) _, (Below.heap_alloc _ _ _ (by simp)).trans (new_at2 (W := w.alloc _) (by simp) _)⟩, rfl⟩
      have hO0 : Only (fun _ => False) w (((w.alloc (.cells #[.slice none 0 0, .slice (some ⟨g, 0, none⟩) 1 cr] 60)).alloc (.map #[] 0)).alloc (.cells #[.map (some (w.heap.size + 1)), .slice none 0 0, .slice none 0 0, .slice none 0 0, .int .i64 0, .bool false, .bool false] 159)) := ((onlyA w _).alloc _).alloc _
      have HR := hide (urule (w.heap.size + 1 + 1) (w.heap.size + 1) o (.slice po n cap) ⟨po, n, cap, rfl⟩ _ (hux.alloc (.cells #[.int .i64 0, .slice none 0 0, .slice po n cap] 102)) (fun W hW hO => HB.out W _ _ ((hO0.alloc _).trans hO (fun i hi e => absurd hi (by omega))) (by omega) hW))
      have HO0 := hide hO0
      clear hux hO0 HB
      go_loopg [36] 1 (fun gh s wr => (gh = 1 ∧ s = .int .i64 0 ∧ wr = ((w.alloc (.cells #[.slice none 0 0, .slice (some ⟨g, 0, none⟩) 1 cr] 60)).alloc (.map #[] 0)).alloc (.cells #[.map (some (w.heap.size + 1)), .slice none 0 0, .slice none 0 0, .slice none 0 0, .int .i64 0, .bool false, .bool false] 159)) ∨ (gh = 0 ∧ s = .int .i64 1 ∧ UX wr (w.heap.size + 1 + 1) (w.heap.size + 1) o false ∧ Only (fun _ => False) w wr))
      case atStart => exact Or.inl ⟨rfl, rfl, rfl⟩
      case round =>
        rcases hrel with ⟨hgh, rfl, hw⟩ | ⟨hgh, rfl, hux, ho⟩
        · subst hw
          have k0 := (HO0.out.cell (p := ⟨g, 0, none⟩) hg (fun e => e)).trans g0
          have k1 := (HO0.out.cell (p := ⟨g, 1, none⟩) hg (fun e => e)).trans g1
          have k2 := (HO0.out.cell (p := ⟨g, 2, none⟩) hg (fun e => e)).trans g2
          go_wp2_with (go_at_call 77; refine (HR.out).mono ?_; rintro en w2 ⟨rfl, h2, h3⟩; have H2 := hide h2; have H3 := hide h3; clear h2 h3)
          go_roundg 0
          case measure => omega
          case rel => exact Or.inr ⟨rfl, rfl, H2.out, (HO0.out.alloc _).trans H3.out (fun i hi e => absurd hi (by omega))⟩
        · have HJ2 := hide (HJ.out _ _ _ hux)
          have HU := hide hux
          have HO := hide ho
          clear hux ho HR HJ
          go_wp2_with fail
          refine (HJ2.out).mono ?_
          rintro en w3 ⟨rfl, ho3⟩
          have c3 : w3.cell? ⟨w.heap.size + 1 + 1, 3, none⟩ = some (.slice none 0 0) := by obtain ⟨v, h1, _⟩ := HU.out.calm ho3; exact cell_of h1.1 rfl
          have HO3 := hide ho3
          clear ho3 HJ2
          go_wp2
          go_ret2
          exact ⟨rfl, HO.out.trans HO3.out (fun _ _ e => e)⟩
end Go.Proofs.YtdbdbaepmdmnfaaGreatDoor
namespace Go.Proofs.YtdbdbaepmdmnfaaGreatDoor
open Go.RowKit
theorem prog_calm {kd : Nat} {V : World → Value → Prop} (hV3 : Stab3 V) {w w' : World} {v : Value} (h : ProgT kd V w v) (ho : Only (fun _ => False) w w') : ProgT kd V w' v := prog_only hV3 h ho (fun _ e => e.elim)
set_option maxRecDepth 20000 in
set_option maxHeartbeats 8000000 in
theorem readProgram_ok (T : ByteArray) (hT : T.size ≤ 600) (V : Nat → World → Value → Prop) (hV3 : ∀ pb, Stab3 (V pb)) (w : World)
    (hr : ∀ W, Calls Tryz.prog 45 #[.string T] W fun en w' => ∃ pb v, en = .returned (.tuple #[v, .int .i64 0, .bool true]) ∧ ProgT 0 (V pb) w' v ∧ Only (fun _ => False) W w')
    (hl : ∀ pb W v, ProgT 0 (V pb) W v → Calls Tryz.prog 46 #[v] W fun en w' => en = .returned (.tuple #[.int .i64 0, .bool false]) ∧ Only (fun _ => False) W w') :
    Calls Tryz.prog 34 #[.string T] w fun en w' => ∃ pb v, en = .returned (.tuple #[v, .int .i64 0, .int .i64 0]) ∧ ProgT 0 (V pb) w' v ∧ Only (fun _ => False) w w' := by
  have hli : ¬ (600 : Int) < (T.size : Int) := by omega
  have HR := hide (hr (w.alloc (.cells #[.slice none 0 0, .slice none 0 0] 60)))
  have HL := hide hl
  have HV3 := hide hV3
  clear hr hl hV3
  go_enter Tryz.func34, Tryz.ntmps34
  go_wp2_with fail
  refine (HR.out).mono ?_
  rintro en w1 ⟨pb, v, rfl, hp, ho⟩
  have hp0 := hp
  obtain ⟨rs, u, rfl, hrow, hu⟩ := hp
  obtain ⟨pr, cr, rfl⟩ := ownsRow_slice hrow
  have hpA := prog_calm (HV3.out pb) hp0 (onlyA w1 (.cells #[.slice none 0 0, .slice pr 1 cr] 60))
  have HLs := hide (HL.out pb _ _ hpA)
  have HPA := hide hpA
  have HO := hide ho
  have hz1 : w.heap.size + 1 ≤ w1.heap.size := by have := ho.size; simpa using this
  clear hrow hu hp0 hpA ho HR HL
  go_wp2_with fail
  refine (HLs.out).mono ?_
  rintro en w2 ⟨rfl, ho2⟩
  have hb5 := (ho2.block w1.heap.size (by simp) (fun e => e)).trans (new0 w1 (.cells #[.slice none 0 0, .slice pr 1 cr] 60))
  have hb2 := (ho2.block w.heap.size (by simp; omega) (fun e => e)).trans ((Below.heap_alloc _ _ _ (by omega)).trans ((HO.out.block w.heap.size (by simp) (fun e => e)).trans (new0 w (.cells #[.slice none 0 0, .slice none 0 0] 60))))
  have c0 : w2.cell? ⟨w1.heap.size, 0, none⟩ = some (.slice none 0 0) := cell_of hb5 rfl
  have c1 : w2.cell? ⟨w1.heap.size, 1, none⟩ = some (.slice pr 1 cr) := cell_of hb5 rfl
  have d0 : w2.cell? ⟨w.heap.size, 0, none⟩ = some (.slice none 0 0) := cell_of hb2 rfl
  have d1 : w2.cell? ⟨w.heap.size, 1, none⟩ = some (.slice none 0 0) := cell_of hb2 rfl
  have df := free_of hb2
  have HB2 := hide hb2
  have HP2 := hide (prog_calm (HV3.out pb) HPA.out ho2)
  have HO2 := hide ho2
  clear hb5 hb2 ho2 HLs
  go_wp2
  refine bodyPost_ret (v := .tuple #[.agg #[.slice none 0 0, .slice pr 1 cr], .int .i64 0, .int .i64 0]) (by simp [results, Tryz.results34, go_sem, d0, d1]) rfl ⟨pb, _, rfl, ?_, ?_⟩
  · refine prog_only (HV3.out pb) (D := fun k => k = w.heap.size) HP2.out (((Only.refl (fun k => k = w.heap.size) w2).setCell (p := ⟨w.heap.size, 0, none⟩) (fun _ => rfl) _).setCell (p := ⟨w.heap.size, 1, none⟩) (fun _ => rfl) _) ?_
    rintro k rfl
    exact ⟨_, _, HB2.out, by decide, by decide, by decide⟩
  · exact (((((onlyA w _).trans HO.out (fun _ _ e => e)).alloc _).trans HO2.out (fun _ _ e => e)).setCell (p := ⟨w.heap.size, 0, none⟩) (fun h => absurd h (Nat.lt_irrefl _)) _).setCell (p := ⟨w.heap.size, 1, none⟩) (fun h => absurd h (Nat.lt_irrefl _)) _
end Go.Proofs.YtdbdbaepmdmnfaaGreatDoor
namespace Go.Proofs.YtdbdbaepmdmnfaaGreatDoor
open Go.RowKit
theorem infoByte5 : (Tryz.prog.info? 5).map (fun i => (i.zero, i.size, i.bytes)) = some (some (.int .u8 0), 1, 1) := by kernel_rfl
end Go.Proofs.YtdbdbaepmdmnfaaGreatDoor
namespace Go.Proofs.YtdbdbaepmdmnfaaGreatDoor
open Go.RowKit
/-- A writer that has written l. -/
def WrAt (B b : Nat) (l : List UInt8) (w : World) : Prop := Lib.IsBuilder 90 5 B b (Lib.byteCells l) w ∧ B ≤ w.heap.size
theorem WrAt.lt {B b l w} (h : WrAt B b l w) : b < w.heap.size := h.1.elim (fun h => h.lt) (fun h => h.lt)
theorem WrAt.le {B b l w} (h : WrAt B b l w) : B ≤ b := h.1.elim (fun h => h.1) (fun h => h.1)
theorem builderAt_of {B b p bs} {w w' : World} (h : Lib.BuilderAt 90 5 B b p bs w) (hk : ∀ k, k < w.heap.size → w'.heap[k]? = w.heap[k]?) : Lib.BuilderAt 90 5 B b p bs w' := by
  obtain ⟨h1, v, h2, h3, h4⟩ := h
  exact ⟨h1, v, (hk b (heap_lt h2)).trans h2, ownsRow_of h3 (fun k hkk => hk k (h3.lt k hkk).2), h4⟩
theorem WrAt.calm {B b l w w'} (h : WrAt B b l w) (ho : Only (fun _ => False) w w') : WrAt B b l w' := ⟨h.1.elim (fun h => Or.inl (builderAt_of h (fun k hk => ho.block k hk (fun e => e)))) (fun h => Or.inr (builderAt_of h (fun k hk => ho.block k hk (fun e => e)))), Nat.le_trans h.2 ho.size⟩
theorem WrAt.alloc {B b l w} (h : WrAt B b l w) (o : Obj) : WrAt B b l (w.alloc o) := h.calm (onlyA w o)
end Go.Proofs.YtdbdbaepmdmnfaaGreatDoor
namespace Go.Proofs.YtdbdbaepmdmnfaaGreatDoor
open Go.RowKit
/-- The tree of a program that is { x } alone. -/
def VX (x : ByteArray) (a : Nat) (pb : Nat) : World → Value → Prop := BlockT pb 1 (fun _ => WorkT (Is (nameV x a)))
theorem VX.at {x a pb w v} (h : VX x a pb w v) : ∃ g cap, v = .slice (some ⟨g, 0, none⟩) 1 cap ∧ g < w.heap.size ∧ w.cell? ⟨g, 0, none⟩ = some (.iface 350 (.agg #[nameV x a])) := by
  obtain ⟨vs, hl, h1, _, h4⟩ := h
  obtain ⟨g, cap, e, hg, hc⟩ := own_at h1 (by omega)
  obtain ⟨u, hu⟩ : ∃ u, vs[0]? = some u := ⟨_, List.getElem?_eq_getElem (by omega)⟩
  obtain ⟨y, hy, hz⟩ := h4 0 u hu
  cases hz
  exact ⟨g, cap, e, hg, (hc 0 u hu).trans (by rw [hy])⟩
end Go.Proofs.YtdbdbaepmdmnfaaGreatDoor
namespace Go.Proofs.YtdbdbaepmdmnfaaGreatDoor
open Go.RowKit
theorem nx_of (pb : Nat) (T : ByteArray) (s s' : TS) (hi : s.i ≤ T.size) (h5 : T.size ≤ 65000) (hj : runTo blankB T.data.toList s.i = s'.xa) (hc : ∀ c, T.data.toList[s'.xa]? = some c → ((c.toNat : Int) == 35) = false) (hr : ReadsTo pb T s'.xa s.dv s'.k s'.x s'.i) (hd : s'.dv = endsB s'.k s'.x.data.toList) : Nx pb T s s' := by
  have h := goOn_any pb T s.i s.dv hi h5 (by rw [hj]; exact hc) s'.k s'.x s'.i (by rw [hj]; exact hr)
  rw [hj] at h
  exact ⟨h, hd⟩
def a1 : TS := ⟨1, false, 9, ⟨#[123]⟩, 0⟩
def a2 : TS := ⟨3, true, 5, ⟨#[120]⟩, 2⟩
def a3 : TS := ⟨5, false, 9, ⟨#[125]⟩, 4⟩
def a4 : TS := ⟨5, false, 1, ⟨#[]⟩, 5⟩
theorem cmt {T : ByteArray} {j : Nat} (h : (match T.data.toList[j]? with | some c => (c.toNat : Int) == 35 | none => false) = false) : ∀ c, T.data.toList[j]? = some c → ((c.toNat : Int) == 35) = false := by
  intro c hc; rw [hc] at h; exact h
end Go.Proofs.YtdbdbaepmdmnfaaGreatDoor
namespace Go.Proofs.YtdbdbaepmdmnfaaGreatDoor
open Go.RowKit
theorem is_stab3 (v : Value) : Stab3 (Is v) := fun _ _ _ _ h _ _ => h
theorem row_stab3 (pb : Nat) (vs : List Value) : Stab3 (Row pb vs) := by
  rintro w w' v D ⟨h, h2⟩ ho hD
  refine ⟨ownsRow_of h (fun k hk => ho.block k (h.lt k hk).2 (fun e => ?_)), h2⟩
  obtain ⟨c, t, hc, _, h3⟩ := hD k e
  exact own_tag h hc (Ne.symm h3) hk
theorem block_stab3 {pb n : Nat} {Vf : Nat → World → Value → Prop} (hV : ∀ i, i < n → Stab3 (Vf i)) : Stab3 (BlockT pb n Vf) := by
  rintro w w' v D ⟨vs, h1, h2, h3, h4⟩ ho hD
  refine ⟨vs, h1, ownsRow_of h2 (fun k hk => ho.block k (h2.lt k hk).2 (fun e => ?_)), h3, fun i u hu => ?_⟩
  · obtain ⟨c, t, hc, h5, _⟩ := hD k e
    exact own_tag h2 hc (Ne.symm h5) hk
  · exact hV i (by have := (List.getElem?_eq_some_iff.1 hu).1; omega) _ _ _ D (h4 i u hu) ho hD
theorem ends_of {s : TS} (h : (opS.all (fun t => seen s t == false) && !(s.k == 2) && !(s.k == 3) && !(s.k == 5) && !(s.k == 6) && !(s.k == 8)) = true) : Ends s := by
  simp only [Bool.and_eq_true, List.all_eq_true, beq_iff_eq, Bool.not_eq_true', beq_eq_false_iff_ne] at h
  obtain ⟨⟨⟨⟨⟨h0, h1⟩, h2⟩, h3⟩, h4⟩, h5⟩ := h
  exact ⟨h0, h1, h2, h3, h4, h5⟩
theorem noComp_of {s : TS} (h : ([[123], [59], [105, 102], [119, 104, 105, 108, 101], [102, 111, 114]].all (fun t => seen s t == false)) = true) : NoComp s := by
  intro t ht
  exact beq_iff_eq.1 (List.all_eq_true.1 h t ht)
end Go.Proofs.YtdbdbaepmdmnfaaGreatDoor
namespace Go.Proofs.YtdbdbaepmdmnfaaGreatDoor
open Go.RowKit
end Go.Proofs.YtdbdbaepmdmnfaaGreatDoor
namespace Go.Proofs.YtdbdbaepmdmnfaaGreatDoor
open Go.RowKit
def b1 : TS := ⟨1, false, 9, ⟨#[123]⟩, 0⟩
def b2 : TS := ⟨6, false, 8, ⟨#[103, 115, 117, 98]⟩, 2⟩
def b3 : TS := ⟨7, false, 9, ⟨#[40]⟩, 6⟩
def b4 : TS := ⟨11, true, 4, ⟨#[98, 42]⟩, 7⟩
def b5 : TS := ⟨12, false, 9, ⟨#[44]⟩, 11⟩
def b6 : TS := ⟨16, true, 3, ⟨#[45]⟩, 13⟩
def b7 : TS := ⟨17, true, 9, ⟨#[41]⟩, 16⟩
def b8 : TS := ⟨18, false, 9, ⟨#[59]⟩, 17⟩
def b10 : TS := ⟨26, false, 9, ⟨#[125]⟩, 25⟩
theorem nx_sign (pb : Nat) (T : ByteArray) (s s' : TS) (h5 : T.size ≤ 65000) (hi : s.i ≤ T.size) (hj : runTo blankB T.data.toList s.i = s'.xa) (hc : ∀ c, T.data.toList[s'.xa]? = some c → ((c.toNat : Int) == 35) = false) (hd : s'.dv = endsB s'.k s'.x.data.toList)
    (h : s'.xa < T.size) (hdg : digB T[s'.xa] = false) (hlt : letB T[s'.xa] = false) (hqt : ((T[s'.xa].toNat : Int) == 34) = false) (hsl : ((T[s'.xa].toNat : Int) == 47) = false) (hdb : s'.xa + 1 = T.size ∨ dblB (T.extract s'.xa (s'.xa + 2)).data.toList = false) (hs : sglB T[s'.xa] = true) (hk : s'.k = 9) (hx : T.extract s'.xa (s'.xa + 1) = s'.x) (he : s'.xa + 1 = s'.i) : Nx pb T s s' := by
  refine nx_of pb T s s' hi h5 hj hc (read_sign pb T s'.xa s.dv s'.k s'.x s'.i h hdg hlt hqt hsl (fun w hw => ?_)) hd
  have := sign_one pb T s'.xa s.dv h h5 hdb hs w hw
  rw [hk, ← hx, ← he]
  exact this
end Go.Proofs.YtdbdbaepmdmnfaaGreatDoor
namespace Go.Proofs.YtdbdbaepmdmnfaaGreatDoor
open Go.RowKit
theorem noSign_of {s : TS} (h : (seen s [33] == false && seen s [45] == false && seen s [43] == false) = true) : seen s [33] = false ∧ seen s [45] = false ∧ seen s [43] = false := by
  simp only [Bool.and_eq_true, beq_iff_eq] at h
  exact ⟨h.1.1, h.1.2, h.2⟩
end Go.Proofs.YtdbdbaepmdmnfaaGreatDoor
