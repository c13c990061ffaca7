import Derived.Test.YtdbdbaepmdmnfaaGreatDoorQ14
import Derived.Test.YtdbdbaepmdmnfaaGreatDoorQ33
namespace Go.Proofs.YtdbdbaepmdmnfaaGreatDoor
open Go.RowKit
set_option maxRecDepth 20000 in
set_option maxHeartbeats 4000000 in
theorem ends_no (pb : Nat) (T : ByteArray) (s : TS) (ge : Bool) (h0 : seen s [59] = false) (h1 : seen s [125] = false) (w : World) (h : PAt w pb T s ge) :
    Calls Tryz.prog 423 #[.pointer (some ⟨pb, 0, none⟩)] w fun en w' => en = .returned (.bool false) ∧ Only (fun _ => False) w w' := by
  have hl := h.lt
  have HS : Hid (Calls Tryz.prog 184 #[.pointer (some ⟨pb, 0, none⟩), .slice (some ⟨w.heap.size, 0, none⟩) 2 2] (w.alloc (.cells #[.string ⟨#[59]⟩, .string ⟨#[125]⟩] 9)) fun en w' => en = .returned (.bool false) ∧ w' = w.alloc (.cells #[.string ⟨#[59]⟩, .string ⟨#[125]⟩] 9)) :=
    oneOf_no pb T s ge w.heap.size 2 [⟨#[59]⟩, ⟨#[125]⟩] (by decide) (fun t ht => by
      simp at ht
      rcases ht with rfl | rfl
      · exact h0
      · exact h1) _ (Reads.alloc_at h _) (strs_new w [⟨#[59]⟩, ⟨#[125]⟩])
  clear h h0 h1
  go_enter Tryz.func423, Tryz.ntmps423
  go_wp2_with (go_at_call 184; refine (HS.out).mono ?_; rintro en w' ⟨rfl, rfl⟩)
  go_ret
  exact ⟨rfl, (Only.refl _ w).alloc _⟩
/-- A print with a list. -/
def PrintL (pb : Nat) (vs : List Value) : World → Value → Prop := fun w v => ∃ r, v = .iface 285 (.agg #[r, .nilIface]) ∧ Row pb vs w r
set_option maxRecDepth 20000 in
set_option maxHeartbeats 4000000 in
theorem print_list (pb : Nat) (T : ByteArray) (s s1 : TS) (vs : List Value) (h0 : seen s [59] = false) (h1 : seen s [125] = false) (h2 : seen s [62] = false) (hL : Reads 424 pb T true s s1 (Row pb vs)) (hg : seen s1 [62] = false) : Reads 359 pb T false s s1 (PrintL pb vs) := by
  intro w h
  have hl := h.lt
  have HE : Hid (∀ o, Calls Tryz.prog 423 #[.pointer (some ⟨pb, 0, none⟩)] (w.alloc o) fun en w' => en = .returned (.bool false) ∧ Only (fun _ => False) (w.alloc o) w') := hide (fun o => ends_no pb T s false h0 h1 _ (Reads.alloc_at h o))
  have HSe : Hid (∀ W, PAt W pb T s false → Calls Tryz.prog 137 #[.pointer (some ⟨pb, 0, none⟩), .string ⟨#[62]⟩] W fun en w' => en = .returned (.bool false) ∧ w' = W) := hide (fun W hW => sees_at pb T s false ⟨#[62]⟩ false h2 W hW)
  have HPn : Hid (∀ W, PAt W pb T s1 false → Calls Tryz.prog 106 #[.pointer (some ⟨pb, 0, none⟩), .string ⟨#[62]⟩] W fun en w' => en = .returned (.bool false) ∧ w' = W) := hide (fun W hW => passes_no pb T s1 false ⟨#[62]⟩ hg W hW)
  have HL := hide hL
  have HP := hide h
  clear h h0 h1 h2 hg hL
  go_enter Tryz.func359, Tryz.ntmps359
  go_wp2_with fail
  refine (HE.out _).mono ?_
  rintro en w1 ⟨rfl, ho⟩
  have hb := (ho.block w.heap.size (by simp) (fun e => e)).trans (new0 w (.cells #[.slice none 0 0, .nilIface] 285))
  have hp1 : PAt w1 pb T s false := (Reads.alloc_at HP.out _).only ho (fun e => e)
  have HS1 := hide (HSe.out w1 hp1)
  have hz1 := ho.size
  simp at hz1
  have pf := free_of hp1
  have p6 : w1.cell? ⟨pb, 6, none⟩ = some (.bool false) := cell_of hp1 rfl
  have HP1 := hide hp1
  have HB1 := hide hb
  have HO : Hid (Only (fun _ => False) w w1) := ((Only.refl _ w).alloc _).trans ho (fun _ _ e => e)
  clear ho hb hp1 HE HSe
  go_wp2_with (go_at_call 137; refine (HS1.out).mono ?_; rintro en w' ⟨rfl, h3⟩; subst w')
  refine (HL.out _ (HP1.out.setGe true)).mono ?_
  rintro en w2 ⟨r, rfl, hr, hp2, ho2⟩
  obtain ⟨po, cap, rfl⟩ := row_one hr
  have hpn : w.heap.size ≠ pb := by omega
  have hb2 : w2.heap[w.heap.size]? = some (.cells #[.slice none 0 0, .nilIface] 285 (0, 0)) := (ho2.block w.heap.size (by simp; omega) (fun e => hpn e)).trans ((Below.heap_setCell _ _ _ _ hpn).trans HB1.out)
  have b0 : w2.cell? ⟨w.heap.size, 0, none⟩ = some (.slice none 0 0) := cell_of hb2 rfl
  have b1 : w2.cell? ⟨w.heap.size, 1, none⟩ = some .nilIface := cell_of hb2 rfl
  have bf := free_of hb2
  have q6 : w2.cell? ⟨pb, 6, none⟩ = some (.bool true) := cell_of hp2 rfl
  have qf := free_of hp2
  have hrt := own_tag hr.1 hb2 (by decide)
  have HR := hide hr
  have HRt := hide hrt
  have HB2 := hide hb2
  have HP2 := hide hp2
  have HO2 := hide ho2
  clear hr hrt hb2 hp2 ho2 HL
  go_wp2_with fail
  have hb3 : ((w2.setCell ⟨w.heap.size, 0, none⟩ (.slice po vs.length cap)).setCell ⟨pb, 6, none⟩ (.bool false)).heap[w.heap.size]? = some (.cells #[.slice po vs.length cap, .nilIface] 285 (0, 0)) := (Below.heap_setCell _ _ _ _ hpn).trans (heap_setCell_same HB2.out _)
  have hp3 : PAt ((w2.setCell ⟨w.heap.size, 0, none⟩ (.slice po vs.length cap)).setCell ⟨pb, 6, none⟩ (.bool false)) pb T s1 false := PAt.setGe (ge := true) ((Below.heap_setCell _ _ _ _ (Ne.symm hpn)).trans HP2.out) false
  have m0 : ((w2.setCell ⟨w.heap.size, 0, none⟩ (.slice po vs.length cap)).setCell ⟨pb, 6, none⟩ (.bool false)).cell? ⟨w.heap.size, 0, none⟩ = some (.slice po vs.length cap) := cell_of hb3 rfl
  have m1 : ((w2.setCell ⟨w.heap.size, 0, none⟩ (.slice po vs.length cap)).setCell ⟨pb, 6, none⟩ (.bool false)).cell? ⟨w.heap.size, 1, none⟩ = some .nilIface := cell_of hb3 rfl
  have hrow3 : Row pb vs ((w2.setCell ⟨w.heap.size, 0, none⟩ (.slice po vs.length cap)).setCell ⟨pb, 6, none⟩ (.bool false)) (.slice po vs.length cap) := ⟨ownsRow_of HR.out.1 (fun k hk => (Below.heap_setCell _ _ _ _ (fun e => HR.out.2 (by rw [hk, e]))).trans (Below.heap_setCell _ _ _ _ (fun e => HRt.out (by rw [hk, e])))), HR.out.2⟩
  have hO3 : Only (fun k => k = pb) w ((w2.setCell ⟨w.heap.size, 0, none⟩ (.slice po vs.length cap)).setCell ⟨pb, 6, none⟩ (.bool false)) := ((((HO.out.mono (E := fun k => k = pb) (fun _ _ e => e.elim)).setCell (p := ⟨pb, 6, none⟩) (fun _ => rfl) (.bool true)).trans HO2.out (fun _ _ e => e)).setCell (p := ⟨w.heap.size, 0, none⟩) (fun h => absurd h (Nat.lt_irrefl _)) _).setCell (p := ⟨pb, 6, none⟩) (fun _ => rfl) _
  have HPf := hide (HPn.out _ hp3)
  have HP3 := hide hp3
  have HR3 := hide hrow3
  have HO3 := hide hO3
  clear hb3 hp3 hrow3 hO3 b0 b1 q6
  generalize ((w2.setCell ⟨w.heap.size, 0, none⟩ (.slice po vs.length cap)).setCell ⟨pb, 6, none⟩ (.bool false)) = w3 at *
  refine (HPf.out).mono ?_
  rintro en w' ⟨rfl, h3⟩
  subst w'
  go_wp2
  go_ret
  exact ⟨_, rfl, ⟨_, rfl, HR3.out⟩, HP3.out, HO3.out⟩
theorem printL_stab (pb : Nat) (vs : List Value) : Stab pb (PrintL pb vs) := fun w w' _ ⟨r, e, h⟩ ho => ⟨r, e, row_stab pb vs w w' r h ho⟩
theorem printL_stab2 (pb : Nat) (vs : List Value) : Stab2 (PrintL pb vs) := fun w w' _ D ⟨r, e, h⟩ ho hD => ⟨r, e, row_stab2 pb vs w w' r D h ho hD⟩
theorem printL_stab3 (pb : Nat) (vs : List Value) : Stab3 (PrintL pb vs) := fun w w' _ D ⟨r, e, h⟩ ho hD => ⟨r, e, row_stab3 pb vs w w' r D h ho hD⟩
theorem printL_if (pb : Nat) (vs : List Value) : IsIf (PrintL pb vs) := fun _ _ ⟨_, e, _⟩ => ⟨_, _, e⟩
end Go.Proofs.YtdbdbaepmdmnfaaGreatDoor
namespace Go.Proofs.YtdbdbaepmdmnfaaGreatDoor
open Go.RowKit
set_option maxRecDepth 20000 in
set_option maxHeartbeats 4000000 in
/-- A rule for the end. -/
theorem rule_end (pb : Nat) (T : ByteArray) (ge : Bool) (s s0 s1 : TS) (V : World → Value → Prop) (hS : IsSl V) (hV3 : Stab3 V) (hb : seen s [66, 69, 71, 73, 78] = false) (he : seen s [69, 78, 68] = true) (hn : Nx pb T s s0) (h1 : Reads 142 pb T ge s0 s1 V) (w : World) (h : PAt w pb T s ge) :
    Calls Tryz.prog 108 #[.pointer (some ⟨pb, 0, none⟩)] w fun en w' => ∃ v, en = .returned v ∧ RuleT 2 V w' v ∧ PAt w' pb T s1 ge ∧ Only (fun k => k = pb) w w' := by
  have hl := h.lt
  have hp0 := Reads.alloc_at h (.cells #[.int .i64 0, .slice none 0 0, .slice none 0 0] 102)
  have HPb := hide (passes_no pb T s ge ⟨#[66, 69, 71, 73, 78]⟩ hb _ hp0)
  have HPe := hide (passes_yes pb T s s0 ge ⟨#[69, 78, 68]⟩ he hn _ hp0)
  have H1 := hide h1
  have HS := hide hS
  have HV3 := hide hV3
  clear h hb he h1 hp0 hS hV3 hn
  go_enter Tryz.func108, Tryz.ntmps108
  go_wp2_with fail
  refine (HPb.out).mono ?_
  rintro en w1 ⟨rfl, hw1⟩
  subst hw1
  go_wp2_with fail
  refine (HPe.out).mono ?_
  rintro en w1 ⟨rfl, hp1, ho1⟩
  have HB1 := hide (H1.out w1 hp1)
  have hz1 := ho1.size
  have HO1 := hide ho1
  clear hp1 ho1 H1
  simp at hz1
  go_wp2_with fail
  refine (HB1.out).mono ?_
  rintro en w2 ⟨u, rfl, hu, hp2, ho2⟩
  obtain ⟨po, n, cap, rfl⟩ := HS.out _ _ hu
  have hoA := HO1.out.trans ho2 (fun _ _ e => e)
  have hb2 := (hoA.block w.heap.size (by simp) (by intro e; omega)).trans (new0 w (.cells #[.int .i64 0, .slice none 0 0, .slice none 0 0] 102))
  have q0 : w2.cell? ⟨w.heap.size, 0, none⟩ = some (.int .i64 0) := cell_of hb2 rfl
  have q1 : w2.cell? ⟨w.heap.size, 1, none⟩ = some (.slice none 0 0) := cell_of hb2 rfl
  have q2 : w2.cell? ⟨w.heap.size, 2, none⟩ = some (.slice none 0 0) := cell_of hb2 rfl
  have qf := free_of hb2
  have Hu := hide hu
  have HP2 := hide hp2
  have HB2 := hide hb2
  have HO2 := hide (fromAlloc hoA)
  have hpn : pb ≠ w.heap.size := by omega
  clear hu hp2 ho2 hoA hb2 HPb HPe HB1
  go_wp2
  refine bodyPost_ret (v := .agg #[.int .i64 2, .slice none 0 0, .slice po n cap]) (by simp [results, Tryz.results108, go_sem, q0, q1, q2]) rfl ⟨_, rfl, ⟨_, rfl, ?_⟩, ?_, ?_⟩
  · refine HV3.out _ _ _ (fun k => k = w.heap.size) Hu.out ((((Only.refl (fun k => k = w.heap.size) w2).setCell (p := ⟨w.heap.size, 0, none⟩) (fun _ => rfl) _).setCell (p := ⟨w.heap.size, 1, none⟩) (fun _ => rfl) _).setCell (p := ⟨w.heap.size, 2, none⟩) (fun _ => rfl) _) ?_
    rintro k rfl
    exact ⟨_, _, HB2.out, by decide, by decide⟩
  · show _ = _
    rw [Below.heap_setCell _ _ _ _ hpn, Below.heap_setCell _ _ _ _ hpn, Below.heap_setCell _ _ _ _ hpn]
    exact HP2.out
  · exact ((HO2.out.setCell (p := ⟨w.heap.size, 0, none⟩) (fun h => absurd h (Nat.lt_irrefl _)) _).setCell (p := ⟨w.heap.size, 1, none⟩) (fun h => absurd h (Nat.lt_irrefl _)) _).setCell (p := ⟨w.heap.size, 2, none⟩) (fun h => absurd h (Nat.lt_irrefl _)) _
end Go.Proofs.YtdbdbaepmdmnfaaGreatDoor
namespace Go.Proofs.YtdbdbaepmdmnfaaGreatDoor
open Go.RowKit
/-- The program that counts the records. -/
def P2 : ByteArray := ⟨#[69, 78, 68, 32, 123, 32, 112, 114, 105, 110, 116, 32, 78, 82, 32, 125]⟩
def p2a : TS := ⟨3, false, 7, ⟨#[69, 78, 68]⟩, 0⟩
def p2b : TS := ⟨5, false, 9, ⟨#[123]⟩, 4⟩
def p2c : TS := ⟨11, false, 7, ⟨#[112, 114, 105, 110, 116]⟩, 6⟩
def p2d : TS := ⟨14, true, 5, ⟨#[78, 82]⟩, 12⟩
def p2e : TS := ⟨16, false, 9, ⟨#[125]⟩, 15⟩
def p2f : TS := ⟨16, false, 1, ⟨#[]⟩, 16⟩
def NRx : ByteArray := ⟨#[78, 82]⟩
theorem np2_1 (pb : Nat) : Nx pb P2 ts0 p2a := by
  refine nx_of pb P2 ts0 p2a (by decide) (by decide) (by decide) (cmt (by decide)) ?_ (by decide)
  refine read_name pb P2 0 false 7 ⟨#[69, 78, 68]⟩ 3 (by decide) (by decide) (by decide) (fun w h => ?_)
  exact name_any pb P2 0 false (by decide) (by decide) w h
theorem np2_2 (pb : Nat) : Nx pb P2 p2a p2b := nx_sign pb P2 p2a p2b (by decide) (by decide) (by decide) (cmt (by decide)) (by decide) (by decide) (by decide) (by decide) (by decide) (by decide) (Or.inr (by decide)) (by decide) rfl (by decide) rfl
theorem np2_3 (pb : Nat) : Nx pb P2 p2b p2c := by
  refine nx_of pb P2 p2b p2c (by decide) (by decide) (by decide) (cmt (by decide)) ?_ (by decide)
  refine read_name pb P2 6 false 7 ⟨#[112, 114, 105, 110, 116]⟩ 11 (by decide) (by decide) (by decide) (fun w h => ?_)
  exact name_any pb P2 6 false (by decide) (by decide) w h
theorem np2_4 (pb : Nat) : Nx pb P2 p2c p2d := by
  refine nx_of pb P2 p2c p2d (by decide) (by decide) (by decide) (cmt (by decide)) ?_ (by decide)
  refine read_name pb P2 12 false 5 ⟨#[78, 82]⟩ 14 (by decide) (by decide) (by decide) (fun w h => ?_)
  exact name_any pb P2 12 false (by decide) (by decide) w h
theorem np2_5 (pb : Nat) : Nx pb P2 p2d p2e := nx_sign pb P2 p2d p2e (by decide) (by decide) (by decide) (cmt (by decide)) (by decide) (by decide) (by decide) (by decide) (by decide) (by decide) (Or.inl (by decide)) (by decide) rfl (by decide) rfl
theorem np2_6 (pb : Nat) : Nx pb P2 p2e p2f := nx_of pb P2 p2e p2f (by decide) (by decide) (by decide) (cmt (by decide)) (read_end pb P2 false) (by decide)
/-- The tree of the program's one block. -/
def nrV : Value := nameV NRx 12
def V2 (pb : Nat) : World → Value → Prop := BlockT pb 1 (fun _ => PrintL pb [nrV])
theorem v2_stab3 (pb : Nat) : Stab3 (V2 pb) := block_stab3 (fun _ _ => printL_stab3 pb _)
theorem v2_sl (pb : Nat) : IsSl (V2 pb) := block_sl _ _ _
theorem ep2 (pb : Nat) : Reads 143 pb P2 true p2d p2e (Is nrV) :=
  expr_rd pb P2 true p2d p2e _ true (place_name NRx 12) (is_stab pb _) (ends_of (by decide)) (either_of pb P2 true p2d p2e _ (is_stab pb _) (ends_of (by decide)) (noSign_of (by decide)) (prim_name pb P2 true p2d p2e rfl (np2_5 pb) (by decide)))
theorem sp2_0 (pb : Nat) : Reads 181 pb P2 false p2c p2e (PrintL pb [nrV]) :=
  stmt_last pb P2 false p2c p2e _ (noComp_of (by decide)) (simple_print pb P2 false p2c p2d p2e _ (by decide) (np2_4 pb) (print_list pb P2 p2d p2e [nrV] (by decide) (by decide) (by decide) (list_one pb P2 true p2d p2e _ _ (ep2 pb) (by decide)) (by decide))) (by decide)
theorem blockp2 (pb : Nat) : Reads 142 pb P2 false p2b p2f (V2 pb) :=
  block_rd pb P2 false p2b 1 (by omega) (fun i => if i = 0 then p2c else p2e) p2f (fun _ => PrintL pb [nrV]) (fun _ _ => printL_stab pb _) (fun _ _ => printL_stab2 pb _) (fun _ _ => printL_if pb _) (by decide) (np2_3 pb)
    (fun i hi => by
      obtain rfl : i = 0 := by omega
      exact sp2_0 pb)
    (fun i hi => by
      obtain rfl : i = 0 := by omega
      decide) (by decide) (np2_6 pb)
theorem progp2 (pb : Nat) (w : World) (h : PAt w pb P2 p2a false) : Calls Tryz.prog 74 #[.pointer (some ⟨pb, 0, none⟩)] w fun en w' => ∃ v, en = .returned v ∧ ProgT 2 (V2 pb) w' v ∧ PAt w' pb P2 p2f false ∧ Only (fun k => k = pb) w w' :=
  program_one pb P2 p2a p2f 2 _ (v2_sl pb) (v2_stab3 pb) (by decide) (by decide) (fun W hW => rule_end pb P2 false p2a p2b p2f _ (v2_sl pb) (v2_stab3 pb) (by decide) (by decide) (np2_2 pb) (blockp2 pb) W hW) rfl w h
theorem readp2 (w : World) : Calls Tryz.prog 45 #[.string P2] w fun en w' => ∃ pb v, en = .returned (.tuple #[v, .int .i64 0, .bool true]) ∧ ProgT 2 (V2 pb) w' v ∧ Only (fun _ => False) w w' :=
  read_one P2 2 V2 v2_stab3 p2a p2f np2_1 progp2 w
end Go.Proofs.YtdbdbaepmdmnfaaGreatDoor
namespace Go.Proofs.YtdbdbaepmdmnfaaGreatDoor
open Go.RowKit
set_option maxRecDepth 20000 in
set_option maxHeartbeats 4000000 in
theorem uexprs_one (cb : Nat) (g cap : Nat) (u : Value) (hif : ∃ t x, u = .iface t x) (Q : World → Prop) (w : World) (hc : w.cell? ⟨g, 0, none⟩ = some u) (h1 : Calls Tryz.prog 145 #[.pointer (some ⟨cb, 0, none⟩), u] w fun en w' => en = .returned (.tuple #[]) ∧ Q w') : Calls Tryz.prog 114 #[.pointer (some ⟨cb, 0, none⟩), .slice (some ⟨g, 0, none⟩) 1 cap] w fun en w' => en = .returned (.tuple #[]) ∧ Q w' := by
  obtain ⟨t, x, rfl⟩ := hif
  have H1 := hide h1
  clear h1
  go_enter Tryz.func114, Tryz.ntmps114
  go_wp2
  go_loopg [8] 1 (fun gh s wr => (gh = 1 ∧ s = .int .i64 0 ∧ wr = w) ∨ (gh = 0 ∧ s = .int .i64 1 ∧ Q wr))
  case atStart => exact Or.inl ⟨rfl, rfl, rfl⟩
  case round =>
    rcases hrel with ⟨hgh, rfl, hw⟩ | ⟨hgh, rfl, ho⟩
    · subst wr
      go_wp2_with (go_at_call 145; refine (H1.out).mono ?_; rintro en w2 ⟨rfl, h3⟩; have H3 := hide h3; clear h3)
      go_roundg 0
      case measure => omega
      case rel => exact Or.inr ⟨rfl, rfl, H3.out⟩
    · go_wp2
      go_end0
      exact ⟨rfl, ho⟩
set_option maxRecDepth 20000 in
set_option maxHeartbeats 4000000 in
theorem ustmt_printL (cb : Nat) (po : Option Addr) (n cap : Nat) (Q : World → Prop) (w : World) (h1 : Calls Tryz.prog 114 #[.pointer (some ⟨cb, 0, none⟩), .slice po n cap] (w.alloc (.cells #[.slice po n cap, .nilIface] 285)) fun en w' => en = .returned (.tuple #[]) ∧ Q w') (hQ : ∀ W, Q W → ∃ a, W.heap[w.heap.size]? = some (.cells #[a, .nilIface] 285 (0, 0))) :
    Calls Tryz.prog 144 #[.pointer (some ⟨cb, 0, none⟩), .iface 285 (.agg #[.slice po n cap, .nilIface])] w fun en w' => en = .returned (.tuple #[]) ∧ Q w' := by
  have q0 := ts419_191 (.agg #[.slice po n cap, .nilIface])
  have q1 := ts419_424 (.agg #[.slice po n cap, .nilIface])
  have q2 := ts419_427 (.agg #[.slice po n cap, .nilIface])
  have q3 := ts419_429 (.agg #[.slice po n cap, .nilIface])
  have q4 := ts419_432 (.agg #[.slice po n cap, .nilIface])
  have q5 := ts419_507 (.agg #[.slice po n cap, .nilIface])
  have q6 := ts419_419 (.agg #[.slice po n cap, .nilIface])
  have H1 := hide h1
  have H2 := hide (uexpr_nil (some ⟨cb, 0, none⟩))
  have HQ := hide hQ
  clear h1 hQ
  go_enter Tryz.func144, Tryz.ntmps144
  go_wp2_with fail
  refine (H1.out).mono ?_
  rintro en w2 ⟨rfl, h3⟩
  obtain ⟨a, hb⟩ := HQ.out _ h3
  have c1 : w2.cell? ⟨w.heap.size, 1, none⟩ = some .nilIface := cell_of hb rfl
  have H3 := hide h3
  clear h3 hb
  go_wp2_with (go_at_call 145; refine (H2.out _).mono ?_; rintro en w' ⟨rfl, h3⟩; subst w')
  go_end0
  exact ⟨rfl, H3.out⟩
set_option maxRecDepth 20000 in
set_option maxHeartbeats 4000000 in
theorem urule_end (cb M : Nat) (o1 : Option (ByteArray × Nat)) (body : Value) (hsl : ∃ po n cap, body = .slice po n cap) (w : World) (h : UX w cb M none false)
    (h1 : ∀ W, UX W cb M none false → Only (fun k => k = cb) w W → Calls Tryz.prog 113 #[.pointer (some ⟨cb, 0, none⟩), body] W fun en w' => en = .returned (.tuple #[]) ∧ UX w' cb M o1 false ∧ Only (fun k => k = cb) W w') :
    Calls Tryz.prog 77 #[.pointer (some ⟨cb, 0, none⟩), .agg #[.int .i64 2, .slice none 0 0, body]] w fun en w' => en = .returned (.tuple #[]) ∧ UX w' cb M o1 false ∧ Only (fun k => k = cb) w w' := by
  obtain ⟨po, n, cap, rfl⟩ := hsl
  have HE := hide (uexprs_nil (some ⟨cb, 0, none⟩))
  have hu0 := (h.setRec false).alloc (.cells #[.int .i64 2, .slice none 0 0, .slice po n cap] 102)
  have hlc : cb < w.heap.size := by obtain ⟨v, h1, _⟩ := h; exact heap_lt h1.1
  have c6 : w.cell? ⟨cb, 6, none⟩ = some (.bool false) := by obtain ⟨v, h1, _⟩ := h; exact cell_of h1.1 rfl
  have cf : ∀ o, w.frozen? ⟨cb, o, none⟩ = false := by obtain ⟨v, h1, _⟩ := h; exact free_of h1.1
  have hO := (Only.refl (fun k => k = cb) w).setCell (p := ⟨cb, 6, none⟩) (fun _ => rfl) (.bool false)
  have hO2 := hO.alloc (.cells #[.int .i64 2, .slice none 0 0, .slice po n cap] 102)
  have H1 := hide (h1 _ hu0 hO2)
  have HO2 := hide hO2
  clear h h1 hu0 hO hO2
  go_enter Tryz.func77, Tryz.ntmps77
  go_wp2_with (go_at_call 114; refine (HE.out _).mono ?_; rintro en w2 ⟨rfl, h3⟩; subst h3)
  refine (H1.out).mono ?_
  rintro en w2 ⟨rfl, hu2, ho2⟩
  have d6 : w2.cell? ⟨cb, 6, none⟩ = some (.bool false) := by obtain ⟨v, h1, _⟩ := hu2; exact cell_of h1.1 rfl
  have df : ∀ o, w2.frozen? ⟨cb, o, none⟩ = false := by obtain ⟨v, h1, _⟩ := hu2; exact free_of h1.1
  have HU2 := hide hu2
  have HO3 := hide ho2
  clear hu2 ho2 H1
  go_wp2
  go_end0
  exact ⟨rfl, HU2.out.setRec false, (HO2.out.trans HO3.out (fun _ _ e => e)).setCell (p := ⟨cb, 6, none⟩) (fun _ => rfl) _⟩
set_option maxRecDepth 20000 in
set_option maxHeartbeats 1000000 in
theorem there_nr (w : World) : Calls Tryz.prog 110 #[.string ⟨#[78, 82]⟩] w fun en w' => en = .returned (.bool true) ∧ w' = w := by
  go_enter Tryz.func110, Tryz.ntmps110
  go_wp2
  go_ret
  exact ⟨rfl, rfl⟩
set_option maxRecDepth 20000 in
set_option maxHeartbeats 4000000 in
theorem judge_nr (cb M a : Nat) (rec : Bool) (w : World) (h : UX w cb M (some (⟨#[78, 82]⟩, a)) rec) :
    Calls Tryz.prog 78 #[.pointer (some ⟨cb, 0, none⟩)] w fun en w' => en = .returned (.tuple #[]) ∧ Only (fun _ => False) w w' := by
  have hmm := @run_makeMap Tryz.prog
  obtain ⟨v, h1, h2⟩ := h
  obtain ⟨g, cap, rfl, hg, hc⟩ := own_at h2 (by simp)
  have hcl := heap_lt h1.1
  have c2 : w.cell? ⟨cb, 2, none⟩ = some (.slice (some ⟨g, 0, none⟩) 1 cap) := cell_of h1.1 rfl
  have g0 : w.cell? ⟨g, 0, none⟩ = some (.string ⟨#[78, 82]⟩) := hc 0 _ rfl
  have g1 : w.cell? ⟨g, 1, none⟩ = some (.int .i64 a) := hc 1 _ rfl
  have g2 : w.cell? ⟨g, 2, none⟩ = some (.int .i64 0) := hc 2 _ rfl
  have HS := hide (sort_1 (some ⟨g, 0, none⟩) cap (.func (.func 116) #[] #[]))
  have HT := hide there_nr
  clear h1 h2 hc
  go_enter Tryz.func78, Tryz.ntmps78
  go_wp2_with (go_at_call 115; refine (HS.out _).mono ?_; rintro en w' ⟨rfl, h3⟩; subst w')
  go_loopg [19] 1 (fun gh s wr => (gh = 1 ∧ s = .int .i64 0 ∧ wr = w.alloc (.map #[] 0)) ∨ (gh = 0 ∧ s = .int .i64 1 ∧ Only (fun _ => False) w wr))
  case atStart => exact Or.inl ⟨rfl, rfl, rfl⟩
  case round =>
    rcases hrel with ⟨hgh, rfl, hw⟩ | ⟨hgh, rfl, ho⟩
    · subst hw
      have hl := look360 (w := (w.alloc (.map #[] 0)).alloc (.cells #[.string ⟨#[78, 82]⟩, .int .i64 a, .int .i64 0] 227)) (M := w.heap.size) ((Below.heap_alloc _ _ _ (by simp)).trans (new0 w _)) ⟨#[78, 82]⟩
      go_wp2_with (go_at_call 110; refine (HT.out _).mono ?_; rintro en w' ⟨rfl, h3⟩; subst w')
      go_roundg 0
      case measure => omega
      case rel => exact Or.inr ⟨rfl, rfl, (onlyA w _).alloc _⟩
    · go_wp2
      go_end0
      exact ⟨rfl, ho⟩
/-- What the checker does with the body of the one rule for the end. -/
def Checks2 (w : World) (u : Value) (o : Option (ByteArray × Nat)) : Prop := ∀ W cb M, Only (fun _ => False) w W → w.heap.size ≤ cb → UX W cb M none false → Calls Tryz.prog 113 #[.pointer (some ⟨cb, 0, none⟩), u] W fun en w' => en = .returned (.tuple #[]) ∧ UX w' cb M o false ∧ Only (fun k => k = cb) W w'
set_option maxRecDepth 20000 in
set_option maxHeartbeats 8000000 in
theorem least_ok2 (V : World → Value → Prop) (hsl : IsSl V) (o : Option (ByteArray × Nat)) (v : Value) (w : World) (h : ProgT 2 V w v) (hB : ∀ u, V w u → Checks2 w u o)
    (hj : ∀ W cb M, UX W cb M o false → Calls Tryz.prog 78 #[.pointer (some ⟨cb, 0, none⟩)] W fun en w' => en = .returned (.tuple #[]) ∧ Only (fun _ => False) W w') :
    Calls Tryz.prog 46 #[v] w fun en w' => en = .returned (.tuple #[.int .i64 0, .bool false]) ∧ Only (fun _ => False) w w' := by
  have hmm := @run_makeMap Tryz.prog
  obtain ⟨rs, u, rfl, hr, hu⟩ := h
  obtain ⟨po, n, cap, rfl⟩ := hsl _ _ hu
  obtain ⟨g, cr, rfl, hg, hc⟩ := own_at hr (by omega)
  have g0 : w.cell? ⟨g, 0, none⟩ = some (.int .i64 2) := hc 0 _ rfl
  have g1 : w.cell? ⟨g, 1, none⟩ = some (.slice none 0 0) := hc 1 _ rfl
  have g2 : w.cell? ⟨g, 2, none⟩ = some (.slice po n cap) := hc 2 _ rfl
  have HB := hide (hB _ hu)
  have HJ := hide hj
  clear hr hu hc hB hj hsl
  go_enter Tryz.func46, Tryz.ntmps46
  go_wp2
  go_loop [16] (fun s => s = .int .i64 0) (fun _ => 0)
  case atStart => exact rfl
  case round =>
    subst hrel
    go_wp2
    go_loop [26] (fun s => s = .int .i64 0) (fun _ => 0)
    case atStart => exact rfl
    case round =>
      subst hrel
      go_wp2
      have hux : UX (((w.alloc (.cells #[.slice none 0 0, .slice (some ⟨g, 0, none⟩) 1 cr] 60)).alloc (.map #[] 0)).alloc (.cells #[.map (some (w.heap.size + 1)), .slice none 0 0, .slice none 0 0, .slice none 0 0, .int .i64 0, .bool false, .bool false] 159)) (w.heap.size + 1 + 1) (w.heap.size + 1) none false := ⟨.slice none 0 0, ⟨new_at2 (W := (w.alloc _).alloc _) (by simp) _, (Below.heap_alloc _ _ _ (by simp)).trans (new_at2 (W := w.alloc _) (by simp) _)⟩, rfl⟩
      have hO0 : Only (fun _ => False) w (((w.alloc (.cells #[.slice none 0 0, .slice (some ⟨g, 0, none⟩) 1 cr] 60)).alloc (.map #[] 0)).alloc (.cells #[.map (some (w.heap.size + 1)), .slice none 0 0, .slice none 0 0, .slice none 0 0, .int .i64 0, .bool false, .bool false] 159)) := ((onlyA w _).alloc _).alloc _
      have HR := hide (urule_end (w.heap.size + 1 + 1) (w.heap.size + 1) o (.slice po n cap) ⟨po, n, cap, rfl⟩ _ (hux.alloc (.cells #[.int .i64 2, .slice none 0 0, .slice po n cap] 102)) (fun W hW hO => HB.out W _ _ ((hO0.alloc _).trans hO (fun i hi e => absurd hi (by omega))) (by omega) hW))
      have HO0 := hide hO0
      clear hux hO0 HB
      go_loopg [36] 1 (fun gh s wr => (gh = 1 ∧ s = .int .i64 0 ∧ wr = ((w.alloc (.cells #[.slice none 0 0, .slice (some ⟨g, 0, none⟩) 1 cr] 60)).alloc (.map #[] 0)).alloc (.cells #[.map (some (w.heap.size + 1)), .slice none 0 0, .slice none 0 0, .slice none 0 0, .int .i64 0, .bool false, .bool false] 159)) ∨ (gh = 0 ∧ s = .int .i64 1 ∧ UX wr (w.heap.size + 1 + 1) (w.heap.size + 1) o false ∧ Only (fun _ => False) w wr))
      case atStart => exact Or.inl ⟨rfl, rfl, rfl⟩
      case round =>
        rcases hrel with ⟨hgh, rfl, hw⟩ | ⟨hgh, rfl, hux, ho⟩
        · subst hw
          have k0 := (HO0.out.cell (p := ⟨g, 0, none⟩) hg (fun e => e)).trans g0
          have k1 := (HO0.out.cell (p := ⟨g, 1, none⟩) hg (fun e => e)).trans g1
          have k2 := (HO0.out.cell (p := ⟨g, 2, none⟩) hg (fun e => e)).trans g2
          go_wp2_with (go_at_call 77; refine (HR.out).mono ?_; rintro en w2 ⟨rfl, h2, h3⟩; have H2 := hide h2; have H3 := hide h3; clear h2 h3)
          go_roundg 0
          case measure => omega
          case rel => exact Or.inr ⟨rfl, rfl, H2.out, (HO0.out.alloc _).trans H3.out (fun i hi e => absurd hi (by omega))⟩
        · have HJ2 := hide (HJ.out _ _ _ hux)
          have HU := hide hux
          have HO := hide ho
          clear hux ho HR HJ
          go_wp2_with fail
          refine (HJ2.out).mono ?_
          rintro en w3 ⟨rfl, ho3⟩
          have c3 : w3.cell? ⟨w.heap.size + 1 + 1, 3, none⟩ = some (.slice none 0 0) := by obtain ⟨v, h1, _⟩ := HU.out.calm ho3; exact cell_of h1.1 rfl
          have HO3 := hide ho3
          clear ho3 HJ2
          go_wp2
          go_ret2
          exact ⟨rfl, HO.out.trans HO3.out (fun _ _ e => e)⟩
set_option maxRecDepth 20000 in
set_option maxHeartbeats 8000000 in
theorem readProgram_okK (T : ByteArray) (hT : T.size ≤ 600) (kd : Nat) (V : Nat → World → Value → Prop) (hV3 : ∀ pb, Stab3 (V pb)) (w : World)
    (hr : ∀ W, Calls Tryz.prog 45 #[.string T] W fun en w' => ∃ pb v, en = .returned (.tuple #[v, .int .i64 0, .bool true]) ∧ ProgT kd (V pb) w' v ∧ Only (fun _ => False) W w')
    (hl : ∀ pb W v, ProgT kd (V pb) W v → Calls Tryz.prog 46 #[v] W fun en w' => en = .returned (.tuple #[.int .i64 0, .bool false]) ∧ Only (fun _ => False) W w') :
    Calls Tryz.prog 34 #[.string T] w fun en w' => ∃ pb v, en = .returned (.tuple #[v, .int .i64 0, .int .i64 0]) ∧ ProgT kd (V pb) w' v ∧ Only (fun _ => False) w w' := by
  have hli : ¬ (600 : Int) < (T.size : Int) := by omega
  have HR := hide (hr (w.alloc (.cells #[.slice none 0 0, .slice none 0 0] 60)))
  have HL := hide hl
  have HV3 := hide hV3
  clear hr hl hV3
  go_enter Tryz.func34, Tryz.ntmps34
  go_wp2_with fail
  refine (HR.out).mono ?_
  rintro en w1 ⟨pb, v, rfl, hp, ho⟩
  have hp0 := hp
  obtain ⟨rs, u, rfl, hrow, hu⟩ := hp
  obtain ⟨pr, cr, rfl⟩ := ownsRow_slice hrow
  have hpA := prog_calm (HV3.out pb) hp0 (onlyA w1 (.cells #[.slice none 0 0, .slice pr 1 cr] 60))
  have HLs := hide (HL.out pb _ _ hpA)
  have HPA := hide hpA
  have HO := hide ho
  have hz1 : w.heap.size + 1 ≤ w1.heap.size := by have := ho.size; simpa using this
  clear hrow hu hp0 hpA ho HR HL
  go_wp2_with fail
  refine (HLs.out).mono ?_
  rintro en w2 ⟨rfl, ho2⟩
  have hb5 := (ho2.block w1.heap.size (by simp) (fun e => e)).trans (new0 w1 (.cells #[.slice none 0 0, .slice pr 1 cr] 60))
  have hb2 := (ho2.block w.heap.size (by simp; omega) (fun e => e)).trans ((Below.heap_alloc _ _ _ (by omega)).trans ((HO.out.block w.heap.size (by simp) (fun e => e)).trans (new0 w (.cells #[.slice none 0 0, .slice none 0 0] 60))))
  have c0 : w2.cell? ⟨w1.heap.size, 0, none⟩ = some (.slice none 0 0) := cell_of hb5 rfl
  have c1 : w2.cell? ⟨w1.heap.size, 1, none⟩ = some (.slice pr 1 cr) := cell_of hb5 rfl
  have d0 : w2.cell? ⟨w.heap.size, 0, none⟩ = some (.slice none 0 0) := cell_of hb2 rfl
  have d1 : w2.cell? ⟨w.heap.size, 1, none⟩ = some (.slice none 0 0) := cell_of hb2 rfl
  have df := free_of hb2
  have HB2 := hide hb2
  have HP2 := hide (prog_calm (HV3.out pb) HPA.out ho2)
  have HO2 := hide ho2
  clear hb5 hb2 ho2 HLs
  go_wp2
  refine bodyPost_ret (v := .tuple #[.agg #[.slice none 0 0, .slice pr 1 cr], .int .i64 0, .int .i64 0]) (by simp [results, Tryz.results34, go_sem, d0, d1]) rfl ⟨pb, _, rfl, ?_, ?_⟩
  · refine prog_only (HV3.out pb) (D := fun k => k = w.heap.size) HP2.out (((Only.refl (fun k => k = w.heap.size) w2).setCell (p := ⟨w.heap.size, 0, none⟩) (fun _ => rfl) _).setCell (p := ⟨w.heap.size, 1, none⟩) (fun _ => rfl) _) ?_
    rintro k rfl
    exact ⟨_, _, HB2.out, by decide, by decide, by decide⟩
  · exact (((((onlyA w _).trans HO.out (fun _ _ e => e)).alloc _).trans HO2.out (fun _ _ e => e)).setCell (p := ⟨w.heap.size, 0, none⟩) (fun h => absurd h (Nat.lt_irrefl _)) _).setCell (p := ⟨w.heap.size, 1, none⟩) (fun h => absurd h (Nat.lt_irrefl _)) _
end Go.Proofs.YtdbdbaepmdmnfaaGreatDoor
namespace Go.Proofs.YtdbdbaepmdmnfaaGreatDoor
open Go.RowKit
theorem checksp2 (pb : Nat) (w : World) (u : Value) (hu : V2 pb w u) : Checks2 w u (some (NRx, 12)) := by
  intro W cb M ho hcb hux
  obtain ⟨vs, hl, h1, h3, h4⟩ := v2_stab3 pb w W u (fun _ => False) hu ho (fun _ e => e.elim)
  have hlt : ∀ k, u.ownBlock = some k → k < w.heap.size := by
    obtain ⟨vs', _, h1', _⟩ := hu
    exact fun k hk => (h1'.lt k hk).2
  have hne : u.ownBlock ≠ some cb := fun e => by have := hlt cb e; omega
  refine (ublock cb 1 (by omega) u vs (fun i X => (i = 0 ∧ X = W) ∨ (i = 1 ∧ UX X cb M (some (NRx, 12)) false ∧ Only (fun k => k = cb) W X)) W h1 hne ?_ (Or.inl ⟨rfl, rfl⟩) ?_).mono ?_
  · rintro i X (⟨_, rfl⟩ | ⟨_, _, h⟩)
    · exact Only.refl _ _
    · exact h
  · rintro i y hy X hX
    obtain ⟨r, rfl, hr⟩ := h4 i y hy
    have hi : i < 1 := by have := (List.getElem?_eq_some_iff.1 hy).1; omega
    rcases hX with ⟨rfl, rfl⟩ | ⟨h, _⟩
    · have hrow := hr.1
      obtain ⟨g, cap, rfl, hg, hc⟩ := own_at hr.1 (by simp)
      have hcl : cb < X.heap.size := by obtain ⟨v, h1, _⟩ := hux; exact heap_lt h1.1
      refine (ustmt_printL cb (some ⟨g, 0, none⟩) 1 cap (fun X2 => UX X2 cb M (some (NRx, 12)) false ∧ Only (fun k => k = cb) (X.alloc (.cells #[.slice (some ⟨g, 0, none⟩) 1 cap, .nilIface] 285)) X2) X ?_ ?_).mono (fun _ _ h => ⟨h.1, Or.inr ⟨rfl, h.2.1, fromAlloc h.2.2⟩⟩)
      · refine uexprs_one cb g cap nrV ⟨_, _, rfl⟩ _ _ ((World.cell?_alloc_past _ _ _ hg).trans (hc 0 _ rfl)) ?_
        obtain ⟨v0, k1, k2⟩ := hux.alloc (.cells #[.slice (some ⟨g, 0, none⟩) 1 cap, .nilIface] 285)
        cases k2
        refine (uexpr_name cb M false NRx 12 _ k1).mono ?_
        rintro en w' ⟨rfl, v, e1, e2, e3⟩
        exact ⟨rfl, ⟨v, e2, e1⟩, e3⟩
      · rintro W2 ⟨_, h5⟩
        exact ⟨_, (h5.block X.heap.size (by simp) (by omega)).trans (new0 X _)⟩
    · omega
  · rintro en w' ⟨rfl, (⟨h, _⟩ | ⟨_, h5, h6⟩)⟩
    · omega
    · exact ⟨rfl, h5, h6⟩
theorem leastp2 (pb : Nat) (w : World) (v : Value) (h : ProgT 2 (V2 pb) w v) : Calls Tryz.prog 46 #[v] w fun en w' => en = .returned (.tuple #[.int .i64 0, .bool false]) ∧ Only (fun _ => False) w w' :=
  least_ok2 (V2 pb) (v2_sl pb) (some (NRx, 12)) v w h (fun u hu => checksp2 pb w u hu) (fun W cb M hW => judge_nr cb M 12 false W hW)
theorem readProgramp2 (w : World) : Calls Tryz.prog 34 #[.string P2] w fun en w' => ∃ pb v, en = .returned (.tuple #[v, .int .i64 0, .int .i64 0]) ∧ ProgT 2 (V2 pb) w' v ∧ Only (fun _ => False) w w' :=
  readProgram_okK P2 (by decide) 2 V2 v2_stab3 w readp2 leastp2
end Go.Proofs.YtdbdbaepmdmnfaaGreatDoor
namespace Go.Proofs.YtdbdbaepmdmnfaaGreatDoor
open Go.RowKit
/-- A run under way that has put nothing out. -/
structure UnderE (wN wS W : World) (m ab vb sb : Nat) (txt : ByteArray) (n : Nat) (cs : List Value) : Prop where
  hNS : wN.heap.size ≤ wS.heap.size
  lm : m < wS.heap.size
  lv : vb < wS.heap.size
  ls : sb < wS.heap.size
  u : Under wN wS W m ab vb sb txt 0 n (.slice none 0 0) cs
theorem UnderE.calm {wN wS W W' m ab vb sb txt n cs} (h : UnderE wN wS W m ab vb sb txt n cs) (ho : Only (fun _ => False) W W') : UnderE wN wS W' m ab vb sb txt n cs := ⟨h.hNS, h.lm, h.lv, h.ls, h.u.calm ho⟩
theorem UnderE.step {wN wS W m ab vb sb txt n cs} (h : UnderE wN wS W m ab vb sb txt (n + 1) cs) : UnderE wN wS (W.setCell ⟨m, 7, none⟩ (.int .i64 n)) m ab vb sb txt n cs := ⟨h.hNS, h.lm, h.lv, h.ls, h.u.step⟩
theorem UnderE.read {wN wS W W' m ab vb sb txt t n cs cs'} (h : UnderE wN wS W m ab vb sb txt n cs) (hM : MRec W' m ab vb t (.slice (some ⟨sb, 0, none⟩) 1 1) 0 n 0) (hV : VAt W' vb cs') (ho : Only (fun k => k = m ∨ k = vb) W W') : UnderE wN wS W' m ab vb sb t n cs' := by
  obtain ⟨a, b, c, d, h1⟩ := h
  obtain ⟨po, cap, hM'⟩ := hM
  have hm := h1.hm
  have hv := h1.hv
  exact ⟨a, b, c, d, ⟨h1.hm, h1.hv, h1.hs, h1.nmv, h1.nms, h1.nvs, ⟨po, _, cap, hM'⟩, hV, (ho.block sb (heap_lt h1.hS) (fun e => e.elim (fun e => h1.nms e.symm) (fun e => h1.nvs e.symm))).trans h1.hS, h1.hO.trans ho (fun q hq e => by omega), h1.hT.trans ho (fun _ _ e => e.elim Or.inl (fun e => Or.inr (Or.inl e)))⟩⟩
theorem UnderE.spoilt {wN wS W W' m ab vb sb txt n cs cs'} (h : UnderE wN wS W m ab vb sb txt n cs) (hV : VAt W' vb cs') (ho : Only (fun k => k = vb) W W') : UnderE wN wS W' m ab vb sb txt n cs' := by
  obtain ⟨a, b, c, d, h1⟩ := h
  obtain ⟨po1, pn1, pc1, hM1⟩ := h1.hM
  have hv := h1.hv
  exact ⟨a, b, c, d, ⟨h1.hm, h1.hv, h1.hs, h1.nmv, h1.nms, h1.nvs, ⟨po1, pn1, pc1, hM1.only ho (fun e => h1.nmv e)⟩, hV, (ho.block sb (heap_lt h1.hS) (fun e => h1.nvs e.symm)).trans h1.hS, h1.hO.trans ho (fun q hq e => by omega), h1.hT.trans ho (fun _ _ e => Or.inr (Or.inl e))⟩⟩
/-- The variables of a run that has read k records, OFS among them. -/
def VsN (cs : List Value) (k : Nat) : Prop := VsK cs k ∧ cs[9]? = some (.int .i64 2) ∧ cs[10]? = some (.int .i64 0) ∧ cs[11]? = some (.string ⟨#[32]⟩)
theorem first7_vsN : VsN first7 0 := ⟨first7_vs, rfl, rfl, rfl⟩
theorem readVs_vsN {cs : List Value} {k n : Nat} (h : VsN cs k) : VsN ((((readVs cs k).set 3 (.int .i64 1)).set 4 (.int .i64 n)).set 5 (.string ⟨#[]⟩)) (k + 1) := by
  obtain ⟨h, h9, h10, h11⟩ := h
  exact ⟨readVs_vs h, setNe (setNe (setNe (readVs_get h9 (by omega)) (by decide)) (by decide)) (by decide), setNe (setNe (setNe (readVs_get h10 (by omega)) (by decide)) (by decide)) (by decide), setNe (setNe (setNe (readVs_get h11 (by omega)) (by decide)) (by decide)) (by decide)⟩
/-- What reading all of an input comes to, if there is no rule. -/
def AllPostN (wN wS : World) (m ab vb sb n0 : Nat) (a : Addr) (T : List UInt8) (en : Ending) (w' : World) : Prop :=
  (AllFew (recs T) ∧ en = .returned (.tuple #[]) ∧ ∃ txt cs, VsN cs (recs T).length ∧ UnderE wN wS w' m ab vb sb txt n0 cs) ∨
  (¬ AllFew (recs T) ∧ Threw a en ∧ ∃ txt n cs, UnderE wN wS w' m ab vb sb txt n cs)
set_option maxRecDepth 20000 in
set_option maxHeartbeats 2000000 in
theorem doRules_nil (p : Nat) (m : Option Addr) (w : World) (h : w.cell? ⟨p, 1, none⟩ = some (.slice none 0 0)) : Calls Tryz.prog 101 #[.pointer (some ⟨p, 0, none⟩), .pointer m] w fun en w' => en = .returned (.tuple #[]) ∧ w' = w := by
  go_enter Tryz.func101, Tryz.ntmps101
  go_wp2
  go_loop [11] (fun s => s = .int .i64 0) (fun _ => 0)
  case atStart => exact rfl
  case round =>
    subst hrel
    go_wp2
    go_end0
    exact ⟨rfl, rfl⟩
set_option maxRecDepth 20000 in
set_option maxHeartbeats 8000000 in
theorem readAll_none (pb : Nat) (es : Value) (wN wS : World) (hp : wN.heap[pb]? = some (.cells #[.slice none 0 0, .slice none 0 0, es, .int .i64 7, .int .i64 0] 135 (0, 0))) (a : Addr) (hgl : wN.cell? ⟨2, 0, none⟩ = some (.iface 558 (.pointer (some a)))) (m ab vb sb n0 : Nat) (hn0 : n0 ≤ 50000) (T : ByteArray) (hT : T.size ≤ 400) (w : World) (h : UnderE wN wS w m ab vb sb ⟨#[]⟩ (n0 + (recs T.data.toList).length) first7) :
    Calls Tryz.prog 64 #[.pointer (some ⟨pb, 0, none⟩), .pointer (some ⟨m, 0, none⟩), .string T] w (AllPostN wN wS m ab vb sb n0 a T.data.toList) := by
  have hg2 := World.block_lt_of_cell? wN ⟨2, 0, none⟩ hgl
  have HDo : Hid (∀ (txt : ByteArray) n cs W, UnderE wN wS W m ab vb sb txt n cs → Calls Tryz.prog 101 #[.pointer (some ⟨pb, 0, none⟩), .pointer (some ⟨m, 0, none⟩)] W fun en w' => en = .returned (.tuple #[]) ∧ UnderE wN wS w' m ab vb sb txt n cs) := hide (fun txt n cs W hW => by
    have hpW := (hW.u.hO.block pb (heap_lt hp) (fun e => e)).trans hp
    refine (doRules_nil pb _ W (cell_of hpW rfl)).mono ?_
    rintro en w' ⟨e, rfl⟩
    exact ⟨e, hW⟩)
  have HGl := hide hgl
  have HTl : Hid (T.data.toList.length ≤ 400) := hide (by rw [len_eq]; exact hT)
  have HStart := hide h
  clear h hp hgl
  go_enter Tryz.func64, Tryz.ntmps64
  go_wp2
  go_loopg [2] T.data.toList.length (fun gh s2 wr => ∃ L1 l' txt cs, gh = l'.length ∧ s2 = .string (ofB l') ∧ Hid (recs T.data.toList = L1 ++ recs l') ∧ Hid (AllFew L1) ∧ Hid (VsN cs L1.length) ∧ Hid (l'.length ≤ 400) ∧ Hid (UnderE wN wS wr m ab vb sb txt (n0 + (recs l').length) cs))
  case atStart => exact ⟨[], T.data.toList, ⟨#[]⟩, first7, rfl, rfl, hide rfl, hide (fun r hr => by cases hr), hide first7_vsN, HTl, HStart⟩
  case round =>
    obtain ⟨L1, l', txt, cs, hgh, rfl, H1, H2, H3, H4, HU⟩ := hrel
    by_cases hl : l' = []
    · subst hl
      have he : (ofB ([] : List UInt8)).toList.isEmpty = true := by rw [ByteArray.toList_eq]; rfl
      have HFin : Hid (AllPostN wN wS m ab vb sb n0 a T.data.toList (.returned (.tuple #[])) wr) := hide (Or.inl (by
        have e1 : recs T.data.toList = L1 := by rw [H1.out, recs_nil, List.append_nil]
        rw [e1]
        exact ⟨H2.out, rfl, txt, cs, H3.out, HU.out⟩))
      clear H1 H2 H3 H4 HU hgh
      go_wp2
      go_end0
      exact HFin.out
    · have he : (ofB l').toList.isEmpty = false := by
        rw [ByteArray.toList_eq]; show l'.isEmpty = false
        cases l' with
        | nil => exact absurd rfl hl
        | cons => rfl
      have hsz : (ofB l').size = l'.length := ofB_sizeR l'
      have hll := lineOf_len l'
      have h400 := H4.out
      have hrl := restOf_len l' hl
      have HLs : Hid ((ofB (lineOf l')).size = (lineOf l').length) := hide (ofB_sizeR _)
      have H1' : Hid (recs T.data.toList = (L1 ++ [lineOf l']) ++ recs (restOf l')) := hide (by rw [H1.out, recs_cons hl]; simp)
      have hU := HU.out
      rw [recs_cons hl, List.length_cons] at hU
      generalize hq : (recs (restOf l')).length = q at hU
      have hq4 : q ≤ 400 := by have := recs_len (restOf l'); omega
      rw [show n0 + (q + 1) = (n0 + q) + 1 by omega] at hU
      have HM : Hid (∃ po pn pc, MAt wr m ab vb txt (.slice po pn pc) (.slice (some ⟨sb, 0, none⟩) 1 1) 0 (n0 + q + 1) 0) := hide hU.u.hM
      obtain ⟨po, pn, pc, hM⟩ := HM.out
      have HS := hide (step_ok m ab vb txt (.slice po pn pc) (.slice (some ⟨sb, 0, none⟩) 1 1) 0 (n0 + q) 0 (by omega) wr hM)
      have HU1 := hide (UnderE.step hU)
      have HC : Hid (∀ W, Calls Tryz.prog 99 #[.string (ofB l'), .string ⟨#[10]⟩] W fun en w' => en = .returned (.tuple #[.string (ofB (lineOf l')), .string (ofB (restOf l')), .bool (hasNl l')]) ∧ Only (fun _ => False) W w') := hide (fun W => cutS_any (ofB l') (by rw [hsz]; omega) W)
      have HVs := H3
      clear hM hU HM
      by_cases hfew : Few (lineOf l')
      · have HRd : Hid (∀ W, UnderE wN wS W m ab vb sb txt (n0 + q) cs → Calls Tryz.prog 100 #[.pointer (some ⟨m, 0, none⟩), .string (ofB (lineOf l'))] W fun en w' => en = .returned (.tuple #[]) ∧ ∃ cs', VsN cs' (L1.length + 1) ∧ UnderE wN wS w' m ab vb sb (ofB (lineOf l')) (n0 + q) cs') := hide (fun W hW => by
          have hW0 := hW
          obtain ⟨_, _, _, _, h1⟩ := hW0
          obtain ⟨po1, pn1, pc1, hM1⟩ := h1.hM
          obtain ⟨⟨⟨⟨x3, x4, x5, h3, h4, h5⟩, f0, f1, f2, _⟩, v0, v1, v2⟩, _⟩ := HVs.out
          have hk : L1.length ≤ 100000 := by
            have h6 := congrArg List.length H1.out
            rw [List.length_append] at h6
            have := recs_len T.data.toList
            have := HTl.out
            omega
          refine (readR_any m ab vb txt (ofB (lineOf l')) po1 pn1 pc1 (.slice (some ⟨sb, 0, none⟩) 1 1) 0 (n0 + q) 0 L1.length hk cs x3 x4 x5 (by rw [HLs.out]; omega) hfew W hM1 h1.hV v0 v1 v2 h3 h4 h5 f0 f1 f2 h1.nmv).mono ?_
          rintro en w' ⟨e, hm2, hv2, ho2⟩
          exact ⟨e, _, readVs_vsN HVs.out, hW.read hm2 hv2 ho2⟩)
        have HFew := hide hfew
        have HGh := hide hgh
        have HRl := hide hrl
        have Hq := hide hq
        have HR4 : Hid ((restOf l').length ≤ 400) := hide (by omega)
        clear hfew hgh hrl hq hll h400 hq4 hsz
        go_wp2_with (first | (go_at_call 98; refine (HS.out).mono ?_; rintro en w2 ⟨rfl, hw2⟩; subst hw2) | (go_at_call 99; refine (HC.out _).mono ?_; rintro en w3 ⟨rfl, h3⟩; have HO3 := hide h3; clear h3))
        refine (HRd.out _ (HU1.out.calm HO3.out)).mono ?_
        rintro en w4 ⟨rfl, cs', hvs', hU4⟩
        have HV4 := hide hvs'
        have HD4 := hide (HDo.out (ofB (lineOf l')) (n0 + q) cs' w4 hU4)
        clear hvs' hU4
        go_wp2_with fail
        refine (HD4.out).mono ?_
        rintro en w5 ⟨rfl, hU5⟩
        have HU5 := hide hU5
        clear hU5
        go_wp2
        go_roundg (restOf l').length
        case measure => rw [HGh.out]; exact HRl.out
        case rel =>
          refine ⟨L1 ++ [lineOf l'], restOf l', ofB (lineOf l'), cs', rfl, rfl, H1', hide ?_, hide ?_, HR4, hide ?_⟩
          · intro r hr
            rcases List.mem_append.1 hr with hr | hr
            · exact H2.out r hr
            · simp at hr; subst hr; exact HFew.out
          · rw [List.length_append]; exact HV4.out
          · rw [Hq.out]; exact HU5.out
      · have hmany : 40 < (words [] (lineOf l')).length := by unfold Few at hfew; omega
        have HNot : Hid (¬ AllFew (recs T.data.toList)) := hide (fun h => hfew (h _ (by rw [H1'.out]; simp)))
        have HRd : Hid (∀ W, UnderE wN wS W m ab vb sb txt (n0 + q) cs → Calls Tryz.prog 100 #[.pointer (some ⟨m, 0, none⟩), .string (ofB (lineOf l'))] W fun en w' => Threw a en ∧ ∃ cs', UnderE wN wS w' m ab vb sb txt (n0 + q) cs') := hide (fun W hW => by
          have hW0 := hW
          obtain ⟨_, _, _, _, h1⟩ := hW0
          obtain ⟨po1, pn1, pc1, hM1⟩ := h1.hM
          obtain ⟨⟨⟨_, f0, f1, f2, _⟩, v0, v1, v2⟩, _⟩ := HVs.out
          have hk : L1.length ≤ 100000 := by
            have h6 := congrArg List.length H1.out
            rw [List.length_append] at h6
            have := recs_len T.data.toList
            have := HTl.out
            omega
          have hvN := h1.hv
          refine (read_throws m ab vb txt (ofB (lineOf l')) po1 pn1 pc1 (.slice (some ⟨sb, 0, none⟩) 1 1) 0 (n0 + q) 0 L1.length hk cs (by rw [HLs.out]; omega) hmany a W ((h1.hO.cell (p := ⟨2, 0, none⟩) hg2 (fun e => e)).trans HGl.out) (by omega) hM1 h1.hV v0 v1 v2 f0 f1 f2 h1.nmv).mono ?_
          rintro en w' ⟨e, ⟨cs', hv2⟩, ho2⟩
          exact ⟨e, cs', hW.spoilt hv2 ho2⟩)
        clear hfew hmany hgh hrl hq hll h400 hq4 hsz
        go_wp2_with (first | (go_at_call 98; refine (HS.out).mono ?_; rintro en w2 ⟨rfl, hw2⟩; subst hw2) | (go_at_call 99; refine (HC.out _).mono ?_; rintro en w3 ⟨rfl, h3⟩; have HO3 := hide h3; clear h3))
        refine (HRd.out _ (HU1.out.calm HO3.out)).mono ?_
        rintro en w4 ⟨rfl, cs', hU4⟩
        have HU4 := hide hU4
        clear hU4
        go_wp2
        exact ⟨rfl, Or.inr ⟨HNot.out, rfl, _, _, _, HU4.out⟩⟩
end Go.Proofs.YtdbdbaepmdmnfaaGreatDoor
