import Derived.Test.YtdbdbaepmdmnfaaGreatDoorZ35
import Derived.Test.YtdbdbaepmdmnfaaGreatDoorZ23
import Derived.Test.YtdbdbaepmdmnfaaGreatDoorZ19
import Derived.Test.YtdbdbaepmdmnfaaGreatDoorZ17
import Derived.Test.YtdbdbaepmdmnfaaGreatDoorZ10
namespace Go.Proofs.YtdbdbaepmdmnfaaGreatDoor
open Go.RowKit
/-- The number 1. -/
theorem parse_one (W : World) : Calls Tryz.prog 497 #[.string ⟨#[49]⟩, .int .i64 10, .int .i64 64] W fun en w' => en = .returned (.tuple #[.int .i64 1, .nilIface]) ∧ Only (fun _ => False) W w' := by
  refine (Tryz.strconv_ParseInt_10_at64_ok ⟨#[49]⟩ (by decide) 1 (by decide) W).mono ?_
  rintro en w' ⟨rfl, h⟩
  refine ⟨rfl, ?_⟩
  rcases h with rfl | ⟨t, rfl⟩
  · exact Only.refl _ _
  · unfold Lib.bytesWorld
    refine ⟨rfl, rfl, rfl, ?_, fun k hk _ => ?_⟩
    · unfold World.freeze
      rw [if_neg (by decide)]
      simp
    · unfold World.freeze
      rw [if_neg (by decide)]
      simp only [Array.getElem?_modify]
      rw [if_neg (by show ¬ W.heap.size = k; omega)]
      exact Below.heap_alloc _ _ _ hk
end Go.Proofs.YtdbdbaepmdmnfaaGreatDoor

namespace Go.Proofs.YtdbdbaepmdmnfaaGreatDoor
open Go.RowKit
set_option maxRecDepth 20000 in
set_option maxHeartbeats 4000000 in
/-- A statement that is a for. -/
theorem stmt_for (pb : Nat) (T : ByteArray) (ge : Bool) (s s0 s1 : TS) (V : World → Value → Prop) (h0 : seen s [123] = false) (ha : seen s [59] = false) (hb : seen s [105, 102] = false) (hc : seen s [119, 104, 105, 108, 101] = false) (hd : seen s [102, 111, 114] = true) (hn : Nx pb T s s0) (h1 : ReadsF 250 pb T ge s0 s1 V) : ReadsF 181 pb T ge s s1 V := by
  intro w h
  have H0 := hide (sees_at pb T s ge ⟨#[123]⟩ false h0 w h)
  have HPa := hide (passes_no pb T s ge ⟨#[59]⟩ ha w h)
  have HPb := hide (passes_no pb T s ge ⟨#[105, 102]⟩ hb w h)
  have HPc := hide (passes_no pb T s ge ⟨#[119, 104, 105, 108, 101]⟩ hc w h)
  have HPd := hide (passes_yes pb T s s0 ge ⟨#[102, 111, 114]⟩ hd hn w h)
  have H1 := hide h1
  clear h h0 ha hb hc hd hn h1
  go_enter Tryz.func181, Tryz.ntmps181
  go_wp2_with fail
  refine (H0.out).mono ?_
  rintro en w1 ⟨rfl, rfl⟩
  go_wp2_with fail
  refine (HPa.out).mono ?_
  rintro en w1 ⟨rfl, rfl⟩
  go_wp2_with fail
  refine (HPb.out).mono ?_
  rintro en w1 ⟨rfl, rfl⟩
  go_wp2_with fail
  refine (HPc.out).mono ?_
  rintro en w1 ⟨rfl, rfl⟩
  go_wp2_with fail
  refine (HPd.out).mono ?_
  rintro en w2 ⟨rfl, hp2, ho2⟩
  have HP2 := hide hp2
  have HO2 := hide ho2
  have hz2 := ho2.size
  clear hp2 ho2
  go_wp2_with fail
  refine (H1.out _ HP2.out).mono ?_
  rintro en w3 ⟨v, rfl, hv, hfr, hp3, ho3⟩
  have Hv := hide hv
  have HFr := hide hfr
  have HP3 := hide hp3
  have HO3 := hide (HO2.out.trans ho3 (fun _ _ e => e))
  clear hv hp3 ho3 H1 H0 HPa HPb HPc hfr
  go_wp2
  go_ret
  exact ⟨_, rfl, Hv.out, fun q hq => by have := HFr.out q hq; omega, HP3.out, HO3.out⟩
theorem forT_stab {pb : Nat} {f c st : Value} {V : World → Value → Prop} (h : Stab pb V) : Stab pb (ForT pb f c st V) := fun w w' _ ⟨b, e, hb⟩ ho => ⟨b, e, block_stab (fun _ _ => h) w w' b hb ho⟩
theorem forT_if {pb : Nat} {f c st : Value} {V : World → Value → Prop} : IsIf (ForT pb f c st V) := fun _ _ ⟨_, e, _⟩ => ⟨_, _, e⟩
theorem forT_stab2 {pb : Nat} {f c st : Value} {V : World → Value → Prop} (h : Stab2 V) : Stab2F (ForT pb f c st V) := by
  rintro w w' v D ⟨b, rfl, vs, h1, h2, h3, h4⟩ ho hD
  refine ⟨b, rfl, vs, h1, ownsRow_of h2 (fun k hk => ho.block k (h2.lt k hk).2 (fun e => (hD k e).2 ⟨_, _, _, b, rfl, hk⟩)), h3, fun i u hu => h w w' u D (h4 i u hu) ho (fun k hk => (hD k hk).1)⟩
theorem forT_stab3 {pb : Nat} {f c st : Value} {V : World → Value → Prop} (h : Stab3 V) : Stab3 (ForT pb f c st V) := fun w w' _ D ⟨b, e, hb⟩ ho hD => ⟨b, e, block_stab3 (fun _ _ => h) w w' b D hb ho hD⟩
theorem store_if (l : Value) (x : ByteArray) (r : Value) : IsIf (Is (storeT l x r)) := fun _ _ h => ⟨_, _, h⟩
def NFx : ByteArray := ⟨#[78, 70]⟩
def ix : ByteArray := ⟨#[105]⟩
def nf1 : Value := nameV NFx 8
def nf2 : Value := nameV NFx 29
def nf3 : Value := nameV NFx 73
def i1 : Value := nameV ix 17
def i2 : Value := nameV ix 24
def i3 : Value := nameV ix 33
def i4 : Value := nameV ix 48
def eqx : ByteArray := ⟨#[61]⟩
def lex : ByteArray := ⟨#[60, 61]⟩
def plx : ByteArray := ⟨#[43, 61]⟩
def eSet1 : Value := storeT i1 eqx (numT 1)
def le1 : Value := binT i2 lex nf2
def add1 : Value := storeT i3 plx (numT 1)
def fi : Value := fieldT i4
def f1 : Value := fieldT (numT 1)
def setF : Value := storeT f1 eqx f1
/-- All levels of an operand of a comparison. -/
theorem joined_ofA (pb : Nat) (T : ByteArray) (ge : Bool) (s s' : TS) (V : World → Value → Prop) (hV : Stab pb V) (he : EndsA s') (hs : seen s [33] = false ∧ seen s [45] = false ∧ seen s [43] = false) (h1 : Reads 496 pb T ge s s' V) : Reads 425 pb T ge s s' V :=
  joined_rdA pb T ge s s' V hV he (sum_rdA pb T ge s s' V hV he (product_rdA pb T ge s s' V hV he (unary_rd pb T ge s s' V hs h1)))
/-- All levels of what is stored into. -/
theorem either_ofB (pb : Nat) (T : ByteArray) (ge : Bool) (s s' : TS) (V : World → Value → Prop) (hV : Stab pb V) (he : EndsB s') (hs : seen s [33] = false ∧ seen s [45] = false ∧ seen s [43] = false) (h1 : Reads 496 pb T ge s s' V) : Reads 182 pb T ge s s' V :=
  either_rdB pb T ge s s' V hV he (both_rdB pb T ge s s' V hV he (matched_rdB pb T ge s s' V hV he (compared_rdB pb T ge s s' V hV he (joined_ofA pb T ge s s' V hV he.a hs h1))))
theorem print3_a (pb : Nat) : Reads 251 pb F3 false f3_1 f3_3 (PrintL pb [nf1]) :=
  simple_print pb F3 false f3_1 f3_2 f3_3 _ (by decide) (nf3_2 pb) (print_list pb F3 f3_2 f3_3 [nf1] (by decide) (by decide) (by decide) (list_one pb F3 true f3_2 f3_3 _ _ (expr_rd pb F3 true f3_2 f3_3 _ true (place_name NFx 8) (is_stab pb _) (ends_of (by decide)) (either_of pb F3 true f3_2 f3_3 _ (is_stab pb _) (ends_of (by decide)) (noSign_of (by decide)) (prim_name pb F3 true f3_2 f3_3 rfl (nf3_3 pb) (by decide)))) (by decide)) (by decide))
theorem rdSet3 (pb : Nat) : Reads 143 pb F3 false f3_6 f3_9 (Is eSet1) :=
  expr_store pb F3 false f3_6 f3_7 f3_8 f3_9 _ _ _ _ (place_name ix 17) (by decide) 0 (by decide) (fun i t h => absurd h (by omega)) (fun t h => by cases h; decide)
    (either_ofB pb F3 false f3_6 f3_7 _ (is_stab pb _) (by unfold EndsB; decide) (noSign_of (by decide)) (prim_name pb F3 false f3_6 f3_7 rfl (nf3_7 pb) (by decide)))
    (nf3_8 pb) (expr_rd pb F3 false f3_8 f3_9 _ false (place_num 1) (is_stab pb _) (ends_of (by decide)) (either_of pb F3 false f3_8 f3_9 _ (is_stab pb _) (ends_of (by decide)) (noSign_of (by decide)) (prim_num pb F3 false f3_8 f3_9 1 rfl (nf3_9 pb) parse_one)))
theorem le3 (pb : Nat) : Reads 143 pb F3 false f3_10 f3_13 (Is le1) := by
  have hc : Reads 428 pb F3 false f3_10 f3_13 (Is le1) := compared_yes pb F3 f3_10 f3_11 f3_12 f3_13 _ _ _ _ 1 (by decide) (fun i t h1 h2 => by
      obtain rfl : i = 0 := by omega
      cases h2; decide) (fun t h => by cases h; decide)
    (joined_ofA pb F3 false f3_10 f3_11 _ (is_stab pb _) (by unfold EndsA; decide) (noSign_of (by decide)) (prim_name pb F3 false f3_10 f3_11 rfl (nf3_11 pb) (by decide)))
    (nf3_12 pb) (joined_ofA pb F3 false f3_12 f3_13 _ (is_stab pb _) (by unfold EndsA; decide) (noSign_of (by decide)) (prim_name pb F3 false f3_12 f3_13 rfl (nf3_13 pb) (by decide)))
  have he : Ends f3_13 := ends_of (by decide)
  exact expr_rd pb F3 false f3_10 f3_13 _ false (place_bin _ _ _) (is_stab pb _) he (either_rd pb F3 false f3_10 f3_13 _ (is_stab pb _) he (both_rd pb F3 false f3_10 f3_13 _ (is_stab pb _) he (matched_rd pb F3 false f3_10 f3_13 _ (is_stab pb _) he hc)))
theorem add3 (pb : Nat) : Reads 143 pb F3 false f3_14 f3_17 (Is add1) :=
  expr_store pb F3 false f3_14 f3_15 f3_16 f3_17 _ _ _ _ (place_name ix 33) (by decide) 1 (by decide) (fun i t h1 h2 => by
      obtain rfl : i = 0 := by omega
      cases h2; decide) (fun t h => by cases h; decide)
    (either_ofB pb F3 false f3_14 f3_15 _ (is_stab pb _) (by unfold EndsB; decide) (noSign_of (by decide)) (prim_name pb F3 false f3_14 f3_15 rfl (nf3_15 pb) (by decide)))
    (nf3_16 pb) (expr_rd pb F3 false f3_16 f3_17 _ false (place_num 1) (is_stab pb _) (ends_of (by decide)) (either_of pb F3 false f3_16 f3_17 _ (is_stab pb _) (ends_of (by decide)) (noSign_of (by decide)) (prim_num pb F3 false f3_16 f3_17 1 rfl (nf3_17 pb) parse_one)))
theorem print3_f (pb : Nat) : Reads 251 pb F3 false f3_18 f3_21 (PrintL pb [fi]) :=
  simple_print pb F3 false f3_18 f3_19 f3_21 _ (by decide) (nf3_19 pb) (print_list pb F3 f3_19 f3_21 [fi] (by decide) (by decide) (by decide) (list_one pb F3 true f3_19 f3_21 _ _ (expr_rd pb F3 true f3_19 f3_21 _ true (place_field _) (is_stab pb _) (ends_of (by decide)) (either_of pb F3 true f3_19 f3_21 _ (is_stab pb _) (ends_of (by decide)) (noSign_of (by decide)) (prim_field pb F3 true f3_19 f3_20 f3_21 _ _ (by decide) (nf3_20 pb) (prim_name pb F3 true f3_20 f3_21 rfl (nf3_21 pb) (by decide))))) (by decide)) (by decide))
theorem setF3 (pb : Nat) : Reads 143 pb F3 false f3_22 f3_27 (Is setF) :=
  expr_store pb F3 false f3_22 f3_24 f3_25 f3_27 _ _ _ _ (place_field _) (by decide) 0 (by decide) (fun i t h => absurd h (by omega)) (fun t h => by cases h; decide)
    (either_ofB pb F3 false f3_22 f3_24 _ (is_stab pb _) (by unfold EndsB; decide) (noSign_of (by decide)) (prim_field pb F3 false f3_22 f3_23 f3_24 _ _ (by decide) (nf3_23 pb) (prim_num pb F3 false f3_23 f3_24 1 rfl (nf3_24 pb) parse_one)))
    (nf3_25 pb) (expr_rd pb F3 false f3_25 f3_27 _ true (place_field _) (is_stab pb _) (ends_of (by decide)) (either_of pb F3 false f3_25 f3_27 _ (is_stab pb _) (ends_of (by decide)) (noSign_of (by decide)) (prim_field pb F3 false f3_25 f3_26 f3_27 _ _ (by decide) (nf3_26 pb) (prim_num pb F3 false f3_26 f3_27 1 rfl (nf3_27 pb) parse_one))))
theorem print3_z (pb : Nat) : Reads 251 pb F3 false f3_30 f3_32 (PrintL pb [nf3]) :=
  simple_print pb F3 false f3_30 f3_31 f3_32 _ (by decide) (nf3_31 pb) (print_list pb F3 f3_31 f3_32 [nf3] (by decide) (by decide) (by decide) (list_one pb F3 true f3_31 f3_32 _ _ (expr_rd pb F3 true f3_31 f3_32 _ true (place_name NFx 73) (is_stab pb _) (ends_of (by decide)) (either_of pb F3 true f3_31 f3_32 _ (is_stab pb _) (ends_of (by decide)) (noSign_of (by decide)) (prim_name pb F3 true f3_31 f3_32 rfl (nf3_32 pb) (by decide)))) (by decide)) (by decide))
/-- The statements. -/
def V3 (pb : Nat) : Nat → World → Value → Prop
  | 0 => PrintL pb [nf1]
  | 1 => ForT pb eSet1 le1 add1 (PrintL pb [fi])
  | 2 => WorkT (Is setF)
  | 3 => Is printV
  | _ => PrintL pb [nf3]
def S3 : Nat → TS
  | 0 => f3_1
  | 1 => f3_4
  | 2 => f3_22
  | 3 => f3_28
  | 4 => f3_30
  | _ => f3_33
theorem for3 (pb : Nat) : ReadsF 181 pb F3 false f3_4 f3_22 (V3 pb 1) :=
  stmt_for pb F3 false f3_4 f3_5 f3_22 _ (by decide) (by decide) (by decide) (by decide) (by decide) (nf3_5 pb)
    (counting_rd pb F3 false f3_5 f3_6 f3_9 f3_10 f3_13 f3_14 f3_17 f3_18 f3_22 _ _ _ _ _ _ (by decide) (nf3_6 pb) (by decide) (rdSet3 pb) (by decide) (nf3_10 pb) (by decide) (le3 pb) (by decide) (nf3_14 pb) (by decide) (add3 pb) (by decide) (nf3_18 pb)
      (body_one pb F3 false f3_18 f3_22 _ (printL_if pb _) (printL_stab2 pb _) (by decide) (stmt_semi pb F3 false f3_18 f3_21 f3_22 _ (printL_stab pb _) (noComp_of (by decide)) (print3_f pb) (by decide) (by decide) (nf3_22 pb))))
theorem printL_nofor (pb : Nat) (vs : List Value) (w : World) (v : Value) (q : Nat) (h : PrintL pb vs w v) : ¬ forRow v q := by
  obtain ⟨r, rfl, _⟩ := h
  rintro ⟨f, c, st, b, e, _⟩
  cases e
theorem stmts3 (pb : Nat) : ∀ i, i < 5 → ReadsF 181 pb F3 false (S3 i) (S3 (i + 1)) (V3 pb i)
  | 0, _ => (stmt_semi pb F3 false f3_1 f3_3 f3_4 _ (printL_stab pb _) (noComp_of (by decide)) (print3_a pb) (by decide) (by decide) (nf3_4 pb)).f (printL_nofor pb _)
  | 1, _ => for3 pb
  | 2, _ => (stmt_semi pb F3 false f3_22 f3_27 f3_28 _ (work_stab (is_stab pb _)) (noComp_of (by decide)) (simple_work pb F3 false f3_22 f3_27 _ (store_if _ _ _) (noWord_of (by decide)) (setF3 pb)) (by decide) (by decide) (nf3_28 pb)).f (fun w v q h => by
      obtain ⟨u, rfl, _⟩ := h
      rintro ⟨f, c, st, b, e, _⟩
      cases e)
  | 3, _ => (stmt_semi pb F3 false f3_28 f3_29 f3_30 _ (is_stab pb _) (noComp_of (by decide)) (simple_print pb F3 false f3_28 f3_29 f3_29 _ (by decide) (nf3_29 pb) (print_bare pb F3 false f3_29 (Or.inl (by decide)) (by decide))) (by decide) (by decide) (nf3_30 pb)).f (fun w v q h => by
      obtain rfl := h
      rintro ⟨f, c, st, b, e, _⟩
      cases e)
  | 4, _ => (stmt_semi pb F3 false f3_30 f3_32 f3_33 _ (printL_stab pb _) (noComp_of (by decide)) (print3_z pb) (by decide) (by decide) (nf3_33 pb)).f (printL_nofor pb _)
theorem v3_stab (pb : Nat) : ∀ i, i < 5 → Stab pb (V3 pb i)
  | 0, _ => printL_stab pb _
  | 1, _ => forT_stab (printL_stab pb _)
  | 2, _ => work_stab (is_stab pb _)
  | 3, _ => is_stab pb _
  | 4, _ => printL_stab pb _
theorem v3_stab2 (pb : Nat) : ∀ i, i < 5 → Stab2F (V3 pb i)
  | 0, _ => (printL_stab2 pb _).f
  | 1, _ => forT_stab2 (printL_stab2 pb _)
  | 2, _ => (work_stab2 (is_stab2 _)).f
  | 3, _ => (is_stab2 _).f
  | 4, _ => (printL_stab2 pb _).f
theorem v3_if (pb : Nat) : ∀ i, i < 5 → IsIf (V3 pb i)
  | 0, _ => printL_if pb _
  | 1, _ => forT_if
  | 2, _ => work_if
  | 3, _ => fun _ _ h => ⟨_, _, h⟩
  | 4, _ => printL_if pb _
theorem is_stab3' (v : Value) : Stab3 (Is v) := fun _ _ _ _ h _ _ => h
theorem v3_stab3' (pb : Nat) : ∀ i, i < 5 → Stab3 (V3 pb i)
  | 0, _ => printL_stab3 pb _
  | 1, _ => forT_stab3 (printL_stab3 pb _)
  | 2, _ => fun w w' _ D ⟨u, e, hu⟩ ho hD => ⟨u, e, is_stab3' _ w w' u D hu ho hD⟩
  | 3, _ => is_stab3' _
  | 4, _ => printL_stab3 pb _
/-- The tree of the program's one block. -/
def B3 (pb : Nat) : World → Value → Prop := BlockT pb 5 (V3 pb)
theorem b3_stab3 (pb : Nat) : Stab3 (B3 pb) := block_stab3 (fun i hi => v3_stab3' pb i hi)
theorem b3_sl (pb : Nat) : IsSl (B3 pb) := block_sl _ _ _
theorem block3 (pb : Nat) : Reads 142 pb F3 false f3_0 f3_34 (B3 pb) :=
  block_rdG pb F3 false f3_0 5 (by omega) S3 f3_34 (V3 pb) (v3_stab pb) (v3_stab2 pb) (v3_if pb) (by decide) (nf3_1 pb) (stmts3 pb) (fun i hi => by
    match i, hi with
    | 0, _ => decide
    | 1, _ => decide
    | 2, _ => decide
    | 3, _ => decide
    | 4, _ => decide) (by decide) (nf3_34 pb)
theorem prog3 (pb : Nat) (w : World) (h : PAt w pb F3 f3_0 false) : Calls Tryz.prog 74 #[.pointer (some ⟨pb, 0, none⟩)] w fun en w' => ∃ v, en = .returned v ∧ ProgT 0 (B3 pb) w' v ∧ PAt w' pb F3 f3_34 false ∧ Only (fun k => k = pb) w w' :=
  program_one pb F3 f3_0 f3_34 0 _ (b3_sl pb) (b3_stab3 pb) (by decide) (by decide) (fun W hW => rule_main pb F3 false f3_0 f3_34 _ (b3_sl pb) (b3_stab3 pb) (by decide) (by decide) (by decide) (block3 pb) W hW) rfl w h
/-- The program of Fields is read. -/
theorem read3 (w : World) : Calls Tryz.prog 45 #[.string F3] w fun en w' => ∃ pb v, en = .returned (.tuple #[v, .int .i64 0, .bool true]) ∧ ProgT 0 (B3 pb) w' v ∧ Only (fun _ => False) w w' :=
  read_one F3 0 B3 b3_stab3 f3_0 f3_34 nf3_0 prog3 w
end Go.Proofs.YtdbdbaepmdmnfaaGreatDoor

