import Derived.Test.YtdbdbaepmdmnfaaGreatDoorZ42
import Derived.Test.YtdbdbaepmdmnfaaGreatDoorZ40
import Derived.Test.YtdbdbaepmdmnfaaGreatDoorZ34
import Derived.Test.YtdbdbaepmdmnfaaGreatDoorZ33
namespace Go.Proofs.YtdbdbaepmdmnfaaGreatDoor
open Go.RowKit
def vs8 : Array MapEntry := firstVs.push ⟨.string ix, .int .i64 7, 7⟩
def C1 : Nat → World → Value → Prop := fun B w v => ConstE B w v 1 1 ⟨#[]⟩
def J1 : Nat → World → Value → Prop := SetK (VarK 7) C1
def J2 : Nat → World → Value → Prop := LeK (VarK 7) (VarK 1)
def J3 : Nat → World → Value → Prop := AddK (VarK 7) C1
def JP : Nat → World → Value → Prop := StF (PrintK (FieldK (VarK 7)))
def KB : Nat → World → Value → Prop := BlockK (fun _ => JP) 1
def JF : Nat → World → Value → Prop := SetK (FieldK C1) (FieldK C1)
/-- The statements, made. -/
def K3 : Nat → Nat → World → Value → Prop
  | 0 => StF (PrintK (VarK 1))
  | 1 => StF (LoopK J1 J2 J3 KB)
  | 2 => StF (WorkK JF)
  | 3 => StF PrintF
  | _ => StF (PrintK (VarK 1))
def vss3 : Nat → Array MapEntry
  | 0 => firstVs
  | 1 => firstVs
  | _ => vs8
theorem num_nf1 : NumOK NFx 1 firstVs firstVs := num_known NFx 1 1 firstVs rfl rfl
theorem num_nf2 : NumOK NFx 1 vs8 vs8 := num_known NFx 1 1 vs8 rfl rfl
theorem num_i1 : NumOK ix 7 firstVs vs8 := num_new ix firstVs rfl rfl
theorem num_i2 : NumOK ix 7 vs8 vs8 := num_known ix 7 7 vs8 rfl rfl
theorem c1_keeps : KeepsE C1 := const_keeps 1 1 ⟨#[]⟩
theorem k3_keeps : ∀ i, i < 5 → Keeps (K3 i)
  | 0, _ => st_keeps (printK_keeps (vark_keeps 1))
  | 1, _ => st_keeps (loopK_keeps (setk_keeps (vark_keeps 7) c1_keeps) (lek_keeps (vark_keeps 7) (vark_keeps 1)) (addk_keeps (vark_keeps 7) c1_keeps) (blockK_keeps (fun _ _ => st_keeps (printK_keeps (fieldk_keeps (vark_keeps 7))))))
  | 2, _ => st_keeps (workK_keeps (setk_keeps (fieldk_keeps c1_keeps) (fieldk_keeps c1_keeps)))
  | 3, _ => st_keeps print_keeps
  | 4, _ => st_keeps (printK_keeps (vark_keeps 1))
theorem mk5 (W : World) : (Instr.makeSlice 132 (.int .i64 5) (.int .i64 5)).run Tryz.prog W = .ok (.slice (some ⟨W.heap.size, 0, none⟩) 5 5) (W.alloc (.cells (Array.replicate 5 .nilFunc) 185)) := by kernel_rfl
theorem mk1 (W : World) : (Instr.makeSlice 132 (.int .i64 1) (.int .i64 1)).run Tryz.prog W = .ok (.slice (some ⟨W.heap.size, 0, none⟩) 1 1) (W.alloc (.cells (Array.replicate 1 .nilFunc) 185)) := by kernel_rfl
theorem ta_print_block (v : Value) (w : World) : (Instr.typeAssert (.iface 285 v) 235 95 true).run Tryz.prog w = .ok (.tuple #[.slice none 0 0, .bool false]) w := by kernel_rfl
theorem ta_print_empty (v : Value) (w : World) : (Instr.typeAssert (.iface 285 v) 235 334 true).run Tryz.prog w = .ok (.tuple #[.agg #[], .bool false]) w := by kernel_rfl
theorem ta_work_block (v : Value) (w : World) : (Instr.typeAssert (.iface 350 v) 235 95 true).run Tryz.prog w = .ok (.tuple #[.slice none 0 0, .bool false]) w := by kernel_rfl
theorem ta_work_empty (v : Value) (w : World) : (Instr.typeAssert (.iface 350 v) 235 334 true).run Tryz.prog w = .ok (.tuple #[.agg #[], .bool false]) w := by kernel_rfl
theorem row_ne {w : World} {B z n : Nat} {e : TypeId} {g cap mv : Nat} {xs : List Value} (h : w.ownsRow B e z (.slice (some ⟨g, 0, none⟩) n cap) n xs) {m : Array MapEntry} {k : Nat} (hm : w.heap[mv]? = some (.map m k)) : g ≠ mv := by
  rintro rfl
  rcases h.2 with ⟨h1, _⟩ | ⟨g', cap', cur, h', _, hg, _⟩
  · simp at h1
  · simp only [Value.slice.injEq, Option.some.injEq, Addr.mk.injEq, and_true, true_and] at h'
    obtain ⟨rfl, _⟩ := h'
    rw [hm] at hg
    simp at hg
/-- A print of one expression, made as a statement. -/
theorem stmt_print (pb : Nat) (t : TypeId) (u : Value) (I : Nat → World → Value → Prop) (hI : KeepsE I) (vs vs' : Array MapEntry) (hE : MakesE (.iface t u) I vs vs') (kb mv ma mf sg : Nat) (w : World) {m : Array MapEntry} {k : Nat} (hm : w.heap[mv]? = some (.map m k)) (v : Value) (h : PrintL pb [.iface t u] w v) : MadeS 126 kb mv ma mf sg w v (StF (PrintK I)) vs vs' := by
  obtain ⟨r, rfl, hr, _⟩ := h
  obtain ⟨g, cap, rfl, hgl, hc⟩ := own_at hr (by simp)
  have hgm := row_ne hr hm
  exact made_stmt kb mv ma mf sg w 285 _ _ (printK_keeps hI) vs vs' (ta_print_block _) (ta_print_empty _) (fun W hW hO => made_print t u I hI vs vs' hE kb mv ma mf sg g cap W hW.v ((hO.cell (p := ⟨g, 0, none⟩) hgl hgm).trans (hc 0 _ rfl)) W hW (Only.refl _ _))
theorem kb_keeps : Keeps KB := blockK_keeps (fun _ _ => st_keeps (printK_keeps (fieldk_keeps (vark_keeps 7))))
/-- The program's statements are made. -/
theorem stmts_made3 (pb kb mv ma mf sg : Nat) (w : World) {m : Array MapEntry} {k : Nat} (hm : w.heap[mv]? = some (.map m k)) : ∀ (i : Nat) (e : Value), i < 5 → V3 pb i w e → MadeS 126 kb mv ma mf sg w e (K3 i) (vss3 i) (vss3 (i + 1))
  | 0, e, _, h => stmt_print pb _ _ (VarK 1) (vark_keeps 1) _ _ (makesE_name NFx 8 1 _ _ num_nf1) kb mv ma mf sg w hm e h
  | 1, e, _, h => by
    obtain ⟨b, rfl, es, hl, hr, hp, hv⟩ := h
    obtain ⟨g, cap, rfl, hgl, hc⟩ := own_at hr (by omega)
    have hgm := row_ne hr hm
    obtain ⟨x, rfl⟩ : ∃ x, es = [x] := by
      match es, hl with
      | [x], _ => exact ⟨x, rfl⟩
    have hpx := hv 0 x rfl
    have hB : MadeS 91 kb mv ma mf sg w (.slice (some ⟨g, 0, none⟩) 1 cap) KB vs8 vs8 := made_block kb mv ma mf sg w (fun _ => JP) (fun _ => vs8) [x] (fun _ _ => st_keeps (printK_keeps (fieldk_keeps (vark_keeps 7)))) (by simp) g cap hgl hgm mk1 (fun i e he => by
        obtain ⟨r, rfl, _⟩ := hpx
        cases i with
        | zero => cases he; exact ⟨_, _, rfl⟩
        | succ i => simp at he) (fun i e he => hc i e he) (fun i e he => by
        cases i with
        | zero => cases he; exact stmt_print pb _ _ (FieldK (VarK 7)) (fieldk_keeps (vark_keeps 7)) vs8 vs8 (makesE_field _ _ (VarK 7) (vark_keeps 7) vs8 vs8 (makesE_name ix 48 7 _ _ num_i2)) kb mv ma mf sg w hm x hpx
        | succ i => simp at he)
    have hL := loop_made _ _ _ _ _ _ J1 J2 J3 KB (setk_keeps (vark_keeps 7) c1_keeps) (lek_keeps (vark_keeps 7) (vark_keeps 1)) (addk_keeps (vark_keeps 7) c1_keeps) kb_keeps firstVs vs8 vs8 vs8 vs8
      (makesE_set _ _ _ _ (VarK 7) C1 (vark_keeps 7) c1_keeps firstVs vs8 vs8 (makesE_name ix 17 7 _ _ num_i1) (makesE_num 1 vs8))
      (makesE_le _ _ _ _ (VarK 7) (VarK 1) (vark_keeps 7) (vark_keeps 1) vs8 vs8 vs8 (makesE_name ix 24 7 _ _ num_i2) (makesE_name NFx 29 1 _ _ num_nf2))
      (makesE_add _ _ _ _ (VarK 7) C1 (vark_keeps 7) c1_keeps vs8 vs8 vs8 (makesE_name ix 33 7 _ _ num_i2) (makesE_num 1 vs8))
      g 1 cap kb mv ma mf sg w hB
    exact made_stmt kb mv ma mf sg w 295 _ _ (loopK_keeps (setk_keeps (vark_keeps 7) c1_keeps) (lek_keeps (vark_keeps 7) (vark_keeps 1)) (addk_keeps (vark_keeps 7) c1_keeps) kb_keeps) _ _ (tf_block _) (tf_empty _) (made_for _ (loopK_keeps (setk_keeps (vark_keeps 7) c1_keeps) (lek_keeps (vark_keeps 7) (vark_keeps 1)) (addk_keeps (vark_keeps 7) c1_keeps) kb_keeps) _ _ _ _ _ _ _ _ _ 1 cap kb mv ma mf sg w hL)
  | 2, e, _, h => by
    obtain ⟨u, rfl, rfl⟩ := h
    exact made_stmt kb mv ma mf sg w 350 _ _ (workK_keeps (setk_keeps (fieldk_keeps c1_keeps) (fieldk_keeps c1_keeps))) vs8 vs8 (ta_work_block _) (ta_work_empty _) (made_work _ _ JF (setk_keeps (fieldk_keeps c1_keeps) (fieldk_keeps c1_keeps)) vs8 vs8 (makesE_set _ _ _ _ (FieldK C1) (FieldK C1) (fieldk_keeps c1_keeps) (fieldk_keeps c1_keeps) vs8 vs8 vs8 (makesE_field _ _ C1 c1_keeps vs8 vs8 (makesE_num 1 vs8)) (makesE_field _ _ C1 c1_keeps vs8 vs8 (makesE_num 1 vs8))) kb mv ma mf sg w)
  | 3, e, _, h => by
    obtain rfl : e = printV := h
    exact made_stmt kb mv ma mf sg w 285 _ _ print_keeps vs8 vs8 (ta_print_block _) (ta_print_empty _) (made_bare kb mv ma mf sg w vs8)
  | 4, e, _, h => stmt_print pb _ _ (VarK 1) (vark_keeps 1) _ _ (makesE_name NFx 73 1 _ _ num_nf2) kb mv ma mf sg w hm e h
/-- The program's block is made. -/
theorem body_made3 (pb kb mv ma mf sg r cap : Nat) (w : World) {m : Array MapEntry} {k : Nat} (hm : w.heap[mv]? = some (.map m k)) (h : B3 pb w (.slice (some ⟨r, 0, none⟩) 5 cap)) : MadeS 91 kb mv ma mf sg w (.slice (some ⟨r, 0, none⟩) 5 cap) (BlockK K3 5) firstVs vs8 := by
  obtain ⟨es, hl, hr, _, hv⟩ := h
  obtain ⟨g, cap2, e, hgl, hc⟩ := own_at hr (by omega)
  have hgm := row_ne hr hm
  obtain ⟨rfl, rfl⟩ : r = g ∧ cap = cap2 := by
    injection e with e1 _ e2
    injection e1 with e1
    injection e1 with e1
    exact ⟨e1, e2⟩
  have hmk : ∀ W, (Instr.makeSlice 132 (.int .i64 es.length) (.int .i64 es.length)).run Tryz.prog W = .ok (.slice (some ⟨W.heap.size, 0, none⟩) es.length es.length) (W.alloc (.cells (Array.replicate es.length .nilFunc) 185)) := by rw [hl]; exact mk5
  have := made_block kb mv ma mf sg w K3 vss3 es (fun i hi => k3_keeps i (by omega)) (by omega) r cap hgl hgm hmk (fun i e he => v3_if pb i (by have := (List.getElem?_eq_some_iff.1 he).1; omega) w e (hv i e he)) (fun i e he => hc i e he) (fun i e he => stmts_made3 pb kb mv ma mf sg w hm i e (by have := (List.getElem?_eq_some_iff.1 he).1; omega) (hv i e he))
  rw [hl] at this
  exact this
end Go.Proofs.YtdbdbaepmdmnfaaGreatDoor

namespace Go.Proofs.YtdbdbaepmdmnfaaGreatDoor
open Go.RowKit
/-- The variables: NR is 1, NF is n; i is what the last three cells tell. -/
def csN (n : Nat) (a k : Int) : List Value := [.int .i64 1, .int .i64 1, .string ⟨#[]⟩, .int .i64 1, .int .i64 n, .string ⟨#[]⟩, .int .i64 2, .int .i64 0, .string ⟨#[32]⟩, .int .i64 2, .int .i64 0, .string ⟨#[32]⟩, .int .i64 2, .int .i64 0, .string ⟨#[10]⟩, .int .i64 1, .int .i64 0, .string ⟨#[]⟩, .int .i64 1, .int .i64 (-1), .string ⟨#[]⟩, .int .i64 a, .int .i64 k, .string ⟨#[]⟩]
/-- A state of the program's run. -/
def stN (txt : ByteArray) (L : List (List UInt8)) (n : Nat) (a k : Int) (o : List UInt8) (f : Nat) : St8 := ⟨txt, L, csN n a k, ofB o, f⟩
theorem ofB_app (a b : List UInt8) : ofB a ++ ofB b = ofB (a ++ b) := by
  apply ByteArray.ext
  rw [ByteArray.data_append]
  apply Array.toList_inj.1
  simp [ofB]
theorem ofB_len (l : List UInt8) : (ofB l).size = l.length := by show l.toArray.size = _; simp
theorem ofB_nl (o x : List UInt8) : ofB o ++ (ofB x ++ ⟨#[10]⟩) = ofB (o ++ x ++ [10]) := by
  show ofB o ++ (ofB x ++ ofB [10]) = _
  rw [ofB_app, ofB_app, List.append_assoc]
/-- print NF. -/
theorem does_nf (p : Pl8) (htab : Lib.TabIs Tryz.prog p.wN "internal/strconv.uint64pow10" .u64 Lib.pow10Tab) (txt : ByteArray) (L : List (List UInt8)) (n : Nat) (hn : n ≤ 1000) (hd : (Lib.decDigits n).length ≤ 30) (a k : Int) (o : List UInt8) (ho : o.length ≤ 3000) (f : Nat) (hf : f ≤ 100000) (B : Nat) (v : Value) (h : StF (PrintK (VarK 1)) B p.wN v) : Does p (stN txt L n a k o (f + 1)) (stN txt L n a k (o ++ Lib.decDigits n ++ [10]) f) v := by
  refine does_step p (stN txt L n a k o f) _ f hf B (PrintK (VarK 1)) v h (fun x hx => ?_)
  have hi : (Lib.itoa (n : Int)) = Lib.decDigits n := Lib.itoa_nonneg n
  have := does_print p (stN txt L n a k o f) B (VarK 1) x hx 1 n ⟨#[]⟩ (ofB (Lib.decDigits n)) (fun x y hv => ⟨gives_var p _ 1 B x y hv (by omega) 1 n ⟨#[]⟩ rfl rfl rfl, by
      obtain ⟨g, nb, e, _⟩ := hv
      exact ⟨_, _, (agg_two e).2⟩⟩) (fun W hW => by
      have := text_num n (by omega) ⟨#[]⟩ W (tab_only htab hW.O)
      rw [hi] at this
      exact this) (by rw [ofB_len]; omega) (by show (ofB o).size + _ + 1 ≤ 4000; rw [ofB_len, ofB_len]; omega) rfl rfl rfl rfl rfl rfl
  have e : (stN txt L n a k (o ++ Lib.decDigits n ++ [10]) f) = { stN txt L n a k o f with out := (stN txt L n a k o f).out ++ (ofB (Lib.decDigits n) ++ ⟨#[10]⟩) } := by
    show _ = St8.mk txt L (csN n a k) (ofB o ++ (ofB (Lib.decDigits n) ++ ⟨#[10]⟩)) f
    rw [ofB_nl]
    rfl
  rw [e]
  exact this
/-- print. -/
theorem does_rec (p : Pl8) (t : List UInt8) (ht : t.length ≤ 900) (L : List (List UInt8)) (n : Nat) (a k : Int) (o : List UInt8) (ho : o.length ≤ 3000) (f : Nat) (hf : f ≤ 100000) (B : Nat) (v : Value) (h : StF PrintF B p.wN v) : Does p (stN (ofB t) L n a k o (f + 1)) (stN (ofB t) L n a k (o ++ t ++ [10]) f) v := by
  refine does_step p (stN (ofB t) L n a k o f) _ f hf B PrintF v h (fun x hx => ?_)
  have := does_bare p (stN (ofB t) L n a k o f) B x hx (by show (ofB t).size ≤ 900; rw [ofB_len]; exact ht) (by show (ofB o).size + (ofB t).size + 1 ≤ 4000; rw [ofB_len, ofB_len]; omega) rfl rfl rfl
  have e : (stN (ofB t) L n a k (o ++ t ++ [10]) f) = { stN (ofB t) L n a k o f with out := (stN (ofB t) L n a k o f).out ++ ((stN (ofB t) L n a k o f).txt ++ ⟨#[10]⟩) } := by
    show _ = St8.mk (ofB t) L (csN n a k) (ofB o ++ (ofB t ++ ⟨#[10]⟩)) f
    rw [ofB_nl]
    rfl
  rw [e]
  exact this
/-- What i gives. -/
theorem gives_i (p : Pl8) (txt : ByteArray) (L : List (List UInt8)) (n : Nat) (a k : Int) (o : List UInt8) (f B : Nat) (x y : Value) (h : VarK 7 B p.wN (.agg #[x, y])) : Gives p (stN txt L n a k o f) x (.agg #[.int .i64 a, .int .i64 k, .string ⟨#[]⟩]) :=
  gives_var p _ 7 B x y h (by omega) a k ⟨#[]⟩ rfl rfl rfl
theorem rdK_ne (t : ByteArray) : (rdK t == 1) = false := by unfold rdK; split <;> rfl
/-- print $i. -/
theorem does_field (p : Pl8) (txt : ByteArray) (L : List (List UInt8)) (hL : L.length ≤ 39) (n i : Nat) (x : List UInt8) (hx : L[i]? = some x) (hxl : x.length ≤ 500) (o : List UInt8) (ho : o.length ≤ 3000) (f : Nat) (hf : f ≤ 100000) (B : Nat) (v : Value) (h : JP B p.wN v) : Does p (stN txt L n 1 ((i + 1 : Nat) : Int) o (f + 1)) (stN txt L n 1 ((i + 1 : Nat) : Int) (o ++ x ++ [10]) f) v := by
  have hil : i < L.length := (List.getElem?_eq_some_iff.1 hx).1
  refine does_step p (stN txt L n 1 ((i + 1 : Nat) : Int) o f) _ f hf B (PrintK (FieldK (VarK 7))) v h (fun z hz => ?_)
  have := does_print p (stN txt L n 1 ((i + 1 : Nat) : Int) o f) B (FieldK (VarK 7)) z hz (rdK (ofB x)) (rdN (ofB x)) (ofB x) (ofB x) (fun x' y' hv => ⟨gives_field p _ (VarK 7) B x' y' hv (i + 1) (by omega) 1 (by decide) ⟨#[]⟩ (fun x2 y2 h2 => gives_i p txt L n 1 ((i + 1 : Nat) : Int) o f B x2 y2 h2) _ _ _ (takes_field p _ i x hx (by show L.length ≤ 40; omega) hxl), by
      obtain ⟨nb, g, _, _, e, _⟩ := hv
      exact ⟨_, _, (agg_two e).2⟩⟩) (fun W _ => (text_any _ _ (ofB x) W (rdK_ne _)).mono (fun _ _ h => ⟨h.1, Only.ofBelow h.2 (fun _ => False)⟩)) (by rw [ofB_len]; omega) (by show (ofB o).size + _ + 1 ≤ 4000; rw [ofB_len, ofB_len]; omega) rfl rfl rfl rfl rfl rfl
  have e : (stN txt L n 1 ((i + 1 : Nat) : Int) (o ++ x ++ [10]) f) = { stN txt L n 1 ((i + 1 : Nat) : Int) o f with out := (stN txt L n 1 ((i + 1 : Nat) : Int) o f).out ++ (ofB x ++ ⟨#[10]⟩) } := by
    show _ = St8.mk txt L (csN n 1 ((i + 1 : Nat) : Int)) (ofB o ++ (ofB x ++ ⟨#[10]⟩)) f
    rw [ofB_nl]
    rfl
  rw [e]
  exact this
end Go.Proofs.YtdbdbaepmdmnfaaGreatDoor

namespace Go.Proofs.YtdbdbaepmdmnfaaGreatDoor
open Go.RowKit
/-- i = 1. -/
theorem works_first (p : Pl8) (txt : ByteArray) (L : List (List UInt8)) (n : Nat) (a k : Int) (o : List UInt8) (f B : Nat) (x y : Value) (h : J1 B p.wN (.agg #[x, y])) : ∃ r, Works p (stN txt L n a k o f) (stN txt L n 1 ((0 + 1 : Nat) : Int) o f) x r := by
  obtain ⟨lb, rb, x1, y1, x2, y2, e, _, hl, hr, h1, h2⟩ := h
  obtain ⟨rfl, _⟩ := agg_two e
  exact ⟨_, works_setG p (stN txt L n a k o f) (stN txt L n 1 ((0 + 1 : Nat) : Int) o f) 308 310 7 lb rb x1 y1 x2 y2 1 1 ⟨#[]⟩ hl hr (finds_var p _ 7 B x1 y1 h1) (gives_num p _ B 1 x2 y2 h2) (stores_var p (stN txt L n a k o f) 7 (by omega) (by omega) 1 1 ⟨#[]⟩ _ _ _ rfl rfl rfl)⟩
/-- i += 1. -/
theorem works_next (p : Pl8) (txt : ByteArray) (L : List (List UInt8)) (n i : Nat) (hi : i ≤ 1000) (o : List UInt8) (f B : Nat) (x y : Value) (h : J3 B p.wN (.agg #[x, y])) : ∃ r, Works p (stN txt L n 1 ((i + 1 : Nat) : Int) o f) (stN txt L n 1 ((i + 1 + 1 : Nat) : Int) o f) x r := by
  obtain ⟨lb, rb, kb, ob, x1, y1, x2, y2, e, _, hl, hr, hk, hob, h1, h2⟩ := h
  obtain ⟨rfl, _⟩ := agg_two e
  have hs : StoresK p (stN txt L n 1 ((i + 1 : Nat) : Int) o f) (stN txt L n 1 ((i + 1 + 1 : Nat) : Int) o f) 310 7 (.agg #[.int .i64 1, .int .i64 (((i + 1 : Nat) : Int) + ((1 : Nat) : Int)), .string ⟨#[]⟩]) := by
    have := stores_var p (stN txt L n 1 ((i + 1 : Nat) : Int) o f) 7 (by omega) (by omega) 1 (((i + 1 : Nat) : Int) + ((1 : Nat) : Int)) ⟨#[]⟩ _ _ _ rfl rfl rfl
    exact this
  exact ⟨_, works_addG p (stN txt L n 1 ((i + 1 : Nat) : Int) o f) (stN txt L n 1 ((i + 1 + 1 : Nat) : Int) o f) 308 310 7 lb rb kb ob x1 y1 x2 y2 (i + 1) 1 (by omega) (by omega) ⟨#[]⟩ ⟨#[]⟩ hl hr hk hob (finds_var p _ 7 B x1 y1 h1) (takes_var p (stN txt L n 1 ((i + 1 : Nat) : Int) o f) 7 (by omega) 1 ((i + 1 : Nat) : Int) ⟨#[]⟩ rfl rfl rfl) (gives_num p _ B 1 x2 y2 h2) hs⟩
/-- i <= NF. -/
theorem gives_cond (p : Pl8) (txt : ByteArray) (L : List (List UInt8)) (n i : Nat) (o : List UInt8) (f B : Nat) (x y : Value) (h : J2 B p.wN (.agg #[x, y])) : Gives p (stN txt L n 1 ((i + 1 : Nat) : Int) o f) x (.agg #[.int .i64 1, .int .i64 (if decide (((i + 1 : Nat) : Int) ≤ (n : Int)) = true then 1 else 0), .string ⟨#[]⟩]) ∧ (y = .nilFunc ∨ ∃ F c, y = .func (.func F) #[] c) := by
  obtain ⟨tb, lb, hb, rb, x1, y1, x2, y2, e, _, ht, hl, hh, hr, h1, h2⟩ := h
  obtain ⟨rfl, rfl⟩ := agg_two e
  exact ⟨gives_leG p (stN txt L n 1 ((i + 1 : Nat) : Int) o f) tb lb hb rb x1 y1 x2 y2 1 ((i + 1 : Nat) : Int) 1 n ⟨#[]⟩ ⟨#[]⟩ (by decide) (by decide) ht hl hh hr (gives_i p txt L n 1 ((i + 1 : Nat) : Int) o f B x1 y1 h1) (gives_var p _ 1 B x2 y2 h2 (by omega) 1 n ⟨#[]⟩ rfl rfl rfl), Or.inl rfl⟩
/-- The loop's states. -/
def stU (txt : ByteArray) (L : List (List UInt8)) (o : List UInt8) (f k : Nat) : St8 := stN txt L L.length 1 ((k + 1 : Nat) : Int) (o ++ linesOf (L.take k)) (f + 2 * (L.length - k))
def stV (txt : ByteArray) (L : List (List UInt8)) (o : List UInt8) (f k : Nat) : St8 := stN txt L L.length 1 ((k + 1 : Nat) : Int) (o ++ linesOf (L.take (k + 1))) (f + 2 * (L.length - k) - 1)
theorem does_for (p : Pl8) (txt : ByteArray) (L : List (List UInt8)) (hL : L.length ≤ 39) (hx : ∀ x ∈ L, x.length ≤ 500) (a k : Int) (o : List UInt8) (ho : o.length + (linesOf L).length ≤ 3000) (f : Nat) (hf : f ≤ 50000) (B : Nat) (v : Value) (h : LoopK J1 J2 J3 KB B p.wN v) : Does p (stN txt L L.length a k o (f + 2 * L.length + 1)) (stN txt L L.length 1 ((L.length + 1 : Nat) : Int) (o ++ linesOf L) f) v := by
  have key := does_loop p (stN txt L L.length a k o (f + 2 * L.length + 1)) (stU txt L o f) (stV txt L o f) L.length B J1 J2 J3 KB v h (fun i hi => by show f + 2 * (L.length - i) ≤ 100000; omega) (fun i => if decide (((i + 1 : Nat) : Int) ≤ (L.length : Int)) = true then 1 else 0) (fun i hi => by
      rw [if_pos (by simp; omega)]
      decide) (by rw [if_neg (by simp; omega)])
    (fun x y h1 => by
      have := works_first p txt L L.length a k o (f + 2 * L.length + 1) B x y h1
      have e : (stU txt L o f 0).more = stN txt L L.length 1 ((0 + 1 : Nat) : Int) o (f + 2 * L.length + 1) := by
        unfold stU St8.more stN
        simp [linesOf]
      rw [e]
      exact this)
    (fun i x y hi h2 => gives_cond p txt L L.length i (o ++ linesOf (L.take i)) (f + 2 * (L.length - i)) B x y h2)
    (fun i x y hi h3 => by
      have := works_next p txt L L.length i (by omega) (o ++ linesOf (L.take (i + 1))) (f + 2 * (L.length - i) - 1) B x y h3
      have e : (stU txt L o f (i + 1)).more = stN txt L L.length 1 ((i + 1 + 1 : Nat) : Int) (o ++ linesOf (L.take (i + 1))) (f + 2 * (L.length - i) - 1) := by
        unfold stU St8.more stN
        simp
        omega
      rw [e]
      exact this)
    (fun i z hi hz => by
      have hxi : L[i]? = some L[i] := List.getElem?_eq_getElem hi
      have hll := linesOf_take L i
      have hD := does_block p (fun j => if j = 0 then stU txt L o f i else stV txt L o f i) B 1 (by omega) (fun _ => JP) z hz (fun j x hj hjx => by
        obtain rfl : j = 0 := by omega
        have := does_field p txt L hL L.length i L[i] hxi (hx _ (List.getElem_mem hi)) (o ++ linesOf (L.take i)) (by rw [List.length_append]; omega) (f + 2 * (L.length - i) - 1) (by omega) B x hjx
        have e1 : stU txt L o f i = stN txt L L.length 1 ((i + 1 : Nat) : Int) (o ++ linesOf (L.take i)) (f + 2 * (L.length - i) - 1 + 1) := by
          unfold stU
          rw [Nat.sub_add_cancel (by omega)]
        have e2 : stV txt L o f i = stN txt L L.length 1 ((i + 1 : Nat) : Int) (o ++ linesOf (L.take i) ++ L[i] ++ [10]) (f + 2 * (L.length - i) - 1) := by
          unfold stV
          rw [jtake_snoc hxi, linesOf_snoc]
          simp
        show Does p (stU txt L o f i) (stV txt L o f i) x
        rw [e1, e2]
        exact this)
      exact hD)
    (fun x y h => by
      obtain ⟨tb, lb, hb, rb, x1, y1, x2, y2, e, _⟩ := h
      exact ⟨_, _, (agg_two e).1⟩)
    (fun x y h => by
      obtain ⟨lb, rb, kb, ob, x1, y1, x2, y2, e, _⟩ := h
      exact ⟨_, _, (agg_two e).1⟩)
    (fun z h => by
      obtain ⟨lc, g, cs, e, _⟩ := h
      exact ⟨_, _, e⟩)
  have e : stU txt L o f L.length = stN txt L L.length 1 ((L.length + 1 : Nat) : Int) (o ++ linesOf L) f := by
    unfold stU
    rw [List.take_length]
    simp
  rw [e] at key
  exact key
/-- What the fields are when the first was stored to itself. -/
def fieldsL (L : List (List UInt8)) : List (List UInt8) := if L = [] then [[]] else L
theorem works_self (p : Pl8) (txt : ByteArray) (L : List (List UInt8)) (hL : L.length ≤ 39) (hx : ∀ x ∈ L, x.length ≤ 500) (hj : (joinsL [32] L).length ≤ 500) (n : Nat) (a k : Int) (o : List UInt8) (f B : Nat) (x y : Value) (h : JF B p.wN (.agg #[x, y])) : ∃ r, Works p (stN txt L n a k o f) (stN (ofB (joinsL [32] L)) (fieldsL L) (fieldsL L).length a k o f) x r := by
  obtain ⟨lb, rb, x1, y1, x2, y2, e, _, hl, hr, h1, h2⟩ := h
  obtain ⟨rfl, _⟩ := agg_two e
  have hn : ∀ x' y', C1 B p.wN (.agg #[x', y']) → Gives p (stN txt L n a k o f) x' (.agg #[.int .i64 1, .int .i64 ((1 : Nat) : Int), .string ⟨#[]⟩]) := fun x' y' h => gives_num p _ B 1 x' y' h
  have hfind := finds_field p (stN txt L n a k o f) C1 B x1 y1 h1 1 (by omega) 1 (by decide) ⟨#[]⟩ hn
  by_cases h0 : L = []
  · have hfl : fieldsL L = [[]] := if_pos h0
    have hjl : joinsL [32] L = [] := by rw [h0]; rfl
    rw [hfl, hjl]
    have hT := takes_nothing p (stN txt L n a k o f) 0 (by show L.length ≤ 0; rw [h0]; exact Nat.le_refl _) (by omega)
    have hG := gives_field p (stN txt L n a k o f) C1 B x2 y2 h2 1 (by omega) 1 (by decide) ⟨#[]⟩ hn 0 0 ⟨#[]⟩ hT
    exact ⟨_, works_setG p (stN txt L n a k o f) (stN (ofB []) [[]] 1 a k o f) 319 321 1 lb rb x1 y1 x2 y2 0 0 ⟨#[]⟩ hl hr hfind hG (stores_none p (stN txt L n a k o f) h0 _ _ _ rfl rfl rfl rfl rfl rfl)⟩
  · have hfl : fieldsL L = L := if_neg h0
    rw [hfl]
    have hlp : 0 < L.length := by
      cases L with
      | nil => exact absurd rfl h0
      | cons => simp
    have hxi : L[0]? = some L[0] := List.getElem?_eq_getElem hlp
    have hT := takes_field p (stN txt L n a k o f) 0 L[0] hxi (by show L.length ≤ 40; omega) (hx _ (List.getElem_mem hlp))
    have hG := gives_field p (stN txt L n a k o f) C1 B x2 y2 h2 1 (by omega) 1 (by decide) ⟨#[]⟩ hn _ _ _ hT
    exact ⟨_, works_setG p (stN txt L n a k o f) (stN (ofB (joinsL [32] L)) L L.length a k o f) 319 321 1 lb rb x1 y1 x2 y2 _ _ _ hl hr hfind hG (stores_first p (stN txt L n a k o f) (by show L.length ≤ 40; omega) _ _ _ rfl rfl rfl rfl rfl rfl L[0] hxi hj _ _ (rdK_ne _))⟩
/-- What the program's block does with a record. -/
theorem body_does (p : Pl8) (htab : Lib.TabIs Tryz.prog p.wN "internal/strconv.uint64pow10" .u64 Lib.pow10Tab) (t : List UInt8) (ht : t.length ≤ 60) (f : Nat) (hf : f ≤ 40000) (B : Nat) (v : Value) (h : BlockK K3 5 B p.wN v) (hdd : ∀ k, k ≤ 400 → (Lib.decDigits k).length ≤ 30) :
    ∃ s', s'.out = ofB (outL (words [] t)) ∧ Does p (stN (ofB t) (words [] t) (words [] t).length 0 0 [] (f + 2 * (words [] t).length + 6)) s' v := by
  obtain ⟨w1, w2, w3⟩ := words_few ht
  have hwl : ∀ x ∈ words [] t, x.length ≤ 500 := fun x hx => by
    have : x.length ≤ (linesOf (words [] t)).length := by
      obtain ⟨a, b, hab⟩ := List.append_of_mem hx
      rw [hab]
      simp [linesOf]
      omega
    omega
  generalize words [] t = L at *
  have hd1 := hdd L.length (by omega)
  have hfl : (fieldsL L).length ≤ 30 := by
    unfold fieldsL
    split
    · simp
    · omega
  have hd2 := hdd (fieldsL L).length (by omega)
  let O1 := ([] : List UInt8) ++ Lib.decDigits L.length ++ [10]
  let O2 := O1 ++ linesOf L
  let O3 := O2 ++ joinsL [32] L ++ [10]
  let O4 := O3 ++ Lib.decDigits (fieldsL L).length ++ [10]
  have l1 : O1.length ≤ 31 := by simp [O1]; omega
  have l2 : O2.length ≤ 92 := by
    have : O2.length = O1.length + (linesOf L).length := List.length_append
    omega
  have l3 : O3.length ≤ 154 := by
    have : O3.length = O2.length + (joinsL [32] L).length + 1 := by simp [O3]; omega
    omega
  refine ⟨stN (ofB (joinsL [32] L)) (fieldsL L) (fieldsL L).length 1 ((L.length + 1 : Nat) : Int) O4 f, ?_, ?_⟩
  · show ofB O4 = ofB (outL L)
    congr 1
    unfold outL
    simp only [O4, O3, O2, O1, List.nil_append]
    by_cases h0 : L = []
    · have h1 : Lib.decDigits 1 = [49] := by rw [Lib.decDigits_one (by omega)]; rfl
      have h2 : (fieldsL L).length = 1 := by unfold fieldsL; rw [if_pos h0]; rfl
      rw [if_pos h0, h2, h1]
    · have h2 : fieldsL L = L := if_neg h0
      rw [if_neg h0, h2]
  · let st : Nat → St8 := fun i => match i with
      | 0 => stN (ofB t) L L.length 0 0 [] (f + 2 * L.length + 6)
      | 1 => stN (ofB t) L L.length 0 0 O1 (f + 2 * L.length + 5)
      | 2 => stN (ofB t) L L.length 1 ((L.length + 1 : Nat) : Int) O2 (f + 3)
      | 3 => stN (ofB (joinsL [32] L)) (fieldsL L) (fieldsL L).length 1 ((L.length + 1 : Nat) : Int) O2 (f + 2)
      | 4 => stN (ofB (joinsL [32] L)) (fieldsL L) (fieldsL L).length 1 ((L.length + 1 : Nat) : Int) O3 (f + 1)
      | _ => stN (ofB (joinsL [32] L)) (fieldsL L) (fieldsL L).length 1 ((L.length + 1 : Nat) : Int) O4 f
    refine does_block p st B 5 (by omega) K3 v h (fun i x hi hx => ?_)
    match i, hi, hx with
    | 0, _, hx => exact does_nf p htab (ofB t) L L.length (by omega) hd1 0 0 [] (by simp) (f + 2 * L.length + 5) (by omega) B x hx
    | 1, _, hx =>
      refine does_step p (stN (ofB t) L L.length 0 0 O1 (f + 2 * L.length + 4)) _ (f + 2 * L.length + 4) (by omega) B (LoopK J1 J2 J3 KB) x hx (fun z hz => ?_)
      have := does_for p (ofB t) L (by omega) hwl 0 0 O1 (by omega) (f + 3) (by omega) B z hz
      rw [show f + 3 + 2 * L.length + 1 = f + 2 * L.length + 4 by omega] at this
      exact this
    | 2, _, hx =>
      refine does_step p (stN (ofB t) L L.length 1 ((L.length + 1 : Nat) : Int) O2 (f + 2)) _ (f + 2) (by omega) B (WorkK JF) x hx (fun z hz => ?_)
      obtain ⟨ec, x', y', e, hB, he, hi⟩ := hz
      obtain ⟨r, hr⟩ := works_self p (ofB t) L (by omega) hwl (by omega) L.length 1 ((L.length + 1 : Nat) : Int) O2 (f + 2) B x' y' hi
      refine does_work p _ _ B (fun B w v => v = .agg #[x', y']) z r ⟨ec, x', y', e, hB, he, rfl⟩ (fun x2 y2 h2 => ?_)
      obtain ⟨rfl, rfl⟩ := agg_two h2
      exact hr
    | 3, _, hx => exact does_rec p (joinsL [32] L) (by omega) (fieldsL L) (fieldsL L).length 1 ((L.length + 1 : Nat) : Int) O2 (by omega) (f + 1) (by omega) B x hx
    | 4, _, hx => exact does_nf p htab (ofB (joinsL [32] L)) (fieldsL L) (fieldsL L).length (by omega) hd2 1 ((L.length + 1 : Nat) : Int) O3 (by omega) f (by omega) B x hx
end Go.Proofs.YtdbdbaepmdmnfaaGreatDoor

