import Derived.Test.YtdbdbaepmdmnfaaGreatDoorQ31
import Derived.Test.YtdbdbaepmdmnfaaGreatDoorQ14
import Derived.Test.YtdbdbaepmdmnfaaGreatDoorQ09
import Derived.Test.YtdbdbaepmdmnfaaGreatDoorQ29
import Derived.LaidEql
import Derived.Stop.Asserts
import Derived.Lib.Bytealg
import Derived.Deep.QuietTactic
import Derived.BigQuiet
import Derived.WalkLawsBesides
namespace Go.Proofs.YtdbdbaepmdmnfaaGreatDoor
open Go.RowKit Go.Extern.Stop Go.Stop Go.Extern
theorem isTypeOf (v : Value) (w : World) : (Extern.ReflectliteType.typeOf #[.iface 558 v]).run Tryz.prog w = .ok (.iface 266 (.agg #[.pointer (some ⟨14, 558, none⟩)])) w := by kernel_rfl
theorem isEntry : ∃ g : Array Value → Sem Value, Extern.find Tryz.f532 = some g ∧ ∀ w, (g #[.agg #[.pointer (some ⟨14, 558, none⟩)]]).run Tryz.prog w = .ok (.bool true) w :=
  ⟨(Extern.find Tryz.f532).getD fun _ => pure (.bool false), by kernel_rfl, fun w => by kernel_rfl⟩
theorem isMethodComparable (v : Value) (w : World) : (Go.method 690 266 v "Comparable").run Tryz.prog w = .ok (532, v) w := by kernel_rfl
theorem isComp : (Tryz.prog.info? 558).map (·.comparable) = some true := by kernel_rfl
theorem isSize : (Tryz.prog.info? 560).map (·.size) = some 1 := by kernel_rfl
theorem noIsE (v : Value) (xT : TypeId) (w : World) : (Instr.typeAssert (.iface 558 v) xT 268 true).run Tryz.prog w = .ok (.tuple #[.nilIface, .bool false]) w := run_typeAssert_lacksB Tryz.underlying268 (by kernel_rfl) (by kernel_rfl) v xT w
theorem noUnwrapE (v : Value) (xT : TypeId) (w : World) : (Instr.typeAssert (.iface 558 v) xT 271 true).run Tryz.prog w = .ok (.tuple #[.nilIface, .bool false]) w := run_typeAssert_lacksB Tryz.underlying271 (by kernel_rfl) (by kernel_rfl) v xT w
theorem noUnwrapsE (v : Value) (xT : TypeId) (w : World) : (Instr.typeAssert (.iface 558 v) xT 273 true).run Tryz.prog w = .ok (.tuple #[.nilIface, .bool false]) w := run_typeAssert_lacksB Tryz.underlying273 (by kernel_rfl) (by kernel_rfl) v xT w
set_option maxRecDepth 100000 in
set_option maxHeartbeats 1000000 in
theorem is_same (a : Addr) (w : World) :
    Calls Tryz.prog 68 #[.iface 558 (.pointer (some a)), .iface 558 (.pointer (some a))] w fun e w' => e = .returned (.bool true) ∧ w' = w := by
  obtain ⟨i, hi, hcmp⟩ := Option.map_eq_some_iff.1 isComp
  obtain ⟨j, hj, hjs⟩ := Option.map_eq_some_iff.1 isSize
  have h8 := @run_callFunc_extern Tryz.prog 103 _ Extern.ReflectliteType.typeOf Tryz.func103 (by kernel_rfl) (by kernel_rfl) (by kernel_rfl) (by kernel_rfl)
  obtain ⟨g, hg, cT⟩ := isEntry
  have h32 := @run_callFunc_extern Tryz.prog 532 _ g Tryz.func532 (by kernel_rfl) (by kernel_rfl) (by kernel_rfl) hg
  clear hg
  have tT := isTypeOf
  have mR := isMethodComparable
  have heq := run_eql_iface_ptr_same (P := Tryz.prog) w a Tryz.underlying74 Tryz.underlying558 hi hcmp hj
  go_enter Tryz.func68, Tryz.ntmps68
  go_wp2
  refine wp_loop_rounds 1 ?_
  rw [rounds_succ]
  go_wp2
  go_ret
  exact ⟨rfl, rfl⟩
set_option maxRecDepth 100000 in
set_option maxHeartbeats 1000000 in
theorem is_other (a b : Addr) (ca cb : Array Value) (ta tb : TypeId) (w : World) (hne : a ≠ b) (ha : w.heap[a.block]? = some (.cells ca ta (0, 0))) (hb : w.heap[b.block]? = some (.cells cb tb (0, 0))) :
    Calls Tryz.prog 68 #[.iface 558 (.pointer (some a)), .iface 558 (.pointer (some b))] w fun e w' => e = .returned (.bool false) ∧ w' = w := by
  obtain ⟨i, hi, hcmp⟩ := Option.map_eq_some_iff.1 isComp
  obtain ⟨j, hj, hjs⟩ := Option.map_eq_some_iff.1 isSize
  have h8 := @run_callFunc_extern Tryz.prog 103 _ Extern.ReflectliteType.typeOf Tryz.func103 (by kernel_rfl) (by kernel_rfl) (by kernel_rfl) (by kernel_rfl)
  obtain ⟨g, hg, cT⟩ := isEntry
  have h32 := @run_callFunc_extern Tryz.prog 532 _ g Tryz.func532 (by kernel_rfl) (by kernel_rfl) (by kernel_rfl) hg
  clear hg
  have tT := isTypeOf
  have mR := isMethodComparable
  have nE := noIsE
  have uE := noUnwrapE
  have vE := noUnwrapsE
  have heq := run_eql_iface_ptr_other (P := Tryz.prog) w Tryz.underlying74 Tryz.underlying558 hi hcmp hj (by rw [hjs]; decide) hne ha hb
  go_enter Tryz.func68, Tryz.ntmps68
  go_wp2
  refine wp_loop_rounds 1 ?_
  rw [rounds_succ]
  go_wp2
  go_ret
  exact ⟨rfl, rfl⟩
end Go.Proofs.YtdbdbaepmdmnfaaGreatDoor
namespace Go.Proofs.YtdbdbaepmdmnfaaGreatDoor
open Go.RowKit
/-- The program that prints each record. -/
def P1 : ByteArray := ⟨#[123, 32, 112, 114, 105, 110, 116, 32, 125]⟩
def p1a : TS := ⟨1, false, 9, ⟨#[123]⟩, 0⟩
def p1b : TS := ⟨7, false, 7, ⟨#[112, 114, 105, 110, 116]⟩, 2⟩
def p1c : TS := ⟨9, false, 9, ⟨#[125]⟩, 8⟩
def p1d : TS := ⟨9, false, 1, ⟨#[]⟩, 9⟩
theorem np1_1 (pb : Nat) : Nx pb P1 ts0 p1a := nx_sign pb P1 ts0 p1a (by decide) (by decide) (by decide) (cmt (by decide)) (by decide) (by decide) (by decide) (by decide) (by decide) (by decide) (Or.inr (by decide)) (by decide) rfl (by decide) rfl
theorem np1_2 (pb : Nat) : Nx pb P1 p1a p1b := by
  refine nx_of pb P1 p1a p1b (by decide) (by decide) (by decide) (cmt (by decide)) ?_ (by decide)
  refine read_name pb P1 2 false 7 ⟨#[112, 114, 105, 110, 116]⟩ 7 (by decide) (by decide) (by decide) (fun w h => ?_)
  exact name_any pb P1 2 false (by decide) (by decide) w h
theorem np1_3 (pb : Nat) : Nx pb P1 p1b p1c := nx_sign pb P1 p1b p1c (by decide) (by decide) (by decide) (cmt (by decide)) (by decide) (by decide) (by decide) (by decide) (by decide) (by decide) (Or.inl (by decide)) (by decide) rfl (by decide) rfl
theorem np1_4 (pb : Nat) : Nx pb P1 p1c p1d := nx_of pb P1 p1c p1d (by decide) (by decide) (by decide) (cmt (by decide)) (read_end pb P1 false) (by decide)
/-- The tree of the program's one block. -/
def V1 (pb : Nat) : World → Value → Prop := BlockT pb 1 (fun _ => Is printV)
theorem v1_stab3 (pb : Nat) : Stab3 (V1 pb) := block_stab3 (fun _ _ => is_stab3 _)
theorem v1_sl (pb : Nat) : IsSl (V1 pb) := block_sl _ _ _
theorem sp1_0 (pb : Nat) : Reads 181 pb P1 false p1b p1c (Is printV) :=
  stmt_last pb P1 false p1b p1c _ (noComp_of (by decide)) (simple_print pb P1 false p1b p1c p1c _ (by decide) (np1_3 pb) (print_bare pb P1 false p1c (Or.inr ⟨by decide, by decide⟩) (by decide))) (by decide)
theorem blockp1 (pb : Nat) : Reads 142 pb P1 false p1a p1d (V1 pb) :=
  block_rd pb P1 false p1a 1 (by omega) (fun i => if i = 0 then p1b else p1c) p1d (fun _ => Is printV) (fun _ _ => is_stab pb _) (fun _ _ => is_stab2 _) (fun _ _ _ _ h => ⟨_, _, h⟩) (by decide) (np1_2 pb)
    (fun i hi => by
      obtain rfl : i = 0 := by omega
      exact sp1_0 pb)
    (fun i hi => by
      obtain rfl : i = 0 := by omega
      decide) (by decide) (np1_4 pb)
theorem progp1 (pb : Nat) (w : World) (h : PAt w pb P1 p1a false) : Calls Tryz.prog 74 #[.pointer (some ⟨pb, 0, none⟩)] w fun en w' => ∃ v, en = .returned v ∧ ProgT 0 (V1 pb) w' v ∧ PAt w' pb P1 p1d false ∧ Only (fun k => k = pb) w w' :=
  program_one pb P1 p1a p1d 0 _ (v1_sl pb) (v1_stab3 pb) (by decide) (by decide) (fun W hW => rule_main pb P1 false p1a p1d _ (v1_sl pb) (v1_stab3 pb) (by decide) (by decide) (by decide) (blockp1 pb) W hW) rfl w h
theorem readp1 (w : World) : Calls Tryz.prog 45 #[.string P1] w fun en w' => ∃ pb v, en = .returned (.tuple #[v, .int .i64 0, .bool true]) ∧ ProgT 0 (V1 pb) w' v ∧ Only (fun _ => False) w w' :=
  read_one P1 0 V1 v1_stab3 p1a p1d np1_1 progp1 w
theorem checksp1 (pb : Nat) (w : World) (u : Value) (hu : V1 pb w u) : Checks w u none := by
  intro W cb M ho hcb hux
  have hlt : ∀ k, u.ownBlock = some k → k < w.heap.size := by
    obtain ⟨vs', _, h1', _⟩ := hu
    exact fun k hk => (h1'.lt k hk).2
  have hne : u.ownBlock ≠ some cb := fun e => by have := hlt cb e; omega
  obtain ⟨vs, hl, h1, h3, h4⟩ := v1_stab3 pb w W u (fun _ => False) hu ho (fun _ e => e.elim)
  refine (ublock cb 1 (by omega) u vs (fun _ X => Only (fun _ => False) W X) W h1 hne ?_ (Only.refl _ _) ?_).mono ?_
  · exact fun i X hX => hX.mono (fun _ _ e => e.elim)
  · rintro i y hy X hX
    have h5 : y = printV := h4 i y hy
    subst h5
    refine (ustmt_print (some ⟨cb, 0, none⟩) X).mono ?_
    rintro en w' ⟨rfl, h6⟩
    exact ⟨rfl, hX.trans h6 (fun _ _ e => e)⟩
  · rintro en w' ⟨rfl, h6⟩
    exact ⟨rfl, hux.calm h6, h6.mono (fun _ _ e => e.elim)⟩
theorem leastp1 (pb : Nat) (w : World) (v : Value) (h : ProgT 0 (V1 pb) w v) : Calls Tryz.prog 46 #[v] w fun en w' => en = .returned (.tuple #[.int .i64 0, .bool false]) ∧ Only (fun _ => False) w w' :=
  least_ok (V1 pb) (v1_sl pb) none v w h (fun u hu => checksp1 pb w u hu) (fun W cb M hW => judge_none cb M false W hW)
theorem readProgramp1 (w : World) : Calls Tryz.prog 34 #[.string P1] w fun en w' => ∃ pb v, en = .returned (.tuple #[v, .int .i64 0, .int .i64 0]) ∧ ProgT 0 (V1 pb) w' v ∧ Only (fun _ => False) w w' :=
  readProgram_ok P1 (by decide) V1 v1_stab3 w readp1 leastp1
end Go.Proofs.YtdbdbaepmdmnfaaGreatDoor
namespace Go.Proofs.YtdbdbaepmdmnfaaGreatDoor
open Go.RowKit
theorem Under.only {wN wS W W' m ab vb sb txt size n sv cs} {D : Nat → Prop} (h : Under wN wS W m ab vb sb txt size n sv cs) (ho : Only D W W') (dm : ¬ D m) (dv : ¬ D vb) (ds : ¬ D sb) (hD : ∀ k, D k → wN.heap.size ≤ k) : Under wN W' W' m ab vb sb txt size n sv cs := by
  obtain ⟨po, pn, pc, hM⟩ := h.hM
  exact ⟨h.hm, h.hv, h.hs, h.nmv, h.nms, h.nvs, ⟨po, pn, pc, hM.only ho dm⟩, h.hV.only ho dv, (ho.block sb (heap_lt h.hS) ds).trans h.hS, h.hO.trans ho (fun q hq e => by have := hD q e; omega), Only.refl _ _⟩
theorem farCD {W : World} {p a : Addr} {v x : Value} (h : W.cell? a = some v) (hn : p.block ≠ a.block) : (W.setCell p x).drew.cell? a = some v := farC h hn
theorem cf91 (args : Array Value) (w : World) : (callFunc 62 args).run Tryz.prog w = .ok (.enter 62 args) w := callFunc_in Tryz.func62 (by kernel_rfl) rfl args w
theorem cf94 (args : Array Value) (w : World) : (callFunc 65 args).run Tryz.prog w = .ok (.enter 65 args) w := callFunc_in Tryz.func65 (by kernel_rfl) rfl args w
set_option maxRecDepth 20000 in
set_option maxHeartbeats 4000000 in
theorem attempt_ok2 (m F : Nat) (hcf : ∀ (args : Array Value) (w : World), (callFunc F args).run Tryz.prog w = .ok (.enter F args) w) (caps : Array Value) (D : Nat → Prop) (Q : World → Prop) (w : World) (hD : ∀ k, D k → k < w.heap.size)
    (h1 : ∀ W, Only (fun _ => False) w W → Calls Tryz.prog F caps W fun en w' => en = .returned (.tuple #[]) ∧ Q w' ∧ Only D W w') :
    Calls Tryz.prog 61 #[.pointer (some ⟨m, 0, none⟩), .func (.func F) #[] caps] w fun en w' => en = .returned .nilIface ∧ (∃ w1, Q w1 ∧ w1.heap[w.heap.size + 1]? = some (.cells #[.nilIface] 74 (0, 0)) ∧ Only (fun k => k = w.heap.size + 1) w1 w') ∧ Only D w w' := by
  have hmf : ∀ (fn : Fn) (first cap : Array Value) (w : World), (Instr.makeFunc fn first cap).run Tryz.prog w = .ok (.func fn first cap) w := fun _ _ _ _ => rfl
  have H1 := hide (h1 ((w.alloc (.cells #[.pointer (some ⟨m, 0, none⟩)] 130)).alloc (.cells #[.nilIface] 74)) ((onlyA w _).alloc _))
  have HD := hide hD
  clear h1 hD
  go_enter_defers Tryz.func61, Tryz.ntmps61
  go_wp2_with fail
  refine (H1.out).mono ?_
  rintro en w1 ⟨rfl, hQ, ho⟩
  have hb := (ho.block (w.heap.size + 1) (by simp) (fun e => by have := HD.out _ e; omega)).trans (new_at2 (W := w.alloc (.cells #[.pointer (some ⟨m, 0, none⟩)] 130)) (by simp) (.cells #[.nilIface] 74))
  have c0 : w1.cell? ⟨w.heap.size + 1, 0, none⟩ = some .nilIface := cell_of hb rfl
  have cf := free_of hb
  have HQ := hide hQ
  have HBb := hide hb
  have HO := hide (fromAlloc (fromAlloc ho))
  clear hQ ho hb H1
  go_wp2
  refine leaves_cons (f := 97) (args := #[.pointer (some ⟨w.heap.size, 0, none⟩), .pointer (some ⟨w.heap.size + 1, 0, none⟩)]) (by simp) (by simp [go_sem]) ?_
  refine (caught_idle _ _ _).mono ?_
  rintro e u' w'' ⟨rfl, rfl, rfl⟩
  refine ⟨.nilIface, ?_, rfl, ⟨w1, HQ.out, HBb.out, (Only.refl (fun k => k = w.heap.size + 1) w1).setCell (p := ⟨w.heap.size + 1, 0, none⟩) (fun _ => rfl) _⟩, HO.out.setCell (p := ⟨w.heap.size + 1, 0, none⟩) (fun h => absurd h (by show ¬ w.heap.size + 1 < w.heap.size; omega)) _⟩
  simp [results, Tryz.results61, go_sem, c0]
end Go.Proofs.YtdbdbaepmdmnfaaGreatDoor
/- Texts as lines: plain functions on lists of bytes. Nothing of the program is imported. -/
namespace Go.Proofs.YtdbdbaepmdmnfaaGreatDoor
/-- The first line of a text, and what is behind its end. -/
def lineOf : List UInt8 → List UInt8
  | [] => []
  | c :: l => if c = 10 then [] else c :: lineOf l
def restOf : List UInt8 → List UInt8
  | [] => []
  | c :: l => if c = 10 then l else restOf l
def hasNl (l : List UInt8) : Bool := l.contains 10
theorem restOf_len (l : List UInt8) (h : l ≠ []) : (restOf l).length < l.length := by
  induction l with
  | nil => exact absurd rfl h
  | cons c l ih =>
    unfold restOf
    split
    · simp
    · by_cases hl : l = []
      · subst hl; simp [restOf]
      · have := ih hl; simp; omega
theorem lineOf_len (l : List UInt8) : (lineOf l).length ≤ l.length := by
  induction l with
  | nil => exact Nat.le_refl _
  | cons c l ih =>
    unfold lineOf
    split
    · simp
    · simp; exact ih
/-- Where the first newline stands. -/
theorem index_line (l : List UInt8) : (hasNl l = false ∧ Lib.indexByte l 10 = -1 ∧ lineOf l = l ∧ restOf l = []) ∨
    (hasNl l = true ∧ Lib.indexByte l 10 = ((lineOf l).length : Int) ∧ lineOf l = l.take (lineOf l).length ∧ restOf l = l.drop ((lineOf l).length + 1) ∧ (lineOf l).length < l.length) := by
  induction l with
  | nil => exact Or.inl ⟨rfl, rfl, rfl, rfl⟩
  | cons c l ih =>
    by_cases hc : c = 10
    · subst hc
      refine Or.inr ⟨by simp [hasNl], ?_, by simp [lineOf], by simp [lineOf, restOf], by simp [lineOf]⟩
      simp [Lib.indexByte, lineOf]
    · have hcb : (c == 10) = false := by rw [beq_eq_false_iff_ne]; exact hc
      have h1 : lineOf (c :: l) = c :: lineOf l := by rw [lineOf, if_neg hc]
      have h2 : restOf (c :: l) = restOf l := by rw [restOf, if_neg hc]
      have h3 : hasNl (c :: l) = hasNl l := by
        unfold hasNl
        rw [List.contains_cons]
        have : ((10 : UInt8) == c) = false := by rw [beq_eq_false_iff_ne]; exact Ne.symm hc
        rw [this, Bool.false_or]
      rw [h1, h2, h3, Lib.indexByte, hcb]
      rcases ih with ⟨g1, g2, g3, g4⟩ | ⟨g1, g2, g3, g4, g5⟩
      · exact Or.inl ⟨g1, by rw [g2]; rfl, by rw [g3], g4⟩
      · refine Or.inr ⟨g1, ?_, by simp; exact g3, by simp; exact g4, by simp; exact g5⟩
        rw [g2]
        have : (((lineOf l).length : Int) == -1) = false := by rw [beq_eq_false_iff_ne]; omega
        rw [this]
        simp
/-- The records of an input. -/
def recsN : Nat → List UInt8 → List (List UInt8)
  | 0, _ => []
  | n + 1, l => if l = [] then [] else lineOf l :: recsN n (restOf l)
theorem recsN_enough {n m : Nat} {l : List UInt8} (hn : l.length ≤ n) (hm : l.length ≤ m) : recsN n l = recsN m l := by
  induction n generalizing m l with
  | zero =>
    have : l = [] := List.length_eq_zero_iff.1 (by omega)
    subst this
    cases m <;> simp [recsN]
  | succ n ih =>
    cases m with
    | zero =>
      have : l = [] := List.length_eq_zero_iff.1 (by omega)
      subst this
      simp [recsN]
    | succ m =>
      by_cases hl : l = []
      · simp [recsN, hl]
      · have := restOf_len l hl
        rw [recsN, recsN, if_neg hl, if_neg hl, ih (m := m) (by omega) (by omega)]
def recs (l : List UInt8) : List (List UInt8) := recsN l.length l
theorem recs_nil : recs [] = [] := rfl
theorem recs_cons {l : List UInt8} (h : l ≠ []) : recs l = lineOf l :: recs (restOf l) := by
  unfold recs
  have h1 := restOf_len l h
  obtain ⟨n, hn⟩ : ∃ n, l.length = n + 1 := ⟨l.length - 1, by omega⟩
  rw [hn, recsN, if_neg h, recsN_enough (m := (restOf l).length) (by omega) (Nat.le_refl _)]
theorem recs_len (l : List UInt8) : (recs l).length ≤ l.length := by
  have h : ∀ n l, (recsN n l).length ≤ n := by
    intro n
    induction n with
    | zero => intro l; exact Nat.le_refl _
    | succ n ih =>
      intro l
      unfold recsN
      split
      · simp
      · have := ih (restOf l); simp; omega
  exact h _ _
/-- The lines with their ends: what printing each record puts out. -/
def printed (L : List (List UInt8)) : List UInt8 := (L.map (· ++ [10])).flatten
theorem printed_cons (r : List UInt8) (L : List (List UInt8)) : printed (r :: L) = r ++ [10] ++ printed L := by simp [printed]
theorem printed_snoc (r : List UInt8) (L : List (List UInt8)) : printed (L ++ [r]) = printed L ++ (r ++ [10]) := by simp [printed]
/-- A text as whole lines. -/
def nlT (l : List UInt8) : List UInt8 := if l = [] then [] else if l.getLast? = some 10 then l else l ++ [10]
theorem line_rest (l : List UInt8) : (hasNl l = true ∧ l = lineOf l ++ [10] ++ restOf l) ∨ (hasNl l = false ∧ lineOf l = l ∧ restOf l = []) := by
  induction l with
  | nil => exact Or.inr ⟨rfl, rfl, rfl⟩
  | cons c l ih =>
    by_cases hc : c = 10
    · subst hc; exact Or.inl ⟨by simp [hasNl], by simp [lineOf, restOf]⟩
    · have h1 : lineOf (c :: l) = c :: lineOf l := by rw [lineOf, if_neg hc]
      have h2 : restOf (c :: l) = restOf l := by rw [restOf, if_neg hc]
      have h3 : hasNl (c :: l) = hasNl l := by
        unfold hasNl
        rw [List.contains_cons]
        have : ((10 : UInt8) == c) = false := by rw [beq_eq_false_iff_ne]; exact Ne.symm hc
        rw [this, Bool.false_or]
      rw [h1, h2, h3]
      rcases ih with ⟨g1, g2⟩ | ⟨g1, g2, g3⟩
      · exact Or.inl ⟨g1, by rw [List.cons_append, List.cons_append, ← g2]⟩
      · exact Or.inr ⟨g1, by rw [g2], g3⟩
theorem nlT_append {a b : List UInt8} (hb : b ≠ []) : nlT (a ++ b) = a ++ nlT b := by
  unfold nlT
  rw [if_neg (by simp [hb]), if_neg hb]
  have : (a ++ b).getLast? = b.getLast? := by
    rw [List.getLast?_append]
    cases h : b.getLast? with
    | none => rw [List.getLast?_eq_none_iff] at h; exact absurd h hb
    | some x => rfl
  rw [this]
  split <;> simp
theorem printed_recs (l : List UInt8) : printed (recs l) = nlT l := by
  have h : ∀ n l, l.length ≤ n → printed (recs l) = nlT l := by
    intro n
    induction n with
    | zero =>
      intro l hl
      have : l = [] := List.length_eq_zero_iff.1 (by omega)
      subst this; rfl
    | succ n ih =>
      intro l hl
      by_cases h0 : l = []
      · subst h0; rfl
      · have hr := restOf_len l h0
        rw [recs_cons h0, printed_cons, ih (restOf l) (by omega)]
        rcases line_rest l with ⟨_, g⟩ | ⟨g1, g2, g3⟩
        · by_cases hz : restOf l = []
          · rw [hz] at g ⊢
            have e : nlT l = l := by
              unfold nlT
              rw [if_neg h0, if_pos]
              rw [g, List.append_nil, List.getLast?_append]; rfl
            rw [e]
            conv => rhs; rw [g]
            rfl
          · conv => rhs; rw [g]
            rw [nlT_append hz]
        · rw [g3, g2]
          unfold nlT
          rw [if_pos rfl, if_neg h0, if_neg]
          · simp
          · intro e
            have : (10 : UInt8) ∈ l := List.mem_of_getLast? e
            unfold hasNl at g1
            rw [← Bool.not_eq_true] at g1
            exact g1 (List.elem_iff.2 this)
  exact h _ _ (Nat.le_refl _)
/-- Of two texts, the one's lines and then the other's. -/
theorem nlT_two (a b : List UInt8) : nlT (nlT a ++ b) = nlT a ++ nlT b := by
  by_cases hb : b = []
  · subst hb
    rw [List.append_nil]
    have e : nlT (nlT a) = nlT a := by
      by_cases ha : a = []
      · subst ha; rfl
      · unfold nlT
        rw [if_neg ha]
        split
        · rfl
        · rw [if_neg (by simp), if_pos (by rw [List.getLast?_append]; rfl)]
    rw [e]
    show nlT a = nlT a ++ []
    rw [List.append_nil]
  · exact nlT_append hb
theorem line_no10 (l : List UInt8) : (lineOf l).count 10 = 0 := by
  induction l with
  | nil => rfl
  | cons c l ih =>
    unfold lineOf
    split
    · rfl
    · rename_i h
      rw [List.count_cons, ih]
      simp [h]
theorem count_printed (l : List UInt8) : (printed (recs l)).count 10 = (recs l).length := by
  have h : ∀ n l, l.length ≤ n → (printed (recs l)).count 10 = (recs l).length := by
    intro n
    induction n with
    | zero =>
      intro l hl
      have : l = [] := List.length_eq_zero_iff.1 (by omega)
      subst this; rfl
    | succ n ih =>
      intro l hl
      by_cases h0 : l = []
      · subst h0; rfl
      · have hr := restOf_len l h0
        rw [recs_cons h0, printed_cons, List.count_append, List.count_append, line_no10, ih (restOf l) (by omega)]
        simp
        omega
  exact h _ _ (Nat.le_refl _)
end Go.Proofs.YtdbdbaepmdmnfaaGreatDoor
namespace Go.Proofs.YtdbdbaepmdmnfaaGreatDoor
open Go.RowKit
/-- Where a byte stands first. -/
theorem run_ib (s : ByteArray) (w : World) : (callFunc 354 #[.string s, .int .u8 10]).run Tryz.prog w = .ok (.value (.int .i64 (Lib.indexByte s.data.toList 10))) w := by
  rw [run_callFunc_extern Tryz.func354 (by kernel_rfl) (by kernel_rfl) (by kernel_rfl) (e := Extern.BytealgIndexByte.indexByte) (by kernel_rfl), Lib.run_indexByteString]
  rfl
set_option maxRecDepth 20000 in
set_option maxHeartbeats 1000000 in
theorem ib_any (s : ByteArray) (w : World) : Calls Tryz.prog 229 #[.string s, .int .u8 10] w fun en w' => en = .returned (.int .i64 (Lib.indexByte s.data.toList 10)) ∧ w' = w := by
  have hx := run_ib s
  go_enter Tryz.func229, Tryz.ntmps229
  go_wp2
  go_ret
  exact ⟨rfl, rfl⟩
set_option maxRecDepth 20000 in
set_option maxHeartbeats 2000000 in
theorem ix_any (s : ByteArray) (w : World) : Calls Tryz.prog 164 #[.string s, .string ⟨#[10]⟩] w fun en w' => en = .returned (.int .i64 (Lib.indexByte s.data.toList 10)) ∧ w' = w := by
  have HI := hide (ib_any s)
  by_cases h10 : ([10] == s.toList) = true
  · have hz : Lib.indexByte s.data.toList 10 = 0 := by
      rw [ByteArray.toList_eq] at h10
      rw [← eq_of_beq h10]; rfl
    rw [hz] at HI ⊢
    go_enter Tryz.func164, Tryz.ntmps164
    go_wp2_with (go_at_call 229; refine (HI.out _).mono ?_; rintro en w' ⟨rfl, h3⟩; subst w')
    all_goals go_ret
    all_goals exact ⟨rfl, rfl⟩
  · have h10' : ([10] == s.toList) = false := by rw [← Bool.not_eq_true]; exact h10
    clear h10
    go_enter Tryz.func164, Tryz.ntmps164
    go_wp2_with (go_at_call 229; refine (HI.out _).mono ?_; rintro en w' ⟨rfl, h3⟩; subst w')
    all_goals go_ret
    all_goals exact ⟨rfl, rfl⟩
theorem line_extract {s : ByteArray} (h : lineOf s.data.toList = s.data.toList.take (lineOf s.data.toList).length) : s.extract 0 (lineOf s.data.toList).length = ofB (lineOf s.data.toList) := by
  rw [extract_cut]
  unfold cutL
  rw [List.drop_zero, Nat.sub_zero, ← h]
theorem rest_extract {s : ByteArray} (h : restOf s.data.toList = s.data.toList.drop ((lineOf s.data.toList).length + 1)) : s.extract ((lineOf s.data.toList).length + 1) s.size = ofB (restOf s.data.toList) := by
  rw [extract_cut, h]
  unfold cutL
  rw [List.take_of_length_le (by rw [List.length_drop, len_eq]; omega)]
set_option maxRecDepth 20000 in
set_option maxHeartbeats 2000000 in
theorem cutL_any (s : ByteArray) (hs : s.size ≤ 100000) (w : World) : Calls Tryz.prog 130 #[.string s, .string ⟨#[10]⟩] w fun en w' => en = .returned (.tuple #[.string (ofB (lineOf s.data.toList)), .string (ofB (restOf s.data.toList)), .bool (hasNl s.data.toList)]) ∧ Only (fun _ => False) w w' := by
  have HI := hide (ix_any s)
  rcases index_line s.data.toList with ⟨g1, g2, g3, g4⟩ | ⟨g1, g2, g3, g4, g5⟩
  · rw [g1, g3, g4]
    rw [g2] at HI
    go_enter Tryz.func130, Tryz.ntmps130
    go_wp2_with (go_at_call 164; refine (HI.out _).mono ?_; rintro en w' ⟨rfl, h3⟩; subst w')
    refine bodyPost_ret (v := .tuple #[.string s, .string ⟨#[]⟩, .bool false]) (by simp [results, Tryz.results130, go_sem]) rfl ⟨rfl, Only.refl _ _⟩
  · have e1 := line_extract g3
    have e2 := rest_extract g4
    rw [g1]
    rw [g2] at HI
    rw [len_eq] at g5
    generalize (lineOf s.data.toList).length = k at *
    have hk0 : (0 : Int) ≤ (k : Int) := by omega
    have hk1 : (k : Int) + 1 ≤ (s.size : Int) := by omega
    go_enter Tryz.func130, Tryz.ntmps130
    go_wp2_with (go_at_call 164; refine (HI.out _).mono ?_; rintro en w' ⟨rfl, h3⟩; subst w')
    go_quiet (fail)
    go_wp2
    refine bodyPost_ret (v := .tuple #[.string (ofB (lineOf s.data.toList)), .string (ofB (restOf s.data.toList)), .bool true]) (by simp [results, Tryz.results130, go_sem, g3, g4]) rfl ⟨rfl, (Only.refl _ _).drewN _⟩
set_option maxRecDepth 20000 in
set_option maxHeartbeats 2000000 in
theorem cutS_any (s : ByteArray) (hs : s.size ≤ 100000) (w : World) : Calls Tryz.prog 99 #[.string s, .string ⟨#[10]⟩] w fun en w' => en = .returned (.tuple #[.string (ofB (lineOf s.data.toList)), .string (ofB (restOf s.data.toList)), .bool (hasNl s.data.toList)]) ∧ Only (fun _ => False) w w' := by
  have HI := hide (cutL_any s hs)
  generalize ofB (lineOf s.data.toList) = a at *
  generalize ofB (restOf s.data.toList) = b at *
  generalize hasNl s.data.toList = c at *
  go_enter Tryz.func99, Tryz.ntmps99
  go_wp2_with (go_at_call 130; refine (HI.out _).mono ?_; rintro en w2 ⟨rfl, h3⟩; have HO := hide h3; clear h3)
  refine bodyPost_ret (v := .tuple #[.string a, .string b, .bool c]) (by simp [results, Tryz.results99, go_sem]) rfl ⟨rfl, HO.out⟩
end Go.Proofs.YtdbdbaepmdmnfaaGreatDoor
namespace Go.Proofs.YtdbdbaepmdmnfaaGreatDoor
open Go.RowKit
/-- The value that a run that gives up throws. -/
def thrown (a : Addr) : Value := .iface 207 (.agg #[.iface 558 (.pointer (some a))])
def Threw (a : Addr) (en : Ending) : Prop := en = .panicked [{ v := thrown a, recovered := false }]
set_option maxRecDepth 20000 in
set_option maxHeartbeats 1000000 in
theorem check_many (n : Nat) (hn : 40 < n) (hn2 : n ≤ 100000) (a : Addr) (w : World) (hg : w.cell? ⟨2, 0, none⟩ = some (.iface 558 (.pointer (some a)))) : Calls Tryz.prog 234 #[.int .i64 n] w fun en w' => en = .returned (.iface 558 (.pointer (some a))) ∧ w' = w := by
  have h1 : ((n : Int) < 0) = False := by simp
  have h2 : ((n : Int) > 40) = True := by simp; omega
  have h3 : (40 : Int) < (n : Int) := by omega
  go_enter Tryz.func234, Tryz.ntmps234
  go_wp2
  go_ret
  exact ⟨rfl, rfl⟩
set_option maxRecDepth 20000 in
set_option maxHeartbeats 1000000 in
theorem giveUp (m : Option Addr) (a : Addr) (w : World) : Calls Tryz.prog 129 #[.pointer m, .iface 558 (.pointer (some a))] w fun en w' => Threw a en ∧ Only (fun _ => False) w w' := by
  go_enter Tryz.func129, Tryz.ntmps129
  go_wp2
  exact ⟨rfl, rfl, Only.refl _ _⟩
set_option maxRecDepth 20000 in
set_option maxHeartbeats 1000000 in
theorem mcheck_err (m : Option Addr) (a : Addr) (w : World) : Calls Tryz.prog 166 #[.pointer m, .iface 558 (.pointer (some a))] w fun en w' => Threw a en ∧ Only (fun _ => False) w w' := by
  have HG := hide (giveUp m a)
  go_enter Tryz.func166, Tryz.ntmps166
  go_wp2_with fail
  refine (HG.out _).mono ?_
  rintro en w' ⟨rfl, ho⟩
  go_wp2
  exact ⟨rfl, rfl, ho⟩
set_option maxRecDepth 20000 in
set_option maxHeartbeats 4000000 in
theorem become_many (m ab vb : Nat) (txt t : ByteArray) (po : Option Addr) (pn pc : Nat) (lst : Value) (size n code : Nat) (ht : t.size ≤ 500) (hw : 40 < (words [] t.data.toList).length) (a : Addr) (w : World) (hg : w.cell? ⟨2, 0, none⟩ = some (.iface 558 (.pointer (some a)))) (h : MAt w m ab vb txt (.slice po pn pc) lst size n code) :
    Calls Tryz.prog 167 #[.pointer (some ⟨m, 2, none⟩), .string t, .string ⟨#[32]⟩] w fun en w' => en = .returned (.iface 558 (.pointer (some a))) ∧ Only (fun _ => False) w w' := by
  have HC := hide (cut27_any t ⟨#[32]⟩ ht (by decide) w)
  have HM := hide h
  have HW := hide hw
  have HGl := hide hg
  have hlw : (words [] t.data.toList).length ≤ 501 := by have := words_len [] t.data.toList; rw [len_eq] at this; omega
  have HLw := hide hlw
  clear h hw hg hlw
  have htl : ¬ (500 < t.data.toList.length ∨ 500 < (⟨#[32]⟩ : ByteArray).data.toList.length) := by rw [len_eq]; simp; omega
  go_enter Tryz.func167, Tryz.ntmps167
  go_wp2_with fail
  refine (HC.out).mono ?_
  rintro en w2 ⟨v, L, ok, rfl, hown, hsp, ho⟩
  obtain ⟨rfl, hok⟩ := (hsp.2 htl).1 rfl
  obtain ⟨po2, cap2, rfl⟩ := ownsRow_slice hown
  have hm2 := HM.out.only ho (fun e => e)
  have hok2 : ok = true := by cases ok with | true => rfl | false => simp at hok
  subst hok2
  have HN := hide (check_many (words [] t.data.toList).length HW.out (by have := HLw.out; omega) a w2 ((ho.cell (p := ⟨2, 0, none⟩) (World.block_lt_of_cell? w ⟨2, 0, none⟩ HGl.out) (fun e => e)).trans HGl.out))
  have HO := hide ho
  clear hown hsp ho hm2 hok HC
  go_wp2_with (go_at_call 234; refine (HN.out).mono ?_; rintro en w' ⟨rfl, h3⟩; subst w')
  go_ret
  exact ⟨rfl, HO.out⟩
end Go.Proofs.YtdbdbaepmdmnfaaGreatDoor
