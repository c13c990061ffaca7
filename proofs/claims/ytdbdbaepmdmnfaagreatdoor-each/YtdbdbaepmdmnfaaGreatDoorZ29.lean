import Derived.Test.YtdbdbaepmdmnfaaGreatDoorZ02
import Derived.Test.YtdbdbaepmdmnfaaGreatDoorZ03
import Derived.Lib.ItoaNum
import Derived.Test.YtdbdbaepmdmnfaaGreatDoorZ28
import Derived.Test.YtdbdbaepmdmnfaaGreatDoorZ11
namespace Go.Proofs.YtdbdbaepmdmnfaaGreatDoor
open Go.RowKit
/-- The pieces with the separator between them. -/
def joinsL (sep : List UInt8) : List (List UInt8) → List UInt8
  | [] => []
  | l :: L => l ++ (L.map (sep ++ ·)).flatten
end Go.Proofs.YtdbdbaepmdmnfaaGreatDoor

namespace Go.Proofs.YtdbdbaepmdmnfaaGreatDoor
/-- Each with a newline behind it. -/
def linesOf (L : List (List UInt8)) : List UInt8 := (L.map (· ++ [10])).flatten
theorem linesOf_take (L : List (List UInt8)) (k : Nat) : (linesOf (L.take k)).length ≤ (linesOf L).length := by
  have h : linesOf L = linesOf (L.take k) ++ linesOf (L.drop k) := by
    unfold linesOf
    rw [← List.flatten_append, ← List.map_append, List.take_append_drop]
  rw [h, List.length_append]
  omega
theorem words_lines (cur l : List UInt8) : (linesOf (words cur l)).length ≤ cur.length + l.length + 1 := by
  induction l generalizing cur with
  | nil =>
    unfold words
    split
    · simp [linesOf]
    · simp [linesOf]
  | cons c l ih =>
    unfold words
    split
    · split
      · have := ih []
        simp at this ⊢
        omega
      · have := ih []
        simp [linesOf] at this ⊢
        omega
    · have := ih (cur ++ [c])
      simp at this ⊢
      omega
theorem words_ne (cur l : List UInt8) : ∀ x ∈ words cur l, x ≠ [] := by
  induction l generalizing cur with
  | nil =>
    unfold words
    split
    · simp
    · simp; assumption
  | cons c l ih =>
    unfold words
    split
    · split
      · exact ih []
      · rename_i h
        intro x hx
        simp only [List.mem_cons] at hx
        rcases hx with rfl | hx
        · exact h
        · exact ih [] x hx
    · exact ih _
theorem twice_lines (L : List (List UInt8)) (h : ∀ x ∈ L, x ≠ []) : 2 * L.length ≤ (linesOf L).length := by
  induction L with
  | nil => simp [linesOf]
  | cons a L ih =>
    have h1 := ih (fun x hx => h x (by simp [hx]))
    have h2 : 0 < a.length := by
      have := h a (by simp)
      cases a with
      | nil => exact absurd rfl this
      | cons => simp
    simp [linesOf] at h1 ⊢
    omega
theorem joins_lines (L : List (List UInt8)) : (joinsL [32] L).length ≤ (linesOf L).length := by
  cases L with
  | nil => simp [joinsL]
  | cons a L =>
    have : ∀ M : List (List UInt8), ((M.map (([32] : List UInt8) ++ ·)).flatten).length = (linesOf M).length := fun M => by
      induction M with
      | nil => rfl
      | cons m M ih => simp [linesOf] at ih ⊢; omega
    have h := this L
    simp [joinsL, linesOf] at h ⊢
    omega
/-- The words of a short line are few. -/
theorem words_few {t : List UInt8} (ht : t.length ≤ 60) : (words [] t).length ≤ 30 ∧ (linesOf (words [] t)).length ≤ 61 ∧ (joinsL [32] (words [] t)).length ≤ 61 := by
  have h1 := words_lines [] t
  have h2 := twice_lines _ (words_ne [] t)
  have h3 := joins_lines (words [] t)
  simp at h1
  omega
end Go.Proofs.YtdbdbaepmdmnfaaGreatDoor

namespace Go.Proofs.YtdbdbaepmdmnfaaGreatDoor
open Go.RowKit
theorem lib_join (sep : List UInt8) (L : List (List UInt8)) : Lib.join L sep = joinsL sep L := by
  cases L with
  | nil => rfl
  | cons a r => rw [Lib.join_cons]; rfl
theorem row_some {w : World} {B : Nat} {v : Value} {L : List (List UInt8)} (h : w.ownsRow B 9 1 v L.length (strsV L)) (h0 : 0 < L.length) : ∃ g cap, v = .slice (some ⟨g, 0, none⟩) L.length cap ∧ L.length ≤ cap ∧ g < w.heap.size ∧ ∀ (i : Nat) l, L[i]? = some l → w.cell? ⟨g, i, none⟩ = some (.string (ofB l)) := by
  rcases h.2 with ⟨h1, h2⟩ | ⟨g, cap, cur, rfl, hb, hg, hc, _⟩
  · omega
  · refine ⟨g, cap, rfl, hc, heap_lt hg, fun i l hi => ?_⟩
    have hl : i < L.length := (List.getElem?_eq_some_iff.1 hi).1
    rw [h.cellAt i (by omega)]
    simp [strsV, hi]
/-- What strings.Join answers of a row. -/
theorem join_row (sep : ByteArray) (L : List (List UInt8)) (h0 : 0 < L.length) (hL : L.length ≤ 1000) (hT : (joinsL sep.data.toList L).length ≤ 500) (B : Nat) (v : Value) (w : World) (h : w.ownsRow B 9 1 v L.length (strsV L)) : Calls Tryz.prog 283 #[v, .string sep] w fun en w' => en = .returned (.string (ofB (joinsL sep.data.toList L))) ∧ Only (fun _ => False) w w' := by
  obtain ⟨g, cap, rfl, hc, hg, hcells⟩ := row_some h h0
  have hm : (L.map ofB).map (fun x => x.data.toList) = L := by
    rw [List.map_map]
    conv => rhs; rw [← List.map_id L]
    rfl
  have hll : (L.map ofB).length = L.length := List.length_map _
  have hj : (⟨(Lib.join ((L.map ofB).map (fun x => x.data.toList)) sep.data.toList).toArray⟩ : ByteArray) = ofB (joinsL sep.data.toList L) := by rw [hm, lib_join]; rfl
  have := Tryz.strings_Join g 0 cap (L.map ofB) sep w (fun j x hx => by
    rw [List.getElem?_map] at hx
    cases hq : L[j]? with
    | none => rw [hq] at hx; simp at hx
    | some l =>
      rw [hq] at hx
      simp at hx
      rw [← hx, Nat.zero_add]
      exact hcells j l hq) hg (by rw [hll]; omega) (by rw [hll]; omega) (by rw [hm, lib_join]; omega)
  rw [hj, hll] at this
  exact this.mono (fun en w' h => ⟨h.1, Only.ofBelow h.2 _⟩)
set_option maxRecDepth 20000 in
set_option maxHeartbeats 4000000 in
/-- A text put out behind what was put out. -/
theorem put_more9 (C m ab vb sb : Nat) (txt : ByteArray) (flds tv : Value) (n code : Nat) (out s : ByteArray) (hs : s.size ≤ 1000) (hos : out.size + s.size ≤ 4000) (w : World) (hCw : C ≤ w.heap.size) (h : MAt8 w m ab vb txt flds (.slice (some ⟨sb, 0, none⟩) 1 1) out.size n code) (hS : w.heap[sb]? = some (.cells #[.string ⟨#[]⟩, tv] 142 (0, 0))) (hown0 : w.ownsRow C 5 1 tv out.size (Lib.strCells out)) :
    Calls Tryz.prog 376 #[.pointer (some ⟨m, 5, none⟩), .string ⟨#[]⟩, .string s] w fun en w' => en = .returned .nilIface ∧ MAt8 w' m ab vb txt flds (.slice (some ⟨sb, 0, none⟩) 1 1) (out ++ s).size n code ∧ (∃ tv, w'.heap[sb]? = some (.cells #[.string ⟨#[]⟩, tv] 142 (0, 0)) ∧ w'.ownsRow C 5 1 tv (out ++ s).size (Lib.strCells (out ++ s))) ∧ Only (fun k => k = m ∨ k = sb ∨ tv.ownBlock = some k) w w' := by
  obtain ⟨i0, hi, hz0, hz1, hz2⟩ := info_parts infoByte5
  have hne : sb ≠ m := fun e => by have h1 := h; unfold MAt8 at h1; rw [← e, hS] at h1; cases h1
  have c5 : w.cell? ⟨m, 5, none⟩ = some (.slice (some ⟨sb, 0, none⟩) 1 1) := cell_of h rfl
  have c6 : w.cell? ⟨m, 6, none⟩ = some (.int .i64 out.size) := cell_of h rfl
  have cf := free_of h
  have s0 : w.cell? ⟨sb, 0, none⟩ = some (.string ⟨#[]⟩) := cell_of hS rfl
  have s1 : w.cell? ⟨sb, 1, none⟩ = some tv := cell_of hS rfl
  have sf := free_of hS
  have hli : ¬ (4000 : Int) < (out.size : Int) + (s.size : Int) := by omega
  have hS6 : (w.setCell ⟨m, 6, none⟩ (.int .i64 ((out.size : Int) + (s.size : Int)))).heap[sb]? = some (.cells #[.string ⟨#[]⟩, tv] 142 (0, 0)) := (Below.heap_setCell _ _ _ _ hne).trans hS
  have hM6 := h.setSize (out.size + s.size)
  have hM6 : MAt8 (w.setCell ⟨m, 6, none⟩ (.int .i64 ((out.size : Int) + (s.size : Int)))) m ab vb txt flds (.slice (some ⟨sb, 0, none⟩) 1 1) (out.size + s.size) n code := by
    rw [show ((out.size : Int) + (s.size : Int)) = ((out.size + s.size : Nat) : Int) by omega]; exact hM6
  have HN := hide (named_main m 5 sb _ (cell_of hM6 rfl) (cell_of hS6 rfl))
  have htm := own_tag hown0 h (by decide)
  have hto := own_tag hown0 hS (by decide)
  have hown6 : (w.setCell ⟨m, 6, none⟩ (.int .i64 ((out.size : Int) + (s.size : Int)))).ownsRow C 5 1 tv out.size (Lib.strCells out) := ownsRow_of hown0 (fun k hk => Below.heap_setCell _ _ _ _ (fun e => htm (by rw [hk, e])))
  have HM6 := hide hM6
  have HS6 := hide hS6
  have HTm := hide htm
  have HTo := hide hto
  have HCw := hide hCw
  have HOw0 := hide hown0
  clear h hS hM6 hS6 htm hto hown0 hCw
  obtain ⟨po, pc, rfl⟩ := ownsRow_slice hown6
  have HOw6 := hide hown6
  clear hown6
  go_enter Tryz.func376, Tryz.ntmps376
  go_wp2_with (first | (go_at_call 434; refine (HN.out).mono ?_; rintro en w2 ⟨rfl, hw2⟩; subst hw2) | (at_builtin; refine Lib.wpList_append_own_string _ rfl _ _ 54 9 rfl C 5 i0 Tryz.underlying54 Tryz.underlying9 hi hz0 hz1 hz2 (.slice po out.size pc) out.size (Lib.strCells out) rfl HOw6.out s rfl (by unfold maxLen; omega) (by omega) (by have := HCw.out; simpa using this) ?_; intro v' w3 hown hgrow _; obtain ⟨ao, cap, rfl⟩ := ownsRow_slice hown; have hb3 := (hgrow.block sb (heap_lt HS6.out) (fun e => HTo.out e.symm)).trans HS6.out; have t1 : w3.cell? ⟨sb, 1, none⟩ = some (.slice po out.size pc) := cell_of hb3 rfl; have tf := free_of hb3; have HB3 := hide hb3; have HOw := hide hown; have HG := hide hgrow; clear hb3 hown hgrow))
  go_ret
  have hrow : w3.ownsRow C 5 1 (.slice ao (out.size + s.size) cap) (out ++ s).size (Lib.strCells (out ++ s)) := by rw [ByteArray.size_append, strCells_append]; exact HOw.out
  have hnt := own_tag hrow HB3.out (by decide)
  refine ⟨rfl, ?_, ⟨.slice ao (out.size + s.size) cap, heap_setCell_same HB3.out _, ownsRow_of hrow (fun k hk => Below.heap_setCell _ _ _ _ (fun e => hnt (by rw [hk, e])))⟩, ?_⟩
  · rw [ByteArray.size_append]
    exact (Below.heap_setCell _ _ _ _ (Ne.symm hne)).trans ((HG.out.block m (heap_lt HM6.out) (fun e => HTm.out e.symm)).trans HM6.out)
  · exact (((Only.refl (fun k => k = m ∨ k = sb ∨ (Value.slice po out.size pc).ownBlock = some k) w).setCell (p := ⟨m, 6, none⟩) (fun _ => Or.inl rfl) _).grown HG.out (fun q hq _ => Or.inr (Or.inr hq))).setCell (p := ⟨sb, 1, none⟩) (fun _ => Or.inr (Or.inl rfl)) _
set_option maxRecDepth 20000 in
set_option maxHeartbeats 4000000 in
theorem mput_more9 (C m ab vb sb : Nat) (txt : ByteArray) (flds tv : Value) (n code : Nat) (out s : ByteArray) (hs : s.size ≤ 1000) (hos : out.size + s.size ≤ 4000) (w : World) (hCw : C ≤ w.heap.size) (h : MAt8 w m ab vb txt flds (.slice (some ⟨sb, 0, none⟩) 1 1) out.size n code) (hS : w.heap[sb]? = some (.cells #[.string ⟨#[]⟩, tv] 142 (0, 0))) (hown0 : w.ownsRow C 5 1 tv out.size (Lib.strCells out)) :
    Calls Tryz.prog 284 #[.pointer (some ⟨m, 0, none⟩), .string ⟨#[]⟩, .string s] w fun en w' => en = .returned (.tuple #[]) ∧ MAt8 w' m ab vb txt flds (.slice (some ⟨sb, 0, none⟩) 1 1) (out ++ s).size n code ∧ (∃ tv, w'.heap[sb]? = some (.cells #[.string ⟨#[]⟩, tv] 142 (0, 0)) ∧ w'.ownsRow C 5 1 tv (out ++ s).size (Lib.strCells (out ++ s))) ∧ Only (fun k => k = m ∨ k = sb ∨ tv.ownBlock = some k) w w' := by
  have HP := hide (put_more9 C m ab vb sb txt flds tv n code out s hs hos w hCw h hS hown0)
  have HC := hide (check_nil (some ⟨m, 0, none⟩))
  clear h hS hown0
  go_enter Tryz.func284, Tryz.ntmps284
  go_wp2_with (first | (go_at_call 376; refine (HP.out).mono ?_; rintro en w2 ⟨rfl, h1, h2, h3⟩; have H1 := hide h1; have H2 := hide h2; have H3 := hide h3; clear h1 h2 h3) | (go_at_call 166; refine (HC.out _).mono ?_; rintro en w' ⟨rfl, h3⟩; subst w'))
  go_end0
  exact ⟨rfl, H1.out, H2.out, H3.out⟩
/-- A text is put out. -/
theorem put_on (p : Pl8) (s : St8) (t : ByteArray) (ht : t.size ≤ 1000) (hos : s.out.size + t.size ≤ 4000) (W : World) (h : On8 p s W) :
    Calls Tryz.prog 284 #[.pointer (some ⟨p.m, 0, none⟩), .string ⟨#[]⟩, .string t] W fun en w' => en = .returned (.tuple #[]) ∧ On8 p { s with out := s.out ++ t } w' ∧ Kept p W w' := by
  obtain ⟨po, pn, pc, hM⟩ := h.M
  obtain ⟨tv, hS, hT⟩ := h.S
  obtain ⟨kv, hA⟩ := h.R
  obtain ⟨es, ck, e1, _⟩ := hA.m
  refine (mput_more9 p.wN.heap.size p.m p.ab p.vb p.sb s.txt (.slice po pn pc) tv s.fuel 0 s.out t ht hos W h.O.size hM hS hT).mono ?_
  rintro en w' ⟨e, hM', ⟨tv', hS', hT'⟩, ho⟩
  have hm := h.hm
  have hs := h.hs
  have hn := h.ne
  have x1 := own_tag hT hA.a (by decide)
  have x2 := own_tag hT hA.k (by decide)
  have x3 := own_map hT e1
  have x4 := own_tag hT h.V (by decide)
  have y1 := own_tag hA.r hM (by decide)
  have y2 := own_tag hA.r hS (by decide)
  refine ⟨e, ⟨h.hm, h.hv, h.hs, h.ha, h.nmv, h.nms, h.nvs, ⟨po, pn, pc, hM'⟩, h.V.only ho (fun e => ?_), ⟨tv', hS', hT'⟩, ⟨kv, hA.only ho (fun e => ?_) (fun e => ?_) (fun e => ?_) (fun q hq e => ?_)⟩, h.O.trans ho (fun k hk e => ?_)⟩, Kept.ofS h hT ho⟩
  · rcases e with e | e | e
    · exact h.nmv e.symm
    · exact h.nvs e
    · exact x4 e
  · rcases e with e | e | e
    · exact hn.1.1 e.symm
    · exact hn.2.2.1.1 e.symm
    · exact x1 e
  · rcases e with e | e | e
    · exact hn.1.2.2 e.symm
    · exact hn.2.2.1.2.2 e.symm
    · exact x2 e
  · rcases e with e | e | e
    · exact hn.1.2.1 e.symm
    · exact hn.2.2.1.2.1 e.symm
    · exact x3 e
  · rcases e with e | e | e
    · exact y1 (by rw [hq, e])
    · exact y2 (by rw [hq, e])
    · exact own_own hT hA.r (by decide) e hq
  · rcases e with e | e | e
    · omega
    · omega
    · have := (hT.lt k e).1
      omega
/-- A statement's function does its work and goes on; the run is then at s'. -/
def Does (p : Pl8) (s s' : St8) (x : Value) : Prop := ∃ (F : Nat) (caps : List Value), x = .func (.func F) #[] caps.toArray ∧ Enters F ∧ ∀ W, On8 p s W → Calls Tryz.prog F (.pointer (some ⟨p.m, 0, none⟩) :: caps).toArray W fun en w' => en = .returned (.int .i64 0) ∧ On8 p s' w' ∧ Kept p W w'
theorem cf162 (args : Array Value) (w : World) : (callFunc 162 args).run Tryz.prog w = .ok (.enter 162 args) w := callFunc_in Tryz.func162 (by kernel_rfl) rfl args w
theorem cf127 (args : Array Value) (w : World) : (callFunc 127 args).run Tryz.prog w = .ok (.enter 127 args) w := callFunc_in Tryz.func127 (by kernel_rfl) rfl args w
theorem cf280 (args : Array Value) (w : World) : (callFunc 280 args).run Tryz.prog w = .ok (.enter 280 args) w := callFunc_in Tryz.func280 (by kernel_rfl) rfl args w
theorem cf297 (args : Array Value) (w : World) : (callFunc 297 args).run Tryz.prog w = .ok (.enter 297 args) w := callFunc_in Tryz.func297 (by kernel_rfl) rfl args w
/-- A statement takes a step first. -/
theorem does_step (p : Pl8) (s s' : St8) (n : Nat) (hn : n ≤ 100000) (B : Nat) (I : Nat → World → Value → Prop) (v : Value) (h : StF I B p.wN v) (hI : ∀ x, I B p.wN x → Does p { s with fuel := n } s' x) : Does p { s with fuel := n + 1 } s' v := by
  obtain ⟨b, x, rfl, _, hb, hi⟩ := h
  obtain ⟨F, caps, rfl, hcf, hD⟩ := hI x hi
  refine ⟨162, [.pointer (some ⟨b, 0, none⟩)], rfl, cf162, fun W hW => ?_⟩
  obtain ⟨po, pn, pc, hM⟩ := hW.M
  have hbW := (hW.O.block b (heap_lt hb) (fun e => e)).trans hb
  have hm := hW.hm
  have hbl := heap_lt hb
  have hst : On8 p { s with fuel := n } (W.setCell ⟨p.m, 7, none⟩ (.int .i64 n)) := hW.step
  have hO := (Only.refl (fun q => q = p.m) W).setCell (p := ⟨p.m, 7, none⟩) (fun _ => rfl) (.int .i64 n)
  exact stmt_do8 p.m p.ab p.vb b F hcf caps s.txt (.slice po pn pc) _ s.out.size n 0 hn (fun w' => On8 p s' w' ∧ Kept p W w') W hM (by omega) (cell_of hbW rfl) ((hD _ hst).mono (fun en w' h => ⟨h.1, h.2.1, (Kept.ofV hW (fun q e => Or.inl e) hO).trans h.2.2⟩))
set_option maxRecDepth 20000 in
set_option maxHeartbeats 2000000 in
/-- An expression for its work's sake. -/
theorem does_work (p : Pl8) (s s' : St8) (B : Nat) (I : Nat → World → Value → Prop) (v r : Value) (h : WorkK I B p.wN v) (hI : ∀ x y, I B p.wN (.agg #[x, y]) → Works p s s' x r) : Does p s s' v := by
  obtain ⟨ec, x, y, rfl, _, he, hi⟩ := h
  obtain ⟨F, caps, rfl, hcf, hW⟩ := hI x y hi
  unfold Enters at hcf
  refine ⟨297, [.pointer (some ⟨ec, 0, none⟩)], rfl, cf297, fun w h => ?_⟩
  have hew := (h.O.block ec (heap_lt he) (fun e => e)).trans he
  have e0 : w.cell? ⟨ec, 0, none⟩ = some (.func (.func F) #[] caps.toArray) := cell_of hew rfl
  have el := heap_lt hew
  have HW := hide (hW w h)
  clear h hew hW he hi hI
  go_enter Tryz.func297, Tryz.ntmps297
  go_wp2_with fail
  refine (HW.out).mono ?_
  rintro en w2 ⟨rfl, hq, hk⟩
  have HQ := hide hq
  have HK := hide hk
  clear hq hk
  go_wp2
  go_ret
  exact ⟨rfl, HQ.out, HK.out⟩
set_option maxRecDepth 20000 in
set_option maxHeartbeats 2000000 in
theorem textsOf_oneG (m g F : Nat) (caps : List Value) (y : Value) (hy : ∃ F2 c2, y = .func (.func F2) #[] c2) (hcf : ∀ (args : Array Value) (w : World), (callFunc F args).run Tryz.prog w = .ok (.enter F args) w) (a n : Int) (t tx : ByteArray) (w : World) (hg : w.heap[g]? = some (.cells #[.func (.func F) #[] caps.toArray, y] 338 (0, 0)))
    (HTx : ∀ W, Only (fun _ => False) w W → Calls Tryz.prog 235 #[.agg #[.int .i64 a, .int .i64 n, .string t]] W fun en w' => en = .returned (.string tx) ∧ Only (fun _ => False) W w')
    (HW : ∀ W, Only (fun _ => False) w W → Calls Tryz.prog F (.pointer (some ⟨m, 0, none⟩) :: caps).toArray W fun en w' => en = .returned (.agg #[.int .i64 a, .int .i64 n, .string t]) ∧ Only (fun _ => False) W w') :
    Calls Tryz.prog 281 #[.pointer (some ⟨m, 0, none⟩), .slice (some ⟨g, 0, none⟩) 1 1] w fun en w' => en = .returned (.slice (some ⟨w.heap.size, 0, none⟩) 1 1) ∧ w'.heap[w.heap.size]? = some (.cells #[.string tx] 9 (0, 0)) ∧ Only (fun _ => False) w w' := by
  obtain ⟨F2, c2, rfl⟩ := hy
  have hm := mk23one
  have hsf := hsfT
  have g0 : w.cell? ⟨g, 0, none⟩ = some (.func (.func F) #[] caps.toArray) := cell_of hg rfl
  have g1 : w.cell? ⟨g, 1, none⟩ = some (.func (.func F2) #[] c2) := cell_of hg rfl
  have gl := heap_lt hg
  have O2 := (onlyA w (.cells #[.string ⟨#[]⟩] 9)).alloc (.cells #[.func (.func F) #[] caps.toArray, .func (.func F2) #[] c2] 338)
  have HW1 := hide (HW _ O2)
  have HTy := hide HTx
  have HO2 := hide O2
  clear hg HTx HW O2
  go_enter Tryz.func281, Tryz.ntmps281
  go_wp2
  go_loopg [13] 1 (fun gh s13 wr => (gh = 1 ∧ s13 = .int .i64 0 ∧ wr = w.alloc (.cells #[.string ⟨#[]⟩] 9)) ∨ (gh = 0 ∧ s13 = .int .i64 1 ∧ wr.heap[w.heap.size]? = some (.cells #[.string tx] 9 (0, 0)) ∧ Only (fun _ => False) w wr))
  case atStart => exact Or.inl ⟨rfl, rfl, rfl⟩
  case round =>
    rcases hrel with ⟨hgh, rfl, hw⟩ | ⟨hgh, rfl, h1, h3⟩
    · subst hw
      go_wp2_with fail
      refine (HW1.out).mono ?_
      rintro en w2 ⟨rfl, ho2⟩
      have hO2 := HO2.out.trans ho2 (fun _ _ e => e)
      have HT2 := hide (HTy.out w2 hO2)
      have hb2 := (ho2.block w.heap.size (by simp; omega) (fun e => e)).trans ((Below.heap_alloc _ _ _ (by simp)).trans (new0 w (.cells #[.string ⟨#[]⟩] 9)))
      have HB2 := hide hb2
      have HOw := hide hO2
      clear ho2 hO2 hb2 HW1 HTy
      go_wp2_with (go_at_call 235; refine (HT2.out).mono ?_; rintro en w3 ⟨rfl, ho3⟩; have hb3 := (ho3.block w.heap.size (heap_lt HB2.out) (fun e => e)).trans HB2.out; have r0 : w3.cell? ⟨w.heap.size, 0, none⟩ = some (.string ⟨#[]⟩) := cell_of hb3 rfl; have rf := free_of hb3; have rl := heap_lt hb3; have HB3 := hide hb3; have HO3 := hide (HOw.out.trans ho3 (fun _ _ e => e)); clear hb3 ho3)
      go_roundg 0
      case measure => omega
      case rel => exact Or.inr ⟨rfl, rfl, set1 HB3.out _, HO3.out.setCell (p := ⟨w.heap.size, 0, none⟩) (fun h => absurd h (by show ¬ w.heap.size < w.heap.size; omega)) _⟩
    · go_wp2
      go_ret
      exact ⟨rfl, h1, h3⟩
theorem mk23two (W : World) : (Instr.makeSlice 23 (.int .i64 2) (.int .i64 2)).run Tryz.prog W = .ok (.slice (some ⟨W.heap.size, 0, none⟩) 2 2) (W.alloc (.cells #[.string ⟨#[]⟩, .string ⟨#[]⟩] 9)) := by kernel_rfl
set_option maxRecDepth 20000 in
set_option maxHeartbeats 4000000 in
/-- The texts of two expressions, of which the second may turn the run. -/
theorem textsOf_two (p : Pl8) (s s1 : St8) (g F1 F2 : Nat) (caps1 caps2 : List Value) (y1 y2 : Value) (hy1 : ∃ F c, y1 = .func (.func F) #[] c) (hy2 : ∃ F c, y2 = .func (.func F) #[] c) (hcf1 : Enters F1) (hcf2 : Enters F2) (a1 n1 a2 n2 : Int) (t1 t2 tx1 tx2 : ByteArray)
    (HG : ∀ W, On8 p s W → Calls Tryz.prog F1 (.pointer (some ⟨p.m, 0, none⟩) :: caps1).toArray W fun en w' => en = .returned (.agg #[.int .i64 a1, .int .i64 n1, .string t1]) ∧ Only (fun _ => False) W w')
    (HT1 : ∀ W, On8 p s W → Calls Tryz.prog 235 #[.agg #[.int .i64 a1, .int .i64 n1, .string t1]] W fun en w' => en = .returned (.string tx1) ∧ Only (fun _ => False) W w')
    (HW : ∀ W, On8 p s W → Calls Tryz.prog F2 (.pointer (some ⟨p.m, 0, none⟩) :: caps2).toArray W fun en w' => en = .returned (.agg #[.int .i64 a2, .int .i64 n2, .string t2]) ∧ On8 p s1 w' ∧ Kept p W w')
    (HT2 : ∀ W, On8 p s1 W → Calls Tryz.prog 235 #[.agg #[.int .i64 a2, .int .i64 n2, .string t2]] W fun en w' => en = .returned (.string tx2) ∧ Only (fun _ => False) W w')
    (hg : p.wN.heap[g]? = some (.cells #[.func (.func F1) #[] caps1.toArray, y1, .func (.func F2) #[] caps2.toArray, y2] 338 (0, 0))) (w : World) (h : On8 p s w) :
    Calls Tryz.prog 281 #[.pointer (some ⟨p.m, 0, none⟩), .slice (some ⟨g, 0, none⟩) 2 2] w fun en w' => ∃ tb, en = .returned (.slice (some ⟨tb, 0, none⟩) 2 2) ∧ w'.heap[tb]? = some (.cells #[.string tx1, .string tx2] 9 (0, 0)) ∧ On8 p s1 w' ∧ Kept p w w' := by
  obtain ⟨G1, d1, rfl⟩ := hy1
  obtain ⟨G2, d2, rfl⟩ := hy2
  unfold Enters at hcf1 hcf2
  have hm := mk23two
  have hsf := hsfT
  have hgw := (h.O.block g (heap_lt hg) (fun e => e)).trans hg
  have g0 : w.cell? ⟨g, 0, none⟩ = some (.func (.func F1) #[] caps1.toArray) := cell_of hgw rfl
  have g1 : w.cell? ⟨g, 1, none⟩ = some (.func (.func G1) #[] d1) := cell_of hgw rfl
  have gl := heap_lt hgw
  have hl := h.lts
  have hwn := h.O.size
  have HH := hide h
  have HG1 := hide HG
  have HTa := hide HT1
  have HW2 := hide HW
  have HTb := hide HT2
  have HGg := hide hg
  clear hg hgw HG HT1 HW HT2 h
  go_enter Tryz.func281, Tryz.ntmps281
  go_wp2
  go_loopg [13] 2 (fun gh s13 wr => (gh = 2 ∧ s13 = .int .i64 0 ∧ wr = w.alloc (.cells #[.string ⟨#[]⟩, .string ⟨#[]⟩] 9)) ∨ (gh = 1 ∧ s13 = .int .i64 1 ∧ wr.heap[w.heap.size]? = some (.cells #[.string tx1, .string ⟨#[]⟩] 9 (0, 0)) ∧ Only (fun _ => False) w wr) ∨ (gh = 0 ∧ s13 = .int .i64 2 ∧ wr.heap[w.heap.size]? = some (.cells #[.string tx1, .string tx2] 9 (0, 0)) ∧ On8 p s1 wr ∧ Kept p w wr))
  case atStart => exact Or.inl ⟨rfl, rfl, rfl⟩
  case round =>
    rcases hrel with ⟨hgh, rfl, hw⟩ | ⟨hgh, rfl, h1, h3⟩ | ⟨hgh, rfl, h1, h2, h3⟩
    · subst hw
      go_wp2_with fail
      have O2 := (onlyA w (.cells #[.string ⟨#[]⟩, .string ⟨#[]⟩] 9)).alloc (.cells #[.func (.func F1) #[] caps1.toArray, .func (.func G1) #[] d1] 338)
      refine (HG1.out _ (HH.out.calm O2)).mono ?_
      rintro en w2 ⟨rfl, ho2⟩
      have hO2 := O2.trans ho2 (fun _ _ e => e)
      have HT2 := hide (HTa.out w2 (HH.out.calm hO2))
      have hb2 := (ho2.block w.heap.size (by simp; omega) (fun e => e)).trans ((Below.heap_alloc _ _ _ (by simp)).trans (new0 w (.cells #[.string ⟨#[]⟩, .string ⟨#[]⟩] 9)))
      have HB2 := hide hb2
      have HOw := hide hO2
      clear ho2 hO2 hb2 O2
      go_wp2_with (go_at_call 235; refine (HT2.out).mono ?_; rintro en w3 ⟨rfl, ho3⟩; have hb3 := (ho3.block w.heap.size (heap_lt HB2.out) (fun e => e)).trans HB2.out; have r0 : w3.cell? ⟨w.heap.size, 0, none⟩ = some (.string ⟨#[]⟩) := cell_of hb3 rfl; have rf := free_of hb3; have rl := heap_lt hb3; have HB3 := hide hb3; have HO3 := hide (HOw.out.trans ho3 (fun _ _ e => e)); clear hb3 ho3)
      go_roundg 1
      case measure => omega
      case rel => exact Or.inr (Or.inl ⟨rfl, rfl, heap_setCell_same HB3.out _, HO3.out.setCell (p := ⟨w.heap.size, 0, none⟩) (fun h => absurd h (by show ¬ w.heap.size < w.heap.size; omega)) _⟩)
    · have hgr := (h3.block g gl (fun e => e)).trans ((HH.out.O.block g (heap_lt HGg.out) (fun e => e)).trans HGg.out)
      have g2 : wr.cell? ⟨g, 2, none⟩ = some (.func (.func F2) #[] caps2.toArray) := cell_of hgr rfl
      have g3 : wr.cell? ⟨g, 3, none⟩ = some (.func (.func G2) #[] d2) := cell_of hgr rfl
      have grl := heap_lt hgr
      have HR1 := hide h1
      have HR3 := hide h3
      clear h1 h3 hgr
      go_wp2_with fail
      have O2 := HR3.out.alloc (.cells #[.func (.func F2) #[] caps2.toArray, .func (.func G2) #[] d2] 338)
      have hon := HH.out.calm O2
      refine (HW2.out _ hon).mono ?_
      rintro en w2 ⟨rfl, hq2, hk2⟩
      have hnr := HH.out.notRow O2 (q := w.heap.size) (Nat.le_refl _)
      obtain ⟨hb2, hn2⟩ := hk2.new9 hon hnr ((Below.heap_alloc _ _ _ (heap_lt HR1.out)).trans HR1.out)
      have HT2 := hide (HTb.out w2 hq2)
      have HB2 := hide hb2
      have HN2 := hide hn2
      have HQ2 := hide hq2
      have HK2 := hide ((Kept.of O2).trans hk2)
      clear O2 hon hq2 hk2 hnr hb2 hn2
      go_wp2_with (go_at_call 235; refine (HT2.out).mono ?_; rintro en w3 ⟨rfl, ho3⟩; have hb3 := (ho3.block w.heap.size (heap_lt HB2.out) (fun e => e)).trans HB2.out; have r0 : w3.cell? ⟨w.heap.size, 1, none⟩ = some (.string ⟨#[]⟩) := cell_of hb3 rfl; have rf := free_of hb3; have rl := heap_lt hb3; have HB3 := hide hb3; have HO3 := hide ho3; clear hb3 ho3)
      go_roundg 0
      case measure => omega
      case rel =>
        have hq3 := HQ2.out.calm HO3.out
        have hl2 := HQ2.out.lts
        have hn3 : ¬ KRow p w3 w.heap.size := fun ⟨kv, k1, k2⟩ => HN2.out ⟨kv, (HO3.out.block _ hl2.2.2.2.1 (fun e => e)).symm.trans k1, k2⟩
        exact Or.inr (Or.inr ⟨rfl, rfl, heap_setCell_same HB3.out _, hq3.other HB3.out (by omega) (by omega) (by omega) (by omega) (Or.inr hn3) (by decide) (by omega) 1 _, (HK2.out.trans (Kept.of HO3.out)).set (Nat.le_refl _) _⟩)
    · go_wp2
      go_ret
      exact ⟨_, rfl, h1, h2, h3⟩
end Go.Proofs.YtdbdbaepmdmnfaaGreatDoor

namespace Go.Proofs.YtdbdbaepmdmnfaaGreatDoor
open Go.RowKit
set_option maxRecDepth 20000 in
set_option maxHeartbeats 4000000 in
/-- A print of some expressions, whose texts are told. -/
theorem does_printG (p : Pl8) (s s1 : St8) (lb eb c g n : Nat) (z : Value) (hn : 0 < n) (xs : Array Value) (tx : ByteArray) (hlb : p.wN.heap[lb]? = some (.cells #[.slice (some ⟨g, 0, none⟩) n n] 252 (0, 0))) (heb : p.wN.heap[eb]? = some (.cells #[.func (.func 298) #[] #[.pointer (some ⟨c, 0, none⟩)], z] 338 (0, 0))) (hc : p.wN.heap[c]? = some (.cells #[.int .i64 0, .int .i64 0, .string ⟨#[]⟩] 203 (0, 0)))
    (HT : ∀ W, On8 p s W → Calls Tryz.prog 281 #[.pointer (some ⟨p.m, 0, none⟩), .slice (some ⟨g, 0, none⟩) n n] W fun en w' => ∃ tb, en = .returned (.slice (some ⟨tb, 0, none⟩) n n) ∧ w'.heap[tb]? = some (.cells xs 9 (0, 0)) ∧ On8 p s1 w' ∧ Kept p W w')
    (HJ : ∀ W tb, W.heap[tb]? = some (.cells xs 9 (0, 0)) → Calls Tryz.prog 283 #[.slice (some ⟨tb, 0, none⟩) n n, .string ⟨#[32]⟩] W fun en w' => en = .returned (.string tx) ∧ Only (fun _ => False) W w') (htx : tx.size ≤ 900) (hos : s1.out.size + tx.size + 1 ≤ 4000)
    (y0 : s1.cs[9]? = some (.int .i64 2)) (y1 : s1.cs[10]? = some (.int .i64 0)) (y2 : s1.cs[11]? = some (.string ⟨#[32]⟩)) (v0 : s1.cs[12]? = some (.int .i64 2)) (v1 : s1.cs[13]? = some (.int .i64 0)) (v2 : s1.cs[14]? = some (.string ⟨#[10]⟩)) : Does p s { s1 with out := s1.out ++ (tx ++ ⟨#[10]⟩) } (.func (.func 280) #[] #[.pointer (some ⟨lb, 0, none⟩), .pointer (some ⟨eb, 0, none⟩)]) := by
  refine ⟨280, [.pointer (some ⟨lb, 0, none⟩), .pointer (some ⟨eb, 0, none⟩)], rfl, cf280, fun w h => ?_⟩
  have hcf := cf480
  have hlw := (h.O.block lb (heap_lt hlb) (fun e => e)).trans hlb
  have l0 : w.cell? ⟨lb, 0, none⟩ = some (.slice (some ⟨g, 0, none⟩) n n) := cell_of hlw rfl
  have ll := heap_lt hlw
  have hLb : Hid (∀ W, On8 p s1 W → W.cell? ⟨lb, 0, none⟩ = some (.slice (some ⟨g, 0, none⟩) n n) ∧ lb < W.heap.size) := hide (fun W hW => by
    have hlW := (hW.O.block lb (heap_lt hlb) (fun e => e)).trans hlb
    exact ⟨cell_of hlW rfl, heap_lt hlW⟩)
  have hEb : Hid (∀ W, On8 p s1 W → W.cell? ⟨eb, 0, none⟩ = some (.func (.func 298) #[] #[.pointer (some ⟨c, 0, none⟩)]) ∧ eb < W.heap.size) := hide (fun W hW => by
    have heW := (hW.O.block eb (heap_lt heb) (fun e => e)).trans heb
    exact ⟨cell_of heW rfl, heap_lt heW⟩)
  have HC : Hid (∀ W, On8 p s1 W → Calls Tryz.prog 298 #[.pointer (some ⟨p.m, 0, none⟩), .pointer (some ⟨c, 0, none⟩)] W fun en w' => en = .returned (.agg #[.int .i64 0, .int .i64 0, .string ⟨#[]⟩]) ∧ Only (fun _ => False) W w') := hide (fun W hW => by
    have hcW := (hW.O.block c (heap_lt hc) (fun e => e)).trans hc
    refine (const_do (some ⟨p.m, 0, none⟩) c 0 0 ⟨#[]⟩ W (cell_of hcW rfl) (cell_of hcW rfl) (cell_of hcW rfl)).mono ?_
    rintro en w' ⟨e, rfl⟩
    exact ⟨e, onlyA _ _⟩)
  have HX : Hid (∀ W, Calls Tryz.prog 235 #[.agg #[.int .i64 0, .int .i64 0, .string ⟨#[]⟩]] W fun en w' => en = .returned (.string ⟨#[]⟩) ∧ Only (fun _ => False) W w') := hide (fun W => (text_any 0 0 ⟨#[]⟩ W (by decide)).mono (fun _ _ h => ⟨h.1, Only.ofBelow h.2 (fun _ => False)⟩))
  have HR : Hid (∀ W, On8 p s1 W → Calls Tryz.prog 282 #[.pointer (some ⟨p.m, 0, none⟩)] W fun en w' => en = .returned (.string s1.txt) ∧ w' = W) := hide (fun W hW => by
    obtain ⟨po, pn, pc, hM⟩ := hW.M
    exact record_text8 p.m p.ab p.vb s1.txt (.slice po pn pc) _ s1.out.size s1.fuel 0 W hM)
  have HO4 : Hid (∀ W, On8 p s1 W → Calls Tryz.prog 168 #[.pointer (some ⟨p.m, 0, none⟩), .int .i64 4] W fun en w' => en = .returned (.string ⟨#[10]⟩) ∧ Only (fun _ => False) W w') := hide (fun W hn => by
    obtain ⟨po, pn, pc, hM⟩ := hn.M
    exact mtext8 p.m p.ab p.vb s1.txt (.slice po pn pc) _ s1.out.size s1.fuel 0 4 2 0 ⟨#[10]⟩ (by decide) (by omega) W hM (hn.V.cell v0) (hn.V.cell v1) (hn.V.cell v2))
  have HO3 : Hid (∀ W, On8 p s1 W → Calls Tryz.prog 168 #[.pointer (some ⟨p.m, 0, none⟩), .int .i64 3] W fun en w' => en = .returned (.string ⟨#[32]⟩) ∧ Only (fun _ => False) W w') := hide (fun W hn => by
    obtain ⟨po, pn, pc, hM⟩ := hn.M
    exact mtext8 p.m p.ab p.vb s1.txt (.slice po pn pc) _ s1.out.size s1.fuel 0 3 2 0 ⟨#[32]⟩ (by decide) (by omega) W hM (hn.V.cell y0) (hn.V.cell y1) (hn.V.cell y2))
  have HPut := hide (fun W (hW : On8 p s1 W) => put_on p s1 (tx ++ ⟨#[10]⟩) (by rw [ByteArray.size_append]; show tx.size + 1 ≤ 1000; omega) (by rw [ByteArray.size_append]; show s1.out.size + (tx.size + 1) ≤ 4000; omega) W hW)
  have HJJ := hide HJ
  have HTT := hide (HT w h)
  have hts : tx.size + 1 ≤ 901 := by omega
  have hnI : (0 : Int) < (n : Int) := by omega
  clear h y0 y1 y2 v0 v1 v2 hlb heb hc hlw HT HJ htx hos
  go_enter Tryz.func280, Tryz.ntmps280
  go_wp2_with fail
  refine (HTT.out).mono ?_
  rintro en w2 ⟨tb, rfl, hb2, hq2, hk2⟩
  obtain ⟨e2, el⟩ := hEb.out w2 hq2
  have HC2 := hide (HC.out w2 hq2)
  have HB2 := hide hb2
  have HQ2 := hide hq2
  have HK2 := hide hk2
  clear hb2 hq2 hk2 HTT HC l0 ll
  go_wp2_with fail
  refine (HC2.out).mono ?_
  rintro en w3 ⟨rfl, ho3⟩
  have HOb := hide ho3
  have HB3 := hide ((ho3.block tb (heap_lt HB2.out) (fun e => e)).trans HB2.out)
  clear ho3 HC2 e2 el
  go_wp2_with fail
  refine (HX.out w3).mono ?_
  rintro en w4 ⟨rfl, ho4⟩
  have hOc := HOb.out.trans ho4 (fun _ _ e => e)
  have HB4 := hide ((ho4.block tb (heap_lt HB3.out) (fun e => e)).trans HB3.out)
  have hq4 := HQ2.out.calm hOc
  obtain ⟨l4, ll4⟩ := hLb.out w4 hq4
  have HR4 := hide (HR.out w4 hq4)
  have HS4 := hide (HO3.out w4 hq4)
  have HOc := hide hOc
  clear ho4 hOc HX HR HO3 hq4
  go_wp2_with (go_at_call 282; refine (HR4.out).mono ?_; rintro en w' ⟨rfl, h3⟩; subst w')
  refine (HS4.out).mono ?_
  rintro en w5 ⟨rfl, ho5⟩
  have hOd := HOc.out.trans ho5 (fun _ _ e => e)
  have hb5 := (ho5.block tb (heap_lt HB4.out) (fun e => e)).trans HB4.out
  have HJ := hide (HJJ.out w5 tb hb5)
  have HOd := hide hOd
  clear ho5 hOd hb5
  go_wp2_with fail
  refine (HJ.out).mono ?_
  rintro en w6 ⟨rfl, ho6⟩
  have hOe := HOd.out.trans ho6 (fun _ _ e => e)
  have HS6 := hide (HO4.out w6 (HQ2.out.calm hOe))
  have HOe := hide hOe
  clear ho6 hOe HO4 HJ
  go_wp2_with fail
  refine (HS6.out).mono ?_
  rintro en w7 ⟨rfl, ho7⟩
  have hOf := HOe.out.trans ho7 (fun _ _ e => e)
  have HP7 := hide (HPut.out w7 (HQ2.out.calm hOf))
  have HOf := hide hOf
  clear ho7 hOf HPut
  go_wp2_with (go_at_call 284; refine (HP7.out).mono ?_; rintro en w8 ⟨rfl, h1, h2⟩; have H1 := hide h1; have H2 := hide h2; clear h1 h2)
  go_ret
  exact ⟨rfl, H1.out, (HK2.out.trans (Kept.of HOf.out)).trans H2.out⟩
/-- A print of one expression. -/
theorem does_print (p : Pl8) (s : St8) (B : Nat) (I : Nat → World → Value → Prop) (v : Value) (hp : PrintK I B p.wN v) (a n : Int) (t tx : ByteArray) (hI : ∀ x y, I B p.wN (.agg #[x, y]) → Gives p s x (.agg #[.int .i64 a, .int .i64 n, .string t]) ∧ ∃ F2 c2, y = .func (.func F2) #[] c2)
    (HTx : ∀ W, On8 p s W → Calls Tryz.prog 235 #[.agg #[.int .i64 a, .int .i64 n, .string t]] W fun en w' => en = .returned (.string tx) ∧ Only (fun _ => False) W w') (htx : tx.size ≤ 900) (hos : s.out.size + tx.size + 1 ≤ 4000)
    (y0 : s.cs[9]? = some (.int .i64 2)) (y1 : s.cs[10]? = some (.int .i64 0)) (y2 : s.cs[11]? = some (.string ⟨#[32]⟩)) (v0 : s.cs[12]? = some (.int .i64 2)) (v1 : s.cs[13]? = some (.int .i64 0)) (v2 : s.cs[14]? = some (.string ⟨#[10]⟩)) : Does p s { s with out := s.out ++ (tx ++ ⟨#[10]⟩) } v := by
  obtain ⟨lb, eb, c, g, x, y, z, rfl, _, hlb, hg, hi, heb, hc⟩ := hp
  obtain ⟨⟨F, caps, rfl, hcf1, hG⟩, hy⟩ := hI x y hi
  refine does_printG p s s lb eb c g 1 z (by omega) #[.string tx] tx hlb heb hc (fun W hW => ?_) (fun W tb hb => ?_) htx hos y0 y1 y2 v0 v1 v2
  · have hgW := (hW.O.block g (heap_lt hg) (fun e => e)).trans hg
    refine (textsOf_oneG p.m g F caps y hy hcf1 a n t tx W hgW (fun W' h => HTx W' (hW.calm h)) (fun W' h => hG W' (hW.calm h))).mono ?_
    rintro en w' ⟨e, h1, h2⟩
    exact ⟨_, e, h1, hW.calm h2, Kept.of h2⟩
  · refine (join_one tb 1 tx ⟨#[32]⟩ W (cell_of hb rfl)).mono ?_
    rintro en w' ⟨e, rfl⟩
    exact ⟨e, Only.refl _ _⟩
theorem join_two (t1 t2 : ByteArray) (h : t1.size + t2.size + 1 ≤ 500) (W : World) (tb : Nat) (hb : W.heap[tb]? = some (.cells #[.string t1, .string t2] 9 (0, 0))) : Calls Tryz.prog 283 #[.slice (some ⟨tb, 0, none⟩) 2 2, .string ⟨#[32]⟩] W fun en w' => en = .returned (.string (ofB (t1.data.toList ++ [32] ++ t2.data.toList))) ∧ Only (fun _ => False) W w' := by
  have hL : joinsL [32] [t1.data.toList, t2.data.toList] = t1.data.toList ++ [32] ++ t2.data.toList := by simp [joinsL]
  have e1 : (ofB t1.data.toList) = t1 := rfl
  have e2 : (ofB t2.data.toList) = t2 := rfl
  have hr : W.ownsRow 0 9 1 (.slice (some ⟨tb, 0, none⟩) 2 2) 2 (strsV [t1.data.toList, t2.data.toList]) := ⟨by simp [strsV], Or.inr ⟨tb, 2, #[.string t1, .string t2], rfl, Nat.zero_le _, hb, by omega, by unfold maxLen; omega, rfl, by simp [strsV, e1, e2]⟩⟩
  have := join_row ⟨#[32]⟩ [t1.data.toList, t2.data.toList] (by simp) (by simp) (by show (joinsL [32] _).length ≤ 500; rw [hL]; simp; show t1.size + (t2.size + 1) ≤ 500; omega) 0 _ W hr
  rw [show (joinsL (⟨#[32]⟩ : ByteArray).data.toList [t1.data.toList, t2.data.toList]) = t1.data.toList ++ [32] ++ t2.data.toList from hL] at this
  exact this
/-- A print of two expressions, of which the second may turn the run. -/
theorem does_print2 (p : Pl8) (s s1 : St8) (B : Nat) (I J : Nat → World → Value → Prop) (v : Value) (hp : PrintK2 I J B p.wN v) (a1 n1 a2 n2 : Int) (t1 t2 tx1 tx2 : ByteArray) (hI : ∀ x y, I B p.wN (.agg #[x, y]) → Gives p s x (.agg #[.int .i64 a1, .int .i64 n1, .string t1]) ∧ ∃ F2 c2, y = .func (.func F2) #[] c2) (hJ : ∀ x y, J B p.wN (.agg #[x, y]) → Works p s s1 x (.agg #[.int .i64 a2, .int .i64 n2, .string t2]) ∧ ∃ F2 c2, y = .func (.func F2) #[] c2)
    (HT1 : ∀ W, On8 p s W → Calls Tryz.prog 235 #[.agg #[.int .i64 a1, .int .i64 n1, .string t1]] W fun en w' => en = .returned (.string tx1) ∧ Only (fun _ => False) W w') (HT2 : ∀ W, On8 p s1 W → Calls Tryz.prog 235 #[.agg #[.int .i64 a2, .int .i64 n2, .string t2]] W fun en w' => en = .returned (.string tx2) ∧ Only (fun _ => False) W w') (htx : tx1.size + tx2.size + 1 ≤ 500) (hos : s1.out.size + (tx1.size + tx2.size + 1) + 1 ≤ 4000)
    (y0 : s1.cs[9]? = some (.int .i64 2)) (y1 : s1.cs[10]? = some (.int .i64 0)) (y2 : s1.cs[11]? = some (.string ⟨#[32]⟩)) (v0 : s1.cs[12]? = some (.int .i64 2)) (v1 : s1.cs[13]? = some (.int .i64 0)) (v2 : s1.cs[14]? = some (.string ⟨#[10]⟩)) : Does p s { s1 with out := s1.out ++ (ofB (tx1.data.toList ++ [32] ++ tx2.data.toList) ++ ⟨#[10]⟩) } v := by
  obtain ⟨lb, eb, c, g, x, y, x', y', z, rfl, _, hlb, hg, hi, hj, heb, hc⟩ := hp
  obtain ⟨⟨F1, caps1, rfl, hcf1, hG⟩, hy1⟩ := hI x y hi
  obtain ⟨⟨F2, caps2, rfl, hcf2, hW⟩, hy2⟩ := hJ x' y' hj
  have hsz : (ofB (tx1.data.toList ++ [32] ++ tx2.data.toList)).size = tx1.size + tx2.size + 1 := by
    show (tx1.data.toList ++ [32] ++ tx2.data.toList).toArray.size = _
    simp
    show tx1.size + (tx2.size + 1) = _
    omega
  exact does_printG p s s1 lb eb c g 2 z (by omega) #[.string tx1, .string tx2] _ hlb heb hc (fun W hOn => textsOf_two p s s1 g F1 F2 caps1 caps2 y y' hy1 hy2 hcf1 hcf2 a1 n1 a2 n2 t1 t2 tx1 tx2 hG HT1 hW HT2 hg W hOn) (fun W tb hb => join_two tx1 tx2 htx W tb hb) (by rw [hsz]; omega) (by rw [hsz]; omega) y0 y1 y2 v0 v1 v2
end Go.Proofs.YtdbdbaepmdmnfaaGreatDoor

namespace Go.Proofs.YtdbdbaepmdmnfaaGreatDoor
open Go.RowKit
theorem func_same {F F' : Nat} {caps caps' : List Value} (e : Value.func (.func F) #[] caps.toArray = .func (.func F') #[] caps'.toArray) : F = F' ∧ caps = caps' := by
  injection e with e1 _ e2
  injection e1 with e1
  exact ⟨e1, by simpa using congrArg Array.toList e2⟩
theorem Works.at {p : Pl8} {s s' : St8} {F : Nat} {caps : List Value} {r : Value} (h : Works p s s' (.func (.func F) #[] caps.toArray) r) : Enters F ∧ ∀ W, On8 p s W → Calls Tryz.prog F (.pointer (some ⟨p.m, 0, none⟩) :: caps).toArray W fun en w' => en = .returned r ∧ On8 p s' w' ∧ Kept p W w' := by
  obtain ⟨F', caps', e, h1, h2⟩ := h
  obtain ⟨rfl, rfl⟩ := func_same e
  exact ⟨h1, h2⟩
theorem Does.at {p : Pl8} {s s' : St8} {F : Nat} {caps : List Value} (h : Does p s s' (.func (.func F) #[] caps.toArray)) : Enters F ∧ ∀ W, On8 p s W → Calls Tryz.prog F (.pointer (some ⟨p.m, 0, none⟩) :: caps).toArray W fun en w' => en = .returned (.int .i64 0) ∧ On8 p s' w' ∧ Kept p W w' := by
  obtain ⟨F', caps', e, h1, h2⟩ := h
  obtain ⟨rfl, rfl⟩ := func_same e
  exact ⟨h1, h2⟩
/-- Statements one behind the other. -/
theorem does_block (p : Pl8) (st : Nat → St8) (B n : Nat) (hn : n ≤ 100) (Ks : Nat → Nat → World → Value → Prop) (v : Value) (h : BlockK Ks n B p.wN v) (hK : ∀ i x, i < n → Ks i B p.wN x → Does p (st i) (st (i + 1)) x) : Does p (st 0) (st n) v := by
  obtain ⟨lc, g, cs, rfl, _, hlc, hg, hcs⟩ := h
  refine ⟨127, [.pointer (some ⟨lc, 0, none⟩)], rfl, cf127, fun w h => ?_⟩
  have hall : ∀ i, ∃ (F : Nat) (caps : List Value), i < n → cs[i]? = some (.func (.func F) #[] caps.toArray) ∧ Enters F ∧ ∀ W, On8 p (st i) W → Calls Tryz.prog F (.pointer (some ⟨p.m, 0, none⟩) :: caps).toArray W fun en w' => en = .returned (.int .i64 0) ∧ On8 p (st (i + 1)) w' ∧ Kept p W w' := fun i => by
    by_cases hi : i < n
    · obtain ⟨x, hx, hk⟩ := hcs i hi
      obtain ⟨F, caps, rfl, h1, h2⟩ := hK i x hi hk
      exact ⟨F, caps, fun _ => ⟨hx, h1, h2⟩⟩
    · exact ⟨0, [], fun h => absurd h hi⟩
  refine (block_do p.m lc g n n hn (fun i => Classical.choose (hall i)) (fun i hi => (Classical.choose_spec (Classical.choose_spec (hall i)) hi).2.1) (fun i => Classical.choose (Classical.choose_spec (hall i))) (fun i W => On8 p (st i) W ∧ Kept p w W) w (cell_of ((h.O.block lc (heap_lt hlc) (fun e => e)).trans hlc) rfl) ⟨h, Kept.of (Only.refl _ _)⟩ (fun i W hW => ?_) (fun i W hi hW => ?_)).mono (fun en w' h => ⟨h.1, h.2.1, h.2.2⟩)
  · have hgW := (hW.1.O.block g (heap_lt hg) (fun e => e)).trans hg
    refine ⟨heap_lt hgW, fun j hj => ?_⟩
    have := (Classical.choose_spec (Classical.choose_spec (hall j)) hj).1
    exact cell_of hgW this
  · refine ((Classical.choose_spec (Classical.choose_spec (hall i)) hi).2.2 _ (hW.1.calm (onlyA W _))).mono (fun en w' h => ⟨h.1, h.2.1, hW.2.trans ((Kept.of (onlyA W _)).trans h.2.2)⟩)
set_option maxRecDepth 20000 in
set_option maxHeartbeats 2000000 in
theorem turn_on (p : Pl8) (s s' : St8) (z : Value) (hD : Does p s s' z) (w : World) (h : On8 p s w) :
    Calls Tryz.prog 276 #[.agg #[z], .pointer (some ⟨p.m, 0, none⟩)] w fun en w' => en = .returned (.tuple #[.bool false, .int .i64 0]) ∧ On8 p s' w' ∧ Kept p w w' := by
  obtain ⟨F, caps, rfl, hcf, hD⟩ := hD
  unfold Enters at hcf
  have hsf := hsfT
  have HD := hide (hD _ (h.calm (onlyA w (.cells #[.func (.func F) #[] caps.toArray] 185))))
  clear h hD
  go_enter Tryz.func276, Tryz.ntmps276
  go_wp2_with fail
  refine (HD.out).mono ?_
  rintro en w2 ⟨rfl, hq, hk⟩
  have HQ := hide hq
  have HK := hide hk
  clear hq hk
  go_wp2
  go_ret2
  exact ⟨rfl, HQ.out, (Kept.of (onlyA w _)).trans HK.out⟩
/-- A state with one step more. -/
def St8.more (s : St8) : St8 := { s with fuel := s.fuel + 1 }
theorem step_on (p : Pl8) (s : St8) (hn : s.fuel ≤ 100000) (w : World) (h : On8 p s.more w) : Calls Tryz.prog 98 #[.pointer (some ⟨p.m, 0, none⟩)] w fun en w' => en = .returned (.tuple #[]) ∧ On8 p s w' ∧ Kept p w w' := by
  obtain ⟨po, pn, pc, hM⟩ := h.M
  refine (step_ok8 p.m p.ab p.vb s.txt (.slice po pn pc) _ s.out.size s.fuel 0 hn w hM).mono ?_
  rintro en w' ⟨e, rfl⟩
  have hst : On8 p { s with fuel := s.fuel } (w.setCell ⟨p.m, 7, none⟩ (.int .i64 s.fuel)) := On8.step (s := s) (n := s.fuel) h
  exact ⟨e, hst, Kept.ofV (D := fun q => q = p.m) h (fun q e => Or.inl e) ((Only.refl (fun q => q = p.m) w).setCell (p := ⟨p.m, 7, none⟩) (fun _ => rfl) _)⟩
end Go.Proofs.YtdbdbaepmdmnfaaGreatDoor

