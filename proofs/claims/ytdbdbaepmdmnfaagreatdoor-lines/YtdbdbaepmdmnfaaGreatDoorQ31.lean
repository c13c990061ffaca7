import Derived.Test.YtdbdbaepmdmnfaaGreatDoorQ30
import Derived.LaidEql
namespace Go.Proofs.YtdbdbaepmdmnfaaGreatDoor
open Go.RowKit
theorem cf304 (args : Array Value) (w : World) : (callFunc 162 args).run Tryz.prog w = .ok (.enter 162 args) w := callFunc_in Tryz.func162 (by kernel_rfl) rfl args w
theorem cf479 (args : Array Value) (w : World) : (callFunc 297 args).run Tryz.prog w = .ok (.enter 297 args) w := callFunc_in Tryz.func297 (by kernel_rfl) rfl args w
theorem cf579 (args : Array Value) (w : World) : (callFunc 401 args).run Tryz.prog w = .ok (.enter 401 args) w := callFunc_in Tryz.func401 (by kernel_rfl) rfl args w
theorem cf462 (args : Array Value) (w : World) : (callFunc 280 args).run Tryz.prog w = .ok (.enter 280 args) w := callFunc_in Tryz.func280 (by kernel_rfl) rfl args w
theorem cf236 (args : Array Value) (w : World) : (callFunc 127 args).run Tryz.prog w = .ok (.enter 127 args) w := callFunc_in Tryz.func127 (by kernel_rfl) rfl args w
def abcX : ByteArray := ⟨#[97, 98, 99]⟩
/-- A run under way: what was there when the program was ready stands; the machine's three blocks are younger. -/
structure Under (wN wS W : World) (m ab vb sb : Nat) (txt : ByteArray) (size n : Nat) (sv : Value) (cs : List Value) : Prop where
  hm : wN.heap.size ≤ m
  hv : wN.heap.size ≤ vb
  hs : wN.heap.size ≤ sb
  nmv : m ≠ vb
  nms : m ≠ sb
  nvs : vb ≠ sb
  hM : ∃ po pn pc, MAt W m ab vb txt (.slice po pn pc) (.slice (some ⟨sb, 0, none⟩) 1 1) size n 0
  hV : VAt W vb cs
  hS : W.heap[sb]? = some (.cells #[.string ⟨#[]⟩, sv] 142 (0, 0))
  hO : Only (fun _ => False) wN W
  hT : Only (fun k => k = m ∨ k = vb ∨ k = sb) wS W
theorem Under.calm {wN wS W W' m ab vb sb txt size n sv cs} (h : Under wN wS W m ab vb sb txt size n sv cs) (ho : Only (fun _ => False) W W') : Under wN wS W' m ab vb sb txt size n sv cs := by
  obtain ⟨po, pn, pc, hM⟩ := h.hM
  exact ⟨h.hm, h.hv, h.hs, h.nmv, h.nms, h.nvs, ⟨po, pn, pc, hM.only ho (fun e => e)⟩, h.hV.only ho (fun e => e), (ho.block sb (heap_lt h.hS) (fun e => e)).trans h.hS, h.hO.trans ho (fun _ _ e => e), h.hT.trans ho (fun _ _ e => e.elim)⟩
theorem Under.step {wN wS W m ab vb sb txt size n sv cs} (h : Under wN wS W m ab vb sb txt size (n + 1) sv cs) : Under wN wS (W.setCell ⟨m, 7, none⟩ (.int .i64 n)) m ab vb sb txt size n sv cs := by
  obtain ⟨po, pn, pc, hM⟩ := h.hM
  have ho : Only (fun k => k = m) W (W.setCell ⟨m, 7, none⟩ (.int .i64 n)) := (Only.refl (fun k => k = m) W).setCell (p := ⟨m, 7, none⟩) (fun _ => rfl) _
  have hm := h.hm
  exact ⟨h.hm, h.hv, h.hs, h.nmv, h.nms, h.nvs, ⟨po, pn, pc, hM.setFuel n⟩, h.hV.only ho (fun e => h.nmv e.symm), (ho.block sb (heap_lt h.hS) (fun e => h.nms e.symm)).trans h.hS, h.hO.trans ho (fun q hq e => by omega), h.hT.trans ho (fun _ _ e => Or.inl e)⟩
/-- The variables are those that a run begins with, but for the first two. -/
def Vs (cs : List Value) : Prop := (∃ x3 x4 x5, cs[3]? = some x3 ∧ cs[4]? = some x4 ∧ cs[5]? = some x5) ∧ cs[6]? = some (.int .i64 2) ∧ cs[7]? = some (.int .i64 0) ∧ cs[8]? = some (.string ⟨#[32]⟩) ∧ cs[12]? = some (.int .i64 2) ∧ cs[13]? = some (.int .i64 0) ∧ cs[14]? = some (.string ⟨#[10]⟩)
theorem Vs.set345 {cs : List Value} (h : Vs cs) (a b c : Value) : Vs (((cs.set 3 a).set 4 b).set 5 c) := by
  obtain ⟨⟨x3, x4, x5, h3, h4, h5⟩, f0, f1, f2, g0, g1, g2⟩ := h
  have l3 := (List.getElem?_eq_some_iff.1 h3).1
  have l4 := (List.getElem?_eq_some_iff.1 h4).1
  have l5 := (List.getElem?_eq_some_iff.1 h5).1
  refine ⟨⟨a, b, c, ?_, ?_, ?_⟩, setNe (setNe (setNe f0 (by decide)) (by decide)) (by decide), setNe (setNe (setNe f1 (by decide)) (by decide)) (by decide), setNe (setNe (setNe f2 (by decide)) (by decide)) (by decide), setNe (setNe (setNe g0 (by decide)) (by decide)) (by decide), setNe (setNe (setNe g1 (by decide)) (by decide)) (by decide), setNe (setNe (setNe g2 (by decide)) (by decide)) (by decide)⟩
  · rw [List.getElem?_set_ne (by decide), List.getElem?_set_ne (by decide), List.getElem?_set_self (by simpa using l3)]
  · rw [List.getElem?_set_ne (by decide), List.getElem?_set_self (by simpa using l4)]
  · rw [List.getElem?_set_self (by simpa using l5)]
/-- The replacing statement, done. -/
theorem work_stmt_do (G : Nat → World → Value → Nat → Prop) (hG : Calm G) (hGL : ∀ C W v f, G C W v f → LensOK W v f) (B : Nat) (wN wS : World) (x : Value) (hx : StF (WorkF G ⟨#[45]⟩) B wN x) (m ab vb sb size n : Nat) (sv : Value) (cs : List Value) (hcs : Vs cs) (hn : n ≤ 100000) (W : World) (h : Under wN wS W m ab vb sb abcX size (n + 1) sv cs) :
    ∃ F caps, x = .func (.func F) #[] (caps : List Value).toArray ∧ F = 162 ∧ Calls Tryz.prog F (.pointer (some ⟨m, 0, none⟩) :: caps).toArray W fun en w' => en = .returned (.int .i64 0) ∧ ∃ cs', Vs cs' ∧ Under wN wS w' m ab vb sb outX size n sv cs' := by
  have hS := h.step
  have hx2 := (st_keeps (work_keeps hG ⟨#[45]⟩)).keep _ _ _ _ hx (hS.hO.mono (fun _ _ e => e.elim))
  obtain ⟨bN, fN, eN, _, hbN, ecN, yN, zN, eF, _⟩ := hx
  obtain ⟨b, f, e, _, hb, ec, y, z, rfl, _, hec, hr⟩ := hx2
  obtain ⟨b7, b8, b9, b5, x7, x8, y8, x9, y9, e2, _, h7, hp, h8, hc, h9, hf, h5⟩ := hr
  cases e2
  rw [eN] at e
  cases e
  subst eN
  have hbm : bN ≠ m := fun e => by have := heap_lt hbN; have := h.hm; omega
  have hbW := (h.hO.block bN (heap_lt hbN) (fun e => e)).trans hbN
  have hfe : fN = .func (.func 297) #[] #[.pointer (some ⟨ec, 0, none⟩)] := by
    have h1 := (hS.hO.block bN (heap_lt hbN) (fun e => e)).trans hbN
    rw [hb] at h1; cases h1; rfl
  rw [hfe] at hbW
  obtain ⟨po, pn, pc, hM⟩ := h.hM
  refine ⟨162, [.pointer (some ⟨bN, 0, none⟩)], rfl, rfl, ?_⟩
  refine stmt_do m ab vb bN 297 cf479 [.pointer (some ⟨ec, 0, none⟩)] abcX (.slice po pn pc) (.slice (some ⟨sb, 0, none⟩) 1 1) size n 0 hn _ W hM hbm (cell_of hbW rfl) ?_
  refine working_do m ec 401 cf579 [.pointer (some ⟨b7, 0, none⟩), .pointer (some ⟨b8, 0, none⟩), .pointer (some ⟨b9, 0, none⟩), .pointer (some ⟨b5, 0, none⟩)] _ _ (cell_of hec rfl) ?_
  obtain ⟨po1, pn1, pc1, hM1⟩ := hS.hM
  have hcs2 := hcs
  obtain ⟨⟨x3, x4, x5, i3, i4, i5⟩, f0, f1, f2, _⟩ := hcs2
  refine (repl_do G hGL B b7 b8 b9 b5 x7 x8 y8 x9 y9 m ab vb po1 pn1 pc1 (.slice (some ⟨sb, 0, none⟩) 1 1) size n 0 cs x3 x4 x5 _ h7 hp h8 hc h9 hf h5 hM1 hS.hV i3 i4 i5 f0 f1 f2 hS.nmv).mono ?_
  rintro en w' ⟨hv, ⟨po2, cap2, hM2⟩, hV2, hO2⟩
  have hm := hS.hm
  have hvv := hS.hv
  exact ⟨hv, _, hcs.set345 _ _ _, ⟨hS.hm, hS.hv, hS.hs, hS.nmv, hS.nms, hS.nvs, ⟨po2, _, cap2, hM2⟩, hV2, (hO2.block sb (heap_lt hS.hS) (fun e => e.elim (fun e => hS.nms e.symm) (fun e => hS.nvs e.symm))).trans hS.hS, hS.hO.trans hO2 (fun q hq e => by omega), hS.hT.trans hO2 (fun _ _ e => e.elim Or.inl (fun e => Or.inr (Or.inl e)))⟩⟩
end Go.Proofs.YtdbdbaepmdmnfaaGreatDoor

namespace Go.Proofs.YtdbdbaepmdmnfaaGreatDoor
open Go.RowKit
def outN : ByteArray := outX ++ ⟨#[10]⟩
/-- The printing statement, done. -/
theorem print_stmt_do (B : Nat) (wN wS : World) (x : Value) (hx : StF PrintF B wN x) (m ab vb sb n : Nat) (cs : List Value) (hcs : Vs cs) (hn : n ≤ 100000) (W : World) (h : Under wN wS W m ab vb sb outX 0 (n + 1) (.slice none 0 0) cs) :
    ∃ F caps, x = .func (.func F) #[] (caps : List Value).toArray ∧ F = 162 ∧ Calls Tryz.prog F (.pointer (some ⟨m, 0, none⟩) :: caps).toArray W fun en w' => en = .returned (.int .i64 0) ∧ ∃ tv, Under wN wS w' m ab vb sb outX outN.size n tv cs ∧ w'.ownsRow 0 5 1 tv outN.size (Lib.strCells outN) := by
  have hS := h.step
  have hx2 := (st_keeps print_keeps).keep _ _ _ _ hx (hS.hO.mono (fun _ _ e => e.elim))
  obtain ⟨bN, fN, eN, _, hbN, _⟩ := hx
  obtain ⟨b, f, e, _, hb, lb, eb, c, g, z, rfl, _, hlb, heb, hc⟩ := hx2
  rw [eN] at e
  cases e
  subst eN
  have hbm : bN ≠ m := fun e => by have := heap_lt hbN; have := h.hm; omega
  have hbW := (h.hO.block bN (heap_lt hbN) (fun e => e)).trans hbN
  have hfe : fN = .func (.func 280) #[] #[.pointer (some ⟨lb, 0, none⟩), .pointer (some ⟨eb, 0, none⟩)] := by
    have h1 := (hS.hO.block bN (heap_lt hbN) (fun e => e)).trans hbN
    rw [hb] at h1; cases h1; rfl
  rw [hfe] at hbW
  obtain ⟨po, pn, pc, hM⟩ := h.hM
  refine ⟨162, [.pointer (some ⟨bN, 0, none⟩)], rfl, rfl, ?_⟩
  refine stmt_do m ab vb bN 280 cf462 [.pointer (some ⟨lb, 0, none⟩), .pointer (some ⟨eb, 0, none⟩)] outX (.slice po pn pc) (.slice (some ⟨sb, 0, none⟩) 1 1) 0 n 0 hn _ W hM hbm (cell_of hbW rfl) ?_
  obtain ⟨po1, pn1, pc1, hM1⟩ := hS.hM
  obtain ⟨_, _, _, _, g0, g1, g2⟩ := hcs
  refine (print_do m ab vb sb lb eb c (some ⟨g, 0, none⟩) 0 outX (.slice po1 pn1 pc1) n 0 (by decide) _ hM1 hS.hS (hS.hV.cell g0) (hS.hV.cell g1) (hS.hV.cell g2) (heap_lt hS.hV) (cell_of hlb rfl) (heap_lt hlb) (cell_of heb rfl) (heap_lt heb) (cell_of hc rfl) (cell_of hc rfl) (cell_of hc rfl) (heap_lt hc)).mono ?_
  rintro en w' ⟨hv, hM2, ⟨tv, hS2, hown⟩, hO2⟩
  have hm := hS.hm
  have hvv := hS.hs
  exact ⟨hv, tv, ⟨hS.hm, hS.hv, hS.hs, hS.nmv, hS.nms, hS.nvs, ⟨po1, pn1, pc1, hM2⟩, hS.hV.only hO2 (fun e => e.elim (fun e => hS.nmv e.symm) (fun e => hS.nvs e)), hS2, hS.hO.trans hO2 (fun q hq e => by omega), hS.hT.trans hO2 (fun _ _ e => e.elim Or.inl (fun e => Or.inr (Or.inr e)))⟩, hown⟩
/-- What the rule's block does with the record abc. -/
theorem body_do (G : Nat → World → Value → Nat → Prop) (hG : Calm G) (hGL : ∀ C W v f, G C W v f → LensOK W v f) (B : Nat) (wN wS : World) (x : Value) (hx : BlockF (StF (WorkF G ⟨#[45]⟩)) (StF PrintF) B wN x) (m ab vb sb n : Nat) (cs : List Value) (hcs : Vs cs) (hn : n + 1 ≤ 100000) (W : World) (h : Under wN wS W m ab vb sb abcX 0 (n + 1 + 1) (.slice none 0 0) cs) :
    ∃ lc, x = .func (.func 127) #[] #[.pointer (some ⟨lc, 0, none⟩)] ∧ Calls Tryz.prog 127 #[.pointer (some ⟨m, 0, none⟩), .pointer (some ⟨lc, 0, none⟩)] W fun en w' => en = .returned (.int .i64 0) ∧ ∃ cs' tv, Vs cs' ∧ Under wN wS w' m ab vb sb outX outN.size n tv cs' ∧ w'.ownsRow 0 5 1 tv outN.size (Lib.strCells outN) := by
  obtain ⟨lc, g, x0, x1, rfl, _, hlc, hg, h0, h1⟩ := hx
  refine ⟨lc, rfl, ?_⟩
  obtain ⟨F0, cap0, e0⟩ := (st_keeps (work_keeps hG ⟨#[45]⟩)).isF _ _ _ h0
  obtain ⟨F1, cap1, e1⟩ := (st_keeps print_keeps).isF _ _ _ h1
  have hw0 : ∀ cs W n, Vs cs → n ≤ 100000 → Under wN wS W m ab vb sb abcX 0 (n + 1) (.slice none 0 0) cs → _ := fun cs W n a b c => work_stmt_do G hG hGL B wN wS x0 h0 m ab vb sb 0 n (.slice none 0 0) cs a b W c
  have hw1 : ∀ cs W n, Vs cs → n ≤ 100000 → Under wN wS W m ab vb sb outX 0 (n + 1) (.slice none 0 0) cs → _ := fun cs W n a b c => print_stmt_do B wN wS x1 h1 m ab vb sb n cs a b W c
  obtain ⟨b0, y0, hx0, _⟩ := h0
  obtain ⟨b1, y1, hx1, _⟩ := h1
  refine (block_do m lc g 2 2 (by omega) (fun _ => 162) (fun i _ => cf304) (fun i => if i = 0 then [.pointer (some ⟨b0, 0, none⟩)] else [.pointer (some ⟨b1, 0, none⟩)]) (fun i W => if i = 0 then Under wN wS W m ab vb sb abcX 0 (n + 1 + 1) (.slice none 0 0) cs else if i = 1 then ∃ cs', Vs cs' ∧ Under wN wS W m ab vb sb outX 0 (n + 1) (.slice none 0 0) cs' else Only (fun _ => False) wN W ∧ ∃ cs' tv, Vs cs' ∧ Under wN wS W m ab vb sb outX outN.size n tv cs' ∧ W.ownsRow 0 5 1 tv outN.size (Lib.strCells outN)) W (cell_of ((h.hO.block lc (heap_lt hlc) (fun e => e)).trans hlc) rfl) h ?_ ?_).mono ?_
  · intro i W2 hJ
    have hO : Only (fun _ => False) wN W2 := by
      by_cases hi : i = 0
      · rw [if_pos hi] at hJ; exact hJ.hO
      · rw [if_neg hi] at hJ
        by_cases hi1 : i = 1
        · rw [if_pos hi1] at hJ; obtain ⟨_, _, hJ⟩ := hJ; exact hJ.hO
        · rw [if_neg hi1] at hJ; exact hJ.1
    have hb := (hO.block g (heap_lt hg) (fun e => e)).trans hg
    refine ⟨heap_lt hb, fun j hj => ?_⟩
    have : j = 0 ∨ j = 1 := by omega
    rcases this with rfl | rfl
    · rw [cell_of hb (o := 0) rfl, hx0]; rfl
    · rw [cell_of hb (o := 1) rfl, hx1]; rfl
  · intro i W2 hi hJ
    have : i = 0 ∨ i = 1 := by omega
    rcases this with rfl | rfl
    · obtain ⟨F, caps, e, rfl, hC⟩ := hw0 cs (W2.alloc _) (n + 1) hcs (by omega) (Under.calm hJ (onlyA W2 (.cells #[.func (.func 162) #[] #[.pointer (some ⟨b0, 0, none⟩)]] 185)))
      rw [hx0] at e
      have hce : caps = [.pointer (some ⟨b0, 0, none⟩)] := by
        injection e with _ _ e3
        have := congrArg Array.toList e3
        simpa using this.symm
      subst hce
      exact hC
    · obtain ⟨cs', hcs', hJ'⟩ := hJ
      obtain ⟨F, caps, e, rfl, hC⟩ := hw1 cs' (W2.alloc _) n hcs' (by omega) (Under.calm hJ' (onlyA W2 (.cells #[.func (.func 162) #[] #[.pointer (some ⟨b1, 0, none⟩)]] 185)))
      rw [hx1] at e
      have hce : caps = [.pointer (some ⟨b1, 0, none⟩)] := by
        injection e with _ _ e3
        have := congrArg Array.toList e3
        simpa using this.symm
      subst hce
      exact hC.mono (fun en w' h => ⟨h.1, h.2.choose_spec.1.hO, cs', h.2.choose, hcs', h.2.choose_spec.1, h.2.choose_spec.2⟩)
  · rintro en w' ⟨rfl, hJ⟩
    exact ⟨rfl, hJ.2⟩
end Go.Proofs.YtdbdbaepmdmnfaaGreatDoor

namespace Go.Proofs.YtdbdbaepmdmnfaaGreatDoor
open Go.RowKit
set_option maxRecDepth 100000 in
theorem ext536 (w : World) : (callFunc 354 #[.string ⟨#[97, 98, 99]⟩, .int .u8 10]).run Tryz.prog w = .ok (.value (.int .i64 (-1))) w := by
  kernel_rfl
set_option maxRecDepth 20000 in
set_option maxHeartbeats 1000000 in
theorem ib_abc (w : World) : Calls Tryz.prog 229 #[.string ⟨#[97, 98, 99]⟩, .int .u8 10] w fun en w' => en = .returned (.int .i64 (-1)) ∧ w' = w := by
  have hx := ext536
  go_enter Tryz.func229, Tryz.ntmps229
  go_wp2
  go_ret
  exact ⟨rfl, rfl⟩
set_option maxRecDepth 20000 in
set_option maxHeartbeats 2000000 in
theorem ix_abc (w : World) : Calls Tryz.prog 164 #[.string ⟨#[97, 98, 99]⟩, .string ⟨#[10]⟩] w fun en w' => en = .returned (.int .i64 (-1)) ∧ w' = w := by
  have HI := hide ib_abc
  go_enter Tryz.func164, Tryz.ntmps164
  go_wp2_with (go_at_call 229; refine (HI.out _).mono ?_; rintro en w' ⟨rfl, h3⟩; subst w')
  go_ret
  exact ⟨rfl, rfl⟩
set_option maxRecDepth 20000 in
set_option maxHeartbeats 2000000 in
theorem cut_lite (w : World) : Calls Tryz.prog 130 #[.string ⟨#[97, 98, 99]⟩, .string ⟨#[10]⟩] w fun en w' => en = .returned (.tuple #[.string ⟨#[97, 98, 99]⟩, .string ⟨#[]⟩, .bool false]) ∧ w' = w := by
  have HI := hide ix_abc
  go_enter Tryz.func130, Tryz.ntmps130
  go_wp2_with (go_at_call 164; refine (HI.out _).mono ?_; rintro en w' ⟨rfl, h3⟩; subst w')
  refine bodyPost_ret (v := .tuple #[.string ⟨#[97, 98, 99]⟩, .string ⟨#[]⟩, .bool false]) (by simp [results, Tryz.results130, go_sem]) rfl ⟨rfl, rfl⟩
set_option maxRecDepth 20000 in
set_option maxHeartbeats 2000000 in
theorem cut_abc (w : World) : Calls Tryz.prog 99 #[.string ⟨#[97, 98, 99]⟩, .string ⟨#[10]⟩] w fun en w' => en = .returned (.tuple #[.string ⟨#[97, 98, 99]⟩, .string ⟨#[]⟩, .bool false]) ∧ w' = w := by
  have HI := hide cut_lite
  go_enter Tryz.func99, Tryz.ntmps99
  go_wp2_with (go_at_call 130; refine (HI.out _).mono ?_; rintro en w' ⟨rfl, h3⟩; subst w')
  refine bodyPost_ret (v := .tuple #[.string ⟨#[97, 98, 99]⟩, .string ⟨#[]⟩, .bool false]) (by simp [results, Tryz.results99, go_sem]) rfl ⟨rfl, rfl⟩
theorem vs_read : Vs (((((((first7.set 0 (.int .i64 1)).set 1 (.int .i64 1)).set 2 (.string ⟨#[]⟩))).set 3 (.int .i64 1)).set 4 (.int .i64 (words [] abcX.data.toList).length)).set 5 (.string ⟨#[]⟩)) := ⟨⟨_, _, _, rfl, rfl, rfl⟩, rfl, rfl, rfl, rfl, rfl, rfl⟩
/-- The rule's block of the program. -/
def KG (G : Nat → World → Value → Nat → Prop) : Nat → World → Value → Prop := BlockF (StF (WorkF G ⟨#[45]⟩)) (StF PrintF)
set_option maxRecDepth 20000 in
set_option maxHeartbeats 8000000 in
theorem readAll_do (G : Nat → World → Value → Nat → Prop) (hG : Calm G) (hGL : ∀ C W v f, G C W v f → LensOK W v f) (B pb : Nat) (rs : Value) (wN wS : World) (hp : wN.heap[pb]? = some (.cells #[.slice none 0 0, rs, .slice none 0 0, .int .i64 7, .int .i64 0] 135 (0, 0))) (hr : RuleF (KG G) B wN rs) (m ab vb sb n : Nat) (hn : n ≤ 1000) (w : World) (h : Under wN wS w m ab vb sb ⟨#[]⟩ 0 (n + 1 + 1 + 1) (.slice none 0 0) first7) :
    Calls Tryz.prog 64 #[.pointer (some ⟨pb, 0, none⟩), .pointer (some ⟨m, 0, none⟩), .string abcX] w fun en w' => en = .returned (.tuple #[]) ∧ ∃ cs tv, Under wN wS w' m ab vb sb outX outN.size n tv cs ∧ w'.ownsRow 0 5 1 tv outN.size (Lib.strCells outN) := by
  obtain ⟨po, pn, pc, hM⟩ := h.hM
  have HS := hide (step_ok m ab vb ⟨#[]⟩ (.slice po pn pc) (.slice (some ⟨sb, 0, none⟩) 1 1) 0 (n + 1 + 1) 0 (by omega) w hM)
  have HC := hide cut_abc
  have hU1 := h.step
  obtain ⟨po1, pn1, pc1, hM1⟩ := hU1.hM
  have HRd := hide (read_do m ab vb ⟨#[]⟩ abcX po1 pn1 pc1 (.slice (some ⟨sb, 0, none⟩) 1 1) 0 (n + 1 + 1) 0 first7 (.int .i64 1) (.int .i64 0) (.string ⟨#[]⟩) (by decide) (by decide) _ hM1 hU1.hV rfl rfl rfl rfl rfl rfl rfl rfl rfl hU1.nmv)
  obtain ⟨cg, x, hown, hx⟩ := hr
  obtain ⟨g, cap, ers, hgl, hgc⟩ := own_at hown (by simp)
  have HU := hide hU1
  have HDo : Hid (∀ W, Under wN wS W m ab vb sb abcX 0 (n + 1 + 1) (.slice none 0 0) (((((((first7.set 0 (.int .i64 1)).set 1 (.int .i64 1)).set 2 (.string ⟨#[]⟩))).set 3 (.int .i64 1)).set 4 (.int .i64 (words [] abcX.data.toList).length)).set 5 (.string ⟨#[]⟩)) → Calls Tryz.prog 101 #[.pointer (some ⟨pb, 0, none⟩), .pointer (some ⟨m, 0, none⟩)] W fun en w' => en = .returned (.tuple #[]) ∧ ∃ cs tv, Under wN wS w' m ab vb sb outX outN.size n tv cs ∧ w'.ownsRow 0 5 1 tv outN.size (Lib.strCells outN)) := fun W hW => by
    obtain ⟨lc, ex, hC⟩ := body_do G hG hGL B wN wS x hx m ab vb sb n _ vs_read (by omega) W hW
    have hpW := (hW.hO.block pb (heap_lt hp) (fun e => e)).trans hp
    have c0 := (hW.hO.cell (p := ⟨g, 0, none⟩) hgl (fun e => e)).trans (hgc 0 _ rfl)
    have c2 := (hW.hO.cell (p := ⟨g, 2, none⟩) hgl (fun e => e)).trans (hgc 2 _ rfl)
    rw [ex] at c2
    refine doRules_one pb m g cap 127 (some ⟨cg, 0, none⟩) 0 cf236 [.pointer (some ⟨lc, 0, none⟩)] _ W ?_ c0 c2 (hC.mono ?_)
    · have c1 : W.cell? ⟨pb, 1, none⟩ = some rs := cell_of hpW rfl
      rw [c1, ers]
    · rintro en w' ⟨e, cs, tv, _, h1, h2⟩
      exact ⟨e, cs, tv, h1, h2⟩
  clear h hM hU1 hM1 hown hx hgc hgl ers hp
  unfold abcX at *
  go_enter Tryz.func64, Tryz.ntmps64
  go_wp2
  go_loopg [2] 1 (fun gh s2 wr => (gh = 1 ∧ s2 = .string ⟨#[97, 98, 99]⟩ ∧ w = wr) ∨ (gh = 0 ∧ s2 = .string ⟨#[]⟩ ∧ ∃ cs tv, Under wN wS wr m ab vb sb outX outN.size n tv cs ∧ wr.ownsRow 0 5 1 tv outN.size (Lib.strCells outN)))
  case atStart => exact Or.inl ⟨rfl, rfl, rfl⟩
  case round =>
    rcases hrel with ⟨hg, rfl, ew⟩ | ⟨hg, rfl, hfin⟩
    · subst ew
      subst hg
      go_wp2_with (first | (go_at_call 98; refine (HS.out).mono ?_; rintro en w2 ⟨rfl, hw2⟩; subst hw2) | (go_at_call 99; refine (HC.out _).mono ?_; rintro en w' ⟨rfl, h3⟩; subst w'))
      refine (HRd.out).mono ?_
      rintro en w3 ⟨rfl, ⟨po3, cap3, hM3⟩, hV3, hO3⟩
      have HD3 := hide (HDo.out w3 ⟨HU.out.hm, HU.out.hv, HU.out.hs, HU.out.nmv, HU.out.nms, HU.out.nvs, ⟨po3, _, cap3, hM3⟩, hV3, (hO3.block sb (heap_lt HU.out.hS) (fun e => e.elim (fun e => HU.out.nms e.symm) (fun e => HU.out.nvs e.symm))).trans HU.out.hS, HU.out.hO.trans hO3 (fun q hq e => by have := HU.out.hm; have := HU.out.hv; omega), HU.out.hT.trans hO3 (fun _ _ e => e.elim Or.inl (fun e => Or.inr (Or.inl e)))⟩)
      clear hM3 hV3 hO3
      go_wp2_with fail
      refine (HD3.out).mono ?_
      rintro en w4 ⟨rfl, hq⟩
      have HQ := hide hq
      clear hq
      go_wp2
      go_roundg 0
      case measure => omega
      case rel => exact Or.inr ⟨rfl, rfl, HQ.out⟩
    · have HQ := hide hfin
      clear hfin
      go_wp2
      go_end0
      exact ⟨rfl, HQ.out⟩
end Go.Proofs.YtdbdbaepmdmnfaaGreatDoor

namespace Go.Proofs.YtdbdbaepmdmnfaaGreatDoor
open Go.RowKit
/-- The eight errors of package fault are there. -/
def Sent (w : World) : Prop := ∀ k, k ≤ 7 → ∃ a, w.cell? ⟨k, 0, none⟩ = some (.iface 558 (.pointer (some a)))
theorem Sent.only {w w' : World} (h : Sent w) (ho : Only (fun _ => False) w w') : Sent w' := fun k hk => by
  obtain ⟨a, ha⟩ := h k hk
  exact ⟨a, (ho.cell (p := ⟨k, 0, none⟩) (World.block_lt_of_cell? w _ ha) (fun e => e)).trans ha⟩
set_option maxRecDepth 100000 in
set_option maxHeartbeats 1000000 in
theorem is_nilA (b : Addr) (w : World) :
    Calls Tryz.prog 68 #[.nilIface, .iface 558 (.pointer (some b))] w fun e w' => e = .returned (.bool false) ∧ w' = w := by
  have hn := run_eql_iface_nil_left (P := Tryz.prog) w 558 (.pointer (some b)) Tryz.underlying74
  go_enter Tryz.func68, Tryz.ntmps68
  go_wp2
  go_ret
  exact ⟨rfl, rfl⟩
set_option maxRecDepth 100000 in
set_option maxHeartbeats 4000000 in
theorem errno_nil (w : World) (h : Sent w) : Calls Tryz.prog 43 #[.nilIface] w fun e w' => e = .returned (.int .i64 0) ∧ w' = w := by
  obtain ⟨b0, c0⟩ := h 0 (by decide)
  obtain ⟨b1, c1⟩ := h 1 (by decide)
  obtain ⟨b2, c2⟩ := h 2 (by decide)
  obtain ⟨b3, c3⟩ := h 3 (by decide)
  obtain ⟨b4, c4⟩ := h 4 (by decide)
  obtain ⟨b5, c5⟩ := h 5 (by decide)
  obtain ⟨b6, c6⟩ := h 6 (by decide)
  obtain ⟨b7, c7⟩ := h 7 (by decide)
  clear h
  have HN := hide is_nilA
  go_enter Tryz.func43, Tryz.ntmps43
  go_wp2_with (go_at_call 68; refine (HN.out _ _).mono ?_; rintro en w' ⟨rfl, h3⟩; subst w')
  go_ret
  exact ⟨rfl, rfl⟩
set_option maxRecDepth 100000 in
theorem mk49 (w : World) : (Instr.makeSlice 36 (.int .i64 1) (.int .i64 1)).run Tryz.prog w = .ok (.slice (some ⟨w.heap.size, 0, none⟩) 1 1) (w.alloc (.cells #[.string ⟨#[]⟩, .string ⟨#[]⟩] 41)) := by kernel_rfl
end Go.Proofs.YtdbdbaepmdmnfaaGreatDoor

