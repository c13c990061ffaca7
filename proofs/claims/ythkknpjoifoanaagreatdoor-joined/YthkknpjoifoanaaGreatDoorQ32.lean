import Derived.Test.YthkknpjoifoanaaGreatDoorQ31
namespace Go.Proofs.YthkknpjoifoanaaGreatDoor
open Go.RowKit
def outN : ByteArray := outX ++ ⟨#[10]⟩
/-- The printing statement, done. -/
theorem print_stmt_do (B : Nat) (wN wS : World) (x : Value) (hx : StF PrintF B wN x) (m ab vb sb n : Nat) (cs : List Value) (hcs : Vs cs) (hn : n ≤ 100000) (W : World) (h : Under wN wS W m ab vb sb outX 0 (n + 1) (.slice none 0 0) cs) :
    ∃ F caps, x = .func (.func F) #[] (caps : List Value).toArray ∧ F = 146 ∧ Calls Tryz.prog F (.pointer (some ⟨m, 0, none⟩) :: caps).toArray W fun en w' => en = .returned (.int .i64 0) ∧ ∃ tv, Under wN wS w' m ab vb sb outX outN.size n tv cs ∧ w'.ownsRow 0 5 1 tv outN.size (Lib.strCells outN) := by
  have hS := h.step
  have hx2 := (st_keeps print_keeps).keep _ _ _ _ hx (hS.hO.mono (fun _ _ e => e.elim))
  obtain ⟨bN, fN, eN, _, hbN, _⟩ := hx
  obtain ⟨b, f, e, _, hb, lb, eb, c, g, z, rfl, _, hlb, heb, hc⟩ := hx2
  rw [eN] at e
  cases e
  subst eN
  have hbm : bN ≠ m := fun e => by have := heap_lt hbN; have := h.hm; omega
  have hbW := (h.hO.block bN (heap_lt hbN) (fun e => e)).trans hbN
  have hfe : fN = .func (.func 264) #[] #[.pointer (some ⟨lb, 0, none⟩), .pointer (some ⟨eb, 0, none⟩)] := by
    have h1 := (hS.hO.block bN (heap_lt hbN) (fun e => e)).trans hbN
    rw [hb] at h1; cases h1; rfl
  rw [hfe] at hbW
  obtain ⟨po, pn, pc, hM⟩ := h.hM
  refine ⟨146, [.pointer (some ⟨bN, 0, none⟩)], rfl, rfl, ?_⟩
  refine stmt_do m ab vb bN 264 cf462 [.pointer (some ⟨lb, 0, none⟩), .pointer (some ⟨eb, 0, none⟩)] outX (.slice po pn pc) (.slice (some ⟨sb, 0, none⟩) 1 1) 0 n 0 hn _ W hM hbm (cell_of hbW rfl) ?_
  obtain ⟨po1, pn1, pc1, hM1⟩ := hS.hM
  obtain ⟨_, _, _, _, g0, g1, g2⟩ := hcs
  refine (print_do m ab vb sb lb eb c (some ⟨g, 0, none⟩) 0 outX (.slice po1 pn1 pc1) n 0 (by decide) _ hM1 hS.hS (hS.hV.cell g0) (hS.hV.cell g1) (hS.hV.cell g2) (heap_lt hS.hV) (cell_of hlb rfl) (heap_lt hlb) (cell_of heb rfl) (heap_lt heb) (cell_of hc rfl) (cell_of hc rfl) (cell_of hc rfl) (heap_lt hc)).mono ?_
  rintro en w' ⟨hv, hM2, ⟨tv, hS2, hown⟩, hO2⟩
  have hm := hS.hm
  have hvv := hS.hs
  exact ⟨hv, tv, ⟨hS.hm, hS.hv, hS.hs, hS.nmv, hS.nms, hS.nvs, ⟨po1, pn1, pc1, hM2⟩, hS.hV.only hO2 (fun e => e.elim (fun e => hS.nmv e.symm) (fun e => hS.nvs e)), hS2, hS.hO.trans hO2 (fun q hq e => by omega), hS.hT.trans hO2 (fun _ _ e => e.elim Or.inl (fun e => Or.inr (Or.inr e)))⟩, hown⟩
/-- What the rule's block does with the record abc. -/
theorem body_do (G : Nat → World → Value → Nat → Prop) (hG : Calm G) (hGL : ∀ C W v f, G C W v f → LensOK W v f) (B : Nat) (wN wS : World) (x : Value) (hx : BlockF (StF (WorkF G ⟨#[45]⟩)) (StF PrintF) B wN x) (m ab vb sb n : Nat) (cs : List Value) (hcs : Vs cs) (hn : n + 1 ≤ 100000) (W : World) (h : Under wN wS W m ab vb sb abcX 0 (n + 1 + 1) (.slice none 0 0) cs) :
    ∃ lc, x = .func (.func 111) #[] #[.pointer (some ⟨lc, 0, none⟩)] ∧ Calls Tryz.prog 111 #[.pointer (some ⟨m, 0, none⟩), .pointer (some ⟨lc, 0, none⟩)] W fun en w' => en = .returned (.int .i64 0) ∧ ∃ cs' tv, Vs cs' ∧ Under wN wS w' m ab vb sb outX outN.size n tv cs' ∧ w'.ownsRow 0 5 1 tv outN.size (Lib.strCells outN) := by
  obtain ⟨lc, g, x0, x1, rfl, _, hlc, hg, h0, h1⟩ := hx
  refine ⟨lc, rfl, ?_⟩
  obtain ⟨F0, cap0, e0⟩ := (st_keeps (work_keeps hG ⟨#[45]⟩)).isF _ _ _ h0
  obtain ⟨F1, cap1, e1⟩ := (st_keeps print_keeps).isF _ _ _ h1
  have hw0 : ∀ cs W n, Vs cs → n ≤ 100000 → Under wN wS W m ab vb sb abcX 0 (n + 1) (.slice none 0 0) cs → _ := fun cs W n a b c => work_stmt_do G hG hGL B wN wS x0 h0 m ab vb sb 0 n (.slice none 0 0) cs a b W c
  have hw1 : ∀ cs W n, Vs cs → n ≤ 100000 → Under wN wS W m ab vb sb outX 0 (n + 1) (.slice none 0 0) cs → _ := fun cs W n a b c => print_stmt_do B wN wS x1 h1 m ab vb sb n cs a b W c
  obtain ⟨b0, y0, hx0, _⟩ := h0
  obtain ⟨b1, y1, hx1, _⟩ := h1
  refine (block_do m lc g 2 2 (by omega) (fun _ => 146) (fun i _ => cf304) (fun i => if i = 0 then [.pointer (some ⟨b0, 0, none⟩)] else [.pointer (some ⟨b1, 0, none⟩)]) (fun i W => if i = 0 then Under wN wS W m ab vb sb abcX 0 (n + 1 + 1) (.slice none 0 0) cs else if i = 1 then ∃ cs', Vs cs' ∧ Under wN wS W m ab vb sb outX 0 (n + 1) (.slice none 0 0) cs' else Only (fun _ => False) wN W ∧ ∃ cs' tv, Vs cs' ∧ Under wN wS W m ab vb sb outX outN.size n tv cs' ∧ W.ownsRow 0 5 1 tv outN.size (Lib.strCells outN)) W (cell_of ((h.hO.block lc (heap_lt hlc) (fun e => e)).trans hlc) rfl) h ?_ ?_).mono ?_
  · intro i W2 hJ
    have hO : Only (fun _ => False) wN W2 := by
      by_cases hi : i = 0
      · rw [if_pos hi] at hJ; exact hJ.hO
      · rw [if_neg hi] at hJ
        by_cases hi1 : i = 1
        · rw [if_pos hi1] at hJ; obtain ⟨_, _, hJ⟩ := hJ; exact hJ.hO
        · rw [if_neg hi1] at hJ; exact hJ.1
    have hb := (hO.block g (heap_lt hg) (fun e => e)).trans hg
    refine ⟨heap_lt hb, fun j hj => ?_⟩
    have : j = 0 ∨ j = 1 := by omega
    rcases this with rfl | rfl
    · rw [cell_of hb (o := 0) rfl, hx0]; rfl
    · rw [cell_of hb (o := 1) rfl, hx1]; rfl
  · intro i W2 hi hJ
    have : i = 0 ∨ i = 1 := by omega
    rcases this with rfl | rfl
    · obtain ⟨F, caps, e, rfl, hC⟩ := hw0 cs (W2.alloc _) (n + 1) hcs (by omega) (Under.calm hJ (onlyA W2 (.cells #[.func (.func 146) #[] #[.pointer (some ⟨b0, 0, none⟩)]] 168)))
      rw [hx0] at e
      have hce : caps = [.pointer (some ⟨b0, 0, none⟩)] := by
        injection e with _ _ e3
        have := congrArg Array.toList e3
        simpa using this.symm
      subst hce
      exact hC
    · obtain ⟨cs', hcs', hJ'⟩ := hJ
      obtain ⟨F, caps, e, rfl, hC⟩ := hw1 cs' (W2.alloc _) n hcs' (by omega) (Under.calm hJ' (onlyA W2 (.cells #[.func (.func 146) #[] #[.pointer (some ⟨b1, 0, none⟩)]] 168)))
      rw [hx1] at e
      have hce : caps = [.pointer (some ⟨b1, 0, none⟩)] := by
        injection e with _ _ e3
        have := congrArg Array.toList e3
        simpa using this.symm
      subst hce
      exact hC.mono (fun en w' h => ⟨h.1, h.2.choose_spec.1.hO, cs', h.2.choose, hcs', h.2.choose_spec.1, h.2.choose_spec.2⟩)
  · rintro en w' ⟨rfl, hJ⟩
    exact ⟨rfl, hJ.2⟩
end Go.Proofs.YthkknpjoifoanaaGreatDoor

namespace Go.Proofs.YthkknpjoifoanaaGreatDoor
open Go.RowKit
set_option maxRecDepth 100000 in
theorem ext536 (w : World) : (callFunc 338 #[.string ⟨#[97, 98, 99]⟩, .int .u8 10]).run Tryz.prog w = .ok (.value (.int .i64 (-1))) w := by
  kernel_rfl
set_option maxRecDepth 20000 in
set_option maxHeartbeats 1000000 in
theorem ib_abc (w : World) : Calls Tryz.prog 213 #[.string ⟨#[97, 98, 99]⟩, .int .u8 10] w fun en w' => en = .returned (.int .i64 (-1)) ∧ w' = w := by
  have hx := ext536
  go_enter Tryz.func213, Tryz.ntmps213
  go_wp2
  go_ret
  exact ⟨rfl, rfl⟩
set_option maxRecDepth 20000 in
set_option maxHeartbeats 2000000 in
theorem ix_abc (w : World) : Calls Tryz.prog 148 #[.string ⟨#[97, 98, 99]⟩, .string ⟨#[10]⟩] w fun en w' => en = .returned (.int .i64 (-1)) ∧ w' = w := by
  have HI := hide ib_abc
  go_enter Tryz.func148, Tryz.ntmps148
  go_wp2_with (go_at_call 213; refine (HI.out _).mono ?_; rintro en w' ⟨rfl, h3⟩; subst w')
  go_ret
  exact ⟨rfl, rfl⟩
set_option maxRecDepth 20000 in
set_option maxHeartbeats 2000000 in
theorem cut_lite (w : World) : Calls Tryz.prog 114 #[.string ⟨#[97, 98, 99]⟩, .string ⟨#[10]⟩] w fun en w' => en = .returned (.tuple #[.string ⟨#[97, 98, 99]⟩, .string ⟨#[]⟩, .bool false]) ∧ w' = w := by
  have HI := hide ix_abc
  go_enter Tryz.func114, Tryz.ntmps114
  go_wp2_with (go_at_call 148; refine (HI.out _).mono ?_; rintro en w' ⟨rfl, h3⟩; subst w')
  refine bodyPost_ret (v := .tuple #[.string ⟨#[97, 98, 99]⟩, .string ⟨#[]⟩, .bool false]) (by simp [results, Tryz.results114, go_sem]) rfl ⟨rfl, rfl⟩
set_option maxRecDepth 20000 in
set_option maxHeartbeats 2000000 in
theorem cut_abc (w : World) : Calls Tryz.prog 78 #[.string ⟨#[97, 98, 99]⟩, .string ⟨#[10]⟩] w fun en w' => en = .returned (.tuple #[.string ⟨#[97, 98, 99]⟩, .string ⟨#[]⟩, .bool false]) ∧ w' = w := by
  have HI := hide cut_lite
  go_enter Tryz.func78, Tryz.ntmps78
  go_wp2_with (go_at_call 114; refine (HI.out _).mono ?_; rintro en w' ⟨rfl, h3⟩; subst w')
  refine bodyPost_ret (v := .tuple #[.string ⟨#[97, 98, 99]⟩, .string ⟨#[]⟩, .bool false]) (by simp [results, Tryz.results78, go_sem]) rfl ⟨rfl, rfl⟩
theorem vs_read : Vs (((((((first7.set 0 (.int .i64 1)).set 1 (.int .i64 1)).set 2 (.string ⟨#[]⟩))).set 3 (.int .i64 1)).set 4 (.int .i64 (words [] abcX.data.toList).length)).set 5 (.string ⟨#[]⟩)) := ⟨⟨_, _, _, rfl, rfl, rfl⟩, rfl, rfl, rfl, rfl, rfl, rfl⟩
/-- The rule's block of the program. -/
def KG (G : Nat → World → Value → Nat → Prop) : Nat → World → Value → Prop := BlockF (StF (WorkF G ⟨#[45]⟩)) (StF PrintF)
set_option maxRecDepth 20000 in
set_option maxHeartbeats 8000000 in
theorem readAll_do (G : Nat → World → Value → Nat → Prop) (hG : Calm G) (hGL : ∀ C W v f, G C W v f → LensOK W v f) (B pb : Nat) (rs : Value) (wN wS : World) (hp : wN.heap[pb]? = some (.cells #[.slice none 0 0, rs, .slice none 0 0, .int .i64 7, .int .i64 0] 118 (0, 0))) (hr : RuleF (KG G) B wN rs) (m ab vb sb n : Nat) (hn : n ≤ 1000) (w : World) (h : Under wN wS w m ab vb sb ⟨#[]⟩ 0 (n + 1 + 1 + 1) (.slice none 0 0) first7) :
    Calls Tryz.prog 41 #[.pointer (some ⟨pb, 0, none⟩), .pointer (some ⟨m, 0, none⟩), .string abcX] w fun en w' => en = .returned (.tuple #[]) ∧ ∃ cs tv, Under wN wS w' m ab vb sb outX outN.size n tv cs ∧ w'.ownsRow 0 5 1 tv outN.size (Lib.strCells outN) := by
  obtain ⟨po, pn, pc, hM⟩ := h.hM
  have HS := hide (step_ok m ab vb ⟨#[]⟩ (.slice po pn pc) (.slice (some ⟨sb, 0, none⟩) 1 1) 0 (n + 1 + 1) 0 (by omega) w hM)
  have HC := hide cut_abc
  have hU1 := h.step
  obtain ⟨po1, pn1, pc1, hM1⟩ := hU1.hM
  have HRd := hide (read_do m ab vb ⟨#[]⟩ abcX po1 pn1 pc1 (.slice (some ⟨sb, 0, none⟩) 1 1) 0 (n + 1 + 1) 0 first7 (.int .i64 1) (.int .i64 0) (.string ⟨#[]⟩) (by decide) (by decide) _ hM1 hU1.hV rfl rfl rfl rfl rfl rfl rfl rfl rfl hU1.nmv)
  obtain ⟨cg, x, hown, hx⟩ := hr
  obtain ⟨g, cap, ers, hgl, hgc⟩ := own_at hown (by simp)
  have HU := hide hU1
  have HDo : Hid (∀ W, Under wN wS W m ab vb sb abcX 0 (n + 1 + 1) (.slice none 0 0) (((((((first7.set 0 (.int .i64 1)).set 1 (.int .i64 1)).set 2 (.string ⟨#[]⟩))).set 3 (.int .i64 1)).set 4 (.int .i64 (words [] abcX.data.toList).length)).set 5 (.string ⟨#[]⟩)) → Calls Tryz.prog 80 #[.pointer (some ⟨pb, 0, none⟩), .pointer (some ⟨m, 0, none⟩)] W fun en w' => en = .returned (.tuple #[]) ∧ ∃ cs tv, Under wN wS w' m ab vb sb outX outN.size n tv cs ∧ w'.ownsRow 0 5 1 tv outN.size (Lib.strCells outN)) := fun W hW => by
    obtain ⟨lc, ex, hC⟩ := body_do G hG hGL B wN wS x hx m ab vb sb n _ vs_read (by omega) W hW
    have hpW := (hW.hO.block pb (heap_lt hp) (fun e => e)).trans hp
    have c0 := (hW.hO.cell (p := ⟨g, 0, none⟩) hgl (fun e => e)).trans (hgc 0 _ rfl)
    have c2 := (hW.hO.cell (p := ⟨g, 2, none⟩) hgl (fun e => e)).trans (hgc 2 _ rfl)
    rw [ex] at c2
    refine doRules_one pb m g cap 111 (some ⟨cg, 0, none⟩) 0 cf236 [.pointer (some ⟨lc, 0, none⟩)] _ W ?_ c0 c2 (hC.mono ?_)
    · have c1 : W.cell? ⟨pb, 1, none⟩ = some rs := cell_of hpW rfl
      rw [c1, ers]
    · rintro en w' ⟨e, cs, tv, _, h1, h2⟩
      exact ⟨e, cs, tv, h1, h2⟩
  clear h hM hU1 hM1 hown hx hgc hgl ers hp
  unfold abcX at *
  go_enter Tryz.func41, Tryz.ntmps41
  go_wp2
  go_loopg [2] 1 (fun gh s2 wr => (gh = 1 ∧ s2 = .string ⟨#[97, 98, 99]⟩ ∧ w = wr) ∨ (gh = 0 ∧ s2 = .string ⟨#[]⟩ ∧ ∃ cs tv, Under wN wS wr m ab vb sb outX outN.size n tv cs ∧ wr.ownsRow 0 5 1 tv outN.size (Lib.strCells outN)))
  case atStart => exact Or.inl ⟨rfl, rfl, rfl⟩
  case round =>
    rcases hrel with ⟨hg, rfl, ew⟩ | ⟨hg, rfl, hfin⟩
    · subst ew
      subst hg
      go_wp2_with (first | (go_at_call 77; refine (HS.out).mono ?_; rintro en w2 ⟨rfl, hw2⟩; subst hw2) | (go_at_call 78; refine (HC.out _).mono ?_; rintro en w' ⟨rfl, h3⟩; subst w'))
      refine (HRd.out).mono ?_
      rintro en w3 ⟨rfl, ⟨po3, cap3, hM3⟩, hV3, hO3⟩
      have HD3 := hide (HDo.out w3 ⟨HU.out.hm, HU.out.hv, HU.out.hs, HU.out.nmv, HU.out.nms, HU.out.nvs, ⟨po3, _, cap3, hM3⟩, hV3, (hO3.block sb (heap_lt HU.out.hS) (fun e => e.elim (fun e => HU.out.nms e.symm) (fun e => HU.out.nvs e.symm))).trans HU.out.hS, HU.out.hO.trans hO3 (fun q hq e => by have := HU.out.hm; have := HU.out.hv; omega), HU.out.hT.trans hO3 (fun _ _ e => e.elim Or.inl (fun e => Or.inr (Or.inl e)))⟩)
      clear hM3 hV3 hO3
      go_wp2_with fail
      refine (HD3.out).mono ?_
      rintro en w4 ⟨rfl, hq⟩
      have HQ := hide hq
      clear hq
      go_wp2
      go_roundg 0
      case measure => omega
      case rel => exact Or.inr ⟨rfl, rfl, HQ.out⟩
    · have HQ := hide hfin
      clear hfin
      go_wp2
      go_end0
      exact ⟨rfl, HQ.out⟩
end Go.Proofs.YthkknpjoifoanaaGreatDoor

