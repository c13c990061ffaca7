import Derived.Test.YtdbdbaepmdmnfaaGreatDoorZ35
import Derived.Test.YtdbdbaepmdmnfaaGreatDoorZ11
import Derived.Test.YtdbdbaepmdmnfaaGreatDoorZ10
import Derived.Recover
namespace Go.Proofs.YtdbdbaepmdmnfaaGreatDoor
open Go.RowKit
/-- The program is made ready. -/
theorem readyE (pbp rg rcap r cap : Nat) (w : World) (hrg : rg < w.heap.size) (e0 : w.cell? ⟨rg, 0, none⟩ = some (.int .i64 0)) (e1 : w.cell? ⟨rg, 1, none⟩ = some (.slice none 0 0)) (e2 : w.cell? ⟨rg, 2, none⟩ = some (.slice (some ⟨r, 0, none⟩) 5 cap)) (hB : BE pbp w (.slice (some ⟨r, 0, none⟩) 5 cap)) :
    Calls Tryz.prog 59 #[.agg #[.slice none 0 0, .slice (some ⟨rg, 0, none⟩) 1 rcap]] w fun en w' => ∃ pb rs, en = .returned (.pointer (some ⟨pb, 0, none⟩)) ∧ w'.heap[pb]? = some (.cells #[.slice none 0 0, rs, .slice none 0 0, .int .i64 10, .int .i64 1] 135 (0, 0)) ∧ RuleF (BlockK KE 5) w.heap.size w' rs ∧ Only (fun _ => False) w w' := by
  refine (ready_genV 0 ⟨vC, aA⟩ (RuleG (BlockK KE 5)) (ruleG_keeps keb_keeps) rg rcap r 5 cap w hrg e0 e1 e2 (fun kb mv ma mf sg pb W hk hpb hM hp => ?_)).mono ?_
  · obtain ⟨r', cap', _, hMd⟩ := body_madeE pbp kb mv ma mf sg hM.lv hM.la _ hB W hM.t
    refine (rule_madeV kb mv ma mf sg ⟨firstVs, #[]⟩ ⟨vC, aA⟩ (BlockK KE 5) keb_keeps pb r 5 cap hpb W hM hp hMd).mono ?_
    rintro en w' ⟨e, rs, h1, h2, h3, h4⟩
    exact ⟨e, _, rs, _, h1, ⟨rfl, rfl, h2⟩, h3, h4⟩
  · rintro en w' ⟨pb, a, b, c, e, h1, ⟨rfl, rfl, h2⟩, h3⟩
    exact ⟨pb, b, e, h1, h2, h3⟩
theorem streams_at8 {p : Pl8} {s : St8} {W : World} (h : On8 p s W) : Calls Tryz.prog 66 #[.pointer (some ⟨p.m, 0, none⟩)] W fun en w' => en = .returned (.slice (some ⟨p.sb, 0, none⟩) 1 1) ∧ w' = W := by
  obtain ⟨po, pn, pc, hM⟩ := h.M
  have c5 : W.cell? ⟨p.m, 5, none⟩ = some (.slice (some ⟨p.sb, 0, none⟩) 1 1) := cell_of hM rfl
  clear h hM
  go_enter Tryz.func66, Tryz.ntmps66
  go_wp2
  go_ret
  exact ⟨rfl, rfl⟩
theorem code_at8 {p : Pl8} {s : St8} {W : World} (h : On8 p s W) : Calls Tryz.prog 67 #[.pointer (some ⟨p.m, 0, none⟩)] W fun en w' => en = .returned (.int .i64 0) ∧ w' = W := by
  obtain ⟨po, pn, pc, hM⟩ := h.M
  have c8 : W.cell? ⟨p.m, 8, none⟩ = some (.int .i64 0) := cell_of hM rfl
  clear h hM
  go_enter Tryz.func67, Tryz.ntmps67
  go_wp2
  go_ret
  exact ⟨rfl, rfl⟩
set_option maxRecDepth 20000 in
set_option maxHeartbeats 8000000 in
theorem runE (T : ByteArray) (hT : T.size ≤ 30) (hT0 : 0 < T.size) (hno : ∀ b ∈ T.data.toList, b ≠ 10) (pbp : Nat) (rs : Value) (r cap : Nat) (w : World) (hrow : w.ownsRow 0 102 3 rs 1 [.int .i64 0, .slice none 0 0, .slice (some ⟨r, 0, none⟩) 5 cap]) (hB : BE pbp w (.slice (some ⟨r, 0, none⟩) 5 cap)) (htab : Lib.TabIs Tryz.prog w "internal/strconv.uint64pow10" .u64 Lib.pow10Tab) :
    Calls Tryz.prog 41 #[.agg #[.slice none 0 0, rs], .string T, .int .i64 2000] w fun en w' => ∃ sb tv x, ((words [] T.data.toList).length ≤ 9 → x = outE (words [] T.data.toList)) ∧ x.length ≤ 3000 ∧ en = .returned (.agg #[.slice (some ⟨sb, 0, none⟩) 1 1, .int .i64 0, .nilIface]) ∧ w'.heap[sb]? = some (.cells #[.string ⟨#[]⟩, tv] 142 (0, 0)) ∧ w'.ownsRow 0 5 1 tv (ofB x).size (Lib.strCells (ofB x)) ∧ Only (fun _ => False) w w' := by
  obtain ⟨rg, rcap, rfl, hrgl, hrgc⟩ := own_at hrow (by omega)
  have hmf := hmfT
  have O1 := ((onlyA w (.cells #[.slice none 0 0, .slice (some ⟨rg, 0, none⟩) 1 rcap] 60)).alloc (.cells #[.string T] 9)).alloc (.cells #[.slice none 0 0, .int .i64 0, .nilIface] 76)
  have HRm := hide (readyE pbp rg rcap r cap _ (Nat.lt_of_lt_of_le hrgl O1.size) ((O1.cell (p := ⟨rg, 0, none⟩) hrgl (fun e => e)).trans (hrgc 0 _ rfl)) ((O1.cell (p := ⟨rg, 1, none⟩) hrgl (fun e => e)).trans (hrgc 1 _ rfl)) ((O1.cell (p := ⟨rg, 2, none⟩) hrgl (fun e => e)).trans (hrgc 2 _ rfl)) (be_stab3 pbp w _ _ (fun _ => False) hB O1 (fun k e => e.elim)))
  have HNm : Hid (∀ W, Calls Tryz.prog 60 #[.int .i64 10, .int .i64 1, .int .i64 2000] W fun en w' => ∃ m, en = .returned (.pointer (some ⟨m, 0, none⟩)) ∧ FreshM8 W w' m 2000 first8) := fun W => newMachine8 2000 W
  have HTab := hide htab
  have HRA := hide (fun (p : Pl8) (ht : Only (fun _ => False) w p.wN) B pb rs hp hr W hW => readAll_one p (tab_only htab ht) B pb rs hp hr T hT hT0 hno W hW)
  clear hrow hrgc hrgl O1 hB htab hno
  go_enter Tryz.func41, Tryz.ntmps41
  go_wp2_with fail
  refine (HRm.out).mono ?_
  rintro en w2 ⟨pb, rsv, rfl, hpb, hrule, ho2⟩
  have hpl := heap_lt hpb
  have n1 : (w2.alloc (.cells #[.pointer (some ⟨pb, 0, none⟩)] 128)).cell? ⟨w2.heap.size, 0, none⟩ = some (.pointer (some ⟨pb, 0, none⟩)) := cell_of (new0 w2 _) rfl
  have n1d : (w2.alloc (.cells #[.pointer (some ⟨pb, 0, none⟩)] 128)).drew.cell? ⟨w2.heap.size, 0, none⟩ = some (.pointer (some ⟨pb, 0, none⟩)) := n1
  have n2 : w2.cell? ⟨pb, 3, none⟩ = some (.int .i64 10) := cell_of hpb rfl
  have n3 : w2.cell? ⟨pb, 4, none⟩ = some (.int .i64 1) := cell_of hpb rfl
  have hz2 : w.heap.size + 1 + 1 + 1 ≤ w2.heap.size := by have := ho2.size; simpa using this
  have hi2 : w2.heap[w.heap.size + 1]? = some (.cells #[.string T] 9 (0, 0)) := (ho2.block _ (by simp <;> omega) (fun e => e)).trans ((Below.heap_alloc _ _ _ (by simp <;> omega)).trans (new_at2 (by simp) _))
  have ho12 : w2.heap[w.heap.size + 1 + 1]? = some (.cells #[.slice none 0 0, .int .i64 0, .nilIface] 76 (0, 0)) := (ho2.block _ (by simp <;> omega) (fun e => e)).trans (new_at2 (by simp) _)
  have HPb := hide hpb
  have HRl := hide hrule
  have HI2 := hide hi2
  have HO12 := hide ho12
  have HO2 : Hid (Only (fun _ => False) w w2) := (((onlyA w _).alloc _).alloc _).trans ho2 (fun _ _ e => e)
  clear hpb hrule hi2 ho12 ho2 HRm
  go_upto_region 2 with fail
  go_cut [8] (fun s8 wc => ∃ b8 m ab aM akb vb sb, s8 = .pointer (some ⟨b8, 0, none⟩) ∧ wc.heap[b8]? = some (.cells #[.pointer (some ⟨m, 0, none⟩)] 130 (0, 0)) ∧ w2.heap.size + 1 ≤ b8 ∧ b8 ≠ m ∧ b8 ≠ vb ∧ b8 ≠ sb ∧ b8 ≠ akb ∧ On8 ⟨w2.alloc (.cells #[.pointer (some ⟨pb, 0, none⟩)] 128), m, ab, aM, akb, vb, sb⟩ st0 wc)
  case first =>
    go_region_held3 (fun W => W.cell? ⟨w2.heap.size, 0, none⟩ = some (.pointer (some ⟨pb, 0, none⟩)) ∧ W.cell? ⟨pb, 3, none⟩ = some (.int .i64 10) ∧ W.cell? ⟨pb, 4, none⟩ = some (.int .i64 1)) (first | (refine ⟨?_, ?_, ?_⟩ <;> (repeat (first | (with_reducible assumption) | (with_reducible refine past ?_ _) | (with_reducible refine pastD ?_ _) | ((with_reducible refine farC ?_ ?_); (rotate_left; (focus (first | (simp; done) | (simp; omega) | omega))))))))
      (first | (go_at_call 60; refine (HNm.out _).mono ?_; rintro en w4 ⟨m, rfl, ab, vb, sb, aM, akb, ⟨k1, k2, k3⟩, ⟨k4, k5, k6⟩, hAr, hM, hV, hS, ho4⟩; have hON : Only (fun _ => False) (w2.alloc (.cells #[.pointer (some ⟨pb, 0, none⟩)] 128)) w4 := Only.trans (by repeat (first | with_reducible exact Only.refl _ _ | with_reducible refine Only.alloc ?_ _ | with_reducible refine toDrew ?_)) ho4 (fun _ _ e => e); have g1 := (hON.cell (p := ⟨w2.heap.size, 0, none⟩) (by simp) (fun e => e)).trans n1; have g2 := (hON.cell (p := ⟨pb, 3, none⟩) (by simp; omega) (fun e => e)).trans (past n2 _); have g3 := (hON.cell (p := ⟨pb, 4, none⟩) (by simp; omega) (fun e => e)).trans (past n3 _); have kk1 : w2.heap.size + 1 ≤ m := (by simp at k1; omega); have kk2 : w2.heap.size + 1 ≤ vb := (by simp at k2; omega); have kk3 : w2.heap.size + 1 ≤ sb := (by simp at k3; omega); have kk4 : w2.heap.size + 1 ≤ ab := (by simp at k4; omega); have kk5 : w2.heap.size + 1 ≤ aM := (by simp at k5; omega); have kk6 : w2.heap.size + 1 ≤ akb := (by simp at k6; omega); (try (refine lay (P := w4.heap[w2.heap.size + 1]? = some (.cells #[.pointer none] 130 (0, 0))) ?_ (fun b0 => ?_); (focus (refine (ho4.block _ ?_ (fun e => e)).trans ?_; (focus (first | (simp; done) | (simp; omega) | omega)); (repeat (first | ((with_reducible refine new_at2D ?_ _); focus (simp; done)) | ((with_reducible refine (heap_allocD _ _ ?_).trans ?_); (focus (first | (simp; done) | (simp; omega) | omega))) | ((with_reducible refine new_at2 ?_ _); focus (simp; done)) | ((with_reducible refine (Below.heap_alloc _ _ _ ?_).trans ?_); (focus (first | (simp; done) | (simp; omega) | omega))))); done)); have b0c : w4.cell? ⟨w2.heap.size + 1, 0, none⟩ = some (.pointer none) := cell_of b0 rfl; have b0f := free_of b0; have b0l := heap_lt b0; have Hb0 := hide b0; clear b0)); have HUn : Hid (On8 ⟨w2.alloc (.cells #[.pointer (some ⟨pb, 0, none⟩)] 128), m, ab, aM, akb, vb, sb⟩ st0 w4) := (by refine hide ⟨by simpa using kk1, by simpa using kk2, by simpa using kk3, ⟨by simpa using kk4, by simpa using kk5, by simpa using kk6⟩, ?_, ?_, ?_, ⟨_, _, _, hM⟩, hV, ⟨_, hS, World.ownsRow_nil _ _ _ _⟩, ⟨_, hAr.at _⟩, hON⟩; (intro (e : m = vb); rw [e] at hM; unfold MAt8 at hM; unfold VAt at hV; rw [hV] at hM; cases hM); (intro (e : m = sb); rw [e] at hM; unfold MAt8 at hM; rw [hS] at hM; cases hM); (intro (e : vb = sb); rw [e] at hV; unfold VAt at hV; rw [hS] at hV; cases hV)); have hml := heap_lt hM; have hvl := heap_lt hV; have hsl := heap_lt hS; clear hM hV hS hON ho4 k1 k2 k3 k4 k5 k6 hAr))
    all_goals
      go_wp2_with fail
      go_meet
      first
        | (have hl : m < w4.heap.size ∧ vb < w4.heap.size ∧ sb < w4.heap.size ∧ akb < w4.heap.size ∧ ab < w4.heap.size ∧ aM < w4.heap.size := HUn.out.lts; exact ⟨w4.heap.size, m, ab, aM, akb, vb, sb, rfl, new_at2 rfl _, by omega, by omega, by omega, by omega, by omega, HUn.out.calm (onlyA w4 _)⟩)
        | (have e1 : w2.heap.size + 1 ≠ m := (by
             intro e
             obtain ⟨_, _, _, hM⟩ := HUn.out.M
             unfold MAt8 at hM
             rw [show w4.heap[m]? = _ from (congrArg (fun q => w4.heap[q]?) e.symm).trans Hb0.out] at hM
             cases hM)
           have e2 : w2.heap.size + 1 ≠ vb := (by
             intro e
             have hV := HUn.out.V
             unfold VAt at hV
             rw [show w4.heap[vb]? = _ from (congrArg (fun q => w4.heap[q]?) e.symm).trans Hb0.out] at hV
             cases hV)
           have e3 : w2.heap.size + 1 ≠ sb := (by
             intro e
             obtain ⟨_, hS, _⟩ := HUn.out.S
             rw [show w4.heap[sb]? = _ from (congrArg (fun q => w4.heap[q]?) e.symm).trans Hb0.out] at hS
             cases hS)
           obtain ⟨kv0, hR0⟩ := HUn.out.R
           have e4 : w2.heap.size + 1 ≠ ab := (by
             intro e
             have ha := hR0.a
             rw [show w4.heap[ab]? = _ from (congrArg (fun q => w4.heap[q]?) e.symm).trans Hb0.out] at ha
             cases ha)
           have e5 : w2.heap.size + 1 ≠ akb := (by
             intro e
             have ha := hR0.k
             rw [show w4.heap[akb]? = _ from (congrArg (fun q => w4.heap[q]?) e.symm).trans Hb0.out] at ha
             cases ha)
           exact ⟨w2.heap.size + 1, m, ab, aM, akb, vb, sb, rfl, set1 Hb0.out _, by omega, e1, e2, e3, e5, HUn.out.other Hb0.out e1 e2 e3 ⟨e4, e5⟩ (Or.inl (by decide)) (by decide) (by simp) 0 _⟩)
  case rest =>
    obtain ⟨b8, m, ab, aM, akb, vb, sb, rfl, hb8, k8, nbm, nbv, nbs, nbk, hU⟩ := hcut
    have hWz : (w2.alloc (.cells #[.pointer (some ⟨pb, 0, none⟩)] 128)).heap.size = w2.heap.size + 1 := by simp
    have c8 : wc.cell? ⟨b8, 0, none⟩ = some (.pointer (some ⟨m, 0, none⟩)) := cell_of hb8 rfl
    have l8 := heap_lt hb8
    have hOc := hU.O
    have hN0 : wc.heap[w2.heap.size]? = some (.cells #[.pointer (some ⟨pb, 0, none⟩)] 128 (0, 0)) := (hOc.block _ (by simp) (fun e => e)).trans (new0 w2 _)
    have hIn : wc.heap[w.heap.size + 1]? = some (.cells #[.string T] 9 (0, 0)) := (hOc.block _ (by simp; omega) (fun e => e)).trans ((Below.heap_alloc _ _ _ (heap_lt HI2.out)).trans HI2.out)
    have hpN : (w2.alloc (.cells #[.pointer (some ⟨pb, 0, none⟩)] 128)).heap[pb]? = some (.cells #[.slice none 0 0, rsv, .slice none 0 0, .int .i64 10, .int .i64 1] 135 (0, 0)) := (Below.heap_alloc _ _ _ hpl).trans HPb.out
    have hP0 : wc.heap[pb]? = some (.cells #[.slice none 0 0, rsv, .slice none 0 0, .int .i64 10, .int .i64 1] 135 (0, 0)) := (hOc.block _ (by simp; omega) (fun e => e)).trans hpN
    have hRl : RuleF (BlockK KE 5) w.heap.size (w2.alloc (.cells #[.pointer (some ⟨pb, 0, none⟩)] 128)) rsv := by
      obtain ⟨cg, x, hown, hx⟩ := HRl.out
      exact ⟨cg, x, hown.alloc _, keb_keeps.down _ _ _ _ (keb_keeps.keep _ _ _ _ hx ((onlyA w2 _).mono (fun _ _ e => e.elim))) (by simp <;> omega)⟩
    have hlts : m < wc.heap.size ∧ vb < wc.heap.size ∧ sb < wc.heap.size ∧ akb < wc.heap.size ∧ ab < wc.heap.size ∧ aM < wc.heap.size := hU.lts
    obtain ⟨lm, lv, ls, lk, la, _⟩ := hlts
    have hml : w2.heap.size + 1 ≤ m := by have := hU.hm; simpa using this
    have hvl : w2.heap.size + 1 ≤ vb := by have := hU.hv; simpa using this
    have hsl : w2.heap.size + 1 ≤ sb := by have := hU.hs; simpa using this
    have hal : w2.heap.size + 1 ≤ ab := by have := hU.ha.1; simpa using this
    have hkl : w2.heap.size + 1 ≤ akb := by have := hU.ha.2.2; simpa using this
    have HA1 := hide (attempt_kept ⟨w2.alloc (.cells #[.pointer (some ⟨pb, 0, none⟩)] 128), m, ab, aM, akb, vb, sb⟩ 62 cf91 #[.pointer (some ⟨b8, 0, none⟩), .pointer (some ⟨w2.heap.size, 0, none⟩), .pointer (some ⟨w.heap.size + 1, 0, none⟩)] (fun w' => ∃ s' x, s'.out = ofB x ∧ ((words [] T.data.toList).length ≤ 9 → x = outE (words [] T.data.toList)) ∧ x.length ≤ 3000 ∧ On8 ⟨w2.alloc (.cells #[.pointer (some ⟨pb, 0, none⟩)] 128), m, ab, aM, akb, vb, sb⟩ s' w') wc lm lv ls lk (fun W hW => by
      refine run1_any b8 w2.heap.size (w.heap.size + 1) m pb T (fun en w' => en = .returned (.tuple #[]) ∧ (∃ s' x, s'.out = ofB x ∧ ((words [] T.data.toList).length ≤ 9 → x = outE (words [] T.data.toList)) ∧ x.length ≤ 3000 ∧ On8 ⟨w2.alloc (.cells #[.pointer (some ⟨pb, 0, none⟩)] 128), m, ab, aM, akb, vb, sb⟩ s' w') ∧ Kept ⟨w2.alloc (.cells #[.pointer (some ⟨pb, 0, none⟩)] 128), m, ab, aM, akb, vb, sb⟩ W w') W (cell_of ((hW.block _ l8 (fun e => e)).trans hb8) rfl) (cell_of ((hW.block _ (heap_lt hN0) (fun e => e)).trans hN0) rfl) (cell_of ((hW.block _ (heap_lt hP0) (fun e => e)).trans hP0) rfl) (cell_of ((hW.block _ (heap_lt hIn) (fun e => e)).trans hIn) rfl) ?_
      refine (HRA.out ⟨w2.alloc (.cells #[.pointer (some ⟨pb, 0, none⟩)] 128), m, ab, aM, akb, vb, sb⟩ (HO2.out.alloc _) w.heap.size pb rsv hpN hRl W.drew (hU.calm (toDrew hW))).mono ?_
      rintro en w' ⟨e, s', x, hs', hx1, hx2, hn', hk'⟩
      exact ⟨⟨e, ⟨s', x, hs', hx1, hx2, hn'⟩, (Kept.of (toDrew (Only.refl _ _))).trans hk'⟩, Or.inl e⟩))
    have HB8 := hide hb8
    clear hb8 hU hN0 hIn hP0 HRA HPb HRl hRl hOc
    go_wp2_with fail
    refine (HA1.out).mono ?_
    rintro en w5 ⟨rfl, w1, ⟨s', x, hs', hx1, hx2, hn1⟩, hk1, hbx, hw5⟩
    have HX1 := hide hx1
    have HX2 := hide hx2
    clear hx1 hx2
    have hU5 : On8 ⟨w2.alloc (.cells #[.pointer (some ⟨pb, 0, none⟩)] 128), m, ab, aM, akb, vb, sb⟩ s' w5 := by
      rw [hw5]
      exact hn1.other hbx (by show wc.heap.size + 1 ≠ m; omega) (by show wc.heap.size + 1 ≠ vb; omega) (by show wc.heap.size + 1 ≠ sb; omega) ⟨by show wc.heap.size + 1 ≠ ab; omega, by show wc.heap.size + 1 ≠ akb; omega⟩ (Or.inl (by decide)) (by decide) (by show (w2.alloc _).heap.size ≤ _; rw [hWz]; omega) 0 _
    have hb85 : w5.heap[b8]? = some (.cells #[.pointer (some ⟨m, 0, none⟩)] 130 (0, 0)) := by
      rw [hw5]
      exact (Below.heap_setCell _ _ _ _ (by show b8 ≠ wc.heap.size + 1; omega)).trans (hk1.box b8 _ _ nbm nbv nbs nbk (by decide) (by decide) HB8.out)
    clear hw5 hbx hk1 hn1
    have e8 : w5.cell? ⟨b8, 0, none⟩ = some (.pointer (some ⟨m, 0, none⟩)) := cell_of hb85 rfl
    have i8 := heap_lt hb85
    have hN5 : w5.heap[w2.heap.size]? = some (.cells #[.pointer (some ⟨pb, 0, none⟩)] 128 (0, 0)) := (hU5.O.block _ (by simp) (fun e => e)).trans (new0 w2 _)
    have hP5 : w5.heap[pb]? = some (.cells #[.slice none 0 0, rsv, .slice none 0 0, .int .i64 10, .int .i64 1] 135 (0, 0)) := (hU5.O.block _ (by simp; omega) (fun e => e)).trans hpN
    have HA2 := hide (attempt_ok m 65 cf94 #[.pointer (some ⟨b8, 0, none⟩), .pointer (some ⟨w2.heap.size, 0, none⟩)] (fun _ => False) (fun _ => True) w5 (fun k e => e.elim) (fun W hW => by
      refine (run2_do b8 w2.heap.size m pb W (cell_of ((hW.block _ i8 (fun e => e)).trans hb85) rfl) (cell_of ((hW.block _ (heap_lt hN5) (fun e => e)).trans hN5) rfl) (cell_of ((hW.block _ (heap_lt hP5) (fun e => e)).trans hP5) rfl)).mono ?_
      rintro en w' ⟨e, rfl⟩
      exact ⟨e, trivial, toDrew (Only.refl _ _)⟩))
    have HU5 := hide hU5
    have HB85 := hide hb85
    have HS' := hide hs'
    clear hU5 hb85 hN5 hP5 HA1 hpN hs'
    go_wp2_with fail
    refine (HA2.out).mono ?_
    rintro en w6 ⟨rfl, _, ho6⟩
    have hU6 := HU5.out.calm ho6
    have hO6 : Only (fun _ => False) (w2.alloc (.cells #[.pointer (some ⟨pb, 0, none⟩)] 128)) w6 := hU6.O
    have hR6 : w6.heap[w.heap.size + 1 + 1]? = some (.cells #[.slice none 0 0, .int .i64 0, .nilIface] 76 (0, 0)) := (hO6.block _ (by simp; omega) (fun e => e)).trans ((Below.heap_alloc _ _ _ (heap_lt HO12.out)).trans HO12.out)
    have r0 : w6.cell? ⟨w.heap.size + 1 + 1, 0, none⟩ = some (.slice none 0 0) := cell_of hR6 rfl
    have r1 : w6.cell? ⟨w.heap.size + 1 + 1, 1, none⟩ = some (.int .i64 0) := cell_of hR6 rfl
    have r2 : w6.cell? ⟨w.heap.size + 1 + 1, 2, none⟩ = some .nilIface := cell_of hR6 rfl
    have rf := free_of hR6
    have rl := heap_lt hR6
    have hb86 := (ho6.block b8 i8 (fun e => e)).trans HB85.out
    have f8 : w6.cell? ⟨b8, 0, none⟩ = some (.pointer (some ⟨m, 0, none⟩)) := cell_of hb86 rfl
    have f8d : w6.drew.cell? ⟨b8, 0, none⟩ = some (.pointer (some ⟨m, 0, none⟩)) := f8
    have j8 := heap_lt hb86
    have hU6d := hU6.calm (toDrew (Only.refl _ w6))
    have HSt : Hid (Calls Tryz.prog 66 #[.pointer (some ⟨m, 0, none⟩)] w6.drew fun en w' => en = .returned (.slice (some ⟨sb, 0, none⟩) 1 1) ∧ w' = w6.drew) := by
      have h := streams_at8 hU6d
      exact hide h
    have HCo : Hid (Calls Tryz.prog 67 #[.pointer (some ⟨m, 0, none⟩)] w6.drew fun en w' => en = .returned (.int .i64 0) ∧ w' = w6.drew) := by
      have h := code_at8 hU6d
      exact hide h
    obtain ⟨tv, hS6, hown6⟩ := hU6.S
    rw [HS'.out] at hown6
    have HS6 := hide hS6
    have HOw6 := hide hown6
    have HR6 := hide hR6
    have nbr : b8 ≠ w.heap.size + 1 + 1 := by omega
    have HO6 : Hid (Only (fun _ => False) w w6) := (HO2.out.alloc _).trans hO6 (fun _ _ e => e)
    clear hO6 hR6 hb86 hU6 hU6d ho6 HA2 hS6 hown6
    go_upto_region 8 with fail
    go_region_held3 (fun W => W.cell? ⟨b8, 0, none⟩ = some (.pointer (some ⟨m, 0, none⟩))) (first | (repeat (first | (with_reducible assumption) | (with_reducible refine past ?_ _) | (with_reducible refine pastD ?_ _) | ((with_reducible refine farC ?_ ?_); (rotate_left; (focus (first | (simp; done) | (simp; omega) | omega)))) | ((with_reducible refine farCD ?_ ?_); (rotate_left; (focus (first | (simp; done) | (simp; omega) | omega)))))))
      (first | (go_at_call 66; refine (HSt.out).mono ?_; rintro en w' ⟨rfl, h3⟩; subst w') | (go_at_call 67; refine (HCo.out).mono ?_; rintro en w' ⟨rfl, h3⟩; subst w'))
    all_goals
      go_wp2
      have hol : Only (fun k => k = w.heap.size + 1 + 1) w6 (((w6.setCell ⟨w.heap.size + 1 + 1, 0, none⟩ (.slice (some ⟨sb, 0, none⟩) 1 1)).setCell ⟨w.heap.size + 1 + 1, 1, none⟩ (.int .i64 0)).setCell ⟨w.heap.size + 1 + 1, 2, none⟩ .nilIface).drew := toDrew ((((Only.refl (fun k => k = w.heap.size + 1 + 1) w6).setCell (p := ⟨w.heap.size + 1 + 1, 0, none⟩) (fun _ => rfl) _).setCell (p := ⟨w.heap.size + 1 + 1, 1, none⟩) (fun _ => rfl) _).setCell (p := ⟨w.heap.size + 1 + 1, 2, none⟩) (fun _ => rfl) _)
      have hne6 := own_tag HOw6.out HR6.out (by decide)
      have hsb : sb ≠ w.heap.size + 1 + 1 := by omega
      refine bodyPost_ret (v := .agg #[.slice (some ⟨sb, 0, none⟩) 1 1, .int .i64 0, .nilIface]) (by simp [results, Tryz.results41, go_sem, r0, r1, r2]) rfl ⟨sb, tv, x, HX1.out, HX2.out, rfl, (hol.block sb (heap_lt HS6.out) hsb).trans HS6.out, base0 (ownsRow_of HOw6.out (fun k hk => hol.block k (HOw6.out.lt k hk).2 (fun e => hne6 (by rw [hk, e])))), HO6.out.trans hol (fun q h e => by omega)⟩
end Go.Proofs.YtdbdbaepmdmnfaaGreatDoor

