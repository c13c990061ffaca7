import Derived.Test.YtdbdbaepmdmnfaaGreatDoorQ36
import Derived.Test.YtdbdbaepmdmnfaaGreatDoorQ35
import Derived.Test.YtdbdbaepmdmnfaaGreatDoorQ34
import Derived.Test.YtdbdbaepmdmnfaaGreatDoorQ31
import Derived.Test.YtdbdbaepmdmnfaaGreatDoorQ32
namespace Go.Proofs.YtdbdbaepmdmnfaaGreatDoor
open Go.RowKit
theorem body_monoL {kp : Option Addr} {w w' : World} {v : Value} {K : Nat → World → Value → Prop} (h : BodyOK kp w v K) (ho : Only (fun _ => False) w w') : BodyOK kp w' v K := fun W hW => h W (ho.trans hW (fun _ _ e => e))
/-- A program of one rule for records. -/
def RuleG (K : Nat → World → Value → Prop) (B : Nat) (w : World) (a b c : Value) : Prop := a = .slice none 0 0 ∧ c = .slice none 0 0 ∧ RuleF K B w b
theorem ruleG_keeps {K : Nat → World → Value → Prop} (hK : Keeps K) : KeepsG (RuleG K) where
  keep := fun B w w' a b c pb x ⟨e1, e2, cg, y, h1, h2⟩ hp hlt ho => ⟨e1, e2, cg, y, ownsRow_of h1 (fun k hk => ho.block k (h1.lt k hk).2 (fun e => own_tag h1 hp (by decide) (by rw [hk, e]))), hK.keep _ _ _ _ h2 (ho.mono (fun q _ e => by omega))⟩
  down := fun A B w a b c ⟨e1, e2, cg, y, h1, h2⟩ hA => ⟨e1, e2, cg, y, h1, hK.down _ _ _ _ h2 hA⟩
theorem ready_madeL (K : Nat → World → Value → Prop) (hK : Keeps K) (rg rcap r bl cap : Nat) (w : World) (hrg : rg < w.heap.size) (e0 : w.cell? ⟨rg, 0, none⟩ = some (.int .i64 0)) (e1 : w.cell? ⟨rg, 1, none⟩ = some (.slice none 0 0)) (e2 : w.cell? ⟨rg, 2, none⟩ = some (.slice (some ⟨r, 0, none⟩) bl cap)) (HB : ∀ kp, BodyOK kp w (.slice (some ⟨r, 0, none⟩) bl cap) K) :
    Calls Tryz.prog 59 #[.agg #[.slice none 0 0, .slice (some ⟨rg, 0, none⟩) 1 rcap]] w fun en w' => ∃ pb rs, en = .returned (.pointer (some ⟨pb, 0, none⟩)) ∧ w'.heap[pb]? = some (.cells #[.slice none 0 0, rs, .slice none 0 0, .int .i64 7, .int .i64 0] 135 (0, 0)) ∧ RuleF K w.heap.size w' rs ∧ Only (fun _ => False) w w' := by
  refine (ready_gen 0 (RuleG K) (ruleG_keeps hK) rg rcap r bl cap w hrg e0 e1 e2 (fun kb mv ma mf sg pb W hW hk hM hp => ?_)).mono ?_
  · refine (rule_madeL (some ⟨kb, 0, none⟩) K hK pb r bl cap W hp (body_monoL (HB _) hW)).mono ?_
    rintro en w' ⟨e, rs, h1, h2, h3⟩
    exact ⟨e, _, rs, _, h1, ⟨rfl, rfl, h2⟩, h3⟩
  · rintro en w' ⟨pb, a, b, c, e, h1, ⟨rfl, rfl, h2⟩, h3⟩
    exact ⟨pb, b, e, h1, h2, h3⟩
end Go.Proofs.YtdbdbaepmdmnfaaGreatDoor
namespace Go.Proofs.YtdbdbaepmdmnfaaGreatDoor
open Go.RowKit
set_option maxRecDepth 20000 in
set_option maxHeartbeats 2000000 in
theorem run1_any (mc pc ic m p : Nat) (input : ByteArray) (R : Ending → World → Prop) (w : World) (h0 : w.cell? ⟨mc, 0, none⟩ = some (.pointer (some ⟨m, 0, none⟩))) (h1 : w.cell? ⟨pc, 0, none⟩ = some (.pointer (some ⟨p, 0, none⟩))) (h2 : w.cell? ⟨p, 0, none⟩ = some (.slice none 0 0)) (h3 : w.cell? ⟨ic, 0, none⟩ = some (.string input))
    (H : Calls Tryz.prog 64 #[.pointer (some ⟨p, 0, none⟩), .pointer (some ⟨m, 0, none⟩), .string input] w.drew fun en w' => R en w' ∧ (en = .returned (.tuple #[]) ∨ ∃ x, Threw x en)) :
    Calls Tryz.prog 62 #[.pointer (some ⟨mc, 0, none⟩), .pointer (some ⟨pc, 0, none⟩), .pointer (some ⟨ic, 0, none⟩)] w R := by
  have HD := hide (doAll_nil (some ⟨m, 0, none⟩))
  have H1 := hide H
  clear H
  go_enter Tryz.func62, Tryz.ntmps62
  go_wp2
  go_region_with (go_at_call 63; refine (HD.out _).mono ?_; rintro en w' ⟨rfl, h3⟩; subst h3)
  all_goals
    go_wp2_with fail
    refine (H1.out).mono ?_
    rintro en w2 ⟨h5, rfl | ⟨x, rfl⟩⟩
    · have H5 := hide h5
      clear h5
      go_wp2
      go_end0
      exact H5.out
    · have H5 := hide h5
      clear h5
      go_wp2
      exact ⟨rfl, H5.out⟩
/-- What running a program of one rule, whose block prints the record, comes to. -/
def RunsTo (w : World) (a : Addr) (T : List UInt8) (en : Ending) (w' : World) : Prop :=
  ∃ sb tv out, ((AllFew (recs T) ∧ en = .returned (.agg #[.slice (some ⟨sb, 0, none⟩) 1 1, .int .i64 0, .nilIface]) ∧ out = ofB (printed (recs T))) ∨ (¬ AllFew (recs T) ∧ en = .returned (.agg #[.slice (some ⟨sb, 0, none⟩) 1 1, .int .i64 0, .iface 558 (.pointer (some a))]))) ∧ w'.heap[sb]? = some (.cells #[.string ⟨#[]⟩, tv] 142 (0, 0)) ∧ w'.ownsRow 0 5 1 tv out.size (Lib.strCells out) ∧ Only (fun _ => False) w w'
set_option maxRecDepth 20000 in
set_option maxHeartbeats 8000000 in
theorem run_print (T : ByteArray) (hT : T.size ≤ 400) (a : Addr) (rs : Value) (r cap : Nat) (w : World) (hrow : w.ownsRow 0 102 3 rs 1 [.int .i64 0, .slice none 0 0, .slice (some ⟨r, 0, none⟩) 1 cap]) (hrl : r < w.heap.size) (e0 : w.cell? ⟨r, 0, none⟩ = some printV) (hgl : w.cell? ⟨2, 0, none⟩ = some (.iface 558 (.pointer (some a)))) :
    Calls Tryz.prog 41 #[.agg #[.slice none 0 0, rs], .string T, .int .i64 2000] w (RunsTo w a T.data.toList) := by
  have hbody := body1_ok r cap w hrl e0
  have hrc2 : (recs T.data.toList).length ≤ 400 := by have := recs_len T.data.toList; rw [len_eq] at this; omega
  obtain ⟨n0, hn0⟩ : ∃ n0, n0 + 2 * (recs T.data.toList).length = 2000 := ⟨2000 - 2 * (recs T.data.toList).length, by omega⟩
  obtain ⟨rg, rcap, rfl, hrgl, hrgc⟩ := own_at hrow (by omega)
  have hmf := hmfT
  have O1 := ((onlyA w (.cells #[.slice none 0 0, .slice (some ⟨rg, 0, none⟩) 1 rcap] 60)).alloc (.cells #[.string T] 9)).alloc (.cells #[.slice none 0 0, .int .i64 0, .nilIface] 76)
  have HRm := hide (ready_madeL KP kp_keeps rg rcap r 1 cap _ (Nat.lt_of_lt_of_le hrgl O1.size) ((O1.cell (p := ⟨rg, 0, none⟩) hrgl (fun e => e)).trans (hrgc 0 _ rfl)) ((O1.cell (p := ⟨rg, 1, none⟩) hrgl (fun e => e)).trans (hrgc 1 _ rfl)) ((O1.cell (p := ⟨rg, 2, none⟩) hrgl (fun e => e)).trans (hrgc 2 _ rfl)) (fun kp => body_monoL (hbody kp) O1))
  have HNm : Hid (∀ W, Calls Tryz.prog 60 #[.int .i64 7, .int .i64 0, .int .i64 2000] W fun en w' => ∃ m, en = .returned (.pointer (some ⟨m, 0, none⟩)) ∧ FreshM W w' m 2000 first7) := fun W => newMachine 2000 W
  have HRA := hide (fun B pb rs wN wS hp hr hg m ab vb sb W hU => readAll_print B pb rs wN wS hp hr a hg m ab vb sb n0 (by omega) T hT W hU)
  have HKg : Hid (Keeps KP) := hide kp_keeps
  have HGl := hide hgl
  have hgw := World.block_lt_of_cell? w ⟨2, 0, none⟩ hgl
  clear hrow hbody hrgc hrgl O1 e0 hrl hgl
  go_enter Tryz.func41, Tryz.ntmps41
  go_wp2_with fail
  refine (HRm.out).mono ?_
  rintro en w2 ⟨pb, rsv, rfl, hpb, hrule, ho2⟩
  have hpl := heap_lt hpb
  have n1 : (w2.alloc (.cells #[.pointer (some ⟨pb, 0, none⟩)] 128)).cell? ⟨w2.heap.size, 0, none⟩ = some (.pointer (some ⟨pb, 0, none⟩)) := cell_of (new0 w2 _) rfl
  have n1d : (w2.alloc (.cells #[.pointer (some ⟨pb, 0, none⟩)] 128)).drew.cell? ⟨w2.heap.size, 0, none⟩ = some (.pointer (some ⟨pb, 0, none⟩)) := n1
  have n2 : w2.cell? ⟨pb, 3, none⟩ = some (.int .i64 7) := cell_of hpb rfl
  have n3 : w2.cell? ⟨pb, 4, none⟩ = some (.int .i64 0) := cell_of hpb rfl
  have hz2 : w.heap.size + 1 + 1 + 1 ≤ w2.heap.size := by have := ho2.size; simpa using this
  have hi2 : w2.heap[w.heap.size + 1]? = some (.cells #[.string T] 9 (0, 0)) := (ho2.block _ (by simp <;> omega) (fun e => e)).trans ((Below.heap_alloc _ _ _ (by simp <;> omega)).trans (new_at2 (by simp) _))
  have ho12 : w2.heap[w.heap.size + 1 + 1]? = some (.cells #[.slice none 0 0, .int .i64 0, .nilIface] 76 (0, 0)) := (ho2.block _ (by simp <;> omega) (fun e => e)).trans (new_at2 (by simp) _)
  have HPb := hide hpb
  have HRl := hide hrule
  have HI2 := hide hi2
  have HO12 := hide ho12
  have HO2 : Hid (Only (fun _ => False) w w2) := (((onlyA w _).alloc _).alloc _).trans ho2 (fun _ _ e => e)
  clear hpb hrule hi2 ho12 ho2 HRm
  go_upto_region 2 with fail
  go_cut [8] (fun s8 wc => ∃ b8 m ab vb sb, s8 = .pointer (some ⟨b8, 0, none⟩) ∧ wc.heap[b8]? = some (.cells #[.pointer (some ⟨m, 0, none⟩)] 130 (0, 0)) ∧ w2.heap.size + 1 ≤ b8 ∧ Under (w2.alloc (.cells #[.pointer (some ⟨pb, 0, none⟩)] 128)) wc wc m ab vb sb ⟨#[]⟩ 0 2000 (.slice none 0 0) first7)
  case first =>
    go_region_held3 (fun W => W.cell? ⟨w2.heap.size, 0, none⟩ = some (.pointer (some ⟨pb, 0, none⟩)) ∧ W.cell? ⟨pb, 3, none⟩ = some (.int .i64 7) ∧ W.cell? ⟨pb, 4, none⟩ = some (.int .i64 0)) (first | (refine ⟨?_, ?_, ?_⟩ <;> (repeat (first | (with_reducible assumption) | (with_reducible refine past ?_ _) | (with_reducible refine pastD ?_ _) | ((with_reducible refine farC ?_ ?_); (rotate_left; (focus (first | (simp; done) | (simp; omega) | omega))))))))
      (first | (go_at_call 60; refine (HNm.out _).mono ?_; rintro en w4 ⟨m, rfl, ab, vb, sb, k1, k2, k3, hM, hV, hS, ho4⟩; have hON : Only (fun _ => False) (w2.alloc (.cells #[.pointer (some ⟨pb, 0, none⟩)] 128)) w4 := Only.trans (by repeat (first | with_reducible exact Only.refl _ _ | with_reducible refine Only.alloc ?_ _ | with_reducible refine toDrew ?_)) ho4 (fun _ _ e => e); have g1 := (hON.cell (p := ⟨w2.heap.size, 0, none⟩) (by simp) (fun e => e)).trans n1; have g2 := (hON.cell (p := ⟨pb, 3, none⟩) (by simp; omega) (fun e => e)).trans (past n2 _); have g3 := (hON.cell (p := ⟨pb, 4, none⟩) (by simp; omega) (fun e => e)).trans (past n3 _); have kk1 : w2.heap.size + 1 ≤ m := (by simp at k1; omega); have kk2 : w2.heap.size + 1 ≤ vb := (by simp at k2; omega); have kk3 : w2.heap.size + 1 ≤ sb := (by simp at k3; omega); (try (refine lay (P := w4.heap[w2.heap.size + 1]? = some (.cells #[.pointer none] 130 (0, 0))) ?_ (fun b0 => ?_); (focus (refine (ho4.block _ ?_ (fun e => e)).trans ?_; (focus (first | (simp; done) | (simp; omega) | omega)); (repeat (first | ((with_reducible refine new_at2D ?_ _); focus (simp; done)) | ((with_reducible refine (heap_allocD _ _ ?_).trans ?_); (focus (first | (simp; done) | (simp; omega) | omega))) | ((with_reducible refine new_at2 ?_ _); focus (simp; done)) | ((with_reducible refine (Below.heap_alloc _ _ _ ?_).trans ?_); (focus (first | (simp; done) | (simp; omega) | omega))))); done)); have b0c : w4.cell? ⟨w2.heap.size + 1, 0, none⟩ = some (.pointer none) := cell_of b0 rfl; have b0f := free_of b0; have b0l := heap_lt b0; have Hb0 := hide b0; clear b0)); have HUn : Hid (Under (w2.alloc (.cells #[.pointer (some ⟨pb, 0, none⟩)] 128)) w4 w4 m ab vb sb ⟨#[]⟩ 0 2000 (.slice none 0 0) first7) := (by refine hide ⟨by simpa using kk1, by simpa using kk2, by simpa using kk3, ?_, ?_, ?_, ⟨none, 0, 0, hM⟩, hV, hS, hON, Only.refl _ _⟩; (intro e; rw [e] at hM; unfold MAt at hM; unfold VAt at hV; rw [hV] at hM; cases hM); (intro e; rw [e] at hM; unfold MAt at hM; rw [hS] at hM; cases hM); (intro e; rw [e] at hV; unfold VAt at hV; rw [hS] at hV; cases hV)); have hml := heap_lt hM; have hvl := heap_lt hV; have hsl := heap_lt hS; clear hM hV hS hON ho4 k1 k2 k3))
    all_goals
      go_wp2_with fail
      go_meet
      first
        | exact ⟨w4.heap.size, m, ab, vb, sb, rfl, new_at2 rfl _, by omega, HUn.out.only (D := fun _ => False) (onlyA w4 _) (fun e => e) (fun e => e) (fun e => e) (fun _ e => e.elim)⟩
        | (refine ⟨w2.heap.size + 1, m, ab, vb, sb, rfl, set1 Hb0.out _, by omega, HUn.out.only (D := fun k => k = w2.heap.size + 1) ((Only.refl (fun k => k = w2.heap.size + 1) w4).setCell (p := ⟨w2.heap.size + 1, 0, none⟩) (fun _ => rfl) _) ?_ ?_ ?_ (fun k e => by simp; omega)⟩
           · intro e
             obtain ⟨_, _, _, hM⟩ := HUn.out.hM
             unfold MAt at hM
             rw [e, Hb0.out] at hM
             cases hM
           · intro e
             have hV := HUn.out.hV
             unfold VAt at hV
             rw [e, Hb0.out] at hV
             cases hV
           · intro e
             have hS := HUn.out.hS
             rw [e, Hb0.out] at hS
             cases hS)
  case rest =>
    obtain ⟨b8, m, ab, vb, sb, rfl, hb8, k8, hU⟩ := hcut
    have hWz : (w2.alloc (.cells #[.pointer (some ⟨pb, 0, none⟩)] 128)).heap.size = w2.heap.size + 1 := by simp
    have HB8 := hide hb8
    have HU := hide hU
    have c8 : wc.cell? ⟨b8, 0, none⟩ = some (.pointer (some ⟨m, 0, none⟩)) := cell_of hb8 rfl
    have l8 := heap_lt hb8
    have hN0 : wc.heap[w2.heap.size]? = some (.cells #[.pointer (some ⟨pb, 0, none⟩)] 128 (0, 0)) := (hU.hO.block _ (by simp) (fun e => e)).trans (new0 w2 _)
    have hIn : wc.heap[w.heap.size + 1]? = some (.cells #[.string T] 9 (0, 0)) := (hU.hO.block _ (by simp; omega) (fun e => e)).trans ((Below.heap_alloc _ _ _ (heap_lt HI2.out)).trans HI2.out)
    have hP0 : wc.heap[pb]? = some (.cells #[.slice none 0 0, rsv, .slice none 0 0, .int .i64 7, .int .i64 0] 135 (0, 0)) := (hU.hO.block _ (by simp; omega) (fun e => e)).trans ((Below.heap_alloc _ _ _ hpl).trans HPb.out)
    have nbm : b8 ≠ m := fun e => by obtain ⟨_, _, _, hM⟩ := hU.hM; unfold MAt at hM; rw [← e, hb8] at hM; cases hM
    have nbv : b8 ≠ vb := fun e => by have hV := hU.hV; unfold VAt at hV; rw [← e, hb8] at hV; cases hV
    have nbs : b8 ≠ sb := fun e => by have hS := hU.hS; rw [← e, hb8] at hS; cases hS
    have hml := hU.hm
    have hvl := hU.hv
    have hsl := hU.hs
    have hRl : RuleF KP w.heap.size (w2.alloc (.cells #[.pointer (some ⟨pb, 0, none⟩)] 128)) rsv := by
      obtain ⟨cg, x, hown, hx⟩ := HRl.out
      exact ⟨cg, x, hown.alloc _, HKg.out.down _ _ _ _ (HKg.out.keep _ _ _ _ hx ((onlyA w2 _).mono (fun _ _ e => e.elim))) (by simp <;> omega)⟩
    have hpN : (w2.alloc (.cells #[.pointer (some ⟨pb, 0, none⟩)] 128)).heap[pb]? = some (.cells #[.slice none 0 0, rsv, .slice none 0 0, .int .i64 7, .int .i64 0] 135 (0, 0)) := (Below.heap_alloc _ _ _ hpl).trans HPb.out
    have mlt : m < wc.heap.size := by obtain ⟨_, _, _, hM⟩ := hU.hM; exact heap_lt hM
    have vlt := heap_lt hU.hV
    have slt := heap_lt hU.hS
    have hgN : (w2.alloc (.cells #[.pointer (some ⟨pb, 0, none⟩)] 128)).cell? ⟨2, 0, none⟩ = some (.iface 558 (.pointer (some a))) := ((HO2.out.alloc _).cell (p := ⟨2, 0, none⟩) hgw (fun e => e)).trans HGl.out
    have HA1 := hide (attempt_any m 62 cf91 #[.pointer (some ⟨b8, 0, none⟩), .pointer (some ⟨w2.heap.size, 0, none⟩), .pointer (some ⟨w.heap.size + 1, 0, none⟩)] (fun k => k = m ∨ k = vb ∨ k = sb) (fun w' => AllFew (recs T.data.toList) ∧ ∃ wS txt n cs, UnderL (w2.alloc (.cells #[.pointer (some ⟨pb, 0, none⟩)] 128)) wS w' m ab vb sb txt (ofB (printed (recs T.data.toList))) n cs) (fun w' => ¬ AllFew (recs T.data.toList) ∧ ∃ wS txt out n cs, UnderL (w2.alloc (.cells #[.pointer (some ⟨pb, 0, none⟩)] 128)) wS w' m ab vb sb txt out n cs) a wc (fun k e => by rcases e with rfl | rfl | rfl <;> assumption) (fun W hW => by
      refine run1_any b8 w2.heap.size (w.heap.size + 1) m pb T _ W (cell_of ((hW.block _ l8 (fun e => e)).trans HB8.out) rfl) (cell_of ((hW.block _ (heap_lt hN0) (fun e => e)).trans hN0) rfl) (cell_of ((hW.block _ (heap_lt hP0) (fun e => e)).trans hP0) rfl) (cell_of ((hW.block _ (heap_lt hIn) (fun e => e)).trans hIn) rfl) ?_
      have hUW := hU.only (D := fun _ => False) (toDrew hW) (fun e => e) (fun e => e) (fun e => e) (fun _ e => e.elim)
      have hWz2 := hW.size
      have hNz := hU.hO.size
      refine (HRA.out w.heap.size pb rsv (w2.alloc (.cells #[.pointer (some ⟨pb, 0, none⟩)] 128)) W.drew hpN hRl hgN m ab vb sb W.drew ⟨Nat.le_trans hNz hWz2, Nat.lt_of_lt_of_le mlt hWz2, Nat.lt_of_lt_of_le vlt hWz2, Nat.lt_of_lt_of_le slt hWz2, .slice none 0 0, by rw [hn0]; exact hUW, World.ownsRow_nil _ _ _ _⟩).mono ?_
      rintro en w' (⟨hf, e, txt, cs, _, hUL⟩ | ⟨hf, e, txt, out, n, cs, hUL⟩)
      · have hUL2 := hUL
        obtain ⟨_, _, _, _, tv, h1, _⟩ := hUL2
        exact ⟨Or.inl ⟨e, ⟨hf, _, txt, _, cs, hUL⟩, fromDrew h1.hT⟩, Or.inl e⟩
      · have hUL2 := hUL
        obtain ⟨_, _, _, _, tv, h1, _⟩ := hUL2
        obtain ⟨po, pn, pc, hM⟩ := h1.hM
        exact ⟨Or.inr ⟨e, ⟨hf, _, txt, out, n, cs, hUL⟩, ⟨_, _, _, _, _, _, _, _, hM⟩, fromDrew h1.hT⟩, Or.inr ⟨_, e⟩⟩))
    have HN0 := hide hN0
    have HP0 := hide hP0
    clear hb8 hU hN0 hIn hP0 HRA HPb HRl hRl hpN hgN
    go_wp2_with fail
    refine (HA1.out).mono ?_
    rintro en w5 (⟨rfl, ⟨w1, ⟨hf, wS, txt, n, cs, hUL⟩, hbx, ho1⟩, ho5⟩ | ⟨rfl, ⟨w1, ⟨hf, wS, txt, out, n, cs, hUL⟩, hbx, hmap, ho1⟩, ho5⟩)
    · obtain ⟨_, _, _, _, tv, hU1, hown1⟩ := hUL
      have HF := hide hf
      clear hf
      have hne5 := own_tag hown1 hbx (by decide)
      have hown5 : w5.ownsRow wS.heap.size 5 1 tv (ofB (printed (recs T.data.toList))).size (Lib.strCells (ofB (printed (recs T.data.toList)))) := ownsRow_of hown1 (fun k hk => ho1.block k (hown1.lt k hk).2 (fun e => hne5 (by rw [hk, e])))
      have hU5 := hU1.only ho1 (by omega) (by omega) (by omega) (fun k e => by rw [hWz]; omega)
      have hb85 : w5.heap[b8]? = some (.cells #[.pointer (some ⟨m, 0, none⟩)] 130 (0, 0)) := (ho5.block b8 l8 (fun e => by rcases e with e | e | e; exact nbm e; exact nbv e; exact nbs e)).trans HB8.out
      have e8 : w5.cell? ⟨b8, 0, none⟩ = some (.pointer (some ⟨m, 0, none⟩)) := cell_of hb85 rfl
      have i8 := heap_lt hb85
      have hN5 : w5.heap[w2.heap.size]? = some (.cells #[.pointer (some ⟨pb, 0, none⟩)] 128 (0, 0)) := (hU5.hO.block _ (by simp) (fun e => e)).trans (new0 w2 _)
      have hP5 : w5.heap[pb]? = some (.cells #[.slice none 0 0, rsv, .slice none 0 0, .int .i64 7, .int .i64 0] 135 (0, 0)) := (ho5.block pb (heap_lt HP0.out) (fun e => by simp at hml hvl hsl; rcases e with e | e | e <;> omega)).trans HP0.out
      have HA2 := hide (attempt_ok m 65 cf94 #[.pointer (some ⟨b8, 0, none⟩), .pointer (some ⟨w2.heap.size, 0, none⟩)] (fun _ => False) (fun _ => True) w5 (fun k e => e.elim) (fun W hW => by
        refine (run2_do b8 w2.heap.size m pb W (cell_of ((hW.block _ i8 (fun e => e)).trans hb85) rfl) (cell_of ((hW.block _ (heap_lt hN5) (fun e => e)).trans hN5) rfl) (cell_of ((hW.block _ (heap_lt hP5) (fun e => e)).trans hP5) rfl)).mono ?_
        rintro en w' ⟨e, rfl⟩
        exact ⟨e, trivial, toDrew (Only.refl _ _)⟩))
      have HU5 := hide hU5
      have HOw5 := hide hown5
      have HB85 := hide hb85
      clear ho1 hbx hU1 hown1 hU5 hown5 hb85 hN5 hP5 HA1 ho5 hne5
      go_wp2_with fail
      refine (HA2.out).mono ?_
      rintro en w6 ⟨rfl, _, ho6⟩
      have hO6 : Only (fun _ => False) (w2.alloc (.cells #[.pointer (some ⟨pb, 0, none⟩)] 128)) w6 := HU5.out.hO.trans ho6 (fun _ _ e => e)
      have hR6 : w6.heap[w.heap.size + 1 + 1]? = some (.cells #[.slice none 0 0, .int .i64 0, .nilIface] 76 (0, 0)) := (hO6.block _ (by simp; omega) (fun e => e)).trans ((Below.heap_alloc _ _ _ (heap_lt HO12.out)).trans HO12.out)
      have r0 : w6.cell? ⟨w.heap.size + 1 + 1, 0, none⟩ = some (.slice none 0 0) := cell_of hR6 rfl
      have r1 : w6.cell? ⟨w.heap.size + 1 + 1, 1, none⟩ = some (.int .i64 0) := cell_of hR6 rfl
      have r2 : w6.cell? ⟨w.heap.size + 1 + 1, 2, none⟩ = some .nilIface := cell_of hR6 rfl
      have rf := free_of hR6
      have rl := heap_lt hR6
      have hb86 := (ho6.block b8 i8 (fun e => e)).trans HB85.out
      have f8 : w6.cell? ⟨b8, 0, none⟩ = some (.pointer (some ⟨m, 0, none⟩)) := cell_of hb86 rfl
      have f8d : w6.drew.cell? ⟨b8, 0, none⟩ = some (.pointer (some ⟨m, 0, none⟩)) := f8
      have j8 := heap_lt hb86
      have hU6 := HU5.out.calm ho6
      obtain ⟨po6, pn6, pc6, hM6⟩ := hU6.hM
      have HSt : Hid (Calls Tryz.prog 66 #[.pointer (some ⟨m, 0, none⟩)] w6.drew fun en w' => en = .returned (.slice (some ⟨sb, 0, none⟩) 1 1) ∧ w' = w6.drew) := streams_at m ab vb txt (.slice po6 pn6 pc6) (some ⟨sb, 0, none⟩) 1 1 (ofB (printed (recs T.data.toList))).size n 0 w6.drew hM6
      have HCo : Hid (Calls Tryz.prog 67 #[.pointer (some ⟨m, 0, none⟩)] w6.drew fun en w' => en = .returned (.int .i64 0) ∧ w' = w6.drew) := code_at m ab vb txt (.slice po6 pn6 pc6) (.slice (some ⟨sb, 0, none⟩) 1 1) (ofB (printed (recs T.data.toList))).size n 0 w6.drew hM6
      have HS6 := hide hU6.hS
      have HOw6 : Hid (w6.ownsRow wS.heap.size 5 1 tv (ofB (printed (recs T.data.toList))).size (Lib.strCells (ofB (printed (recs T.data.toList))))) := ownsRow_of HOw5.out (fun k hk => ho6.block k (HOw5.out.lt k hk).2 (fun e => e))
      have HR6 := hide hR6
      have nbr : b8 ≠ w.heap.size + 1 + 1 := by omega
      have HO6 : Hid (Only (fun _ => False) w w6) := (HO2.out.alloc _).trans hO6 (fun _ _ e => e)
      clear hO6 hR6 hb86 hU6 hM6 ho6 HA2
      go_upto_region 8 with fail
      go_region_held3 (fun W => W.cell? ⟨b8, 0, none⟩ = some (.pointer (some ⟨m, 0, none⟩))) (first | (repeat (first | (with_reducible assumption) | (with_reducible refine past ?_ _) | (with_reducible refine pastD ?_ _) | ((with_reducible refine farC ?_ ?_); (rotate_left; (focus (first | (simp; done) | (simp; omega) | omega)))) | ((with_reducible refine farCD ?_ ?_); (rotate_left; (focus (first | (simp; done) | (simp; omega) | omega)))))))
        (first | (go_at_call 66; refine (HSt.out).mono ?_; rintro en w' ⟨rfl, h3⟩; subst w') | (go_at_call 67; refine (HCo.out).mono ?_; rintro en w' ⟨rfl, h3⟩; subst w'))
      all_goals
        go_wp2
        have hol : Only (fun k => k = w.heap.size + 1 + 1) w6 (((w6.setCell ⟨w.heap.size + 1 + 1, 0, none⟩ (.slice (some ⟨sb, 0, none⟩) 1 1)).setCell ⟨w.heap.size + 1 + 1, 1, none⟩ (.int .i64 0)).setCell ⟨w.heap.size + 1 + 1, 2, none⟩ .nilIface).drew := toDrew ((((Only.refl (fun k => k = w.heap.size + 1 + 1) w6).setCell (p := ⟨w.heap.size + 1 + 1, 0, none⟩) (fun _ => rfl) _).setCell (p := ⟨w.heap.size + 1 + 1, 1, none⟩) (fun _ => rfl) _).setCell (p := ⟨w.heap.size + 1 + 1, 2, none⟩) (fun _ => rfl) _)
        have hne6 := own_tag HOw6.out HR6.out (by decide)
        have hsb : sb ≠ w.heap.size + 1 + 1 := by simp at hsl; omega
        refine bodyPost_ret (v := .agg #[.slice (some ⟨sb, 0, none⟩) 1 1, .int .i64 0, .nilIface]) (by simp [results, Tryz.results41, go_sem, r0, r1, r2]) rfl ⟨sb, tv, _, Or.inl ⟨HF.out, rfl, rfl⟩, (hol.block sb (heap_lt HS6.out) hsb).trans HS6.out, base0 (ownsRow_of HOw6.out (fun k hk => hol.block k (HOw6.out.lt k hk).2 (fun e => hne6 (by rw [hk, e])))), HO6.out.trans hol (fun q h e => by omega)⟩
    · obtain ⟨_, _, _, _, tv, hU1, hown1⟩ := hUL
      have HF := hide hf
      clear hf
      obtain ⟨po1, pn1, pc1, hM1⟩ := hU1.hM
      have hM5 := hmap _ _ _ _ _ _ _ _ hM1
      have hne5 := own_tag hown1 hbx (by decide)
      have hnm5 := own_tag hown1 hM1 (by decide)
      have hown5 : w5.ownsRow wS.heap.size 5 1 tv out.size (Lib.strCells out) := ownsRow_of hown1 (fun k hk => ho1.block k (hown1.lt k hk).2 (fun e => e.elim (fun e => hne5 (by rw [hk, e])) (fun e => hnm5 (by rw [hk, e]))))
      have hsb5 : w5.heap[sb]? = some (.cells #[.string ⟨#[]⟩, tv] 142 (0, 0)) := (ho1.block sb (heap_lt hU1.hS) (fun e => e.elim (fun e => by omega) (fun e => hU1.nms e.symm))).trans hU1.hS
      have hb85 : w5.heap[b8]? = some (.cells #[.pointer (some ⟨m, 0, none⟩)] 130 (0, 0)) := (ho5.block b8 l8 (fun e => by rcases e with (e | e | e) | e; exact nbm e; exact nbv e; exact nbs e; exact nbm e)).trans HB8.out
      have e8 : w5.cell? ⟨b8, 0, none⟩ = some (.pointer (some ⟨m, 0, none⟩)) := cell_of hb85 rfl
      have i8 := heap_lt hb85
      have hO5 : Only (fun _ => False) (w2.alloc (.cells #[.pointer (some ⟨pb, 0, none⟩)] 128)) w5 := hU1.hO.trans ho1 (fun q hq e => by simp at hq hml; omega)
      have hR5 : w5.heap[w.heap.size + 1 + 1]? = some (.cells #[.slice none 0 0, .int .i64 0, .nilIface] 76 (0, 0)) := (hO5.block _ (by simp; omega) (fun e => e)).trans ((Below.heap_alloc _ _ _ (heap_lt HO12.out)).trans HO12.out)
      have r0 : w5.cell? ⟨w.heap.size + 1 + 1, 0, none⟩ = some (.slice none 0 0) := cell_of hR5 rfl
      have r1 : w5.cell? ⟨w.heap.size + 1 + 1, 1, none⟩ = some (.int .i64 0) := cell_of hR5 rfl
      have r2 : w5.cell? ⟨w.heap.size + 1 + 1, 2, none⟩ = some .nilIface := cell_of hR5 rfl
      have rf := free_of hR5
      have rl := heap_lt hR5
      have HSt := hide (streams_at m ab vb txt (.slice po1 pn1 pc1) (some ⟨sb, 0, none⟩) 1 1 out.size n 0 w5 hM5)
      have HO5 : Hid (Only (fun _ => False) w w5) := (HO2.out.alloc _).trans hO5 (fun _ _ e => e)
      have HS5 := hide hsb5
      have HOw5 := hide hown5
      have HR5 := hide hR5
      clear hO5 hR5 hb85 hM5 hsb5 hown5 ho1 ho5 hbx hU1 hown1 hM1 HA1 hmap
      go_wp2_with (go_at_call 66; refine (HSt.out).mono ?_; rintro en w' ⟨rfl, h3⟩; subst w')
      have hol : Only (fun k => k = w.heap.size + 1 + 1) w5 (((w5.setCell ⟨w.heap.size + 1 + 1, 0, none⟩ (.slice (some ⟨sb, 0, none⟩) 1 1)).setCell ⟨w.heap.size + 1 + 1, 1, none⟩ (.int .i64 0)).setCell ⟨w.heap.size + 1 + 1, 2, none⟩ (.iface 558 (.pointer (some a)))) := (((Only.refl (fun k => k = w.heap.size + 1 + 1) w5).setCell (p := ⟨w.heap.size + 1 + 1, 0, none⟩) (fun _ => rfl) _).setCell (p := ⟨w.heap.size + 1 + 1, 1, none⟩) (fun _ => rfl) _).setCell (p := ⟨w.heap.size + 1 + 1, 2, none⟩) (fun _ => rfl) _
      have hne6 := own_tag HOw5.out HR5.out (by decide)
      have hsb : sb ≠ w.heap.size + 1 + 1 := by simp at hsl; omega
      refine bodyPost_ret (v := .agg #[.slice (some ⟨sb, 0, none⟩) 1 1, .int .i64 0, .iface 558 (.pointer (some a))]) (by simp [results, Tryz.results41, go_sem, r0, r1, r2]) rfl ⟨sb, tv, out, Or.inr ⟨HF.out, rfl⟩, (hol.block sb (heap_lt HS5.out) hsb).trans HS5.out, base0 (ownsRow_of HOw5.out (fun k hk => hol.block k (HOw5.out.lt k hk).2 (fun e => hne6 (by rw [hk, e])))), HO5.out.trans hol (fun q h e => by omega)⟩
end Go.Proofs.YtdbdbaepmdmnfaaGreatDoor
namespace Go.Proofs.YtdbdbaepmdmnfaaGreatDoor
open Go.RowKit
set_option maxRecDepth 20000 in
set_option maxHeartbeats 4000000 in
theorem streams_ofL (sb : Nat) (tv : Value) (M : List UInt8) (w : World) (hS : w.heap[sb]? = some (.cells #[.string ⟨#[]⟩, tv] 142 (0, 0))) (hown : w.ownsRow 0 5 1 tv M.length (M.map byV)) :
    Calls Tryz.prog 42 #[.slice (some ⟨sb, 0, none⟩) 1 1] w fun en w' => ∃ g, en = .returned (.slice (some ⟨g, 0, none⟩) 1 1) ∧ w'.heap[g]? = some (.cells #[.string ⟨#[]⟩, .string (ofB M)] 41 (0, 0)) ∧ Only (fun _ => False) w w' := by
  have hmk := mk49
  obtain ⟨po, cap, rfl⟩ := ownsRow_slice hown
  have s0 : w.cell? ⟨sb, 0, none⟩ = some (.string ⟨#[]⟩) := cell_of hS rfl
  have s1 : w.cell? ⟨sb, 1, none⟩ = some (.slice po M.length cap) := cell_of hS rfl
  have sl := heap_lt hS
  have kc : Hid (∀ W, Only (fun _ => False) w W → (convert 54 9 (.slice po M.length cap)).run Tryz.prog W = .ok (.string (ofB M)) W) := fun W hW => bytes_conv (M := M) (ownsRow_of hown (fun k hk => hW.block k (hown.lt k hk).2 (fun e => e)))
  clear hS hown
  go_enter Tryz.func42, Tryz.ntmps42
  go_wp2
  go_loopg [11] 1 (fun gh s11 wr => (gh = 1 ∧ s11 = .int .i64 0 ∧ w.alloc (.cells #[.string ⟨#[]⟩, .string ⟨#[]⟩] 41) = wr) ∨ (gh = 0 ∧ s11 = .int .i64 1 ∧ wr.heap[w.heap.size]? = some (.cells #[.string ⟨#[]⟩, .string (ofB M)] 41 (0, 0)) ∧ Only (fun _ => False) w wr))
  case atStart => exact Or.inl ⟨rfl, rfl, rfl⟩
  case round =>
    rcases hrel with ⟨hg, rfl, ew⟩ | ⟨hg, rfl, hb, ho⟩
    · subst ew
      subst hg
      have hkc := kc.out ((w.alloc (.cells #[.string ⟨#[]⟩, .string ⟨#[]⟩] 41)).alloc (.cells #[.string ⟨#[]⟩, .slice po M.length cap] 142)) ((onlyA w _).alloc _)
      go_wp2
      go_roundg 0
      case measure => omega
      case rel =>
        refine Or.inr ⟨rfl, by go_num, ?_, ?_⟩
        · exact (Below.heap_alloc _ _ _ (by simp)).trans (new0 w _)
        · exact (onlyA w _).alloc _
    · have HB := hide hb
      have HO := hide ho
      clear hb ho
      go_wp2
      go_ret
      exact ⟨_, rfl, HB.out, HO.out⟩
end Go.Proofs.YtdbdbaepmdmnfaaGreatDoor
namespace Go.Proofs.YtdbdbaepmdmnfaaGreatDoor
open Go.RowKit
/-- The errors are there; the one for fields lies apart from the two that are asked for ahead of it. -/
structure SentF (w : World) (a : Addr) : Prop where
  s : Sent w
  f : w.cell? ⟨2, 0, none⟩ = some (.iface 558 (.pointer (some a)))
  ha : ∃ c t, w.heap[a.block]? = some (.cells c t (0, 0))
  o : ∀ k, k ≤ 1 → ∃ b, w.cell? ⟨k, 0, none⟩ = some (.iface 558 (.pointer (some b))) ∧ a ≠ b ∧ ∃ c t, w.heap[b.block]? = some (.cells c t (0, 0))
theorem SentF.only {w w' : World} {a : Addr} (h : SentF w a) (ho : Only (fun _ => False) w w') : SentF w' a := by
  obtain ⟨h1, h2, ⟨c, t, h3⟩, h4⟩ := h
  refine ⟨h1.only ho, (ho.cell (p := ⟨2, 0, none⟩) (World.block_lt_of_cell? w _ h2) (fun e => e)).trans h2, ⟨c, t, (ho.block _ (heap_lt h3) (fun e => e)).trans h3⟩, fun k hk => ?_⟩
  obtain ⟨b, g1, g2, c', t', g3⟩ := h4 k hk
  exact ⟨b, (ho.cell (p := ⟨k, 0, none⟩) (World.block_lt_of_cell? w _ g1) (fun e => e)).trans g1, g2, c', t', (ho.block _ (heap_lt g3) (fun e => e)).trans g3⟩
set_option maxRecDepth 100000 in
set_option maxHeartbeats 4000000 in
theorem errno_field (a : Addr) (w : World) (h : SentF w a) : Calls Tryz.prog 43 #[.iface 558 (.pointer (some a))] w fun e w' => e = .returned (.int .i64 6) ∧ w' = w := by
  obtain ⟨b0, c0, n0, x0, t0, d0⟩ := h.o 0 (by decide)
  obtain ⟨b1, c1, n1, x1, t1, d1⟩ := h.o 1 (by decide)
  obtain ⟨xa, ta, da⟩ := h.ha
  have c2 := h.f
  have H0 := hide (is_other a b0 xa x0 ta t0 w n0 da d0)
  have H1 := hide (is_other a b1 xa x1 ta t1 w n1 da d1)
  have H2 := hide (is_same a w)
  clear h d0 d1 da
  go_enter Tryz.func43, Tryz.ntmps43
  go_wp2_with fail
  refine (H0.out).mono ?_
  rintro en w' ⟨rfl, h3⟩
  subst w'
  go_wp2_with fail
  refine (H1.out).mono ?_
  rintro en w' ⟨rfl, h3⟩
  subst w'
  go_wp2_with fail
  refine (H2.out).mono ?_
  rintro en w' ⟨rfl, h3⟩
  subst w'
  go_wp2
  go_ret
  exact ⟨rfl, rfl⟩
/-- What Run answers of the program that prints each record. -/
def PrintsTo (w : World) (T : List UInt8) (en : Ending) (w' : World) : Prop :=
  ∃ (g : Nat) (x : ByteArray) (E : Int), en = .returned (.tuple #[.slice (some ⟨g, 0, none⟩) 1 1, .int .i64 0, .int .i64 E, .int .i64 0]) ∧ w'.heap[g]? = some (.cells #[.string ⟨#[]⟩, .string x] 41 (0, 0)) ∧ (AllFew (recs T) → E = 0 ∧ x = ofB (printed (recs T))) ∧ (¬ AllFew (recs T) → E = 6) ∧ Only (fun _ => False) w w'
set_option maxRecDepth 20000 in
set_option maxHeartbeats 8000000 in
theorem grun_print (T : ByteArray) (hT : T.size ≤ 400) (a : Addr) (w : World) (hse : SentF w a) : Calls Tryz.prog 28 #[.string P1, .string T, .int .i64 2000] w (PrintsTo w T.data.toList) := by
  have HRd := hide (readProgramp1 w)
  have HSe := hide hse
  have hti : ¬ (400 : Int) < (T.size : Int) := by omega
  clear hse
  go_enter Tryz.func28, Tryz.ntmps28
  go_wp2_with fail
  refine (HRd.out).mono ?_
  rintro en w2 ⟨pb, v, rfl, ⟨rs, u, rfl, hrow, hu⟩, ho2⟩
  have hrow2 := hrow
  obtain ⟨rg, rcap, rfl, _, _⟩ := own_at hrow2 (by omega)
  have HRR : Hid (Calls Tryz.prog 41 #[.agg #[.slice none 0 0, .slice (some ⟨rg, 0, none⟩) 1 rcap], .string T, .int .i64 2000] (w2.alloc (.cells #[.slice none 0 0, .slice (some ⟨rg, 0, none⟩) 1 rcap] 60)) (RunsTo (w2.alloc (.cells #[.slice none 0 0, .slice (some ⟨rg, 0, none⟩) 1 rcap] 60)) a T.data.toList)) := hide (by
    obtain ⟨vs, hl, h1, _, h4⟩ := hu
    obtain ⟨r, cap, rfl, hrl, hrc⟩ := own_at h1 (by omega)
    match vs, hl with
    | [b], _ =>
      have hb : b = printV := h4 0 b rfl
      subst hb
      refine run_print T hT a (.slice (some ⟨rg, 0, none⟩) 1 rcap) r cap _ (hrow.alloc _) (by simp; omega) (((onlyA w2 _).cell (p := ⟨r, 0, none⟩) hrl (fun e => e)).trans (hrc 0 _ rfl)) ?_
      exact ((HSe.out.only ho2).only (onlyA w2 _)).f)
  have HO2 := hide ho2
  clear hrow hrow2 hu ho2 HRd
  go_wp2_with fail
  refine (HRR.out).mono ?_
  rintro en w4 ⟨sb, tv, out, hcase, hS, hown, ho4⟩
  have hw4 : Only (fun _ => False) w w4 := (HO2.out.alloc _).trans ho4 (fun _ _ e => e)
  rcases hcase with ⟨hf, rfl, ho⟩ | ⟨hf, rfl⟩
  · have hO4 : Only (fun _ => False) w (w4.alloc (.cells #[.slice (some ⟨sb, 0, none⟩) 1 1, .int .i64 0, .nilIface] 76)) := hw4.alloc _
    have hrowM : w4.ownsRow 0 5 1 tv out.data.toList.length (out.data.toList.map byV) := by rw [len_eq]; exact hown
    have HSt : Hid (∀ W, Only (fun _ => False) w4 W → Calls Tryz.prog 42 #[.slice (some ⟨sb, 0, none⟩) 1 1] W fun en w' => ∃ g, en = .returned (.slice (some ⟨g, 0, none⟩) 1 1) ∧ w'.heap[g]? = some (.cells #[.string ⟨#[]⟩, .string (ofB out.data.toList)] 41 (0, 0)) ∧ Only (fun _ => False) W w') := fun W hW => streams_ofL sb tv out.data.toList W ((hW.block sb (heap_lt hS) (fun e => e)).trans hS) (ownsRow_of hrowM (fun k hk => hW.block k (hrowM.lt k hk).2 (fun e => e)))
    have HEn : Hid (∀ W, Only (fun _ => False) w W → Calls Tryz.prog 43 #[.nilIface] W fun e w' => e = .returned (.int .i64 0) ∧ w' = W) := hide (fun W hW => errno_nil W (HSe.out.only hW).s)
    have HF := hide hf
    have HEq : Hid (ofB out.data.toList = ofB (printed (recs T.data.toList))) := hide (by rw [ho]; rfl)
    have HO4 := hide hO4
    clear hS hown ho4 hO4 HRR hrowM hw4
    have n0 : (w4.alloc (.cells #[.slice (some ⟨sb, 0, none⟩) 1 1, .int .i64 0, .nilIface] 76)).drew.cell? ⟨w4.heap.size, 0, none⟩ = some (.slice (some ⟨sb, 0, none⟩) 1 1) := cell_of (new0 w4 _) rfl
    have n1 : (w4.alloc (.cells #[.slice (some ⟨sb, 0, none⟩) 1 1, .int .i64 0, .nilIface] 76)).drew.cell? ⟨w4.heap.size, 1, none⟩ = some (.int .i64 0) := cell_of (new0 w4 _) rfl
    have n2 : (w4.alloc (.cells #[.slice (some ⟨sb, 0, none⟩) 1 1, .int .i64 0, .nilIface] 76)).drew.cell? ⟨w4.heap.size, 2, none⟩ = some (.nilIface) := cell_of (new0 w4 _) rfl
    go_upto_region 7 with fail
    go_region_held3 (fun W => W.cell? ⟨w4.heap.size, 0, none⟩ = some (.slice (some ⟨sb, 0, none⟩) 1 1) ∧ W.cell? ⟨w4.heap.size, 1, none⟩ = some (.int .i64 0) ∧ W.cell? ⟨w4.heap.size, 2, none⟩ = some (.nilIface)) (first | (refine ⟨?_, ?_, ?_⟩ <;> (with_reducible assumption)))
      (first | (go_at_call 42; refine (HSt.out _ (toDrew (onlyA w4 _))).mono ?_; rintro en w5 ⟨g, rfl, hg5, ho5⟩; have q0 := (ho5.cell (p := ⟨w4.heap.size, 0, none⟩) (by simp) (fun e => e)).trans n0; have q1 := (ho5.cell (p := ⟨w4.heap.size, 1, none⟩) (by simp) (fun e => e)).trans n1; have q2 := (ho5.cell (p := ⟨w4.heap.size, 2, none⟩) (by simp) (fun e => e)).trans n2; have HG5 := hide hg5; have HO5 : Hid (Only (fun _ => False) w w5) := HO4.out.trans (fromDrew ho5) (fun _ _ e => e); clear hg5 ho5) | (go_at_call 43; refine (HEn.out _ HO5.out).mono ?_; rintro en w' ⟨rfl, h3⟩; subst w'))
    all_goals
      go_wp2
      exact bodyPost_ret (v := .tuple #[.slice (some ⟨g, 0, none⟩) 1 1, .int .i64 0, .int .i64 0, .int .i64 0]) (by simp [results, Tryz.results28, go_sem]) rfl ⟨g, ofB out.data.toList, 0, rfl, HG5.out, fun _ => ⟨rfl, HEq.out⟩, fun h => absurd HF.out h, HO5.out⟩
  · have hO4 : Only (fun _ => False) w (w4.alloc (.cells #[.slice (some ⟨sb, 0, none⟩) 1 1, .int .i64 0, .iface 558 (.pointer (some a))] 76)) := hw4.alloc _
    have hrowM : w4.ownsRow 0 5 1 tv out.data.toList.length (out.data.toList.map byV) := by rw [len_eq]; exact hown
    have HSt : Hid (∀ W, Only (fun _ => False) w4 W → Calls Tryz.prog 42 #[.slice (some ⟨sb, 0, none⟩) 1 1] W fun en w' => ∃ g, en = .returned (.slice (some ⟨g, 0, none⟩) 1 1) ∧ w'.heap[g]? = some (.cells #[.string ⟨#[]⟩, .string (ofB out.data.toList)] 41 (0, 0)) ∧ Only (fun _ => False) W w') := fun W hW => streams_ofL sb tv out.data.toList W ((hW.block sb (heap_lt hS) (fun e => e)).trans hS) (ownsRow_of hrowM (fun k hk => hW.block k (hrowM.lt k hk).2 (fun e => e)))
    have HEn : Hid (∀ W, Only (fun _ => False) w W → Calls Tryz.prog 43 #[.iface 558 (.pointer (some a))] W fun e w' => e = .returned (.int .i64 6) ∧ w' = W) := hide (fun W hW => errno_field a W (HSe.out.only hW))
    have HF := hide hf
    have HO4 := hide hO4
    clear hS hown ho4 hO4 HRR hrowM hw4
    have n0 : (w4.alloc (.cells #[.slice (some ⟨sb, 0, none⟩) 1 1, .int .i64 0, .iface 558 (.pointer (some a))] 76)).drew.cell? ⟨w4.heap.size, 0, none⟩ = some (.slice (some ⟨sb, 0, none⟩) 1 1) := cell_of (new0 w4 _) rfl
    have n1 : (w4.alloc (.cells #[.slice (some ⟨sb, 0, none⟩) 1 1, .int .i64 0, .iface 558 (.pointer (some a))] 76)).drew.cell? ⟨w4.heap.size, 1, none⟩ = some (.int .i64 0) := cell_of (new0 w4 _) rfl
    have n2 : (w4.alloc (.cells #[.slice (some ⟨sb, 0, none⟩) 1 1, .int .i64 0, .iface 558 (.pointer (some a))] 76)).drew.cell? ⟨w4.heap.size, 2, none⟩ = some (.iface 558 (.pointer (some a))) := cell_of (new0 w4 _) rfl
    go_upto_region 7 with fail
    go_region_held3 (fun W => W.cell? ⟨w4.heap.size, 0, none⟩ = some (.slice (some ⟨sb, 0, none⟩) 1 1) ∧ W.cell? ⟨w4.heap.size, 1, none⟩ = some (.int .i64 0) ∧ W.cell? ⟨w4.heap.size, 2, none⟩ = some (.iface 558 (.pointer (some a)))) (first | (refine ⟨?_, ?_, ?_⟩ <;> (with_reducible assumption)))
      (first | (go_at_call 42; refine (HSt.out _ (toDrew (onlyA w4 _))).mono ?_; rintro en w5 ⟨g, rfl, hg5, ho5⟩; have q0 := (ho5.cell (p := ⟨w4.heap.size, 0, none⟩) (by simp) (fun e => e)).trans n0; have q1 := (ho5.cell (p := ⟨w4.heap.size, 1, none⟩) (by simp) (fun e => e)).trans n1; have q2 := (ho5.cell (p := ⟨w4.heap.size, 2, none⟩) (by simp) (fun e => e)).trans n2; have HG5 := hide hg5; have HO5 : Hid (Only (fun _ => False) w w5) := HO4.out.trans (fromDrew ho5) (fun _ _ e => e); clear hg5 ho5) | (go_at_call 43; refine (HEn.out _ HO5.out).mono ?_; rintro en w' ⟨rfl, h3⟩; subst w'))
    all_goals
      go_wp2
      exact bodyPost_ret (v := .tuple #[.slice (some ⟨g, 0, none⟩) 1 1, .int .i64 0, .int .i64 6, .int .i64 0]) (by simp [results, Tryz.results28, go_sem]) rfl ⟨g, ofB out.data.toList, 6, rfl, HG5.out, fun h => absurd h HF.out, fun _ => rfl, HO5.out⟩
end Go.Proofs.YtdbdbaepmdmnfaaGreatDoor
