import Derived.Test.YtdbdbaepmdmnfaaGreatDoorQ24
import Derived.Test.YtdbdbaepmdmnfaaGreatDoorQ22
import Derived.Deep.RegionHeld3
import Derived.Deep.CutRange
import Derived.Deep.DeepCutAuto
namespace Go.Proofs.YtdbdbaepmdmnfaaGreatDoor
open Go.RowKit
set_option maxRecDepth 100000 in
set_option maxHeartbeats 8000000 in
theorem Longest_any (vS : Value) (last : Nat) (Q : List St) (s : ByteArray) (hwf : WfQ Q) (hu : OneDone Q) (hfst : last < Q.length) (h6 : s.size ≤ 65000) (hQ : Q.length ≤ 1000000) (w : World) (hp : PatAt w vS Q) :
    Calls Tryz.prog 58 #[.agg #[vS, .int .i64 last], .string s] w fun e w' => Only (fun _ => False) w w' ∧ ∃ lb L, w.heap.size ≤ lb ∧ AllLen Q s.data.toList last L ∧ w'.heap[lb]? = some (.cells (zints L).toArray 3 (0, 0)) ∧ e = .returned (.slice (some ⟨lb, 0, none⟩) L.length L.length) := by
  obtain ⟨G, capS, rfl⟩ := hp.form (by omega)
  have HP := hide hp
  have HW := hide hwf
  have HU := hide hu
  have hmk := run_make_row' (P := Tryz.prog) 126 3 (.int .i64 0) 8 Tryz.underlying126 info3 rfl .i64 .i64 Q.length (by omega) (by omega)
  clear hp hwf hu
  go_enter Tryz.func58, Tryz.ntmps58
  go_upto_region 1 with fail
  go_cut [5] (fun s5 wx => ∃ sb, s5 = .pointer (some ⟨sb, 0, none⟩) ∧ Fresh w wx G Q.length capS s.size last sb)
  case first =>
    go_region_held3 (fun W => W.cell? ⟨w.heap.size, 0, none⟩ = some (.slice (some ⟨G, 0, none⟩) Q.length capS)) (first | go_keep | (rw [cell4 _ _ _ _ _ _ _ _ (by omega)]; go_keep) | (rw [cell4a _ _ _ _ _ _ _ _ _ (by omega) (by omega)]; go_keep))
      (first | (go_at_call 88; refine (repeat_w _ s.size h6 _ (by simp [cAt21, cAt22, cAt31, cAt32, cAt33])).mono ?_; rintro e w' ⟨hb, rfl, hrow⟩; have p0 := bc hb w.heap.size 0 (by simp <;> omega); have p1 := bc hb w.heap.size 1 (by simp <;> omega); have z0 := bz hb w.heap.size (by simp <;> omega); have z1 := bz hb (w.heap.size + 1); have z2 := bz hb (w.heap.size + 1 + 1); have z3 := bz hb (w.heap.size + 1 + 1 + 1); have c10 := bc hb (w.heap.size + 1) 0; have f10 := bf hb (w.heap.size + 1) 0; have c11 := bc hb (w.heap.size + 1) 1; have f11 := bf hb (w.heap.size + 1) 1; have c12 := bc hb (w.heap.size + 1) 2; have f12 := bf hb (w.heap.size + 1) 2; have c13 := bc hb (w.heap.size + 1) 3; have f13 := bf hb (w.heap.size + 1) 3; have c20 := bc hb (w.heap.size + 1 + 1) 0; have f20 := bf hb (w.heap.size + 1 + 1) 0; have c21 := bc hb (w.heap.size + 1 + 1) 1; have f21 := bf hb (w.heap.size + 1 + 1) 1; have c22 := bc hb (w.heap.size + 1 + 1) 2; have f22 := bf hb (w.heap.size + 1 + 1) 2; have c23 := bc hb (w.heap.size + 1 + 1) 3; have f23 := bf hb (w.heap.size + 1 + 1) 3; have c30 := bc hb (w.heap.size + 1 + 1 + 1) 0; have f30 := bf hb (w.heap.size + 1 + 1 + 1) 0; have c31 := bc hb (w.heap.size + 1 + 1 + 1) 1; have f31 := bf hb (w.heap.size + 1 + 1 + 1) 1; have c32 := bc hb (w.heap.size + 1 + 1 + 1) 2; have f32 := bf hb (w.heap.size + 1 + 1 + 1) 2; have c33 := bc hb (w.heap.size + 1 + 1 + 1) 3; have f33 := bf hb (w.heap.size + 1 + 1 + 1) 3; simp [cZ2, cZ3, cAt21, cAt22, cAt31, cAt32, cAt33, fAt21, fAt22, fAt31, fAt32, fAt33] at p0 p1 z1 z2 z3 c10 f10 c11 f11 c12 f12 c13 f13 c20 f20 c21 f21 c22 f22 c23 f23 c30 f30 c31 f31 c32 f32 c33 f33; (first | with_reducible (have hk := keep3 hb hrow) | with_reducible (have hk := keep2 hb hrow) | with_reducible (have hk := keep1 hb hrow)); have HK := hide hk; clear hb hrow hk))
    all_goals
      go_wp2_with fail
      go_meet
      case rel =>
        refine ⟨_, rfl, ?_⟩
        first
          | with_reducible exact freshA HK.out.1 HK.out.2.2.1 HK.out.2.1 (by omega) (by omega) p1
          | with_reducible exact freshA HK.out.1 HK.out.2.2.2.1 HK.out.2.1 (by omega) (by omega) p1
          | with_reducible exact freshC HK.out.1 HK.out.2.1 (by omega) p1
          | with_reducible exact freshD HK.out.1 HK.out.2.1 (by omega) p1
          | with_reducible exact freshE HK.out.1 HK.out.2.2.1 HK.out.2.1 (by omega) (by omega) p1
          | with_reducible exact freshE HK.out.1 HK.out.2.2.2.1 HK.out.2.1 (by omega) (by omega) p1
          | with_reducible exact freshB HK.out.1 HK.out.2.2.1 HK.out.2.2.2.1 HK.out.2.1 (by omega) (by omega) (by omega) p1
          | with_reducible exact freshB HK.out.1 HK.out.2.2.1 HK.out.2.2.2.2.1 HK.out.2.1 (by omega) (by omega) (by omega) p1
          | with_reducible exact freshB HK.out.1 HK.out.2.2.2.1 HK.out.2.2.1 HK.out.2.1 (by omega) (by omega) (by omega) p1
          | with_reducible exact freshB HK.out.1 HK.out.2.2.2.1 HK.out.2.2.2.2.1 HK.out.2.1 (by omega) (by omega) (by omega) p1
          | with_reducible exact freshB HK.out.1 HK.out.2.2.2.2.1 HK.out.2.2.1 HK.out.2.1 (by omega) (by omega) (by omega) p1
          | with_reducible exact freshB HK.out.1 HK.out.2.2.2.2.1 HK.out.2.2.2.1 HK.out.2.1 (by omega) (by omega) (by omega) p1
  case rest =>
    obtain ⟨sb, e5, rb, lb, ho, h1, h2, h3, h4, h5, h7, hp1⟩ := hcut
    subst e5
    have HO := hide ho
    have H1 := hide h1
    have H2 := hide h2
    have H3 := hide h3
    clear ho h1 h2 h3 hmk
    go_wp2_with fail
    refine (run_new HW.out HU.out hfst h6 hQ HP.out HO.out H1.out H2.out H3.out h4 h5 h7).mono ?_
    rintro e w2 ⟨rfl, L, hL, hl, hc, ho2⟩
    have HL := hide hL
    have Hl := hide hl
    have HO2 := hide ho2
    clear hL hl ho2
    go_wp2
    go_ret
    exact ⟨HO2.out, lb, L, h7, HL.out, Hl.out, rfl⟩
end Go.Proofs.YtdbdbaepmdmnfaaGreatDoor
namespace Go.Proofs.YtdbdbaepmdmnfaaGreatDoor
open Go.RowKit
end Go.Proofs.YtdbdbaepmdmnfaaGreatDoor
namespace Go.Proofs.YtdbdbaepmdmnfaaGreatDoor
open Go.RowKit
/-- What a Match answers. -/
def MatchIs (p t : ByteArray) (e : Ending) : Prop :=
  (500 < p.size ∨ 500 < t.size → e = .returned (.tuple #[.int .i64 0, .int .i64 0, .int .i64 1])) ∧
  (¬ (500 < p.size ∨ 500 < t.size) → (wholeP p.data.toList = none → e = .returned (.tuple #[.int .i64 0, .int .i64 0, .int .i64 7])) ∧
    ∀ R, wholeP p.data.toList = some R → ∃ best, Finds R t.data.toList 0 0 best ∧ e = .returned (.tuple #[.int .i64 (bBeg best), .int .i64 (bLen best), .int .i64 0]))
theorem MatchIs.unique {p t e e'} (h : MatchIs p t e) (h' : MatchIs p t e') : e = e' := by
  by_cases hl : 500 < p.size ∨ 500 < t.size
  · rw [h.1 hl, h'.1 hl]
  · cases hw : wholeP p.data.toList with
    | none => rw [(h.2 hl).1 hw, (h'.2 hl).1 hw]
    | some R =>
      obtain ⟨b1, h1, rfl⟩ := (h.2 hl).2 R hw
      obtain ⟨b2, h2, rfl⟩ := (h'.2 hl).2 R hw
      rw [h1.unique h2]
end Go.Proofs.YtdbdbaepmdmnfaaGreatDoor
