import Derived.Test.YthkknpjoifoanaaGreatDoorQ32
import Derived.Test.YthkknpjoifoanaaGreatDoorQ33
import Derived.Test.YthkknpjoifoanaaGreatDoorQ11
import Derived.LaidEql
import Derived.Test.YthkknpjoifoanaaGreatDoorQ01
import Derived.Test.YthkknpjoifoanaaGreatDoorQ12
namespace Go.Proofs.YthkknpjoifoanaaGreatDoor
open Go.RowKit
theorem body_ok (G : Nat → World → Value → Nat → Prop) (hR : ReadsAs ⟨#[98, 42]⟩ G) (hG : Calm G) (pb : Nat) (w : World) (u : Value) (hu : VG pb w u) : ∃ r cap, u = .slice (some ⟨r, 0, none⟩) 2 cap ∧ ∀ kp, BodyOK kp w u (KG G) := by
  obtain ⟨vs, hl, h1, _, h4⟩ := hu
  obtain ⟨r, cap, rfl, hrl, hrc⟩ := own_at h1 (by omega)
  refine ⟨r, cap, rfl, fun kp W hW => ?_⟩
  match vs, hl with
  | [a, b], _ =>
    have ha := h4 0 a rfl
    have hb := h4 1 b rfl
    unfold Vf2 at ha hb
    rw [if_pos rfl] at ha
    rw [if_neg (by decide)] at hb
    obtain ⟨z, rfl, rr, rfl, hrow⟩ := ha
    obtain ⟨g, cap2, rfl, hgl, hgc⟩ := own_at hrow.1 (by simp [vs2])
    have hbe : b = printV := hb
    subst hbe
    have g0 := hgc 0 _ rfl
    have g1 := hgc 1 _ rfl
    have w0 := hrc 0 _ rfl
    have w1 := hrc 1 _ rfl
    refine block_made kp (StF (WorkF G ⟨#[45]⟩)) (StF PrintF) (st_keeps (work_keeps hG _)) (st_keeps print_keeps) r cap 344 282 _ _ W (Nat.lt_of_lt_of_le hrl hW.size) ((hW.cell (p := ⟨r, 0, none⟩) hrl (fun e => e)).trans w0) ((hW.cell (p := ⟨r, 1, none⟩) hrl (fun e => e)).trans w1) ?_ ?_
    · intro W2 h2
      refine stmt_made kp _ (work_keeps hG _) 344 _ W2 (ts507_191 _) (tx507_470 _) (fun W3 h3 => ?_)
      have ho := (hW.trans h2 (fun _ _ e => e)).trans h3 (fun _ _ e => e)
      exact counted_work kp ⟨#[98, 42]⟩ ⟨#[45]⟩ _ G hR hG g cap2 W3 (Nat.lt_of_lt_of_le hgl ho.size) ((ho.cell (p := ⟨g, 0, none⟩) hgl (fun e => e)).trans g0) ((ho.cell (p := ⟨g, 1, none⟩) hgl (fun e => e)).trans g1)
    · intro W2 h2
      exact stmt_made kp _ print_keeps 282 _ W2 (ts419_191 _) (tx419_470 _) (fun W3 h3 => counted_print kp W3)
end Go.Proofs.YthkknpjoifoanaaGreatDoor

namespace Go.Proofs.YthkknpjoifoanaaGreatDoor
open Go.RowKit
theorem Under.only {wN wS W W' m ab vb sb txt size n sv cs} {D : Nat → Prop} (h : Under wN wS W m ab vb sb txt size n sv cs) (ho : Only D W W') (dm : ¬ D m) (dv : ¬ D vb) (ds : ¬ D sb) (hD : ∀ k, D k → wN.heap.size ≤ k) : Under wN W' W' m ab vb sb txt size n sv cs := by
  obtain ⟨po, pn, pc, hM⟩ := h.hM
  exact ⟨h.hm, h.hv, h.hs, h.nmv, h.nms, h.nvs, ⟨po, pn, pc, hM.only ho dm⟩, h.hV.only ho dv, (ho.block sb (heap_lt h.hS) ds).trans h.hS, h.hO.trans ho (fun q hq e => by have := hD q e; omega), Only.refl _ _⟩
theorem farCD {W : World} {p a : Addr} {v x : Value} (h : W.cell? a = some v) (hn : p.block ≠ a.block) : (W.setCell p x).drew.cell? a = some v := farC h hn
theorem cf91 (args : Array Value) (w : World) : (callFunc 39 args).run Tryz.prog w = .ok (.enter 39 args) w := callFunc_in Tryz.func39 (by kernel_rfl) rfl args w
theorem cf94 (args : Array Value) (w : World) : (callFunc 42 args).run Tryz.prog w = .ok (.enter 42 args) w := callFunc_in Tryz.func42 (by kernel_rfl) rfl args w
set_option maxRecDepth 20000 in
set_option maxHeartbeats 4000000 in
theorem attempt_ok2 (m F : Nat) (hcf : ∀ (args : Array Value) (w : World), (callFunc F args).run Tryz.prog w = .ok (.enter F args) w) (caps : Array Value) (D : Nat → Prop) (Q : World → Prop) (w : World) (hD : ∀ k, D k → k < w.heap.size)
    (h1 : ∀ W, Only (fun _ => False) w W → Calls Tryz.prog F caps W fun en w' => en = .returned (.tuple #[]) ∧ Q w' ∧ Only D W w') :
    Calls Tryz.prog 38 #[.pointer (some ⟨m, 0, none⟩), .func (.func F) #[] caps] w fun en w' => en = .returned .nilIface ∧ (∃ w1, Q w1 ∧ w1.heap[w.heap.size + 1]? = some (.cells #[.nilIface] 61 (0, 0)) ∧ Only (fun k => k = w.heap.size + 1) w1 w') ∧ Only D w w' := by
  have hmf : ∀ (fn : Fn) (first cap : Array Value) (w : World), (Instr.makeFunc fn first cap).run Tryz.prog w = .ok (.func fn first cap) w := fun _ _ _ _ => rfl
  have H1 := hide (h1 ((w.alloc (.cells #[.pointer (some ⟨m, 0, none⟩)] 113)).alloc (.cells #[.nilIface] 61)) ((onlyA w _).alloc _))
  have HD := hide hD
  clear h1 hD
  go_enter_defers Tryz.func38, Tryz.ntmps38
  go_wp2_with fail
  refine (H1.out).mono ?_
  rintro en w1 ⟨rfl, hQ, ho⟩
  have hb := (ho.block (w.heap.size + 1) (by simp) (fun e => by have := HD.out _ e; omega)).trans (new_at2 (W := w.alloc (.cells #[.pointer (some ⟨m, 0, none⟩)] 113)) (by simp) (.cells #[.nilIface] 61))
  have c0 : w1.cell? ⟨w.heap.size + 1, 0, none⟩ = some .nilIface := cell_of hb rfl
  have cf := free_of hb
  have HQ := hide hQ
  have HBb := hide hb
  have HO := hide (fromAlloc (fromAlloc ho))
  clear hQ ho hb H1
  go_wp2
  refine leaves_cons (f := 76) (args := #[.pointer (some ⟨w.heap.size, 0, none⟩), .pointer (some ⟨w.heap.size + 1, 0, none⟩)]) (by simp) (by simp [go_sem]) ?_
  refine (caught_idle _ _ _).mono ?_
  rintro e u' w'' ⟨rfl, rfl, rfl⟩
  refine ⟨.nilIface, ?_, rfl, ⟨w1, HQ.out, HBb.out, (Only.refl (fun k => k = w.heap.size + 1) w1).setCell (p := ⟨w.heap.size + 1, 0, none⟩) (fun _ => rfl) _⟩, HO.out.setCell (p := ⟨w.heap.size + 1, 0, none⟩) (fun h => absurd h (by show ¬ w.heap.size + 1 < w.heap.size; omega)) _⟩
  simp [results, Tryz.results38, go_sem, c0]
set_option maxRecDepth 20000 in
set_option maxHeartbeats 8000000 in
theorem run_run (G : Nat → World → Value → Nat → Prop) (hR : ReadsAs ⟨#[98, 42]⟩ G) (hG : Calm G) (hGL : ∀ C W v f, G C W v f → LensOK W v f) (pt : Nat) (v : Value) (w : World) (h : ProgT 0 (VG pt) w v) :
    Calls Tryz.prog 21 #[v, .string abcX, .int .i64 100] w fun en w' => ∃ sb tv, en = .returned (.agg #[.slice (some ⟨sb, 0, none⟩) 1 1, .int .i64 0, .nilIface]) ∧ w'.heap[sb]? = some (.cells #[.string ⟨#[]⟩, tv] 125 (0, 0)) ∧ w'.ownsRow 0 5 1 tv outN.size (Lib.strCells outN) ∧ Only (fun _ => False) w w' := by
  obtain ⟨rs, u, rfl, hrow, hu⟩ := h
  obtain ⟨r, cap, rfl, hbody⟩ := body_ok G hR hG pt w u hu
  obtain ⟨rg, rcap, rfl, hrgl, hrgc⟩ := own_at hrow (by omega)
  have hmf := hmfT
  have O1 := ((onlyA w (.cells #[.slice none 0 0, .slice (some ⟨rg, 0, none⟩) 1 rcap] 55)).alloc (.cells #[.string abcX] 9)).alloc (.cells #[.slice none 0 0, .int .i64 0, .nilIface] 63)
  have HRm := hide (ready_made (KG G) (block_keeps (st_keeps (work_keeps hG _)) (st_keeps print_keeps)) rg rcap r cap _ (Nat.lt_of_lt_of_le hrgl O1.size) ((O1.cell (p := ⟨rg, 0, none⟩) hrgl (fun e => e)).trans (hrgc 0 _ rfl)) ((O1.cell (p := ⟨rg, 1, none⟩) hrgl (fun e => e)).trans (hrgc 1 _ rfl)) ((O1.cell (p := ⟨rg, 2, none⟩) hrgl (fun e => e)).trans (hrgc 2 _ rfl)) (fun kp => body_mono (hbody kp) O1))
  have HNm : Hid (∀ W, Calls Tryz.prog 37 #[.int .i64 7, .int .i64 0, .int .i64 100] W fun en w' => ∃ m, en = .returned (.pointer (some ⟨m, 0, none⟩)) ∧ FreshM W w' m 100 first7) := fun W => newMachine 100 W
  have HRA := hide (fun B pb rs wN wS hp hr m ab vb sb W hU => readAll_do G hG hGL B pb rs wN wS hp hr m ab vb sb 97 (by omega) W hU)
  have HKg : Hid (Keeps (KG G)) := block_keeps (st_keeps (work_keeps hG _)) (st_keeps print_keeps)
  clear hrow hu hbody hrgc hrgl O1 hR hG hGL
  go_enter Tryz.func21, Tryz.ntmps21
  go_wp2_with fail
  refine (HRm.out).mono ?_
  rintro en w2 ⟨pb, rsv, rfl, hpb, hrule, ho2⟩
  have hpl := heap_lt hpb
  have n1 : (w2.alloc (.cells #[.pointer (some ⟨pb, 0, none⟩)] 111)).cell? ⟨w2.heap.size, 0, none⟩ = some (.pointer (some ⟨pb, 0, none⟩)) := cell_of (new0 w2 _) rfl
  have n1d : (w2.alloc (.cells #[.pointer (some ⟨pb, 0, none⟩)] 111)).drew.cell? ⟨w2.heap.size, 0, none⟩ = some (.pointer (some ⟨pb, 0, none⟩)) := n1
  have n2 : w2.cell? ⟨pb, 3, none⟩ = some (.int .i64 7) := cell_of hpb rfl
  have n3 : w2.cell? ⟨pb, 4, none⟩ = some (.int .i64 0) := cell_of hpb rfl
  have hz2 : w.heap.size + 1 + 1 + 1 ≤ w2.heap.size := by have := ho2.size; simpa using this
  have hi2 : w2.heap[w.heap.size + 1]? = some (.cells #[.string abcX] 9 (0, 0)) := (ho2.block _ (by simp <;> omega) (fun e => e)).trans ((Below.heap_alloc _ _ _ (by simp <;> omega)).trans (new_at2 (by simp) _))
  have ho12 : w2.heap[w.heap.size + 1 + 1]? = some (.cells #[.slice none 0 0, .int .i64 0, .nilIface] 63 (0, 0)) := (ho2.block _ (by simp <;> omega) (fun e => e)).trans (new_at2 (by simp) _)
  have HPb := hide hpb
  have HRl := hide hrule
  have HI2 := hide hi2
  have HO12 := hide ho12
  have HO2 : Hid (Only (fun _ => False) w w2) := (((onlyA w _).alloc _).alloc _).trans ho2 (fun _ _ e => e)
  clear hpb hrule hi2 ho12 ho2 HRm
  go_upto_region 2 with fail
  go_cut [8] (fun s8 wc => ∃ b8 m ab vb sb, s8 = .pointer (some ⟨b8, 0, none⟩) ∧ wc.heap[b8]? = some (.cells #[.pointer (some ⟨m, 0, none⟩)] 113 (0, 0)) ∧ w2.heap.size + 1 ≤ b8 ∧ Under (w2.alloc (.cells #[.pointer (some ⟨pb, 0, none⟩)] 111)) wc wc m ab vb sb ⟨#[]⟩ 0 100 (.slice none 0 0) first7)
  case first =>
    go_region_held3 (fun W => W.cell? ⟨w2.heap.size, 0, none⟩ = some (.pointer (some ⟨pb, 0, none⟩)) ∧ W.cell? ⟨pb, 3, none⟩ = some (.int .i64 7) ∧ W.cell? ⟨pb, 4, none⟩ = some (.int .i64 0)) (first | (refine ⟨?_, ?_, ?_⟩ <;> (repeat (first | (with_reducible assumption) | (with_reducible refine past ?_ _) | (with_reducible refine pastD ?_ _) | ((with_reducible refine farC ?_ ?_); (rotate_left; (focus (first | (simp; done) | (simp; omega) | omega))))))))
      (first | (go_at_call 37; refine (HNm.out _).mono ?_; rintro en w4 ⟨m, rfl, ab, vb, sb, k1, k2, k3, hM, hV, hS, ho4⟩; have hON : Only (fun _ => False) (w2.alloc (.cells #[.pointer (some ⟨pb, 0, none⟩)] 111)) w4 := Only.trans (by repeat (first | with_reducible exact Only.refl _ _ | with_reducible refine Only.alloc ?_ _ | with_reducible refine toDrew ?_)) ho4 (fun _ _ e => e); have g1 := (hON.cell (p := ⟨w2.heap.size, 0, none⟩) (by simp) (fun e => e)).trans n1; have g2 := (hON.cell (p := ⟨pb, 3, none⟩) (by simp; omega) (fun e => e)).trans (past n2 _); have g3 := (hON.cell (p := ⟨pb, 4, none⟩) (by simp; omega) (fun e => e)).trans (past n3 _); have kk1 : w2.heap.size + 1 ≤ m := (by simp at k1; omega); have kk2 : w2.heap.size + 1 ≤ vb := (by simp at k2; omega); have kk3 : w2.heap.size + 1 ≤ sb := (by simp at k3; omega); (try (refine lay (P := w4.heap[w2.heap.size + 1]? = some (.cells #[.pointer none] 113 (0, 0))) ?_ (fun b0 => ?_); (focus (refine (ho4.block _ ?_ (fun e => e)).trans ?_; (focus (first | (simp; done) | (simp; omega) | omega)); (repeat (first | ((with_reducible refine new_at2D ?_ _); focus (simp; done)) | ((with_reducible refine (heap_allocD _ _ ?_).trans ?_); (focus (first | (simp; done) | (simp; omega) | omega))) | ((with_reducible refine new_at2 ?_ _); focus (simp; done)) | ((with_reducible refine (Below.heap_alloc _ _ _ ?_).trans ?_); (focus (first | (simp; done) | (simp; omega) | omega))))); done)); have b0c : w4.cell? ⟨w2.heap.size + 1, 0, none⟩ = some (.pointer none) := cell_of b0 rfl; have b0f := free_of b0; have b0l := heap_lt b0; have Hb0 := hide b0; clear b0)); have HUn : Hid (Under (w2.alloc (.cells #[.pointer (some ⟨pb, 0, none⟩)] 111)) w4 w4 m ab vb sb ⟨#[]⟩ 0 100 (.slice none 0 0) first7) := (by refine hide ⟨by simpa using kk1, by simpa using kk2, by simpa using kk3, ?_, ?_, ?_, ⟨none, 0, 0, hM⟩, hV, hS, hON, Only.refl _ _⟩; (intro e; rw [e] at hM; unfold MAt at hM; unfold VAt at hV; rw [hV] at hM; cases hM); (intro e; rw [e] at hM; unfold MAt at hM; rw [hS] at hM; cases hM); (intro e; rw [e] at hV; unfold VAt at hV; rw [hS] at hV; cases hV)); have hml := heap_lt hM; have hvl := heap_lt hV; have hsl := heap_lt hS; clear hM hV hS hON ho4 k1 k2 k3))
    all_goals
      go_wp2_with fail
      go_meet
      first
        | exact ⟨w4.heap.size, m, ab, vb, sb, rfl, new_at2 rfl _, by omega, HUn.out.only (D := fun _ => False) (onlyA w4 _) (fun e => e) (fun e => e) (fun e => e) (fun _ e => e.elim)⟩
        | (refine ⟨w2.heap.size + 1, m, ab, vb, sb, rfl, set1 Hb0.out _, by omega, HUn.out.only (D := fun k => k = w2.heap.size + 1) ((Only.refl (fun k => k = w2.heap.size + 1) w4).setCell (p := ⟨w2.heap.size + 1, 0, none⟩) (fun _ => rfl) _) ?_ ?_ ?_ (fun k e => by simp; omega)⟩
           · intro e
             obtain ⟨_, _, _, hM⟩ := HUn.out.hM
             unfold MAt at hM
             rw [e, Hb0.out] at hM
             cases hM
           · intro e
             have hV := HUn.out.hV
             unfold VAt at hV
             rw [e, Hb0.out] at hV
             cases hV
           · intro e
             have hS := HUn.out.hS
             rw [e, Hb0.out] at hS
             cases hS)
  case rest =>
    obtain ⟨b8, m, ab, vb, sb, rfl, hb8, k8, hU⟩ := hcut
    have hWz : (w2.alloc (.cells #[.pointer (some ⟨pb, 0, none⟩)] 111)).heap.size = w2.heap.size + 1 := by simp
    have HB8 := hide hb8
    have HU := hide hU
    have c8 : wc.cell? ⟨b8, 0, none⟩ = some (.pointer (some ⟨m, 0, none⟩)) := cell_of hb8 rfl
    have l8 := heap_lt hb8
    have hN0 : wc.heap[w2.heap.size]? = some (.cells #[.pointer (some ⟨pb, 0, none⟩)] 111 (0, 0)) := (hU.hO.block _ (by simp) (fun e => e)).trans (new0 w2 _)
    have hIn : wc.heap[w.heap.size + 1]? = some (.cells #[.string abcX] 9 (0, 0)) := (hU.hO.block _ (by simp; omega) (fun e => e)).trans ((Below.heap_alloc _ _ _ (heap_lt HI2.out)).trans HI2.out)
    have hP0 : wc.heap[pb]? = some (.cells #[.slice none 0 0, rsv, .slice none 0 0, .int .i64 7, .int .i64 0] 118 (0, 0)) := (hU.hO.block _ (by simp; omega) (fun e => e)).trans ((Below.heap_alloc _ _ _ hpl).trans HPb.out)
    have nbm : b8 ≠ m := fun e => by obtain ⟨_, _, _, hM⟩ := hU.hM; unfold MAt at hM; rw [← e, hb8] at hM; cases hM
    have nbv : b8 ≠ vb := fun e => by have hV := hU.hV; unfold VAt at hV; rw [← e, hb8] at hV; cases hV
    have nbs : b8 ≠ sb := fun e => by have hS := hU.hS; rw [← e, hb8] at hS; cases hS
    have hml := hU.hm
    have hvl := hU.hv
    have hsl := hU.hs
    have hRl : RuleF (KG G) w.heap.size (w2.alloc (.cells #[.pointer (some ⟨pb, 0, none⟩)] 111)) rsv := by
      obtain ⟨cg, x, hown, hx⟩ := HRl.out
      exact ⟨cg, x, hown.alloc _, HKg.out.down _ _ _ _ (HKg.out.keep _ _ _ _ hx ((onlyA w2 _).mono (fun _ _ e => e.elim))) (by simp <;> omega)⟩
    have hpN : (w2.alloc (.cells #[.pointer (some ⟨pb, 0, none⟩)] 111)).heap[pb]? = some (.cells #[.slice none 0 0, rsv, .slice none 0 0, .int .i64 7, .int .i64 0] 118 (0, 0)) := (Below.heap_alloc _ _ _ hpl).trans HPb.out
    have mlt : m < wc.heap.size := by obtain ⟨_, _, _, hM⟩ := hU.hM; exact heap_lt hM
    have vlt := heap_lt hU.hV
    have slt := heap_lt hU.hS
    have HA1 := hide (attempt_ok2 m 39 cf91 #[.pointer (some ⟨b8, 0, none⟩), .pointer (some ⟨w2.heap.size, 0, none⟩), .pointer (some ⟨w.heap.size + 1, 0, none⟩)] (fun k => k = m ∨ k = vb ∨ k = sb) (fun w' => ∃ wS cs tv, Under (w2.alloc (.cells #[.pointer (some ⟨pb, 0, none⟩)] 111)) wS w' m ab vb sb outX outN.size 97 tv cs ∧ w'.ownsRow 0 5 1 tv outN.size (Lib.strCells outN)) wc (fun k e => by rcases e with rfl | rfl | rfl <;> assumption) (fun W hW => by
      refine (run1_do b8 w2.heap.size (w.heap.size + 1) m pb abcX (fun w' => (∃ wS cs tv, Under (w2.alloc (.cells #[.pointer (some ⟨pb, 0, none⟩)] 111)) wS w' m ab vb sb outX outN.size 97 tv cs ∧ w'.ownsRow 0 5 1 tv outN.size (Lib.strCells outN)) ∧ Only (fun k => k = m ∨ k = vb ∨ k = sb) W w') W (cell_of ((hW.block _ l8 (fun e => e)).trans HB8.out) rfl) (cell_of ((hW.block _ (heap_lt hN0) (fun e => e)).trans hN0) rfl) (cell_of ((hW.block _ (heap_lt hP0) (fun e => e)).trans hP0) rfl) (cell_of ((hW.block _ (heap_lt hIn) (fun e => e)).trans hIn) rfl) ?_)
      refine (HRA.out w.heap.size pb rsv (w2.alloc (.cells #[.pointer (some ⟨pb, 0, none⟩)] 111)) W.drew hpN hRl m ab vb sb W.drew (hU.only (D := fun _ => False) (toDrew hW) (fun e => e) (fun e => e) (fun e => e) (fun _ e => e.elim))).mono ?_
      rintro en w' ⟨e, cs, tv, h1, h2⟩
      exact ⟨e, ⟨_, cs, tv, h1, h2⟩, fromDrew h1.hT⟩))
    have HN0 := hide hN0
    have HP0 := hide hP0
    clear hb8 hU hN0 hIn hP0 HRA HPb HRl hRl hpN
    go_wp2_with fail
    refine (HA1.out).mono ?_
    rintro en w5 ⟨rfl, ⟨w1, ⟨wS, cs, tv, hU1, hown1⟩, hbx, ho1⟩, ho5⟩
    have hne5 := own_tag hown1 hbx (by decide)
    have hown5 : w5.ownsRow 0 5 1 tv outN.size (Lib.strCells outN) := ownsRow_of hown1 (fun k hk => ho1.block k (hown1.lt k hk).2 (fun e => hne5 (by rw [hk, e])))
    have hU5 := hU1.only ho1 (by omega) (by omega) (by omega) (fun k e => by rw [hWz]; omega)
    have hb85 : w5.heap[b8]? = some (.cells #[.pointer (some ⟨m, 0, none⟩)] 113 (0, 0)) := (ho5.block b8 l8 (fun e => by rcases e with e | e | e; exact nbm e; exact nbv e; exact nbs e)).trans HB8.out
    have e8 : w5.cell? ⟨b8, 0, none⟩ = some (.pointer (some ⟨m, 0, none⟩)) := cell_of hb85 rfl
    have i8 := heap_lt hb85
    have hN5 : w5.heap[w2.heap.size]? = some (.cells #[.pointer (some ⟨pb, 0, none⟩)] 111 (0, 0)) := (hU5.hO.block _ (by simp) (fun e => e)).trans (new0 w2 _)
    have hP5 : w5.heap[pb]? = some (.cells #[.slice none 0 0, rsv, .slice none 0 0, .int .i64 7, .int .i64 0] 118 (0, 0)) := (ho5.block pb (heap_lt HP0.out) (fun e => by simp at hml hvl hsl; rcases e with e | e | e <;> omega)).trans HP0.out
    have HA2 := hide (attempt_ok m 42 cf94 #[.pointer (some ⟨b8, 0, none⟩), .pointer (some ⟨w2.heap.size, 0, none⟩)] (fun _ => False) (fun _ => True) w5 (fun k e => e.elim) (fun W hW => by
      refine (run2_do b8 w2.heap.size m pb W (cell_of ((hW.block _ i8 (fun e => e)).trans hb85) rfl) (cell_of ((hW.block _ (heap_lt hN5) (fun e => e)).trans hN5) rfl) (cell_of ((hW.block _ (heap_lt hP5) (fun e => e)).trans hP5) rfl)).mono ?_
      rintro en w' ⟨e, rfl⟩
      exact ⟨e, trivial, toDrew (Only.refl _ _)⟩))
    have HU5 := hide hU5
    have HOw5 := hide hown5
    have HB85 := hide hb85
    clear ho1 hbx hU1 hown1 hU5 hown5 hb85 hN5 hP5 HA1 ho5 hne5
    go_wp2_with fail
    refine (HA2.out).mono ?_
    rintro en w6 ⟨rfl, _, ho6⟩
    have hO6 : Only (fun _ => False) (w2.alloc (.cells #[.pointer (some ⟨pb, 0, none⟩)] 111)) w6 := HU5.out.hO.trans ho6 (fun _ _ e => e)
    have hR6 : w6.heap[w.heap.size + 1 + 1]? = some (.cells #[.slice none 0 0, .int .i64 0, .nilIface] 63 (0, 0)) := (hO6.block _ (by simp; omega) (fun e => e)).trans ((Below.heap_alloc _ _ _ (heap_lt HO12.out)).trans HO12.out)
    have r0 : w6.cell? ⟨w.heap.size + 1 + 1, 0, none⟩ = some (.slice none 0 0) := cell_of hR6 rfl
    have r1 : w6.cell? ⟨w.heap.size + 1 + 1, 1, none⟩ = some (.int .i64 0) := cell_of hR6 rfl
    have r2 : w6.cell? ⟨w.heap.size + 1 + 1, 2, none⟩ = some .nilIface := cell_of hR6 rfl
    have rf := free_of hR6
    have rl := heap_lt hR6
    have hb86 := (ho6.block b8 i8 (fun e => e)).trans HB85.out
    have f8 : w6.cell? ⟨b8, 0, none⟩ = some (.pointer (some ⟨m, 0, none⟩)) := cell_of hb86 rfl
    have f8d : w6.drew.cell? ⟨b8, 0, none⟩ = some (.pointer (some ⟨m, 0, none⟩)) := f8
    have j8 := heap_lt hb86
    have hU6 := HU5.out.calm ho6
    obtain ⟨po6, pn6, pc6, hM6⟩ := hU6.hM
    have HSt : Hid (Calls Tryz.prog 43 #[.pointer (some ⟨m, 0, none⟩)] w6.drew fun en w' => en = .returned (.slice (some ⟨sb, 0, none⟩) 1 1) ∧ w' = w6.drew) := streams_at m ab vb outX (.slice po6 pn6 pc6) (some ⟨sb, 0, none⟩) 1 1 outN.size 97 0 w6.drew hM6
    have HCo : Hid (Calls Tryz.prog 44 #[.pointer (some ⟨m, 0, none⟩)] w6.drew fun en w' => en = .returned (.int .i64 0) ∧ w' = w6.drew) := code_at m ab vb outX (.slice po6 pn6 pc6) (.slice (some ⟨sb, 0, none⟩) 1 1) outN.size 97 0 w6.drew hM6
    have HS6 := hide hU6.hS
    have HOw6 : Hid (w6.ownsRow 0 5 1 tv outN.size (Lib.strCells outN)) := ownsRow_of HOw5.out (fun k hk => ho6.block k (HOw5.out.lt k hk).2 (fun e => e))
    have HR6 := hide hR6
    have nbr : b8 ≠ w.heap.size + 1 + 1 := by omega
    have HO6 : Hid (Only (fun _ => False) w w6) := (HO2.out.alloc _).trans hO6 (fun _ _ e => e)
    clear hO6 hR6 hb86 hU6 hM6 ho6 HA2
    go_upto_region 8 with fail
    go_region_held3 (fun W => W.cell? ⟨b8, 0, none⟩ = some (.pointer (some ⟨m, 0, none⟩))) (first | (repeat (first | (with_reducible assumption) | (with_reducible refine past ?_ _) | (with_reducible refine pastD ?_ _) | ((with_reducible refine farC ?_ ?_); (rotate_left; (focus (first | (simp; done) | (simp; omega) | omega)))) | ((with_reducible refine farCD ?_ ?_); (rotate_left; (focus (first | (simp; done) | (simp; omega) | omega)))))))
      (first | (go_at_call 43; refine (HSt.out).mono ?_; rintro en w' ⟨rfl, h3⟩; subst w') | (go_at_call 44; refine (HCo.out).mono ?_; rintro en w' ⟨rfl, h3⟩; subst w'))
    all_goals
      go_wp2
      have hol : Only (fun k => k = w.heap.size + 1 + 1) w6 (((w6.setCell ⟨w.heap.size + 1 + 1, 0, none⟩ (.slice (some ⟨sb, 0, none⟩) 1 1)).setCell ⟨w.heap.size + 1 + 1, 1, none⟩ (.int .i64 0)).setCell ⟨w.heap.size + 1 + 1, 2, none⟩ .nilIface).drew := toDrew ((((Only.refl (fun k => k = w.heap.size + 1 + 1) w6).setCell (p := ⟨w.heap.size + 1 + 1, 0, none⟩) (fun _ => rfl) _).setCell (p := ⟨w.heap.size + 1 + 1, 1, none⟩) (fun _ => rfl) _).setCell (p := ⟨w.heap.size + 1 + 1, 2, none⟩) (fun _ => rfl) _)
      have hne6 := own_tag HOw6.out HR6.out (by decide)
      have hsb : sb ≠ w.heap.size + 1 + 1 := by simp at hsl; omega
      refine bodyPost_ret (v := .agg #[.slice (some ⟨sb, 0, none⟩) 1 1, .int .i64 0, .nilIface]) (by simp [results, Tryz.results21, go_sem, r0, r1, r2]) rfl ⟨sb, tv, rfl, (hol.block sb (heap_lt HS6.out) hsb).trans HS6.out, ownsRow_of HOw6.out (fun k hk => hol.block k (HOw6.out.lt k hk).2 (fun e => hne6 (by rw [hk, e]))), HO6.out.trans hol (fun q h e => by omega)⟩
end Go.Proofs.YthkknpjoifoanaaGreatDoor

namespace Go.Proofs.YthkknpjoifoanaaGreatDoor
open Go.RowKit
def Rb : Pat := altR [rowR [starR (byteR (oneS 98))]]
theorem whole_b : wholeP [98, 42] = some Rb := rfl
theorem Rb_star (t : List UInt8) (i e : Nat) : Rb t i e ↔ starR (byteR (oneS 98)) t i e := by
  unfold Rb
  simp [altR, rowR, orR, compR, emptyR]
theorem byte_abc {i k : Nat} (h : byteR (oneS 98) [97, 98, 99] i k) : i = 1 ∧ k = 2 := by
  unfold byteR at h
  match i with
  | 0 => simp [oneS, rangeS] at h
  | 1 => simp [oneS, rangeS] at h; omega
  | 2 => simp [oneS, rangeS] at h
  | n + 3 => simp at h
theorem iter_abc (n : Nat) : ∀ i e, iterR (byteR (oneS 98) [97, 98, 99]) n i e → e = i ∨ (i = 1 ∧ e = 2) := by
  induction n with
  | zero => intro i e h; exact Or.inl h
  | succ n ih =>
    rintro i e ⟨k, hk, h⟩
    obtain ⟨rfl, rfl⟩ := byte_abc hk
    rcases ih 2 e h with rfl | ⟨h1, _⟩
    · exact Or.inr ⟨rfl, rfl⟩
    · omega
theorem star_abc {i e : Nat} (h : Rb [97, 98, 99] i e) : e = i ∨ (i = 1 ∧ e = 2) := by
  obtain ⟨n, hn⟩ := (Rb_star _ _ _).1 h
  exact iter_abc n i e hn
theorem star_self (t : List UInt8) (i : Nat) : Rb t i i := (Rb_star _ _ _).2 ⟨0, rfl⟩
theorem star_one : Rb [97, 98, 99] 1 2 := (Rb_star _ _ _).2 ⟨1, 2, by unfold byteR; simp [oneS, rangeS], rfl⟩
theorem lens_abc {Q : List St} {first : Nat} {L : List Int} (hA : ∀ t i e, Acc Q t first e i ↔ Rb t i e) (h : AllLen Q [97, 98, 99] first L) : L = [0, 1, 0, 0] := by
  obtain ⟨hl, hk⟩ := h
  have key : ∀ k, k ≤ 3 → L[k]? = some (if k = 1 then 1 else 0) := by
    intro k hk3
    obtain ⟨b, ⟨h1, h2⟩, h3⟩ := hk k hk3
    obtain ⟨B, rfl, hB⟩ := h2 k hk3 ((hA _ _ _).2 (star_self _ _))
    obtain ⟨_, _, h6⟩ := h1 B rfl
    rw [h3]
    have h7 := star_abc ((hA _ _ _).1 h6)
    by_cases hk1 : k = 1
    · subst hk1
      obtain ⟨B', hB', hle⟩ := h2 2 (by decide) ((hA _ _ _).2 star_one)
      cases hB'
      have : B = 2 := by omega
      subst this
      rfl
    · have : B = k := by omega
      subst this
      rw [if_neg hk1]
      simp [lenV]
  match L, hl with
  | [a, b, c, d], _ =>
    have h0 := key 0 (by omega)
    have h1 := key 1 (by omega)
    have h2 := key 2 (by omega)
    have h3 := key 3 (by omega)
    simp at h0 h1 h2 h3
    subst h0 h1 h2 h3
    rfl
/-- The pattern that was read: its machine means b*. -/
def GB (C : Nat) (W : World) (v : Value) (f : Nat) : Prop := ∃ Q, PatVal W C v f Q Rb
theorem gb_reads : ReadsAs ⟨#[98, 42]⟩ GB := fun w => by
  refine (read_any ⟨#[98, 42]⟩ (by decide) w).mono ?_
  rintro en w' ⟨ho, _, h2⟩
  obtain ⟨v, first, Q, rfl, hp⟩ := h2 Rb whole_b
  obtain ⟨g, cap, rfl⟩ := hp.1.form (by have := hp.2.2.2.1; omega)
  exact ⟨g, _, cap, first, rfl, ⟨Q, hp⟩, ho⟩
theorem gb_calm : Calm GB := by
  rintro B w w' v k ⟨Q, ⟨xs, hown, hst⟩, hB, hrest⟩ ho
  exact ⟨Q, ⟨xs, ownsRow_of hown (fun q hq => ho.block q (hown.lt q hq).2 (by have := hB q hq; omega)), hst⟩, hB, hrest⟩
theorem gb_lens : ∀ C W v f, GB C W v f → LensOK W v f := by
  rintro C W v f ⟨Q, hp⟩ W2 hW
  have hp2 := hp
  obtain ⟨⟨xs, hown, hst⟩, _, hQ, hf, hwf, hone, hA⟩ := hp2
  refine (Longest_any v f Q ⟨#[97, 98, 99]⟩ hwf hone hf (by decide) hQ W2 ⟨xs, ownsRow_of hown (fun q hq => hW.block q (hown.lt q hq).2 (fun e => e)), hst⟩).mono ?_
  rintro en w' ⟨ho, lb, L, _, hL, hb, rfl⟩
  have := lens_abc hA hL
  subst this
  exact ⟨lb, rfl, hb, ho⟩
/-- run.Run of the second program over abc. -/
theorem run2_all (pt : Nat) (v : Value) (w : World) (h : ProgT 0 (VG pt) w v) :
    Calls Tryz.prog 21 #[v, .string abcX, .int .i64 100] w fun en w' => ∃ sb tv, en = .returned (.agg #[.slice (some ⟨sb, 0, none⟩) 1 1, .int .i64 0, .nilIface]) ∧ w'.heap[sb]? = some (.cells #[.string ⟨#[]⟩, tv] 125 (0, 0)) ∧ w'.ownsRow 0 5 1 tv outN.size (Lib.strCells outN) ∧ Only (fun _ => False) w w' :=
  run_run GB gb_reads gb_calm gb_lens pt v w h
end Go.Proofs.YthkknpjoifoanaaGreatDoor

namespace Go.Proofs.YthkknpjoifoanaaGreatDoor
open Go.RowKit
/-- The eight errors of package fault are there. -/
def Sent (w : World) : Prop := ∀ k, k ≤ 7 → ∃ a, w.cell? ⟨k, 0, none⟩ = some (.iface 554 (.pointer (some a)))
theorem Sent.only {w w' : World} (h : Sent w) (ho : Only (fun _ => False) w w') : Sent w' := fun k hk => by
  obtain ⟨a, ha⟩ := h k hk
  exact ⟨a, (ho.cell (p := ⟨k, 0, none⟩) (World.block_lt_of_cell? w _ ha) (fun e => e)).trans ha⟩
set_option maxRecDepth 100000 in
set_option maxHeartbeats 1000000 in
theorem is_nilA (b : Addr) (w : World) :
    Calls Tryz.prog 45 #[.nilIface, .iface 554 (.pointer (some b))] w fun e w' => e = .returned (.bool false) ∧ w' = w := by
  have hn := run_eql_iface_nil_left (P := Tryz.prog) w 554 (.pointer (some b)) Tryz.underlying61
  go_enter Tryz.func45, Tryz.ntmps45
  go_wp2
  go_ret
  exact ⟨rfl, rfl⟩
set_option maxRecDepth 100000 in
set_option maxHeartbeats 4000000 in
theorem errno_nil (w : World) (h : Sent w) : Calls Tryz.prog 23 #[.nilIface] w fun e w' => e = .returned (.int .i64 0) ∧ w' = w := by
  obtain ⟨b0, c0⟩ := h 0 (by decide)
  obtain ⟨b1, c1⟩ := h 1 (by decide)
  obtain ⟨b2, c2⟩ := h 2 (by decide)
  obtain ⟨b3, c3⟩ := h 3 (by decide)
  obtain ⟨b4, c4⟩ := h 4 (by decide)
  obtain ⟨b5, c5⟩ := h 5 (by decide)
  obtain ⟨b6, c6⟩ := h 6 (by decide)
  obtain ⟨b7, c7⟩ := h 7 (by decide)
  clear h
  have HN := hide is_nilA
  go_enter Tryz.func23, Tryz.ntmps23
  go_wp2_with (go_at_call 45; refine (HN.out _ _).mono ?_; rintro en w' ⟨rfl, h3⟩; subst w')
  go_ret
  exact ⟨rfl, rfl⟩
set_option maxRecDepth 100000 in
theorem mk49 (w : World) : (Instr.makeSlice 37 (.int .i64 1) (.int .i64 1)).run Tryz.prog w = .ok (.slice (some ⟨w.heap.size, 0, none⟩) 1 1) (w.alloc (.cells #[.string ⟨#[]⟩, .string ⟨#[]⟩] 41)) := by kernel_rfl
theorem outN_eq : outN = ⟨#[45, 97, 45, 99, 45, 10]⟩ := by decide
theorem outN_cells : Lib.strCells outN = ([45, 97, 45, 99, 45, 10] : List UInt8).map byV := by rw [outN_eq]; rfl
set_option maxRecDepth 20000 in
set_option maxHeartbeats 4000000 in
theorem streams_of (sb : Nat) (tv : Value) (w : World) (hS : w.heap[sb]? = some (.cells #[.string ⟨#[]⟩, tv] 125 (0, 0))) (hown : w.ownsRow 0 5 1 tv outN.size (Lib.strCells outN)) :
    Calls Tryz.prog 22 #[.slice (some ⟨sb, 0, none⟩) 1 1] w fun en w' => ∃ g, en = .returned (.slice (some ⟨g, 0, none⟩) 1 1) ∧ w'.heap[g]? = some (.cells #[.string ⟨#[]⟩, .string ⟨#[45, 97, 45, 99, 45, 10]⟩] 41 (0, 0)) ∧ Only (fun _ => False) w w' := by
  have hmk := mk49
  rw [outN_cells, outN_eq] at hown
  obtain ⟨po, cap, rfl⟩ := ownsRow_slice hown
  have s0 : w.cell? ⟨sb, 0, none⟩ = some (.string ⟨#[]⟩) := cell_of hS rfl
  have s1 : w.cell? ⟨sb, 1, none⟩ = some (.slice po 6 cap) := cell_of hS rfl
  have sl := heap_lt hS
  have kc : Hid (∀ W, Only (fun _ => False) w W → (convert 92 9 (.slice po 6 cap)).run Tryz.prog W = .ok (.string ⟨#[45, 97, 45, 99, 45, 10]⟩) W) := fun W hW => bytes_conv (M := [45, 97, 45, 99, 45, 10]) (ownsRow_of hown (fun k hk => hW.block k (hown.lt k hk).2 (fun e => e)))
  clear hS hown
  go_enter Tryz.func22, Tryz.ntmps22
  go_wp2
  go_loopg [11] 1 (fun gh s11 wr => (gh = 1 ∧ s11 = .int .i64 0 ∧ w.alloc (.cells #[.string ⟨#[]⟩, .string ⟨#[]⟩] 41) = wr) ∨ (gh = 0 ∧ s11 = .int .i64 1 ∧ wr.heap[w.heap.size]? = some (.cells #[.string ⟨#[]⟩, .string ⟨#[45, 97, 45, 99, 45, 10]⟩] 41 (0, 0)) ∧ Only (fun _ => False) w wr))
  case atStart => exact Or.inl ⟨rfl, rfl, rfl⟩
  case round =>
    rcases hrel with ⟨hg, rfl, ew⟩ | ⟨hg, rfl, hb, ho⟩
    · subst ew
      subst hg
      have hkc := kc.out ((w.alloc (.cells #[.string ⟨#[]⟩, .string ⟨#[]⟩] 41)).alloc (.cells #[.string ⟨#[]⟩, .slice po 6 cap] 125)) ((onlyA w _).alloc _)
      go_wp2
      go_roundg 0
      case measure => omega
      case rel =>
        refine Or.inr ⟨rfl, by go_num, ?_, ?_⟩
        · exact (Below.heap_alloc _ _ _ (by simp)).trans (new0 w _)
        · exact (onlyA w _).alloc _
    · have HB := hide hb
      have HO := hide ho
      clear hb ho
      go_wp2
      go_ret
      exact ⟨_, rfl, HB.out, HO.out⟩
set_option maxRecDepth 20000 in
set_option maxHeartbeats 8000000 in
/-- What Run answers of the second program over abc. -/
theorem grun2 (w : World) (hse : Sent w) : Calls Tryz.prog 13 #[.string T2, .string abcX, .int .i64 100] w fun en w' => ∃ g, en = .returned (.tuple #[.slice (some ⟨g, 0, none⟩) 1 1, .int .i64 0, .int .i64 0, .int .i64 0]) ∧ w'.heap[g]? = some (.cells #[.string ⟨#[]⟩, .string ⟨#[45, 97, 45, 99, 45, 10]⟩] 41 (0, 0)) ∧ Only (fun _ => False) w w' := by
  have HRd := hide (readProgram2 w)
  have HSe := hide hse
  clear hse
  unfold abcX
  go_enter Tryz.func13, Tryz.ntmps13
  go_wp2_with fail
  refine (HRd.out).mono ?_
  rintro en w2 ⟨pb, v, rfl, ⟨rs, u, rfl, hrow, hu⟩, ho2⟩
  have hrow2 := hrow
  obtain ⟨rg, rcap, rfl, _, _⟩ := own_at hrow2 (by omega)
  have HRR := hide (run2_all pb (.agg #[.slice none 0 0, .slice (some ⟨rg, 0, none⟩) 1 rcap]) (w2.alloc (.cells #[.slice none 0 0, .slice (some ⟨rg, 0, none⟩) 1 rcap] 55)) ⟨_, u, rfl, hrow.alloc _, vg_stab3 pb w2 _ u (fun _ => False) hu (onlyA w2 _) (fun _ e => e.elim)⟩)
  have HO2 := hide ho2
  clear hrow hrow2 hu ho2 HRd
  unfold abcX at HRR
  go_wp2_with fail
  refine (HRR.out).mono ?_
  rintro en w4 ⟨sb, tv, rfl, hS, hown, ho4⟩
  have hO4 : Only (fun _ => False) w (w4.alloc (.cells #[.slice (some ⟨sb, 0, none⟩) 1 1, .int .i64 0, .nilIface] 63)) := ((HO2.out.alloc _).trans ho4 (fun _ _ e => e)).alloc _
  have HSt : Hid (∀ W, Only (fun _ => False) w4 W → Calls Tryz.prog 22 #[.slice (some ⟨sb, 0, none⟩) 1 1] W fun en w' => ∃ g, en = .returned (.slice (some ⟨g, 0, none⟩) 1 1) ∧ w'.heap[g]? = some (.cells #[.string ⟨#[]⟩, .string ⟨#[45, 97, 45, 99, 45, 10]⟩] 41 (0, 0)) ∧ Only (fun _ => False) W w') := fun W hW => streams_of sb tv W ((hW.block sb (heap_lt hS) (fun e => e)).trans hS) (ownsRow_of hown (fun k hk => hW.block k (hown.lt k hk).2 (fun e => e)))
  have HEn : Hid (∀ W, Only (fun _ => False) w W → Calls Tryz.prog 23 #[.nilIface] W fun e w' => e = .returned (.int .i64 0) ∧ w' = W) := fun W hW => errno_nil W (HSe.out.only hW)
  have HO4 := hide hO4
  clear hS hown ho4 hO4 HRR
  have n0 : (w4.alloc (.cells #[.slice (some ⟨sb, 0, none⟩) 1 1, .int .i64 0, .nilIface] 63)).drew.cell? ⟨w4.heap.size, 0, none⟩ = some (.slice (some ⟨sb, 0, none⟩) 1 1) := cell_of (new0 w4 _) rfl
  have n1 : (w4.alloc (.cells #[.slice (some ⟨sb, 0, none⟩) 1 1, .int .i64 0, .nilIface] 63)).drew.cell? ⟨w4.heap.size, 1, none⟩ = some (.int .i64 0) := cell_of (new0 w4 _) rfl
  have n2 : (w4.alloc (.cells #[.slice (some ⟨sb, 0, none⟩) 1 1, .int .i64 0, .nilIface] 63)).drew.cell? ⟨w4.heap.size, 2, none⟩ = some .nilIface := cell_of (new0 w4 _) rfl
  go_upto_region 7 with fail
  go_region_held3 (fun W => W.cell? ⟨w4.heap.size, 0, none⟩ = some (.slice (some ⟨sb, 0, none⟩) 1 1) ∧ W.cell? ⟨w4.heap.size, 1, none⟩ = some (.int .i64 0) ∧ W.cell? ⟨w4.heap.size, 2, none⟩ = some .nilIface) (first | (refine ⟨?_, ?_, ?_⟩ <;> (with_reducible assumption)))
    (first | (go_at_call 22; refine (HSt.out _ (toDrew (onlyA w4 _))).mono ?_; rintro en w5 ⟨g, rfl, hg5, ho5⟩; have q0 := (ho5.cell (p := ⟨w4.heap.size, 0, none⟩) (by simp) (fun e => e)).trans n0; have q1 := (ho5.cell (p := ⟨w4.heap.size, 1, none⟩) (by simp) (fun e => e)).trans n1; have q2 := (ho5.cell (p := ⟨w4.heap.size, 2, none⟩) (by simp) (fun e => e)).trans n2; have HG5 := hide hg5; have HO5 : Hid (Only (fun _ => False) w w5) := HO4.out.trans (fromDrew ho5) (fun _ _ e => e); clear hg5 ho5) | (go_at_call 23; refine (HEn.out _ HO5.out).mono ?_; rintro en w' ⟨rfl, h3⟩; subst w'))
  all_goals
    go_wp2
    exact bodyPost_ret (v := .tuple #[.slice (some ⟨g, 0, none⟩) 1 1, .int .i64 0, .int .i64 0, .int .i64 0]) (by simp [results, Tryz.results13, go_sem]) rfl ⟨g, rfl, HG5.out, HO5.out⟩
end Go.Proofs.YthkknpjoifoanaaGreatDoor

namespace Go.Proofs.YthkknpjoifoanaaGreatDoor
open Go.RowKit
def Rbp : Pat := altR [rowR [plusR (byteR (oneS 98))]]
theorem whole_bp : wholeP [98, 43] = some Rbp := rfl
theorem Rbp_plus (t : List UInt8) (i e : Nat) : Rbp t i e ↔ plusR (byteR (oneS 98)) t i e := by
  unfold Rbp
  simp [altR, rowR, orR, compR, emptyR]
theorem byte_abbbc {i k : Nat} (h : byteR (oneS 98) [97, 98, 98, 98, 99] i k) : 1 ≤ i ∧ i ≤ 3 ∧ k = i + 1 := by
  unfold byteR at h
  match i with
  | 0 => simp [oneS, rangeS] at h
  | 1 => simp [oneS, rangeS] at h; omega
  | 2 => simp [oneS, rangeS] at h; omega
  | 3 => simp [oneS, rangeS] at h; omega
  | 4 => simp [oneS, rangeS] at h
  | n + 5 => simp at h
theorem byte_abbbc' {i : Nat} (h1 : 1 ≤ i) (h2 : i ≤ 3) : byteR (oneS 98) [97, 98, 98, 98, 99] i (i + 1) := by
  unfold byteR
  match i with
  | 1 => simp [oneS, rangeS]
  | 2 => simp [oneS, rangeS]
  | 3 => simp [oneS, rangeS]
theorem iter_abbbc (n : Nat) : ∀ i e, i ≤ 4 → iterR (byteR (oneS 98) [97, 98, 98, 98, 99]) n i e → e ≤ 4 := by
  induction n with
  | zero => intro i e h4 h; have : e = i := h; omega
  | succ n ih =>
    rintro i e h4 ⟨k, hk, h⟩
    have := byte_abbbc hk
    exact ih k e (by omega) h
theorem finds_abbbc : Finds Rbp [97, 98, 98, 98, 99] 0 0 (some (1, 3)) := by
  refine ⟨fun B l h => ?_, fun b e _ _ _ h => ⟨1, 3, rfl, ?_⟩⟩
  · cases h
    exact ⟨by omega, by decide, by omega, (Rbp_plus _ _ _).2 ⟨2, byte_abbbc' (by omega) (by omega), 2, 3, byte_abbbc' (by omega) (by omega), 4, byte_abbbc' (by omega) (by omega), rfl⟩⟩
  · obtain ⟨k, h1, n, h2⟩ := (Rbp_plus _ _ _).1 h
    have := byte_abbbc h1
    have := iter_abbbc n k e (by omega) h2
    omega
/-- Match of the document's example. -/
theorem match_bp (w : World) : Calls Tryz.prog 8 #[.string ⟨#[98, 43]⟩, .string ⟨#[97, 98, 98, 98, 99]⟩] w fun e w' => e = .returned (.tuple #[.int .i64 1, .int .i64 3, .int .i64 0]) ∧ Only (fun _ => False) w w' := by
  refine (match_any ⟨#[98, 43]⟩ ⟨#[97, 98, 98, 98, 99]⟩ w).mono (fun e w' ⟨h, ho⟩ => ⟨?_, ho⟩)
  obtain ⟨best, h1, rfl⟩ := (h.2 (by decide)).2 Rbp whole_bp
  obtain rfl := h1.unique finds_abbbc
  rfl
set_option maxRecDepth 100000 in
set_option maxHeartbeats 4000000 in
/-- The examples of the document. -/
theorem alive_any (w : World) (hse : Sent w) : Calls Tryz.prog 6 #[] w fun e w' => e = .returned (.bool true) ∧ Only (fun _ => False) w w' := by
  have HSe := hide hse
  clear hse
  go_enter Tryz.func6, Tryz.ntmps6
  go_wp2_with fail
  refine (match_bp w).mono ?_
  rintro e w1 ⟨rfl, ho1⟩
  have HO1 := hide ho1
  clear ho1
  go_wp2_with fail
  refine (print1 w1).mono ?_
  rintro e w2 ⟨rfl, ho2⟩
  have HO2 := hide (HO1.out.trans ho2 (fun _ _ e => e))
  clear ho2
  go_wp2_with fail
  refine (grun2 w2 (HSe.out.only HO2.out)).mono ?_
  rintro e w3 ⟨g, rfl, hg, ho3⟩
  have c0 : w3.cell? ⟨g, 1, none⟩ = some (.string ⟨#[45, 97, 45, 99, 45, 10]⟩) := cell_of hg rfl
  have HO3 := hide (HO2.out.trans ho3 (fun _ _ e => e))
  clear ho3 hg
  go_wp2_with (go_at_call 9; refine (num_any _ _).mono ?_; rintro e w5 ⟨rfl, h5⟩; subst w5)
  go_ret
  exact ⟨rfl, HO3.out⟩
end Go.Proofs.YthkknpjoifoanaaGreatDoor

