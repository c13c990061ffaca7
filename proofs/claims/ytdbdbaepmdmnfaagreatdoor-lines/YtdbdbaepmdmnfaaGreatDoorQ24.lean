import Derived.Test.YtdbdbaepmdmnfaaGreatDoorQ22
import Derived.Test.YtdbdbaepmdmnfaaGreatDoorQ23
import Derived.Deep.DeepCutAuto
import Derived.Deep.CutBlock
import Derived.Deep.LoopGhost
import Derived.Deep.RegionWith
import Derived.BigQuiet
import Derived.Deep.QuietTactic
import Derived.Deep.OwnRows
import Derived.Laws.OwnMore
namespace Go.Proofs.YtdbdbaepmdmnfaaGreatDoor
open Go.RowKit
def RunPost (w : World) (sb rb lb : Nat) (Q : List St) (t : List UInt8) (last : Nat) (e : Ending) (w' : World) : Prop :=
  e = .returned (.tuple #[]) ∧ ∃ L, AllLen Q t last L ∧ w'.heap[lb]? = some (.cells (zints L).toArray 3 (0, 0)) ∧ w'.cell? ⟨sb, 3, none⟩ = some (.slice (some ⟨lb, 0, none⟩) L.length L.length) ∧ Only (fun k => k = sb ∨ (k = rb ∨ k = lb)) w w'
set_option maxRecDepth 100000 in
set_option maxHeartbeats 4000000 in
theorem run_any (sb rb lb bs : Nat) (vS : Value) (Q : List St) (s : ByteArray) (ls : List Int) (rv : List Nat) (last : Nat)
    (hwf : WfQ Q) (hu : OneDone Q) (hfst : last < Q.length) (h6 : s.size ≤ 65000) (hQ : Q.length ≤ 1000000) (w : World) (h : Srch w sb rb lb bs vS Q ls s.size rv (.slice none 0 0) [] none) (hls : ls.length = s.size + 1) (hlm : ∀ k, k < s.size → ls[k]? = some (-1)) (hrv : ∀ (k x : Nat), rv[k]? = some x → x = 0) (hbw : bs ≤ w.heap.size) :
    Calls Tryz.prog 89 #[.pointer (some ⟨sb, 0, none⟩), .int .i64 last, .string s] w (RunPost w sb rb lb Q s.data.toList last) := by
  obtain ⟨G, capS, rfl⟩ := h.pat.form (by omega)
  have hGs : G ≠ sb ∧ G ≠ rb ∧ G ≠ lb ∧ G < bs := h.ss G rfl
  have hrs := h.rs
  have hsl0 := heap_lt h.blk
  have hts : s.data.toList.length = s.size := len_eq s
  have HWf := hide hwf
  have HU := hide hu
  have HI0 : Hid (RunI w w sb rb lb bs (.slice (some ⟨G, 0, none⟩) Q.length capS) Q s.data.toList ls last s.size (s.size + 1) (.slice none 0 0) (.slice none 0 0) [] none) := by
    have h1 := h
    rw [← hts] at h1
    have := RunI.begin (last := last) h1 hrv
    rwa [hts] at this
  have HL0 : Hid (LsOK Q s.data.toList last s.size ls) := ⟨by rw [hts]; exact hls, fun k h1 h2 => by omega, hlm⟩
  clear h hrv hwf hu hlm hls
  go_enter Tryz.func89, Tryz.ntmps89
  go_wp2_with fail
  go_loopg [6, 7, 8] s.size (fun g s6 s7 s8 wr => ∃ (p : Nat) (O : List (Nat × Nat)) (best : Option Nat) (ls : List Int), s8 = .int .i64 p ∧ g = p ∧ p ≤ s.size ∧ LsOK Q s.data.toList last p ls ∧ RunI w wr sb rb lb bs (.slice (some ⟨G, 0, none⟩) Q.length capS) Q s.data.toList ls last p (p + 1) s6 s7 O best)
  case atStart => exact ⟨s.size, [], none, ls, rfl, rfl, Nat.le_refl _, HL0.out, HI0.out⟩
  case round =>
    clear HI0 HL0
    obtain ⟨p, O, best, ls, e8, hg, hps, hlok, hI⟩ := hrel
    subst e8
    obtain ⟨rv1, vK, stk, N, hS1, hO1, hN1, hap, hR, hrv1, hol, ho, mK, mO, mN⟩ := hI
    obtain ⟨poO, capO, e6⟩ := ownsRow_slice hO1
    subst e6
    obtain ⟨poN, capN, e7⟩ := ownsRow_slice hN1
    subst e7
    have HS1 := hide hS1
    have HO1 := hide hO1
    have HN1 := hide hN1
    have HAp := hide hap
    have HR := hide hR
    have HRv1 := hide hrv1
    have HOn := hide ho
    have HmK := hide mK
    have HmO := hide mO
    have HmN := hide mN
    have Hg := hide hg
    have HLk := hide hlok
    clear hS1 hO1 hN1 hap hR hrv1 ho mK mO mN hg hlok
    go_wp2_with fail
    refine (follow_any sb rb lb bs _ Q s.data.toList ls rv1 vK stk best _ O last p p HWf.out hfst HLk.out.1 (by omega) (by omega) (by omega) hQ wr HS1.out HO1.out HR.out.closed hol (Nat.le_trans hbw HOn.out.size)).mono ?_
    rintro e w2 ⟨vO2, vK2, rv2, O2, best2, rfl, hS2, hO2, hF2, hol2, hrv2, ho2, mk2, mo2⟩
    obtain ⟨f1, f2, f3, f4, f5⟩ := follow_frame HS1.out HN1.out HAp.out ho2 hO2 mk2 mo2 HOn.out HmK.out HmO.out
    obtain ⟨poO2, capO2, e6⟩ := ownsRow_slice hO2
    subst e6
    have HR2 : Hid (RInv Q s.data.toList last p p (fun q => rv2[q]? = some (p + 1)) O2 best2) := HR.out.start HU.out (by omega) hF2
    have HI2 : Hid (RunI w w2 sb rb lb bs (.slice (some ⟨G, 0, none⟩) Q.length capS) Q s.data.toList ls last p p (.slice poO2 O2.length capO2) (.slice poN N.length capN) O2 best2) := ⟨rv2, vK2, [], N, hS2, hO2, f1, f2, HR2.out, (fun k x hx => by rcases hrv2 k x hx with h | h; omega; exact HRv1.out k x h), hol2, f3, f4, f5, HmN.out⟩
    have HOn2 := hide f3
    have HN2 := hide f1
    have c3 : w2.cell? ⟨sb, 3, none⟩ = some (.slice (some ⟨lb, 0, none⟩) ls.length ls.length) := cell_of hS2.blk rfl
    have HLn := hide hS2.lns
    have hO2l : O2.length ≤ 1000000 := by omega
    clear hS2 hO2 hF2 hrv2 ho2 mk2 mo2 f1 f2 f3 f4 f5 HS1 HO1 HN1 HAp HR HRv1 HOn HmK HmO HmN hol hol2
    by_cases hp0 : p = 0
    · subst hp0
      have HAll := hide (HLk.out.all HR2.out.lenAt)
      have HC3 := hide c3
      go_wp2
      go_end0
      exact ⟨rfl, _, HAll.out, HLn.out, by rw [List.length_set]; exact HC3.out, HOn2.out⟩
    · obtain ⟨p, rfl⟩ : ∃ p', p = p' + 1 := ⟨p - 1, by omega⟩
      have hpb : (((p + 1 : Nat) : Int) == 0) = false := by rw [beq_eq_false_iff_ne]; omega
      have hpl : p < s.size := by omega
      have HLk2 := hide (HLk.out.next (by omega) HR2.out.lenAt)
      go_wp2_with fail
      have HIn := hide (InI.begin HI2.out HLk.out)
      obtain ⟨ls2, HLe⟩ : ∃ ls2, Hid (ls.set (p + 1) (lenV (p + 1) best2) = ls2) := ⟨_, rfl⟩
      rw [HLe.out] at HIn HLk2
      clear HI2 HN2 HLn c3 HOn2 HLe
      go_loopg [7, 29] O2.length (fun g s7 s29 wx => ∃ (i : Nat) (b3 : Option Nat), s29 = .int .i64 i ∧ g = O2.length - i ∧ i ≤ O2.length ∧ InI w wx sb rb lb bs (.slice (some ⟨G, 0, none⟩) Q.length capS) Q s.data.toList ls2 p (.slice poO2 O2.length capO2) O2 i s7 b3)
      case atStart => exact ⟨0, none, rfl, rfl, Nat.zero_le _, HIn.out⟩
      case round =>
        clear HIn
        obtain ⟨i, b3, e29, hg, hi, hI⟩ := hrel
        subst e29
        have HI := hide hI
        have Hgi := hide hg
        clear hI hg
        by_cases hil : i < O2.length
        · have hcond : (i : Int) < (O2.length : Int) := by omega
          obtain ⟨⟨q, b⟩, hx⟩ : ∃ x, O2[i]? = some x := ⟨O2[i], List.getElem?_eq_getElem hil⟩
          obtain ⟨rv3, vK3, stk3, N3, hS3, hO3, hN3, hap3, hP3, hrv3, hol3, ho3, mK3, mO3, mN3⟩ := id HI.out
          obtain ⟨GO, capO', eO⟩ := own_form hO3 (by omega)
          injection eO with a1 a2 a3
          subst a1
          clear a2 a3
          obtain ⟨t0, t1⟩ := thr_cell hO3 hx
          have hGO : bs ≤ GO ∧ GO < wr.heap.size := hO3.lt GO rfl
          obtain ⟨hTk, hb1, hb2⟩ := HR2.out.facts.2 (q, b) (List.mem_of_getElem? hx)
          have hb2' : b ≤ s.size := by rw [← hts]; exact hb2
          obtain ⟨⟨kd, S, nx, ot⟩, hq, hk⟩ := hTk
          have hk' : kd = 0 := hk
          subst hk'
          have hq' : Q[q]? = some ⟨0, S, nx, ot⟩ := hq
          have hql : q < Q.length := (List.getElem?_eq_some_iff.1 hq').1
          have hwq := HWf.out _ (List.mem_of_getElem? hq')
          have hnx : nx < Q.length := hwq.2.1
          obtain ⟨ys, hys, hgc⟩ := hS3.pat.cells hq'
          have hys' : SetIs ys S := hys
          have c0 : wr.cell? ⟨sb, 0, none⟩ = some (.slice (some ⟨G, 0, none⟩) Q.length capS) := cell_of hS3.blk rfl
          have g5 : wr.cell? ⟨G, q * 7 + 5, none⟩ = some (.int .i64 nx) := hgc 5 _ rfl
          have HSA : ∀ o n, Hid (SetAt ((wr.alloc o).drewN n) G (q * 7 + 1) ys) := fun o n k hk => by
            have h1 : wr.cell? ⟨G, q * 7 + (k + 1), none⟩ = some (.int .u64 (ys k)) := hgc (k + 1) _ (by match k, hk with | 0, _ => rfl | 1, _ => rfl | 2, _ => rfl | 3, _ => rfl)
            have h2 : ((wr.alloc o).drewN n).cell? ⟨G, q * 7 + (k + 1), none⟩ = wr.cell? ⟨G, q * 7 + (k + 1), none⟩ := World.cell?_of_block (a := ⟨G, q * 7 + (k + 1), none⟩) (Below.heap_alloc _ _ _ (World.block_lt_of_cell? wr _ h1))
            rw [show q * 7 + 1 + k = q * 7 + (k + 1) by omega, h2]
            exact h1
          have HYs := hide hys'
          have HX := hide hx
          have HQ := hide hq'
          have HP3 := hide hP3
          have HG := hide (get_of_lt s p hpl)
          have hsl := heap_lt hS3.blk
          have hGl : G < wr.heap.size := World.block_lt_of_cell? wr _ g5
          have n1 : G ≠ sb := by omega
          have hpl' : (p : Int) < (s.size : Int) := by omega
          have HS3 := hide hS3
          have HO3 := hide hO3
          have HN3 := hide hN3
          have HAp3 := hide hap3
          have HRv3 := hide hrv3
          have HOl3 := hide hol3
          have HOn3 := hide ho3
          have HmK3 := hide mK3
          have HmO3 := hide mO3
          have HmN3 := hide mN3
          clear hS3 hO3 hN3 hap3 hP3 hrv3 hol3 ho3 mK3 mO3 mN3 hgc hys hys' hwq hq hq' hx hk hb2
          cases hSc : S s[p]
          · have HHas : ∀ n, Hid (Calls Tryz.prog 125 #[.pointer (some ⟨G, q * 7 + 1, none⟩), .int .u8 s[p].toNat] ((wr.alloc (.cells #[.int .i64 q, .int .i64 b] 248)).drewN n) fun e w' => e = .returned (.bool false) ∧ w' = (wr.alloc (.cells #[.int .i64 q, .int .i64 b] 248)).drewN n) := fun n => by
              have := has_any G (q * 7 + 1) ys S HYs.out s[p] _ (HSA (.cells #[.int .i64 q, .int .i64 b] 248) n).out
              rw [hSc] at this
              exact this
            have HSc := hide hSc
            clear hSc
            go_wp2_with fail
            go_quiet (fail)
            go_wp2_with fail
            go_quiet (first | (go_at_call 125; exact (HHas _).out.mono (fun _ _ h => ⟨h.1, _, h.2⟩)))
            go_wp2
            go_roundg (O2.length - (i + 1))
            case measure => have := Hgi.out; omega
            case rel => exact ⟨i + 1, b3, by go_num, rfl, by omega, (HI.out.alloc (.cells #[.int .i64 q, .int .i64 b] 248) _).pass HX.out HQ.out rfl HG.out HSc.out⟩
          · have HHas : ∀ n, Hid (Calls Tryz.prog 125 #[.pointer (some ⟨G, q * 7 + 1, none⟩), .int .u8 s[p].toNat] ((wr.alloc (.cells #[.int .i64 q, .int .i64 b] 248)).drewN n) fun e w' => e = .returned (.bool true) ∧ w' = (wr.alloc (.cells #[.int .i64 q, .int .i64 b] 248)).drewN n) := fun n => by
              have := has_any G (q * 7 + 1) ys S HYs.out s[p] _ (HSA (.cells #[.int .i64 q, .int .i64 b] 248) n).out
              rw [hSc] at this
              exact this
            have HSc := hide hSc
            clear hSc
            have HFo : ∀ n, Hid (Calls Tryz.prog 124 #[.pointer (some ⟨sb, 0, none⟩), u7, .agg #[.int .i64 nx, .int .i64 b], .int .i64 (IntKind.i64.wrap (p : Int))] ((wr.alloc (.cells #[.int .i64 q, .int .i64 b] 248)).drewN n) fun e w2 => ∃ vN4 b4, e = .returned vN4 ∧ InI w w2 sb rb lb bs (.slice (some ⟨G, 0, none⟩) Q.length capS) Q s.data.toList ls2 p (.slice (some ⟨GO, 0, none⟩) O2.length capO2) O2 (i + 1) vN4 b4) := fun n => by
              have hoW : Only (fun _ => False) wr ((wr.alloc (.cells #[.int .i64 q, .int .i64 b] 248)).drewN n) := ((Only.refl _ wr).alloc _).drewN n
              have hSW := HS3.out.only hoW (fun e => e) (fun e => e) (fun e => e) (fun _ _ e => e) (fun _ _ e => e)
              have hOW := ownsRow_of HO3.out (fun k hk => hoW.block k (HO3.out.lt k hk).2 (fun e => e))
              have hNW := ownsRow_of HN3.out (fun k hk => hoW.block k (HN3.out.lt k hk).2 (fun e => e))
              have hst := sorted_at HR2.out.facts.1 HX.out
              have hwp : IntKind.i64.wrap (p : Int) = (p : Int) := by rw [IntKind.wrap_i64]; omega
              rw [hwp]
              refine (follow_any sb rb lb bs _ Q s.data.toList ls2 rv3 vK3 stk3 b3 u7 N3 nx b p HWf.out hnx HLk2.out.1 (by omega) (by omega) (by omega) hQ _ hSW hNW (fun a a' h1 h2 => HP3.out.closed a a' h1 h2) HOl3.out (Nat.le_trans hbw (Nat.le_trans HOn3.out.size hoW.size))).mono ?_
              intro e w2 hf
              exact InI.step HU.out hSW hOW HAp3.out HP3.out HRv3.out (HOn3.out.trans hoW (fun _ _ e => e.elim)) HmK3.out HmO3.out HmN3.out HX.out HQ.out rfl HG.out HSc.out hst hf
            go_wp2_with fail
            go_quiet (fail)
            go_wp2_with fail
            go_quiet (first | (go_at_call 125; exact (HHas _).out.mono (fun _ _ h => ⟨h.1, _, h.2⟩)))
            go_wp2_with fail
            go_region_with (go_at_call 124; refine (HFo _).out.mono ?_; rintro e w2 ⟨vN4, b4, rfl, hI4⟩; have HI4 := hide hI4; clear hI4)
            all_goals
              go_wp2
              go_roundg (O2.length - (i + 1))
              case measure => have := Hgi.out; omega
              case rel => exact ⟨i + 1, b4, by go_num, rfl, by omega, HI4.out⟩
        · have hie : i = O2.length := by omega
          subst hie
          have hcond : ¬ ((O2.length : Int) < (O2.length : Int)) := by omega
          obtain ⟨N', hN'⟩ := HI.out.next HR2.out
          have HN' := hide hN'
          clear hN'
          go_wp2
          go_roundg p
          case measure => have := Hg.out; omega
          case rel => exact ⟨p, N', b3, ls2, by go_num, rfl, by omega, HLk2.out, HN'.out⟩
end Go.Proofs.YtdbdbaepmdmnfaaGreatDoor
namespace Go.Proofs.YtdbdbaepmdmnfaaGreatDoor
open Go.RowKit
theorem made_ints (n : Nat) : madeCells #[.int .i64 0] n = (ints (List.replicate n 0)).toArray := by
  apply Array.ext'
  rw [toList_madeCells_one]
  simp [ints]
theorem half_all (N : Nat) : half N N = zints (List.replicate N (-1)) := by
  unfold half zints
  rw [Nat.sub_self]
  simp
theorem set_same {l : List Int} {k : Nat} {x : Int} (h : l[k]? = some x) : l.set k x = l := by
  apply List.ext_getElem?
  intro j
  by_cases e : j = k
  · subst e
    rw [List.getElem?_set_self (List.getElem?_eq_some_iff.1 h).1, h]
  · rw [List.getElem?_set_ne (fun h => e h.symm)]
/-- A search that was just made. -/
theorem srch_new {w W : World} {sb rb lb n G capS : Nat} {Q : List St} (hQ : 1 ≤ Q.length) (hp : PatAt w (.slice (some ⟨G, 0, none⟩) Q.length capS) Q) (ho : Only (fun _ => False) w W)
    (h1 : W.heap[sb]? = some (.cells #[.slice (some ⟨G, 0, none⟩) Q.length capS, .slice (some ⟨rb, 0, none⟩) Q.length Q.length, .slice none 0 0, .slice (some ⟨lb, 0, none⟩) (n + 1) (n + 1)] 176 (0, 0)))
    (h2 : W.heap[rb]? = some (.cells (madeCells #[.int .i64 0] Q.length) 3 (0, 0))) (h3 : W.heap[lb]? = some (.cells (half (n + 1) (n + 1)).toArray 3 (0, 0))) (h4 : w.heap.size ≤ sb) (h5 : w.heap.size ≤ rb) (h6 : w.heap.size ≤ lb) :
    Srch W sb rb lb W.heap.size (.slice (some ⟨G, 0, none⟩) Q.length capS) Q (List.replicate (n + 1) (-1)) n (List.replicate Q.length 0) (.slice none 0 0) [] none := by
  obtain ⟨xs, hp1, hp2⟩ := hp
  have d1 : rb ≠ sb := fun e => by
    rw [e, h1] at h2
    injection h2 with h7
    injection h7 with _ h8
    exact absurd h8 (by decide)
  have d2 : lb ≠ sb := fun e => by
    rw [e, h1] at h3
    injection h3 with h7
    injection h7 with _ h8
    exact absurd h8 (by decide)
  have d3 : lb ≠ rb := fun e => by
    rw [e, h2, made_ints] at h3
    injection h3 with h7
    injection h7 with h8
    have h9 := congrArg Array.toList h8
    obtain ⟨m, hm⟩ : ∃ m, Q.length = m + 1 := ⟨Q.length - 1, by omega⟩
    rw [hm, half_all] at h9
    simp [ints, zints, List.replicate_succ] at h9
  have hrep : (List.replicate (n + 1) (-1 : Int))[n]? = some (-1) := by rw [List.getElem?_replicate, if_pos (by omega)]
  refine ⟨?_, by rw [h2, made_ints], ?_, by simp, ⟨xs, ownsRow_of hp1 (fun k hk => ho.block k (hp1.lt k hk).2 (fun e => e)), hp2⟩, World.ownsRow_nil _ _ _ _, ⟨d1, d2, d3, heap_lt h1, heap_lt h2, heap_lt h3⟩, fun k hk => ?_⟩
  · rw [List.length_replicate]; exact h1
  · rw [show lenV n none = -1 from rfl, set_same hrep, ← half_all]; exact h3
  · have := (hp1.lt k hk).2
    have := ho.size
    omega
/-- The search of a pattern, over a text, in a search that was just made. -/
theorem run_new {w W : World} {sb rb lb G capS last : Nat} {Q : List St} {s : ByteArray} (hwf : WfQ Q) (hu : OneDone Q) (hfst : last < Q.length) (h6 : s.size ≤ 65000) (hQ : Q.length ≤ 1000000) (hp : PatAt w (.slice (some ⟨G, 0, none⟩) Q.length capS) Q) (ho : Only (fun _ => False) w W)
    (h1 : W.heap[sb]? = some (.cells #[.slice (some ⟨G, 0, none⟩) Q.length capS, .slice (some ⟨rb, 0, none⟩) Q.length Q.length, .slice none 0 0, .slice (some ⟨lb, 0, none⟩) (s.size + 1) (s.size + 1)] 176 (0, 0)))
    (h2 : W.heap[rb]? = some (.cells (madeCells #[.int .i64 0] Q.length) 3 (0, 0))) (h3 : W.heap[lb]? = some (.cells (half (s.size + 1) (s.size + 1)).toArray 3 (0, 0))) (h4 : w.heap.size ≤ sb) (h5 : w.heap.size ≤ rb) (h7 : w.heap.size ≤ lb) :
    Calls Tryz.prog 89 #[.pointer (some ⟨sb, 0, none⟩), .int .i64 last, .string s] W fun e w' => e = .returned (.tuple #[]) ∧ ∃ L, AllLen Q s.data.toList last L ∧ w'.heap[lb]? = some (.cells (zints L).toArray 3 (0, 0)) ∧ w'.cell? ⟨sb, 3, none⟩ = some (.slice (some ⟨lb, 0, none⟩) L.length L.length) ∧ Only (fun _ => False) w w' := by
  have hs := srch_new (by omega) hp ho h1 h2 h3 h4 h5 h7
  refine (run_any sb rb lb W.heap.size _ Q s (List.replicate (s.size + 1) (-1)) (List.replicate Q.length 0) last hwf hu hfst h6 hQ W hs (by simp) (fun k hk => by rw [List.getElem?_replicate, if_pos (by omega)]) (fun k x hx => ?_) (Nat.le_refl _)).mono ?_
  · rw [List.getElem?_replicate] at hx
    split at hx
    · cases hx; rfl
    · cases hx
  · rintro e w' ⟨rfl, L, hL, hl, hc, ho2⟩
    exact ⟨rfl, L, hL, hl, hc, ho.trans ho2 (fun i hi e => by omega)⟩
end Go.Proofs.YtdbdbaepmdmnfaaGreatDoor
namespace Go.Proofs.YtdbdbaepmdmnfaaGreatDoor
open Go.RowKit
theorem at1 (w : World) (P A : Obj) : ((w.alloc P).alloc A).heap[w.heap.size + 1]? = some A := newb1 w P A
theorem at21 (w : World) (P A B : Obj) : (((w.alloc P).alloc A).alloc B).heap[w.heap.size + 1]? = some A := (Below.heap_alloc _ _ _ (by simp)).trans (newb1 w P A)
theorem at22 (w : World) (P A B : Obj) : (((w.alloc P).alloc A).alloc B).heap[w.heap.size + 1 + 1]? = some B := by
  have := heap_alloc_new ((w.alloc P).alloc A) B
  rwa [show ((w.alloc P).alloc A).heap.size = w.heap.size + 1 + 1 by simp] at this
theorem at31 (w : World) (P A B C : Obj) : ((((w.alloc P).alloc A).alloc B).alloc C).heap[w.heap.size + 1]? = some A := (Below.heap_alloc _ _ _ (by simp)).trans (at21 w P A B)
theorem at32 (w : World) (P A B C : Obj) : ((((w.alloc P).alloc A).alloc B).alloc C).heap[w.heap.size + 1 + 1]? = some B := (Below.heap_alloc _ _ _ (by simp)).trans (at22 w P A B)
theorem at33 (w : World) (P A B C : Obj) : ((((w.alloc P).alloc A).alloc B).alloc C).heap[w.heap.size + 1 + 1 + 1]? = some C := by
  have := heap_alloc_new (((w.alloc P).alloc A).alloc B) C
  rwa [show (((w.alloc P).alloc A).alloc B).heap.size = w.heap.size + 1 + 1 + 1 by simp] at this
theorem cell_in {w : World} {b : Nat} {c : Array Value} {t : TypeId} (h : w.heap[b]? = some (.cells c t (0, 0))) (o : Nat) : w.cell? ⟨b, o, none⟩ = c[o]? := by
  unfold World.cell?
  simp [h]
theorem cAt21 (w : World) (P : Obj) (B : Obj) (cs : Array Value) (t : TypeId) (o : Nat) : (((w.alloc P).alloc (.cells cs t (0, 0))).alloc B).cell? ⟨w.heap.size + 1, o, none⟩ = cs[o]? := cell_in (at21 w P _ B) o
theorem fAt21 (w : World) (P : Obj) (B : Obj) (cs : Array Value) (t : TypeId) (o : Nat) : (((w.alloc P).alloc (.cells cs t (0, 0))).alloc B).frozen? ⟨w.heap.size + 1, o, none⟩ = false := free_of (at21 w P _ B) o
theorem cAt22 (w : World) (P : Obj) (A : Obj) (cs : Array Value) (t : TypeId) (o : Nat) : (((w.alloc P).alloc A).alloc (.cells cs t (0, 0))).cell? ⟨w.heap.size + 1 + 1, o, none⟩ = cs[o]? := cell_in (at22 w P A _) o
theorem fAt22 (w : World) (P : Obj) (A : Obj) (cs : Array Value) (t : TypeId) (o : Nat) : (((w.alloc P).alloc A).alloc (.cells cs t (0, 0))).frozen? ⟨w.heap.size + 1 + 1, o, none⟩ = false := free_of (at22 w P A _) o
theorem cAt31 (w : World) (P : Obj) (B C : Obj) (cs : Array Value) (t : TypeId) (o : Nat) : ((((w.alloc P).alloc (.cells cs t (0, 0))).alloc B).alloc C).cell? ⟨w.heap.size + 1, o, none⟩ = cs[o]? := cell_in (at31 w P _ B C) o
theorem fAt31 (w : World) (P : Obj) (B C : Obj) (cs : Array Value) (t : TypeId) (o : Nat) : ((((w.alloc P).alloc (.cells cs t (0, 0))).alloc B).alloc C).frozen? ⟨w.heap.size + 1, o, none⟩ = false := free_of (at31 w P _ B C) o
theorem cAt32 (w : World) (P : Obj) (A C : Obj) (cs : Array Value) (t : TypeId) (o : Nat) : ((((w.alloc P).alloc A).alloc (.cells cs t (0, 0))).alloc C).cell? ⟨w.heap.size + 1 + 1, o, none⟩ = cs[o]? := cell_in (at32 w P A _ C) o
theorem fAt32 (w : World) (P : Obj) (A C : Obj) (cs : Array Value) (t : TypeId) (o : Nat) : ((((w.alloc P).alloc A).alloc (.cells cs t (0, 0))).alloc C).frozen? ⟨w.heap.size + 1 + 1, o, none⟩ = false := free_of (at32 w P A _ C) o
theorem cAt33 (w : World) (P : Obj) (A B : Obj) (cs : Array Value) (t : TypeId) (o : Nat) : ((((w.alloc P).alloc A).alloc B).alloc (.cells cs t (0, 0))).cell? ⟨w.heap.size + 1 + 1 + 1, o, none⟩ = cs[o]? := cell_in (at33 w P A B _) o
theorem fAt33 (w : World) (P : Obj) (A B : Obj) (cs : Array Value) (t : TypeId) (o : Nat) : ((((w.alloc P).alloc A).alloc B).alloc (.cells cs t (0, 0))).frozen? ⟨w.heap.size + 1 + 1 + 1, o, none⟩ = false := free_of (at33 w P A B _) o
theorem hZ2 (w : World) (cs : Array Value) (t : TypeId) (A B : Obj) : (((w.alloc (.cells cs t (0, 0))).alloc A).alloc B).heap[w.heap.size]? = some (.cells cs t (0, 0)) := (Below.heap_alloc _ _ _ (by simp <;> omega)).trans ((Below.heap_alloc _ _ _ (by simp <;> omega)).trans (new0 w _))
theorem cZ2 (w : World) (cs : Array Value) (t : TypeId) (A B : Obj) (o : Nat) : (((w.alloc (.cells cs t (0, 0))).alloc A).alloc B).cell? ⟨w.heap.size, o, none⟩ = cs[o]? := cell_in (hZ2 w cs t A B) o
theorem hZ3 (w : World) (cs : Array Value) (t : TypeId) (A B C : Obj) : ((((w.alloc (.cells cs t (0, 0))).alloc A).alloc B).alloc C).heap[w.heap.size]? = some (.cells cs t (0, 0)) := (Below.heap_alloc _ _ _ (by simp <;> omega)).trans ((Below.heap_alloc _ _ _ (by simp <;> omega)).trans ((Below.heap_alloc _ _ _ (by simp <;> omega)).trans (new0 w _)))
theorem cZ3 (w : World) (cs : Array Value) (t : TypeId) (A B C : Obj) (o : Nat) : ((((w.alloc (.cells cs t (0, 0))).alloc A).alloc B).alloc C).cell? ⟨w.heap.size, o, none⟩ = cs[o]? := cell_in (hZ3 w cs t A B C) o
theorem belowc {W w' : World} (hb : Below W.heap.size W w') (k : Nat) : k < W.heap.size → ∀ o, w'.cell? ⟨k, o, none⟩ = W.cell? ⟨k, o, none⟩ := fun hk o => World.cell?_of_block (a := ⟨k, o, none⟩) (hb.block k hk)
theorem bc {W w' : World} (hb : Below W.heap.size W w') (k o : Nat) : k < W.heap.size → w'.cell? ⟨k, o, none⟩ = W.cell? ⟨k, o, none⟩ := fun hk => belowc hb k hk o
theorem belowf {W w' : World} (hb : Below W.heap.size W w') (k : Nat) : k < W.heap.size → ∀ o, w'.frozen? ⟨k, o, none⟩ = W.frozen? ⟨k, o, none⟩ := fun hk o => by
  unfold World.frozen?
  simp [hb.block k hk]
theorem bf {W w' : World} (hb : Below W.heap.size W w') (k o : Nat) : k < W.heap.size → w'.frozen? ⟨k, o, none⟩ = W.frozen? ⟨k, o, none⟩ := fun hk => belowf hb k hk o
theorem bz {W w' : World} (hb : Below W.heap.size W w') (k : Nat) : k < W.heap.size → k < w'.heap.size := fun hk => Nat.lt_of_lt_of_le hk hb.size
theorem repeat_w (xb n : Nat) (h : n ≤ 65000) (w : World) (hx : w.cell? ⟨xb, 0, none⟩ = some (.int .i64 (-1))) :
    Calls Tryz.prog 88 #[.slice (some ⟨xb, 0, none⟩) 1 1, .int .i64 (IntKind.i64.wrap ((n : Int) + 1))] w fun e w' => Below w.heap.size w w' ∧ e = .returned (.slice (some ⟨w.heap.size, 0, none⟩) (n + 1) (n + 1)) ∧ w'.heap[w.heap.size]? = some (.cells (half (n + 1) (n + 1)).toArray 3 (0, 0)) := by
  have hw : IntKind.i64.wrap ((n : Int) + 1) = ((n + 1 : Nat) : Int) := by rw [IntKind.wrap_i64]; omega
  rw [hw]
  exact repeat_any xb (n + 1) (by omega) (by omega) w hx
theorem cell4 (w : World) (b k o : Nat) (v0 v1 v2 v3 : Value) (h : k ≠ b) : ((((w.setCell ⟨b, 0, none⟩ v0).setCell ⟨b, 1, none⟩ v1).setCell ⟨b, 2, none⟩ v2).setCell ⟨b, 3, none⟩ v3).cell? ⟨k, o, none⟩ = w.cell? ⟨k, o, none⟩ :=
  World.cell?_of_block (a := ⟨k, o, none⟩) ((Below.heap_setCell _ _ _ _ h).trans ((Below.heap_setCell _ _ _ _ h).trans ((Below.heap_setCell _ _ _ _ h).trans (Below.heap_setCell _ _ _ _ h))))
theorem cell4a (w : World) (b k o : Nat) (v0 v1 v2 v3 : Value) (O : Obj) (h : k ≠ b) (hk : k < w.heap.size) : (((((w.setCell ⟨b, 0, none⟩ v0).setCell ⟨b, 1, none⟩ v1).setCell ⟨b, 2, none⟩ v2).setCell ⟨b, 3, none⟩ v3).alloc O).cell? ⟨k, o, none⟩ = w.cell? ⟨k, o, none⟩ :=
  (World.cell?_of_block (a := ⟨k, o, none⟩) (Below.heap_alloc _ _ _ (by rw [size_setCell, size_setCell, size_setCell, size_setCell]; exact hk))).trans (cell4 w b k o v0 v1 v2 v3 h)
abbrev emptyBox : Obj := .cells #[.slice none 0 0, .slice none 0 0, .slice none 0 0, .slice none 0 0] 176 (0, 0)
/-- A search that was just made lies in W, and what lay in w lies as it was. -/
def Fresh (w W : World) (G qn capS n last sb : Nat) : Prop := ∃ rb lb, Only (fun _ => False) w W ∧ W.heap[sb]? = some (.cells #[.slice (some ⟨G, 0, none⟩) qn capS, .slice (some ⟨rb, 0, none⟩) qn qn, .slice none 0 0, .slice (some ⟨lb, 0, none⟩) (n + 1) (n + 1)] 176 (0, 0)) ∧ W.heap[rb]? = some (.cells (madeCells #[.int .i64 0] qn) 3 (0, 0)) ∧ W.heap[lb]? = some (.cells (half (n + 1) (n + 1)).toArray 3 (0, 0)) ∧ w.heap.size ≤ sb ∧ w.heap.size ≤ rb ∧ w.heap.size ≤ lb ∧ W.cell? ⟨w.heap.size, 1, none⟩ = some (.int .i64 last)
theorem kind_ne {w : World} {a b : Nat} {c c' : Array Value} {t t' : TypeId} (h : w.heap[a]? = some (.cells c t (0, 0))) (h' : w.heap[b]? = some (.cells c' t' (0, 0))) (ht : t ≠ t') : a ≠ b := fun e => by
  rw [e, h'] at h
  injection h with h1
  injection h1 with _ h2
  exact ht h2.symm
theorem freshA {w w' : World} {G qn capS n last rb lb : Nat} (ho : Only (fun _ => False) w w') (h2 : w'.heap[rb]? = some (.cells (madeCells #[.int .i64 0] qn) 3 (0, 0))) (h3 : w'.heap[lb]? = some (.cells (half (n + 1) (n + 1)).toArray 3 (0, 0))) (h5 : w.heap.size ≤ rb) (h6 : w.heap.size ≤ lb) (hp : w'.cell? ⟨w.heap.size, 1, none⟩ = some (.int .i64 last)) :
    Fresh w (w'.alloc (.cells #[.slice (some ⟨G, 0, none⟩) qn capS, .slice (some ⟨rb, 0, none⟩) qn qn, .slice none 0 0, .slice (some ⟨lb, 0, none⟩) (n + 1) (n + 1)] 176 (0, 0))) G qn capS n last w'.heap.size :=
  ⟨rb, lb, ho.alloc _, heap_alloc_new _ _, (Below.heap_alloc _ _ _ (heap_lt h2)).trans h2, (Below.heap_alloc _ _ _ (heap_lt h3)).trans h3, ho.size, h5, h6, (World.cell?_of_block (a := ⟨w.heap.size, 1, none⟩) (Below.heap_alloc _ _ _ (World.block_lt_of_cell? w' _ hp))).trans hp⟩
theorem freshC {w w' : World} {G qn capS n last lb : Nat} (ho : Only (fun _ => False) w w') (h3 : w'.heap[lb]? = some (.cells (half (n + 1) (n + 1)).toArray 3 (0, 0))) (h6 : w.heap.size ≤ lb) (hp : w'.cell? ⟨w.heap.size, 1, none⟩ = some (.int .i64 last)) :
    Fresh w ((w'.alloc (.cells (madeCells #[.int .i64 0] qn) 3 (0, 0))).alloc (.cells #[.slice (some ⟨G, 0, none⟩) qn capS, .slice (some ⟨w'.heap.size, 0, none⟩) qn qn, .slice none 0 0, .slice (some ⟨lb, 0, none⟩) (n + 1) (n + 1)] 176 (0, 0))) G qn capS n last (w'.heap.size + 1) := by
  have h := freshA (G := G) (capS := capS) (ho.alloc _) (heap_alloc_new w' (.cells (madeCells #[.int .i64 0] qn) 3 (0, 0))) ((Below.heap_alloc _ _ _ (heap_lt h3)).trans h3) ho.size h6 ((World.cell?_of_block (a := ⟨w.heap.size, 1, none⟩) (Below.heap_alloc _ _ _ (World.block_lt_of_cell? w' _ hp))).trans hp)
  rw [World.size_alloc] at h
  exact h
theorem freshD {w w' : World} {G qn capS n last lb : Nat} (ho : Only (fun _ => False) w w') (h3 : w'.heap[lb]? = some (.cells (half (n + 1) (n + 1)).toArray 3 (0, 0))) (h6 : w.heap.size ≤ lb) (hp : w'.cell? ⟨w.heap.size, 1, none⟩ = some (.int .i64 last)) :
    Fresh w ((w'.alloc (.cells #[.slice (some ⟨G, 0, none⟩) qn capS, .slice (some ⟨w'.heap.size + 1, 0, none⟩) qn qn, .slice none 0 0, .slice (some ⟨lb, 0, none⟩) (n + 1) (n + 1)] 176 (0, 0))).alloc (.cells (madeCells #[.int .i64 0] qn) 3 (0, 0))) G qn capS n last w'.heap.size := by
  have hs := ho.size
  refine ⟨w'.heap.size + 1, lb, (ho.alloc _).alloc _, (Below.heap_alloc _ _ _ (by simp)).trans (heap_alloc_new _ _), newb1 w' _ _, (Below.heap_alloc _ _ _ (by have := heap_lt h3; simp; omega)).trans ((Below.heap_alloc _ _ _ (heap_lt h3)).trans h3), hs, by omega, h6, ?_⟩
  have hl : w.heap.size < w'.heap.size := World.block_lt_of_cell? w' _ hp
  exact (World.cell?_of_block (a := ⟨w.heap.size, 1, none⟩) ((Below.heap_alloc _ _ _ (by simp; omega)).trans (Below.heap_alloc _ _ _ hl))).trans hp
theorem set4_heap (w : World) (b k : Nat) (v0 v1 v2 v3 : Value) (h : k ≠ b) : ((((w.setCell ⟨b, 0, none⟩ v0).setCell ⟨b, 1, none⟩ v1).setCell ⟨b, 2, none⟩ v2).setCell ⟨b, 3, none⟩ v3).heap[k]? = w.heap[k]? :=
  (Below.heap_setCell _ _ _ _ h).trans ((Below.heap_setCell _ _ _ _ h).trans ((Below.heap_setCell _ _ _ _ h).trans (Below.heap_setCell _ _ _ _ h)))
theorem freshB {w w' : World} {G qn capS n last sb rb lb : Nat} (ho : Only (fun _ => False) w w') (h1 : w'.heap[sb]? = some emptyBox) (h2 : w'.heap[rb]? = some (.cells (madeCells #[.int .i64 0] qn) 3 (0, 0))) (h3 : w'.heap[lb]? = some (.cells (half (n + 1) (n + 1)).toArray 3 (0, 0))) (h4 : w.heap.size < sb) (h5 : w.heap.size ≤ rb) (h6 : w.heap.size ≤ lb) (hp : w'.cell? ⟨w.heap.size, 1, none⟩ = some (.int .i64 last)) :
    Fresh w ((((w'.setCell ⟨sb, 0, none⟩ (.slice (some ⟨G, 0, none⟩) qn capS)).setCell ⟨sb, 1, none⟩ (.slice (some ⟨rb, 0, none⟩) qn qn)).setCell ⟨sb, 2, none⟩ (.slice none 0 0)).setCell ⟨sb, 3, none⟩ (.slice (some ⟨lb, 0, none⟩) (n + 1) (n + 1))) G qn capS n last sb := by
  have hn : ∀ o, sb < w.heap.size → (fun _ => False) (Addr.block ⟨sb, o, none⟩) := fun _ h => absurd h (by omega)
  refine ⟨rb, lb, (((ho.setCell (p := ⟨sb, 0, none⟩) (hn 0) _).setCell (p := ⟨sb, 1, none⟩) (hn 1) _).setCell (p := ⟨sb, 2, none⟩) (hn 2) _).setCell (p := ⟨sb, 3, none⟩) (hn 3) _, heap_setCell_same (heap_setCell_same (heap_setCell_same (heap_setCell_same h1 _) _) _) _, (set4_heap _ _ _ _ _ _ _ (kind_ne h2 h1 (by decide))).trans h2, (set4_heap _ _ _ _ _ _ _ (kind_ne h3 h1 (by decide))).trans h3, by omega, h5, h6, ?_⟩
  exact (cell4 _ _ _ _ _ _ _ _ (by omega)).trans hp
theorem freshE {w w' : World} {G qn capS n last sb lb : Nat} (ho : Only (fun _ => False) w w') (h1 : w'.heap[sb]? = some emptyBox) (h3 : w'.heap[lb]? = some (.cells (half (n + 1) (n + 1)).toArray 3 (0, 0))) (h4 : w.heap.size < sb) (h6 : w.heap.size ≤ lb) (hp : w'.cell? ⟨w.heap.size, 1, none⟩ = some (.int .i64 last)) :
    Fresh w (((((w'.setCell ⟨sb, 0, none⟩ (.slice (some ⟨G, 0, none⟩) qn capS)).setCell ⟨sb, 1, none⟩ (.slice (some ⟨w'.heap.size, 0, none⟩) qn qn)).setCell ⟨sb, 2, none⟩ (.slice none 0 0)).setCell ⟨sb, 3, none⟩ (.slice (some ⟨lb, 0, none⟩) (n + 1) (n + 1))).alloc (.cells (madeCells #[.int .i64 0] qn) 3 (0, 0))) G qn capS n last sb := by
  have hn : ∀ o, sb < w.heap.size → (fun _ => False) (Addr.block ⟨sb, o, none⟩) := fun _ h => absurd h (by omega)
  have hs := ho.size
  have hz : ((((w'.setCell ⟨sb, 0, none⟩ (.slice (some ⟨G, 0, none⟩) qn capS)).setCell ⟨sb, 1, none⟩ (.slice (some ⟨w'.heap.size, 0, none⟩) qn qn)).setCell ⟨sb, 2, none⟩ (.slice none 0 0)).setCell ⟨sb, 3, none⟩ (.slice (some ⟨lb, 0, none⟩) (n + 1) (n + 1))).heap.size = w'.heap.size := by rw [size_setCell, size_setCell, size_setCell, size_setCell]
  have hl : w.heap.size < w'.heap.size := World.block_lt_of_cell? w' _ hp
  refine ⟨w'.heap.size, lb, ((((ho.setCell (p := ⟨sb, 0, none⟩) (hn 0) _).setCell (p := ⟨sb, 1, none⟩) (hn 1) _).setCell (p := ⟨sb, 2, none⟩) (hn 2) _).setCell (p := ⟨sb, 3, none⟩) (hn 3) _).alloc _, (Below.heap_alloc _ _ _ (by rw [hz]; exact heap_lt h1)).trans (heap_setCell_same (heap_setCell_same (heap_setCell_same (heap_setCell_same h1 _) _) _) _), ?_, (Below.heap_alloc _ _ _ (by rw [hz]; exact heap_lt h3)).trans ((set4_heap _ _ _ _ _ _ _ (kind_ne h3 h1 (by decide))).trans h3), by omega, hs, h6, ?_⟩
  · have := heap_alloc_new ((((w'.setCell ⟨sb, 0, none⟩ (.slice (some ⟨G, 0, none⟩) qn capS)).setCell ⟨sb, 1, none⟩ (.slice (some ⟨w'.heap.size, 0, none⟩) qn qn)).setCell ⟨sb, 2, none⟩ (.slice none 0 0)).setCell ⟨sb, 3, none⟩ (.slice (some ⟨lb, 0, none⟩) (n + 1) (n + 1))) (.cells (madeCells #[.int .i64 0] qn) 3 (0, 0))
    rwa [hz] at this
  · exact (cell4a _ _ _ _ _ _ _ _ _ (by omega) hl).trans hp
theorem only_below {w W w' : World} (h : Only (fun _ => False) w W) (hb : Below W.heap.size W w') : Only (fun _ => False) w w' :=
  ⟨hb.os.trans h.os, hb.tape.trans h.tape, hb.output.trans h.output, Nat.le_trans h.size hb.size, fun i hi hd => (hb.block i (Nat.lt_of_lt_of_le hi h.size)).trans (h.block i hi hd)⟩
theorem keep1 {w w' : World} {P A : Obj} {o : Option Obj} (hb : Below ((w.alloc P).alloc A).drew.heap.size ((w.alloc P).alloc A).drew w') (hrow : w'.heap[((w.alloc P).alloc A).drew.heap.size]? = o) :
    Only (fun _ => False) w w' ∧ w'.heap[w.heap.size + 1 + 1]? = o ∧ w'.heap[w.heap.size + 1]? = some A ∧ True :=
  ⟨only_below ((((Only.refl _ w).alloc P).alloc A).drewN 1) hb, by rwa [show ((w.alloc P).alloc A).drew.heap.size = w.heap.size + 1 + 1 by simp] at hrow, (hb.block _ (heap_lt (at1 w P A))).trans (at1 w P A), trivial⟩
theorem keep2 {w w' : World} {P A B : Obj} {o : Option Obj} (hb : Below (((w.alloc P).alloc A).alloc B).drew.heap.size (((w.alloc P).alloc A).alloc B).drew w') (hrow : w'.heap[(((w.alloc P).alloc A).alloc B).drew.heap.size]? = o) :
    Only (fun _ => False) w w' ∧ w'.heap[w.heap.size + 1 + 1 + 1]? = o ∧ w'.heap[w.heap.size + 1]? = some A ∧ w'.heap[w.heap.size + 1 + 1]? = some B ∧ True :=
  ⟨only_below (((((Only.refl _ w).alloc P).alloc A).alloc B).drewN 1) hb, by rwa [show (((w.alloc P).alloc A).alloc B).drew.heap.size = w.heap.size + 1 + 1 + 1 by simp] at hrow, (hb.block _ (heap_lt (at21 w P A B))).trans (at21 w P A B), (hb.block _ (heap_lt (at22 w P A B))).trans (at22 w P A B), trivial⟩
theorem keep3 {w w' : World} {P A B C : Obj} {o : Option Obj} (hb : Below ((((w.alloc P).alloc A).alloc B).alloc C).drew.heap.size ((((w.alloc P).alloc A).alloc B).alloc C).drew w') (hrow : w'.heap[((((w.alloc P).alloc A).alloc B).alloc C).drew.heap.size]? = o) :
    Only (fun _ => False) w w' ∧ w'.heap[w.heap.size + 1 + 1 + 1 + 1]? = o ∧ w'.heap[w.heap.size + 1]? = some A ∧ w'.heap[w.heap.size + 1 + 1]? = some B ∧ w'.heap[w.heap.size + 1 + 1 + 1]? = some C ∧ True :=
  ⟨only_below ((((((Only.refl _ w).alloc P).alloc A).alloc B).alloc C).drewN 1) hb, by rwa [show ((((w.alloc P).alloc A).alloc B).alloc C).drew.heap.size = w.heap.size + 1 + 1 + 1 + 1 by simp] at hrow, (hb.block _ (heap_lt (at31 w P A B C))).trans (at31 w P A B C), (hb.block _ (heap_lt (at32 w P A B C))).trans (at32 w P A B C), (hb.block _ (heap_lt (at33 w P A B C))).trans (at33 w P A B C), trivial⟩
end Go.Proofs.YtdbdbaepmdmnfaaGreatDoor
