import Derived.Test.YthhiofppbpgipaaGreatDoorGI
import Derived.Test.YthhiofppbpgipaaGreatDoorMFollow
import Derived.Deep.DeepCutAuto
import Derived.Deep.CutBlock
import Derived.Deep.LoopGhost
import Derived.Deep.RegionWith
import Derived.BigQuiet
import Derived.Deep.QuietTactic
namespace Go.Proofs.YthhiofppbpgipaaGreatDoor
open Go.RowKit
def RunPost (w : World) (sb rb lb : Nat) (Q : List St) (t : List UInt8) (last : Nat) (e : Ending) (w' : World) : Prop :=
  e = .returned (.tuple #[]) ∧ ∃ L, AllLen Q t last L ∧ w'.heap[lb]? = some (.cells (zints L).toArray 3 (0, 0)) ∧ w'.cell? ⟨sb, 3, none⟩ = some (.slice (some ⟨lb, 0, none⟩) L.length L.length) ∧ Only (fun k => k = sb ∨ (k = rb ∨ k = lb)) w w'
set_option maxRecDepth 100000 in
set_option maxHeartbeats 4000000 in
theorem run_any (sb rb lb bs : Nat) (vS : Value) (Q : List St) (s : ByteArray) (ls : List Int) (rv : List Nat) (last : Nat)
    (hwf : WfQ Q) (hu : OneDone Q) (hfst : last < Q.length) (h6 : s.size ≤ 65000) (hQ : Q.length ≤ 1000000) (w : World) (h : Srch w sb rb lb bs vS Q ls s.size rv (.slice none 0 0) [] none) (hls : ls.length = s.size + 1) (hlm : ∀ k, k < s.size → ls[k]? = some (-1)) (hrv : ∀ (k x : Nat), rv[k]? = some x → x = 0) (hbw : bs ≤ w.heap.size) :
    Calls Tryz.prog 110 #[.pointer (some ⟨sb, 0, none⟩), .int .i64 last, .string s] w (RunPost w sb rb lb Q s.data.toList last) := by
  obtain ⟨G, capS, rfl⟩ := h.pat.form (by omega)
  have hGs : G ≠ sb ∧ G ≠ rb ∧ G ≠ lb ∧ G < bs := h.ss G rfl
  have hrs := h.rs
  have hsl0 := heap_lt h.blk
  have hts : s.data.toList.length = s.size := len_eq s
  have HWf := hide hwf
  have HU := hide hu
  have HI0 : Hid (RunI w w sb rb lb bs (.slice (some ⟨G, 0, none⟩) Q.length capS) Q s.data.toList ls last s.size (s.size + 1) (.slice none 0 0) (.slice none 0 0) [] none) := by
    have h1 := h
    rw [← hts] at h1
    have := RunI.begin (last := last) h1 hrv
    rwa [hts] at this
  have HL0 : Hid (LsOK Q s.data.toList last s.size ls) := ⟨by rw [hts]; exact hls, fun k h1 h2 => by omega, hlm⟩
  clear h hrv hwf hu hlm hls
  go_enter Tryz.func110, Tryz.ntmps110
  go_wp2_with fail
  go_loopg [6, 7, 8] s.size (fun g s6 s7 s8 wr => ∃ (p : Nat) (O : List (Nat × Nat)) (best : Option Nat) (ls : List Int), s8 = .int .i64 p ∧ g = p ∧ p ≤ s.size ∧ LsOK Q s.data.toList last p ls ∧ RunI w wr sb rb lb bs (.slice (some ⟨G, 0, none⟩) Q.length capS) Q s.data.toList ls last p (p + 1) s6 s7 O best)
  case atStart => exact ⟨s.size, [], none, ls, rfl, rfl, Nat.le_refl _, HL0.out, HI0.out⟩
  case round =>
    clear HI0 HL0
    obtain ⟨p, O, best, ls, e8, hg, hps, hlok, hI⟩ := hrel
    subst e8
    obtain ⟨rv1, vK, stk, N, hS1, hO1, hN1, hap, hR, hrv1, hol, ho, mK, mO, mN⟩ := hI
    obtain ⟨poO, capO, e6⟩ := ownsRow_slice hO1
    subst e6
    obtain ⟨poN, capN, e7⟩ := ownsRow_slice hN1
    subst e7
    have HS1 := hide hS1
    have HO1 := hide hO1
    have HN1 := hide hN1
    have HAp := hide hap
    have HR := hide hR
    have HRv1 := hide hrv1
    have HOn := hide ho
    have HmK := hide mK
    have HmO := hide mO
    have HmN := hide mN
    have Hg := hide hg
    have HLk := hide hlok
    clear hS1 hO1 hN1 hap hR hrv1 ho mK mO mN hg hlok
    go_wp2_with fail
    refine (follow_any sb rb lb bs _ Q s.data.toList ls rv1 vK stk best _ O last p p HWf.out hfst HLk.out.1 (by omega) (by omega) (by omega) hQ wr HS1.out HO1.out HR.out.closed hol (Nat.le_trans hbw HOn.out.size)).mono ?_
    rintro e w2 ⟨vO2, vK2, rv2, O2, best2, rfl, hS2, hO2, hF2, hol2, hrv2, ho2, mk2, mo2⟩
    obtain ⟨f1, f2, f3, f4, f5⟩ := follow_frame HS1.out HN1.out HAp.out ho2 hO2 mk2 mo2 HOn.out HmK.out HmO.out
    obtain ⟨poO2, capO2, e6⟩ := ownsRow_slice hO2
    subst e6
    have HR2 : Hid (RInv Q s.data.toList last p p (fun q => rv2[q]? = some (p + 1)) O2 best2) := HR.out.start HU.out (by omega) hF2
    have HI2 : Hid (RunI w w2 sb rb lb bs (.slice (some ⟨G, 0, none⟩) Q.length capS) Q s.data.toList ls last p p (.slice poO2 O2.length capO2) (.slice poN N.length capN) O2 best2) := ⟨rv2, vK2, [], N, hS2, hO2, f1, f2, HR2.out, (fun k x hx => by rcases hrv2 k x hx with h | h; omega; exact HRv1.out k x h), hol2, f3, f4, f5, HmN.out⟩
    have HOn2 := hide f3
    have HN2 := hide f1
    have c3 : w2.cell? ⟨sb, 3, none⟩ = some (.slice (some ⟨lb, 0, none⟩) ls.length ls.length) := cell_of hS2.blk rfl
    have HLn := hide hS2.lns
    have hO2l : O2.length ≤ 1000000 := by omega
    clear hS2 hO2 hF2 hrv2 ho2 mk2 mo2 f1 f2 f3 f4 f5 HS1 HO1 HN1 HAp HR HRv1 HOn HmK HmO HmN hol hol2
    by_cases hp0 : p = 0
    · subst hp0
      have HAll := hide (HLk.out.all HR2.out.lenAt)
      have HC3 := hide c3
      go_wp2
      go_end0
      exact ⟨rfl, _, HAll.out, HLn.out, by rw [List.length_set]; exact HC3.out, HOn2.out⟩
    · obtain ⟨p, rfl⟩ : ∃ p', p = p' + 1 := ⟨p - 1, by omega⟩
      have hpb : (((p + 1 : Nat) : Int) == 0) = false := by rw [beq_eq_false_iff_ne]; omega
      have hpl : p < s.size := by omega
      have HLk2 := hide (HLk.out.next (by omega) HR2.out.lenAt)
      go_wp2_with fail
      have HIn := hide (InI.begin HI2.out HLk.out)
      obtain ⟨ls2, HLe⟩ : ∃ ls2, Hid (ls.set (p + 1) (lenV (p + 1) best2) = ls2) := ⟨_, rfl⟩
      rw [HLe.out] at HIn HLk2
      clear HI2 HN2 HLn c3 HOn2 HLe
      go_loopg [7, 29] O2.length (fun g s7 s29 wx => ∃ (i : Nat) (b3 : Option Nat), s29 = .int .i64 i ∧ g = O2.length - i ∧ i ≤ O2.length ∧ InI w wx sb rb lb bs (.slice (some ⟨G, 0, none⟩) Q.length capS) Q s.data.toList ls2 p (.slice poO2 O2.length capO2) O2 i s7 b3)
      case atStart => exact ⟨0, none, rfl, rfl, Nat.zero_le _, HIn.out⟩
      case round =>
        clear HIn
        obtain ⟨i, b3, e29, hg, hi, hI⟩ := hrel
        subst e29
        have HI := hide hI
        have Hgi := hide hg
        clear hI hg
        by_cases hil : i < O2.length
        · have hcond : (i : Int) < (O2.length : Int) := by omega
          obtain ⟨⟨q, b⟩, hx⟩ : ∃ x, O2[i]? = some x := ⟨O2[i], List.getElem?_eq_getElem hil⟩
          obtain ⟨rv3, vK3, stk3, N3, hS3, hO3, hN3, hap3, hP3, hrv3, hol3, ho3, mK3, mO3, mN3⟩ := id HI.out
          obtain ⟨GO, capO', eO⟩ := own_form hO3 (by omega)
          injection eO with a1 a2 a3
          subst a1
          clear a2 a3
          obtain ⟨t0, t1⟩ := thr_cell hO3 hx
          have hGO : bs ≤ GO ∧ GO < wr.heap.size := hO3.lt GO rfl
          obtain ⟨hTk, hb1, hb2⟩ := HR2.out.facts.2 (q, b) (List.mem_of_getElem? hx)
          have hb2' : b ≤ s.size := by rw [← hts]; exact hb2
          obtain ⟨⟨kd, S, nx, ot⟩, hq, hk⟩ := hTk
          have hk' : kd = 0 := hk
          subst hk'
          have hq' : Q[q]? = some ⟨0, S, nx, ot⟩ := hq
          have hql : q < Q.length := (List.getElem?_eq_some_iff.1 hq').1
          have hwq := HWf.out _ (List.mem_of_getElem? hq')
          have hnx : nx < Q.length := hwq.2.1
          obtain ⟨ys, hys, hgc⟩ := hS3.pat.cells hq'
          have hys' : SetIs ys S := hys
          have c0 : wr.cell? ⟨sb, 0, none⟩ = some (.slice (some ⟨G, 0, none⟩) Q.length capS) := cell_of hS3.blk rfl
          have g5 : wr.cell? ⟨G, q * 7 + 5, none⟩ = some (.int .i64 nx) := hgc 5 _ rfl
          have HSA : ∀ o n, Hid (SetAt ((wr.alloc o).drewN n) G (q * 7 + 1) ys) := fun o n k hk => by
            have h1 : wr.cell? ⟨G, q * 7 + (k + 1), none⟩ = some (.int .u64 (ys k)) := hgc (k + 1) _ (by match k, hk with | 0, _ => rfl | 1, _ => rfl | 2, _ => rfl | 3, _ => rfl)
            have h2 : ((wr.alloc o).drewN n).cell? ⟨G, q * 7 + (k + 1), none⟩ = wr.cell? ⟨G, q * 7 + (k + 1), none⟩ := World.cell?_of_block (a := ⟨G, q * 7 + (k + 1), none⟩) (Below.heap_alloc _ _ _ (World.block_lt_of_cell? wr _ h1))
            rw [show q * 7 + 1 + k = q * 7 + (k + 1) by omega, h2]
            exact h1
          have HYs := hide hys'
          have HX := hide hx
          have HQ := hide hq'
          have HP3 := hide hP3
          have HG := hide (get_of_lt s p hpl)
          have hsl := heap_lt hS3.blk
          have hGl : G < wr.heap.size := World.block_lt_of_cell? wr _ g5
          have n1 : G ≠ sb := by omega
          have hpl' : (p : Int) < (s.size : Int) := by omega
          have HS3 := hide hS3
          have HO3 := hide hO3
          have HN3 := hide hN3
          have HAp3 := hide hap3
          have HRv3 := hide hrv3
          have HOl3 := hide hol3
          have HOn3 := hide ho3
          have HmK3 := hide mK3
          have HmO3 := hide mO3
          have HmN3 := hide mN3
          clear hS3 hO3 hN3 hap3 hP3 hrv3 hol3 ho3 mK3 mO3 mN3 hgc hys hys' hwq hq hq' hx hk hb2
          cases hSc : S s[p]
          · have HHas : ∀ n, Hid (Calls Tryz.prog 190 #[.pointer (some ⟨G, q * 7 + 1, none⟩), .int .u8 s[p].toNat] ((wr.alloc (.cells #[.int .i64 q, .int .i64 b] 327)).drewN n) fun e w' => e = .returned (.bool false) ∧ w' = (wr.alloc (.cells #[.int .i64 q, .int .i64 b] 327)).drewN n) := fun n => by
              have := has_any G (q * 7 + 1) ys S HYs.out s[p] _ (HSA (.cells #[.int .i64 q, .int .i64 b] 327) n).out
              rw [hSc] at this
              exact this
            have HSc := hide hSc
            clear hSc
            go_wp2_with fail
            go_quiet (fail)
            go_wp2_with fail
            go_quiet (first | (go_at_call 190; exact (HHas _).out.mono (fun _ _ h => ⟨h.1, _, h.2⟩)))
            go_wp2
            go_roundg (O2.length - (i + 1))
            case measure => have := Hgi.out; omega
            case rel => exact ⟨i + 1, b3, by go_num, rfl, by omega, (HI.out.alloc (.cells #[.int .i64 q, .int .i64 b] 327) _).pass HX.out HQ.out rfl HG.out HSc.out⟩
          · have HHas : ∀ n, Hid (Calls Tryz.prog 190 #[.pointer (some ⟨G, q * 7 + 1, none⟩), .int .u8 s[p].toNat] ((wr.alloc (.cells #[.int .i64 q, .int .i64 b] 327)).drewN n) fun e w' => e = .returned (.bool true) ∧ w' = (wr.alloc (.cells #[.int .i64 q, .int .i64 b] 327)).drewN n) := fun n => by
              have := has_any G (q * 7 + 1) ys S HYs.out s[p] _ (HSA (.cells #[.int .i64 q, .int .i64 b] 327) n).out
              rw [hSc] at this
              exact this
            have HSc := hide hSc
            clear hSc
            have HFo : ∀ n, Hid (Calls Tryz.prog 189 #[.pointer (some ⟨sb, 0, none⟩), u7, .agg #[.int .i64 nx, .int .i64 b], .int .i64 (IntKind.i64.wrap (p : Int))] ((wr.alloc (.cells #[.int .i64 q, .int .i64 b] 327)).drewN n) fun e w2 => ∃ vN4 b4, e = .returned vN4 ∧ InI w w2 sb rb lb bs (.slice (some ⟨G, 0, none⟩) Q.length capS) Q s.data.toList ls2 p (.slice (some ⟨GO, 0, none⟩) O2.length capO2) O2 (i + 1) vN4 b4) := fun n => by
              have hoW : Only (fun _ => False) wr ((wr.alloc (.cells #[.int .i64 q, .int .i64 b] 327)).drewN n) := ((Only.refl _ wr).alloc _).drewN n
              have hSW := HS3.out.only hoW (fun e => e) (fun e => e) (fun e => e) (fun _ _ e => e) (fun _ _ e => e)
              have hOW := ownsRow_of HO3.out (fun k hk => hoW.block k (HO3.out.lt k hk).2 (fun e => e))
              have hNW := ownsRow_of HN3.out (fun k hk => hoW.block k (HN3.out.lt k hk).2 (fun e => e))
              have hst := sorted_at HR2.out.facts.1 HX.out
              have hwp : IntKind.i64.wrap (p : Int) = (p : Int) := by rw [IntKind.wrap_i64]; omega
              rw [hwp]
              refine (follow_any sb rb lb bs _ Q s.data.toList ls2 rv3 vK3 stk3 b3 u7 N3 nx b p HWf.out hnx HLk2.out.1 (by omega) (by omega) (by omega) hQ _ hSW hNW (fun a a' h1 h2 => HP3.out.closed a a' h1 h2) HOl3.out (Nat.le_trans hbw (Nat.le_trans HOn3.out.size hoW.size))).mono ?_
              intro e w2 hf
              exact InI.step HU.out hSW hOW HAp3.out HP3.out HRv3.out (HOn3.out.trans hoW (fun _ _ e => e.elim)) HmK3.out HmO3.out HmN3.out HX.out HQ.out rfl HG.out HSc.out hst hf
            go_wp2_with fail
            go_quiet (fail)
            go_wp2_with fail
            go_quiet (first | (go_at_call 190; exact (HHas _).out.mono (fun _ _ h => ⟨h.1, _, h.2⟩)))
            go_wp2_with fail
            go_region_with (go_at_call 189; refine (HFo _).out.mono ?_; rintro e w2 ⟨vN4, b4, rfl, hI4⟩; have HI4 := hide hI4; clear hI4)
            all_goals
              go_wp2
              go_roundg (O2.length - (i + 1))
              case measure => have := Hgi.out; omega
              case rel => exact ⟨i + 1, b4, by go_num, rfl, by omega, HI4.out⟩
        · have hie : i = O2.length := by omega
          subst hie
          have hcond : ¬ ((O2.length : Int) < (O2.length : Int)) := by omega
          obtain ⟨N', hN'⟩ := HI.out.next HR2.out
          have HN' := hide hN'
          clear hN'
          go_wp2
          go_roundg p
          case measure => have := Hg.out; omega
          case rel => exact ⟨p, N', b3, ls2, by go_num, rfl, by omega, HLk2.out, HN'.out⟩
end Go.Proofs.YthhiofppbpgipaaGreatDoor
