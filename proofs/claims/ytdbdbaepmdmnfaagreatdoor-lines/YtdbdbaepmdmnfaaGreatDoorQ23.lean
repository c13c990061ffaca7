import Derived.Test.YtdbdbaepmdmnfaaGreatDoorQ22
import Derived.Deep.CutRange
namespace Go.Proofs.YtdbdbaepmdmnfaaGreatDoor
open Go.RowKit
theorem own_room {w : World} {B : Nat} {e : TypeId} {z : Nat} {po : Option Addr} {n cap n' : Nat} {xs : List Value} (h : w.ownsRow B e z (.slice po n cap) n' xs) : n' ≤ cap := by
  rcases h.2 with ⟨_, e⟩ | ⟨_, _, _, hv, _, _, h5, _⟩
  · omega
  · cases hv; exact h5
theorem Srch.grownO {w w1 sb rb lb bs vS Q ls p rv vK stk best vO n xs} (h : Srch w sb rb lb bs vS Q ls p rv vK stk best) (hO : w.ownsRow bs 248 2 vO n xs) (hg : w.grownBy w1 vO.ownBlock) : Srch w1 sb rb lb bs vS Q ls p rv vK stk best := by
  have ho : Only (fun k => some k = vO.ownBlock) w w1 := (Only.refl _ w).grown hg (fun k hk _ => hk.symm)
  have hrs := h.rs
  refine h.only ho (fun e => ?_) (fun e => ?_) (fun e => ?_) (fun k hk e => ?_) (fun k hk e => rows_apart h.own hO (by decide) k hk e.symm)
  · have := (hO.lt _ e.symm).1; omega
  · have := (hO.lt _ e.symm).1; omega
  · have := (hO.lt _ e.symm).1; omega
  · have := (hO.lt _ e.symm).1
    have := h.ss k hk
    omega
theorem push_srch {W sb rb lb bs vS Q ls p rv vK l best vO n xs sl w4 v' ss} (h : Srch W sb rb lb bs vS Q ls p rv vK l best) (hO : W.ownsRow bs 248 2 vO n xs) (hg : ((W.alloc sl).drew).grownBy w4 vK.ownBlock) (ho : w4.ownsRow bs 3 1 v' (l ++ ss).length (ints (l ++ ss))) :
    Srch (w4.setCell ⟨sb, 2, none⟩ v') sb rb lb bs vS Q ls p rv v' (l ++ ss) best ∧ (w4.setCell ⟨sb, 2, none⟩ v').ownsRow bs 248 2 vO n xs := by
  have h2 : Srch ((W.alloc sl).drew) sb rb lb bs vS Q ls p rv vK l best := h.only (D := fun _ => False) (((Only.refl _ W).alloc sl).drewN 1) (fun e => e) (fun e => e) (fun e => e) (fun _ _ e => e) (fun _ _ e => e)
  have hrs := h.rs
  refine ⟨h2.setStack hg ho, ownsRow_of hO (fun k hk => ?_)⟩
  have hk2 := hO.lt k hk
  have hap : some k ≠ vK.ownBlock := fun e => rows_apart hO h.own (by decide) k hk e.symm
  rw [Below.heap_setCell _ _ _ _ (show k ≠ sb by omega), hg.block k (by show k < (W.alloc sl).heap.size; rw [World.size_alloc]; omega) hap]
  exact Below.heap_alloc _ _ _ hk2.2
theorem moved_of {w : World} {v v' : Value} (h : Moved w v v') : MovedB w v v' := by
  obtain ⟨G, h1, h2⟩ := h
  rcases h2 with h2 | h2
  · exact Or.inl (by rw [h1, h2])
  · exact Or.inr ⟨G, h1, h2⟩
set_option maxRecDepth 100000 in
set_option maxHeartbeats 8000000 in
theorem follow_any (sb rb lb bs : Nat) (vS : Value) (Q : List St) (t : List UInt8) (ls : List Int) (rv : List Nat) (vK : Value) (stk0 : List Nat) (best : Option Nat) (vO : Value) (O : List (Nat × Nat)) (q0 b p : Nat)
    (hwf : WfQ Q) (hq0 : q0 < Q.length) (hls : ls.length = t.length + 1) (hp : p ≤ t.length) (h6 : t.length ≤ 65535) (hb : b ≤ t.length) (hQ : Q.length ≤ 1000000) (w : World) (h : Srch w sb rb lb bs vS Q ls p rv vK stk0 best) (hO : w.ownsRow bs 248 2 vO O.length (thr O))
    (hcl : ∀ q q', rv[q]? = some (p + 1) → Step Q t q p q' p → rv[q']? = some (p + 1)) (hOl : O.length + unm rv (p + 1) ≤ Q.length) (hbw : bs ≤ w.heap.size) :
    Calls Tryz.prog 124 #[.pointer (some ⟨sb, 0, none⟩), vO, .agg #[.int .i64 q0, .int .i64 b], .int .i64 p] w (FollowPost w sb rb lb bs vS Q t ls rv vK best vO O q0 b p) := by
  obtain ⟨i3, hi3, hz30, hz31, hz32⟩ := info_parts info3
  obtain ⟨i2, hi2, hz20, hz21, hz22⟩ := info_parts info283
  obtain ⟨G, capS, rfl⟩ := h.pat.form (by omega)
  obtain ⟨poO, capO, rfl⟩ := ownsRow_slice hO
  have hrs := h.rs
  have hsl := heap_lt h.blk
  have hrl := heap_lt h.rch
  have hGs : G ≠ sb ∧ G ≠ rb ∧ G ≠ lb ∧ G < bs := h.ss G rfl
  have hlbl := heap_lt h.lns
  have hl6 : ls.length ≤ 65536 := by omega
  have HLs := hide hls
  have HP6 := hide hp
  have hp6 : p ≤ 65535 := by omega
  have hlp : p < ls.length := by omega
  have hb6 : b ≤ 65535 := by omega
  clear hls
  have hpI : (p : Int) + 1 ≤ 65536 := by omega
  have HWf := hide hwf
  have HCl := hide hcl
  have HS := hide h
  have HO := hide hO
  have hu := unm_le rv (p + 1)
  rw [h.len] at hu
  have hKlt : ∀ k, vK.ownBlock = some k → bs ≤ k ∧ k < w.heap.size := fun k hk => h.own.lt k hk
  have hOlt : ∀ k, (Value.slice poO O.length capO).ownBlock = some k → bs ≤ k ∧ k < w.heap.size := fun k hk => hO.lt k hk
  have HKlt := hide hKlt
  have HOlt := hide hOlt
  have c4 : w.cell? ⟨sb, 2, none⟩ = some vK := cell_of h.blk rfl
  have f4 := free_of h.blk 2
  have HBlk := hide h.blk
  clear hwf hcl hKlt hOlt
  have fin : ∀ (w1 : World) (gg cap2 : Nat) (bx sl : Obj), w1.ownsRow bs 3 1 (.slice (some ⟨gg, 0, none⟩) 1 cap2) 1 [.int .i64 q0] → (((w.alloc bx).alloc sl).drew).grownBy w1 vK.ownBlock → (vK.ownBlock = some gg ∨ gg = w.heap.size + 2) →
      FLoop (w.alloc bx) sb rb lb bs (.slice (some ⟨G, 0, none⟩) Q.length capS) Q t ls rv vK best (.slice poO O.length capO) O q0 b p (.slice poO O.length capO) (w1.setCell ⟨sb, 2, none⟩ (.slice (some ⟨gg, 0, none⟩) 1 cap2)) := by
    intro w1 gg cap2 bx sl hown1 hgrow hat
    have hS2 : Srch (((w.alloc bx).alloc sl).drew) sb rb lb bs (.slice (some ⟨G, 0, none⟩) Q.length capS) Q ls p rv vK stk0 best := HS.out.only (D := fun _ => False) ((((Only.refl _ w).alloc bx).alloc sl).drewN 1) (fun e => e) (fun e => e) (fun e => e) (fun _ _ e => e) (fun _ _ e => e)
    have hap : ∀ k, (Value.slice poO O.length capO).ownBlock = some k → some k ≠ vK.ownBlock := fun k hk e => rows_apart HO.out HS.out.own (by decide) k hk e.symm
    refine ⟨.slice (some ⟨gg, 0, none⟩) 1 cap2, [q0], rv, O, best, hS2.setStack hgrow hown1, ?_, FInv.begin HCl.out, fun x hx => by simp at hx; omega, hOl, by simp; omega, fun k x hx => Or.inr hx, ?_, ?_, MovedB.refl _ _⟩
    · refine ownsRow_of HO.out (fun k hk => ?_)
      have hk2 := HOlt.out k hk
      rw [Below.heap_setCell _ _ _ _ (show k ≠ sb by omega), hgrow.block k (by simp; omega) (hap k hk)]
      exact (Below.heap_alloc _ _ _ (by simp; omega)).trans (Below.heap_alloc _ _ _ hk2.2)
    · refine ((((Only.refl (fun k => k = sb ∨ (k = rb ∨ k = lb) ∨ some k = vK.ownBlock ∨ some k = (Value.slice poO O.length capO).ownBlock) (w.alloc bx)).alloc sl).drewN 1).grown hgrow (fun k hk _ => Or.inr (Or.inr (Or.inl hk.symm)))).setCell (p := ⟨sb, 2, none⟩) (fun _ => Or.inl rfl) _
    · rcases hat with e | e
      · exact Or.inl e.symm
      · exact Or.inr ⟨gg, rfl, by rw [World.size_alloc]; omega⟩
  have HFin := hide fin
  clear fin h hO
  have hQ1 : Q.length ≠ 0 := by omega
  go_enter Tryz.func124, Tryz.ntmps124
  go_upto_region 1 with fail
  go_cut [12] from 12 to 23 (fun _ wx => FLoop (w.alloc (.cells #[.int .i64 q0, .int .i64 b] 248)) sb rb lb bs (.slice (some ⟨G, 0, none⟩) Q.length capS) Q t ls rv vK best (.slice poO O.length capO) O q0 b p (.slice poO O.length capO) wx)
  case first =>
    rcases HS.out.own.2 with ⟨hv, hn⟩ | ⟨g, cap, cur, hv, hg1, hg2, hg3, hg4, hg5, hg6⟩
    · subst hv
      have HR : Hid (w.ownsRow bs 3 1 (.slice none 0 0) 0 []) := World.ownsRow_nil _ _ _ _
      have HN : Hid (some sb ≠ (.slice none 0 0 : Value).ownBlock) := fun e => by have := HKlt.out sb e.symm; omega
      go_region_law (refine step_append_lies _ (by rfl) _ _ _ (by rfl) bs 3 i3 _ 1 8 Tryz.underlying126 hi3 hz30 hz31 hz32 rfl (by omega) (.slice none 0 0) 0 [] (by rfl) (((HR.out.alloc _).alloc _).drew) ⟨w.heap.size + 1, 0, none⟩ 1 1 [.int .i64 q0] (by rfl) (by rfl) (World.news_of_block (cs := #[.int .i64 q0]) (t := 3) (fr := (0, 0)) (newb1 w _ _)) (fun u hu => by simp at hu; subst hu; rfl) (by omega) (by unfold maxLen; omega) (by omega) (by simp; omega) (w.heap.size + 2) (by simp) ?_; intro gg cap2 w1 hown1 hgrow hat hlt; have hb1 : w1.heap[sb]? = some (.cells #[.slice (some ⟨G, 0, none⟩) Q.length capS, .slice (some ⟨rb, 0, none⟩) Q.length Q.length, .slice none 0 0, .slice (some ⟨lb, 0, none⟩) ls.length ls.length] 176 (0, 0)) := (hgrow.block sb (by simp; omega) HN.out).trans ((Below.heap_alloc _ _ _ (by simp; omega)).trans ((Below.heap_alloc _ _ _ hsl).trans HBlk.out)); have ff := free_of hb1 2; have cc : w1.cell? ⟨sb, 2, none⟩ = some (.slice none 0 0) := cell_of hb1 rfl; clear hb1)
      all_goals
        have HF1 := hide (HFin.out w1 gg cap2 _ _ hown1 hgrow hat)
        clear hown1 hgrow hat
        go_wp2_with fail
        go_meet
        case rel => exact HF1.out
    · subst hv
      have HRo : Hid (w.ownsRow bs 3 1 (.slice (some ⟨g, 0, none⟩) 0 cap) 0 []) := row_short (m := 0) HS.out.own (Nat.zero_le _)
      clear hg1 hg2 hg3 hg4 hg5 hg6
      have HR : Hid (w.ownsRow bs 3 1 (.slice (some ⟨g, 0, none⟩) 0 cap) 0 []) := HRo.out
      have HN : Hid (some sb ≠ (.slice (some ⟨g, 0, none⟩) stk0.length cap : Value).ownBlock) := fun e => by have := HKlt.out sb e.symm; omega
      go_region_law (refine step_append_lies _ (by rfl) _ _ _ (by rfl) bs 3 i3 _ 1 8 Tryz.underlying126 hi3 hz30 hz31 hz32 rfl (by omega) (.slice (some ⟨g, 0, none⟩) 0 cap) 0 [] (by rfl) (((HR.out.alloc _).alloc _).drew) ⟨w.heap.size + 1, 0, none⟩ 1 1 [.int .i64 q0] (by rfl) (by rfl) (World.news_of_block (cs := #[.int .i64 q0]) (t := 3) (fr := (0, 0)) (newb1 w _ _)) (fun u hu => by simp at hu; subst hu; rfl) (by omega) (by unfold maxLen; omega) (by omega) (by simp; omega) (w.heap.size + 2) (by simp) ?_; intro gg cap2 w1 hown1 hgrow hat hlt; have hb1 : w1.heap[sb]? = some (.cells #[.slice (some ⟨G, 0, none⟩) Q.length capS, .slice (some ⟨rb, 0, none⟩) Q.length Q.length, .slice (some ⟨g, 0, none⟩) stk0.length cap, .slice (some ⟨lb, 0, none⟩) ls.length ls.length] 176 (0, 0)) := (hgrow.block sb (by simp; omega) HN.out).trans ((Below.heap_alloc _ _ _ (by simp; omega)).trans ((Below.heap_alloc _ _ _ hsl).trans HBlk.out)); have ff := free_of hb1 2; have cc : w1.cell? ⟨sb, 2, none⟩ = some (.slice (some ⟨g, 0, none⟩) stk0.length cap) := cell_of hb1 rfl; clear hb1)
      all_goals
        have HF1 := hide (HFin.out w1 gg cap2 _ _ hown1 hgrow hat)
        clear hown1 hgrow hat
        go_wp2_with fail
        go_meet
        case rel => exact HF1.out
  case rest =>
    have HC := hide hcut
    clear hcut HFin HBlk c4 f4
    go_wp2_with fail
    go_loopw [1] (fun s1 wr => FLoop (w.alloc (.cells #[.int .i64 q0, .int .i64 b] 248)) sb rb lb bs (.slice (some ⟨G, 0, none⟩) Q.length capS) Q t ls rv vK best (.slice poO O.length capO) O q0 b p s1 wr) (fun _ wr => 2 * unmN wr rb Q.length ((p : Int) + 1) + stkN wr sb)
    case atStart => exact HC.out
    case round =>
      clear HC
      obtain ⟨vK1, stk1, rv1, O1, best1, hS1, hO1, hF1, hst1, hol1, hm1, hrv1, ho1, hmk1, hmo1⟩ := hrel
      obtain ⟨poO1, capO1, e1⟩ := ownsRow_slice hO1
      subst e1
      have hbx0 : (w.alloc (.cells #[.int .i64 q0, .int .i64 b] 248)).heap[w.heap.size]? = some (.cells #[.int .i64 q0, .int .i64 b] 248 (0, 0)) := new0 w _
      have hbx : wr.heap[w.heap.size]? = some (.cells #[.int .i64 q0, .int .i64 b] 248 (0, 0)) := (ho1.block w.heap.size (by simp) (by
        rintro (e | e | e | e)
        · omega
        · omega
        · have := HKlt.out _ e.symm; omega
        · have := HOlt.out _ e.symm; omega)).trans hbx0
      have HS1 := hide hS1
      have HO1 := hide hO1
      have HF1 := hide hF1
      have HSt1 := hide hst1
      have HRv1 := hide hrv1
      have HOn1 := hide ho1
      have HMk1 := hide hmk1
      have HMo1 := hide hmo1
      have HBx := hide hbx
      have hwl := heap_lt hbx
      clear hO1 hF1 hst1 hrv1 ho1 hmk1 hmo1 hbx hbx0
      rcases List.eq_nil_or_concat stk1 with hnil | ⟨l, q, hlq⟩
      · subst hnil
        obtain ⟨poK, capK, e2⟩ := ownsRow_slice hS1.own
        subst e2
        have c4 : wr.cell? ⟨sb, 2, none⟩ = some (.slice poK 0 capK) := cell_of hS1.blk rfl
        clear hS1
        go_wp2
        go_ret
        exact FLoop.done HS1.out HO1.out HF1.out hol1 HRv1.out HOn1.out HMk1.out HMo1.out
      · rw [List.concat_eq_append] at hlq
        subst hlq
        have hll : (l ++ [q]).length = l.length + 1 := by simp
        obtain ⟨K, capK, e2⟩ := own_form hS1.own (by omega)
        rw [hll] at e2
        subst e2
        have hKb : bs ≤ K ∧ K < wr.heap.size := hS1.own.lt K rfl
        have hql : q < Q.length := HSt1.out q (by simp)
        have hqr : q < rv1.length := by rw [hS1.len]; exact hql
        obtain ⟨x, hx⟩ : ∃ x, rv1[q]? = some x := ⟨rv1[q], List.getElem?_eq_getElem hqr⟩
        obtain ⟨st, hq⟩ : ∃ st, Q[q]? = some st := ⟨Q[q], List.getElem?_eq_getElem hql⟩
        have c4 : wr.cell? ⟨sb, 2, none⟩ = some (.slice (some ⟨K, 0, none⟩) (l.length + 1) capK) := cell_of hS1.blk rfl
        have c3 : wr.cell? ⟨sb, 1, none⟩ = some (.slice (some ⟨rb, 0, none⟩) Q.length Q.length) := cell_of hS1.blk rfl
        have f4 := free_of hS1.blk 2
        have k0 : wr.cell? ⟨K, l.length, none⟩ = some (.int .i64 q) := hS1.scell (by simp)
        have r0 : wr.cell? ⟨rb, q, none⟩ = some (.int .i64 x) := hS1.rcell hx
        have n1 : sb ≠ rb := by omega
        have n2 : rb ≠ sb := by omega
        have n3 : K ≠ sb := by omega
        have n4 : K ≠ rb := by omega
        have hcap : (l.length : Int) ≤ (capK : Int) := by have := own_room hS1.own; omega
        have HS2 : Hid (Srch (wr.setCell ⟨sb, 2, none⟩ (.slice (some ⟨K, 0, none⟩) l.length capK)) sb rb lb bs (.slice (some ⟨G, 0, none⟩) Q.length capS) Q ls p rv1 (.slice (some ⟨K, 0, none⟩) l.length capK) l best1) := by
          have h0 := hS1.own
          rw [hll] at h0
          have h1 := row_short (m := l.length) h0 (by omega)
          rw [List.take_left] at h1
          exact hS1.setStack (grown_refl wr _) h1
        have hO2 : ∀ v, Hid ((wr.setCell ⟨sb, 2, none⟩ v).ownsRow bs 248 2 (.slice poO1 O1.length capO1) O1.length (thr O1)) := fun v => ownsRow_of HO1.out (fun k hk => by
          have := (HO1.out.lt k hk).1
          exact Below.heap_setCell _ _ _ _ (show k ≠ sb by omega))
        have HMk2 : Hid (MovedB (w.alloc (.cells #[.int .i64 q0, .int .i64 b] 248)) vK (.slice (some ⟨K, 0, none⟩) l.length capK)) := HMk1.out
        have hsq : ∀ y ∈ l, y < Q.length := fun y hy => HSt1.out y (by simp [hy])
        have HSq := hide hsq
        have hms := HS1.out.stkN
        have hmu := HS1.out.unmN (p + 1)
        have HMs := hide hms
        have HMu := hide hmu
        rw [hll] at hm1
        clear hsq hms hmu
        by_cases hxp : x = p + 1
        · subst hxp
          clear hS1
          have r0' : wr.cell? ⟨rb, q, none⟩ = some (.int .i64 ((p : Int) + 1)) := r0
          clear r0
          go_wp2
          have hm2 := HS2.out.stkN
          have hm3 := HS2.out.unmN (p + 1)
          go_roundw
          case rel => exact ⟨_, l, rv1, O1, best1, HS2.out, (hO2 _).out, HF1.out.skip hx, HSq.out, hol1, by omega, HRv1.out, HOn1.out.setCell (p := ⟨sb, 2, none⟩) (fun _ => Or.inl rfl) _, HMk2.out, HMo1.out⟩
          case measure =>
            have a1 := HMs.out
            have a2 := HMu.out
            rw [hll] at a1
            rw [hm2, a1, show ((p : Int) + 1) = ((p + 1 : Nat) : Int) from rfl, hm3, a2]
            omega
        · have hxi : ((x : Int) == (p : Int) + 1) = false := by rw [beq_eq_false_iff_ne]; omega
          obtain ⟨kd, S, nx, ot⟩ := st
          have hwfq := HWf.out _ (List.mem_of_getElem? hq)
          obtain ⟨ys, hys, hgc⟩ := hS1.pat.cells hq
          have fr := free_of hS1.rch q
          have c0 : wr.cell? ⟨sb, 0, none⟩ = some (.slice (some ⟨G, 0, none⟩) Q.length capS) := cell_of hS1.blk rfl
          have g0 : wr.cell? ⟨G, q * 7, none⟩ = some (.int .i64 kd) := hgc 0 _ rfl
          have n5 : G ≠ sb := by omega
          have n6 : G ≠ rb := hGs.2.1
          have hus := unm_set hx hxp
          have hkd : kd ≤ 4 := hwfq.1
          have hnx : nx < Q.length := hwfq.2.1
          have hot : ot < Q.length := hwfq.2.2
          have HS3 : Hid (Srch ((wr.setCell ⟨sb, 2, none⟩ (.slice (some ⟨K, 0, none⟩) l.length capK)).setCell ⟨rb, q, none⟩ (.int .i64 ((p : Int) + 1))) sb rb lb bs (.slice (some ⟨G, 0, none⟩) Q.length capS) Q ls p (rv1.set q (p + 1)) (.slice (some ⟨K, 0, none⟩) l.length capK) l best1) := HS2.out.reach q (p + 1)
          have HO3 : Hid (((wr.setCell ⟨sb, 2, none⟩ (.slice (some ⟨K, 0, none⟩) l.length capK)).setCell ⟨rb, q, none⟩ (.int .i64 ((p : Int) + 1))).ownsRow bs 248 2 (.slice poO1 O1.length capO1) O1.length (thr O1)) := ownsRow_of (hO2 _).out (fun k hk => by
            have := (HO1.out.lt k hk).1
            exact Below.heap_setCell _ _ _ _ (show k ≠ rb by omega))
          have HOn3 : Hid (Only (fun k => k = sb ∨ (k = rb ∨ k = lb) ∨ some k = vK.ownBlock ∨ some k = (Value.slice poO O.length capO).ownBlock) (w.alloc (.cells #[.int .i64 q0, .int .i64 b] 248)) ((wr.setCell ⟨sb, 2, none⟩ (.slice (some ⟨K, 0, none⟩) l.length capK)).setCell ⟨rb, q, none⟩ (.int .i64 ((p : Int) + 1)))) := (HOn1.out.setCell (p := ⟨sb, 2, none⟩) (fun _ => Or.inl rfl) _).setCell (p := ⟨rb, q, none⟩) (fun _ => Or.inr (Or.inl (Or.inl rfl))) _
          have HBx3 : Hid (((wr.setCell ⟨sb, 2, none⟩ (.slice (some ⟨K, 0, none⟩) l.length capK)).setCell ⟨rb, q, none⟩ (.int .i64 ((p : Int) + 1))).heap[w.heap.size]? = some (.cells #[.int .i64 q0, .int .i64 b] 248 (0, 0))) := (Below.heap_setCell _ _ _ _ (show w.heap.size ≠ rb by omega)).trans ((Below.heap_setCell _ _ _ _ (show w.heap.size ≠ sb by omega)).trans HBx.out)
          have HSz3 : Hid (((wr.setCell ⟨sb, 2, none⟩ (.slice (some ⟨K, 0, none⟩) l.length capK)).setCell ⟨rb, q, none⟩ (.int .i64 ((p : Int) + 1))).heap.size = wr.heap.size) := (size_setCell _ _ _).trans (size_setCell _ _ _)
          have HRv3 : Hid (∀ (k x : Nat), (rv1.set q (p + 1))[k]? = some x → x = p + 1 ∨ rv[k]? = some x) := fun k x hx2 => by
            by_cases e : k = q
            · subst e
              rw [List.getElem?_set_self hqr] at hx2
              cases hx2
              exact Or.inl rfl
            · rw [List.getElem?_set_ne (fun h => e h.symm)] at hx2
              exact HRv1.out k x hx2
          have HMeas : Hid (2 * unmN wr rb Q.length ((p : Int) + 1) + stkN wr sb = 2 * unm rv1 (p + 1) + (l.length + 1)) := by
            have a1 := HMs.out
            have a2 := HMu.out
            rw [hll] at a1
            show 2 * unmN wr rb Q.length ((p + 1 : Nat) : Int) + stkN wr sb = _
            rw [a1, a2]
          have HNm : Hid (¬ rv1[q]? = some (p + 1)) := fun e => by rw [hx] at e; cases e; exact hxp rfl
          have HSet : Hid (∀ y, (rv1.set q (p + 1))[y]? = some (p + 1) ↔ rv1[y]? = some (p + 1) ∨ y = q) := fun y => set_iff hqr y
          have HQ := hide hq
          clear hS1 hgc hys hwfq hx hq hqr hxp
          go_upto_region 10 with fail
          generalize ((wr.setCell ⟨sb, 2, none⟩ (.slice (some ⟨K, 0, none⟩) l.length capK)).setCell ⟨rb, q, none⟩ (.int .i64 ((p : Int) + 1))) = W3 at *
          obtain ⟨ys3, _, hg3⟩ := HS3.out.pat.cells HQ.out
          have g5 : W3.cell? ⟨G, q * 7 + 5, none⟩ = some (.int .i64 nx) := hg3 5 _ rfl
          have g6 : W3.cell? ⟨G, q * 7 + 6, none⟩ = some (.int .i64 ot) := hg3 6 _ rfl
          have d4 : W3.cell? ⟨sb, 2, none⟩ = some (.slice (some ⟨K, 0, none⟩) l.length capK) := cell_of HS3.out.blk rfl
          have d1 : W3.cell? ⟨sb, 3, none⟩ = some (.slice (some ⟨lb, 0, none⟩) ls.length ls.length) := cell_of HS3.out.blk rfl
          have m1 : W3.cell? ⟨lb, p, none⟩ = some (.int .i64 (lenV p best1)) := cell_of HS3.out.lns (by rw [List.getElem?_toArray]; exact zints_get _ _ _ (List.getElem?_set_self hlp))
          have m2 := free_of HS3.out.lns p
          have e4 := free_of HS3.out.blk 2
          have b1 : W3.cell? ⟨w.heap.size, 1, none⟩ = some (.int .i64 b) := cell_of HBx3.out rfl
          have hsl3 : sb < W3.heap.size := heap_lt HS3.out.blk
          have hwl3 : w.heap.size < W3.heap.size := heap_lt HBx3.out
          have hkl : l.length ≤ 2000001 := by omega
          have hol : O1.length ≤ 1000000 := by omega
          have HNK : Hid (some sb ≠ (Value.slice (some ⟨K, 0, none⟩) l.length capK).ownBlock) := fun e => (by injection e with e; have e2 : sb = K := e; omega)
          have hkk : kd = 0 ∨ kd = 1 ∨ kd = 2 ∨ kd = 3 ∨ kd = 4 := by omega
          clear c4 c3 f4 k0 r0 fr c0 g0 hg3 hxi hcap
          rcases hkk with rfl | rfl | rfl | rfl | rfl
          · go_wp2_with (at_builtin; refine wpList_append_sep _ rfl (.tmp 82) (.tmp 87) 245 rfl bs 248 i2 (.agg #[.int .i64 0, .int .i64 0]) 2 16 Tryz.underlying245 hi2 hz20 hz21 hz22 rfl (by decide) _ _ (thr O1) rfl (HO3.out.alloc _) ⟨W3.heap.size, 0, none⟩ 1 1 [.int .i64 q, .int .i64 b] rfl rfl (World.news_of_block (cs := #[.int .i64 q, .int .i64 b]) (t := 248) (fr := (0, 0)) (heap_alloc_new W3 _)) (fun u hu => by simp at hu; rcases hu with rfl | rfl <;> rfl) (by decide) (by unfold maxLen; omega) (by omega) (by simp; omega) ?_)
            intro v' w4 hown4 hgrow4 hmv4
            obtain ⟨po4, cap4, e4⟩ := ownsRow_slice hown4
            subst e4
            have HS4 := hide ((HS3.out.alloc _).grownO (HO3.out.alloc _) hgrow4)
            have HO4 : Hid (w4.ownsRow bs 248 2 (.slice po4 (O1.length + 1) cap4) (O1 ++ [(q, b)]).length (thr (O1 ++ [(q, b)]))) := by
              show w4.ownsRow _ _ _ _ _ _
              rw [thr_append, List.length_append]
              exact hown4
            have HOn4 := hide ((HOn3.out.alloc _).grown hgrow4 (fun k hk hl => Or.inr (Or.inr (Or.inr (HMo1.out.old hk hl)))))
            have HMo4 : Hid (MovedB (w.alloc (.cells #[.int .i64 q0, .int .i64 b] 248)) (.slice poO O.length capO) (.slice po4 (O1.length + 1) cap4)) := HMo1.out.trans (HOn3.out.alloc _).size (moved_of hmv4)
            clear hown4 hgrow4 hmv4
            go_wp2
            have hm2 := HS4.out.stkN
            have hm3 := HS4.out.unmN (p + 1)
            go_roundw
            case rel => exact ⟨_, l, rv1.set q (p + 1), O1 ++ [(q, b)], best1, HS4.out, HO4.out, by simpa using HF1.out.pop HNm.out HSet.out (ss := []) (fun r => by rw [step_of HQ.out]; simp) (Or.inl ⟨(takes_iff HQ.out).2 rfl, rfl⟩) (Or.inr ⟨fun h => (by have := (done_iff HQ.out).1 h; simp at this), rfl⟩), HSq.out, by simp; omega, by omega, HRv3.out, HOn4.out, HMk2.out, HMo4.out⟩
            case measure =>
              rw [HMeas.out, hm2, show ((p : Int) + 1) = ((p + 1 : Nat) : Int) from rfl, hm3]
              omega
          · by_cases hp0 : p = 0
            · have hp1 : ((p : Int) == 0) = true := by rw [beq_iff_eq]; omega
              have HP0 := hide hp0
              clear hp0
              go_upto_region 18 with fail
              go_region_law (refine step_append_lies _ (by rfl) _ _ _ (by rfl) bs 3 i3 _ 1 8 Tryz.underlying126 hi3 hz30 hz31 hz32 rfl (by omega) (.slice (some ⟨K, 0, none⟩) l.length capK) l.length (ints l) (by rfl) ((HS3.out.own.alloc _).drew) ⟨W3.heap.size, 0, none⟩ 1 1 [.int .i64 nx] (by rfl) (by rfl) (World.news_of_block (cs := #[.int .i64 nx]) (t := 3) (fr := (0, 0)) (heap_alloc_new W3 _)) (fun u hu => by simp at hu; subst hu; rfl) (by omega) (by unfold maxLen; omega) (by omega) (by simp; omega) (W3.heap.size + 1) (by simp) ?_; intro gg cap2 w4 hown4 hgrow4 hat4 hlt4; have hb4 : w4.heap[sb]? = some (.cells #[.slice (some ⟨G, 0, none⟩) Q.length capS, .slice (some ⟨rb, 0, none⟩) Q.length Q.length, .slice (some ⟨K, 0, none⟩) l.length capK, .slice (some ⟨lb, 0, none⟩) ls.length ls.length] 176 (0, 0)) := (hgrow4.block sb (by simp; omega) HNK.out).trans ((Below.heap_alloc _ _ _ hsl3).trans HS3.out.blk); have ff := free_of hb4 2; have cc : w4.cell? ⟨sb, 2, none⟩ = some (.slice (some ⟨K, 0, none⟩) l.length capK) := cell_of hb4 rfl; clear hb4)
              all_goals
                have HPs := hide (push_srch (ss := [nx]) HS3.out HO3.out hgrow4 (by rw [ints_append, List.length_append]; exact hown4))
                have HOn4 : Hid (Only (fun k => k = sb ∨ (k = rb ∨ k = lb) ∨ some k = vK.ownBlock ∨ some k = (Value.slice poO O.length capO).ownBlock) (w.alloc (.cells #[.int .i64 q0, .int .i64 b] 248)) (w4.setCell ⟨sb, 2, none⟩ (.slice (some ⟨gg, 0, none⟩) (l.length + 1) cap2))) := (((HOn3.out.alloc _).drewN 1).grown hgrow4 (fun k hk hl => Or.inr (Or.inr (Or.inl (HMk2.out.old hk hl))))).setCell (p := ⟨sb, 2, none⟩) (fun _ => Or.inl rfl) _
                have HMk4 : Hid (MovedB (w.alloc (.cells #[.int .i64 q0, .int .i64 b] 248)) vK (.slice (some ⟨gg, 0, none⟩) (l.length + 1) cap2)) := HMk2.out.trans HOn3.out.size (by
                  rcases hat4 with e | e
                  · exact Or.inl e.symm
                  · exact Or.inr ⟨gg, rfl, by omega⟩)
                clear hown4 hgrow4 hat4
                go_wp2
                have hm2 := HPs.out.1.stkN
                have hm3 := HPs.out.1.unmN (p + 1)
                go_roundw
                case rel => exact ⟨_, l ++ [nx], rv1.set q (p + 1), O1, best1, HPs.out.1, HPs.out.2, HF1.out.pop HNm.out HSet.out (fun r => by rw [step_of HQ.out]; simp [HP0.out]) (Or.inr ⟨fun h => (by have := (takes_iff HQ.out).1 h; simp at this), rfl⟩) (Or.inr ⟨fun h => (by have := (done_iff HQ.out).1 h; simp at this), rfl⟩), fun y hy => (by rcases List.mem_append.1 hy with h | h; exact HSq.out y h; simp at h; omega), by omega, by simp; omega, HRv3.out, HOn4.out, HMk4.out, HMo1.out⟩
                case measure =>
                  rw [HMeas.out, hm2, show ((p : Int) + 1) = ((p + 1 : Nat) : Int) from rfl, hm3]
                  simp; omega
            · have hp1 : ((p : Int) == 0) = false := by rw [beq_eq_false_iff_ne]; omega
              have HP0 := hide hp0
              clear hp0
              go_wp2
              have hm2 := HS3.out.stkN
              have hm3 := HS3.out.unmN (p + 1)
              go_roundw
              case rel => exact ⟨_, l, rv1.set q (p + 1), O1, best1, HS3.out, HO3.out, by simpa using HF1.out.pop HNm.out HSet.out (ss := []) (fun r => by rw [step_of HQ.out]; simp [HP0.out]) (Or.inr ⟨fun h => (by have := (takes_iff HQ.out).1 h; simp at this), rfl⟩) (Or.inr ⟨fun h => (by have := (done_iff HQ.out).1 h; simp at this), rfl⟩), HSq.out, by omega, by omega, HRv3.out, HOn3.out, HMk2.out, HMo1.out⟩
              case measure =>
                rw [HMeas.out, hm2, show ((p : Int) + 1) = ((p + 1 : Nat) : Int) from rfl, hm3]
                omega
          · by_cases hp0 : p = t.length
            · have hp1 : ((p : Int) == (ls.length : Int) - 1) = true := by have := HLs.out; rw [beq_iff_eq]; omega
              have HPt : Hid (p = t.length) := hp0
              clear hp0
              go_upto_region 21 with fail
              go_region_law (refine step_append_lies _ (by rfl) _ _ _ (by rfl) bs 3 i3 _ 1 8 Tryz.underlying126 hi3 hz30 hz31 hz32 rfl (by omega) (.slice (some ⟨K, 0, none⟩) l.length capK) l.length (ints l) (by rfl) ((HS3.out.own.alloc _).drew) ⟨W3.heap.size, 0, none⟩ 1 1 [.int .i64 nx] (by rfl) (by rfl) (World.news_of_block (cs := #[.int .i64 nx]) (t := 3) (fr := (0, 0)) (heap_alloc_new W3 _)) (fun u hu => by simp at hu; subst hu; rfl) (by omega) (by unfold maxLen; omega) (by omega) (by simp; omega) (W3.heap.size + 1) (by simp) ?_; intro gg cap2 w4 hown4 hgrow4 hat4 hlt4; have hb4 : w4.heap[sb]? = some (.cells #[.slice (some ⟨G, 0, none⟩) Q.length capS, .slice (some ⟨rb, 0, none⟩) Q.length Q.length, .slice (some ⟨K, 0, none⟩) l.length capK, .slice (some ⟨lb, 0, none⟩) ls.length ls.length] 176 (0, 0)) := (hgrow4.block sb (by simp; omega) HNK.out).trans ((Below.heap_alloc _ _ _ hsl3).trans HS3.out.blk); have ff := free_of hb4 2; have cc : w4.cell? ⟨sb, 2, none⟩ = some (.slice (some ⟨K, 0, none⟩) l.length capK) := cell_of hb4 rfl; clear hb4)
              all_goals
                have HPs := hide (push_srch (ss := [nx]) HS3.out HO3.out hgrow4 (by rw [ints_append, List.length_append]; exact hown4))
                have HOn4 : Hid (Only (fun k => k = sb ∨ (k = rb ∨ k = lb) ∨ some k = vK.ownBlock ∨ some k = (Value.slice poO O.length capO).ownBlock) (w.alloc (.cells #[.int .i64 q0, .int .i64 b] 248)) (w4.setCell ⟨sb, 2, none⟩ (.slice (some ⟨gg, 0, none⟩) (l.length + 1) cap2))) := (((HOn3.out.alloc _).drewN 1).grown hgrow4 (fun k hk hl => Or.inr (Or.inr (Or.inl (HMk2.out.old hk hl))))).setCell (p := ⟨sb, 2, none⟩) (fun _ => Or.inl rfl) _
                have HMk4 : Hid (MovedB (w.alloc (.cells #[.int .i64 q0, .int .i64 b] 248)) vK (.slice (some ⟨gg, 0, none⟩) (l.length + 1) cap2)) := HMk2.out.trans HOn3.out.size (by
                  rcases hat4 with e | e
                  · exact Or.inl e.symm
                  · exact Or.inr ⟨gg, rfl, by omega⟩)
                clear hown4 hgrow4 hat4
                go_wp2
                have hm2 := HPs.out.1.stkN
                have hm3 := HPs.out.1.unmN (p + 1)
                have HStp : Hid (∀ r, Step Q t q p r p ↔ r ∈ ([nx] : List Nat)) := (fun r => by
                  rw [step_of HQ.out]
                  have h := HPt.out
                  constructor
                  · rintro (h1 | h1 | h1)
                    · exact absurd h1.1 (by show ¬ (2 : Nat) = 1; omega)
                    · simp [h1.2.2]
                    · exact absurd h1.1 (by show ¬ (2 : Nat) = 3; omega)
                  · intro h1; simp at h1; exact Or.inr (Or.inl ⟨rfl, h, h1⟩))
                go_roundw
                case rel => exact ⟨_, l ++ [nx], rv1.set q (p + 1), O1, best1, HPs.out.1, HPs.out.2, HF1.out.pop HNm.out HSet.out HStp.out (Or.inr ⟨fun h => (by have := (takes_iff HQ.out).1 h; simp at this), rfl⟩) (Or.inr ⟨fun h => (by have := (done_iff HQ.out).1 h; simp at this), rfl⟩), fun y hy => (by rcases List.mem_append.1 hy with h | h; exact HSq.out y h; simp at h; omega), by omega, by simp; omega, HRv3.out, HOn4.out, HMk4.out, HMo1.out⟩
                case measure =>
                  rw [HMeas.out, hm2, show ((p : Int) + 1) = ((p + 1 : Nat) : Int) from rfl, hm3]
                  simp; omega
            · have hp1 : ((p : Int) == (ls.length : Int) - 1) = false := by have := HLs.out; rw [beq_eq_false_iff_ne]; omega
              have HPt : Hid (¬ p = t.length) := hp0
              clear hp0
              go_wp2
              have hm2 := HS3.out.stkN
              have hm3 := HS3.out.unmN (p + 1)
              have HStp : Hid (∀ r, Step Q t q p r p ↔ r ∈ ([] : List Nat)) := (fun r => by
                rw [step_of HQ.out]
                have h := HPt.out
                constructor
                · rintro (h1 | h1 | h1)
                  · exact absurd h1.1 (by show ¬ (2 : Nat) = 1; omega)
                  · exact absurd h1.2.1 h
                  · exact absurd h1.1 (by show ¬ (2 : Nat) = 3; omega)
                · intro h1; simp at h1)
              go_roundw
              case rel => exact ⟨_, l, rv1.set q (p + 1), O1, best1, HS3.out, HO3.out, by simpa using HF1.out.pop HNm.out HSet.out (ss := []) HStp.out (Or.inr ⟨fun h => (by have := (takes_iff HQ.out).1 h; simp at this), rfl⟩) (Or.inr ⟨fun h => (by have := (done_iff HQ.out).1 h; simp at this), rfl⟩), HSq.out, by omega, by omega, HRv3.out, HOn3.out, HMk2.out, HMo1.out⟩
              case measure =>
                rw [HMeas.out, hm2, show ((p : Int) + 1) = ((p + 1 : Nat) : Int) from rfl, hm3]
                omega
          · go_upto_region 15 with fail
            go_region_law (refine step_append_lies _ (by rfl) _ _ _ (by rfl) bs 3 i3 _ 1 8 Tryz.underlying126 hi3 hz30 hz31 hz32 rfl (by omega) (.slice (some ⟨K, 0, none⟩) l.length capK) l.length (ints l) (by rfl) ((HS3.out.own.alloc _).drew) ⟨W3.heap.size, 0, none⟩ 2 2 [.int .i64 ot, .int .i64 nx] (by rfl) (by rfl) (World.news_of_block (cs := #[.int .i64 ot, .int .i64 nx]) (t := 3) (fr := (0, 0)) (heap_alloc_new W3 _)) (fun u hu => by simp at hu; rcases hu with rfl | rfl <;> rfl) (by omega) (by unfold maxLen; omega) (by omega) (by simp; omega) (W3.heap.size + 1) (by simp) ?_; intro gg cap2 w4 hown4 hgrow4 hat4 hlt4; have hb4 : w4.heap[sb]? = some (.cells #[.slice (some ⟨G, 0, none⟩) Q.length capS, .slice (some ⟨rb, 0, none⟩) Q.length Q.length, .slice (some ⟨K, 0, none⟩) l.length capK, .slice (some ⟨lb, 0, none⟩) ls.length ls.length] 176 (0, 0)) := (hgrow4.block sb (by simp; omega) HNK.out).trans ((Below.heap_alloc _ _ _ hsl3).trans HS3.out.blk); have ff := free_of hb4 2; have cc : w4.cell? ⟨sb, 2, none⟩ = some (.slice (some ⟨K, 0, none⟩) l.length capK) := cell_of hb4 rfl; clear hb4)
            all_goals
              have HPs := hide (push_srch (ss := [ot, nx]) HS3.out HO3.out hgrow4 (by rw [ints_append, List.length_append]; exact hown4))
              have HOn4 : Hid (Only (fun k => k = sb ∨ (k = rb ∨ k = lb) ∨ some k = vK.ownBlock ∨ some k = (Value.slice poO O.length capO).ownBlock) (w.alloc (.cells #[.int .i64 q0, .int .i64 b] 248)) (w4.setCell ⟨sb, 2, none⟩ (.slice (some ⟨gg, 0, none⟩) (l.length + 2) cap2))) := (((HOn3.out.alloc _).drewN 1).grown hgrow4 (fun k hk hl => Or.inr (Or.inr (Or.inl (HMk2.out.old hk hl))))).setCell (p := ⟨sb, 2, none⟩) (fun _ => Or.inl rfl) _
              have HMk4 : Hid (MovedB (w.alloc (.cells #[.int .i64 q0, .int .i64 b] 248)) vK (.slice (some ⟨gg, 0, none⟩) (l.length + 2) cap2)) := HMk2.out.trans HOn3.out.size (by
                rcases hat4 with e | e
                · exact Or.inl e.symm
                · exact Or.inr ⟨gg, rfl, by omega⟩)
              clear hown4 hgrow4 hat4
              go_wp2
              have hm2 := HPs.out.1.stkN
              have hm3 := HPs.out.1.unmN (p + 1)
              go_roundw
              case rel => exact ⟨_, l ++ [ot, nx], rv1.set q (p + 1), O1, best1, HPs.out.1, HPs.out.2, HF1.out.pop HNm.out HSet.out (fun r => by rw [step_of HQ.out]; simp [or_comm]) (Or.inr ⟨fun h => (by have := (takes_iff HQ.out).1 h; simp at this), rfl⟩) (Or.inr ⟨fun h => (by have := (done_iff HQ.out).1 h; simp at this), rfl⟩), fun y hy => (by rcases List.mem_append.1 hy with h | h; exact HSq.out y h; simp at h; omega), by omega, by simp; omega, HRv3.out, HOn4.out, HMk4.out, HMo1.out⟩
              case measure =>
                rw [HMeas.out, hm2, show ((p : Int) + 1) = ((p + 1 : Nat) : Int) from rfl, hm3]
                simp; omega
          · have HS4 := hide (show Srch (W3.setCell ⟨lb, p, none⟩ (.int .i64 ((b : Int) - p))).drew sb rb lb bs (.slice (some ⟨G, 0, none⟩) Q.length capS) Q ls p (rv1.set q (p + 1)) (.slice (some ⟨K, 0, none⟩) l.length capK) l (some b) from (HS3.out.note b).only (D := fun _ => False) ((Only.refl _ _).drewN 1) (fun e => e) (fun e => e) (fun e => e) (fun _ _ e => e) (fun _ _ e => e))
            have HO4 : Hid ((W3.setCell ⟨lb, p, none⟩ (.int .i64 ((b : Int) - p))).drew.ownsRow bs 248 2 (.slice poO1 O1.length capO1) O1.length (thr O1)) := ownsRow_of HO3.out (fun k hk => by
              have := HO3.out.lt k hk
              exact Below.heap_setCell _ _ _ _ (show k ≠ lb by omega))
            have HOn4 := hide ((HOn3.out.setCell (p := ⟨lb, p, none⟩) (fun _ => Or.inr (Or.inl (Or.inr rfl))) (.int .i64 ((b : Int) - p))).drewN 1)
            go_upto_region 13 with fail
            go_region
            all_goals
              go_wp2
              have hm2 := HS4.out.stkN
              have hm3 := HS4.out.unmN (p + 1)
              go_roundw
              case rel => exact ⟨_, l, rv1.set q (p + 1), O1, _, HS4.out, HO4.out, by simpa using HF1.out.pop HNm.out HSet.out (ss := []) (fun r => by rw [step_of HQ.out]; simp) (Or.inr ⟨fun h => (by have := (takes_iff HQ.out).1 h; simp at this), rfl⟩) (Or.inl ⟨(done_iff HQ.out).2 rfl, rfl⟩), HSq.out, by omega, by omega, HRv3.out, HOn4.out, HMk2.out, HMo1.out⟩
              case measure =>
                rw [HMeas.out, hm2, show ((p : Int) + 1) = ((p + 1 : Nat) : Int) from rfl, hm3]
                omega
end Go.Proofs.YtdbdbaepmdmnfaaGreatDoor
