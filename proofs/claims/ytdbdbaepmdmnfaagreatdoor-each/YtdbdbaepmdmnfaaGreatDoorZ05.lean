import Derived.Test.YtdbdbaepmdmnfaaGreatDoorZ04
import Derived.Deep.RegionLaw
import Derived.Deep.AppendLies
import Derived.Defers
import Derived.Recover
import Derived.MapKept
import Derived.Deep.RegionWith
import Derived.Deep.DeepCutAuto
namespace Go.Proofs.YtdbdbaepmdmnfaaGreatDoor
open Go.RowKit
/-- A rule of kind kd, without conditions. -/
def RuleT (kd : Nat) (V : World → Value → Prop) : World → Value → Prop := fun w v => ∃ u, v = .agg #[.int .i64 kd, .slice none 0 0, u] ∧ V w u
def IsSl (V : World → Value → Prop) : Prop := ∀ w v, V w v → ∃ po n cap, v = .slice po n cap
theorem block_sl (pb n : Nat) (Vf : Nat → World → Value → Prop) : IsSl (BlockT pb n Vf) := fun _ _ ⟨_, _, h, _⟩ => by obtain ⟨po, cap, e⟩ := ownsRow_slice h; exact ⟨po, _, cap, e⟩
/-- What V tells stands while blocks of its call turn that hold no rows. -/
def Stab3 (V : World → Value → Prop) : Prop := ∀ w w' v (D : Nat → Prop), V w v → Only D w w' → (∀ k, D k → ∃ c t, w.heap[k]? = some (.cells c t (0, 0)) ∧ t ≠ 235 ∧ t ≠ 238) → V w' v
set_option maxRecDepth 20000 in
set_option maxHeartbeats 4000000 in
theorem rule_main (pb : Nat) (T : ByteArray) (ge : Bool) (s s1 : TS) (V : World → Value → Prop) (hS : IsSl V) (hV3 : Stab3 V) (hb : seen s [66, 69, 71, 73, 78] = false) (he : seen s [69, 78, 68] = false) (ho' : seen s [123] = true) (h1 : Reads 142 pb T ge s s1 V) (w : World) (h : PAt w pb T s ge) :
    Calls Tryz.prog 108 #[.pointer (some ⟨pb, 0, none⟩)] w fun en w' => ∃ v, en = .returned v ∧ RuleT 0 V w' v ∧ PAt w' pb T s1 ge ∧ Only (fun k => k = pb) w w' := by
  have hl := h.lt
  have hp0 := Reads.alloc_at h (.cells #[.int .i64 0, .slice none 0 0, .slice none 0 0] 102)
  have HPb := hide (passes_no pb T s ge ⟨#[66, 69, 71, 73, 78]⟩ hb _ hp0)
  have HPe := hide (passes_no pb T s ge ⟨#[69, 78, 68]⟩ he _ hp0)
  have HSe := hide (sees_at pb T s ge ⟨#[123]⟩ true ho' _ hp0)
  have H1 := hide (h1 _ hp0)
  have HS := hide hS
  have HV3 := hide hV3
  clear h hb he ho' h1 hp0 hS hV3
  go_enter Tryz.func108, Tryz.ntmps108
  go_wp2_with fail
  refine (HPb.out).mono ?_
  rintro en w1 ⟨rfl, hw1⟩
  subst hw1
  go_wp2_with fail
  refine (HPe.out).mono ?_
  rintro en w1 ⟨rfl, hw1⟩
  subst hw1
  go_wp2_with fail
  refine (HSe.out).mono ?_
  rintro en w1 ⟨rfl, hw1⟩
  subst hw1
  go_wp2_with fail
  refine (H1.out).mono ?_
  rintro en w2 ⟨u, rfl, hu, hp2, ho2⟩
  obtain ⟨po, n, cap, rfl⟩ := HS.out _ _ hu
  have hb2 := (ho2.block w.heap.size (by simp) (by intro e; omega)).trans (new0 w (.cells #[.int .i64 0, .slice none 0 0, .slice none 0 0] 102))
  have q0 : w2.cell? ⟨w.heap.size, 0, none⟩ = some (.int .i64 0) := cell_of hb2 rfl
  have q1 : w2.cell? ⟨w.heap.size, 1, none⟩ = some (.slice none 0 0) := cell_of hb2 rfl
  have q2 : w2.cell? ⟨w.heap.size, 2, none⟩ = some (.slice none 0 0) := cell_of hb2 rfl
  have qf := free_of hb2
  have Hu := hide hu
  have HP2 := hide hp2
  have HB2 := hide hb2
  have HO2 := hide (fromAlloc ho2)
  have hpn : pb ≠ w.heap.size := by omega
  clear hu hp2 ho2 hb2 HPb HPe HSe H1
  go_wp2
  refine bodyPost_ret (v := .agg #[.int .i64 0, .slice none 0 0, .slice po n cap]) (by simp [results, Tryz.results108, go_sem, q0, q1, q2]) rfl ⟨_, rfl, ⟨_, rfl, ?_⟩, ?_, ?_⟩
  · refine HV3.out _ _ _ (fun k => k = w.heap.size) Hu.out ((((Only.refl (fun k => k = w.heap.size) w2).setCell (p := ⟨w.heap.size, 0, none⟩) (fun _ => rfl) _).setCell (p := ⟨w.heap.size, 1, none⟩) (fun _ => rfl) _).setCell (p := ⟨w.heap.size, 2, none⟩) (fun _ => rfl) _) ?_
    rintro k rfl
    exact ⟨_, _, HB2.out, by decide, by decide⟩
  · show _ = _
    rw [Below.heap_setCell _ _ _ _ hpn, Below.heap_setCell _ _ _ _ hpn, Below.heap_setCell _ _ _ _ hpn]
    exact HP2.out
  · exact ((HO2.out.setCell (p := ⟨w.heap.size, 0, none⟩) (fun h => absurd h (Nat.lt_irrefl _)) _).setCell (p := ⟨w.heap.size, 1, none⟩) (fun h => absurd h (Nat.lt_irrefl _)) _).setCell (p := ⟨w.heap.size, 2, none⟩) (fun h => absurd h (Nat.lt_irrefl _)) _
theorem info198 : (Tryz.prog.info? 102).map (fun i => (i.zero, i.size, i.bytes)) = some (some (.agg #[.int .i64 0, .slice none 0 0, .slice none 0 0]), 3, 56) := by kernel_rfl
end Go.Proofs.YtdbdbaepmdmnfaaGreatDoor

namespace Go.Proofs.YtdbdbaepmdmnfaaGreatDoor
open Go.RowKit
theorem fromDrew {D : Nat → Prop} {w w' : World} (h : Only D w.drew w') : Only D w w' := ⟨h.os, h.tape, h.output, h.size, h.block⟩
/-- A program of one rule. -/
def ProgT (kd : Nat) (V : World → Value → Prop) : World → Value → Prop := fun w v => ∃ rs u, v = .agg #[.slice none 0 0, rs] ∧ w.ownsRow 0 102 3 rs 1 [.int .i64 kd, .slice none 0 0, u] ∧ V w u
set_option maxRecDepth 20000 in
set_option maxHeartbeats 8000000 in
theorem program_one (pb : Nat) (T : ByteArray) (s s1 : TS) (kd : Nat) (V : World → Value → Prop) (hS : IsSl V) (hV3 : Stab3 V) (hk : ¬ s.k = 1) (hf : seen s [102, 117, 110, 99, 116, 105, 111, 110] = false) (h1 : ∀ w, PAt w pb T s false → Calls Tryz.prog 108 #[.pointer (some ⟨pb, 0, none⟩)] w fun en w' => ∃ v, en = .returned v ∧ RuleT kd V w' v ∧ PAt w' pb T s1 false ∧ Only (fun k => k = pb) w w') (hk1 : s1.k = 1) (w : World) (h : PAt w pb T s false) :
    Calls Tryz.prog 74 #[.pointer (some ⟨pb, 0, none⟩)] w fun en w' => ∃ v, en = .returned v ∧ ProgT kd V w' v ∧ PAt w' pb T s1 false ∧ Only (fun k => k = pb) w w' := by
  obtain ⟨i0, hi0, hz0, hz1, hz2⟩ := info_parts info198
  have hl := h.lt
  have d1 : ((s.k : Int) != 1) = true := by simp [bne]; omega
  have hp0 := Reads.alloc_at (Reads.alloc_at h (.cells #[.slice none 0 0, .slice none 0 0] 60)) (.cells #[.slice none 0 0, .slice none 0 0] 60)
  have r3 : w.cell? ⟨pb, 3, none⟩ = some (.int .i64 s.k) := cell_of h rfl
  have HPf := hide (passes_no pb T s false ⟨#[102, 117, 110, 99, 116, 105, 111, 110]⟩ hf _ hp0)
  have H1 := hide (h1 ((w.alloc (.cells #[.slice none 0 0, .slice none 0 0] 60)).alloc (.cells #[.slice none 0 0, .slice none 0 0] 60)).drew hp0)
  have HS := hide hS
  have HV3 := hide hV3
  clear h hk hf h1 hS hV3
  go_enter Tryz.func74, Tryz.ntmps74
  go_wp2
  go_loopg [4] 1 (fun g _ wr => (g = 1 ∧ wr = (w.alloc (.cells #[.slice none 0 0, .slice none 0 0] 60)).alloc (.cells #[.slice none 0 0, .slice none 0 0] 60)) ∨ (g = 0 ∧ ∃ rs u, wr.heap[w.heap.size + 1]? = some (.cells #[.slice none 0 0, rs] 60 (0, 0)) ∧ wr.heap[w.heap.size]? = some (.cells #[.slice none 0 0, .slice none 0 0] 60 (0, 0)) ∧ wr.ownsRow 0 102 3 rs 1 [.int .i64 kd, .slice none 0 0, u] ∧ V wr u ∧ PAt wr pb T s1 false ∧ Only (fun k => k = pb) w wr))
  case atStart => exact Or.inl ⟨rfl, rfl⟩
  case round =>
    rcases hrel with ⟨hg, ew⟩ | ⟨hg, rs, u, hb3, hb4, hrow, hu, hp, ho⟩
    · subst ew
      subst hg
      go_wp2_with (go_at_call 106; refine (HPf.out).mono ?_; rintro en w1 ⟨rfl, hw1⟩; subst hw1)
      go_region_law
        (first
          | (rw [if_pos (by simp [Region.wanted])]; go_simp; go_at_call 108; refine (H1.out).mono ?_; rintro en w2 ⟨u, rfl, ⟨x, rfl, hx⟩, hp2, ho2⟩; obtain ⟨po, n, cap, rfl⟩ := HS.out _ _ hx; have hb2 := (ho2.block (w.heap.size + 1) (by simp) (by intro e; omega)).trans (new_at2 (W := w.alloc (.cells #[.slice none 0 0, .slice none 0 0] 60)) (by simp) (.cells #[.slice none 0 0, .slice none 0 0] 60)); have hb1 := (ho2.block w.heap.size (by simp; omega) (by intro e; omega)).trans ((Below.heap_alloc _ _ _ (by simp)).trans (new0 w (.cells #[.slice none 0 0, .slice none 0 0] 60))); have q1 : w2.cell? ⟨w.heap.size + 1, 1, none⟩ = some (.slice none 0 0) := cell_of hb2 rfl; have hz2' : w.heap.size + 2 ≤ w2.heap.size := (by have := ho2.size; simpa using this); have hz3 : w.heap.size + 1 < w2.heap.size := (by omega); have Hx := hide hx; have HP2 := hide hp2; have HO2 := hide ho2; have HB2 := hide hb2; have HB1 := hide hb1; clear hx hp2 ho2 hb2 hb1)
          | (refine step_append_lies _ (by rfl) _ _ _ (by rfl) 0 102 i0 _ 3 56 Tryz.underlying58 hi0 hz0 hz1 hz2 rfl (by omega) (.slice none 0 0) 0 [] (by rfl) (World.ownsRow_nil _ _ _ _) _ 1 1 [.int .i64 kd, .slice none 0 0, .slice po n cap] (by rfl) (by rfl) (World.news_of_block (cs := #[.int .i64 kd, .slice none 0 0, .slice po n cap]) (t := 102) (fr := (0, 0)) (new_at2 rfl _)) (by intro u hu; simp at hu; rcases hu with rfl | rfl | rfl <;> rfl) (by omega) (by unfold maxLen; omega) (by omega) (Nat.zero_le _) _ rfl ?_; intro gg cap2 w3 hown1 hgrow hat hlt; have hb3 := (hgrow.block (w.heap.size + 1) (by simp; omega) (fun e => by cases e)).trans ((Below.heap_alloc _ _ _ (by omega)).trans HB2.out); have t1 : w3.cell? ⟨w.heap.size + 1, 1, none⟩ = some (.slice none 0 0) := cell_of hb3 rfl; have tf := free_of hb3; have HB3 := hide hb3; clear hb3))
      all_goals
        have hne := own_tag hown1 HB3.out (by decide)
        have hB4 := hide ((hgrow.block w.heap.size (by simp; omega) (fun e => by cases e)).trans ((Below.heap_alloc _ _ _ (by omega)).trans HB1.out))
        have hp3 := hide ((hgrow.block pb (by simp; omega) (fun e => by cases e)).trans (Reads.alloc_at HP2.out _))
        have hog := hide ((Only.refl (fun _ => False) _).grown hgrow (fun q hq _ => by cases hq))
        have hO3 := hide ((fromAlloc (fromAlloc (fromDrew HO2.out))).alloc _ |>.grown hgrow (fun q hq _ => by cases hq))
        have hV4 := hide (HV3.out _ _ _ (fun _ => False) (HV3.out _ _ _ (fun _ => False) Hx.out (onlyA _ _) (fun _ e => e.elim)) hog.out (fun _ e => e.elim))
        have HOw := hide hown1
        clear hown1 hgrow hat hog
        go_wp2
        go_roundg 0
        case measure => omega
        case rel =>
          refine Or.inr ⟨rfl, .slice (some ⟨gg, 0, none⟩) 1 cap2, .slice po n cap, heap_setCell_same HB3.out _, ?_, ?_, ?_, ?_, ?_⟩
          · exact (Below.heap_setCell _ _ _ _ (by simp)).trans hB4.out
          · exact ownsRow_of HOw.out (fun k hk => Below.heap_setCell _ _ _ _ (fun e => hne (by rw [hk, e])))
          · refine HV3.out _ _ _ (fun k => k = w.heap.size + 1) hV4.out ((Only.refl (fun k => k = w.heap.size + 1) w3).setCell (p := ⟨w.heap.size + 1, 1, none⟩) (fun _ => rfl) _) ?_
            rintro k rfl
            exact ⟨_, _, HB3.out, by decide, by decide⟩
          · exact (Below.heap_setCell _ _ _ _ (by show pb ≠ w.heap.size + 1; omega)).trans hp3.out
          · exact hO3.out.setCell (p := ⟨w.heap.size + 1, 1, none⟩) (fun h => absurd h (by show ¬ (w.heap.size + 1 < w.heap.size); omega)) _
    · have r3' : wr.cell? ⟨pb, 3, none⟩ = some (.int .i64 1) := by have := cell_of hp (o := 3) rfl; rw [hk1] at this; exact this
      have c0 : wr.cell? ⟨w.heap.size + 1, 0, none⟩ = some (.slice none 0 0) := cell_of hb3 rfl
      have c1 : wr.cell? ⟨w.heap.size + 1, 1, none⟩ = some rs := cell_of hb3 rfl
      have g0 : wr.cell? ⟨w.heap.size, 0, none⟩ = some (.slice none 0 0) := cell_of hb4 rfl
      have g1 : wr.cell? ⟨w.heap.size, 1, none⟩ = some (.slice none 0 0) := cell_of hb4 rfl
      have gf := free_of hb4
      obtain ⟨pr, cr, rfl⟩ := ownsRow_slice hrow
      have HRow := hide hrow
      have Hu := hide hu
      have HP := hide hp
      have HO := hide ho
      have HB4 := hide hb4
      clear hrow hu hp ho hg hb3 hb4 HPf H1 hp0
      go_wp2
      have hpn : pb ≠ w.heap.size := by omega
      refine bodyPost_ret (v := .agg #[.slice none 0 0, .slice pr 1 cr]) (by simp [results, Tryz.results74, go_sem, g0, g1]) rfl ⟨_, rfl, ⟨.slice pr 1 cr, u, rfl, ?_, ?_⟩, ?_, ?_⟩
      · have hne := own_tag HRow.out HB4.out (by decide)
        exact ownsRow_of HRow.out (fun k hk => (Below.heap_setCell _ _ _ _ (fun e => hne (by rw [hk, e]))).trans (Below.heap_setCell _ _ _ _ (fun e => hne (by rw [hk, e]))))
      · refine HV3.out _ _ _ (fun k => k = w.heap.size) Hu.out (((Only.refl (fun k => k = w.heap.size) wr).setCell (p := ⟨w.heap.size, 0, none⟩) (fun _ => rfl) _).setCell (p := ⟨w.heap.size, 1, none⟩) (fun _ => rfl) _) ?_
        rintro k rfl
        exact ⟨_, _, HB4.out, by decide, by decide⟩
      · exact (Below.heap_setCell _ _ _ _ hpn).trans ((Below.heap_setCell _ _ _ _ hpn).trans HP.out)
      · exact (HO.out.setCell (p := ⟨w.heap.size, 0, none⟩) (fun h => absurd h (Nat.lt_irrefl _)) _).setCell (p := ⟨w.heap.size, 1, none⟩) (fun h => absurd h (Nat.lt_irrefl _)) _
end Go.Proofs.YtdbdbaepmdmnfaaGreatDoor

namespace Go.Proofs.YtdbdbaepmdmnfaaGreatDoor
open Go.RowKit
set_option maxHeartbeats 1000000 in
theorem catch_idle (a b c : Addr) (w : World) :
    CallsD Tryz.prog 71 #[.pointer (some a), .pointer (some b), .pointer (some c)] .returning w fun e u' w' => e = .returned (.tuple #[]) ∧ u' = .returning ∧ w' = w := by
  refine callsD_of_wpS Tryz.func71 rfl fun c₀ cs hu => ?_
  apply wpS_seq
  apply wpS_region
  simp [wpOpsS, go_sem, recoverD, hu, Tryz.ntmps71, Exit.thenS]
  refine wpS_of_wp ?_
  go_wp2
  cases c₀
  simp_all [bodyPostS, results, Tryz.results71]
theorem newReader (T : ByteArray) (w : World) : Calls Tryz.prog 72 #[.string T] w fun en w' => en = .returned (.agg #[.string T, .int .i64 0, .bool false]) ∧ Only (fun _ => False) w w' := by
  go_enter Tryz.func72, Tryz.ntmps72
  go_wp2
  exact bodyPost_ret (v := .agg #[.string T, .int .i64 0, .bool false]) (by simp [results, Tryz.results72, go_sem]) rfl ⟨rfl, onlyA _ _⟩
/-- Where a parser begins. -/
def ts0 : TS := ⟨0, false, 0, ⟨#[]⟩, 0⟩
theorem prog_only {kd : Nat} {V : World → Value → Prop} (hV3 : Stab3 V) {w w' : World} {v : Value} {D : Nat → Prop} (h : ProgT kd V w v) (ho : Only D w w') (hD : ∀ k, D k → ∃ c t, w.heap[k]? = some (.cells c t (0, 0)) ∧ t ≠ 235 ∧ t ≠ 238 ∧ t ≠ 102) : ProgT kd V w' v := by
  obtain ⟨rs, u, rfl, hr, hu⟩ := h
  refine ⟨rs, u, rfl, ownsRow_of hr (fun k hk => ho.block k (hr.lt k hk).2 (fun e => ?_)), hV3 _ _ _ D hu ho (fun k hk => ?_)⟩
  · obtain ⟨c, t, h1, _, _, h4⟩ := hD k e
    exact own_tag hr h1 (Ne.symm h4) hk
  · obtain ⟨c, t, h1, h2, h3, _⟩ := hD k hk
    exact ⟨c, t, h1, h2, h3⟩
set_option maxRecDepth 20000 in
set_option maxHeartbeats 4000000 in
theorem read_one (T : ByteArray) (kd : Nat) (V : Nat → World → Value → Prop) (hV3 : ∀ pb, Stab3 (V pb)) (s s1 : TS) (hn : ∀ pb, Nx pb T ts0 s) (hp : ∀ pb w, PAt w pb T s false → Calls Tryz.prog 74 #[.pointer (some ⟨pb, 0, none⟩)] w fun en w' => ∃ v, en = .returned v ∧ ProgT kd (V pb) w' v ∧ PAt w' pb T s1 false ∧ Only (fun k => k = pb) w w') (w : World) :
    Calls Tryz.prog 45 #[.string T] w fun en w' => ∃ pb v, en = .returned (.tuple #[v, .int .i64 0, .bool true]) ∧ ProgT kd (V pb) w' v ∧ Only (fun _ => False) w w' := by
  have hmf : ∀ (fn : Fn) (first cap : Array Value) (w : World), (Instr.makeFunc fn first cap).run Tryz.prog w = .ok (.func fn first cap) w := fun _ _ _ _ => rfl
  have HR := hide (newReader T (((w.alloc (.cells #[.slice none 0 0, .slice none 0 0] 60)).alloc (.cells #[.int .i64 0] 3)).alloc (.cells #[.bool false] 4)))
  have HN := hide hn
  have HPr := hide hp
  have HV3 := hide hV3
  clear hn hp hV3
  go_enter_defers Tryz.func45, Tryz.ntmps45
  go_wp2_with fail
  refine (HR.out).mono ?_
  rintro en w1 ⟨rfl, ho1⟩
  have hz1 : w.heap.size + 3 ≤ w1.heap.size := by have := ho1.size; simpa using this
  have HA : Hid (PAt (w1.alloc (.cells #[.string T, .int .i64 0, .bool false, .int .i64 0, .string ⟨#[]⟩, .int .i64 0, .bool false] 154)) w1.heap.size T ts0 false) := heap_alloc_new _ _
  have HO1 := hide ho1
  have HC := hide ((HN.out w1.heap.size).on HA.out)
  clear ho1 HR
  go_wp2_with fail
  refine (HC.out).mono ?_
  rintro en w2 ⟨rfl, hp2, ho2⟩
  have HP := hide (HPr.out _ _ hp2)
  have HO2 := hide ho2
  clear hp2 ho2 HC
  go_wp2_with fail
  refine (HP.out).mono ?_
  rintro en w3 ⟨v, rfl, hpt, hp3, ho3⟩
  have hz2 : w1.heap.size + 1 ≤ w2.heap.size := by have := HO2.out.size; simpa using this
  have hz3 := ho3.size
  have kb : ∀ k, k < w.heap.size + 3 → w3.heap[k]? = (((w.alloc (.cells #[.slice none 0 0, .slice none 0 0] 60)).alloc (.cells #[.int .i64 0] 3)).alloc (.cells #[.bool false] 4)).heap[k]? := fun k hk => by
    refine (ho3.block k (by omega) (by omega)).trans ((HO2.out.block k (by simp; omega) (by omega)).trans ((Below.heap_alloc _ _ _ (by omega)).trans (HO1.out.block k (by simp; omega) (fun e => e))))
  have hb0 : w3.heap[w.heap.size]? = some (.cells #[.slice none 0 0, .slice none 0 0] 60 (0, 0)) := (kb _ (by omega)).trans ((Below.heap_alloc _ _ _ (by simp <;> omega)).trans ((Below.heap_alloc _ _ _ (by simp <;> omega)).trans (new0 w _)))
  have hb1 : w3.heap[w.heap.size + 1]? = some (.cells #[.int .i64 0] 3 (0, 0)) := (kb _ (by omega)).trans ((Below.heap_alloc _ _ _ (by simp <;> omega)).trans (new_at2 (W := w.alloc _) (by simp <;> omega) _))
  have hb2 : w3.heap[w.heap.size + 1 + 1]? = some (.cells #[.bool false] 4 (0, 0)) := (kb _ (by omega)).trans (new_at2 (W := (w.alloc _).alloc _) (by simp <;> omega) _)
  obtain ⟨rs, u, rfl, hr, hu⟩ := hpt
  obtain ⟨pr, cr, rfl⟩ := ownsRow_slice hr
  have c0 : w3.cell? ⟨w.heap.size, 0, none⟩ = some (.slice none 0 0) := cell_of hb0 rfl
  have c1 : w3.cell? ⟨w.heap.size, 1, none⟩ = some (.slice none 0 0) := cell_of hb0 rfl
  have c2 : w3.cell? ⟨w.heap.size + 1, 0, none⟩ = some (.int .i64 0) := cell_of hb1 rfl
  have c3 : w3.cell? ⟨w.heap.size + 1 + 1, 0, none⟩ = some (.bool false) := cell_of hb2 rfl
  have f0 := free_of hb0
  have f1 := free_of hb1
  have f2 := free_of hb2
  have HPT := hide (show ProgT kd (V w1.heap.size) w3 (.agg #[.slice none 0 0, .slice pr 1 cr]) from ⟨_, u, rfl, hr, hu⟩)
  have HB := hide (show _ ∧ _ ∧ _ from ⟨hb0, hb1, hb2⟩)
  have HOa : Hid (Only (fun _ => False) w w3) := by
    refine ((fromAlloc (fromAlloc (fromAlloc HO1.out))).alloc _).trans (E := fun k => k = w1.heap.size) (HO2.out.trans ho3 (fun _ _ e => e)) (fun i hi e => ?_)
    omega
  clear hr hu hb0 hb1 hb2 kb hp3 ho3 HP HO2 HO1
  go_wp2
  refine leaves_cons (f := 71) (args := #[.pointer (some ⟨w.heap.size, 0, none⟩), .pointer (some ⟨w.heap.size + 1, 0, none⟩), .pointer (some ⟨w.heap.size + 1 + 1, 0, none⟩)]) (by simp) (by simp [go_sem]) ?_
  refine (catch_idle _ _ _ _).mono ?_
  rintro e u' w'' ⟨rfl, rfl, rfl⟩
  refine ⟨.tuple #[.agg #[.slice none 0 0, .slice pr 1 cr], .int .i64 0, .bool true], ?_, w1.heap.size, _, rfl, ?_, ?_⟩
  · simp [results, Tryz.results45, go_sem, c0, c1, c2, c3]
  · obtain ⟨hb0, hb1, hb2⟩ := HB.out
    refine prog_only (HV3.out _) (D := fun k => k = w.heap.size ∨ k = w.heap.size + 1 ∨ k = w.heap.size + 1 + 1) HPT.out (((((Only.refl _ w3).setCell (p := ⟨w.heap.size, 0, none⟩) (fun _ => Or.inl rfl) _).setCell (p := ⟨w.heap.size, 1, none⟩) (fun _ => Or.inl rfl) _).setCell (p := ⟨w.heap.size + 1, 0, none⟩) (fun _ => Or.inr (Or.inl rfl)) _).setCell (p := ⟨w.heap.size + 1 + 1, 0, none⟩) (fun _ => Or.inr (Or.inr rfl)) _) ?_
    rintro k (rfl | rfl | rfl)
    · exact ⟨_, _, hb0, by decide, by decide, by decide⟩
    · exact ⟨_, _, hb1, by decide, by decide, by decide⟩
    · exact ⟨_, _, hb2, by decide, by decide, by decide⟩
  · exact (((HOa.out.setCell (p := ⟨w.heap.size, 0, none⟩) (fun h => absurd h (Nat.lt_irrefl _)) _).setCell (p := ⟨w.heap.size, 1, none⟩) (fun h => absurd h (Nat.lt_irrefl _)) _).setCell (p := ⟨w.heap.size + 1, 0, none⟩) (fun h => absurd h (by show ¬ (w.heap.size + 1 < w.heap.size); omega)) _).setCell (p := ⟨w.heap.size + 1 + 1, 0, none⟩) (fun h => absurd h (by show ¬ (w.heap.size + 1 + 1 < w.heap.size); omega)) _
end Go.Proofs.YtdbdbaepmdmnfaaGreatDoor

namespace Go.Proofs.YtdbdbaepmdmnfaaGreatDoor
open Go.RowKit
theorem look262 {w : World} {M n : Nat} (h : w.heap[M]? = some (.map #[] n)) (x : ByteArray) : (Instr.lookup 156 (.map (some M)) (.string x) true).run Tryz.prog w = .ok (.tuple #[.agg #[.string ⟨#[]⟩, .int .i64 0, .slice none 0 0, .slice none 0 0], .bool false]) w := by
  have h1 := MapKept.run_getObj_map (P := Tryz.prog) h
  have h2 : (Instr.checkKey true 10000 9 (.string x)).run Tryz.prog w = .ok () w := MapKept.run_checkKey (d := .string) Tryz.underlying9 (by simp [MapKept.IsKey]) true 9999
  have h3 : (Instr.findKey 9 (.string x) []).run Tryz.prog w = .ok none w := MapKept.run_findKey Tryz.underlying9 rfl
  simp [Instr.lookup, go_sem, h1, h2, h3]
/-- A checker: no function is known, no parameter; us are the uses so far; nothing is wrong. -/
def UAt (w : World) (cb M : Nat) (us : Value) (rec : Bool) : Prop :=
  w.heap[cb]? = some (.cells #[.map (some M), .slice none 0 0, us, .slice none 0 0, .int .i64 0, .bool false, .bool rec] 159 (0, 0)) ∧ w.heap[M]? = some (.map #[] 0)
theorem UAt.ne {w cb M us rec} (h : UAt w cb M us rec) : M ≠ cb := fun e => by have h1 := h.1; have h2 := h.2; rw [e, h1] at h2; cases h2
theorem UAt.only {w w' cb M us rec D} (h : UAt w cb M us rec) (ho : Only D w w') (h1 : ¬ D cb) (h2 : ¬ D M) : UAt w' cb M us rec := ⟨(ho.block _ (heap_lt h.1) h1).trans h.1, (ho.block _ (heap_lt h.2) h2).trans h.2⟩
theorem UAt.alloc {w cb M us rec} (h : UAt w cb M us rec) (o : Obj) : UAt (w.alloc o) cb M us rec := h.only (onlyA w o) (fun e => e) (fun e => e)
set_option maxHeartbeats 1000000 in
theorem paramOf_none (x : ByteArray) (w : World) :
    Calls Tryz.prog 112 #[.slice none 0 0, .string x] w fun en w' => en = .returned (.tuple #[.agg #[.string ⟨#[]⟩, .int .i64 0, .bool false], .bool false]) ∧ w' = w.alloc (.cells #[.string ⟨#[]⟩, .int .i64 0, .bool false] 164) := by
  go_enter Tryz.func112, Tryz.ntmps112
  go_wp2
  go_loop [10] (fun s => s = .int .i64 0) (fun _ => 0)
  case atStart => exact rfl
  case round =>
    subst hrel
    go_wp2
    exact bodyPost_ret (v := .tuple #[.agg #[.string ⟨#[]⟩, .int .i64 0, .bool false], .bool false]) (by simp [results, Tryz.results112, go_sem]) rfl ⟨rfl, rfl⟩
theorem info357 : (Tryz.prog.info? 227).map (fun i => (i.zero, i.size, i.bytes)) = some (some (.agg #[.string ⟨#[]⟩, .int .i64 0, .int .i64 0]), 3, 32) := by kernel_rfl
theorem toDrew {D : Nat → Prop} {w w' : World} (h : Only D w w') : Only D w w'.drew := ⟨h.os, h.tape, h.output, h.size, h.block⟩
/-- The uses: none, or the one of x at a. -/
def UsT (x : ByteArray) (a : Nat) (w : World) (v : Value) : Prop := w.ownsRow 0 227 3 v 1 [.string x, .int .i64 a, .int .i64 0]
end Go.Proofs.YtdbdbaepmdmnfaaGreatDoor

