import Derived.Test.YtdbdbaepmdmnfaaGreatDoorQ10
import Derived.Deep.RegionLaw
import Derived.Deep.AppendLies
import Derived.Defers
import Derived.Recover
namespace Go.Proofs.YtdbdbaepmdmnfaaGreatDoor
open Go.RowKit
/-- No word or sign with which a compound statement begins. -/
def NoComp (s : TS) : Prop := ∀ t ∈ [[123], [59], [105, 102], [119, 104, 105, 108, 101], [102, 111, 114]], seen s t = false
set_option maxRecDepth 20000 in
set_option maxHeartbeats 4000000 in
theorem stmt_last (pb : Nat) (T : ByteArray) (ge : Bool) (s s1 : TS) (V : World → Value → Prop) (hc : NoComp s) (h1 : Reads 251 pb T ge s s1 V) (hb : seen s1 [125] = true) : Reads 181 pb T ge s s1 V := by
  intro w h
  have H0 := hide (sees_at pb T s ge ⟨#[123]⟩ false (hc _ (by simp)) w h)
  have HPa := hide (passes_no pb T s ge ⟨#[59]⟩ (hc _ (by simp)) w h)
  have HPb := hide (passes_no pb T s ge ⟨#[105, 102]⟩ (hc _ (by simp)) w h)
  have HPc := hide (passes_no pb T s ge ⟨#[119, 104, 105, 108, 101]⟩ (hc _ (by simp)) w h)
  have HPd := hide (passes_no pb T s ge ⟨#[102, 111, 114]⟩ (hc _ (by simp)) w h)
  have H1 := hide (h1 w h)
  have HB : ∀ W, PAt W pb T s1 ge → Hid (Calls Tryz.prog 137 #[.pointer (some ⟨pb, 0, none⟩), .string ⟨#[125]⟩] W fun en w' => en = .returned (.bool true) ∧ w' = W) := fun W hW => sees_at pb T s1 ge ⟨#[125]⟩ true hb W hW
  clear h hc h1 hb
  go_enter Tryz.func181, Tryz.ntmps181
  go_wp2_with fail
  refine (H0.out).mono ?_
  rintro en w1 ⟨rfl, rfl⟩
  go_wp2_with fail
  refine (HPa.out).mono ?_
  rintro en w1 ⟨rfl, rfl⟩
  go_wp2_with fail
  refine (HPb.out).mono ?_
  rintro en w1 ⟨rfl, rfl⟩
  go_wp2_with fail
  refine (HPc.out).mono ?_
  rintro en w1 ⟨rfl, rfl⟩
  go_wp2_with fail
  refine (HPd.out).mono ?_
  rintro en w1 ⟨rfl, rfl⟩
  go_wp2_with fail
  refine (H1.out).mono ?_
  rintro en w2 ⟨v, rfl, hv, hp2, ho2⟩
  have HBs := HB _ hp2
  have Hv := hide hv
  have HP2 := hide hp2
  have HO2 := hide ho2
  clear hv hp2 ho2 HB H1 H0 HPa HPb HPc HPd
  go_wp2_with (go_at_call 137; refine (HBs.out).mono ?_; rintro en w3 ⟨rfl, rfl⟩)
  go_ret
  exact ⟨_, rfl, Hv.out, HP2.out, HO2.out⟩
theorem row_tag {w : World} {B : Nat} {e : TypeId} {z : Nat} {v : Value} {n : Nat} {xs : List Value} (h : w.ownsRow B e z v n xs) : ∀ q, some q = v.ownBlock → ∃ c, w.heap[q]? = some (.cells c e (0, 0)) := by
  intro q hq
  rcases h.2 with ⟨rfl, _⟩ | ⟨g, cap, cur, rfl, _, h3, _⟩
  · cases hq
  · cases hq; exact ⟨_, h3⟩
theorem row_keep {w w' : World} {B : Nat} {e : TypeId} {z : Nat} {v : Value} {n : Nat} {xs : List Value} {pb : Nat} (h : w.ownsRow B e z v n xs) (hn : v.ownBlock ≠ some pb) (ho : Only (fun k => k = pb) w w') : w'.ownsRow B e z v n xs := ownsRow_of h (fun k hk => ho.block k (h.lt k hk).2 (fun e => hn (by rw [hk, e])))
theorem base0 {w : World} {B : Nat} {e : TypeId} {z : Nat} {v : Value} {n : Nat} {xs : List Value} (h : w.ownsRow B e z v n xs) : w.ownsRow 0 e z v n xs := by
  refine ⟨h.1, ?_⟩
  rcases h.2 with h1 | ⟨g, cap, cur, h1, h2, h3⟩
  · exact Or.inl h1
  · exact Or.inr ⟨g, cap, cur, h1, Nat.zero_le _, h3⟩
/-- What V tells stands while rows of statements grow. -/
def Stab2 (V : World → Value → Prop) : Prop := ∀ w w' v (D : Nat → Prop), V w v → Only D w w' → (∀ k, D k → ∃ c, w.heap[k]? = some (.cells c 235 (0, 0))) → V w' v
theorem is_stab2 (v : Value) : Stab2 (Is v) := fun _ _ _ _ h _ _ => h
theorem row_stab2 (pb : Nat) (vs : List Value) : Stab2 (Row pb vs) := by
  rintro w w' v D ⟨h, h2⟩ ho hD
  refine ⟨ownsRow_of h (fun k hk => ho.block k (h.lt k hk).2 (fun e => ?_)), h2⟩
  obtain ⟨c, hc⟩ := hD k e
  exact own_tag h hc (by decide) hk
/-- A block: n statements, one behind the other. -/
def BlockT (pb n : Nat) (Vf : Nat → World → Value → Prop) : World → Value → Prop := fun w v => ∃ vs, vs.length = n ∧ w.ownsRow 0 235 1 v n vs ∧ v.ownBlock ≠ some pb ∧ ∀ i u, vs[i]? = some u → Vf i w u
set_option maxRecDepth 20000 in
set_option maxHeartbeats 8000000 in
theorem block_rd (pb : Nat) (T : ByteArray) (ge : Bool) (s : TS) (n : Nat) (hn100 : n ≤ 100) (S : Nat → TS) (se : TS) (Vf : Nat → World → Value → Prop) (hV : ∀ i, i < n → Stab pb (Vf i)) (hV2 : ∀ i, i < n → Stab2 (Vf i)) (hI : ∀ i, i < n → IsIf (Vf i)) (ho' : seen s [123] = true) (hn0 : Nx pb T s (S 0))
    (hr : ∀ i, i < n → Reads 181 pb T ge (S i) (S (i + 1)) (Vf i)) (hno : ∀ i, i < n → seen (S i) [125] = false) (hyes : seen (S n) [125] = true) (hne : Nx pb T (S n) se) : Reads 142 pb T ge s se (BlockT pb n Vf) := by
  obtain ⟨i0, hi0, hz0, hz1, hz2⟩ := info_parts info363
  intro w h
  have HNd := hide (need_yes pb T s (S 0) ge ⟨#[123]⟩ ho' hn0 w h)
  have HPy : ∀ W, PAt W pb T (S n) ge → Hid (Calls Tryz.prog 106 #[.pointer (some ⟨pb, 0, none⟩), .string ⟨#[125]⟩] W fun en w' => en = .returned (.bool true) ∧ PAt w' pb T se ge ∧ Only (fun k => k = pb) W w') := fun W hW => passes_yes pb T (S n) se ge ⟨#[125]⟩ hyes hne W hW
  have HPn : ∀ i, i < n → ∀ W, PAt W pb T (S i) ge → Hid (Calls Tryz.prog 106 #[.pointer (some ⟨pb, 0, none⟩), .string ⟨#[125]⟩] W fun en w' => en = .returned (.bool false) ∧ w' = W) := fun i hi W hW => passes_no pb T (S i) ge ⟨#[125]⟩ (hno i hi) W hW
  have HRd := hide hr
  have HV := hide hV
  have HI := hide hI
  have HV2 := hide hV2
  clear h ho' hn0 hr hno hyes hne hV hI hV2
  go_enter Tryz.func142, Tryz.ntmps142
  go_wp2_with fail
  refine (HNd.out).mono ?_
  rintro en w1 ⟨rfl, hp1, ho1⟩
  have HP1 := hide hp1
  have HO1 := hide ho1
  clear hp1 ho1 HNd
  go_wp2
  go_loopg [3] n (fun g s3 wr => ∃ (k : Nat) (vs : List Value), k ≤ n ∧ g = n - k ∧ vs.length = k ∧ wr.ownsRow w.heap.size 235 1 s3 k vs ∧ (∀ i u, vs[i]? = some u → Vf i wr u) ∧ PAt wr pb T (S k) ge ∧ Only (fun k => k = pb) w wr)
  case atStart => exact ⟨0, [], Nat.zero_le _, rfl, rfl, World.ownsRow_nil _ _ _ _, fun i u hu => by simp at hu, HP1.out, HO1.out⟩
  case round =>
    obtain ⟨k, vs, hk, hg, hvl, hrow, hvs, hp, ho⟩ := hrel
    have HG := hide hg
    have HRow := hide hrow
    have HVs := hide hvs
    have HO := hide ho
    have hlp := hp.lt
    have hnp := own_tag (t := 154) hrow hp (by decide)
    have hzw := ho.size
    by_cases hlt : k < n
    · have HPs := HPn k hlt _ hp
      have HSt := hide (HRd.out k hlt _ hp)
      clear hg hrow hvs hp ho
      go_wp2_with (first | (go_at_call 106; refine (HPs.out).mono ?_; rintro en w2 ⟨rfl, rfl⟩))
      refine (HSt.out).mono ?_
      rintro en w3 ⟨u, rfl, hu, hp3, ho3⟩
      obtain ⟨t, x, rfl⟩ := HI.out k hlt _ _ hu
      have hz3 := ho3.size
      have hrow3 := row_keep HRow.out hnp ho3
      have HRow3 := hide hrow3
      have Hu := hide hu
      have HP3 := hide hp3
      have HO3 : Hid (Only (fun k => k = pb) w w3) := HO.out.trans ho3 (fun _ _ e => e)
      have HVs3 : Hid (∀ i u, vs[i]? = some u → Vf i w3 u) := fun i u hiu => HV.out i (by have := (List.getElem?_eq_some_iff.1 hiu).1; omega) _ _ _ (HVs.out i u hiu) ho3
      have hl3 := hp3.lt
      clear hu hp3 ho3 hrow3 HSt HPs
      go_wp2_with (at_builtin; refine wpList_append_own _ rfl (.tmp 9) (.tmp 12) 95 rfl w.heap.size 235 i0 .nilIface 1 16 Tryz.underlying95 hi0 hz0 hz1 hz2 rfl (by decide) _ _ _ rfl (HRow3.out.alloc _) _ 1 1 [.iface t x] rfl rfl (news_oneR _ _ _) (fun u hu => by simp at hu; subst hu; rfl) (by unfold maxLen; omega) (by omega) (by simp; omega) ?_; intro v' w4 hown' hgrow hnil)
      have hp4 : PAt w4 pb T (S (k + 1)) ge := (hgrow.block pb (by simp; omega) (fun e => hnp e.symm)).trans (Reads.alloc_at HP3.out _)
      have ho34 : Only (fun q => some q = _) _ w4 := (Only.refl (fun q => some q = _) _).grown hgrow (fun q hq _ => hq.symm)
      have hD := row_tag (HRow3.out.alloc (.cells #[.iface t x] 235))
      have HVs4 : Hid (∀ i u, (vs ++ [.iface t x])[i]? = some u → Vf i w4 u) := fun i u hiu => by
        by_cases hi : i < vs.length
        · rw [List.getElem?_append_left hi] at hiu
          exact HV2.out i (by omega) _ _ _ _ (HV2.out i (by omega) _ _ _ (fun _ => False) (HVs3.out i u hiu) (onlyA _ _) (fun _ e => e.elim)) ho34 hD
        · rw [List.getElem?_append_right (by omega)] at hiu
          have hik : i = k := by have := (List.getElem?_eq_some_iff.1 hiu).1; simp at this; omega
          subst hik
          rw [hvl, Nat.sub_self] at hiu
          simp at hiu
          subst hiu
          exact HV2.out i (by omega) _ _ _ _ (HV2.out i (by omega) _ _ _ (fun _ => False) Hu.out (onlyA _ _) (fun _ e => e.elim)) ho34 hD
      have ho4 : Only (fun k => k = pb) w w4 := (HO3.out.alloc _).grown hgrow (fun q hq hlt => by have := (HRow3.out.lt q hq).1; omega)
      have HP4 := hide hp4
      have HO4 := hide ho4
      have HR4 := hide hown'
      clear hp4 ho4 hown' hgrow hnil ho34 hD
      go_wp2
      go_roundg (n - (k + 1))
      case measure => rw [HG.out]; omega
      case rel => exact ⟨k + 1, vs ++ [.iface t x], by omega, rfl, by simp; omega, HR4.out, HVs4.out, HP4.out, HO4.out⟩
    · obtain rfl : k = n := by omega
      have HPs := HPy _ hp
      clear hg hrow hvs hp ho
      go_wp2_with (go_at_call 106; refine (HPs.out).mono ?_; rintro en w2 ⟨rfl, hp2, ho2⟩; have HP2 := hide hp2; have HO2 := hide ho2; clear hp2 ho2)
      go_ret
      refine ⟨_, rfl, ⟨vs, hvl, base0 (row_keep HRow.out hnp HO2.out), hnp, fun i u hiu => HV.out i (by have := (List.getElem?_eq_some_iff.1 hiu).1; omega) _ _ _ (HVs.out i u hiu) HO2.out⟩, HP2.out, HO.out.trans HO2.out (fun _ _ e => e)⟩
end Go.Proofs.YtdbdbaepmdmnfaaGreatDoor
namespace Go.Proofs.YtdbdbaepmdmnfaaGreatDoor
open Go.RowKit
/-- A rule of kind kd, without conditions. -/
def RuleT (kd : Nat) (V : World → Value → Prop) : World → Value → Prop := fun w v => ∃ u, v = .agg #[.int .i64 kd, .slice none 0 0, u] ∧ V w u
def IsSl (V : World → Value → Prop) : Prop := ∀ w v, V w v → ∃ po n cap, v = .slice po n cap
theorem block_sl (pb n : Nat) (Vf : Nat → World → Value → Prop) : IsSl (BlockT pb n Vf) := fun _ _ ⟨_, _, h, _⟩ => by obtain ⟨po, cap, e⟩ := ownsRow_slice h; exact ⟨po, _, cap, e⟩
/-- What V tells stands while blocks of its call turn that hold no rows. -/
def Stab3 (V : World → Value → Prop) : Prop := ∀ w w' v (D : Nat → Prop), V w v → Only D w w' → (∀ k, D k → ∃ c t, w.heap[k]? = some (.cells c t (0, 0)) ∧ t ≠ 235 ∧ t ≠ 238) → V w' v
set_option maxRecDepth 20000 in
set_option maxHeartbeats 4000000 in
theorem rule_main (pb : Nat) (T : ByteArray) (ge : Bool) (s s1 : TS) (V : World → Value → Prop) (hS : IsSl V) (hV3 : Stab3 V) (hb : seen s [66, 69, 71, 73, 78] = false) (he : seen s [69, 78, 68] = false) (ho' : seen s [123] = true) (h1 : Reads 142 pb T ge s s1 V) (w : World) (h : PAt w pb T s ge) :
    Calls Tryz.prog 108 #[.pointer (some ⟨pb, 0, none⟩)] w fun en w' => ∃ v, en = .returned v ∧ RuleT 0 V w' v ∧ PAt w' pb T s1 ge ∧ Only (fun k => k = pb) w w' := by
  have hl := h.lt
  have hp0 := Reads.alloc_at h (.cells #[.int .i64 0, .slice none 0 0, .slice none 0 0] 102)
  have HPb := hide (passes_no pb T s ge ⟨#[66, 69, 71, 73, 78]⟩ hb _ hp0)
  have HPe := hide (passes_no pb T s ge ⟨#[69, 78, 68]⟩ he _ hp0)
  have HSe := hide (sees_at pb T s ge ⟨#[123]⟩ true ho' _ hp0)
  have H1 := hide (h1 _ hp0)
  have HS := hide hS
  have HV3 := hide hV3
  clear h hb he ho' h1 hp0 hS hV3
  go_enter Tryz.func108, Tryz.ntmps108
  go_wp2_with fail
  refine (HPb.out).mono ?_
  rintro en w1 ⟨rfl, hw1⟩
  subst hw1
  go_wp2_with fail
  refine (HPe.out).mono ?_
  rintro en w1 ⟨rfl, hw1⟩
  subst hw1
  go_wp2_with fail
  refine (HSe.out).mono ?_
  rintro en w1 ⟨rfl, hw1⟩
  subst hw1
  go_wp2_with fail
  refine (H1.out).mono ?_
  rintro en w2 ⟨u, rfl, hu, hp2, ho2⟩
  obtain ⟨po, n, cap, rfl⟩ := HS.out _ _ hu
  have hb2 := (ho2.block w.heap.size (by simp) (by intro e; omega)).trans (new0 w (.cells #[.int .i64 0, .slice none 0 0, .slice none 0 0] 102))
  have q0 : w2.cell? ⟨w.heap.size, 0, none⟩ = some (.int .i64 0) := cell_of hb2 rfl
  have q1 : w2.cell? ⟨w.heap.size, 1, none⟩ = some (.slice none 0 0) := cell_of hb2 rfl
  have q2 : w2.cell? ⟨w.heap.size, 2, none⟩ = some (.slice none 0 0) := cell_of hb2 rfl
  have qf := free_of hb2
  have Hu := hide hu
  have HP2 := hide hp2
  have HB2 := hide hb2
  have HO2 := hide (fromAlloc ho2)
  have hpn : pb ≠ w.heap.size := by omega
  clear hu hp2 ho2 hb2 HPb HPe HSe H1
  go_wp2
  refine bodyPost_ret (v := .agg #[.int .i64 0, .slice none 0 0, .slice po n cap]) (by simp [results, Tryz.results108, go_sem, q0, q1, q2]) rfl ⟨_, rfl, ⟨_, rfl, ?_⟩, ?_, ?_⟩
  · refine HV3.out _ _ _ (fun k => k = w.heap.size) Hu.out ((((Only.refl (fun k => k = w.heap.size) w2).setCell (p := ⟨w.heap.size, 0, none⟩) (fun _ => rfl) _).setCell (p := ⟨w.heap.size, 1, none⟩) (fun _ => rfl) _).setCell (p := ⟨w.heap.size, 2, none⟩) (fun _ => rfl) _) ?_
    rintro k rfl
    exact ⟨_, _, HB2.out, by decide, by decide⟩
  · show _ = _
    rw [Below.heap_setCell _ _ _ _ hpn, Below.heap_setCell _ _ _ _ hpn, Below.heap_setCell _ _ _ _ hpn]
    exact HP2.out
  · exact ((HO2.out.setCell (p := ⟨w.heap.size, 0, none⟩) (fun h => absurd h (Nat.lt_irrefl _)) _).setCell (p := ⟨w.heap.size, 1, none⟩) (fun h => absurd h (Nat.lt_irrefl _)) _).setCell (p := ⟨w.heap.size, 2, none⟩) (fun h => absurd h (Nat.lt_irrefl _)) _
theorem info198 : (Tryz.prog.info? 102).map (fun i => (i.zero, i.size, i.bytes)) = some (some (.agg #[.int .i64 0, .slice none 0 0, .slice none 0 0]), 3, 56) := by kernel_rfl
end Go.Proofs.YtdbdbaepmdmnfaaGreatDoor
namespace Go.Proofs.YtdbdbaepmdmnfaaGreatDoor
open Go.RowKit
theorem fromDrew {D : Nat → Prop} {w w' : World} (h : Only D w.drew w') : Only D w w' := ⟨h.os, h.tape, h.output, h.size, h.block⟩
/-- A program of one rule. -/
def ProgT (kd : Nat) (V : World → Value → Prop) : World → Value → Prop := fun w v => ∃ rs u, v = .agg #[.slice none 0 0, rs] ∧ w.ownsRow 0 102 3 rs 1 [.int .i64 kd, .slice none 0 0, u] ∧ V w u
set_option maxRecDepth 20000 in
set_option maxHeartbeats 8000000 in
theorem program_one (pb : Nat) (T : ByteArray) (s s1 : TS) (kd : Nat) (V : World → Value → Prop) (hS : IsSl V) (hV3 : Stab3 V) (hk : ¬ s.k = 1) (hf : seen s [102, 117, 110, 99, 116, 105, 111, 110] = false) (h1 : ∀ w, PAt w pb T s false → Calls Tryz.prog 108 #[.pointer (some ⟨pb, 0, none⟩)] w fun en w' => ∃ v, en = .returned v ∧ RuleT kd V w' v ∧ PAt w' pb T s1 false ∧ Only (fun k => k = pb) w w') (hk1 : s1.k = 1) (w : World) (h : PAt w pb T s false) :
    Calls Tryz.prog 74 #[.pointer (some ⟨pb, 0, none⟩)] w fun en w' => ∃ v, en = .returned v ∧ ProgT kd V w' v ∧ PAt w' pb T s1 false ∧ Only (fun k => k = pb) w w' := by
  obtain ⟨i0, hi0, hz0, hz1, hz2⟩ := info_parts info198
  have hl := h.lt
  have d1 : ((s.k : Int) != 1) = true := by simp [bne]; omega
  have hp0 := Reads.alloc_at (Reads.alloc_at h (.cells #[.slice none 0 0, .slice none 0 0] 60)) (.cells #[.slice none 0 0, .slice none 0 0] 60)
  have r3 : w.cell? ⟨pb, 3, none⟩ = some (.int .i64 s.k) := cell_of h rfl
  have HPf := hide (passes_no pb T s false ⟨#[102, 117, 110, 99, 116, 105, 111, 110]⟩ hf _ hp0)
  have H1 := hide (h1 ((w.alloc (.cells #[.slice none 0 0, .slice none 0 0] 60)).alloc (.cells #[.slice none 0 0, .slice none 0 0] 60)).drew hp0)
  have HS := hide hS
  have HV3 := hide hV3
  clear h hk hf h1 hS hV3
  go_enter Tryz.func74, Tryz.ntmps74
  go_wp2
  go_loopg [4] 1 (fun g _ wr => (g = 1 ∧ wr = (w.alloc (.cells #[.slice none 0 0, .slice none 0 0] 60)).alloc (.cells #[.slice none 0 0, .slice none 0 0] 60)) ∨ (g = 0 ∧ ∃ rs u, wr.heap[w.heap.size + 1]? = some (.cells #[.slice none 0 0, rs] 60 (0, 0)) ∧ wr.heap[w.heap.size]? = some (.cells #[.slice none 0 0, .slice none 0 0] 60 (0, 0)) ∧ wr.ownsRow 0 102 3 rs 1 [.int .i64 kd, .slice none 0 0, u] ∧ V wr u ∧ PAt wr pb T s1 false ∧ Only (fun k => k = pb) w wr))
  case atStart => exact Or.inl ⟨rfl, rfl⟩
  case round =>
    rcases hrel with ⟨hg, ew⟩ | ⟨hg, rs, u, hb3, hb4, hrow, hu, hp, ho⟩
    · subst ew
      subst hg
      go_wp2_with (go_at_call 106; refine (HPf.out).mono ?_; rintro en w1 ⟨rfl, hw1⟩; subst hw1)
      go_region_law
        (first
          | (rw [if_pos (by simp [Region.wanted])]; go_simp; go_at_call 108; refine (H1.out).mono ?_; rintro en w2 ⟨u, rfl, ⟨x, rfl, hx⟩, hp2, ho2⟩; obtain ⟨po, n, cap, rfl⟩ := HS.out _ _ hx; have hb2 := (ho2.block (w.heap.size + 1) (by simp) (by intro e; omega)).trans (new_at2 (W := w.alloc (.cells #[.slice none 0 0, .slice none 0 0] 60)) (by simp) (.cells #[.slice none 0 0, .slice none 0 0] 60)); have hb1 := (ho2.block w.heap.size (by simp; omega) (by intro e; omega)).trans ((Below.heap_alloc _ _ _ (by simp)).trans (new0 w (.cells #[.slice none 0 0, .slice none 0 0] 60))); have q1 : w2.cell? ⟨w.heap.size + 1, 1, none⟩ = some (.slice none 0 0) := cell_of hb2 rfl; have hz2' : w.heap.size + 2 ≤ w2.heap.size := (by have := ho2.size; simpa using this); have hz3 : w.heap.size + 1 < w2.heap.size := (by omega); have Hx := hide hx; have HP2 := hide hp2; have HO2 := hide ho2; have HB2 := hide hb2; have HB1 := hide hb1; clear hx hp2 ho2 hb2 hb1)
          | (refine step_append_lies _ (by rfl) _ _ _ (by rfl) 0 102 i0 _ 3 56 Tryz.underlying58 hi0 hz0 hz1 hz2 rfl (by omega) (.slice none 0 0) 0 [] (by rfl) (World.ownsRow_nil _ _ _ _) _ 1 1 [.int .i64 kd, .slice none 0 0, .slice po n cap] (by rfl) (by rfl) (World.news_of_block (cs := #[.int .i64 kd, .slice none 0 0, .slice po n cap]) (t := 102) (fr := (0, 0)) (new_at2 rfl _)) (by intro u hu; simp at hu; rcases hu with rfl | rfl | rfl <;> rfl) (by omega) (by unfold maxLen; omega) (by omega) (Nat.zero_le _) _ rfl ?_; intro gg cap2 w3 hown1 hgrow hat hlt; have hb3 := (hgrow.block (w.heap.size + 1) (by simp; omega) (fun e => by cases e)).trans ((Below.heap_alloc _ _ _ (by omega)).trans HB2.out); have t1 : w3.cell? ⟨w.heap.size + 1, 1, none⟩ = some (.slice none 0 0) := cell_of hb3 rfl; have tf := free_of hb3; have HB3 := hide hb3; clear hb3))
      all_goals
        have hne := own_tag hown1 HB3.out (by decide)
        have hB4 := hide ((hgrow.block w.heap.size (by simp; omega) (fun e => by cases e)).trans ((Below.heap_alloc _ _ _ (by omega)).trans HB1.out))
        have hp3 := hide ((hgrow.block pb (by simp; omega) (fun e => by cases e)).trans (Reads.alloc_at HP2.out _))
        have hog := hide ((Only.refl (fun _ => False) _).grown hgrow (fun q hq _ => by cases hq))
        have hO3 := hide ((fromAlloc (fromAlloc (fromDrew HO2.out))).alloc _ |>.grown hgrow (fun q hq _ => by cases hq))
        have hV4 := hide (HV3.out _ _ _ (fun _ => False) (HV3.out _ _ _ (fun _ => False) Hx.out (onlyA _ _) (fun _ e => e.elim)) hog.out (fun _ e => e.elim))
        have HOw := hide hown1
        clear hown1 hgrow hat hog
        go_wp2
        go_roundg 0
        case measure => omega
        case rel =>
          refine Or.inr ⟨rfl, .slice (some ⟨gg, 0, none⟩) 1 cap2, .slice po n cap, heap_setCell_same HB3.out _, ?_, ?_, ?_, ?_, ?_⟩
          · exact (Below.heap_setCell _ _ _ _ (by simp)).trans hB4.out
          · exact ownsRow_of HOw.out (fun k hk => Below.heap_setCell _ _ _ _ (fun e => hne (by rw [hk, e])))
          · refine HV3.out _ _ _ (fun k => k = w.heap.size + 1) hV4.out ((Only.refl (fun k => k = w.heap.size + 1) w3).setCell (p := ⟨w.heap.size + 1, 1, none⟩) (fun _ => rfl) _) ?_
            rintro k rfl
            exact ⟨_, _, HB3.out, by decide, by decide⟩
          · exact (Below.heap_setCell _ _ _ _ (by show pb ≠ w.heap.size + 1; omega)).trans hp3.out
          · exact hO3.out.setCell (p := ⟨w.heap.size + 1, 1, none⟩) (fun h => absurd h (by show ¬ (w.heap.size + 1 < w.heap.size); omega)) _
    · have r3' : wr.cell? ⟨pb, 3, none⟩ = some (.int .i64 1) := by have := cell_of hp (o := 3) rfl; rw [hk1] at this; exact this
      have c0 : wr.cell? ⟨w.heap.size + 1, 0, none⟩ = some (.slice none 0 0) := cell_of hb3 rfl
      have c1 : wr.cell? ⟨w.heap.size + 1, 1, none⟩ = some rs := cell_of hb3 rfl
      have g0 : wr.cell? ⟨w.heap.size, 0, none⟩ = some (.slice none 0 0) := cell_of hb4 rfl
      have g1 : wr.cell? ⟨w.heap.size, 1, none⟩ = some (.slice none 0 0) := cell_of hb4 rfl
      have gf := free_of hb4
      obtain ⟨pr, cr, rfl⟩ := ownsRow_slice hrow
      have HRow := hide hrow
      have Hu := hide hu
      have HP := hide hp
      have HO := hide ho
      have HB4 := hide hb4
      clear hrow hu hp ho hg hb3 hb4 HPf H1 hp0
      go_wp2
      have hpn : pb ≠ w.heap.size := by omega
      refine bodyPost_ret (v := .agg #[.slice none 0 0, .slice pr 1 cr]) (by simp [results, Tryz.results74, go_sem, g0, g1]) rfl ⟨_, rfl, ⟨.slice pr 1 cr, u, rfl, ?_, ?_⟩, ?_, ?_⟩
      · have hne := own_tag HRow.out HB4.out (by decide)
        exact ownsRow_of HRow.out (fun k hk => (Below.heap_setCell _ _ _ _ (fun e => hne (by rw [hk, e]))).trans (Below.heap_setCell _ _ _ _ (fun e => hne (by rw [hk, e]))))
      · refine HV3.out _ _ _ (fun k => k = w.heap.size) Hu.out (((Only.refl (fun k => k = w.heap.size) wr).setCell (p := ⟨w.heap.size, 0, none⟩) (fun _ => rfl) _).setCell (p := ⟨w.heap.size, 1, none⟩) (fun _ => rfl) _) ?_
        rintro k rfl
        exact ⟨_, _, HB4.out, by decide, by decide⟩
      · exact (Below.heap_setCell _ _ _ _ hpn).trans ((Below.heap_setCell _ _ _ _ hpn).trans HP.out)
      · exact (HO.out.setCell (p := ⟨w.heap.size, 0, none⟩) (fun h => absurd h (Nat.lt_irrefl _)) _).setCell (p := ⟨w.heap.size, 1, none⟩) (fun h => absurd h (Nat.lt_irrefl _)) _
end Go.Proofs.YtdbdbaepmdmnfaaGreatDoor
namespace Go.Proofs.YtdbdbaepmdmnfaaGreatDoor
open Go.RowKit
set_option maxHeartbeats 1000000 in
theorem catch_idle (a b c : Addr) (w : World) :
    CallsD Tryz.prog 71 #[.pointer (some a), .pointer (some b), .pointer (some c)] .returning w fun e u' w' => e = .returned (.tuple #[]) ∧ u' = .returning ∧ w' = w := by
  refine callsD_of_wpS Tryz.func71 rfl fun c₀ cs hu => ?_
  apply wpS_seq
  apply wpS_region
  simp [wpOpsS, go_sem, recoverD, hu, Tryz.ntmps71, Exit.thenS]
  refine wpS_of_wp ?_
  go_wp2
  cases c₀
  simp_all [bodyPostS, results, Tryz.results71]
theorem newReader (T : ByteArray) (w : World) : Calls Tryz.prog 72 #[.string T] w fun en w' => en = .returned (.agg #[.string T, .int .i64 0, .bool false]) ∧ Only (fun _ => False) w w' := by
  go_enter Tryz.func72, Tryz.ntmps72
  go_wp2
  exact bodyPost_ret (v := .agg #[.string T, .int .i64 0, .bool false]) (by simp [results, Tryz.results72, go_sem]) rfl ⟨rfl, onlyA _ _⟩
/-- Where a parser begins. -/
def ts0 : TS := ⟨0, false, 0, ⟨#[]⟩, 0⟩
theorem prog_only {kd : Nat} {V : World → Value → Prop} (hV3 : Stab3 V) {w w' : World} {v : Value} {D : Nat → Prop} (h : ProgT kd V w v) (ho : Only D w w') (hD : ∀ k, D k → ∃ c t, w.heap[k]? = some (.cells c t (0, 0)) ∧ t ≠ 235 ∧ t ≠ 238 ∧ t ≠ 102) : ProgT kd V w' v := by
  obtain ⟨rs, u, rfl, hr, hu⟩ := h
  refine ⟨rs, u, rfl, ownsRow_of hr (fun k hk => ho.block k (hr.lt k hk).2 (fun e => ?_)), hV3 _ _ _ D hu ho (fun k hk => ?_)⟩
  · obtain ⟨c, t, h1, _, _, h4⟩ := hD k e
    exact own_tag hr h1 (Ne.symm h4) hk
  · obtain ⟨c, t, h1, h2, h3, _⟩ := hD k hk
    exact ⟨c, t, h1, h2, h3⟩
set_option maxRecDepth 20000 in
set_option maxHeartbeats 4000000 in
theorem read_one (T : ByteArray) (kd : Nat) (V : Nat → World → Value → Prop) (hV3 : ∀ pb, Stab3 (V pb)) (s s1 : TS) (hn : ∀ pb, Nx pb T ts0 s) (hp : ∀ pb w, PAt w pb T s false → Calls Tryz.prog 74 #[.pointer (some ⟨pb, 0, none⟩)] w fun en w' => ∃ v, en = .returned v ∧ ProgT kd (V pb) w' v ∧ PAt w' pb T s1 false ∧ Only (fun k => k = pb) w w') (w : World) :
    Calls Tryz.prog 45 #[.string T] w fun en w' => ∃ pb v, en = .returned (.tuple #[v, .int .i64 0, .bool true]) ∧ ProgT kd (V pb) w' v ∧ Only (fun _ => False) w w' := by
  have hmf : ∀ (fn : Fn) (first cap : Array Value) (w : World), (Instr.makeFunc fn first cap).run Tryz.prog w = .ok (.func fn first cap) w := fun _ _ _ _ => rfl
  have HR := hide (newReader T (((w.alloc (.cells #[.slice none 0 0, .slice none 0 0] 60)).alloc (.cells #[.int .i64 0] 3)).alloc (.cells #[.bool false] 4)))
  have HN := hide hn
  have HPr := hide hp
  have HV3 := hide hV3
  clear hn hp hV3
  go_enter_defers Tryz.func45, Tryz.ntmps45
  go_wp2_with fail
  refine (HR.out).mono ?_
  rintro en w1 ⟨rfl, ho1⟩
  have hz1 : w.heap.size + 3 ≤ w1.heap.size := by have := ho1.size; simpa using this
  have HA : Hid (PAt (w1.alloc (.cells #[.string T, .int .i64 0, .bool false, .int .i64 0, .string ⟨#[]⟩, .int .i64 0, .bool false] 154)) w1.heap.size T ts0 false) := heap_alloc_new _ _
  have HO1 := hide ho1
  have HC := hide ((HN.out w1.heap.size).on HA.out)
  clear ho1 HR
  go_wp2_with fail
  refine (HC.out).mono ?_
  rintro en w2 ⟨rfl, hp2, ho2⟩
  have HP := hide (HPr.out _ _ hp2)
  have HO2 := hide ho2
  clear hp2 ho2 HC
  go_wp2_with fail
  refine (HP.out).mono ?_
  rintro en w3 ⟨v, rfl, hpt, hp3, ho3⟩
  have hz2 : w1.heap.size + 1 ≤ w2.heap.size := by have := HO2.out.size; simpa using this
  have hz3 := ho3.size
  have kb : ∀ k, k < w.heap.size + 3 → w3.heap[k]? = (((w.alloc (.cells #[.slice none 0 0, .slice none 0 0] 60)).alloc (.cells #[.int .i64 0] 3)).alloc (.cells #[.bool false] 4)).heap[k]? := fun k hk => by
    refine (ho3.block k (by omega) (by omega)).trans ((HO2.out.block k (by simp; omega) (by omega)).trans ((Below.heap_alloc _ _ _ (by omega)).trans (HO1.out.block k (by simp; omega) (fun e => e))))
  have hb0 : w3.heap[w.heap.size]? = some (.cells #[.slice none 0 0, .slice none 0 0] 60 (0, 0)) := (kb _ (by omega)).trans ((Below.heap_alloc _ _ _ (by simp <;> omega)).trans ((Below.heap_alloc _ _ _ (by simp <;> omega)).trans (new0 w _)))
  have hb1 : w3.heap[w.heap.size + 1]? = some (.cells #[.int .i64 0] 3 (0, 0)) := (kb _ (by omega)).trans ((Below.heap_alloc _ _ _ (by simp <;> omega)).trans (new_at2 (W := w.alloc _) (by simp <;> omega) _))
  have hb2 : w3.heap[w.heap.size + 1 + 1]? = some (.cells #[.bool false] 4 (0, 0)) := (kb _ (by omega)).trans (new_at2 (W := (w.alloc _).alloc _) (by simp <;> omega) _)
  obtain ⟨rs, u, rfl, hr, hu⟩ := hpt
  obtain ⟨pr, cr, rfl⟩ := ownsRow_slice hr
  have c0 : w3.cell? ⟨w.heap.size, 0, none⟩ = some (.slice none 0 0) := cell_of hb0 rfl
  have c1 : w3.cell? ⟨w.heap.size, 1, none⟩ = some (.slice none 0 0) := cell_of hb0 rfl
  have c2 : w3.cell? ⟨w.heap.size + 1, 0, none⟩ = some (.int .i64 0) := cell_of hb1 rfl
  have c3 : w3.cell? ⟨w.heap.size + 1 + 1, 0, none⟩ = some (.bool false) := cell_of hb2 rfl
  have f0 := free_of hb0
  have f1 := free_of hb1
  have f2 := free_of hb2
  have HPT := hide (show ProgT kd (V w1.heap.size) w3 (.agg #[.slice none 0 0, .slice pr 1 cr]) from ⟨_, u, rfl, hr, hu⟩)
  have HB := hide (show _ ∧ _ ∧ _ from ⟨hb0, hb1, hb2⟩)
  have HOa : Hid (Only (fun _ => False) w w3) := by
    refine ((fromAlloc (fromAlloc (fromAlloc HO1.out))).alloc _).trans (E := fun k => k = w1.heap.size) (HO2.out.trans ho3 (fun _ _ e => e)) (fun i hi e => ?_)
    omega
  clear hr hu hb0 hb1 hb2 kb hp3 ho3 HP HO2 HO1
  go_wp2
  refine leaves_cons (f := 71) (args := #[.pointer (some ⟨w.heap.size, 0, none⟩), .pointer (some ⟨w.heap.size + 1, 0, none⟩), .pointer (some ⟨w.heap.size + 1 + 1, 0, none⟩)]) (by simp) (by simp [go_sem]) ?_
  refine (catch_idle _ _ _ _).mono ?_
  rintro e u' w'' ⟨rfl, rfl, rfl⟩
  refine ⟨.tuple #[.agg #[.slice none 0 0, .slice pr 1 cr], .int .i64 0, .bool true], ?_, w1.heap.size, _, rfl, ?_, ?_⟩
  · simp [results, Tryz.results45, go_sem, c0, c1, c2, c3]
  · obtain ⟨hb0, hb1, hb2⟩ := HB.out
    refine prog_only (HV3.out _) (D := fun k => k = w.heap.size ∨ k = w.heap.size + 1 ∨ k = w.heap.size + 1 + 1) HPT.out (((((Only.refl _ w3).setCell (p := ⟨w.heap.size, 0, none⟩) (fun _ => Or.inl rfl) _).setCell (p := ⟨w.heap.size, 1, none⟩) (fun _ => Or.inl rfl) _).setCell (p := ⟨w.heap.size + 1, 0, none⟩) (fun _ => Or.inr (Or.inl rfl)) _).setCell (p := ⟨w.heap.size + 1 + 1, 0, none⟩) (fun _ => Or.inr (Or.inr rfl)) _) ?_
    rintro k (rfl | rfl | rfl)
    · exact ⟨_, _, hb0, by decide, by decide, by decide⟩
    · exact ⟨_, _, hb1, by decide, by decide, by decide⟩
    · exact ⟨_, _, hb2, by decide, by decide, by decide⟩
  · exact (((HOa.out.setCell (p := ⟨w.heap.size, 0, none⟩) (fun h => absurd h (Nat.lt_irrefl _)) _).setCell (p := ⟨w.heap.size, 1, none⟩) (fun h => absurd h (Nat.lt_irrefl _)) _).setCell (p := ⟨w.heap.size + 1, 0, none⟩) (fun h => absurd h (by show ¬ (w.heap.size + 1 < w.heap.size); omega)) _).setCell (p := ⟨w.heap.size + 1 + 1, 0, none⟩) (fun h => absurd h (by show ¬ (w.heap.size + 1 + 1 < w.heap.size); omega)) _
end Go.Proofs.YtdbdbaepmdmnfaaGreatDoor
