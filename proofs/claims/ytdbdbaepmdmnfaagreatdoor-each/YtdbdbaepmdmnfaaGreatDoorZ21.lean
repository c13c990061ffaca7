import Derived.Test.YtdbdbaepmdmnfaaGreatDoorZ20
import Derived.Test.YtdbdbaepmdmnfaaGreatDoorZ11
import Derived.Test.YtdbdbaepmdmnfaaGreatDoorZ06
import Derived.Test.YtdbdbaepmdmnfaaGreatDoorZ03
namespace Go.Proofs.YtdbdbaepmdmnfaaGreatDoor
open Go.RowKit
/-- A row of two trees, the second one told by what it is. -/
def Row2 (pb : Nat) (u1 : Value) (V2 : World → Value → Prop) : World → Value → Prop := fun w v => ∃ u2, V2 w u2 ∧ Row pb [u1, u2] w v
theorem row2_stab (pb : Nat) (u1 : Value) (V2 : World → Value → Prop) (h : Stab pb V2) : Stab pb (Row2 pb u1 V2) := fun w w' v ⟨u2, h1, h2⟩ ho => ⟨u2, h w w' u2 h1 ho, row_stab pb _ w w' v h2 ho⟩
theorem row2_stab2 (pb : Nat) (u1 : Value) (V2 : World → Value → Prop) (h : Stab2 V2) : Stab2 (Row2 pb u1 V2) := fun w w' v D ⟨u2, h1, h2⟩ ho hD => ⟨u2, h w w' u2 D h1 ho hD, row_stab2 pb _ w w' v D h2 ho hD⟩
theorem row2_stab3 (pb : Nat) (u1 : Value) (V2 : World → Value → Prop) (h : Stab3 V2) : Stab3 (Row2 pb u1 V2) := fun w w' v D ⟨u2, h1, h2⟩ ho hD => ⟨u2, h w w' u2 D h1 ho hD, row_stab3 pb _ w w' v D h2 ho hD⟩
theorem row2_sl (pb : Nat) (u1 : Value) (V2 : World → Value → Prop) : IsSl (Row2 pb u1 V2) := fun _ _ ⟨_, _, h⟩ => by obtain ⟨po, cap, e⟩ := row_one h; exact ⟨po, _, cap, e⟩
theorem elem_stab2 (pb : Nat) (x : ByteArray) (a : Nat) (vs : List Value) : Stab2 (ElemT pb x a vs) := fun w w' _ D ⟨r, e, h⟩ ho hD => ⟨r, e, row_stab2 pb vs w w' r D h ho hD⟩
theorem elem_stab3 (pb : Nat) (x : ByteArray) (a : Nat) (vs : List Value) : Stab3 (ElemT pb x a vs) := fun w w' _ D ⟨r, e, h⟩ ho hD => ⟨r, e, row_stab3 pb vs w w' r D h ho hD⟩
theorem elem_if (pb : Nat) (x : ByteArray) (a : Nat) (vs : List Value) : IsIf (ElemT pb x a vs) := fun _ _ ⟨_, e, _⟩ => ⟨_, _, e⟩
set_option maxRecDepth 20000 in
set_option maxHeartbeats 4000000 in
theorem list_twoV (pb : Nat) (T : ByteArray) (ge : Bool) (s0 s1 s2 s3 : TS) (t1 : TypeId) (u1 : Value) (V2 : World → Value → Prop) (hV2 : Stab pb V2) (hI2 : IsIf V2) (h1 : Reads 143 pb T ge s0 s1 (Is (.iface t1 u1))) (hc1 : seen s1 [44] = true) (hn : Nx pb T s1 s2) (h2 : Reads 143 pb T ge s2 s3 V2) (hc : seen s3 [44] = false) : Reads 424 pb T ge s0 s3 (Row2 pb (.iface t1 u1) V2) := by
  obtain ⟨i0, hi0, hz0, hz1, hz2⟩ := info_parts info366
  intro w h
  have H1 := hide (h1 w h)
  have H2 := hide h2
  have HV2 := hide hV2
  have HI2 := hide hI2
  have HPy : ∀ W, PAt W pb T s1 ge → Hid (Calls Tryz.prog 106 #[.pointer (some ⟨pb, 0, none⟩), .string ⟨#[44]⟩] W fun en w' => en = .returned (.bool true) ∧ PAt w' pb T s2 ge ∧ Only (fun k => k = pb) W w') := fun W hW => passes_yes pb T s1 s2 ge ⟨#[44]⟩ hc1 hn W hW
  have HPn : ∀ W, PAt W pb T s3 ge → Hid (Calls Tryz.prog 106 #[.pointer (some ⟨pb, 0, none⟩), .string ⟨#[44]⟩] W fun en w' => en = .returned (.bool false) ∧ w' = W) := fun W hW => passes_no pb T s3 ge ⟨#[44]⟩ hc W hW
  clear h h1 h2 hc hc1 hn hV2 hI2
  go_enter Tryz.func424, Tryz.ntmps424
  go_wp2_with fail
  refine (H1.out).mono ?_
  rintro en w1 ⟨v, rfl, hv, hp, ho⟩
  obtain rfl : v = .iface t1 u1 := hv
  have hl1 := hp.lt
  have HPs := HPy _ (Reads.alloc_at hp (.cells #[.iface t1 u1] 238))
  have HO : Hid (Only (fun k => k = pb) w w1) := ho
  clear hp ho H1 HPy
  go_wp2
  go_loopg [3] 1 (fun g s3' wr => (g = 1 ∧ s3' = .slice (some ⟨w1.heap.size, 0, none⟩) 1 1 ∧ wr = w1.alloc (.cells #[.iface t1 u1] 238)) ∨ (g = 0 ∧ Row2 pb (.iface t1 u1) V2 wr s3' ∧ PAt wr pb T s3 ge ∧ Only (fun k => k = pb) w wr))
  case atStart => exact Or.inl ⟨rfl, rfl, rfl⟩
  case round =>
    rcases hrel with ⟨hg, e3, ew⟩ | ⟨hg, hr, hp3, ho3⟩
    · subst e3
      subst ew
      subst hg
      go_wp2_with fail
      refine (HPs.out).mono ?_
      rintro en w2 ⟨rfl, hp2, ho2⟩
      have hz2' : w1.heap.size + 1 ≤ w2.heap.size := by have := ho2.size; simpa using this
      have hbk := (ho2.block w1.heap.size (by simp) (by omega)).trans (new0 w1 (.cells #[.iface t1 u1] 238))
      have HO2 : Hid (Only (fun k => k = pb) w w2) := (HO.out.alloc _).trans ho2 (fun _ _ e => e)
      have HE := hide (H2.out w2 hp2)
      have HBk := hide hbk
      clear hp2 ho2 hbk HPs
      go_wp2_with fail
      refine (HE.out).mono ?_
      rintro en w3 ⟨v, rfl, hv, hp3, ho3⟩
      obtain ⟨t2, u2, rfl⟩ := HI2.out _ _ hv
      have hz3 := ho3.size
      have hl3 := hp3.lt
      have HB3 := hide ((ho3.block w1.heap.size (by omega) (by omega)).trans HBk.out)
      have HO3 : Hid (Only (fun k => k = pb) w w3) := HO2.out.trans ho3 (fun _ _ e => e)
      have HP3 := hide hp3
      have Hv := hide hv
      clear hp3 ho3 HE HBk hv
      go_wp2_with (at_builtin; refine wpList_append_grows _ rfl (.tmp 9) (.tmp 12) 100 rfl 238 i0 .nilIface 1 16 Tryz.underlying100 hi0 hz0 hz1 hz2 rfl (by decide) (some ⟨w1.heap.size, 0, none⟩) 1 1 [.iface t1 u1] rfl (fun e => by cases e) rfl (fun b e => by cases e; exact World.news_of_block (cs := #[.iface t1 u1]) (t := 238) (fr := (0, 0)) ((Below.heap_alloc _ _ _ (heap_lt HB3.out)).trans HB3.out)) _ 1 1 [.iface t2 u2] rfl rfl (news_oneR _ _ _) (fun u hu => by simp at hu; subst hu; rfl) (by decide) (by unfold maxLen; omega) (by omega) ?_; intro v' w4 hown' hgrow)
      have hp4 : PAt w4 pb T s3 ge := (hgrow.block pb (by simp; omega) (fun e => by cases e)).trans (Reads.alloc_at HP3.out _)
      have ho34 : Only (fun k => k = pb) w3 w4 := ((Only.refl (fun k => k = pb) w3).alloc _).grown hgrow (fun k hk hlt => by cases hk)
      have ho4 : Only (fun k => k = pb) w w4 := HO3.out.trans ho34 (fun _ _ e => e)
      have hown2 := base0 hown'
      have hr4 : Row2 pb (.iface t1 u1) V2 w4 v' := ⟨_, HV2.out _ _ _ Hv.out ho34, hown2, own_tag hown2 hp4 (by decide)⟩
      have HP4 := hide hp4
      have HO4 := hide ho4
      have HR4 := hide hr4
      clear hp4 ho4 hr4 hown' hgrow hown2 ho34
      go_wp2
      go_roundg 0
      case measure => omega
      case rel => exact Or.inr ⟨rfl, HR4.out, HP4.out, HO4.out⟩
    · have HPs2 := HPn _ hp3
      have HR := hide hr
      have HP := hide hp3
      have HO3 := hide ho3
      clear hr hp3 ho3 hg
      go_wp2_with (go_at_call 106; refine (HPs2.out).mono ?_; rintro en w2 ⟨rfl, rfl⟩)
      go_ret
      exact ⟨_, rfl, HR.out, HP.out, HO3.out⟩
/-- A print with a list that V tells. -/
def PrintW (V : World → Value → Prop) : World → Value → Prop := fun w v => ∃ r, v = .iface 285 (.agg #[r, .nilIface]) ∧ V w r
theorem printW_stab {pb : Nat} {V : World → Value → Prop} (h : Stab pb V) : Stab pb (PrintW V) := fun w w' _ ⟨r, e, hr⟩ ho => ⟨r, e, h w w' r hr ho⟩
theorem printW_stab2 {V : World → Value → Prop} (h : Stab2 V) : Stab2 (PrintW V) := fun w w' _ D ⟨r, e, hr⟩ ho hD => ⟨r, e, h w w' r D hr ho hD⟩
theorem printW_stab3 {V : World → Value → Prop} (h : Stab3 V) : Stab3 (PrintW V) := fun w w' _ D ⟨r, e, hr⟩ ho hD => ⟨r, e, h w w' r D hr ho hD⟩
theorem printW_if {V : World → Value → Prop} : IsIf (PrintW V) := fun _ _ ⟨_, e, _⟩ => ⟨_, _, e⟩
set_option maxRecDepth 20000 in
set_option maxHeartbeats 4000000 in
theorem print_listV (pb : Nat) (T : ByteArray) (s s1 : TS) (V : World → Value → Prop) (hV3 : Stab3 V) (hSl : IsSl V) (h0 : seen s [59] = false) (h1 : seen s [125] = false) (h2 : seen s [62] = false) (hL : Reads 424 pb T true s s1 V) (hg : seen s1 [62] = false) : Reads 359 pb T false s s1 (PrintW V) := by
  intro w h
  have hl := h.lt
  have HE : Hid (∀ o, Calls Tryz.prog 423 #[.pointer (some ⟨pb, 0, none⟩)] (w.alloc o) fun en w' => en = .returned (.bool false) ∧ Only (fun _ => False) (w.alloc o) w') := hide (fun o => ends_no pb T s false h0 h1 _ (Reads.alloc_at h o))
  have HSe : Hid (∀ W, PAt W pb T s false → Calls Tryz.prog 137 #[.pointer (some ⟨pb, 0, none⟩), .string ⟨#[62]⟩] W fun en w' => en = .returned (.bool false) ∧ w' = W) := hide (fun W hW => sees_at pb T s false ⟨#[62]⟩ false h2 W hW)
  have HPn : Hid (∀ W, PAt W pb T s1 false → Calls Tryz.prog 106 #[.pointer (some ⟨pb, 0, none⟩), .string ⟨#[62]⟩] W fun en w' => en = .returned (.bool false) ∧ w' = W) := hide (fun W hW => passes_no pb T s1 false ⟨#[62]⟩ hg W hW)
  have HL := hide hL
  have HP := hide h
  have HV3 := hide hV3
  have HSl := hide hSl
  clear h h0 h1 h2 hg hL hV3 hSl
  go_enter Tryz.func359, Tryz.ntmps359
  go_wp2_with fail
  refine (HE.out _).mono ?_
  rintro en w1 ⟨rfl, ho⟩
  have hb := (ho.block w.heap.size (by simp) (fun e => e)).trans (new0 w (.cells #[.slice none 0 0, .nilIface] 285))
  have hp1 : PAt w1 pb T s false := (Reads.alloc_at HP.out _).only ho (fun e => e)
  have HS1 := hide (HSe.out w1 hp1)
  have hz1 := ho.size
  simp at hz1
  have pf := free_of hp1
  have p6 : w1.cell? ⟨pb, 6, none⟩ = some (.bool false) := cell_of hp1 rfl
  have HP1 := hide hp1
  have HB1 := hide hb
  have HO : Hid (Only (fun _ => False) w w1) := ((Only.refl _ w).alloc _).trans ho (fun _ _ e => e)
  clear ho hb hp1 HE HSe
  go_wp2_with (go_at_call 137; refine (HS1.out).mono ?_; rintro en w' ⟨rfl, h3⟩; subst w')
  refine (HL.out _ (HP1.out.setGe true)).mono ?_
  rintro en w2 ⟨r, rfl, hr, hp2, ho2⟩
  obtain ⟨po, nn, cap, rfl⟩ := HSl.out _ _ hr
  have hpn : w.heap.size ≠ pb := by omega
  have hb2 : w2.heap[w.heap.size]? = some (.cells #[.slice none 0 0, .nilIface] 285 (0, 0)) := (ho2.block w.heap.size (by simp; omega) (fun e => hpn e)).trans ((Below.heap_setCell _ _ _ _ hpn).trans HB1.out)
  have b0 : w2.cell? ⟨w.heap.size, 0, none⟩ = some (.slice none 0 0) := cell_of hb2 rfl
  have b1 : w2.cell? ⟨w.heap.size, 1, none⟩ = some .nilIface := cell_of hb2 rfl
  have bf := free_of hb2
  have q6 : w2.cell? ⟨pb, 6, none⟩ = some (.bool true) := cell_of hp2 rfl
  have qf := free_of hp2
  have HR := hide hr
  have HB2 := hide hb2
  have HP2 := hide hp2
  have HO2 := hide ho2
  clear hr hb2 hp2 ho2 HL
  go_wp2_with fail
  have hb3 : ((w2.setCell ⟨w.heap.size, 0, none⟩ (.slice po nn cap)).setCell ⟨pb, 6, none⟩ (.bool false)).heap[w.heap.size]? = some (.cells #[.slice po nn cap, .nilIface] 285 (0, 0)) := (Below.heap_setCell _ _ _ _ hpn).trans (heap_setCell_same HB2.out _)
  have hp3 : PAt ((w2.setCell ⟨w.heap.size, 0, none⟩ (.slice po nn cap)).setCell ⟨pb, 6, none⟩ (.bool false)) pb T s1 false := PAt.setGe (ge := true) ((Below.heap_setCell _ _ _ _ (Ne.symm hpn)).trans HP2.out) false
  have m0 : ((w2.setCell ⟨w.heap.size, 0, none⟩ (.slice po nn cap)).setCell ⟨pb, 6, none⟩ (.bool false)).cell? ⟨w.heap.size, 0, none⟩ = some (.slice po nn cap) := cell_of hb3 rfl
  have m1 : ((w2.setCell ⟨w.heap.size, 0, none⟩ (.slice po nn cap)).setCell ⟨pb, 6, none⟩ (.bool false)).cell? ⟨w.heap.size, 1, none⟩ = some .nilIface := cell_of hb3 rfl
  have hrow3 : V ((w2.setCell ⟨w.heap.size, 0, none⟩ (.slice po nn cap)).setCell ⟨pb, 6, none⟩ (.bool false)) (.slice po nn cap) := HV3.out w2 _ _ (fun k => k = w.heap.size ∨ k = pb) HR.out (((Only.refl _ w2).setCell (p := ⟨w.heap.size, 0, none⟩) (fun _ => Or.inl rfl) _).setCell (p := ⟨pb, 6, none⟩) (fun _ => Or.inr rfl) _) (fun k hk => by
    rcases hk with rfl | rfl
    · exact ⟨_, 285, HB2.out, by decide, by decide⟩
    · exact ⟨_, 154, HP2.out, by decide, by decide⟩)
  have hO3 : Only (fun k => k = pb) w ((w2.setCell ⟨w.heap.size, 0, none⟩ (.slice po nn cap)).setCell ⟨pb, 6, none⟩ (.bool false)) := ((((HO.out.mono (E := fun k => k = pb) (fun _ _ e => e.elim)).setCell (p := ⟨pb, 6, none⟩) (fun _ => rfl) (.bool true)).trans HO2.out (fun _ _ e => e)).setCell (p := ⟨w.heap.size, 0, none⟩) (fun h => absurd h (Nat.lt_irrefl _)) _).setCell (p := ⟨pb, 6, none⟩) (fun _ => rfl) _
  have HPf := hide (HPn.out _ hp3)
  have HP3 := hide hp3
  have HR3 := hide hrow3
  have HO3 := hide hO3
  clear hb3 hp3 hrow3 hO3 b0 b1 q6
  generalize ((w2.setCell ⟨w.heap.size, 0, none⟩ (.slice po nn cap)).setCell ⟨pb, 6, none⟩ (.bool false)) = w3 at *
  refine (HPf.out).mono ?_
  rintro en w' ⟨rfl, h3⟩
  subst w'
  go_wp2
  go_ret
  exact ⟨_, rfl, ⟨_, rfl, HR3.out⟩, HP3.out, HO3.out⟩
end Go.Proofs.YtdbdbaepmdmnfaaGreatDoor

namespace Go.Proofs.YtdbdbaepmdmnfaaGreatDoor
open Go.RowKit
/-- No sign of a sum or a product stands here. -/
def EndsS (s : TS) : Prop := (∀ t ∈ opA, seen s t = false) ∧ True
def opC : List (List UInt8) := [[60], [60, 61], [61, 61], [33, 61], [62, 61], [62]]
/-- No sign of a comparison stands here. -/
def EndsC (s : TS) : Prop := (∀ t ∈ opC, seen s t = false) ∧ True
set_option maxRecDepth 20000 in
set_option maxHeartbeats 4000000 in
theorem sum_rdS (pb : Nat) (T : ByteArray) (ge : Bool) (s s' : TS) (V : World → Value → Prop) (hV : Stab pb V) (he : EndsS s') (h1 : Reads 482 pb T ge s s' V) : Reads 458 pb T ge s s' V := by
  intro w h
  have hl := h.lt
  have HR : Hid (Calls Tryz.prog 252 #[.pointer (some ⟨pb, 0, none⟩), .func (.func 482) #[.pointer (some ⟨pb, 0, none⟩)] #[], .slice (some ⟨w.heap.size, 0, none⟩) 2 2] (w.alloc (.cells #[.string ⟨#[43]⟩, .string ⟨#[45]⟩] 9)) fun en w' => ∃ v, en = .returned v ∧ V w' v ∧ PAt w' pb T s' ge ∧ Only (fun k => k = pb) (w.alloc (.cells #[.string ⟨#[43]⟩, .string ⟨#[45]⟩] 9)) w') :=
    row_no 482 cf645 pb T ge s s' V hV h1 [⟨#[43]⟩, ⟨#[45]⟩] (by decide) (fun t ht => he.1 t.data.toList (by simp at ht; rcases ht with rfl | rfl <;> decide)) w.heap.size 2 _ (Reads.alloc_at h _) (by simp) (by omega) (strs_new w [⟨#[43]⟩, ⟨#[45]⟩])
  clear he hV h1 h
  go_enter Tryz.func458, Tryz.ntmps458
  go_wp2_with (go_at_call 252; refine (HR.out).mono ?_; rintro en w1 ⟨v, rfl, hv, hp, ho⟩; have Hv := hide hv; have HP := hide hp; have HO : Hid (Only (fun k => k = pb) w w1) := ((Only.refl _ w).alloc _).trans ho (fun _ _ e => e); clear hv hp ho)
  go_ret
  exact ⟨_, rfl, Hv.out, HP.out, HO.out⟩
set_option maxRecDepth 20000 in
set_option maxHeartbeats 4000000 in
theorem product_rdS (pb : Nat) (T : ByteArray) (ge : Bool) (s s' : TS) (V : World → Value → Prop) (hV : Stab pb V) (he : EndsS s') (h1 : Reads 492 pb T ge s s' V) : Reads 482 pb T ge s s' V := by
  intro w h
  have hl := h.lt
  have HR : Hid (Calls Tryz.prog 252 #[.pointer (some ⟨pb, 0, none⟩), .func (.func 492) #[.pointer (some ⟨pb, 0, none⟩)] #[], .slice (some ⟨w.heap.size, 0, none⟩) 3 3] (w.alloc (.cells #[.string ⟨#[42]⟩, .string ⟨#[47]⟩, .string ⟨#[37]⟩] 9)) fun en w' => ∃ v, en = .returned v ∧ V w' v ∧ PAt w' pb T s' ge ∧ Only (fun k => k = pb) (w.alloc (.cells #[.string ⟨#[42]⟩, .string ⟨#[47]⟩, .string ⟨#[37]⟩] 9)) w') :=
    row_no 492 cf650 pb T ge s s' V hV h1 [⟨#[42]⟩, ⟨#[47]⟩, ⟨#[37]⟩] (by decide) (fun t ht => he.1 t.data.toList (by simp at ht; rcases ht with rfl | rfl | rfl <;> decide)) w.heap.size 3 _ (Reads.alloc_at h _) (by simp) (by omega) (strs_new w [⟨#[42]⟩, ⟨#[47]⟩, ⟨#[37]⟩])
  clear he hV h1 h
  go_enter Tryz.func482, Tryz.ntmps482
  go_wp2_with (go_at_call 252; refine (HR.out).mono ?_; rintro en w1 ⟨v, rfl, hv, hp, ho⟩; have Hv := hide hv; have HP := hide hp; have HO : Hid (Only (fun k => k = pb) w w1) := ((Only.refl _ w).alloc _).trans ho (fun _ _ e => e); clear hv hp ho)
  go_ret
  exact ⟨_, rfl, Hv.out, HP.out, HO.out⟩
set_option maxRecDepth 20000 in
set_option maxHeartbeats 4000000 in
theorem compared_rdC (pb : Nat) (T : ByteArray) (ge : Bool) (s s' : TS) (V : World → Value → Prop) (hV : Stab pb V) (he : EndsC s') (h1 : Reads 425 pb T ge s s' V) : Reads 428 pb T ge s s' V := by
  intro w h
  have hl := h.lt
  have r6 : w.cell? ⟨pb, 6, none⟩ = some (.bool ge) := cell_of h rfl
  cases ge with
  | true =>
    have HR : Hid (Calls Tryz.prog 427 #[.pointer (some ⟨pb, 0, none⟩), .func (.func 425) #[.pointer (some ⟨pb, 0, none⟩)] #[], .slice (some ⟨w.heap.size, 0, none⟩) 5 5] (w.alloc (.cells #[.string ⟨#[60]⟩, .string ⟨#[60, 61]⟩, .string ⟨#[61, 61]⟩, .string ⟨#[33, 61]⟩, .string ⟨#[62, 61]⟩] 9)) fun en w' => ∃ v, en = .returned v ∧ V w' v ∧ PAt w' pb T s' true ∧ Only (fun k => k = pb) (w.alloc (.cells #[.string ⟨#[60]⟩, .string ⟨#[60, 61]⟩, .string ⟨#[61, 61]⟩, .string ⟨#[33, 61]⟩, .string ⟨#[62, 61]⟩] 9)) w') :=
      pair_no 425 cf603 pb T true s s' V hV h1 [⟨#[60]⟩, ⟨#[60, 61]⟩, ⟨#[61, 61]⟩, ⟨#[33, 61]⟩, ⟨#[62, 61]⟩] (by decide) (fun t ht => he.1 t.data.toList (by simp at ht; rcases ht with rfl | rfl | rfl | rfl | rfl <;> decide)) w.heap.size 5 _ (Reads.alloc_at h _) (by simp) (by omega) (strs_new w [⟨#[60]⟩, ⟨#[60, 61]⟩, ⟨#[61, 61]⟩, ⟨#[33, 61]⟩, ⟨#[62, 61]⟩])
    clear he hV h1 h
    go_enter Tryz.func428, Tryz.ntmps428
    go_wp2_with (go_at_call 427; refine (HR.out).mono ?_; rintro en w1 ⟨v, rfl, hv, hp, ho⟩; have Hv := hide hv; have HP := hide hp; have HO : Hid (Only (fun k => k = pb) w w1) := ((Only.refl _ w).alloc _).trans ho (fun _ _ e => e); clear hv hp ho)
    go_ret
    exact ⟨_, rfl, Hv.out, HP.out, HO.out⟩
  | false =>
    have HR : Hid (Calls Tryz.prog 427 #[.pointer (some ⟨pb, 0, none⟩), .func (.func 425) #[.pointer (some ⟨pb, 0, none⟩)] #[], .slice (some ⟨w.heap.size, 0, none⟩) 6 6] (w.alloc (.cells #[.string ⟨#[60]⟩, .string ⟨#[60, 61]⟩, .string ⟨#[61, 61]⟩, .string ⟨#[33, 61]⟩, .string ⟨#[62, 61]⟩, .string ⟨#[62]⟩] 9)) fun en w' => ∃ v, en = .returned v ∧ V w' v ∧ PAt w' pb T s' false ∧ Only (fun k => k = pb) (w.alloc (.cells #[.string ⟨#[60]⟩, .string ⟨#[60, 61]⟩, .string ⟨#[61, 61]⟩, .string ⟨#[33, 61]⟩, .string ⟨#[62, 61]⟩, .string ⟨#[62]⟩] 9)) w') :=
      pair_no 425 cf603 pb T false s s' V hV h1 [⟨#[60]⟩, ⟨#[60, 61]⟩, ⟨#[61, 61]⟩, ⟨#[33, 61]⟩, ⟨#[62, 61]⟩, ⟨#[62]⟩] (by decide) (fun t ht => he.1 t.data.toList (by simp at ht; rcases ht with rfl | rfl | rfl | rfl | rfl | rfl <;> decide)) w.heap.size 6 _ (Reads.alloc_at h _) (by simp) (by omega) (strs_new w [⟨#[60]⟩, ⟨#[60, 61]⟩, ⟨#[61, 61]⟩, ⟨#[33, 61]⟩, ⟨#[62, 61]⟩, ⟨#[62]⟩])
    clear he hV h1 h
    go_enter Tryz.func428, Tryz.ntmps428
    go_wp2_with (go_at_call 427; refine (HR.out).mono ?_; rintro en w1 ⟨v, rfl, hv, hp, ho⟩; have Hv := hide hv; have HP := hide hp; have HO : Hid (Only (fun k => k = pb) w w1) := ((Only.refl _ w).alloc _).trans ho (fun _ _ e => e); clear hv hp ho)
    go_ret
    exact ⟨_, rfl, Hv.out, HP.out, HO.out⟩
set_option maxRecDepth 20000 in
set_option maxHeartbeats 4000000 in
theorem joinsOn_name (pb : Nat) (T : ByteArray) (ge : Bool) (s : TS) (hk : s.k = 5) (w : World) (h : PAt w pb T s ge) :
    Calls Tryz.prog 459 #[.pointer (some ⟨pb, 0, none⟩)] w fun en w' => en = .returned (.bool true) ∧ w' = w := by
  have r3 : w.cell? ⟨pb, 3, none⟩ = some (.int .i64 5) := by have := cell_of (o := 3) h rfl; rw [this, hk]; rfl
  clear h
  go_enter Tryz.func459, Tryz.ntmps459
  go_wp2
  go_ret
  exact ⟨rfl, rfl⟩
/-- Two texts, one behind the other. -/
def joinT (l r : Value) : Value := .iface 319 (.agg #[l, r])
set_option maxRecDepth 20000 in
set_option maxHeartbeats 4000000 in
theorem joined_two (pb : Nat) (T : ByteArray) (ge : Bool) (s s1 s2 : TS) (t1 t2 : TypeId) (u1 u2 : Value) (h1 : Reads 458 pb T ge s s1 (Is (.iface t1 u1))) (hk : s1.k = 5) (h2 : Reads 458 pb T ge s1 s2 (Is (.iface t2 u2))) (he : EndsA s2) : Reads 425 pb T ge s s2 (Is (joinT (.iface t1 u1) (.iface t2 u2))) := by
  intro w h
  have HR := hide (h1 w h)
  have HE := hide he
  have HK := hide hk
  have H2 := hide h2
  clear he hk h1 h h2
  unfold joinT
  go_enter Tryz.func425, Tryz.ntmps425
  go_wp2_with fail
  refine (HR.out).mono ?_
  rintro en w1 ⟨v, rfl, hv, hp, ho⟩
  obtain rfl : v = .iface t1 u1 := hv
  have HJ := hide (joinsOn_name pb T ge s1 HK.out w1 hp)
  have HP := hide hp
  have HO := hide ho
  clear hp ho HR
  go_wp2
  go_loopg [3] 1 (fun g s3 wr => (g = 1 ∧ s3 = .iface t1 u1 ∧ wr = w1) ∨ (g = 0 ∧ s3 = .iface 319 (.agg #[.iface t1 u1, .iface t2 u2]) ∧ Hid (PAt wr pb T s2 ge ∧ Only (fun k => k = pb) w wr)))
  case atStart => exact Or.inl ⟨rfl, rfl, rfl⟩
  case round =>
    rcases hrel with ⟨rfl, rfl, rfl⟩ | ⟨rfl, rfl, HQ⟩
    · go_wp2_with fail
      refine (HJ.out).mono ?_
      rintro en w2 ⟨rfl, rfl⟩
      have HS := hide (H2.out _ HP.out)
      go_wp2_with fail
      refine (HS.out).mono ?_
      rintro en w3 ⟨v, rfl, hv, hp3, ho3⟩
      obtain rfl : v = .iface t2 u2 := hv
      have HR3 := hide (And.intro hp3 (HO.out.trans ho3 (fun _ _ e => e)))
      clear hp3 ho3 HS
      go_wp2
      go_roundg 0
      case measure => omega
      case rel => exact Or.inr ⟨rfl, rfl, HR3⟩
    · have hlw := HQ.out.1.lt
      have HJ2 := hide (joinsOn_noA pb T ge s2 HE.out _ HQ.out.1)
      go_wp2_with (go_at_call 459; refine (HJ2.out).mono ?_; rintro en w2 ⟨rfl, ho2⟩; have HO2 := hide ho2; clear ho2)
      go_ret
      exact ⟨_, rfl, rfl, HQ.out.1.only HO2.out (fun e => e), HQ.out.2.trans HO2.out (fun _ _ e => e.elim)⟩
set_option maxRecDepth 20000 in
set_option maxHeartbeats 4000000 in
theorem place_elem (pb : Nat) (x : ByteArray) (a : Nat) (vs : List Value) : IsPl (ElemT pb x a vs) true := by
  rintro w u ⟨r, rfl, hr⟩
  obtain ⟨po, cap, rfl⟩ := row_one hr
  clear hr
  have e1 : ∀ W, (Instr.typeAssert (.iface 306 (.agg #[.string x, .int .i64 a, .slice po vs.length cap])) 238 92 true).run Tryz.prog W = .ok (.tuple #[.agg #[.string ⟨#[]⟩, .int .i64 0], .bool false]) W := fun W => by kernel_rfl
  have e2 : ∀ W, (Instr.typeAssert (.iface 306 (.agg #[.string x, .int .i64 a, .slice po vs.length cap])) 238 306 true).run Tryz.prog W = .ok (.tuple #[.agg #[.string x, .int .i64 a, .slice po vs.length cap], .bool true]) W := fun W => by kernel_rfl
  have e3 : ∀ W, (Instr.typeAssert (.iface 306 (.agg #[.string x, .int .i64 a, .slice po vs.length cap])) 238 309 true).run Tryz.prog W = .ok (.tuple #[.agg #[.nilIface], .bool false]) W := fun W => by kernel_rfl
  go_enter Tryz.func183, Tryz.ntmps183
  go_wp2
  go_ret
  exact ⟨rfl, rfl⟩
set_option maxRecDepth 20000 in
set_option maxHeartbeats 4000000 in
theorem place_in (k : Value) (x : ByteArray) (a : Nat) : IsPl (Is (inT k x a)) false := by
  intro w u hu
  obtain rfl := hu
  unfold inT
  have e1 : ∀ W, (Instr.typeAssert (.iface 321 (.agg #[k, .string x, .int .i64 a])) 238 92 true).run Tryz.prog W = .ok (.tuple #[.agg #[.string ⟨#[]⟩, .int .i64 0], .bool false]) W := fun W => by kernel_rfl
  have e2 : ∀ W, (Instr.typeAssert (.iface 321 (.agg #[k, .string x, .int .i64 a])) 238 306 true).run Tryz.prog W = .ok (.tuple #[.agg #[.string ⟨#[]⟩, .int .i64 0, .slice none 0 0], .bool false]) W := fun W => by kernel_rfl
  have e3 : ∀ W, (Instr.typeAssert (.iface 321 (.agg #[k, .string x, .int .i64 a])) 238 309 true).run Tryz.prog W = .ok (.tuple #[.agg #[.nilIface], .bool false]) W := fun W => by kernel_rfl
  go_enter Tryz.func183, Tryz.ntmps183
  go_wp2
  go_ret
  exact ⟨rfl, rfl⟩
set_option maxRecDepth 20000 in
set_option maxHeartbeats 4000000 in
theorem place_join (l r : Value) : IsPl (Is (joinT l r)) false := by
  intro w u hu
  obtain rfl := hu
  unfold joinT
  have e1 : ∀ W, (Instr.typeAssert (.iface 319 (.agg #[l, r])) 238 92 true).run Tryz.prog W = .ok (.tuple #[.agg #[.string ⟨#[]⟩, .int .i64 0], .bool false]) W := fun W => by kernel_rfl
  have e2 : ∀ W, (Instr.typeAssert (.iface 319 (.agg #[l, r])) 238 306 true).run Tryz.prog W = .ok (.tuple #[.agg #[.string ⟨#[]⟩, .int .i64 0, .slice none 0 0], .bool false]) W := fun W => by kernel_rfl
  have e3 : ∀ W, (Instr.typeAssert (.iface 319 (.agg #[l, r])) 238 309 true).run Tryz.prog W = .ok (.tuple #[.agg #[.nilIface], .bool false]) W := fun W => by kernel_rfl
  go_enter Tryz.func183, Tryz.ntmps183
  go_wp2
  go_ret
  exact ⟨rfl, rfl⟩
end Go.Proofs.YtdbdbaepmdmnfaaGreatDoor

namespace Go.Proofs.YtdbdbaepmdmnfaaGreatDoor
open Go.RowKit
/-- What is stored, its place and its right side told by what they are. -/
def StoreW (V1 : World → Value → Prop) (x : ByteArray) (V2 : World → Value → Prop) : World → Value → Prop := fun w v => ∃ l r, v = storeT l x r ∧ V1 w l ∧ V2 w r
theorem storeW_stab {pb : Nat} {V1 V2 : World → Value → Prop} {x : ByteArray} (h1 : Stab pb V1) (h2 : Stab pb V2) : Stab pb (StoreW V1 x V2) := fun w w' _ ⟨l, r, e, hl, hr⟩ ho => ⟨l, r, e, h1 w w' l hl ho, h2 w w' r hr ho⟩
theorem storeW_stab2 {V1 V2 : World → Value → Prop} {x : ByteArray} (h1 : Stab2 V1) (h2 : Stab2 V2) : Stab2 (StoreW V1 x V2) := fun w w' _ D ⟨l, r, e, hl, hr⟩ ho hD => ⟨l, r, e, h1 w w' l D hl ho hD, h2 w w' r D hr ho hD⟩
theorem storeW_stab3 {V1 V2 : World → Value → Prop} {x : ByteArray} (h1 : Stab3 V1) (h2 : Stab3 V2) : Stab3 (StoreW V1 x V2) := fun w w' _ D ⟨l, r, e, hl, hr⟩ ho hD => ⟨l, r, e, h1 w w' l D hl ho hD, h2 w w' r D hr ho hD⟩
theorem storeW_if {V1 V2 : World → Value → Prop} {x : ByteArray} : IsIf (StoreW V1 x V2) := fun _ _ ⟨_, _, e, _⟩ => ⟨_, _, e⟩
set_option maxRecDepth 20000 in
set_option maxHeartbeats 4000000 in
theorem expr_storeV (pb : Nat) (T : ByteArray) (ge : Bool) (s s1 s2 s3 : TS) (V1 V2 : World → Value → Prop) (hS1 : Stab pb V1) (hI1 : IsIf V1) (hI2 : IsIf V2) (hI : IsPl V1 true) (hq : seen s1 [63] = false) (m : Nat) (hm : m < 6) (hno : ∀ i t, i < m → [⟨#[61]⟩, ⟨#[43, 61]⟩, ⟨#[45, 61]⟩, ⟨#[42, 61]⟩, ⟨#[47, 61]⟩, (⟨#[37, 61]⟩ : ByteArray)][i]? = some t → seen s1 t.data.toList = false) (hyes : ∀ t, [⟨#[61]⟩, ⟨#[43, 61]⟩, ⟨#[45, 61]⟩, ⟨#[42, 61]⟩, ⟨#[47, 61]⟩, (⟨#[37, 61]⟩ : ByteArray)][m]? = some t → seen s1 t.data.toList = true) (h1 : Reads 182 pb T ge s s1 V1) (hn : Nx pb T s1 s2) (h2 : Reads 143 pb T ge s2 s3 V2) : Reads 143 pb T ge s s3 (StoreW V1 s1.x V2) := by
  intro w h
  have HR := hide (h1 w h)
  have HI := hide hI
  have H2 := hide h2
  have HX := hide hn
  have HNo := hide hno
  have HYes := hide hyes
  have HQ := hide hq
  have HI1 := hide hI1
  have HI2 := hide hI2
  have HS1 := hide hS1
  have e1 := fld188
  clear h1 h hI h2 hn hno hyes hq hI1 hI2 hS1
  go_enter Tryz.func143, Tryz.ntmps143
  go_wp2_with fail
  refine (HR.out).mono ?_
  rintro en w1 ⟨v, rfl, hv, hp, ho⟩
  obtain ⟨t1, u1, rfl⟩ := HI1.out _ _ hv
  have hl1 := hp.lt
  have HPs := hide (passes_no pb T s1 ge ⟨#[63]⟩ HQ.out w1 hp)
  have HIs := hide (HI.out w1 _ hv)
  have HS := hide (oneOf_yes pb T s1 ge w1.heap.size 6 [⟨#[61]⟩, ⟨#[43, 61]⟩, ⟨#[45, 61]⟩, ⟨#[42, 61]⟩, ⟨#[47, 61]⟩, ⟨#[37, 61]⟩] (by decide) m hm HNo.out HYes.out _ (Reads.alloc_at hp _) (strs_new w1 [⟨#[61]⟩, ⟨#[43, 61]⟩, ⟨#[45, 61]⟩, ⟨#[42, 61]⟩, ⟨#[47, 61]⟩, ⟨#[37, 61]⟩]))
  have HT := hide (take_yes pb T s1 s2 ge HX.out _ (Reads.alloc_at hp (.cells #[.string ⟨#[61]⟩, .string ⟨#[43, 61]⟩, .string ⟨#[45, 61]⟩, .string ⟨#[42, 61]⟩, .string ⟨#[47, 61]⟩, .string ⟨#[37, 61]⟩] 9)))
  have HO := hide ho
  have Hv := hide hv
  clear hp ho hv HR HI
  go_wp2_with (first | (go_at_call 106; refine (HPs.out).mono ?_; rintro en w2 ⟨rfl, h2⟩; subst w2) | (go_at_call 183; refine (HIs.out).mono ?_; rintro en w2 ⟨rfl, h2⟩; subst w2) | (go_at_call 184; refine (HS.out).mono ?_; rintro en w2 ⟨rfl, h2⟩; subst w2) | (go_at_call 139; refine (HT.out).mono ?_; rintro en w3 ⟨rfl, hp, ho⟩; have HP3 := hide hp; have HO13 : Hid (Only (fun k => k = pb) w1 w3) := hide (((Only.refl _ w1).alloc _).trans ho (fun _ _ e => e)); have HO3 : Hid (Only (fun k => k = pb) w w3) := hide (HO.out.trans HO13.out (fun _ _ e => e)); clear hp ho) | (go_at_call 143; refine (H2.out _ HP3.out).mono ?_; rintro en w4 ⟨v, rfl, hv2, hp, ho⟩; obtain ⟨t2, u2, rfl⟩ := HI2.out _ _ hv2; have Hv2 := hide hv2; have HP4 := hide hp; have HO14 : Hid (Only (fun k => k = pb) w1 w4) := hide (HO13.out.trans ho (fun _ _ e => e)); have HO4 : Hid (Only (fun k => k = pb) w w4) := hide (HO3.out.trans ho (fun _ _ e => e)); clear hp ho hv2))
  go_ret
  exact ⟨_, rfl, ⟨_, _, rfl, HS1.out _ _ _ Hv.out HO14.out, Hv2.out⟩, HP4.out, HO4.out⟩
set_option maxRecDepth 20000 in
set_option maxHeartbeats 4000000 in
/-- A body that is a block. -/
theorem body_block (pb : Nat) (T : ByteArray) (ge : Bool) (s s1 : TS) (V : World → Value → Prop) (hs : seen s [123] = true) (h1 : ReadsN 142 pb T ge s s1 V) : ReadsN 249 pb T ge s s1 V := by
  intro w h
  have HS := hide (sees_at pb T s ge ⟨#[123]⟩ true hs w h)
  have HR := hide (h1 w h)
  clear hs h1 h
  go_enter Tryz.func249, Tryz.ntmps249
  go_wp2_with fail
  refine (HS.out).mono ?_
  rintro en w2 ⟨rfl, h2⟩
  subst w2
  go_wp2_with fail
  refine (HR.out).mono ?_
  rintro en w1 ⟨v, rfl, hv, hfr, hp, ho⟩
  have Hv := hide hv
  have HFr := hide hfr
  have HP := hide hp
  have HO := hide ho
  clear hv hp ho hfr
  go_wp2
  go_ret
  exact ⟨_, rfl, Hv.out, HFr.out, HP.out, HO.out⟩
/-- A for over the keys of an array. -/
def ForInT (kx : ByteArray) (ka : Nat) (x : ByteArray) (a : Nat) (V : World → Value → Prop) : World → Value → Prop := fun w v => ∃ b, v = .iface 298 (.agg #[.string kx, .int .i64 ka, .string x, .int .i64 a, b]) ∧ V w b
/-- The row of statements of such a for's body. -/
def inRow (u : Value) (q : Nat) : Prop := ∃ k ka x a b, u = .iface 298 (.agg #[k, ka, x, a, b]) ∧ b.ownBlock = some q
set_option maxRecDepth 20000 in
set_option maxHeartbeats 8000000 in
theorem counting_in (pb : Nat) (T : ByteArray) (ge : Bool) (s s1 s2 s7 s8 : TS) (x : ByteArray) (a : Nat) (V : World → Value → Prop) (hSl : IsSl V)
    (hs : seen s [40] = true) (hn0 : Nx pb T s s1) (ha1 : seen s1 [59] = false) (h1 : Reads 143 pb T ge s1 s2 (Is (inT (nameV s1.x s1.xa) x a))) (hs2 : seen s2 [41] = true) (hn2 : Nx pb T s2 s7) (h7 : ReadsN 249 pb T ge s7 s8 V) :
    ReadsX inRow 250 pb T ge s s8 (ForInT s1.x s1.xa x a V) := by
  intro w h
  have hl := h.lt
  have HN0 := hide (need_yes pb T s s1 ge ⟨#[40]⟩ hs hn0 w h)
  have HA1 := hide (ahead_rd pb T ge s1 s2 _ ⟨#[59]⟩ ha1 h1)
  have HPy := hide (fun W (hW : PAt W pb T s2 ge) => passes_yes pb T s2 s7 ge ⟨#[41]⟩ hs2 hn2 W hW)
  have HB7 := hide h7
  have HSl := hide hSl
  clear hs hn0 ha1 h1 hs2 hn2 h7 h hSl
  go_enter Tryz.func250, Tryz.ntmps250
  go_wp2_with fail
  refine (HN0.out).mono ?_
  rintro en w1 ⟨rfl, hp, ho⟩
  have k3 : w1.cell? ⟨pb, 3, none⟩ = some (.int .i64 s1.k) := cell_of hp rfl
  have k4 : w1.cell? ⟨pb, 4, none⟩ = some (.string s1.x) := cell_of hp rfl
  have k5 : w1.cell? ⟨pb, 5, none⟩ = some (.int .i64 s1.xa) := cell_of hp rfl
  have hl1 := hp.lt
  have HP1 := hide hp
  have HO1 := hide ho
  clear hp ho HN0
  go_wp2_with fail
  refine (HA1.out _ (Reads.alloc_at HP1.out _)).mono ?_
  rintro en w2 ⟨v, rfl, hv, hp, ho⟩
  obtain rfl : v = inT (nameV s1.x s1.xa) x a := hv
  have hb := (ho.block w1.heap.size (by simp) (by omega)).trans (new0 w1 _)
  have b0 : w2.cell? ⟨w1.heap.size, 0, none⟩ = some (.int .i64 s1.k) := cell_of hb rfl
  have b1 : w2.cell? ⟨w1.heap.size, 1, none⟩ = some (.string s1.x) := cell_of hb rfl
  have b2 : w2.cell? ⟨w1.heap.size, 2, none⟩ = some (.int .i64 s1.xa) := cell_of hb rfl
  have hl2 := hp.lt
  have HP2 := hide hp
  have HO2 : Hid (Only (fun k => k = pb) w w2) := hide ((HO1.out.alloc _).trans ho (fun _ _ e => e))
  clear hp ho hb k3 k4 k5 HP1 HO1 HA1 hl1
  go_wp2_with fail
  refine (keyAnd_yes _ _ _ _ _ _ _).mono ?_
  rintro en w3 ⟨rfl, ho⟩
  have HP3 := hide (PAt.only HP2.out ho (fun e => e))
  have HO3 : Hid (Only (fun k => k = pb) w w3) := hide (HO2.out.trans ho (fun _ _ e => e.elim))
  clear ho b0 b1 b2 HP2 HO2 hl2
  go_wp2_with fail
  refine (HPy.out _ (Reads.alloc_at (Reads.alloc_at HP3.out _) _)).mono ?_
  rintro en w4 ⟨rfl, hp, ho⟩
  have hz4 := ho.size
  have hz3 := HP3.out.lt
  have hbk := (ho.block w3.heap.size (by simp <;> omega) (by omega)).trans ((Below.heap_alloc _ _ _ (by simp)).trans (new0 w3 (.cells #[.string s1.x, .int .i64 s1.xa] 92)))
  have hba := (ho.block (w3.heap.size + 1) (by simp <;> omega) (by omega)).trans (new_at2 (W := w3.alloc (.cells #[.string s1.x, .int .i64 s1.xa] 92)) (by simp) (.cells #[.string x, .int .i64 a] 92))
  have hbk0 := hbk
  have hba0 := hba
  have c0 : w4.cell? ⟨w3.heap.size, 0, none⟩ = some (.string s1.x) := cell_of hbk rfl
  have c1 : w4.cell? ⟨w3.heap.size, 1, none⟩ = some (.int .i64 s1.xa) := cell_of hbk rfl
  have d0 : w4.cell? ⟨w3.heap.size + 1, 0, none⟩ = some (.string x) := cell_of hba rfl
  have d1 : w4.cell? ⟨w3.heap.size + 1, 1, none⟩ = some (.int .i64 a) := cell_of hba rfl
  have HP4 := hide hp
  have HO4 : Hid (Only (fun k => k = pb) w w4) := hide (((HO3.out.alloc _).alloc _).trans ho (fun _ _ e => e))
  clear hp ho HP3 HO3 hbk hba
  have bl := heap_lt hbk0
  have al := heap_lt hba0
  have c0d : w4.drew.cell? ⟨w3.heap.size, 0, none⟩ = some (.string s1.x) := c0
  have c1d : w4.drew.cell? ⟨w3.heap.size, 1, none⟩ = some (.int .i64 s1.xa) := c1
  have d0d : w4.drew.cell? ⟨w3.heap.size + 1, 0, none⟩ = some (.string x) := d0
  have d1d : w4.drew.cell? ⟨w3.heap.size + 1, 1, none⟩ = some (.int .i64 a) := d1
  have HB4 := hide (HB7.out w4.drew HP4.out)
  have hz04 := HO4.out.size
  go_wp2_with fail
  go_region_held3 (fun W => W.cell? ⟨w3.heap.size, 0, none⟩ = some (.string s1.x) ∧ W.cell? ⟨w3.heap.size, 1, none⟩ = some (.int .i64 s1.xa) ∧ W.cell? ⟨w3.heap.size + 1, 0, none⟩ = some (.string x) ∧ W.cell? ⟨w3.heap.size + 1, 1, none⟩ = some (.int .i64 a)) (first | (refine ⟨?_, ?_, ?_, ?_⟩ <;> (with_reducible assumption)))
    (first | (go_at_call 249; refine (HB4.out).mono ?_; rintro en w9 ⟨v, rfl, hv, hfr, hp9, ho9⟩; obtain ⟨po, nn, cap, rfl⟩ := HSl.out _ _ hv; have u0 := (ho9.cell (p := ⟨w3.heap.size, 0, none⟩) bl (by show ¬ w3.heap.size = pb; omega)).trans c0d; have u1 := (ho9.cell (p := ⟨w3.heap.size, 1, none⟩) bl (by show ¬ w3.heap.size = pb; omega)).trans c1d; have u2 := (ho9.cell (p := ⟨w3.heap.size + 1, 0, none⟩) al (by show ¬ w3.heap.size + 1 = pb; omega)).trans d0d; have u3 := (ho9.cell (p := ⟨w3.heap.size + 1, 1, none⟩) al (by show ¬ w3.heap.size + 1 = pb; omega)).trans d1d; have Hv := hide hv; have HFr := hide hfr; have HP9 := hide hp9; have HO9 := hide (HO4.out.trans (fromDrew ho9) (fun _ _ e => e)); clear hv hp9 ho9 hfr))
  all_goals
    go_wp2
    go_ret
    refine ⟨_, rfl, ⟨_, rfl, Hv.out⟩, ?_, HP9.out, HO9.out⟩
    rintro q ⟨k, ka, x', a', b, e, hq⟩
    cases e
    have := HFr.out q hq
    exact ⟨Nat.le_trans hz04 this.1, this.2⟩
end Go.Proofs.YtdbdbaepmdmnfaaGreatDoor

namespace Go.Proofs.YtdbdbaepmdmnfaaGreatDoor
open Go.RowKit
set_option maxRecDepth 20000 in
set_option maxHeartbeats 4000000 in
/-- A statement that is a for. -/
theorem stmt_forX (R : Value → Nat → Prop) (pb : Nat) (T : ByteArray) (ge : Bool) (s s0 s1 : TS) (V : World → Value → Prop) (h0 : seen s [123] = false) (ha : seen s [59] = false) (hb : seen s [105, 102] = false) (hc : seen s [119, 104, 105, 108, 101] = false) (hd : seen s [102, 111, 114] = true) (hn : Nx pb T s s0) (h1 : ReadsX R 250 pb T ge s0 s1 V) : ReadsX R 181 pb T ge s s1 V := by
  intro w h
  have H0 := hide (sees_at pb T s ge ⟨#[123]⟩ false h0 w h)
  have HPa := hide (passes_no pb T s ge ⟨#[59]⟩ ha w h)
  have HPb := hide (passes_no pb T s ge ⟨#[105, 102]⟩ hb w h)
  have HPc := hide (passes_no pb T s ge ⟨#[119, 104, 105, 108, 101]⟩ hc w h)
  have HPd := hide (passes_yes pb T s s0 ge ⟨#[102, 111, 114]⟩ hd hn w h)
  have H1 := hide h1
  clear h h0 ha hb hc hd hn h1
  go_enter Tryz.func181, Tryz.ntmps181
  go_wp2_with fail
  refine (H0.out).mono ?_
  rintro en w1 ⟨rfl, rfl⟩
  go_wp2_with fail
  refine (HPa.out).mono ?_
  rintro en w1 ⟨rfl, rfl⟩
  go_wp2_with fail
  refine (HPb.out).mono ?_
  rintro en w1 ⟨rfl, rfl⟩
  go_wp2_with fail
  refine (HPc.out).mono ?_
  rintro en w1 ⟨rfl, rfl⟩
  go_wp2_with fail
  refine (HPd.out).mono ?_
  rintro en w2 ⟨rfl, hp2, ho2⟩
  have HP2 := hide hp2
  have HO2 := hide ho2
  have hz2 := ho2.size
  clear hp2 ho2
  go_wp2_with fail
  refine (H1.out _ HP2.out).mono ?_
  rintro en w3 ⟨v, rfl, hv, hfr, hp3, ho3⟩
  have Hv := hide hv
  have HFr := hide hfr
  have HP3 := hide hp3
  have HO3 := hide (HO2.out.trans ho3 (fun _ _ e => e))
  clear hv hp3 ho3 H1 H0 HPa HPb HPc hfr
  go_wp2
  go_ret
  exact ⟨_, rfl, Hv.out, fun q hq => by have := HFr.out q hq; omega, HP3.out, HO3.out⟩
theorem forInT_stab {pb : Nat} {kx x : ByteArray} {ka a : Nat} {V : World → Value → Prop} (h : Stab pb V) : Stab pb (ForInT kx ka x a V) := fun w w' _ ⟨b, e, hb⟩ ho => ⟨b, e, h w w' b hb ho⟩
theorem forInT_if {kx x : ByteArray} {ka a : Nat} {V : World → Value → Prop} : IsIf (ForInT kx ka x a V) := fun _ _ ⟨_, e, _⟩ => ⟨_, _, e⟩
theorem forInT_stab3 {kx x : ByteArray} {ka a : Nat} {V : World → Value → Prop} (h : Stab3 V) : Stab3 (ForInT kx ka x a V) := fun w w' _ D ⟨b, e, hb⟩ ho hD => ⟨b, e, h w w' b D hb ho hD⟩
theorem forInT_stab2 {pb n : Nat} {kx x : ByteArray} {ka a : Nat} {Vf : Nat → World → Value → Prop} (h : ∀ i, i < n → Stab2 (Vf i)) : Stab2X inRow (ForInT kx ka x a (BlockT pb n Vf)) := by
  rintro w w' v D ⟨b, rfl, vs, h1, h2, h3, h4⟩ ho hD
  refine ⟨b, rfl, vs, h1, ownsRow_of h2 (fun k hk => ho.block k (h2.lt k hk).2 (fun e => (hD k e).2 ⟨_, _, _, _, b, rfl, hk⟩)), h3, fun i u hu => ?_⟩
  have hi : i < n := by have := (List.getElem?_eq_some_iff.1 hu).1; omega
  exact h i hi w w' u D (h4 i u hu) ho (fun k hk => (hD k hk).1)
/-- A value that is no such for has no such row. -/
theorem not_inRow {t : TypeId} {x : Value} (ht : t ≠ 298) (q : Nat) : ¬ inRow (.iface t x) q := by
  rintro ⟨k, ka, y, a, b, e, _⟩
  cases e
  exact ht rfl
end Go.Proofs.YtdbdbaepmdmnfaaGreatDoor

namespace Go.Proofs.YtdbdbaepmdmnfaaGreatDoor
open Go.RowKit
set_option maxRecDepth 10000 in
set_option maxHeartbeats 4000000 in
/-- The sign at a place: two bytes. -/
theorem sign_two (b : Nat) (T : ByteArray) (i : Nat) (dv : Bool) (hi : i + 2 ≤ T.size) (h5 : T.size ≤ 65000) (hd : dblB (T.extract i (i + 2)).data.toList = true) (w : World) (h : TkAt w b T i dv) :
    Calls Tryz.prog 179 #[.pointer (some ⟨b, 0, none⟩)] w fun en w' => en = .returned (.tuple #[tokV 9 (T.extract i (i + 2)) i, .int .i64 ((i + 2 : Nat) : Int)]) ∧ Only (fun _ => False) w w' := by
  have hl := h.lt
  have HT := hide h
  obtain ⟨c0, c1, c2⟩ := h
  have hii : (i : Int) ≤ (T.size : Int) := by omega
  obtain ⟨X, HX⟩ : ∃ X, Hid (X = T.extract i (i + 2)) := ⟨_, rfl⟩
  have HD : ∀ W, Hid (Calls Tryz.prog 244 #[.string ((T.extract i T.size).extract 0 2)] W fun e w' => e = .returned (.bool true) ∧ w' = W) := fun W => by
    show Calls _ _ _ _ _
    have h3 := dbl_any ((T.extract i T.size).extract 0 2) W
    rw [ext2 T i hi, hd] at h3
    exact h3
  rw [← HX.out]
  have HTk : ∀ (o : Obj) (n : Nat), Hid (Calls Tryz.prog 239 #[.pointer (some ⟨b, 0, none⟩), .int .i64 9, .int .i64 ((i : Int) + 2)] ((w.alloc o).drewN n) fun en w' => en = .returned (.tuple #[tokV 9 X i, .int .i64 ((i : Int) + 2)]) ∧ Only (fun _ => False) ((w.alloc o).drewN n) w') := fun o n => by
    rw [HX.out]
    exact token_any b T i dv 9 (i + 2) (by omega) (by omega) _ ((HT.out.alloc hl o).drewN n)
  have hd1 : (1 : Int) < ((T.size - i : Nat) : Int) := by omega
  clear hd
  go_enter Tryz.func179, Tryz.ntmps179
  go_wp2
  go_quiet (fail)
  go_wp2_with (first | (go_at_call 244; refine ((HD _).out).mono ?_; rintro e w' ⟨rfl, rfl⟩) | (go_at_call 239; refine ((HTk _ _).out).mono ?_; rintro e w1 ⟨rfl, ho1⟩; obtain ⟨HO1, q0, q1, q2, qf⟩ := tokbox ho1; clear ho1; unfold tokV))
  exact bodyPost_ret (v := .tuple #[.agg #[.int .i64 9, .string X, .int .i64 i], .int .i64 ((i : Int) + 2)]) (by simp [results, Tryz.results179, go_sem, q0, q1, q2]) rfl ⟨by unfold tokV; rfl, tokset HO1.out _ _ _⟩
set_option maxRecDepth 10000 in
set_option maxHeartbeats 8000000 in
/-- A number of at most 18 digits, no letter behind it. -/
theorem number_any (b : Nat) (T : ByteArray) (i : Nat) (dv : Bool) (hi : i ≤ T.size) (h5 : T.size ≤ 65000) (h18 : runTo digB T.data.toList i ≤ i + 18) (hle : ∀ c, T.data.toList[runTo digB T.data.toList i]? = some c → letB c = false) (w : World) (h : TkAt w b T i dv) :
    Calls Tryz.prog 174 #[.pointer (some ⟨b, 0, none⟩)] w fun en w' => en = .returned (.tuple #[tokV 2 (T.extract i (runTo digB T.data.toList i)) i, .int .i64 (runTo digB T.data.toList i)]) ∧ Only (fun _ => False) w w' := by
  have hl := h.lt
  have HT := hide h
  obtain ⟨c0, c1, c2⟩ := h
  obtain ⟨E, HE⟩ : ∃ E, Hid (E = runTo digB T.data.toList i) := ⟨_, rfl⟩
  rw [← HE.out] at h18 hle ⊢
  have hEl : E ≤ T.size := by rw [HE.out]; have := runTo_le (p := digB) (l := T.data.toList) (k := i) (by rw [len_eq]; exact hi); rw [len_eq] at this; exact this
  have hiE : i ≤ E := by rw [HE.out]; exact runTo_ge _ _ _
  obtain ⟨X, HX⟩ : ∃ X, Hid (X = T.extract i E) := ⟨_, rfl⟩
  rw [← HX.out]
  have HTk : ∀ (o : Obj) (n : Nat), Hid (Calls Tryz.prog 239 #[.pointer (some ⟨b, 0, none⟩), .int .i64 2, .int .i64 E] ((w.alloc o).drewN n) fun en w' => en = .returned (.tuple #[tokV 2 X i, .int .i64 E]) ∧ Only (fun _ => False) ((w.alloc o).drewN n) w') := fun o n => by
    rw [HX.out]
    exact token_any b T i dv 2 E hiE hEl _ ((HT.out.alloc hl o).drewN n)
  have HLe := hide hle
  clear hle
  go_enter Tryz.func174, Tryz.ntmps174
  go_wp2
  go_loopw [4] (fun s4 wr => ∃ k : Nat, s4 = .int .i64 k ∧ i ≤ k ∧ k ≤ E ∧ runTo digB T.data.toList k = E ∧ wr = w.alloc (.cells #[.int .i64 0, .string ⟨#[]⟩, .int .i64 0] 152)) (fun s4 _ => T.size - (intOf s4).toNat)
  case atStart => exact ⟨i, rfl, Nat.le_refl _, hiE, HE.out.symm, rfl⟩
  case round =>
    obtain ⟨k, rfl, hik, hkE, hrk, rfl⟩ := hrel
    have HRk := hide hrk
    clear hrk
    by_cases hlt : k < T.size
    · have hli : (k : Int) < (T.size : Int) := by omega
      have hget := get_of_lt T k hlt
      cases h2 : digB T[k]
      · have hkE2 : k = E := by
          rw [← HRk.out]
          exact (runTo_stop (fun c hc => by rw [hget] at hc; cases hc; exact h2)).symm
        obtain rfl : k = E := hkE2
        have h1 : letB T[k] = false := HLe.out _ hget
        clear hget
        have hii : (i : Int) ≤ (k : Int) := by omega
        have hee : ¬ (18 : Int) < (k : Int) - (i : Int) := by omega
        go_wp2_with (first | (go_at_call 173; refine (tdigit_any _ _).mono ?_; rintro e w' ⟨rfl, rfl⟩; rw [h2]) | (go_at_call 175; refine (tletter_any _ _).mono ?_; rintro e w' ⟨rfl, rfl⟩; rw [h1]))
        refine ((HTk _ 0).out).mono ?_
        rintro e w1 ⟨rfl, ho1⟩
        obtain ⟨HO1, q0, q1, q2, qf⟩ := tokbox ho1
        clear ho1
        unfold tokV
        go_wp2
        exact bodyPost_ret (v := .tuple #[.agg #[.int .i64 2, .string X, .int .i64 i], .int .i64 k]) (by simp [results, Tryz.results174, go_sem, q0, q1, q2]) rfl ⟨by unfold tokV; rfl, tokset HO1.out _ _ _⟩
      · have HR2 : Hid (runTo digB T.data.toList (k + 1) = E) := by
          show _ = E
          rw [runTo_step hget h2]; exact HRk.out
        clear hget
        go_wp2_with (first | (go_at_call 173; refine (tdigit_any _ _).mono ?_; rintro e w' ⟨rfl, rfl⟩; rw [h2]))
        go_roundw
        case rel => exact ⟨k + 1, by go_num, by omega, by have := runTo_ge digB T.data.toList (k + 1); rw [HR2.out] at this; omega, HR2.out, by trivial⟩
        case measure => simp [intOf]; omega
    · have hli : ¬ (k : Int) < (T.size : Int) := by omega
      have hkE2 : k = E := by
        rw [← HRk.out]
        exact (runTo_stop (fun c hc => by rw [get_none T k (by omega)] at hc; cases hc)).symm
      obtain rfl : k = E := hkE2
      have hee : ¬ (18 : Int) < (k : Int) - (i : Int) := by omega
      go_wp2_with fail
      refine ((HTk _ 0).out).mono ?_
      rintro e w1 ⟨rfl, ho1⟩
      obtain ⟨HO1, q0, q1, q2, qf⟩ := tokbox ho1
      clear ho1
      unfold tokV
      go_wp2
      exact bodyPost_ret (v := .tuple #[.agg #[.int .i64 2, .string X, .int .i64 i], .int .i64 k]) (by simp [results, Tryz.results174, go_sem, q0, q1, q2]) rfl ⟨by unfold tokV; rfl, tokset HO1.out _ _ _⟩
set_option maxRecDepth 10000 in
set_option maxHeartbeats 8000000 in
theorem read_number (pb : Nat) (T : ByteArray) (i : Nat) (dv : Bool) (k : Nat) (x : ByteArray) (e : Nat) (hi : i < T.size) (hdg : digB T[i] = true)
    (hsub : ∀ w, TkAt w pb T i dv → Calls Tryz.prog 174 #[.pointer (some ⟨pb, 0, none⟩)] w fun en w' => en = .returned (.tuple #[tokV k x i, .int .i64 e]) ∧ Only (fun _ => False) w w') : ReadsTo pb T i dv k x e := by
  intro w h
  have hl := h.lt
  have HT := hide h
  have HSub := hide hsub
  obtain ⟨c0, c1, c2⟩ := h
  have hli : (i : Int) < (T.size : Int) := by omega
  clear hsub
  unfold tokV
  go_enter Tryz.func135, Tryz.ntmps135
  go_wp2_with (go_at_call 171; refine (tended_no pb T i _ hi _ (HT.out.alloc hl _)).mono ?_; rintro e w' ⟨rfl, n, rfl⟩)
  go_quiet (fail)
  go_wp2_with (first | (go_at_call 173; refine (tdigit_any _ _).mono ?_; rintro e w' ⟨rfl, rfl⟩; rw [hdg]) | (go_at_call 174; refine (HSub.out _ ((HT.out.alloc hl _).drewN _)).mono ?_; rintro e w1 ⟨rfl, ho1⟩; obtain ⟨HO1, q0, q1, q2, qf⟩ := tokbox ho1; clear ho1; unfold tokV))
  exact bodyPost_ret (v := .tuple #[.agg #[.int .i64 k, .string x, .int .i64 i], .int .i64 e]) (by simp [results, Tryz.results135, go_sem, q0, q1, q2]) rfl ⟨rfl, tokset HO1.out _ _ _⟩
end Go.Proofs.YtdbdbaepmdmnfaaGreatDoor

