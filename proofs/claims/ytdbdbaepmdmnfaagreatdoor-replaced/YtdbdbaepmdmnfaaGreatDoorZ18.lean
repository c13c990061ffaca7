import Derived.Test.YtdbdbaepmdmnfaaGreatDoorZ17
import Derived.Deep.RegionLaw
import Derived.Deep.AppendLies
import Derived.Defers
import Derived.Recover
namespace Go.Proofs.YtdbdbaepmdmnfaaGreatDoor
open Go.RowKit
def nameV (x : ByteArray) (a : Nat) : Value := .iface 92 (.agg #[.string x, .int .i64 a])
def strT (x : ByteArray) : Value := .iface 303 (.agg #[.string x])
theorem fld188 (x : ByteArray) (a : Int) (w : World) : (Instr.field 92 (.agg #[.string x, .int .i64 a]) 0).run Tryz.prog w = .ok (.string x) w := by kernel_rfl
theorem ta_name_name (v : Value) (w : World) : (Instr.typeAssert (.iface 92 v) 238 92 true).run Tryz.prog w = .ok (.tuple #[v, .bool true]) w := by kernel_rfl
theorem ta_name_elem (v : Value) (w : World) : (Instr.typeAssert (.iface 92 v) 238 306 true).run Tryz.prog w = .ok (.tuple #[.agg #[.string ⟨#[]⟩, .int .i64 0, .slice none 0 0], .bool false]) w := by kernel_rfl
theorem ta_name_field (v : Value) (w : World) : (Instr.typeAssert (.iface 92 v) 238 309 true).run Tryz.prog w = .ok (.tuple #[.agg #[.nilIface], .bool false]) w := by kernel_rfl
theorem ta_str_name (v : Value) (w : World) : (Instr.typeAssert (.iface 303 v) 238 92 true).run Tryz.prog w = .ok (.tuple #[.agg #[.string ⟨#[]⟩, .int .i64 0], .bool false]) w := by kernel_rfl
theorem ta_str_elem (v : Value) (w : World) : (Instr.typeAssert (.iface 303 v) 238 306 true).run Tryz.prog w = .ok (.tuple #[.agg #[.string ⟨#[]⟩, .int .i64 0, .slice none 0 0], .bool false]) w := by kernel_rfl
theorem ta_str_field (v : Value) (w : World) : (Instr.typeAssert (.iface 303 v) 238 309 true).run Tryz.prog w = .ok (.tuple #[.agg #[.nilIface], .bool false]) w := by kernel_rfl
theorem ta_own_name (v : Value) (w : World) : (Instr.typeAssert (.iface 312 v) 238 92 true).run Tryz.prog w = .ok (.tuple #[.agg #[.string ⟨#[]⟩, .int .i64 0], .bool false]) w := by kernel_rfl
theorem ta_own_elem (v : Value) (w : World) : (Instr.typeAssert (.iface 312 v) 238 306 true).run Tryz.prog w = .ok (.tuple #[.agg #[.string ⟨#[]⟩, .int .i64 0, .slice none 0 0], .bool false]) w := by kernel_rfl
theorem ta_own_field (v : Value) (w : World) : (Instr.typeAssert (.iface 312 v) 238 309 true).run Tryz.prog w = .ok (.tuple #[.agg #[.nilIface], .bool false]) w := by kernel_rfl
/-- A tree that is one value. -/
def Is (v : Value) : World → Value → Prop := fun _ u => u = v
theorem is_stab (pb : Nat) (v : Value) : Stab pb (Is v) := fun _ _ _ h _ => h
set_option maxRecDepth 20000 in
set_option maxHeartbeats 4000000 in
theorem place_name (x : ByteArray) (a : Nat) : IsPl (Is (nameV x a)) true := by
  rintro w v rfl
  unfold nameV
  have e1 := ta_name_name
  have e2 := ta_name_elem
  have e3 := ta_name_field
  go_enter Tryz.func183, Tryz.ntmps183
  go_wp2
  go_ret
  exact ⟨rfl, rfl⟩
set_option maxRecDepth 20000 in
set_option maxHeartbeats 4000000 in
theorem place_str (x : ByteArray) : IsPl (Is (strT x)) false := by
  rintro w v rfl
  unfold strT
  have e1 := ta_str_name
  have e2 := ta_str_elem
  have e3 := ta_str_field
  go_enter Tryz.func183, Tryz.ntmps183
  go_wp2
  go_ret
  exact ⟨rfl, rfl⟩
set_option maxRecDepth 20000 in
set_option maxHeartbeats 4000000 in
theorem prim_str (pb : Nat) (T : ByteArray) (ge : Bool) (s s' : TS) (hk : s.k = 3) (hn : Nx pb T s s') : Reads 496 pb T ge s s' (Is (strT s.x)) := by
  intro w h
  have r3 : w.cell? ⟨pb, 3, none⟩ = some (.int .i64 3) := by have := cell_of (o := 3) h rfl; rw [this, hk]; rfl
  have HT := hide (take_yes pb T s s' ge hn w h)
  clear h hn hk
  unfold strT
  have e1 := fld188
  go_enter Tryz.func496, Tryz.ntmps496
  go_wp2_with (go_at_call 139; refine (HT.out).mono ?_; rintro en w1 ⟨rfl, hp, ho⟩; have HP := hide hp; have HO := hide ho; clear hp ho)
  go_ret
  exact ⟨_, rfl, rfl, HP.out, HO.out⟩
set_option maxRecDepth 20000 in
set_option maxHeartbeats 4000000 in
theorem varEl (pb : Nat) (T : ByteArray) (ge : Bool) (s s' : TS) (hn : Nx pb T s s') (hb : seen s' [91] = false) : Reads 498 pb T ge s s' (Is (nameV s.x s.xa)) := by
  intro w h
  have HT := hide (take_yes pb T s s' ge hn w h)
  have HPn : ∀ W, PAt W pb T s' ge → Hid (Calls Tryz.prog 106 #[.pointer (some ⟨pb, 0, none⟩), .string ⟨#[91]⟩] W fun en w' => en = .returned (.bool false) ∧ w' = W) := fun W hW => passes_no pb T s' ge ⟨#[91]⟩ hb W hW
  clear h hn hb
  unfold nameV
  go_enter Tryz.func498, Tryz.ntmps498
  go_wp2_with fail
  refine (HT.out).mono ?_
  rintro en w1 ⟨rfl, hp, ho⟩
  have HPs := HPn _ (Reads.alloc_at hp (.cells #[.string s.x, .int .i64 s.xa] 92))
  have HP := hide hp
  have HO := hide ho
  clear hp ho HT HPn
  go_wp2_with (go_at_call 106; refine (HPs.out).mono ?_; rintro en w2 ⟨rfl, rfl⟩)
  go_ret
  exact ⟨_, rfl, rfl, Reads.alloc_at HP.out _, HO.out.alloc _⟩
set_option maxRecDepth 20000 in
set_option maxHeartbeats 4000000 in
theorem prim_name (pb : Nat) (T : ByteArray) (ge : Bool) (s s' : TS) (hk : s.k = 5) (hn : Nx pb T s s') (hb : seen s' [91] = false) : Reads 496 pb T ge s s' (Is (nameV s.x s.xa)) := by
  intro w h
  have r3 : w.cell? ⟨pb, 3, none⟩ = some (.int .i64 5) := by have := cell_of (o := 3) h rfl; rw [this, hk]; rfl
  have HT := hide (varEl pb T ge s s' hn hb w h)
  clear h hn hk hb
  go_enter Tryz.func496, Tryz.ntmps496
  go_wp2_with (go_at_call 498; refine (HT.out).mono ?_; rintro en w1 ⟨v, rfl, hv, hp, ho⟩; have Hv := hide hv; have HP := hide hp; have HO := hide ho; clear hv hp ho)
  go_ret
  exact ⟨_, rfl, Hv.out, HP.out, HO.out⟩
end Go.Proofs.YtdbdbaepmdmnfaaGreatDoor

namespace Go.Proofs.YtdbdbaepmdmnfaaGreatDoor
open Go.RowKit
theorem info366 : (Tryz.prog.info? 238).map (fun i => (i.zero, i.size, i.bytes)) = some (some .nilIface, 1, 16) := by kernel_rfl
/-- A list of trees, each one value, that lies apart from the parser. -/
def Row (pb : Nat) (vs : List Value) : World → Value → Prop := fun w v => w.ownsRow 0 238 1 v vs.length vs ∧ v.ownBlock ≠ some pb
theorem own_tag {w : World} {B : Nat} {e t : TypeId} {z : Nat} {v : Value} {n : Nat} {xs : List Value} {pb : Nat} {c : Array Value} (h : w.ownsRow B e z v n xs) (hp : w.heap[pb]? = some (.cells c t (0, 0))) (hne : e ≠ t) : v.ownBlock ≠ some pb := by
  intro hk
  rcases h.2 with ⟨rfl, _⟩ | ⟨g, cap, cur, rfl, _, h3, _⟩
  · cases hk
  · cases hk
    rw [hp] at h3
    cases h3
    exact hne rfl
theorem row_stab (pb : Nat) (vs : List Value) : Stab pb (Row pb vs) := fun w w' v h ho => ⟨ownsRow_of h.1 (fun k hk => ho.block k (h.1.lt k hk).2 (fun e => h.2 (by rw [hk, e]))), h.2⟩
theorem row_one {pb : Nat} {w : World} {v : Value} {vs : List Value} (h : Row pb vs w v) : ∃ po cap, v = .slice po vs.length cap := ownsRow_slice h.1
theorem news_oneR (W : World) (x : Value) (t : TypeId) : ∀ j u, [x][j]? = some u → (W.alloc (.cells #[x] t)).cell? ((⟨W.heap.size, 0, none⟩ : Addr).add j) = some u := by
  intro j u hj
  match j, hj with
  | 0, hj => simp at hj; subst hj; simp [Addr.add]
  | (j + 1), hj => simp at hj
theorem made_one {w : World} {x : Value} {t : TypeId} {B : Nat} (hB : B ≤ w.heap.size) : (w.alloc (.cells #[x] t)).ownsRow B t 1 (.slice (some ⟨w.heap.size, 0, none⟩) 1 1) 1 [x] :=
  ⟨rfl, Or.inr ⟨w.heap.size, 1, #[x], rfl, hB, heap_alloc_new w _, Nat.le_refl _, by unfold maxLen; omega, rfl, rfl⟩⟩
set_option maxRecDepth 20000 in
set_option maxHeartbeats 4000000 in
theorem list_one (pb : Nat) (T : ByteArray) (ge : Bool) (s0 s1 : TS) (t1 : TypeId) (u1 : Value) (h1 : Reads 143 pb T ge s0 s1 (Is (.iface t1 u1))) (hc : seen s1 [44] = false) : Reads 424 pb T ge s0 s1 (Row pb [.iface t1 u1]) := by
  intro w h
  have H1 := hide (h1 w h)
  have HPn : ∀ W, PAt W pb T s1 ge → Hid (Calls Tryz.prog 106 #[.pointer (some ⟨pb, 0, none⟩), .string ⟨#[44]⟩] W fun en w' => en = .returned (.bool false) ∧ w' = W) := fun W hW => passes_no pb T s1 ge ⟨#[44]⟩ hc W hW
  clear h h1 hc
  go_enter Tryz.func424, Tryz.ntmps424
  go_wp2_with fail
  refine (H1.out).mono ?_
  rintro en w1 ⟨v, rfl, hv, hp, ho⟩
  obtain rfl : v = .iface t1 u1 := hv
  have hl1 := hp.lt
  have HPs := HPn _ (Reads.alloc_at hp (.cells #[.iface t1 u1] 238))
  have HP := hide hp
  have HO := hide ho
  clear hp ho H1 HPn
  go_wp2
  go_loop [3] (fun s3 => s3 = .slice (some ⟨w1.heap.size, 0, none⟩) 1 1) (fun _ => 0)
  case atStart => exact rfl
  case round =>
    subst hrel
    go_wp2_with (go_at_call 106; refine (HPs.out).mono ?_; rintro en w2 ⟨rfl, rfl⟩)
    go_ret
    exact ⟨_, rfl, ⟨made_one (Nat.zero_le _), fun e => by have := Option.some.inj e; simp at this; omega⟩, Reads.alloc_at HP.out _, HO.out.alloc _⟩
set_option maxRecDepth 20000 in
set_option maxHeartbeats 4000000 in
theorem list_two (pb : Nat) (T : ByteArray) (ge : Bool) (s0 s1 s2 s3 : TS) (t1 t2 : TypeId) (u1 u2 : Value) (h1 : Reads 143 pb T ge s0 s1 (Is (.iface t1 u1))) (hc1 : seen s1 [44] = true) (hn : Nx pb T s1 s2) (h2 : Reads 143 pb T ge s2 s3 (Is (.iface t2 u2))) (hc : seen s3 [44] = false) : Reads 424 pb T ge s0 s3 (Row pb [.iface t1 u1, .iface t2 u2]) := by
  obtain ⟨i0, hi0, hz0, hz1, hz2⟩ := info_parts info366
  intro w h
  have H1 := hide (h1 w h)
  have H2 := hide h2
  have HPy : ∀ W, PAt W pb T s1 ge → Hid (Calls Tryz.prog 106 #[.pointer (some ⟨pb, 0, none⟩), .string ⟨#[44]⟩] W fun en w' => en = .returned (.bool true) ∧ PAt w' pb T s2 ge ∧ Only (fun k => k = pb) W w') := fun W hW => passes_yes pb T s1 s2 ge ⟨#[44]⟩ hc1 hn W hW
  have HPn : ∀ W, PAt W pb T s3 ge → Hid (Calls Tryz.prog 106 #[.pointer (some ⟨pb, 0, none⟩), .string ⟨#[44]⟩] W fun en w' => en = .returned (.bool false) ∧ w' = W) := fun W hW => passes_no pb T s3 ge ⟨#[44]⟩ hc W hW
  clear h h1 h2 hc hc1 hn
  go_enter Tryz.func424, Tryz.ntmps424
  go_wp2_with fail
  refine (H1.out).mono ?_
  rintro en w1 ⟨v, rfl, hv, hp, ho⟩
  obtain rfl : v = .iface t1 u1 := hv
  have hl1 := hp.lt
  have HPs := HPy _ (Reads.alloc_at hp (.cells #[.iface t1 u1] 238))
  have HO : Hid (Only (fun k => k = pb) w w1) := ho
  clear hp ho H1 HPy
  go_wp2
  go_loopg [3] 1 (fun g s3' wr => (g = 1 ∧ s3' = .slice (some ⟨w1.heap.size, 0, none⟩) 1 1 ∧ wr = w1.alloc (.cells #[.iface t1 u1] 238)) ∨ (g = 0 ∧ Row pb [.iface t1 u1, .iface t2 u2] wr s3' ∧ PAt wr pb T s3 ge ∧ Only (fun k => k = pb) w wr))
  case atStart => exact Or.inl ⟨rfl, rfl, rfl⟩
  case round =>
    rcases hrel with ⟨hg, e3, ew⟩ | ⟨hg, hr, hp3, ho3⟩
    · subst e3
      subst ew
      subst hg
      go_wp2_with fail
      refine (HPs.out).mono ?_
      rintro en w2 ⟨rfl, hp2, ho2⟩
      have hz2' : w1.heap.size + 1 ≤ w2.heap.size := by have := ho2.size; simpa using this
      have hrow := ownsRow_of (w' := w2) (made_one (w := w1) (x := .iface t1 u1) (t := 238) (Nat.zero_le _)) (fun k hk => by cases hk; exact ho2.block _ (by simp) (by intro e; have e2 : w1.heap.size = pb := e; omega))
      have HO2 : Hid (Only (fun k => k = pb) w w2) := (HO.out.alloc _).trans ho2 (fun _ _ e => e)
      have HE := hide (H2.out w2 hp2)
      have HRow := hide hrow
      clear hp2 ho2 hrow HPs
      go_wp2_with fail
      refine (HE.out).mono ?_
      rintro en w3 ⟨v, rfl, hv, hp3, ho3⟩
      obtain rfl : v = .iface t2 u2 := hv
      have hz3 := ho3.size
      have hl3 := hp3.lt
      have HRow3 := hide (ownsRow_of (w' := w3) HRow.out (fun k hk => by cases hk; exact ho3.block _ (show w1.heap.size < _ by omega) (by intro e; have e2 : w1.heap.size = pb := e; omega)))
      have HO3 : Hid (Only (fun k => k = pb) w w3) := HO2.out.trans ho3 (fun _ _ e => e)
      have HP3 := hide hp3
      clear hp3 ho3 HE HRow
      go_wp2_with (at_builtin; refine wpList_append_own _ rfl (.tmp 9) (.tmp 12) 100 rfl 0 238 i0 .nilIface 1 16 Tryz.underlying100 hi0 hz0 hz1 hz2 rfl (by decide) _ _ _ rfl (HRow3.out.alloc _) _ 1 1 [.iface t2 u2] rfl rfl (news_oneR _ _ _) (fun u hu => by simp at hu; subst hu; rfl) (by unfold maxLen; omega) (by omega) (by simp) ?_; intro v' w4 hown' hgrow hnil)
      have hp4 : PAt w4 pb T s3 ge := (hgrow.block pb (by simp; omega) (fun e => by have e2 : pb = w1.heap.size := Option.some.inj e; omega)).trans (Reads.alloc_at HP3.out _)
      have ho4 : Only (fun k => k = pb) w w4 := (HO3.out.alloc _).grown hgrow (fun k hk hlt => by have e2 : w1.heap.size = k := Option.some.inj hk; have := HO.out.size; omega)
      have hr4 : Row pb [.iface t1 u1, .iface t2 u2] w4 v' := ⟨hown', own_tag hown' hp4 (by decide)⟩
      have HP4 := hide hp4
      have HO4 := hide ho4
      have HR4 := hide hr4
      clear hp4 ho4 hr4 hown' hgrow hnil
      go_wp2
      go_roundg 0
      case measure => omega
      case rel => exact Or.inr ⟨rfl, HR4.out, HP4.out, HO4.out⟩
    · have HPs2 := HPn _ hp3
      have HR := hide hr
      have HP := hide hp3
      have HO3 := hide ho3
      clear hr hp3 ho3 hg
      go_wp2_with (go_at_call 106; refine (HPs2.out).mono ?_; rintro en w2 ⟨rfl, rfl⟩)
      go_ret
      exact ⟨_, rfl, HR.out, HP.out, HO3.out⟩
end Go.Proofs.YtdbdbaepmdmnfaaGreatDoor

namespace Go.Proofs.YtdbdbaepmdmnfaaGreatDoor
open Go.RowKit
theorem PAt.setGe {w pb T s ge} (h : PAt w pb T s ge) (g : Bool) : PAt (w.setCell ⟨pb, 6, none⟩ (.bool g)) pb T s g := heap_setCell_same h _
theorem setPb (w : World) (pb o : Nat) (v : Value) : Only (fun k => k = pb) w (w.setCell ⟨pb, o, none⟩ v) := (Only.refl (fun k => k = pb) w).setCell (p := ⟨pb, o, none⟩) (fun _ => rfl) v
set_option maxRecDepth 20000 in
set_option maxHeartbeats 4000000 in
theorem listUp (pb : Nat) (T : ByteArray) (ge : Bool) (s0 s1 s2 : TS) (V : World → Value → Prop) (hV : Stab pb V) (t : ByteArray) (h1 : Reads 424 pb T false s0 s1 V) (ht : seen s1 t.data.toList = true) (hn : Nx pb T s1 s2) (w : World) (h : PAt w pb T s0 ge) :
    Calls Tryz.prog 426 #[.pointer (some ⟨pb, 0, none⟩), .string t] w fun en w' => ∃ v, en = .returned v ∧ V w' v ∧ PAt w' pb T s2 ge ∧ Only (fun k => k = pb) w w' := by
  have r6 : w.cell? ⟨pb, 6, none⟩ = some (.bool ge) := cell_of h rfl
  have rf := free_of h
  have H1 := hide (h1 _ (h.setGe false))
  have HN : ∀ W, PAt W pb T s1 ge → Hid (Calls Tryz.prog 140 #[.pointer (some ⟨pb, 0, none⟩), .string t] W fun en w' => en = .returned (.tuple #[]) ∧ PAt w' pb T s2 ge ∧ Only (fun k => k = pb) W w') := fun W hW => need_yes pb T s1 s2 ge t ht hn W hW
  have HV := hide hV
  clear h h1 ht hn hV
  go_enter Tryz.func426, Tryz.ntmps426
  go_wp2_with fail
  refine (H1.out).mono ?_
  rintro en w1 ⟨v, rfl, hv, hp, ho⟩
  have q6 : w1.cell? ⟨pb, 6, none⟩ = some (.bool false) := cell_of hp rfl
  have qf := free_of hp
  have HNs := HN _ (hp.setGe ge)
  have Hv := hide (HV.out _ _ _ hv (setPb w1 pb 6 (.bool ge)))
  have HO : Hid (Only (fun k => k = pb) w (w1.setCell ⟨pb, 6, none⟩ (.bool ge))) := ((setPb w pb 6 (.bool false)).trans ho (fun _ _ e => e)).trans (setPb w1 pb 6 (.bool ge)) (fun _ _ e => e)
  clear hv hp ho H1 HN
  go_wp2_with (go_at_call 140; refine (HNs.out).mono ?_; rintro en w2 ⟨rfl, hp2, ho2⟩; have HP2 := hide hp2; have HO2 := hide ho2; clear hp2 ho2)
  go_ret
  exact ⟨_, rfl, HV.out _ _ _ Hv.out HO2.out, HP2.out, HO.out.trans HO2.out (fun _ _ e => e)⟩
set_option maxRecDepth 20000 in
set_option maxHeartbeats 4000000 in
/-- Arguments in brackets, one at least. -/
theorem args_some (pb : Nat) (T : ByteArray) (ge : Bool) (s s0 s1 s2 : TS) (V : World → Value → Prop) (hV : Stab pb V) (ho' : seen s [40] = true) (hn0 : Nx pb T s s0) (hnc : seen s0 [41] = false) (h1 : Reads 424 pb T false s0 s1 V) (ht : seen s1 [41] = true) (hn : Nx pb T s1 s2) : Reads 499 pb T ge s s2 V := by
  intro w h
  have HNd := hide (need_yes pb T s s0 ge ⟨#[40]⟩ ho' hn0 w h)
  have HPn : ∀ W, PAt W pb T s0 ge → Hid (Calls Tryz.prog 106 #[.pointer (some ⟨pb, 0, none⟩), .string ⟨#[41]⟩] W fun en w' => en = .returned (.bool false) ∧ w' = W) := fun W hW => passes_no pb T s0 ge ⟨#[41]⟩ hnc W hW
  have HL : ∀ W, PAt W pb T s0 ge → Hid (Calls Tryz.prog 426 #[.pointer (some ⟨pb, 0, none⟩), .string ⟨#[41]⟩] W fun en w' => ∃ v, en = .returned v ∧ V w' v ∧ PAt w' pb T s2 ge ∧ Only (fun k => k = pb) W w') := fun W hW => listUp pb T ge s0 s1 s2 V hV ⟨#[41]⟩ h1 ht hn W hW
  clear h h1 ht hn hV ho' hn0 hnc
  go_enter Tryz.func499, Tryz.ntmps499
  go_wp2_with fail
  refine (HNd.out).mono ?_
  rintro en w1 ⟨rfl, hp, ho⟩
  have HPs := HPn _ hp
  have HLs := HL _ hp
  have HO := hide ho
  clear hp ho HNd HPn HL
  go_wp2_with (first | (go_at_call 106; refine (HPs.out).mono ?_; rintro en w2 ⟨rfl, rfl⟩) | (go_at_call 426; refine (HLs.out).mono ?_; rintro en w3 ⟨v, rfl, hv, hp3, ho3⟩; have Hv := hide hv; have HP3 := hide hp3; have HO3 := hide ho3; clear hv hp3 ho3))
  go_ret
  exact ⟨_, rfl, Hv.out, HP3.out, HO.out.trans HO3.out (fun _ _ e => e)⟩
/-- An own call of the language. -/
def OwnT (pb : Nat) (x : ByteArray) (a : Nat) (vs : List Value) : World → Value → Prop := fun w v => ∃ r, v = .iface 312 (.agg #[.string x, .int .i64 a, r]) ∧ Row pb vs w r
theorem own_stab (pb : Nat) (x : ByteArray) (a : Nat) (vs : List Value) : Stab pb (OwnT pb x a vs) := fun w w' _ ⟨r, e, h⟩ ho => ⟨r, e, row_stab pb vs w w' r h ho⟩
set_option maxRecDepth 20000 in
set_option maxHeartbeats 4000000 in
theorem place_own (pb : Nat) (x : ByteArray) (a : Nat) (vs : List Value) : IsPl (OwnT pb x a vs) false := by
  rintro w v ⟨r, rfl, hr⟩
  have e1 := ta_own_name
  have e2 := ta_own_elem
  have e3 := ta_own_field
  clear hr
  go_enter Tryz.func183, Tryz.ntmps183
  go_wp2
  go_ret
  exact ⟨rfl, rfl⟩
set_option maxRecDepth 20000 in
set_option maxHeartbeats 4000000 in
theorem prim_own (pb : Nat) (T : ByteArray) (ge : Bool) (s s1 s2 : TS) (vs : List Value) (hk : s.k = 8) (hn : Nx pb T s s1) (h1 : Reads 499 pb T ge s1 s2 (Row pb vs)) : Reads 496 pb T ge s s2 (OwnT pb s.x s.xa vs) := by
  intro w h
  have r3 : w.cell? ⟨pb, 3, none⟩ = some (.int .i64 8) := by have := cell_of (o := 3) h rfl; rw [this, hk]; rfl
  have HT := hide (take_yes pb T s s1 ge hn w h)
  have H1 := hide h1
  clear h hn hk h1
  go_enter Tryz.func496, Tryz.ntmps496
  go_wp2_with fail
  refine (HT.out).mono ?_
  rintro en w1 ⟨rfl, hp, ho⟩
  have HA := hide (H1.out w1 hp)
  have HO := hide ho
  clear hp ho HT H1
  go_wp2_with fail
  refine (HA.out).mono ?_
  rintro en w2 ⟨r, rfl, hr, hp2, ho2⟩
  obtain ⟨po, cap, rfl⟩ := row_one hr
  have Hr := hide hr
  have HP2 := hide hp2
  have HO2 := hide ho2
  clear hr hp2 ho2 HA
  go_wp2
  go_ret
  exact ⟨_, rfl, ⟨_, rfl, Hr.out⟩, HP2.out, HO.out.trans HO2.out (fun _ _ e => e)⟩
end Go.Proofs.YtdbdbaepmdmnfaaGreatDoor

namespace Go.Proofs.YtdbdbaepmdmnfaaGreatDoor
open Go.RowKit
theorem info363 : (Tryz.prog.info? 235).map (fun i => (i.zero, i.size, i.bytes)) = some (some .nilIface, 1, 16) := by kernel_rfl
def IsIf (V : World → Value → Prop) : Prop := ∀ w v, V w v → ∃ t x, v = .iface t x
/-- A statement that is an expression. -/
def WorkT (V : World → Value → Prop) : World → Value → Prop := fun w v => ∃ u, v = .iface 350 (.agg #[u]) ∧ V w u
theorem work_stab {pb : Nat} {V : World → Value → Prop} (h : Stab pb V) : Stab pb (WorkT V) := fun w w' _ ⟨u, e, hu⟩ ho => ⟨u, e, h w w' u hu ho⟩
theorem work_if {V : World → Value → Prop} : IsIf (WorkT V) := fun _ _ ⟨_, e, _⟩ => ⟨_, _, e⟩
theorem fromAlloc {D : Nat → Prop} {w w' : World} {o : Obj} (h : Only D (w.alloc o) w') : Only D w w' := ((Only.refl D w).alloc o).trans h (fun _ _ e => e)
def printV : Value := .iface 285 (.agg #[.slice none 0 0, .nilIface])
set_option maxRecDepth 20000 in
set_option maxHeartbeats 4000000 in
theorem oneOf_yes (pb : Nat) (T : ByteArray) (s : TS) (ge : Bool) (b cap : Nat) (ss : List ByteArray) (hl : ss.length ≤ 1000) (m : Nat) (hm : m < ss.length) (hno : ∀ i t, i < m → ss[i]? = some t → seen s t.data.toList = false) (hyes : ∀ t, ss[m]? = some t → seen s t.data.toList = true) (w : World) (h : PAt w pb T s ge) (hA : ∀ (i : Nat) (t : ByteArray), ss[i]? = some t → w.cell? ⟨b, i, none⟩ = some (.string t)) :
    Calls Tryz.prog 184 #[.pointer (some ⟨pb, 0, none⟩), .slice (some ⟨b, 0, none⟩) ss.length cap] w fun en w' => en = .returned (.bool true) ∧ w' = w := by
  have HP := hide h
  have HN := hide hno
  have HY := hide hyes
  have HA := hide hA
  clear h hno hA hyes
  go_enter Tryz.func184, Tryz.ntmps184
  go_wp2
  go_loop [9] (fun s9 => ∃ k : Nat, s9 = .int .i64 k ∧ k ≤ m) (fun s9 => ss.length - (intOf s9).toNat)
  case atStart => exact ⟨0, rfl, Nat.zero_le _⟩
  case round =>
    obtain ⟨k, rfl, hk⟩ := hrel
    have hli : (k : Int) < (ss.length : Int) := by omega
    obtain ⟨t, ht⟩ : ∃ t, ss[k]? = some t := ⟨_, List.getElem?_eq_getElem (by omega)⟩
    have c0 := HA.out k t ht
    by_cases hlt : k < m
    · have HS := hide (sees_at pb T s ge t false (HN.out k t hlt ht) w HP.out)
      clear ht
      go_wp2_with (go_at_call 137; refine (HS.out).mono ?_; rintro en w' ⟨rfl, rfl⟩)
      go_round
      case rel => exact ⟨k + 1, by go_num, by omega⟩
      case measure => simp [intOf]; omega
    · obtain rfl : k = m := by omega
      have HS := hide (sees_at pb T s ge t true (HY.out t ht) w HP.out)
      clear ht
      go_wp2_with (go_at_call 137; refine (HS.out).mono ?_; rintro en w' ⟨rfl, rfl⟩)
      go_ret
      exact ⟨rfl, rfl⟩
set_option maxRecDepth 20000 in
set_option maxHeartbeats 4000000 in
/-- Where a simple statement may end. -/
theorem ends_yes (pb : Nat) (T : ByteArray) (s : TS) (ge : Bool) (hs : seen s [59] = true ∨ (seen s [59] = false ∧ seen s [125] = true)) (w : World) (h : PAt w pb T s ge) :
    Calls Tryz.prog 423 #[.pointer (some ⟨pb, 0, none⟩)] w fun en w' => en = .returned (.bool true) ∧ Only (fun _ => False) w w' := by
  have hl := h.lt
  have HS : Hid (Calls Tryz.prog 184 #[.pointer (some ⟨pb, 0, none⟩), .slice (some ⟨w.heap.size, 0, none⟩) 2 2] (w.alloc (.cells #[.string ⟨#[59]⟩, .string ⟨#[125]⟩] 9)) fun en w' => en = .returned (.bool true) ∧ w' = w.alloc (.cells #[.string ⟨#[59]⟩, .string ⟨#[125]⟩] 9)) := by
    rcases hs with h1 | ⟨h1, h2⟩
    · exact oneOf_yes pb T s ge w.heap.size 2 [⟨#[59]⟩, ⟨#[125]⟩] (by decide) 0 (by decide) (fun i t hi => by omega) (fun t ht => by simp at ht; subst ht; exact h1) _ (Reads.alloc_at h _) (strs_new w [⟨#[59]⟩, ⟨#[125]⟩])
    · exact oneOf_yes pb T s ge w.heap.size 2 [⟨#[59]⟩, ⟨#[125]⟩] (by decide) 1 (by decide) (fun i t hi ht => (by have e : i = 0 := (by omega); subst e; simp at ht; subst ht; exact h1)) (fun t ht => by simp at ht; subst ht; exact h2) _ (Reads.alloc_at h _) (strs_new w [⟨#[59]⟩, ⟨#[125]⟩])
  clear h hs
  go_enter Tryz.func423, Tryz.ntmps423
  go_wp2_with (go_at_call 184; refine (HS.out).mono ?_; rintro en w' ⟨rfl, rfl⟩)
  go_ret
  exact ⟨rfl, (Only.refl _ w).alloc _⟩
set_option maxRecDepth 20000 in
set_option maxHeartbeats 4000000 in
/-- print, alone. -/
theorem print_bare (pb : Nat) (T : ByteArray) (ge : Bool) (s : TS) (hs : seen s [59] = true ∨ (seen s [59] = false ∧ seen s [125] = true)) (hg : seen s [62] = false) : Reads 359 pb T ge s s (Is printV) := by
  intro w h
  have HE : ∀ o, Hid (Calls Tryz.prog 423 #[.pointer (some ⟨pb, 0, none⟩)] (w.alloc o) fun en w' => en = .returned (.bool true) ∧ Only (fun _ => False) (w.alloc o) w') := fun o => ends_yes pb T s ge hs _ (Reads.alloc_at h o)
  have HPn : ∀ W, PAt W pb T s ge → Hid (Calls Tryz.prog 106 #[.pointer (some ⟨pb, 0, none⟩), .string ⟨#[62]⟩] W fun en w' => en = .returned (.bool false) ∧ w' = W) := fun W hW => passes_no pb T s ge ⟨#[62]⟩ hg W hW
  have HP := hide h
  clear h hs hg
  unfold printV
  go_enter Tryz.func359, Tryz.ntmps359
  go_wp2_with fail
  refine ((HE _).out).mono ?_
  rintro en w1 ⟨rfl, ho⟩
  have hb := (ho.block w.heap.size (by simp) (fun e => e)).trans (new0 w (.cells #[.slice none 0 0, .nilIface] 285))
  have q0 : w1.cell? ⟨w.heap.size, 0, none⟩ = some (.slice none 0 0) := cell_of hb rfl
  have q1 : w1.cell? ⟨w.heap.size, 1, none⟩ = some .nilIface := cell_of hb rfl
  have hp1 : PAt w1 pb T s ge := (Reads.alloc_at HP.out _).only ho (fun e => e)
  have HPs := HPn _ hp1
  have HP1 := hide hp1
  have HO : Hid (Only (fun _ => False) w w1) := ((Only.refl _ w).alloc _).trans ho (fun _ _ e => e)
  clear ho hb hp1 HE HPn
  go_wp2_with (go_at_call 106; refine (HPs.out).mono ?_; rintro en w2 ⟨rfl, rfl⟩)
  go_ret
  exact ⟨_, rfl, rfl, HP1.out, HO.out.mono (fun _ _ e => e.elim)⟩
set_option maxRecDepth 20000 in
set_option maxHeartbeats 4000000 in
theorem simple_print (pb : Nat) (T : ByteArray) (ge : Bool) (s s1 s2 : TS) (V : World → Value → Prop) (hp : seen s [112, 114, 105, 110, 116] = true) (hn : Nx pb T s s1) (h1 : Reads 359 pb T ge s1 s2 V) : Reads 251 pb T ge s s2 V := by
  intro w h
  have r5 : w.cell? ⟨pb, 5, none⟩ = some (.int .i64 s.xa) := cell_of h rfl
  have HPy := hide (passes_yes pb T s s1 ge ⟨#[112, 114, 105, 110, 116]⟩ hp hn w h)
  have H1 := hide h1
  clear h hp hn h1
  go_enter Tryz.func251, Tryz.ntmps251
  go_wp2_with fail
  refine (HPy.out).mono ?_
  rintro en w1 ⟨rfl, hp1, ho⟩
  have HA := hide (H1.out w1 hp1)
  have HO := hide ho
  clear hp1 ho H1 HPy
  go_wp2_with (go_at_call 359; refine (HA.out).mono ?_; rintro en w2 ⟨v, rfl, hv, hp2, ho2⟩; have Hv := hide hv; have HP2 := hide hp2; have HO2 := hide ho2; clear hv hp2 ho2)
  go_ret
  exact ⟨_, rfl, Hv.out, HP2.out, HO.out.trans HO2.out (fun _ _ e => e)⟩
/-- No word of a statement. -/
def NoWord (s : TS) : Prop := ∀ t ∈ [[112, 114, 105, 110, 116], [110, 101, 120, 116], [98, 114, 101, 97, 107], [99, 111, 110, 116, 105, 110, 117, 101], [101, 120, 105, 116], [114, 101, 116, 117, 114, 110], [100, 101, 108, 101, 116, 101]], seen s t = false
set_option maxRecDepth 20000 in
set_option maxHeartbeats 4000000 in
theorem simple_work (pb : Nat) (T : ByteArray) (ge : Bool) (s s2 : TS) (V : World → Value → Prop) (hI : IsIf V) (hw : NoWord s) (h1 : Reads 143 pb T ge s s2 V) : Reads 251 pb T ge s s2 (WorkT V) := by
  intro w h
  have hl := h.lt
  have r5 : w.cell? ⟨pb, 5, none⟩ = some (.int .i64 s.xa) := cell_of h rfl
  have HPp := hide (passes_no pb T s ge ⟨#[112, 114, 105, 110, 116]⟩ (hw _ (by simp)) w h)
  have HS := hide (oneOf_no pb T s ge w.heap.size 3 [⟨#[110, 101, 120, 116]⟩, ⟨#[98, 114, 101, 97, 107]⟩, ⟨#[99, 111, 110, 116, 105, 110, 117, 101]⟩] (by decide) (fun t ht => hw _ (by simp at ht; rcases ht with rfl | rfl | rfl <;> simp)) _ (Reads.alloc_at h _) (strs_new w [⟨#[110, 101, 120, 116]⟩, ⟨#[98, 114, 101, 97, 107]⟩, ⟨#[99, 111, 110, 116, 105, 110, 117, 101]⟩]))
  have hp2 := Reads.alloc_at h (.cells #[.string ⟨#[110, 101, 120, 116]⟩, .string ⟨#[98, 114, 101, 97, 107]⟩, .string ⟨#[99, 111, 110, 116, 105, 110, 117, 101]⟩] 9)
  have HPe := hide (passes_no pb T s ge ⟨#[101, 120, 105, 116]⟩ (hw _ (by simp)) _ hp2)
  have HPr := hide (passes_no pb T s ge ⟨#[114, 101, 116, 117, 114, 110]⟩ (hw _ (by simp)) _ hp2)
  have HPd := hide (passes_no pb T s ge ⟨#[100, 101, 108, 101, 116, 101]⟩ (hw _ (by simp)) _ hp2)
  have HA := hide (h1 _ hp2)
  have HI := hide hI
  clear h hw h1 hp2 hI
  go_enter Tryz.func251, Tryz.ntmps251
  go_wp2_with fail
  refine (HPp.out).mono ?_
  rintro en w1 ⟨rfl, rfl⟩
  go_wp2_with fail
  refine (HS.out).mono ?_
  rintro en w1 ⟨rfl, rfl⟩
  go_wp2_with fail
  refine (HPe.out).mono ?_
  rintro en w1 ⟨rfl, rfl⟩
  go_wp2_with fail
  refine (HPr.out).mono ?_
  rintro en w1 ⟨rfl, rfl⟩
  go_wp2_with fail
  refine (HPd.out).mono ?_
  rintro en w1 ⟨rfl, rfl⟩
  go_wp2_with fail
  refine (HA.out).mono ?_
  rintro en w2 ⟨v, rfl, hv, hp2, ho2⟩
  obtain ⟨t, x, rfl⟩ := HI.out _ _ hv
  have Hv := hide hv
  have HP2 := hide hp2
  have HO2 := hide (fromAlloc ho2)
  clear hv hp2 ho2 HA HPp HS HPe HPr HPd
  go_wp2
  go_ret
  exact ⟨_, rfl, ⟨_, rfl, Hv.out⟩, HP2.out, HO2.out⟩
end Go.Proofs.YtdbdbaepmdmnfaaGreatDoor

namespace Go.Proofs.YtdbdbaepmdmnfaaGreatDoor
open Go.RowKit
/-- No word or sign with which a compound statement begins. -/
def NoComp (s : TS) : Prop := ∀ t ∈ [[123], [59], [105, 102], [119, 104, 105, 108, 101], [102, 111, 114]], seen s t = false
set_option maxRecDepth 20000 in
set_option maxHeartbeats 4000000 in
theorem stmt_last (pb : Nat) (T : ByteArray) (ge : Bool) (s s1 : TS) (V : World → Value → Prop) (hc : NoComp s) (h1 : Reads 251 pb T ge s s1 V) (hb : seen s1 [125] = true) : Reads 181 pb T ge s s1 V := by
  intro w h
  have H0 := hide (sees_at pb T s ge ⟨#[123]⟩ false (hc _ (by simp)) w h)
  have HPa := hide (passes_no pb T s ge ⟨#[59]⟩ (hc _ (by simp)) w h)
  have HPb := hide (passes_no pb T s ge ⟨#[105, 102]⟩ (hc _ (by simp)) w h)
  have HPc := hide (passes_no pb T s ge ⟨#[119, 104, 105, 108, 101]⟩ (hc _ (by simp)) w h)
  have HPd := hide (passes_no pb T s ge ⟨#[102, 111, 114]⟩ (hc _ (by simp)) w h)
  have H1 := hide (h1 w h)
  have HB : ∀ W, PAt W pb T s1 ge → Hid (Calls Tryz.prog 137 #[.pointer (some ⟨pb, 0, none⟩), .string ⟨#[125]⟩] W fun en w' => en = .returned (.bool true) ∧ w' = W) := fun W hW => sees_at pb T s1 ge ⟨#[125]⟩ true hb W hW
  clear h hc h1 hb
  go_enter Tryz.func181, Tryz.ntmps181
  go_wp2_with fail
  refine (H0.out).mono ?_
  rintro en w1 ⟨rfl, rfl⟩
  go_wp2_with fail
  refine (HPa.out).mono ?_
  rintro en w1 ⟨rfl, rfl⟩
  go_wp2_with fail
  refine (HPb.out).mono ?_
  rintro en w1 ⟨rfl, rfl⟩
  go_wp2_with fail
  refine (HPc.out).mono ?_
  rintro en w1 ⟨rfl, rfl⟩
  go_wp2_with fail
  refine (HPd.out).mono ?_
  rintro en w1 ⟨rfl, rfl⟩
  go_wp2_with fail
  refine (H1.out).mono ?_
  rintro en w2 ⟨v, rfl, hv, hp2, ho2⟩
  have HBs := HB _ hp2
  have Hv := hide hv
  have HP2 := hide hp2
  have HO2 := hide ho2
  clear hv hp2 ho2 HB H1 H0 HPa HPb HPc HPd
  go_wp2_with (go_at_call 137; refine (HBs.out).mono ?_; rintro en w3 ⟨rfl, rfl⟩)
  go_ret
  exact ⟨_, rfl, Hv.out, HP2.out, HO2.out⟩
set_option maxRecDepth 20000 in
set_option maxHeartbeats 4000000 in
theorem stmt_semi (pb : Nat) (T : ByteArray) (ge : Bool) (s s1 s2 : TS) (V : World → Value → Prop) (hV : Stab pb V) (hc : NoComp s) (h1 : Reads 251 pb T ge s s1 V) (hb : seen s1 [125] = false) (hs : seen s1 [59] = true) (hn : Nx pb T s1 s2) : Reads 181 pb T ge s s2 V := by
  intro w h
  have H0 := hide (sees_at pb T s ge ⟨#[123]⟩ false (hc _ (by simp)) w h)
  have HPa := hide (passes_no pb T s ge ⟨#[59]⟩ (hc _ (by simp)) w h)
  have HPb := hide (passes_no pb T s ge ⟨#[105, 102]⟩ (hc _ (by simp)) w h)
  have HPc := hide (passes_no pb T s ge ⟨#[119, 104, 105, 108, 101]⟩ (hc _ (by simp)) w h)
  have HPd := hide (passes_no pb T s ge ⟨#[102, 111, 114]⟩ (hc _ (by simp)) w h)
  have H1 := hide (h1 w h)
  have HV := hide hV
  have HB : ∀ W, PAt W pb T s1 ge → Hid (Calls Tryz.prog 137 #[.pointer (some ⟨pb, 0, none⟩), .string ⟨#[125]⟩] W fun en w' => en = .returned (.bool false) ∧ w' = W) := fun W hW => sees_at pb T s1 ge ⟨#[125]⟩ false hb W hW
  have HN : ∀ W, PAt W pb T s1 ge → Hid (Calls Tryz.prog 140 #[.pointer (some ⟨pb, 0, none⟩), .string ⟨#[59]⟩] W fun en w' => en = .returned (.tuple #[]) ∧ PAt w' pb T s2 ge ∧ Only (fun k => k = pb) W w') := fun W hW => need_yes pb T s1 s2 ge ⟨#[59]⟩ hs hn W hW
  clear h hc h1 hb hs hn hV
  go_enter Tryz.func181, Tryz.ntmps181
  go_wp2_with fail
  refine (H0.out).mono ?_
  rintro en w1 ⟨rfl, rfl⟩
  go_wp2_with fail
  refine (HPa.out).mono ?_
  rintro en w1 ⟨rfl, rfl⟩
  go_wp2_with fail
  refine (HPb.out).mono ?_
  rintro en w1 ⟨rfl, rfl⟩
  go_wp2_with fail
  refine (HPc.out).mono ?_
  rintro en w1 ⟨rfl, rfl⟩
  go_wp2_with fail
  refine (HPd.out).mono ?_
  rintro en w1 ⟨rfl, rfl⟩
  go_wp2_with fail
  refine (H1.out).mono ?_
  rintro en w2 ⟨v, rfl, hv, hp2, ho2⟩
  have HBs := HB _ hp2
  have HNs := HN _ hp2
  have Hv := hide hv
  have HO2 := hide ho2
  clear hv hp2 ho2 HB H1 H0 HPa HPb HPc HPd HN
  go_wp2_with (first | (go_at_call 137; refine (HBs.out).mono ?_; rintro en w3 ⟨rfl, rfl⟩) | (go_at_call 140; refine (HNs.out).mono ?_; rintro en w3 ⟨rfl, hp3, ho3⟩; have HP3 := hide hp3; have HO3 := hide ho3; clear hp3 ho3))
  go_ret
  exact ⟨_, rfl, HV.out _ _ _ Hv.out HO3.out, HP3.out, HO2.out.trans HO3.out (fun _ _ e => e)⟩
theorem row_tag {w : World} {B : Nat} {e : TypeId} {z : Nat} {v : Value} {n : Nat} {xs : List Value} (h : w.ownsRow B e z v n xs) : ∀ q, some q = v.ownBlock → ∃ c, w.heap[q]? = some (.cells c e (0, 0)) := by
  intro q hq
  rcases h.2 with ⟨rfl, _⟩ | ⟨g, cap, cur, rfl, _, h3, _⟩
  · cases hq
  · cases hq; exact ⟨_, h3⟩
theorem row_keep {w w' : World} {B : Nat} {e : TypeId} {z : Nat} {v : Value} {n : Nat} {xs : List Value} {pb : Nat} (h : w.ownsRow B e z v n xs) (hn : v.ownBlock ≠ some pb) (ho : Only (fun k => k = pb) w w') : w'.ownsRow B e z v n xs := ownsRow_of h (fun k hk => ho.block k (h.lt k hk).2 (fun e => hn (by rw [hk, e])))
theorem base0 {w : World} {B : Nat} {e : TypeId} {z : Nat} {v : Value} {n : Nat} {xs : List Value} (h : w.ownsRow B e z v n xs) : w.ownsRow 0 e z v n xs := by
  refine ⟨h.1, ?_⟩
  rcases h.2 with h1 | ⟨g, cap, cur, h1, h2, h3⟩
  · exact Or.inl h1
  · exact Or.inr ⟨g, cap, cur, h1, Nat.zero_le _, h3⟩
/-- What V tells stands while rows of statements grow. -/
def Stab2 (V : World → Value → Prop) : Prop := ∀ w w' v (D : Nat → Prop), V w v → Only D w w' → (∀ k, D k → ∃ c, w.heap[k]? = some (.cells c 235 (0, 0))) → V w' v
theorem is_stab2 (v : Value) : Stab2 (Is v) := fun _ _ _ _ h _ _ => h
theorem row_stab2 (pb : Nat) (vs : List Value) : Stab2 (Row pb vs) := by
  rintro w w' v D ⟨h, h2⟩ ho hD
  refine ⟨ownsRow_of h (fun k hk => ho.block k (h.lt k hk).2 (fun e => ?_)), h2⟩
  obtain ⟨c, hc⟩ := hD k e
  exact own_tag h hc (by decide) hk
theorem own_stab2 (pb : Nat) (x : ByteArray) (a : Nat) (vs : List Value) : Stab2 (OwnT pb x a vs) := fun w w' _ D ⟨r, e, h⟩ ho hD => ⟨r, e, row_stab2 pb vs w w' r D h ho hD⟩
theorem work_stab2 {V : World → Value → Prop} (h : Stab2 V) : Stab2 (WorkT V) := fun w w' _ D ⟨u, e, hu⟩ ho hD => ⟨u, e, h w w' u D hu ho hD⟩
/-- A block: n statements, one behind the other. -/
def BlockT (pb n : Nat) (Vf : Nat → World → Value → Prop) : World → Value → Prop := fun w v => ∃ vs, vs.length = n ∧ w.ownsRow 0 235 1 v n vs ∧ v.ownBlock ≠ some pb ∧ ∀ i u, vs[i]? = some u → Vf i w u
end Go.Proofs.YtdbdbaepmdmnfaaGreatDoor

namespace Go.Proofs.YtdbdbaepmdmnfaaGreatDoor
open Go.RowKit
/-- A rule of kind kd, without conditions. -/
def RuleT (kd : Nat) (V : World → Value → Prop) : World → Value → Prop := fun w v => ∃ u, v = .agg #[.int .i64 kd, .slice none 0 0, u] ∧ V w u
def IsSl (V : World → Value → Prop) : Prop := ∀ w v, V w v → ∃ po n cap, v = .slice po n cap
theorem block_sl (pb n : Nat) (Vf : Nat → World → Value → Prop) : IsSl (BlockT pb n Vf) := fun _ _ ⟨_, _, h, _⟩ => by obtain ⟨po, cap, e⟩ := ownsRow_slice h; exact ⟨po, _, cap, e⟩
/-- What V tells stands while blocks of its call turn that hold no rows. -/
def Stab3 (V : World → Value → Prop) : Prop := ∀ w w' v (D : Nat → Prop), V w v → Only D w w' → (∀ k, D k → ∃ c t, w.heap[k]? = some (.cells c t (0, 0)) ∧ t ≠ 235 ∧ t ≠ 238) → V w' v
set_option maxRecDepth 20000 in
set_option maxHeartbeats 4000000 in
theorem rule_main (pb : Nat) (T : ByteArray) (ge : Bool) (s s1 : TS) (V : World → Value → Prop) (hS : IsSl V) (hV3 : Stab3 V) (hb : seen s [66, 69, 71, 73, 78] = false) (he : seen s [69, 78, 68] = false) (ho' : seen s [123] = true) (h1 : Reads 142 pb T ge s s1 V) (w : World) (h : PAt w pb T s ge) :
    Calls Tryz.prog 108 #[.pointer (some ⟨pb, 0, none⟩)] w fun en w' => ∃ v, en = .returned v ∧ RuleT 0 V w' v ∧ PAt w' pb T s1 ge ∧ Only (fun k => k = pb) w w' := by
  have hl := h.lt
  have hp0 := Reads.alloc_at h (.cells #[.int .i64 0, .slice none 0 0, .slice none 0 0] 102)
  have HPb := hide (passes_no pb T s ge ⟨#[66, 69, 71, 73, 78]⟩ hb _ hp0)
  have HPe := hide (passes_no pb T s ge ⟨#[69, 78, 68]⟩ he _ hp0)
  have HSe := hide (sees_at pb T s ge ⟨#[123]⟩ true ho' _ hp0)
  have H1 := hide (h1 _ hp0)
  have HS := hide hS
  have HV3 := hide hV3
  clear h hb he ho' h1 hp0 hS hV3
  go_enter Tryz.func108, Tryz.ntmps108
  go_wp2_with fail
  refine (HPb.out).mono ?_
  rintro en w1 ⟨rfl, hw1⟩
  subst hw1
  go_wp2_with fail
  refine (HPe.out).mono ?_
  rintro en w1 ⟨rfl, hw1⟩
  subst hw1
  go_wp2_with fail
  refine (HSe.out).mono ?_
  rintro en w1 ⟨rfl, hw1⟩
  subst hw1
  go_wp2_with fail
  refine (H1.out).mono ?_
  rintro en w2 ⟨u, rfl, hu, hp2, ho2⟩
  obtain ⟨po, n, cap, rfl⟩ := HS.out _ _ hu
  have hb2 := (ho2.block w.heap.size (by simp) (by intro e; omega)).trans (new0 w (.cells #[.int .i64 0, .slice none 0 0, .slice none 0 0] 102))
  have q0 : w2.cell? ⟨w.heap.size, 0, none⟩ = some (.int .i64 0) := cell_of hb2 rfl
  have q1 : w2.cell? ⟨w.heap.size, 1, none⟩ = some (.slice none 0 0) := cell_of hb2 rfl
  have q2 : w2.cell? ⟨w.heap.size, 2, none⟩ = some (.slice none 0 0) := cell_of hb2 rfl
  have qf := free_of hb2
  have Hu := hide hu
  have HP2 := hide hp2
  have HB2 := hide hb2
  have HO2 := hide (fromAlloc ho2)
  have hpn : pb ≠ w.heap.size := by omega
  clear hu hp2 ho2 hb2 HPb HPe HSe H1
  go_wp2
  refine bodyPost_ret (v := .agg #[.int .i64 0, .slice none 0 0, .slice po n cap]) (by simp [results, Tryz.results108, go_sem, q0, q1, q2]) rfl ⟨_, rfl, ⟨_, rfl, ?_⟩, ?_, ?_⟩
  · refine HV3.out _ _ _ (fun k => k = w.heap.size) Hu.out ((((Only.refl (fun k => k = w.heap.size) w2).setCell (p := ⟨w.heap.size, 0, none⟩) (fun _ => rfl) _).setCell (p := ⟨w.heap.size, 1, none⟩) (fun _ => rfl) _).setCell (p := ⟨w.heap.size, 2, none⟩) (fun _ => rfl) _) ?_
    rintro k rfl
    exact ⟨_, _, HB2.out, by decide, by decide⟩
  · show _ = _
    rw [Below.heap_setCell _ _ _ _ hpn, Below.heap_setCell _ _ _ _ hpn, Below.heap_setCell _ _ _ _ hpn]
    exact HP2.out
  · exact ((HO2.out.setCell (p := ⟨w.heap.size, 0, none⟩) (fun h => absurd h (Nat.lt_irrefl _)) _).setCell (p := ⟨w.heap.size, 1, none⟩) (fun h => absurd h (Nat.lt_irrefl _)) _).setCell (p := ⟨w.heap.size, 2, none⟩) (fun h => absurd h (Nat.lt_irrefl _)) _
theorem info198 : (Tryz.prog.info? 102).map (fun i => (i.zero, i.size, i.bytes)) = some (some (.agg #[.int .i64 0, .slice none 0 0, .slice none 0 0]), 3, 56) := by kernel_rfl
end Go.Proofs.YtdbdbaepmdmnfaaGreatDoor

namespace Go.Proofs.YtdbdbaepmdmnfaaGreatDoor
open Go.RowKit
theorem fromDrew {D : Nat → Prop} {w w' : World} (h : Only D w.drew w') : Only D w w' := ⟨h.os, h.tape, h.output, h.size, h.block⟩
end Go.Proofs.YtdbdbaepmdmnfaaGreatDoor

namespace Go.Proofs.YtdbdbaepmdmnfaaGreatDoor
open Go.RowKit
set_option maxHeartbeats 1000000 in
theorem catch_idle (a b c : Addr) (w : World) :
    CallsD Tryz.prog 71 #[.pointer (some a), .pointer (some b), .pointer (some c)] .returning w fun e u' w' => e = .returned (.tuple #[]) ∧ u' = .returning ∧ w' = w := by
  refine callsD_of_wpS Tryz.func71 rfl fun c₀ cs hu => ?_
  apply wpS_seq
  apply wpS_region
  simp [wpOpsS, go_sem, recoverD, hu, Tryz.ntmps71, Exit.thenS]
  refine wpS_of_wp ?_
  go_wp2
  cases c₀
  simp_all [bodyPostS, results, Tryz.results71]
theorem newReader (T : ByteArray) (w : World) : Calls Tryz.prog 72 #[.string T] w fun en w' => en = .returned (.agg #[.string T, .int .i64 0, .bool false]) ∧ Only (fun _ => False) w w' := by
  go_enter Tryz.func72, Tryz.ntmps72
  go_wp2
  exact bodyPost_ret (v := .agg #[.string T, .int .i64 0, .bool false]) (by simp [results, Tryz.results72, go_sem]) rfl ⟨rfl, onlyA _ _⟩
/-- Where a parser begins. -/
def ts0 : TS := ⟨0, false, 0, ⟨#[]⟩, 0⟩
end Go.Proofs.YtdbdbaepmdmnfaaGreatDoor

