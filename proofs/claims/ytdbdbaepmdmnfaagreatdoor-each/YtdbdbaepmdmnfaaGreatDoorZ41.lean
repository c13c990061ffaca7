import Derived.Test.YtdbdbaepmdmnfaaGreatDoorZ36
import Derived.Test.YtdbdbaepmdmnfaaGreatDoorZ11
import Derived.Test.YtdbdbaepmdmnfaaGreatDoorZ35
import Derived.Test.YtdbdbaepmdmnfaaGreatDoorZ40
namespace Go.Proofs.YtdbdbaepmdmnfaaGreatDoor
open Go.RowKit
set_option maxRecDepth 20000 in
set_option maxHeartbeats 8000000 in
theorem grunE (T : ByteArray) (hT : T.size ≤ 30) (hT0 : 0 < T.size) (hno : ∀ b ∈ T.data.toList, b ≠ 10) (a : Addr) (w : World) (hse : SentF w a) (htab : Lib.TabIs Tryz.prog w "internal/strconv.uint64pow10" .u64 Lib.pow10Tab) : Calls Tryz.prog 28 #[.string FE, .string T, .int .i64 2000] w fun en w' => ∃ (g : Nat) (x : ByteArray), ((words [] T.data.toList).length ≤ 9 → x = ofB (outE (words [] T.data.toList))) ∧ en = .returned (.tuple #[.slice (some ⟨g, 0, none⟩) 1 1, .int .i64 0, .int .i64 0, .int .i64 0]) ∧ w'.heap[g]? = some (.cells #[.string ⟨#[]⟩, .string x] 41 (0, 0)) ∧ Only (fun _ => False) w w' := by
  have HRd := hide (readProgramE w)
  have HSe := hide hse
  have HTab := hide htab
  have hti : ¬ (400 : Int) < (T.size : Int) := by omega
  clear hse htab
  go_enter Tryz.func28, Tryz.ntmps28
  go_wp2_with fail
  refine (HRd.out).mono ?_
  rintro en w2 ⟨pb, v, rfl, ⟨rs, u, rfl, hrow, hu⟩, ho2⟩
  have hrow2 := hrow
  obtain ⟨rg, rcap, rfl, _, _⟩ := own_at hrow2 (by omega)
  have HRR : Hid (Calls Tryz.prog 41 #[.agg #[.slice none 0 0, .slice (some ⟨rg, 0, none⟩) 1 rcap], .string T, .int .i64 2000] (w2.alloc (.cells #[.slice none 0 0, .slice (some ⟨rg, 0, none⟩) 1 rcap] 60)) fun en w' => ∃ sb tv x, ((words [] T.data.toList).length ≤ 9 → x = outE (words [] T.data.toList)) ∧ x.length ≤ 3000 ∧ en = .returned (.agg #[.slice (some ⟨sb, 0, none⟩) 1 1, .int .i64 0, .nilIface]) ∧ w'.heap[sb]? = some (.cells #[.string ⟨#[]⟩, tv] 142 (0, 0)) ∧ w'.ownsRow 0 5 1 tv (ofB x).size (Lib.strCells (ofB x)) ∧ Only (fun _ => False) (w2.alloc (.cells #[.slice none 0 0, .slice (some ⟨rg, 0, none⟩) 1 rcap] 60)) w') := hide (by
    have hu2 := hu
    obtain ⟨vs, hl, h1, _, h4⟩ := hu2
    obtain ⟨r, cap, rfl, hrl, hrc⟩ := own_at h1 (by omega)
    exact runE T hT hT0 hno pb (.slice (some ⟨rg, 0, none⟩) 1 rcap) r cap _ (hrow.alloc _) (be_stab3 pb w2 _ _ (fun _ => False) hu (onlyA w2 _) (fun k e => e.elim)) (tab_only (tab_only HTab.out ho2) (onlyA w2 _)))
  have HO2 := hide ho2
  clear hrow hrow2 hu ho2 HRd hno
  go_wp2_with fail
  refine (HRR.out).mono ?_
  rintro en w4 ⟨sb, tv, x, hx1, hx2, rfl, hS, hown, ho4⟩
  have HX1 := hide hx1
  clear hx1 hx2
  generalize hout : ofB x = out at *
  have HOut := hide hout
  clear hout
  have hw4 : Only (fun _ => False) w w4 := (HO2.out.alloc _).trans ho4 (fun _ _ e => e)
  have hO4 : Only (fun _ => False) w (w4.alloc (.cells #[.slice (some ⟨sb, 0, none⟩) 1 1, .int .i64 0, .nilIface] 76)) := hw4.alloc _
  have hrowM : w4.ownsRow 0 5 1 tv out.data.toList.length (out.data.toList.map byV) := by rw [len_eq]; exact hown
  have HSt : Hid (∀ W, Only (fun _ => False) w4 W → Calls Tryz.prog 42 #[.slice (some ⟨sb, 0, none⟩) 1 1] W fun en w' => ∃ g, en = .returned (.slice (some ⟨g, 0, none⟩) 1 1) ∧ w'.heap[g]? = some (.cells #[.string ⟨#[]⟩, .string (ofB out.data.toList)] 41 (0, 0)) ∧ Only (fun _ => False) W w') := fun W hW => streams_ofL sb tv out.data.toList W ((hW.block sb (heap_lt hS) (fun e => e)).trans hS) (ownsRow_of hrowM (fun k hk => hW.block k (hrowM.lt k hk).2 (fun e => e)))
  have HEn : Hid (∀ W, Only (fun _ => False) w W → Calls Tryz.prog 43 #[.nilIface] W fun e w' => e = .returned (.int .i64 0) ∧ w' = W) := hide (fun W hW => errno_nil W (HSe.out.only hW).s)
  have HO4 := hide hO4
  clear hS hown ho4 hO4 HRR hrowM hw4
  have n0 : (w4.alloc (.cells #[.slice (some ⟨sb, 0, none⟩) 1 1, .int .i64 0, .nilIface] 76)).drew.cell? ⟨w4.heap.size, 0, none⟩ = some (.slice (some ⟨sb, 0, none⟩) 1 1) := cell_of (new0 w4 _) rfl
  have n1 : (w4.alloc (.cells #[.slice (some ⟨sb, 0, none⟩) 1 1, .int .i64 0, .nilIface] 76)).drew.cell? ⟨w4.heap.size, 1, none⟩ = some (.int .i64 0) := cell_of (new0 w4 _) rfl
  have n2 : (w4.alloc (.cells #[.slice (some ⟨sb, 0, none⟩) 1 1, .int .i64 0, .nilIface] 76)).drew.cell? ⟨w4.heap.size, 2, none⟩ = some (.nilIface) := cell_of (new0 w4 _) rfl
  go_upto_region 7 with fail
  go_region_held3 (fun W => W.cell? ⟨w4.heap.size, 0, none⟩ = some (.slice (some ⟨sb, 0, none⟩) 1 1) ∧ W.cell? ⟨w4.heap.size, 1, none⟩ = some (.int .i64 0) ∧ W.cell? ⟨w4.heap.size, 2, none⟩ = some (.nilIface)) (first | (refine ⟨?_, ?_, ?_⟩ <;> (with_reducible assumption)))
    (first | (go_at_call 42; refine (HSt.out _ (toDrew (onlyA w4 _))).mono ?_; rintro en w5 ⟨g, rfl, hg5, ho5⟩; have q0 := (ho5.cell (p := ⟨w4.heap.size, 0, none⟩) (by simp) (fun e => e)).trans n0; have q1 := (ho5.cell (p := ⟨w4.heap.size, 1, none⟩) (by simp) (fun e => e)).trans n1; have q2 := (ho5.cell (p := ⟨w4.heap.size, 2, none⟩) (by simp) (fun e => e)).trans n2; have HG5 := hide hg5; have HO5 : Hid (Only (fun _ => False) w w5) := HO4.out.trans (fromDrew ho5) (fun _ _ e => e); clear hg5 ho5) | (go_at_call 43; refine (HEn.out _ HO5.out).mono ?_; rintro en w' ⟨rfl, h3⟩; subst w'))
  all_goals
    go_wp2
    exact bodyPost_ret (v := .tuple #[.slice (some ⟨g, 0, none⟩) 1 1, .int .i64 0, .int .i64 0, .int .i64 0]) (by simp [results, Tryz.results28, go_sem]) rfl ⟨g, out, fun h => by rw [← HOut.out, HX1.out h], rfl, HG5.out, HO5.out⟩
set_option maxRecDepth 20000 in
set_option maxHeartbeats 4000000 in
theorem ran_ofE (p T : ByteArray) (Φ : ByteArray → Prop) (w : World) (h : ∀ W, Only (fun _ => False) w W → Calls Tryz.prog 28 #[.string p, .string T, .int .i64 2000] W fun en w' => ∃ (g : Nat) (x : ByteArray) (E : Int), en = .returned (.tuple #[.slice (some ⟨g, 0, none⟩) 1 1, .int .i64 0, .int .i64 E, .int .i64 0]) ∧ w'.heap[g]? = some (.cells #[.string ⟨#[]⟩, .string x] 41 (0, 0)) ∧ (E = 0 ∧ Φ x) ∧ Only (fun _ => False) W w') :
    Calls Tryz.prog 18 #[.string p, .string T, .int .i64 2000] w fun en w' => ∃ (g : Nat) (x : ByteArray), en = .returned (.agg #[.slice (some ⟨g, 0, none⟩) 1 1, .int .i64 0, .int .i64 0, .int .i64 0]) ∧ w'.heap[g]? = some (.cells #[.string ⟨#[]⟩, .string x] 41 (0, 0)) ∧ Φ x ∧ Only (fun _ => False) w w' := by
  have HR := hide h
  clear h
  go_enter Tryz.func18, Tryz.ntmps18
  go_wp2_with fail
  refine (HR.out _ (onlyA w _)).mono ?_
  rintro en w2 ⟨g, x, E, rfl, h1, ⟨rfl, h2⟩, ho⟩
  have hb := (ho.block w.heap.size (by simp) (fun e => e)).trans (new0 w _)
  have c0 : w2.cell? ⟨w.heap.size, 0, none⟩ = some (.slice none 0 0) := cell_of hb rfl
  have c1 : w2.cell? ⟨w.heap.size, 1, none⟩ = some (.int .i64 0) := cell_of hb rfl
  have c2 : w2.cell? ⟨w.heap.size, 2, none⟩ = some (.int .i64 0) := cell_of hb rfl
  have c3 : w2.cell? ⟨w.heap.size, 3, none⟩ = some (.int .i64 0) := cell_of hb rfl
  have hfr := free_of hb
  have hne : g ≠ w.heap.size := fun e => by
    rw [e, hb] at h1
    cases h1
  have HO := hide ((onlyA w _).trans ho (fun _ _ e => e))
  have H1 := hide h1
  have H2 := hide h2
  have HB := hide hb
  clear h1 h2 ho hb
  go_wp2_with (go_at_call 13; refine (numLaw _ _).mono ?_; rintro en w' ⟨rfl, h3⟩; subst w')
  refine bodyPost_ret (v := .agg #[.slice (some ⟨g, 0, none⟩) 1 1, .int .i64 0, .int .i64 0, .int .i64 0]) (by simp [results, Tryz.results18, go_sem, c0, c1, c2, c3]) rfl ?_
  have hst : ∀ (W : World) (o : Nat) (u : Value), W.heap[g]? = some (.cells #[.string ⟨#[]⟩, .string x] 41 (0, 0)) → (W.setCell ⟨w.heap.size, o, none⟩ u).heap[g]? = some (.cells #[.string ⟨#[]⟩, .string x] 41 (0, 0)) := fun W o u h => (Below.heap_setCell _ _ _ _ hne).trans h
  exact ⟨g, x, rfl, hst _ _ _ (hst _ _ _ (hst _ _ _ (hst _ _ _ H1.out))), H2.out, (((HO.out.setCell (fun h => absurd h (Nat.lt_irrefl _)) _).setCell (fun h => absurd h (Nat.lt_irrefl _)) _).setCell (fun h => absurd h (Nat.lt_irrefl _)) _).setCell (fun h => absurd h (Nat.lt_irrefl _)) _⟩
/-- What ran answers of Each's program. -/
theorem ranE (a : Addr) : RanE a := by
  intro line W h30 h0 hno hse htab
  refine (ran_ofE PE line (fun x => (words [] line.data.toList).length ≤ 9 → x = ofB (outE (words [] line.data.toList))) W (fun W' hW' => (grunE line h30 h0 hno a W' (hse.only hW') (tab_only htab hW')).mono ?_)).mono ?_
  · rintro en w' ⟨g, x, hx, e, hg, ho⟩
    exact ⟨g, x, 0, e, hg, ⟨rfl, hx⟩, ho⟩
  · rintro en w' ⟨g, x, e, hg, hx, ho⟩
    exact ⟨g, x, 0, 0, e, hg, fun h => ⟨rfl, hx h⟩, ho⟩
theorem eachOK_all (a : Addr) : EachOK a := eachOK a (ranE a)
end Go.Proofs.YtdbdbaepmdmnfaaGreatDoor

