import Derived.Test.YtdbdbaepmdmnfaaGreatDoorZ24
import Derived.Test.YtdbdbaepmdmnfaaGreatDoorZ16
import Derived.Test.YtdbdbaepmdmnfaaGreatDoorZ11
import Derived.Laws.OwnMore
import Derived.Test.YtdbdbaepmdmnfaaGreatDoorZ08
import Derived.Deep.RegionHeld3
namespace Go.Proofs.YtdbdbaepmdmnfaaGreatDoor
open Go.RowKit
variable {wT : World}
/-- The own call split without a separator, made. -/
def SplitK (I : Nat → World → Value → Prop) (B : Nat) (w : World) (v : Value) : Prop := ∃ pb tb ab x y z, v = .agg #[.func (.func 398) #[] #[.pointer (some ⟨pb, 0, none⟩), .pointer (some ⟨tb, 0, none⟩), .pointer (some ⟨ab, 0, none⟩)], .nilFunc] ∧ (B ≤ pb ∧ B ≤ tb ∧ B ≤ ab) ∧ w.heap[pb]? = some (.cells #[.func (.func 437) #[] #[]] 500 (0, 0)) ∧ w.heap[tb]? = some (.cells #[x, y] 338 (0, 0)) ∧ w.heap[ab]? = some (.cells #[z] 430 (0, 0)) ∧ I B w (.agg #[x, y]) ∧ ArrK 0 B w (.agg #[z])
theorem splitK_keeps {I : Nat → World → Value → Prop} (hI : KeepsE I) : KeepsE (SplitK I) where
  shape := fun _ _ _ ⟨_, _, _, _, _, _, e, _⟩ => ⟨_, _, e, rfl, rfl⟩
  keep := fun B w w' v ⟨pb, tb, ab, x, y, z, e, ⟨k1, k2, k3⟩, h1, h2, h3, h4, h5⟩ ho => ⟨pb, tb, ab, x, y, z, e, ⟨k1, k2, k3⟩, (ho.block pb (heap_lt h1) (by omega)).trans h1, (ho.block tb (heap_lt h2) (by omega)).trans h2, (ho.block ab (heap_lt h3) (by omega)).trans h3, hI.keep _ _ _ _ h4 ho, arrK_keep h5 ho⟩
  down := fun A B w v ⟨pb, tb, ab, x, y, z, e, ⟨k1, k2, k3⟩, h1, h2, h3, h4, h5⟩ hA => ⟨pb, tb, ab, x, y, z, e, ⟨by omega, by omega, by omega⟩, h1, h2, h3, hI.down _ _ _ _ h4 hA, arrK_down h5 hA⟩
set_option linter.unusedSimpArgs false in
set_option maxRecDepth 20000 in
set_option maxHeartbeats 16000000 in
theorem splitting_made (t : TypeId) (u : Value) (x : ByteArray) (a : Int) (I : Nat → World → Value → Prop) (hI : KeepsE I) (vs vs1 : VA) (a' : Array MapEntry) (hE : MakesE wT (.iface t u) I vs vs1) (hN : NumOK x 0 vs1.a a') (g cap : Nat) (hcap : 2 ≤ cap) (hg0 : wT.cell? ⟨g, 0, none⟩ = some (.iface t u)) (hg1 : wT.cell? ⟨g, 1, none⟩ = some (.iface 92 (.agg #[.string x, .int .i64 a]))) (hgl : g < wT.heap.size) (kb mv ma mf sg : Nat) (w : World) (h : MkV wT w kb mv ma mf sg vs) :
    Calls Tryz.prog 329 #[.pointer (some ⟨kb, 0, none⟩), .slice (some ⟨g, 0, none⟩) 2 cap] w fun en w' => ∃ v, en = .returned v ∧ SplitK I w.heap.size w' v ∧ MkV wT w' kb mv ma mf sg ⟨vs1.v, a'⟩ ∧ Only (fun q => q = mv ∨ q = ma) w w' := by
  have hmf := hmfT
  have hsf := hsfT
  have hsn := hsnT
  have ta : ∀ W, (Instr.typeAssert (.iface 92 (.agg #[.string x, .int .i64 a])) 238 92 true).run Tryz.prog W = .ok (.tuple #[.agg #[.string x, .int .i64 a], .bool true]) W := fun W => by kernel_rfl
  have hml := heap_lt h.v
  have hkl := heap_lt h.k
  have hal := heap_lt h.a
  have hw0 := h.t.size
  have hlv := h.lv
  have hla := h.la
  have g0 : w.cell? ⟨g, 0, none⟩ = some (.iface t u) := (h.t.cell (p := ⟨g, 0, none⟩) hgl (fun e => e)).trans hg0
  have g1 : w.cell? ⟨g, 1, none⟩ = some (.iface 92 (.agg #[.string x, .int .i64 a])) := (h.t.cell (p := ⟨g, 1, none⟩) hgl (fun e => e)).trans hg1
  have hgw : g < w.heap.size := Nat.lt_of_lt_of_le hgl hw0
  have hcI : (2 : Int) ≤ (cap : Int) := by omega
  obtain ⟨VS, e0, e1, e2, e3⟩ : ∃ VS : Nat → VA, VS 0 = vs ∧ VS 1 = vs1 ∧ VS 2 = ⟨vs1.v, a'⟩ ∧ VS 3 = ⟨vs1.v, a'⟩ := ⟨fun | 0 => vs | 1 => vs1 | 2 => ⟨vs1.v, a'⟩ | _ => ⟨vs1.v, a'⟩, rfl, rfl, rfl, rfl⟩
  have HR1 := hide (fun W (hW : MkV wT W kb mv ma mf sg (VS 0)) => hE kb mv ma mf sg W (e0 ▸ hW))
  have HR2 := hide (fun W (hW : MkV wT W kb mv ma mf sg (VS 1)) => arrk_made kb mv ma mf sg x 0 vs1 a' hN a W (e1 ▸ hW))
  have HR3 := hide (fun W po c => cutting_made (some ⟨kb, 0, none⟩) po c W)
  have HE0 := hide (show MkV wT w kb mv ma mf sg (VS 0) from e0 ▸ h)
  have HE1 := hide e1
  have HE2 := hide e2
  have HE3 := hide e3
  have HIk := hide hI
  clear h hI hE hg0 hg1 e0 e1 e2 e3
  go_enter Tryz.func329, Tryz.ntmps329
  go_wp2_with fail
  have n0 : ((w.alloc (.cells #[.nilFunc, .nilFunc] 338)).alloc (.cells #[.string x, .int .i64 a] 92)).drew.cell? ⟨g, 0, none⟩ = some (.iface t u) := past (past g0 _) _
  have n1 : ((w.alloc (.cells #[.nilFunc, .nilFunc] 338)).alloc (.cells #[.string x, .int .i64 a] 92)).drew.cell? ⟨w.heap.size + 1, 0, none⟩ = some (.string x) := cell_of (heapD (new_at2 (by simp) _)) rfl
  have n2 : ((w.alloc (.cells #[.nilFunc, .nilFunc] 338)).alloc (.cells #[.string x, .int .i64 a] 92)).drew.cell? ⟨w.heap.size + 1, 1, none⟩ = some (.int .i64 a) := cell_of (heapD (new_at2 (by simp) _)) rfl
  go_cut [7, 8, 9] (fun s7 s8 s9 wc => ∃ tb ab pb x1 y1 z, s7 = .pointer (some ⟨tb, 0, none⟩) ∧ s8 = .pointer (some ⟨ab, 0, none⟩) ∧ s9 = .pointer (some ⟨pb, 0, none⟩) ∧ (w.heap.size + 1 < tb ∧ w.heap.size + 1 < ab ∧ w.heap.size + 1 < pb) ∧ wc.heap[tb]? = some (.cells #[x1, y1] 338 (0, 0)) ∧ wc.heap[ab]? = some (.cells #[z] 430 (0, 0)) ∧ wc.heap[pb]? = some (.cells #[.func (.func 437) #[] #[]] 500 (0, 0)) ∧ I (w.heap.size + 1 + 1) wc (.agg #[x1, y1]) ∧ ArrK 0 (w.heap.size + 1 + 1) wc (.agg #[z]) ∧ MkV wT wc kb mv ma mf sg ⟨vs1.v, a'⟩ ∧ wc.heap[w.heap.size]? = some (.cells #[.nilFunc, .nilFunc] 338 (0, 0)) ∧ Only (fun q => q = mv ∨ q = ma) w wc)
  case first =>
    have hw1 : w.heap.size + 1 < ((w.alloc (.cells #[.nilFunc, .nilFunc] 338)).alloc (.cells #[.string x, .int .i64 a] 92)).drew.heap.size := by simp <;> omega
    have hw2 : ¬ (w.heap.size + 1 = mv ∨ w.heap.size + 1 = ma) := by omega
    have hw3 : g < ((w.alloc (.cells #[.nilFunc, .nilFunc] 338)).alloc (.cells #[.string x, .int .i64 a] 92)).drew.heap.size := by simp <;> omega
    have hw4 : ¬ (g = mv ∨ g = ma) := by omega
    have hDb : ∀ q, (q = mv ∨ q = ma) → q < (w.heap.size + 1 + 1) := fun q e => by omega
    have hz0 : (w.heap.size + 1 + 1) ≤ ((w.alloc (.cells #[.nilFunc, .nilFunc] 338)).alloc (.cells #[.string x, .int .i64 a] 92)).drew.heap.size := by simp
    refine wp_region_held_drew (S := fun W => W.cell? ⟨g, 0, none⟩ = some (.iface t u) ∧ W.cell? ⟨w.heap.size + 1, 0, none⟩ = some (.string x) ∧ W.cell? ⟨w.heap.size + 1, 1, none⟩ = some (.int .i64 a)) (by kernel_rfl) ⟨n0, n1, n2⟩ (fun hHeld => ?_)
    refine wpAnyH_take (i := 0) (v := ?_) rfl (by kernel_rfl) (by kernel_rfl) (by kernel_rfl) (fun _ _ _ h => h) (Or.inl ⟨by rfl, ?_⟩) (by assumption) ?_; rotate_left; (focus (intro w hSw; (try dsimp only at hSw); go_simp; (try with_reducible rfl))); (try simp only [Act.put, List.getElem_toArray, List.getElem_cons_zero, List.getElem_cons_succ, List.setIfInBounds_toArray, List.set_cons_zero, List.set_cons_succ])
    refine wpAnyH_take (i := 1) (v := ?_) rfl (by kernel_rfl) (by kernel_rfl) (by kernel_rfl) (fun _ _ _ h => h) (Or.inl ⟨by rfl, ?_⟩) (by assumption) ?_; rotate_left; (focus (intro w hSw; (try dsimp only at hSw); go_simp; (try with_reducible rfl))); (try simp only [Act.put, List.getElem_toArray, List.getElem_cons_zero, List.getElem_cons_succ, List.setIfInBounds_toArray, List.set_cons_zero, List.set_cons_succ])
    refine wpAnyH_take (i := 2) (v := ?_) rfl (by kernel_rfl) (by kernel_rfl) (by kernel_rfl) (fun _ _ _ h => h) (Or.inl ⟨by rfl, ?_⟩) (by assumption) ?_; rotate_left; (focus (intro w hSw; (try dsimp only at hSw); go_simp; (try with_reducible rfl))); (try simp only [Act.put, List.getElem_toArray, List.getElem_cons_zero, List.getElem_cons_succ, List.setIfInBounds_toArray, List.set_cons_zero, List.set_cons_succ])
    refine wpAnyH_take (i := 3) (v := ?_) rfl (by kernel_rfl) (by kernel_rfl) (by kernel_rfl) (fun _ _ _ h => h) (Or.inl ⟨by rfl, ?_⟩) (by assumption) ?_; rotate_left; (focus (intro w hSw; (try dsimp only at hSw); go_simp; (try with_reducible rfl))); (try simp only [Act.put, List.getElem_toArray, List.getElem_cons_zero, List.getElem_cons_succ, List.setIfInBounds_toArray, List.set_cons_zero, List.set_cons_succ])
    refine wpAnyH_take (i := 5) (v := ?_) rfl (by kernel_rfl) (by kernel_rfl) (by kernel_rfl) (fun _ _ _ h => h) (Or.inl ⟨by rfl, ?_⟩) (by assumption) ?_; rotate_left; (focus (intro w hSw; (try dsimp only at hSw); go_simp; (try with_reducible rfl))); (try simp only [Act.put, List.getElem_toArray, List.getElem_cons_zero, List.getElem_cons_succ, List.setIfInBounds_toArray, List.set_cons_zero, List.set_cons_succ])
    refine wpAnyH_take (i := 6) (v := ?_) rfl (by kernel_rfl) (by kernel_rfl) (by kernel_rfl) (fun _ _ _ h => h) (Or.inl ⟨by rfl, ?_⟩) (by assumption) ?_; rotate_left; (focus (intro w hSw; (try dsimp only at hSw); go_simp; (try with_reducible rfl))); (try simp only [Act.put, List.getElem_toArray, List.getElem_cons_zero, List.getElem_cons_succ, List.setIfInBounds_toArray, List.set_cons_zero, List.set_cons_succ])
    refine wpAnyH_take (i := 8) (v := ?_) rfl (by kernel_rfl) (by kernel_rfl) (by kernel_rfl) (fun _ _ _ h => h) (Or.inl ⟨by rfl, ?_⟩) (by assumption) ?_; rotate_left; (focus (intro w hSw; (try dsimp only at hSw); go_simp; (try with_reducible rfl))); (try simp only [Act.put, List.getElem_toArray, List.getElem_cons_zero, List.getElem_cons_succ, List.setIfInBounds_toArray, List.set_cons_zero, List.set_cons_succ])
    refine wpAnyH_take (i := 9) (v := ?_) rfl (by kernel_rfl) (by kernel_rfl) (by kernel_rfl) (fun _ _ _ h => h) (Or.inl ⟨by rfl, ?_⟩) (by assumption) ?_; rotate_left; (focus (intro w hSw; (try dsimp only at hSw); go_simp; (try with_reducible rfl))); (try simp only [Act.put, List.getElem_toArray, List.getElem_cons_zero, List.getElem_cons_succ, List.setIfInBounds_toArray, List.set_cons_zero, List.set_cons_succ])
    refine wpAnyH_take (i := 10) (v := ?_) rfl (by kernel_rfl) (by kernel_rfl) (by kernel_rfl) (fun _ _ _ h => h) (Or.inl ⟨by rfl, ?_⟩) (by assumption) ?_; rotate_left; (focus (intro w hSw; (try dsimp only at hSw); go_simp; (try with_reducible rfl))); (try simp only [Act.put, List.getElem_toArray, List.getElem_cons_zero, List.getElem_cons_succ, List.setIfInBounds_toArray, List.set_cons_zero, List.set_cons_succ])
    generalize (if cap = 2 then some (⟨g, 0, none⟩ : Addr) else some ⟨g, 2, none⟩) = po
    refine boxes3_go (fun c m1 m2 m3 => #[true, true, true, true, decide (0 < c), true, true, decide (1 < c), true, true, true, decide (2 < c), m1, m2, m3, false, false, false]) (fun c => 3 + 4 * c + (1 - c)) 12 13 14 3 _ _ _ _ (fun c m1 m2 m3 A W => ∃ x1 x2 x3 p1 p2 p3, A = ⟨#[.pointer (some ⟨kb, 0, none⟩), .slice (some ⟨g, 0, none⟩) 2 cap, undef, undef, .pointer (some ⟨w.heap.size, 0, none⟩), .pointer (some ⟨w.heap.size + 1, 0, none⟩), .bool true, p1, p2, p3, .tuple #[.agg #[.string x, .int .i64 a], .bool true], .slice (some ⟨g, 0, none⟩) 2 cap, .pointer (some ⟨g, 1, none⟩), .iface 92 (.agg #[.string x, .int .i64 a]), .tuple #[.agg #[.string x, .int .i64 a], .bool true], .agg #[.string x, .int .i64 a], .bool true, .pointer (some ⟨kb, 0, none⟩), .slice (some ⟨g, 0, none⟩) 2 cap, .pointer (some ⟨g, 0, none⟩), .iface t u, x1, .pointer (some ⟨kb, 0, none⟩), .agg #[.string x, .int .i64 a], x2, .pointer (some ⟨kb, 0, none⟩), .slice (some ⟨g, 0, none⟩) 2 cap, .slice po 0 (cap - 2), x3, undef, undef], []⟩ ∧ BoxAt (w.heap.size + 1 + 1) #[.nilFunc, .nilFunc] 338 m1 W p1 ∧ BoxAt (w.heap.size + 1 + 1) #[.nilFunc] 430 m2 W p2 ∧ BoxAt (w.heap.size + 1 + 1) #[.nilFunc] 500 m3 W p3 ∧ (0 < c → ResAt (w.heap.size + 1 + 1) (fun W v => I (w.heap.size + 1 + 1) W v) m1 m2 m3 p1 p2 p3 W x1) ∧ (1 < c → ResAt (w.heap.size + 1 + 1) (fun W v => ArrK 0 (w.heap.size + 1 + 1) W v) m1 m2 m3 p1 p2 p3 W x2) ∧ (2 < c → ResAt (w.heap.size + 1 + 1) (fun _ v => v = .func (.func 437) #[] #[]) m1 m2 m3 p1 p2 p3 W x3) ∧ MkV wT W kb mv ma mf sg (VS c) ∧ Only (fun q => q = mv ∨ q = ma) ((w.alloc (.cells #[.nilFunc, .nilFunc] 338)).alloc (.cells #[.string x, .int .i64 a] 92)).drew W) rfl (by kernel_rfl) ?hr ?hsc ?hs1 ?hs2 ?hs3 ?hI ?hc ?h1 ?h2 ?h3 ?he
    case hr =>
      intro c m1 m2 m3 hc
      have hcc : c = 0 ∨ c = 1 ∨ c = 2 ∨ c = 3 := by omega
      rcases hcc with rfl | rfl | rfl | rfl <;> cases m1 <;> cases m2 <;> cases m3 <;> first | exact Or.inr ⟨rfl, rfl, rfl, rfl⟩ | exact Or.inl (by kernel_rfl)
    case hsc =>
      intro c m1 m2 m3 hc
      have hcc : c = 0 ∨ c = 1 ∨ c = 2 := by omega
      rcases hcc with rfl | rfl | rfl <;> rfl
    case hs1 => exact fun c m2 m3 _ => rfl
    case hs2 => exact fun c m1 m3 _ => rfl
    case hs3 => exact fun c m1 m2 _ => rfl
    case hI => exact ⟨undef, undef, undef, undef, undef, undef, rfl, BoxAt.no, BoxAt.no, BoxAt.no, fun h => absurd h (by omega), fun h => absurd h (by omega), fun h => absurd h (by omega), MkV.drewV ((HE0.out.allocV _).allocV _), Only.refl _ _⟩
    case hc =>
      intro c m1 m2 m3 A W hc
      rintro ⟨x1, x2, x3, p1, p2, p3, rfl, b1, b2, b3, r1, r2, r3, hk, ho⟩
      have hcc : c = 0 ∨ c = 1 ∨ c = 2 := by omega
      have hbw : (w.heap.size + 1 + 1) ≤ W.heap.size := Nat.le_trans hz0 ho.size
      rcases hcc with rfl | rfl | rfl
      · refine wpOp_step rfl (fun J hJ => ?_)
        have HJ := Shut.mk' hJ
        clear hJ
        go_simp
        go_at_call 163
        refine (HR1.out W hk).mono ?_
        rintro en w2 ⟨v, rfl, hv, hk2, ho2⟩
        refine HJ.out _ _ ⟨?_, v, x2, x3, p1, p2, p3, rfl, b1.keep ho2 hDb, b2.keep ho2 hDb, b3.keep ho2 hDb, fun _ => ?_, fun h => absurd h (by omega), fun h => absurd h (by omega), HE1.out ▸ hk2, ho.trans ho2 (fun _ _ e => e)⟩
        · have HOo := ho.trans ho2 (fun _ _ e => e)
          exact ⟨(HOo.cell (p := ⟨g, 0, none⟩) hw3 hw4).trans n0, (HOo.cell (p := ⟨w.heap.size + 1, 0, none⟩) hw1 hw2).trans n1, (HOo.cell (p := ⟨w.heap.size + 1, 1, none⟩) hw1 hw2).trans n2⟩
        · exact ResAt.made (W := W) (fun w'' h => HIk.out.down _ _ _ _ (HIk.out.keep _ _ _ _ hv h) hbw) hbw b1 b2 b3
      · refine wpOp_step rfl (fun J hJ => ?_)
        have HJ := Shut.mk' hJ
        clear hJ
        go_simp
        go_at_call 277
        refine (HR2.out W hk).mono ?_
        rintro en w2 ⟨v, rfl, hv, hk2, ho2⟩
        refine HJ.out _ _ ⟨?_, x1, v, x3, p1, p2, p3, rfl, b1.keep ho2 hDb, b2.keep ho2 hDb, b3.keep ho2 hDb, fun _ => (r1 (by omega)).keep ho2 hDb, fun _ => ?_, fun h => absurd h (by omega), HE2.out ▸ hk2, ho.trans ho2 (fun _ _ e => e)⟩
        · have HOo := ho.trans ho2 (fun _ _ e => e)
          exact ⟨(HOo.cell (p := ⟨g, 0, none⟩) hw3 hw4).trans n0, (HOo.cell (p := ⟨w.heap.size + 1, 0, none⟩) hw1 hw2).trans n1, (HOo.cell (p := ⟨w.heap.size + 1, 1, none⟩) hw1 hw2).trans n2⟩
        · exact ResAt.made (W := W) (fun w'' h => arrK_down (arrK_keep hv h) hbw) hbw b1 b2 b3
      · refine wpOp_step rfl (fun J hJ => ?_)
        have HJ := Shut.mk' hJ
        clear hJ
        go_simp
        go_at_call 397
        refine (HR3.out W _ _).mono ?_
        rintro en w2 ⟨rfl, hw⟩
        subst w2
        refine HJ.out _ _ ⟨?_, x1, x2, _, p1, p2, p3, rfl, b1, b2, b3, fun _ => r1 (by omega), fun _ => r2 (by omega), fun _ => ?_, (HE3.out.trans HE2.out.symm) ▸ hk, ho⟩
        · have HOo := ho
          exact ⟨(HOo.cell (p := ⟨g, 0, none⟩) hw3 hw4).trans n0, (HOo.cell (p := ⟨w.heap.size + 1, 0, none⟩) hw1 hw2).trans n1, (HOo.cell (p := ⟨w.heap.size + 1, 1, none⟩) hw1 hw2).trans n2⟩
        · exact ResAt.made (W := W) (fun w'' h => rfl) hbw b1 b2 b3
    case h1 =>
      intro c m2 m3 A W hc
      rintro ⟨x1, x2, x3, p1, p2, p3, rfl, b1, b2, b3, r1, r2, r3, hk, ho⟩
      have hbw : (w.heap.size + 1 + 1) ≤ W.heap.size := Nat.le_trans hz0 ho.size
      refine wpOp_step rfl (fun J hJ => ?_)
      have HJ := Shut.mk' hJ
      clear hJ
      go_simp
      refine HJ.out _ _ ⟨?_, x1, x2, x3, _, p2, p3, rfl, BoxAt.new hbw, b2.alloc _, b3.alloc _, fun h => (r1 h).box1 _, fun h => (r2 h).box1 _, fun h => (r3 h).box1 _, hk.allocV _, ho.alloc _⟩
      have HOo := ho.alloc (.cells #[.nilFunc, .nilFunc] 338)
      exact ⟨(HOo.cell (p := ⟨g, 0, none⟩) hw3 hw4).trans n0, (HOo.cell (p := ⟨w.heap.size + 1, 0, none⟩) hw1 hw2).trans n1, (HOo.cell (p := ⟨w.heap.size + 1, 1, none⟩) hw1 hw2).trans n2⟩
    case h2 =>
      intro c m1 m3 A W hc
      rintro ⟨x1, x2, x3, p1, p2, p3, rfl, b1, b2, b3, r1, r2, r3, hk, ho⟩
      have hbw : (w.heap.size + 1 + 1) ≤ W.heap.size := Nat.le_trans hz0 ho.size
      refine wpOp_step rfl (fun J hJ => ?_)
      have HJ := Shut.mk' hJ
      clear hJ
      go_simp
      refine HJ.out _ _ ⟨?_, x1, x2, x3, p1, _, p3, rfl, b1.alloc _, BoxAt.new hbw, b3.alloc _, fun h => (r1 h).box2 _, fun h => (r2 h).box2 _, fun h => (r3 h).box2 _, hk.allocV _, ho.alloc _⟩
      have HOo := ho.alloc (.cells #[.nilFunc] 430)
      exact ⟨(HOo.cell (p := ⟨g, 0, none⟩) hw3 hw4).trans n0, (HOo.cell (p := ⟨w.heap.size + 1, 0, none⟩) hw1 hw2).trans n1, (HOo.cell (p := ⟨w.heap.size + 1, 1, none⟩) hw1 hw2).trans n2⟩
    case h3 =>
      intro c m1 m2 A W hc
      rintro ⟨x1, x2, x3, p1, p2, p3, rfl, b1, b2, b3, r1, r2, r3, hk, ho⟩
      have hbw : (w.heap.size + 1 + 1) ≤ W.heap.size := Nat.le_trans hz0 ho.size
      refine wpOp_step rfl (fun J hJ => ?_)
      have HJ := Shut.mk' hJ
      clear hJ
      go_simp
      refine HJ.out _ _ ⟨?_, x1, x2, x3, p1, p2, _, rfl, b1.alloc _, b2.alloc _, BoxAt.new hbw, fun h => (r1 h).box3 _, fun h => (r2 h).box3 _, fun h => (r3 h).box3 _, hk.allocV _, ho.alloc _⟩
      have HOo := ho.alloc (.cells #[.nilFunc] 500)
      exact ⟨(HOo.cell (p := ⟨g, 0, none⟩) hw3 hw4).trans n0, (HOo.cell (p := ⟨w.heap.size + 1, 0, none⟩) hw1 hw2).trans n1, (HOo.cell (p := ⟨w.heap.size + 1, 1, none⟩) hw1 hw2).trans n2⟩
    case he =>
      intro A W
      rintro ⟨x1, x2, x3, p1, p2, p3, rfl, b1, b2, b3, r1, r2, r3, hk, ho⟩
      obtain ⟨q1, rfl, l1, h1⟩ := b1 rfl
      obtain ⟨q2, rfl, l2, h2⟩ := b2 rfl
      obtain ⟨q3, rfl, l3, h3⟩ := b3 rfl
      have R1 := r1 (by omega)
      have R2 := r2 (by omega)
      have R3 := r3 (by omega)
      obtain ⟨u1, y1, rfl, hu1, hy1⟩ := HIk.out.shape _ _ _ R1.now
      have hA2 := R2.now
      unfold ArrK at hA2
      obtain ⟨nb, rfl, _, _⟩ := hA2
      obtain rfl := R3.now
      have d12 : q1 ≠ q2 := fun e => by rw [e, h2] at h1; cases h1
      have d13 : q1 ≠ q3 := fun e => by rw [e, h3] at h1; cases h1
      have d23 : q2 ≠ q3 := fun e => by rw [e, h3] at h2; cases h2
      have g1 := heap_lt h1
      have g2 := heap_lt h2
      have g3 := heap_lt h3
      have c10 := cell_of (o := 0) h1 rfl
      have c11 := cell_of (o := 1) h1 rfl
      have c20 := cell_of (o := 0) h2 rfl
      have c30 := cell_of (o := 0) h3 rfl
      have f1 := free_of h1
      have f2 := free_of h2
      have f3 := free_of h3
      have d21 := Ne.symm d12
      have d31 := Ne.symm d13
      have d32 := Ne.symm d23
      have s1 : ∀ (a : Addr) (W : World), (store a u1).run Tryz.prog W = stored Tryz.prog W a u1 .plain := fun a W => run_store _ W a _ _ hu1
      have s2 : ∀ (a : Addr) (W : World), (store a y1).run Tryz.prog W = stored Tryz.prog W a y1 .plain := fun a W => run_store _ W a _ _ hy1
      have H1 := hide h1
      have H2 := hide h2
      have H3 := hide h3
      have HR1 := hide R1
      have HR2 := hide R2
      have HKk := hide hk
      have HO := hide ho
      have t0 := (ho.cell (p := ⟨g, 0, none⟩) hw3 hw4).trans n0
      have t1 := (ho.cell (p := ⟨w.heap.size + 1, 0, none⟩) hw1 hw2).trans n1
      have t2 := (ho.cell (p := ⟨w.heap.size + 1, 1, none⟩) hw1 hw2).trans n2
      clear h1 h2 h3 R1 R2 r1 r2 r3 b1 b2 b3 hk ho
      refine wpAnyH_ready (rs := [15]) (by kernel_rfl) (by simp) (AllReadyH.cons rfl (fun J hJ => ?_) AllReadyH.nil)
      go_simp
      refine hJ.out _ _ ?_ (fun hHeld => ?_)
      · (repeat (first | (with_reducible assumption) | ((with_reducible refine farC ?_ ?_); (rotate_left; focus (simp <;> omega))) | (with_reducible refine And.intro ?_ ?_)))
      clear hJ J
      (try simp only [Act.put, List.getElem_toArray, List.getElem_cons_zero, List.getElem_cons_succ, List.setIfInBounds_toArray, List.set_cons_zero, List.set_cons_succ])
      refine wpAnyH_ready (rs := [16]) (by kernel_rfl) (by simp) (AllReadyH.cons rfl (fun J hJ => ?_) AllReadyH.nil)
      go_simp
      refine hJ.out _ _ ?_ (fun hHeld => ?_)
      · (repeat (first | (with_reducible assumption) | ((with_reducible refine farC ?_ ?_); (rotate_left; focus (simp <;> omega))) | (with_reducible refine And.intro ?_ ?_)))
      clear hJ J
      (try simp only [Act.put, List.getElem_toArray, List.getElem_cons_zero, List.getElem_cons_succ, List.setIfInBounds_toArray, List.set_cons_zero, List.set_cons_succ])
      refine wpAnyH_ready (rs := [17]) (by kernel_rfl) (by simp) (AllReadyH.cons rfl (fun J hJ => ?_) AllReadyH.nil)
      go_simp
      refine hJ.out _ _ ?_ (fun hHeld => ?_)
      · (repeat (first | (with_reducible assumption) | ((with_reducible refine farC ?_ ?_); (rotate_left; focus (simp <;> omega))) | (with_reducible refine And.intro ?_ ?_)))
      clear hJ J
      (try simp only [Act.put, List.getElem_toArray, List.getElem_cons_zero, List.getElem_cons_succ, List.setIfInBounds_toArray, List.set_cons_zero, List.set_cons_succ])
      refine wpAnyH_done (by kernel_rfl) ?_ _
      go_wp2_with fail
      go_meet
      have hA : Only (fun q => q = q1 ∨ q = q2 ∨ q = q3) W ((((W.setCell ⟨q1, 0, none⟩ u1).setCell ⟨q1, 1, none⟩ y1).setCell ⟨q2, 0, none⟩ (.func (.func 371) #[] #[.pointer (some ⟨nb, 0, none⟩)])).setCell ⟨q3, 0, none⟩ (.func (.func 437) #[] #[])) := ((((Only.refl _ W).setCell (p := ⟨q1, 0, none⟩) (fun _ => Or.inl rfl) _).setCell (p := ⟨q1, 1, none⟩) (fun _ => Or.inl rfl) _).setCell (p := ⟨q2, 0, none⟩) (fun _ => Or.inr (Or.inl rfl)) _).setCell (p := ⟨q3, 0, none⟩) (fun _ => Or.inr (Or.inr rfl)) _
      refine ⟨q1, q2, q3, u1, y1, _, rfl, rfl, rfl, ⟨by omega, by omega, by omega⟩, ?_, ?_, ?_, HR1.out.end hA, HR2.out.end hA, ?_, ?_, ?_⟩
      · exact (Below.heap_setCell _ _ _ _ d13).trans ((Below.heap_setCell _ _ _ _ d12).trans (setP2 H1.out _ _))
      · exact (Below.heap_setCell _ _ _ _ d23).trans (setP1 ((Below.heap_setCell _ _ _ _ d21).trans ((Below.heap_setCell _ _ _ _ d21).trans H2.out)) _)
      · exact setP1 ((Below.heap_setCell _ _ _ _ d32).trans ((Below.heap_setCell _ _ _ _ d31).trans ((Below.heap_setCell _ _ _ _ d31).trans H3.out))) _
      · exact (((((HE3.out ▸ HKk.out : MkV wT W kb mv ma mf sg ⟨vs1.v, a'⟩).setV _ _ _ (by omega) (by omega) (by omega) (by omega)).setV _ _ _ (by omega) (by omega) (by omega) (by omega)).setV _ _ _ (by omega) (by omega) (by omega) (by omega)).setV _ _ _ (by omega) (by omega) (by omega) (by omega))
      · exact (hA.block _ (Nat.lt_of_lt_of_le (by simp; omega) HO.out.size) (by omega)).trans ((HO.out.block _ (by simp; omega) (by omega)).trans (heapD ((Below.heap_alloc _ _ _ (by simp)).trans (new0 w _))))
      · exact ((toDrew (((Only.refl (fun q => q = mv ∨ q = ma) w).alloc _).alloc _)).trans HO.out (fun _ _ e => e)).trans hA (fun q hq e => absurd hq (by omega))
  case rest =>
    obtain ⟨tb, ab, pb, x1, y1, z, rfl, rfl, rfl, ⟨l1, l2, l3⟩, h1, h2, h3, h4, h5, h7, h8, ho⟩ := hcut
    have r0 : wc.cell? ⟨w.heap.size, 0, none⟩ = some .nilFunc := cell_of h8 rfl
    have r1 : wc.cell? ⟨w.heap.size, 1, none⟩ = some .nilFunc := cell_of h8 rfl
    have rf := free_of h8
    have rl := heap_lt h8
    have H1 := hide h1
    have H2 := hide h2
    have H3 := hide h3
    have H4 := hide h4
    have H5 := hide h5
    have H7 := hide h7
    have H8 := hide h8
    have HO := hide ho
    clear h1 h2 h3 h4 h5 h7 h8 ho HR1 HR2 HR3 HE0 HE1 HE2 HE3 n0 n1 n2
    go_wp2
    have hF : Only (fun q => q = w.heap.size) wc ((wc.setCell ⟨w.heap.size, 0, none⟩ (.func (.func 398) #[] #[.pointer (some ⟨pb, 0, none⟩), .pointer (some ⟨tb, 0, none⟩), .pointer (some ⟨ab, 0, none⟩)])).setCell ⟨w.heap.size, 1, none⟩ .nilFunc) := ((Only.refl (fun q => q = w.heap.size) wc).setCell (p := ⟨w.heap.size, 0, none⟩) (fun _ => rfl) _).setCell (p := ⟨w.heap.size, 1, none⟩) (fun _ => rfl) _
    refine bodyPost_ret (v := .agg #[.func (.func 398) #[] #[.pointer (some ⟨pb, 0, none⟩), .pointer (some ⟨tb, 0, none⟩), .pointer (some ⟨ab, 0, none⟩)], .nilFunc]) (by simp [results, Tryz.results329, go_sem, r0, r1]) rfl ⟨_, rfl, ⟨pb, tb, ab, x1, y1, z, rfl, ⟨by omega, by omega, by omega⟩, (hF.block pb (heap_lt H3.out) (by omega)).trans H3.out, (hF.block tb (heap_lt H1.out) (by omega)).trans H1.out, (hF.block ab (heap_lt H2.out) (by omega)).trans H2.out, HIk.out.down _ _ _ _ (HIk.out.keep _ _ _ _ H4.out (hF.mono (fun i _ e => by omega))) (by omega), arrK_down (arrK_keep H5.out (hF.mono (fun i _ e => by omega))) (by omega)⟩, H7.out.far hF (by omega) (by omega) (by omega) (by omega), ?_⟩
    exact HO.out.trans hF (fun i hi e => absurd hi (by omega))
/-- The own call split, made. -/
theorem makesE_split (t : TypeId) (u : Value) (x : ByteArray) (a a0 : Int) (I : Nat → World → Value → Prop) (hI : KeepsE I) (vs vs1 : VA) (a' : Array MapEntry) (hE : MakesE wT (.iface t u) I vs vs1) (hN : NumOK x 0 vs1.a a') (g cap : Nat) (hcap : 2 ≤ cap) (hg0 : wT.cell? ⟨g, 0, none⟩ = some (.iface t u)) (hg1 : wT.cell? ⟨g, 1, none⟩ = some (.iface 92 (.agg #[.string x, .int .i64 a]))) (hgl : g < wT.heap.size) : MakesE wT (.iface 312 (.agg #[.string ⟨#[115, 112, 108, 105, 116]⟩, .int .i64 a0, .slice (some ⟨g, 0, none⟩) 2 cap])) (SplitK I) vs ⟨vs1.v, a'⟩ :=
  mkx_own _ a0 _ 2 cap (SplitK I) (splitK_keeps hI) vs ⟨vs1.v, a'⟩ (fun kb mv ma mf sg W hW => own_split a0 _ 2 cap (SplitK I) (splitK_keeps hI) vs ⟨vs1.v, a'⟩ (fun kb mv ma mf sg W hW => splitting_made t u x a I hI vs vs1 a' hE hN g cap hcap hg0 hg1 hgl kb mv ma mf sg W hW) kb mv ma mf sg W hW)
end Go.Proofs.YtdbdbaepmdmnfaaGreatDoor

namespace Go.Proofs.YtdbdbaepmdmnfaaGreatDoor
open Go.RowKit
/-- A function enters. -/
def Enters (F : Nat) : Prop := ∀ (args : Array Value) (w : World), (callFunc F args).run Tryz.prog w = .ok (.enter F args) w
/-- An expression's function works a value out, and turns nothing. -/
def Gives (p : Pl8) (s : St8) (x r : Value) : Prop := ∃ (F : Nat) (caps : List Value), x = .func (.func F) #[] caps.toArray ∧ Enters F ∧ ∀ W, On8 p s W → Calls Tryz.prog F (.pointer (some ⟨p.m, 0, none⟩) :: caps).toArray W fun en w' => en = .returned r ∧ Only (fun _ => False) W w'
/-- A place that was found: what takes and what stores, by the box of its key. -/
def PlaceK (p : Pl8) (ft fst : Nat) (kt : TypeId) (kc : Array Value) (W : World) (tk st : Value) : Prop := ∃ b2 nb, tk = .func (.func ft) #[] #[.pointer (some ⟨b2, 0, none⟩), .pointer (some ⟨nb, 0, none⟩)] ∧ st = .func (.func fst) #[] #[.pointer (some ⟨b2, 0, none⟩), .pointer (some ⟨nb, 0, none⟩)] ∧ W.heap[b2]? = some (.cells #[.pointer (some ⟨p.m, 0, none⟩)] 130 (0, 0)) ∧ W.heap[nb]? = some (.cells kc kt (0, 0))
theorem PlaceK.calm {p : Pl8} {ft fst : Nat} {kt : TypeId} {kc : Array Value} {W W' : World} {tk st : Value} (h : PlaceK p ft fst kt kc W tk st) (ho : Only (fun _ => False) W W') : PlaceK p ft fst kt kc W' tk st := by
  obtain ⟨b2, nb, e1, e2, h1, h2⟩ := h
  exact ⟨b2, nb, e1, e2, (ho.block b2 (heap_lt h1) (fun e => e)).trans h1, (ho.block nb (heap_lt h2) (fun e => e)).trans h2⟩
/-- An expression's function finds the place of the number k. -/
def FindsK (p : Pl8) (s : St8) (ft fst : Nat) (kt : TypeId) (kc : Array Value) (y : Value) : Prop := ∃ (F : Nat) (caps : List Value), y = .func (.func F) #[] caps.toArray ∧ Enters F ∧ ∀ W, On8 p s W → Calls Tryz.prog F (.pointer (some ⟨p.m, 0, none⟩) :: caps).toArray W fun en w' => ∃ tk st, en = .returned (.agg #[tk, st]) ∧ PlaceK p ft fst kt kc w' tk st ∧ Only (fun _ => False) W w'
/-- Taking from that place. -/
def TakesK (p : Pl8) (s : St8) (ft : Nat) (kt : TypeId) (kc : Array Value) (a n : Int) (t : ByteArray) : Prop := Enters ft ∧ ∀ W b2 nb, On8 p s W → W.heap[b2]? = some (.cells #[.pointer (some ⟨p.m, 0, none⟩)] 130 (0, 0)) → W.heap[nb]? = some (.cells kc kt (0, 0)) → Calls Tryz.prog ft #[.pointer (some ⟨b2, 0, none⟩), .pointer (some ⟨nb, 0, none⟩)] W fun en w' => en = .returned (.agg #[.int .i64 a, .int .i64 n, .string t]) ∧ Only (fun _ => False) W w'
set_option maxRecDepth 20000 in
set_option maxHeartbeats 1000000 in
theorem variable_on (p : Pl8) (s : St8) (j : Nat) (hj : j < 10) (a n : Int) (t : ByteArray) (h0 : s.cs[j * 3]? = some (.int .i64 a)) (h1 : s.cs[j * 3 + 1]? = some (.int .i64 n)) (h2 : s.cs[j * 3 + 2]? = some (.string t)) (w : World) (h : On8 p s w) :
    Calls Tryz.prog 309 #[.pointer (some ⟨p.m, 0, none⟩), .int .i64 j] w fun en w' => en = .returned (.agg #[.int .i64 a, .int .i64 n, .string t]) ∧ Only (fun _ => False) w w' := by
  obtain ⟨po, pn, pc, hM⟩ := h.M
  have c1 : w.cell? ⟨p.m, 1, none⟩ = some (.slice (some ⟨p.vb, 0, none⟩) 10 10) := cell_of hM rfl
  have ml := heap_lt hM
  have v0 := h.V.cell h0
  have v1 := h.V.cell h1
  have v2 := h.V.cell h2
  have vl := heap_lt h.V
  have hli : 0 ≤ (j : Int) ∧ (j : Int) < 10 := by omega
  clear h hM h0 h1 h2
  go_enter Tryz.func309, Tryz.ntmps309
  go_wp2
  refine bodyPost_ret (v := .agg #[.int .i64 a, .int .i64 n, .string t]) (by simp [results, Tryz.results309, go_sem]) rfl ⟨rfl, ?_⟩
  exact onlyA w _
set_option maxRecDepth 20000 in
set_option maxHeartbeats 1000000 in
theorem takes_var (p : Pl8) (s : St8) (j : Nat) (hj : j < 10) (a n : Int) (t : ByteArray) (h0 : s.cs[j * 3]? = some (.int .i64 a)) (h1 : s.cs[j * 3 + 1]? = some (.int .i64 n)) (h2 : s.cs[j * 3 + 2]? = some (.string t)) : TakesK p s 308 3 #[.int .i64 j] a n t := by
  refine ⟨cf292, fun w b2 nb h e2 e4 => ?_⟩
  have l2 := heap_lt e2
  have l4 := heap_lt e4
  have c2 : w.cell? ⟨b2, 0, none⟩ = some (.pointer (some ⟨p.m, 0, none⟩)) := cell_of e2 rfl
  have c4 : w.cell? ⟨nb, 0, none⟩ = some (.int .i64 j) := cell_of e4 rfl
  have HR := hide (variable_on p s j hj a n t h0 h1 h2 _ (h.calm (onlyA w (.cells #[.int .i64 0, .int .i64 0, .string ⟨#[]⟩] 203))))
  clear h h0 h1 h2 e2 e4
  go_enter Tryz.func308, Tryz.ntmps308
  go_wp2_with fail
  refine (HR.out).mono ?_
  rintro en w2 ⟨rfl, ho⟩
  have hb0 := (ho.block w.heap.size (by simp) (fun e => e)).trans (new0 w _)
  have r0 : w2.cell? ⟨w.heap.size, 0, none⟩ = some (.int .i64 0) := cell_of hb0 rfl
  have r1 : w2.cell? ⟨w.heap.size, 1, none⟩ = some (.int .i64 0) := cell_of hb0 rfl
  have r2 : w2.cell? ⟨w.heap.size, 2, none⟩ = some (.string ⟨#[]⟩) := cell_of hb0 rfl
  have rf := free_of hb0
  have rl := heap_lt hb0
  have HO := hide ho
  clear ho hb0 HR
  go_wp2
  refine bodyPost_ret (v := .agg #[.int .i64 a, .int .i64 n, .string t]) (by simp [results, Tryz.results308, go_sem, r0, r1, r2]) rfl ⟨rfl, ?_⟩
  exact ((((onlyA w _).trans HO.out (fun _ _ e => e)).setCell (p := ⟨w.heap.size, 0, none⟩) (fun h => absurd h (by show ¬ w.heap.size < w.heap.size; omega)) _).setCell (p := ⟨w.heap.size, 1, none⟩) (fun h => absurd h (by show ¬ w.heap.size < w.heap.size; omega)) _).setCell (p := ⟨w.heap.size, 2, none⟩) (fun h => absurd h (by show ¬ w.heap.size < w.heap.size; omega)) _
/-- What was made of a name finds its place. -/
theorem finds_var (p : Pl8) (s : St8) (k B : Nat) (x y : Value) (h : VarK k B p.wN (.agg #[x, y])) : FindsK p s 308 310 3 #[.int .i64 k] y := by
  obtain ⟨g, nb, e, _, _, _, hnb⟩ := h
  have hy : y = .func (.func 307) #[] #[.pointer (some ⟨nb, 0, none⟩)] := by injection e with e; have := congrArg (fun a => a[1]?) e; simpa using this
  refine ⟨307, [.pointer (some ⟨nb, 0, none⟩)], hy, cf291, fun W hW => ?_⟩
  refine (vfind_do p.m nb W).mono ?_
  rintro en w' ⟨e, hb, ho⟩
  exact ⟨_, _, e, ⟨_, _, rfl, rfl, hb, (ho.block nb (Nat.lt_of_lt_of_le (heap_lt hnb) hW.O.size) (fun e => e)).trans ((hW.O.block nb (heap_lt hnb) (fun e => e)).trans hnb)⟩, ho⟩
set_option maxRecDepth 20000 in
set_option maxHeartbeats 1000000 in
/-- What was found is taken. -/
theorem found_on (p : Pl8) (s : St8) (ft fst : Nat) (kt : TypeId) (kc : Array Value) (g : Nat) (y : Value) (a n : Int) (t : ByteArray) (hF : FindsK p s ft fst kt kc y) (hT : TakesK p s ft kt kc a n t) (hg : p.wN.heap[g]? = some (.cells #[y] 336 (0, 0))) : Gives p s (.func (.func 386) #[] #[.pointer (some ⟨g, 0, none⟩)]) (.agg #[.int .i64 a, .int .i64 n, .string t]) := by
  refine ⟨386, [.pointer (some ⟨g, 0, none⟩)], rfl, cf370, fun w h => ?_⟩
  obtain ⟨F, caps, rfl, hcf, hF⟩ := hF
  obtain ⟨hcf2, hT⟩ := hT
  have hgw := (h.O.block g (heap_lt hg) (fun e => e)).trans hg
  have eg : w.cell? ⟨g, 0, none⟩ = some (.func (.func F) #[] caps.toArray) := cell_of hgw rfl
  have gl := heap_lt hgw
  have hfl := fld428
  have HF := hide (hF _ (h.calm (onlyA w (.cells #[.int .i64 0, .int .i64 0, .string ⟨#[]⟩] 203))))
  have HT := hide (fun W b2 nb (hW : Only (fun _ => False) w W) => hT W b2 nb (h.calm hW))
  unfold Enters at hcf hcf2
  clear h hgw hF hT
  go_enter Tryz.func386, Tryz.ntmps386
  go_wp2_with fail
  refine (HF.out).mono ?_
  rintro en w2 ⟨tk, st, rfl, ⟨b2, nb, rfl, rfl, hb2, hnb⟩, ho⟩
  have hO := (onlyA w _).trans ho (fun _ _ e => e)
  have HT2 := hide (HT.out w2 b2 nb hO hb2 hnb)
  have hb0 := (ho.block w.heap.size (by simp) (fun e => e)).trans (new0 w _)
  have HB0 := hide hb0
  have HO := hide hO
  clear hb2 hnb hO ho hb0 HT
  go_wp2_with fail
  refine (HT2.out).mono ?_
  rintro en w3 ⟨rfl, ho3⟩
  have hb3 := (ho3.block w.heap.size (heap_lt HB0.out) (fun e => e)).trans HB0.out
  have r0 : w3.cell? ⟨w.heap.size, 0, none⟩ = some (.int .i64 0) := cell_of hb3 rfl
  have r1 : w3.cell? ⟨w.heap.size, 1, none⟩ = some (.int .i64 0) := cell_of hb3 rfl
  have r2 : w3.cell? ⟨w.heap.size, 2, none⟩ = some (.string ⟨#[]⟩) := cell_of hb3 rfl
  have rf := free_of hb3
  have rl := heap_lt hb3
  have HO3 := hide (HO.out.trans ho3 (fun _ _ e => e))
  clear ho3 hb3 HT2
  go_wp2
  refine bodyPost_ret (v := .agg #[.int .i64 a, .int .i64 n, .string t]) (by simp [results, Tryz.results386, go_sem, r0, r1, r2]) rfl ⟨rfl, ?_⟩
  exact ((HO3.out.setCell (p := ⟨w.heap.size, 0, none⟩) (fun h => absurd h (by show ¬ w.heap.size < w.heap.size; omega)) _).setCell (p := ⟨w.heap.size, 1, none⟩) (fun h => absurd h (by show ¬ w.heap.size < w.heap.size; omega)) _).setCell (p := ⟨w.heap.size, 2, none⟩) (fun h => absurd h (by show ¬ w.heap.size < w.heap.size; omega)) _
/-- What was made of a name works its value out. -/
theorem gives_var (p : Pl8) (s : St8) (k B : Nat) (x y : Value) (h : VarK k B p.wN (.agg #[x, y])) (hk : k < 10) (a n : Int) (t : ByteArray) (h0 : s.cs[k * 3]? = some (.int .i64 a)) (h1 : s.cs[k * 3 + 1]? = some (.int .i64 n)) (h2 : s.cs[k * 3 + 2]? = some (.string t)) : Gives p s x (.agg #[.int .i64 a, .int .i64 n, .string t]) := by
  have hf := finds_var p s k B x y h
  obtain ⟨g, nb, e, _, _, hg, _⟩ := h
  have hx : x = .func (.func 386) #[] #[.pointer (some ⟨g, 0, none⟩)] := by injection e with e; have := congrArg (fun a => a[0]?) e; simpa using this
  have hy : y = .func (.func 307) #[] #[.pointer (some ⟨nb, 0, none⟩)] := by injection e with e; have := congrArg (fun a => a[1]?) e; simpa using this
  rw [hx]
  exact found_on p s 308 310 3 #[.int .i64 k] g y a n t hf (takes_var p s k hk a n t h0 h1 h2) (by rw [hy]; exact hg)
/-- A number works itself out. -/
theorem gives_num (p : Pl8) (s : St8) (B : Nat) (n : Int) (x y : Value) (h : ConstE B p.wN (.agg #[x, y]) 1 n ⟨#[]⟩) : Gives p s x (.agg #[.int .i64 1, .int .i64 n, .string ⟨#[]⟩]) := by
  obtain ⟨c, e, _, hc⟩ := h
  have hx : x = .func (.func 298) #[] #[.pointer (some ⟨c, 0, none⟩)] := by injection e with e; have := congrArg (fun a => a[0]?) e; simpa using this
  refine ⟨298, [.pointer (some ⟨c, 0, none⟩)], hx, cf480, fun W hW => ?_⟩
  have hcW := (hW.O.block c (heap_lt hc) (fun e => e)).trans hc
  refine (const_do (some ⟨p.m, 0, none⟩) c 1 n ⟨#[]⟩ W (cell_of hcW rfl) (cell_of hcW rfl) (cell_of hcW rfl)).mono ?_
  rintro en w' ⟨e, rfl⟩
  exact ⟨e, onlyA _ _⟩
/-- A text works itself out. -/
theorem gives_str (p : Pl8) (s : St8) (B : Nat) (u : ByteArray) (x y : Value) (h : ConstE B p.wN (.agg #[x, y]) 2 0 u) : Gives p s x (.agg #[.int .i64 2, .int .i64 0, .string u]) := by
  obtain ⟨c, e, _, hc⟩ := h
  have hx : x = .func (.func 298) #[] #[.pointer (some ⟨c, 0, none⟩)] := by injection e with e; have := congrArg (fun a => a[0]?) e; simpa using this
  refine ⟨298, [.pointer (some ⟨c, 0, none⟩)], hx, cf480, fun W hW => ?_⟩
  have hcW := (hW.O.block c (heap_lt hc) (fun e => e)).trans hc
  refine (const_do (some ⟨p.m, 0, none⟩) c 2 0 u W (cell_of hcW rfl) (cell_of hcW rfl) (cell_of hcW rfl)).mono ?_
  rintro en w' ⟨e, rfl⟩
  exact ⟨e, onlyA _ _⟩
end Go.Proofs.YtdbdbaepmdmnfaaGreatDoor

namespace Go.Proofs.YtdbdbaepmdmnfaaGreatDoor
open Go.RowKit
/-- What a text that was read is: its kind, its number. -/
def rdK (t : ByteArray) : Int := if numeralB t.data.toList then 3 else 2
def rdN (t : ByteArray) : Int := if numeralB t.data.toList then leadNum t.data.toList else 0
theorem readB_any (t : ByteArray) (ht : t.size ≤ 500) (w : World) : Calls Tryz.prog 400 #[.string t] w fun en w' => en = .returned (.agg #[.int .i64 (rdK t), .int .i64 (rdN t), .string t]) ∧ Only (fun _ => False) w w' := by
  have hm : t.size ≤ maxLen := by unfold maxLen; omega
  cases hn : numeralB t.data.toList with
  | true =>
    refine (read_num t w hm hn).mono ?_
    rintro en w' ⟨e, hb⟩
    exact ⟨by rw [e]; simp [rdK, rdN, hn], Only.ofBelow hb _⟩
  | false =>
    refine (read_text t w hm hn).mono ?_
    rintro en w' ⟨e, hb⟩
    exact ⟨by rw [e]; simp [rdK, rdN, hn], Only.ofBelow hb _⟩
set_option maxRecDepth 20000 in
set_option maxHeartbeats 2000000 in
theorem field_number_on (p : Option Addr) (a : Int) (ha : (a == 2) = false) (k : Nat) (hk : k ≤ 40) (s : ByteArray) (w : World) : Calls Tryz.prog 318 #[.pointer p, .agg #[.int .i64 a, .int .i64 k, .string s]] w fun en w' => en = .returned (.int .i64 k) ∧ Only (fun _ => False) w w' := by
  have HN := hide (number_else a k s (w.alloc (.cells #[.int .i64 a, .int .i64 k, .string s] 203)) ha)
  have HK := hide (check_number k hk)
  have HC := hide (check_nil p)
  clear ha hk
  go_enter Tryz.func318, Tryz.ntmps318
  go_wp2_with fail
  refine (HN.out).mono ?_
  rintro en w2 ⟨rfl, hb⟩
  have HO := hide (Only.ofBelow hb (fun _ => False))
  clear hb HN
  go_wp2_with (first | (go_at_call 234; refine (HK.out _).mono ?_; rintro en w' ⟨rfl, h3⟩; subst w') | (go_at_call 166; refine (HC.out _).mono ?_; rintro en w' ⟨rfl, h3⟩; subst w'))
  go_ret
  exact ⟨rfl, (onlyA w _).trans HO.out (fun _ _ e => e)⟩
set_option maxRecDepth 20000 in
set_option maxHeartbeats 2000000 in
theorem take_rec (p : Pl8) (s : St8) (ht : s.txt.size ≤ 500) (w : World) (h : On8 p s w) :
    Calls Tryz.prog 388 #[.pointer (some ⟨p.m, 2, none⟩), .int .i64 0] w fun en w' => en = .returned (.agg #[.int .i64 (rdK s.txt), .int .i64 (rdN s.txt), .string s.txt]) ∧ Only (fun _ => False) w w' := by
  obtain ⟨po, pn, pc, hM⟩ := h.M
  have c2 : w.cell? ⟨p.m, 2, none⟩ = some (.string s.txt) := cell_of hM rfl
  have c3 : w.cell? ⟨p.m, 3, none⟩ = some (.slice po pn pc) := cell_of hM rfl
  have ml := heap_lt hM
  have HR := hide (readB_any s.txt ht (w.alloc (.cells #[.int .i64 0, .int .i64 0, .string ⟨#[]⟩] 203)))
  clear h hM ht
  go_enter Tryz.func388, Tryz.ntmps388
  go_wp2_with fail
  refine (HR.out).mono ?_
  rintro en w2 ⟨rfl, ho⟩
  have hb0 := (ho.block w.heap.size (by simp) (fun e => e)).trans (new0 w _)
  have r0 : w2.cell? ⟨w.heap.size, 0, none⟩ = some (.int .i64 0) := cell_of hb0 rfl
  have r1 : w2.cell? ⟨w.heap.size, 1, none⟩ = some (.int .i64 0) := cell_of hb0 rfl
  have r2 : w2.cell? ⟨w.heap.size, 2, none⟩ = some (.string ⟨#[]⟩) := cell_of hb0 rfl
  have rf := free_of hb0
  have rl := heap_lt hb0
  have HO := hide ho
  clear ho hb0 HR
  go_wp2
  refine bodyPost_ret (v := .agg #[.int .i64 (rdK s.txt), .int .i64 (rdN s.txt), .string s.txt]) (by simp [results, Tryz.results388, go_sem, r0, r1, r2]) rfl ⟨rfl, ?_⟩
  exact ((((onlyA w _).trans HO.out (fun _ _ e => e)).setCell (p := ⟨w.heap.size, 0, none⟩) (fun h => absurd h (by show ¬ w.heap.size < w.heap.size; omega)) _).setCell (p := ⟨w.heap.size, 1, none⟩) (fun h => absurd h (by show ¬ w.heap.size < w.heap.size; omega)) _).setCell (p := ⟨w.heap.size, 2, none⟩) (fun h => absurd h (by show ¬ w.heap.size < w.heap.size; omega)) _
set_option maxRecDepth 20000 in
set_option maxHeartbeats 2000000 in
theorem field_on (p : Pl8) (s : St8) (k a n : Int) (t : ByteArray) (H : ∀ W, On8 p s W → Calls Tryz.prog 388 #[.pointer (some ⟨p.m, 2, none⟩), .int .i64 k] W fun en w' => en = .returned (.agg #[.int .i64 a, .int .i64 n, .string t]) ∧ Only (fun _ => False) W w') (w : World) (h : On8 p s w) :
    Calls Tryz.prog 320 #[.pointer (some ⟨p.m, 0, none⟩), .int .i64 k] w fun en w' => en = .returned (.agg #[.int .i64 a, .int .i64 n, .string t]) ∧ Only (fun _ => False) w w' := by
  obtain ⟨po, pn, pc, hM⟩ := h.M
  have ml := heap_lt hM
  have HR := hide (H (w.alloc (.cells #[.int .i64 0, .int .i64 0, .string ⟨#[]⟩] 203)) (h.calm (onlyA w _)))
  clear h hM H
  go_enter Tryz.func320, Tryz.ntmps320
  go_wp2_with fail
  refine (HR.out).mono ?_
  rintro en w2 ⟨rfl, ho⟩
  have hb0 := (ho.block w.heap.size (by simp) (fun e => e)).trans (new0 w _)
  have r0 : w2.cell? ⟨w.heap.size, 0, none⟩ = some (.int .i64 0) := cell_of hb0 rfl
  have r1 : w2.cell? ⟨w.heap.size, 1, none⟩ = some (.int .i64 0) := cell_of hb0 rfl
  have r2 : w2.cell? ⟨w.heap.size, 2, none⟩ = some (.string ⟨#[]⟩) := cell_of hb0 rfl
  have rf := free_of hb0
  have rl := heap_lt hb0
  have HO := hide ho
  clear ho hb0 HR
  go_wp2
  refine bodyPost_ret (v := .agg #[.int .i64 a, .int .i64 n, .string t]) (by simp [results, Tryz.results320, go_sem, r0, r1, r2]) rfl ⟨rfl, ?_⟩
  exact ((((onlyA w _).trans HO.out (fun _ _ e => e)).setCell (p := ⟨w.heap.size, 0, none⟩) (fun h => absurd h (by show ¬ w.heap.size < w.heap.size; omega)) _).setCell (p := ⟨w.heap.size, 1, none⟩) (fun h => absurd h (by show ¬ w.heap.size < w.heap.size; omega)) _).setCell (p := ⟨w.heap.size, 2, none⟩) (fun h => absurd h (by show ¬ w.heap.size < w.heap.size; omega)) _
theorem cf317 (args : Array Value) (w : World) : (callFunc 317 args).run Tryz.prog w = .ok (.enter 317 args) w := callFunc_in Tryz.func317 (by kernel_rfl) rfl args w
theorem cf319 (args : Array Value) (w : World) : (callFunc 319 args).run Tryz.prog w = .ok (.enter 319 args) w := callFunc_in Tryz.func319 (by kernel_rfl) rfl args w
set_option maxRecDepth 20000 in
set_option maxHeartbeats 2000000 in
theorem takes_fieldG (p : Pl8) (s : St8) (k : Nat) (a n : Int) (t : ByteArray) (H : ∀ W, On8 p s W → Calls Tryz.prog 388 #[.pointer (some ⟨p.m, 2, none⟩), .int .i64 k] W fun en w' => en = .returned (.agg #[.int .i64 a, .int .i64 n, .string t]) ∧ Only (fun _ => False) W w') : TakesK p s 319 3 #[.int .i64 k] a n t := by
  refine ⟨cf319, fun w b2 nb h e2 e4 => ?_⟩
  have l2 := heap_lt e2
  have l4 := heap_lt e4
  have c2 : w.cell? ⟨b2, 0, none⟩ = some (.pointer (some ⟨p.m, 0, none⟩)) := cell_of e2 rfl
  have c4 : w.cell? ⟨nb, 0, none⟩ = some (.int .i64 k) := cell_of e4 rfl
  have HR := hide (field_on p s k a n t H _ (h.calm (onlyA w (.cells #[.int .i64 0, .int .i64 0, .string ⟨#[]⟩] 203))))
  clear h H e2 e4
  go_enter Tryz.func319, Tryz.ntmps319
  go_wp2_with fail
  refine (HR.out).mono ?_
  rintro en w2 ⟨rfl, ho⟩
  have hb0 := (ho.block w.heap.size (by simp) (fun e => e)).trans (new0 w _)
  have r0 : w2.cell? ⟨w.heap.size, 0, none⟩ = some (.int .i64 0) := cell_of hb0 rfl
  have r1 : w2.cell? ⟨w.heap.size, 1, none⟩ = some (.int .i64 0) := cell_of hb0 rfl
  have r2 : w2.cell? ⟨w.heap.size, 2, none⟩ = some (.string ⟨#[]⟩) := cell_of hb0 rfl
  have rf := free_of hb0
  have rl := heap_lt hb0
  have HO := hide ho
  clear ho hb0 HR
  go_wp2
  refine bodyPost_ret (v := .agg #[.int .i64 a, .int .i64 n, .string t]) (by simp [results, Tryz.results319, go_sem, r0, r1, r2]) rfl ⟨rfl, ?_⟩
  exact ((((onlyA w _).trans HO.out (fun _ _ e => e)).setCell (p := ⟨w.heap.size, 0, none⟩) (fun h => absurd h (by show ¬ w.heap.size < w.heap.size; omega)) _).setCell (p := ⟨w.heap.size, 1, none⟩) (fun h => absurd h (by show ¬ w.heap.size < w.heap.size; omega)) _).setCell (p := ⟨w.heap.size, 2, none⟩) (fun h => absurd h (by show ¬ w.heap.size < w.heap.size; omega)) _
/-- The record. -/
theorem takes_rec (p : Pl8) (s : St8) (ht : s.txt.size ≤ 500) : TakesK p s 319 3 #[.int .i64 ((0 : Nat) : Int)] (rdK s.txt) (rdN s.txt) s.txt :=
  takes_fieldG p s 0 _ _ _ (fun W hW => take_rec p s ht W hW)
end Go.Proofs.YtdbdbaepmdmnfaaGreatDoor

namespace Go.Proofs.YtdbdbaepmdmnfaaGreatDoor
open Go.RowKit
set_option maxRecDepth 20000 in
set_option maxHeartbeats 1000000 in
theorem plus_do (x y : Nat) (hx : x ≤ 100000) (hy : y ≤ 100000) (w : World) : Calls Tryz.prog 416 #[.int .i64 x, .int .i64 y] w fun en w' => en = .returned (.int .i64 ((x + y : Nat) : Int)) ∧ w' = w := by
  go_enter Tryz.func416, Tryz.ntmps416
  go_wp2
  go_ret
  exact ⟨by simp, rfl⟩
theorem cf416 (args : Array Value) (w : World) : (callFunc 416 args).run Tryz.prog w = .ok (.enter 416 args) w := callFunc_in Tryz.func416 (by kernel_rfl) rfl args w
theorem cf455 (args : Array Value) (w : World) : (callFunc 455 args).run Tryz.prog w = .ok (.enter 455 args) w := callFunc_in Tryz.func455 (by kernel_rfl) rfl args w
set_option maxHeartbeats 400000 in
theorem number_eq (k n : Int) (s : ByteArray) (hk : (k == 2) = false) (w : World) :
    Calls Tryz.prog 131 #[.agg #[.int .i64 k, .int .i64 n, .string s]] w fun e w' => e = .returned (.int .i64 n) ∧ w' = w.alloc (.cells #[.int .i64 k, .int .i64 n, .string s] 203) := by
  go_enter Tryz.func131, Tryz.ntmps131
  go_wp2
  go_ret
  exact ⟨rfl, rfl⟩
end Go.Proofs.YtdbdbaepmdmnfaaGreatDoor

