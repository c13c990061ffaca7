import Derived.Test.YtdbdbaepmdmnfaaGreatDoorZ32
import Derived.Deep.RegionHeldLaw
namespace Go.Proofs.YtdbdbaepmdmnfaaGreatDoor
open Go.RowKit
variable {wT : World}
theorem info185 : (Tryz.prog.info? 185).map (fun i => (i.zero, i.size, i.bytes)) = some (some (.agg #[.nilFunc]), 1, 8) := by kernel_rfl
/-- The made beginning. -/
def BegF (K : Nat → World → Value → Prop) (B : Nat) (w : World) (a : Value) : Prop := ∃ x, w.ownsRow B 185 1 a 1 [x] ∧ K B w x
theorem own_down {w : World} {A B : Nat} {e : TypeId} {z : Nat} {v : Value} {n : Nat} {xs : List Value} (h : w.ownsRow B e z v n xs) (hA : A ≤ B) : w.ownsRow A e z v n xs :=
  ⟨h.1, h.2.imp id (fun ⟨g, cap, cur, hv, hb, r⟩ => ⟨g, cap, cur, hv, Nat.le_trans hA hb, r⟩)⟩
theorem begF_keep {K : Nat → World → Value → Prop} (hK : Keeps K) {B : Nat} {w w' : World} {a : Value} (h : BegF K B w a) (ho : Only (fun q => q < B) w w') : BegF K B w' a := by
  obtain ⟨x, h1, h2⟩ := h
  exact ⟨x, ownsRow_of h1 (fun k hk => ho.block k (h1.lt k hk).2 (by have := (h1.lt k hk).1; omega)), hK.keep _ _ _ _ h2 ho⟩
theorem begF_down {K : Nat → World → Value → Prop} (hK : Keeps K) {A B : Nat} {w : World} {a : Value} (h : BegF K B w a) (hA : A ≤ B) : BegF K A w a := by
  obtain ⟨x, h1, h2⟩ := h
  exact ⟨x, own_down h1 hA, hK.down _ _ _ _ h2 hA⟩
set_option maxRecDepth 20000 in
set_option maxHeartbeats 8000000 in
/-- A rule for the beginning, made. -/
theorem rule_madeB (kb mv ma mf sg : Nat) (vs vs' : VA) (K : Nat → World → Value → Prop) (hK : Keeps K) (pb r bl cap : Nat) (hpT : wT.heap.size ≤ pb) (w : World) (hM : MkV wT w kb mv ma mf sg vs) (hp : w.heap[pb]? = some (.cells #[.slice none 0 0, .slice none 0 0, .slice none 0 0, .int .i64 0, .int .i64 0] 135 (0, 0))) (HB : MadeS wT 91 kb mv ma mf sg w (.slice (some ⟨r, 0, none⟩) bl cap) K vs vs') :
    Calls Tryz.prog 92 #[.pointer (some ⟨kb, 0, none⟩), .pointer (some ⟨pb, 0, none⟩), .agg #[.int .i64 1, .slice none 0 0, .slice (some ⟨r, 0, none⟩) bl cap]] w fun en w' => en = .returned (.tuple #[]) ∧ ∃ rs, w'.heap[pb]? = some (.cells #[rs, .slice none 0 0, .slice none 0 0, .int .i64 0, .int .i64 0] 135 (0, 0)) ∧ BegF K w.heap.size w' rs ∧ MkV wT w' kb mv ma mf sg vs' ∧ Only (fun k => k = pb ∨ k = mv ∨ k = ma) w w' := by
  obtain ⟨i0, hi0, hz0, hz1, hz2⟩ := info_parts info185
  have hmf := hmfT
  have hsf := hsfT
  have hsn := hsnT
  have hpl := heap_lt hp
  have p1 : w.cell? ⟨pb, 0, none⟩ = some (.slice none 0 0) := cell_of hp rfl
  have pne : pb ≠ w.heap.size := by omega
  have HP := hide hp
  have hml := heap_lt hM.v
  have hkl := heap_lt hM.k
  have hal := heap_lt hM.a
  have pmv : pb ≠ mv := fun e => by have h1 := hM.v; rw [← e, hp] at h1; cases h1
  have pma : ma ≠ pb := fun e => by have h1 := hM.a; rw [e, hp] at h1; cases h1
  have pkb : kb ≠ pb := fun e => by have h1 := hM.k; rw [e, hp] at h1; cases h1
  have HMk := hide hM
  have HB1 := hide HB
  have HK := hide hK
  clear hp HB hK hM
  go_enter Tryz.func92, Tryz.ntmps92
  go_upto_region 4 with fail
  have n1 : (w.alloc (.cells #[.int .i64 1, .slice none 0 0, .slice (some ⟨r, 0, none⟩) bl cap] 102)).cell? ⟨w.heap.size, 1, none⟩ = some (.slice none 0 0) := cell_of (new0 w _) rfl
  have n2 : (w.alloc (.cells #[.int .i64 1, .slice none 0 0, .slice (some ⟨r, 0, none⟩) bl cap] 102)).cell? ⟨w.heap.size, 2, none⟩ = some (.slice (some ⟨r, 0, none⟩) bl cap) := cell_of (new0 w _) rfl
  have n1d : (w.alloc (.cells #[.int .i64 1, .slice none 0 0, .slice (some ⟨r, 0, none⟩) bl cap] 102)).drew.cell? ⟨w.heap.size, 1, none⟩ = some (.slice none 0 0) := n1
  have n2d : (w.alloc (.cells #[.int .i64 1, .slice none 0 0, .slice (some ⟨r, 0, none⟩) bl cap] 102)).drew.cell? ⟨w.heap.size, 2, none⟩ = some (.slice (some ⟨r, 0, none⟩) bl cap) := n2
  go_region_law
    (first
      | (rw [if_pos (by simp [Region.wanted])]; go_simp; go_at_call 91; refine (HB1.out _ (by repeat (first | (with_reducible exact HMk.out) | (with_reducible refine MkV.allocV ?_ _) | (with_reducible refine MkV.drewV ?_))) (by repeat (first | with_reducible exact Only.refl _ _ | with_reducible refine Only.alloc ?_ _ | with_reducible refine toDrew ?_))).mono ?_; rintro en w2 ⟨z, rfl, hz, hk2, ho2⟩; obtain ⟨F, fcap, rfl⟩ := HK.out.isF _ _ _ hz; have hzl : w.heap.size + 1 ≤ w2.heap.size := (by have := ho2.size; simpa using this); have hOw : Only (fun q => q = mv ∨ q = ma) w w2 := Only.trans (by repeat (first | with_reducible exact Only.refl _ _ | with_reducible refine Only.alloc ?_ _ | with_reducible refine toDrew ?_)) ho2 (fun _ _ e => e); have hbp := (hOw.block pb hpl (fun e => e.elim pmv (fun e => pma e.symm))).trans HP.out; have q1 : w2.cell? ⟨pb, 0, none⟩ = some (.slice none 0 0) := cell_of hbp rfl; have qf := free_of hbp; have ql := heap_lt hbp; have q2 : w2.cell? ⟨w.heap.size, 1, none⟩ = some (.slice none 0 0) := (ho2.cell (p := ⟨w.heap.size, 1, none⟩) (by simp <;> omega) (by show ¬ (w.heap.size = mv ∨ w.heap.size = ma); omega)).trans (by repeat (first | (with_reducible assumption) | (with_reducible refine past ?_ _) | (with_reducible refine pastD ?_ _))); have q3 : w2.cell? ⟨w.heap.size, 2, none⟩ = some (.slice (some ⟨r, 0, none⟩) bl cap) := (ho2.cell (p := ⟨w.heap.size, 2, none⟩) (by simp <;> omega) (by show ¬ (w.heap.size = mv ∨ w.heap.size = ma); omega)).trans (by repeat (first | (with_reducible assumption) | (with_reducible refine past ?_ _) | (with_reducible refine pastD ?_ _))); have HBP := hide hbp; have HZ := hide hz; have HOw := hide hOw; have HMk2 := hide hk2; clear hbp hz hOw ho2 hk2)
      | (refine step_append_lies _ (by rfl) _ _ _ (by rfl) w.heap.size 185 i0 _ 1 8 Tryz.underlying132 hi0 hz0 hz1 hz2 rfl (by omega) (.slice none 0 0) 0 [] (by rfl) (World.ownsRow_nil _ _ _ _) _ 1 1 [.func (.func F) #[] fcap] (by rfl) (by rfl) (World.news_of_block (cs := #[.func (.func F) #[] fcap]) (t := 185) (fr := (0, 0)) (new_at2 rfl _)) (by intro u hu; simp at hu; rcases hu with rfl; rfl) (by omega) (by unfold maxLen; omega) (by omega) (by simp; omega) _ rfl ?_; intro gg cap2 w3 hown1 hgrow hat hlt; have hb3 := (hgrow.block pb (by simp; omega) (fun e => by cases e)).trans ((Below.heap_alloc _ _ _ (by omega)).trans HBP.out); have t1 : w3.cell? ⟨pb, 0, none⟩ = some (.slice none 0 0) := cell_of hb3 rfl; have tf := free_of hb3; have tl := heap_lt hb3; have t2 : w3.cell? ⟨w.heap.size, 1, none⟩ = some (.slice none 0 0) := (World.cell?_of_block (hgrow.block w.heap.size (by simp; omega) (fun e => by cases e))).trans (past q2 _); have t3 : w3.cell? ⟨w.heap.size, 2, none⟩ = some (.slice (some ⟨r, 0, none⟩) bl cap) := (World.cell?_of_block (hgrow.block w.heap.size (by simp; omega) (fun e => by cases e))).trans (past q3 _); have HB3 := hide hb3; clear hb3))
  all_goals
    have hne := own_tag hown1 HB3.out (by decide)
    have hOg := hide ((Only.refl (fun _ => False) _).grown hgrow (fun q hq _ => by cases hq))
    have hO3 := hide ((HOw.out.alloc _).grown hgrow (fun q hq _ => by cases hq))
    have hKx := hide (HK.out.keep _ _ _ _ (HK.out.keep _ _ _ _ HZ.out ((onlyA w2 _).mono (fun _ _ e => e.elim))) (hOg.out.mono (fun _ _ e => e.elim)))
    have HMk3 := hide ((HMk2.out.calm (onlyA w2 _)).calm hOg.out)
    have HOwn := hide hown1
    clear hown1 hgrow hat hOg
    go_wp2
    go_end0
    refine ⟨rfl, .slice (some ⟨gg, 0, none⟩) 1 cap2, heap_setCell_same HB3.out _, ⟨.func (.func F) #[] fcap, ownsRow_of HOwn.out (fun k hk => Below.heap_setCell _ _ _ _ (fun e => hne (by rw [hk, e]))), HK.out.down _ _ _ _ (HK.out.keep _ _ _ _ hKx.out ((Only.refl _ w3).setCell (p := ⟨pb, 0, none⟩) (fun _ => by show pb < _; simp; omega) _)) (by simp)⟩, HMk3.out.setV pb 0 _ pkb (Ne.symm pmv) pma hpT, (hO3.out.mono (E := fun k => k = pb ∨ k = mv ∨ k = ma) (fun _ _ e => Or.inr e)).setCell (p := ⟨pb, 0, none⟩) (fun _ => Or.inl rfl) _⟩
end Go.Proofs.YtdbdbaepmdmnfaaGreatDoor

