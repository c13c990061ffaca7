import Derived.Test.YtdbdbaepmdmnfaaGreatDoorQ21
import Derived.Deep.RegionHeldLaw
namespace Go.Proofs.YtdbdbaepmdmnfaaGreatDoor
open Go.RowKit
set_option maxRecDepth 20000 in
set_option maxHeartbeats 8000000 in
theorem rule_madeL (kp : Option Addr) (K : Nat → World → Value → Prop) (hK : Keeps K) (pb r bl cap : Nat) (w : World) (hp : w.heap[pb]? = some (.cells #[.slice none 0 0, .slice none 0 0, .slice none 0 0, .int .i64 0, .int .i64 0] 135 (0, 0))) (HB : BodyOK kp w (.slice (some ⟨r, 0, none⟩) bl cap) K) :
    Calls Tryz.prog 92 #[.pointer kp, .pointer (some ⟨pb, 0, none⟩), .agg #[.int .i64 0, .slice none 0 0, .slice (some ⟨r, 0, none⟩) bl cap]] w fun en w' => en = .returned (.tuple #[]) ∧ ∃ rs, w'.heap[pb]? = some (.cells #[.slice none 0 0, rs, .slice none 0 0, .int .i64 0, .int .i64 0] 135 (0, 0)) ∧ RuleF K w.heap.size w' rs ∧ Only (fun k => k = pb) w w' := by
  obtain ⟨i0, hi0, hz0, hz1, hz2⟩ := info_parts info383
  have hmf := hmfT
  have hsf := hsfT
  have hsn := hsnT
  have hpl := heap_lt hp
  have p1 : w.cell? ⟨pb, 1, none⟩ = some (.slice none 0 0) := cell_of hp rfl
  have pne : pb ≠ w.heap.size := by omega
  have HP := hide hp
  have HE := hide (exprs_none kp)
  have HB1 := hide HB
  have HK := hide hK
  clear hp HB hK
  go_enter Tryz.func92, Tryz.ntmps92
  go_upto_region 2 with fail
  have n1 : (w.alloc (.cells #[.int .i64 0, .slice none 0 0, .slice (some ⟨r, 0, none⟩) bl cap] 102)).cell? ⟨w.heap.size, 1, none⟩ = some (.slice none 0 0) := cell_of (new0 w _) rfl
  have n2 : (w.alloc (.cells #[.int .i64 0, .slice none 0 0, .slice (some ⟨r, 0, none⟩) bl cap] 102)).cell? ⟨w.heap.size, 2, none⟩ = some (.slice (some ⟨r, 0, none⟩) bl cap) := cell_of (new0 w _) rfl
  have n1d : (w.alloc (.cells #[.int .i64 0, .slice none 0 0, .slice (some ⟨r, 0, none⟩) bl cap] 102)).drew.cell? ⟨w.heap.size, 1, none⟩ = some (.slice none 0 0) := n1
  have n2d : (w.alloc (.cells #[.int .i64 0, .slice none 0 0, .slice (some ⟨r, 0, none⟩) bl cap] 102)).drew.cell? ⟨w.heap.size, 2, none⟩ = some (.slice (some ⟨r, 0, none⟩) bl cap) := n2
  go_region_law
    (first
      | (rw [if_pos (by simp [Region.wanted])]; go_simp; go_at_call 128; refine (HE.out _).mono ?_; rintro en w2 ⟨rfl, hw2⟩; subst hw2)
      | (rw [if_pos (by simp [Region.wanted])]; go_simp; go_at_call 91; refine (HB1.out _ (by repeat (first | with_reducible exact Only.refl _ _ | with_reducible refine Only.alloc ?_ _ | with_reducible refine toDrew ?_))).mono ?_; rintro en w2 ⟨z, rfl, hz, ho2⟩; obtain ⟨F, fcap, rfl⟩ := HK.out.isF _ _ _ hz; have hzl : w.heap.size + 1 + 1 ≤ w2.heap.size := (by have := ho2.size; simpa using this); have hOw : Only (fun _ => False) w w2 := Only.trans (by repeat (first | with_reducible exact Only.refl _ _ | with_reducible refine Only.alloc ?_ _ | with_reducible refine toDrew ?_)) ho2 (fun _ _ e => e); have hbp := (hOw.block pb hpl (fun e => e)).trans HP.out; have q1 : w2.cell? ⟨pb, 1, none⟩ = some (.slice none 0 0) := cell_of hbp rfl; have qf := free_of hbp; have ql := heap_lt hbp; have q2 : w2.cell? ⟨w.heap.size, 1, none⟩ = some (.slice none 0 0) := (ho2.cell (p := ⟨w.heap.size, 1, none⟩) (by simp; omega) (fun e => e)).trans (by repeat (first | (with_reducible assumption) | (with_reducible refine past ?_ _) | (with_reducible refine pastD ?_ _))); have q3 : w2.cell? ⟨w.heap.size, 2, none⟩ = some (.slice (some ⟨r, 0, none⟩) bl cap) := (ho2.cell (p := ⟨w.heap.size, 2, none⟩) (by simp; omega) (fun e => e)).trans (by repeat (first | (with_reducible assumption) | (with_reducible refine past ?_ _) | (with_reducible refine pastD ?_ _))); have HBP := hide hbp; have HZ := hide hz; have HOw := hide hOw; clear hbp hz hOw ho2)
      | (refine step_append_lies _ (by rfl) _ _ _ (by rfl) 0 255 i0 _ 3 40 Tryz.underlying133 hi0 hz0 hz1 hz2 rfl (by omega) (.slice none 0 0) 0 [] (by rfl) (World.ownsRow_nil _ _ _ _) _ 1 1 [.slice (some ⟨w.heap.size + 1, 0, none⟩) 0 0, .bool false, .func (.func F) #[] fcap] (by rfl) (by rfl) (World.news_of_block (cs := #[.slice (some ⟨w.heap.size + 1, 0, none⟩) 0 0, .bool false, .func (.func F) #[] fcap]) (t := 255) (fr := (0, 0)) (new_at2 rfl _)) (by intro u hu; simp at hu; rcases hu with rfl | rfl | rfl <;> rfl) (by omega) (by unfold maxLen; omega) (by omega) (Nat.zero_le _) _ rfl ?_; intro gg cap2 w3 hown1 hgrow hat hlt; have hb3 := (hgrow.block pb (by simp; omega) (fun e => by cases e)).trans ((Below.heap_alloc _ _ _ (by omega)).trans HBP.out); have t1 : w3.cell? ⟨pb, 1, none⟩ = some (.slice none 0 0) := cell_of hb3 rfl; have tf := free_of hb3; have tl := heap_lt hb3; have t2 : w3.cell? ⟨w.heap.size, 1, none⟩ = some (.slice none 0 0) := (World.cell?_of_block (hgrow.block w.heap.size (by simp; omega) (fun e => by cases e))).trans (past q2 _); have t3 : w3.cell? ⟨w.heap.size, 2, none⟩ = some (.slice (some ⟨r, 0, none⟩) bl cap) := (World.cell?_of_block (hgrow.block w.heap.size (by simp; omega) (fun e => by cases e))).trans (past q3 _); have HB3 := hide hb3; clear hb3))
  all_goals
    have hne := own_tag hown1 HB3.out (by decide)
    have hOg := hide ((Only.refl (fun _ => False) _).grown hgrow (fun q hq _ => by cases hq))
    have hO3 := hide ((HOw.out.alloc _).grown hgrow (fun q hq _ => by cases hq))
    have hKx := hide (HK.out.keep _ _ _ _ (HK.out.keep _ _ _ _ HZ.out ((onlyA w2 _).mono (fun _ _ e => e.elim))) (hOg.out.mono (fun _ _ e => e.elim)))
    have HOwn := hide hown1
    clear hown1 hgrow hat hOg
    go_wp2
    go_end0
    refine ⟨rfl, .slice (some ⟨gg, 0, none⟩) 1 cap2, heap_setCell_same HB3.out _, ⟨w.heap.size + 1, .func (.func F) #[] fcap, ownsRow_of HOwn.out (fun k hk => Below.heap_setCell _ _ _ _ (fun e => hne (by rw [hk, e]))), HK.out.down _ _ _ _ (HK.out.keep _ _ _ _ hKx.out ((Only.refl _ w3).setCell (p := ⟨pb, 1, none⟩) (fun _ => by show pb < _; simp; omega) _)) (by simp; omega)⟩, (hO3.out.mono (E := fun k => k = pb) (fun _ _ e => e.elim)).setCell (p := ⟨pb, 1, none⟩) (fun _ => rfl) _⟩
end Go.Proofs.YtdbdbaepmdmnfaaGreatDoor
