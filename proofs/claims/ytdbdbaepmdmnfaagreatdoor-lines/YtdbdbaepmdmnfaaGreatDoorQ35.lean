import Derived.Test.YtdbdbaepmdmnfaaGreatDoorQ20
namespace Go.Proofs.YtdbdbaepmdmnfaaGreatDoor
open Go.RowKit
set_option maxRecDepth 100000 in
theorem mk289G (w : World) : (Instr.makeSlice 180 (.int .i64 0) (.int .i64 0)).run Tryz.prog w = .ok (.slice (some ⟨w.heap.size, 0, none⟩) 0 0) (w.alloc (.cells #[] 187)) := by kernel_rfl
theorem len287G (W : World) (r : Nat) (es : Array MapEntry) (c : Nat) (hb : W.heap[r]? = some (.map es c)) : (Builtin.len_ #[178] 3 #[.map (some r)]).run Tryz.prog W = .ok (.int .i64 es.size) W := by
  simp [Builtin.len_, run_underlying Tryz.underlying178, MapKept.run_getObj_map hb, goInt, Result.andThen]
/-- A maker with the variables that are there from the beginning, and no parameters. -/
structure MkAt (W : World) (kb mv ma mf sg : Nat) : Prop where
  k : W.heap[kb]? = some (.cells #[.map (some mv), .map (some ma), .map (some mf), .slice (some ⟨sg, 0, none⟩) 0 0, .slice none 0 0] 182 (0, 0))
  v : W.heap[mv]? = some (.map firstVs 7)
  a : W.heap[ma]? = some (.map #[] 0)
/-- What was put to a program stays, whatever else of the program turns. -/
structure KeepsG (G : Nat → World → Value → Value → Value → Prop) : Prop where
  keep : ∀ B w w' a b c pb x, G B w a b c → w.heap[pb]? = some (.cells x 135 (0, 0)) → pb < B → Only (fun q => q = pb) w w' → G B w' a b c
  down : ∀ A B w a b c, G B w a b c → A ≤ B → G A w a b c
set_option maxRecDepth 20000 in
set_option maxHeartbeats 16000000 in
theorem ready_gen (kd : Int) (G : Nat → World → Value → Value → Value → Prop) (hG : KeepsG G) (rg rcap r bl cap : Nat) (w : World) (hrg : rg < w.heap.size) (e0 : w.cell? ⟨rg, 0, none⟩ = some (.int .i64 kd)) (e1 : w.cell? ⟨rg, 1, none⟩ = some (.slice none 0 0)) (e2 : w.cell? ⟨rg, 2, none⟩ = some (.slice (some ⟨r, 0, none⟩) bl cap)) (HB : ∀ kb mv ma mf sg pb W, Only (fun _ => False) w W → w.heap.size ≤ kb → MkAt W kb mv ma mf sg → W.heap[pb]? = some (.cells #[.slice none 0 0, .slice none 0 0, .slice none 0 0, .int .i64 0, .int .i64 0] 135 (0, 0)) → Calls Tryz.prog 92 #[.pointer (some ⟨kb, 0, none⟩), .pointer (some ⟨pb, 0, none⟩), .agg #[.int .i64 kd, .slice none 0 0, .slice (some ⟨r, 0, none⟩) bl cap]] W fun en w' => en = .returned (.tuple #[]) ∧ ∃ a b c, w'.heap[pb]? = some (.cells #[a, b, c, .int .i64 0, .int .i64 0] 135 (0, 0)) ∧ G W.heap.size w' a b c ∧ Only (fun k => k = pb) W w') :
    Calls Tryz.prog 59 #[.agg #[.slice none 0 0, .slice (some ⟨rg, 0, none⟩) 1 rcap]] w fun en w' => ∃ pb a b c, en = .returned (.pointer (some ⟨pb, 0, none⟩)) ∧ w'.heap[pb]? = some (.cells #[a, b, c, .int .i64 7, .int .i64 0] 135 (0, 0)) ∧ G w.heap.size w' a b c ∧ Only (fun _ => False) w w' := by
  have hmk := mk289G
  have hmm := @run_makeMap Tryz.prog
  have HV := hide first_vars
  have HB1 := hide HB
  have HK := hide hG
  clear HB hG
  have n0 : (w.alloc (.cells #[.slice none 0 0, .slice (some ⟨rg, 0, none⟩) 1 rcap] 60)).cell? ⟨w.heap.size, 0, none⟩ = some (.slice none 0 0) := cell_of (new0 w _) rfl
  have n0d : (w.alloc (.cells #[.slice none 0 0, .slice (some ⟨rg, 0, none⟩) 1 rcap] 60)).drew.cell? ⟨w.heap.size, 0, none⟩ = some (.slice none 0 0) := n0
  go_enter Tryz.func59, Tryz.ntmps59
  go_upto_region 1 with fail
  go_cut [3, 11, 12, 13, 17] (fun s3 s11 s12 s13 s17 wc => ∃ kb mv ma mf sg, s3 = .pointer (some ⟨kb, 0, none⟩) ∧ w.heap.size ≤ kb ∧ s11 = .map (some mv) ∧ s12 = .map (some ma) ∧ s13 = .map (some mf) ∧ s17 = .slice (some ⟨sg, 0, none⟩) 0 0 ∧ wc.heap[kb]? = some (.cells #[.map (some mv), .map (some ma), .map (some mf), .slice (some ⟨sg, 0, none⟩) 0 0, .slice none 0 0] 182 (0, 0)) ∧ wc.heap[mv]? = some (.map firstVs 7) ∧ wc.heap[ma]? = some (.map #[] 0) ∧ wc.heap[w.heap.size]? = some (.cells #[.slice none 0 0, .slice (some ⟨rg, 0, none⟩) 1 rcap] 60 (0, 0)) ∧ Only (fun _ => False) w wc)
  case first =>
    go_region_held3 (fun W => W.cell? ⟨w.heap.size, 0, none⟩ = some (.slice none 0 0)) (repeat (first | (with_reducible assumption) | (with_reducible refine past ?_ _) | (with_reducible refine pastD ?_ _) | ((with_reducible refine farC ?_ ?_); (rotate_left; focus (simp <;> omega)))))
      (first | (go_at_call 90; refine (HV.out _).mono ?_; rintro en w2 ⟨rfl, hw2⟩; subst hw2))
    all_goals
      go_wp2_with fail
      go_meet
      refine ⟨_, _, _, _, _, rfl, by omega, rfl, rfl, rfl, rfl, ?_, ?_, ?_, ?_, ?_⟩
      · (repeat (first | ((with_reducible refine new_at2 ?_ _); focus (simp; done)) | ((with_reducible refine (Below.heap_alloc _ _ _ ?_).trans ?_); (focus (first | (simp; done) | (simp; omega)))) | ((with_reducible refine new_at2D ?_ _); focus (simp; done)) | ((with_reducible refine (heap_allocD _ _ ?_).trans ?_); (focus (first | (simp; done) | (simp; omega))))))
      · (repeat (first | ((with_reducible refine new_at2 ?_ _); focus (simp; done)) | ((with_reducible refine (Below.heap_alloc _ _ _ ?_).trans ?_); (focus (first | (simp; done) | (simp; omega)))) | ((with_reducible refine new_at2D ?_ _); focus (simp; done)) | ((with_reducible refine (heap_allocD _ _ ?_).trans ?_); (focus (first | (simp; done) | (simp; omega))))))
      · (repeat (first | ((with_reducible refine new_at2 ?_ _); focus (simp; done)) | ((with_reducible refine (Below.heap_alloc _ _ _ ?_).trans ?_); (focus (first | (simp; done) | (simp; omega)))) | ((with_reducible refine new_at2D ?_ _); focus (simp; done)) | ((with_reducible refine (heap_allocD _ _ ?_).trans ?_); (focus (first | (simp; done) | (simp; omega))))))
      · (repeat (first | ((with_reducible refine new_at2 ?_ _); focus (simp; done)) | ((with_reducible refine (Below.heap_alloc _ _ _ ?_).trans ?_); (focus (first | (simp; done) | (simp; omega)))) | ((with_reducible refine new_at2D ?_ _); focus (simp; done)) | ((with_reducible refine (heap_allocD _ _ ?_).trans ?_); (focus (first | (simp; done) | (simp; omega))))))
      · (repeat (first | (with_reducible exact Only.refl _ _) | (with_reducible refine Only.alloc ?_ _) | (with_reducible refine toDrew ?_)))
  case rest =>
    obtain ⟨kb, mv, ma, mf, sg, rfl, hkb, rfl, rfl, rfl, rfl, hk, h7, h0, hbx, hO⟩ := hcut
    have a0 : wc.cell? ⟨w.heap.size, 0, none⟩ = some (.slice none 0 0) := cell_of hbx rfl
    have a1 : wc.cell? ⟨w.heap.size, 1, none⟩ = some (.slice (some ⟨rg, 0, none⟩) 1 rcap) := cell_of hbx rfl
    have k0 : wc.cell? ⟨kb, 0, none⟩ = some (.map (some mv)) := cell_of hk rfl
    have k1 : wc.cell? ⟨kb, 1, none⟩ = some (.map (some ma)) := cell_of hk rfl
    have k4 : wc.cell? ⟨kb, 4, none⟩ = some (.slice none 0 0) := cell_of hk rfl
    have kf := free_of hk
    have kl := heap_lt hk
    have blx := heap_lt hbx
    have hne : kb ≠ w.heap.size := fun e => by rw [e, hbx] at hk; cases hk
    have q0 := (hO.cell (p := ⟨rg, 0, none⟩) hrg (fun e => e)).trans e0
    have q1 := (hO.cell (p := ⟨rg, 1, none⟩) hrg (fun e => e)).trans e1
    have q2 := (hO.cell (p := ⟨rg, 2, none⟩) hrg (fun e => e)).trans e2
    have rl := Nat.lt_of_lt_of_le hrg hO.size
    have H7 := hide h7
    have H0 := hide h0
    have HKb := hide hk
    have HBx := hide hbx
    have HO := hide hO
    clear h7 h0 hk hbx hO HV
    go_wp2
    go_loop [22] (fun s => s = .int .i64 0) (fun _ => 0)
    case atStart => exact rfl
    case round =>
      subst hrel
      go_wp2
      go_loop [44] (fun s => s = .int .i64 0) (fun _ => 0)
      case atStart => exact rfl
      case round =>
        subst hrel
        go_wp2
        have rne : rg ≠ kb := by omega
        have hOb : Hid (Only (fun _ => False) w ((wc.setCell ⟨kb, 4, none⟩ (.slice none 0 0)).alloc (.cells #[.slice none 0 0, .slice none 0 0, .slice none 0 0, .int .i64 0, .int .i64 0] 135))) := (HO.out.setCell (p := ⟨kb, 4, none⟩) (fun h => absurd h (by show ¬ kb < w.heap.size; omega)) _).alloc _
        have hmv : mv ≠ kb := fun e => by have := H7.out; rw [e, HKb.out] at this; cases this
        have hma : ma ≠ kb := fun e => by have := H0.out; rw [e, HKb.out] at this; cases this
        have hml := heap_lt H7.out
        have hmal := heap_lt H0.out
        go_loopg [67] 1 (fun gh s67 wr => (gh = 1 ∧ s67 = .int .i64 0 ∧ wr = ((wc.setCell ⟨kb, 4, none⟩ (.slice none 0 0)).alloc (.cells #[.slice none 0 0, .slice none 0 0, .slice none 0 0, .int .i64 0, .int .i64 0] 135))) ∨ (gh = 0 ∧ s67 = .int .i64 1 ∧ ∃ a b c, wr.heap[wc.heap.size]? = some (.cells #[a, b, c, .int .i64 0, .int .i64 0] 135 (0, 0)) ∧ G (wc.heap.size + 1) wr a b c ∧ wr.heap[mv]? = some (.map firstVs 7) ∧ wr.heap[ma]? = some (.map #[] 0) ∧ wr.heap[kb]? = some (.cells #[.map (some mv), .map (some ma), .map (some mf), .slice (some ⟨sg, 0, none⟩) 0 0, .slice none 0 0] 182 (0, 0)) ∧ Only (fun _ => False) w wr))
        case atStart => exact Or.inl ⟨rfl, rfl, rfl⟩
        case round =>
          rcases hrel with ⟨hg, rfl, ew⟩ | ⟨hg, rfl, ra, rb, rc, hp, hr, hv7, hv0, hkk, ho⟩
          · subst ew
            subst hg
            go_wp2_with fail
            have hMk : MkAt (((wc.setCell ⟨kb, 4, none⟩ (.slice none 0 0)).alloc (.cells #[.slice none 0 0, .slice none 0 0, .slice none 0 0, .int .i64 0, .int .i64 0] 135)).alloc (.cells #[.int .i64 kd, .slice none 0 0, .slice (some ⟨r, 0, none⟩) bl cap] 102)) kb mv ma mf sg := ⟨(Below.heap_alloc _ _ _ (by simp; omega)).trans ((Below.heap_alloc _ _ _ (by simp; omega)).trans (heap_setCell_same HKb.out _)), (Below.heap_alloc _ _ _ (by simp; omega)).trans ((Below.heap_alloc _ _ _ (by simp; omega)).trans ((Below.heap_setCell _ _ _ _ hmv).trans H7.out)), (Below.heap_alloc _ _ _ (by simp; omega)).trans ((Below.heap_alloc _ _ _ (by simp; omega)).trans ((Below.heap_setCell _ _ _ _ hma).trans H0.out))⟩
            refine (HB1.out kb mv ma mf sg wc.heap.size _ (hOb.out.alloc _) hkb hMk ((Below.heap_alloc _ _ _ (by simp)).trans (new_at2 (by simp) _))).mono ?_
            rintro en w5 ⟨rfl, ra, rb, rc, hp5, hr5, ho5⟩
            have H5 := hide hp5
            have HR5 := hide hr5
            have HO5 := hide ho5
            clear hp5 hr5 ho5
            go_wp2
            go_roundg 0
            case measure => omega
            case rel =>
              have hkeep : ∀ k o, k < wc.heap.size → wc.heap[k]? = some o → k ≠ kb → w5.heap[k]? = some o := fun k o hk ho hn => (HO5.out.block k (by simp; omega) (by omega)).trans ((Below.heap_alloc _ _ _ (by simp; omega)).trans ((Below.heap_alloc _ _ _ (by simp; omega)).trans ((Below.heap_setCell _ _ _ _ hn).trans ho)))
              refine Or.inr ⟨rfl, by go_num, ra, rb, rc, H5.out, HK.out.down _ _ _ _ _ _ HR5.out (by simp), hkeep mv _ hml H7.out hmv, hkeep ma _ hmal H0.out hma, ?_, (hOb.out.alloc _).trans HO5.out (fun q h e => by omega)⟩
              exact (HO5.out.block kb (by simp; omega) (by omega)).trans ((Below.heap_alloc _ _ _ (by simp; omega)).trans ((Below.heap_alloc _ _ _ (by simp; omega)).trans (heap_setCell_same HKb.out _)))
          · have c0 : wr.cell? ⟨kb, 0, none⟩ = some (.map (some mv)) := cell_of hkk rfl
            have c1 : wr.cell? ⟨kb, 1, none⟩ = some (.map (some ma)) := cell_of hkk rfl
            have p3 : wr.cell? ⟨wc.heap.size, 3, none⟩ = some (.int .i64 0) := cell_of hp rfl
            have p4 : wr.cell? ⟨wc.heap.size, 4, none⟩ = some (.int .i64 0) := cell_of hp rfl
            have pf := free_of hp
            have pl := heap_lt hp
            have l7 := len287G wr mv firstVs 7 hv7
            have l0 := len287G wr ma #[] 0 hv0
            have hs7 : firstVs.size = 7 := rfl
            rw [hs7] at l7
            have HP := hide hp
            have HR := hide hr
            have HO9 := hide ho
            clear hp hr hv7 hv0 hkk ho hs7
            go_wp2
            go_ret
            have hwz : w.heap.size ≤ wc.heap.size := HO.out.size
            have hol : Only (fun q => q = wc.heap.size) wr _ := ((Only.refl (fun q => q = wc.heap.size) wr).setCell (p := ⟨wc.heap.size, 3, none⟩) (fun _ => rfl) (.int .i64 7)).setCell (p := ⟨wc.heap.size, 4, none⟩) (fun _ => rfl) (.int .i64 0)
            refine ⟨wc.heap.size, ra, rb, rc, rfl, heap_setCell_same (heap_setCell_same HP.out _) _, HK.out.down _ _ _ _ _ _ (HK.out.keep _ _ _ _ _ _ _ _ HR.out HP.out (by omega) hol) (by omega), HO9.out.trans hol (fun q h e => by omega)⟩
end Go.Proofs.YtdbdbaepmdmnfaaGreatDoor
