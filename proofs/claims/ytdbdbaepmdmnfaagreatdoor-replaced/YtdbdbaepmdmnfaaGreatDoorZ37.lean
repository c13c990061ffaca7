import Derived.Test.YtdbdbaepmdmnfaaGreatDoorZ28
import Derived.Test.YtdbdbaepmdmnfaaGreatDoorZ32
import Derived.Deep.RegionHeldLaw
namespace Go.Proofs.YtdbdbaepmdmnfaaGreatDoor
open Go.RowKit
set_option maxRecDepth 20000 in
set_option maxHeartbeats 16000000 in
/-- A program of two rules is made ready. -/
theorem ready_two (kd kd2 : Int) (vs1 vs' : VA) (G1 G : Nat → World → Value → Value → Value → Prop) (hG1 : ∀ B W (o : Obj) a b c, G1 B W a b c → G1 B (W.alloc o) a b c) (hG1d : ∀ A B W a b c, G1 B W a b c → A ≤ B → G1 A W a b c) (hG : KeepsG G) (rg rcap r bl cap r2 bl2 cap2 : Nat) (w : World) (hrg : rg < w.heap.size) (e0 : w.cell? ⟨rg, 0, none⟩ = some (.int .i64 kd)) (e1 : w.cell? ⟨rg, 1, none⟩ = some (.slice none 0 0)) (e2 : w.cell? ⟨rg, 2, none⟩ = some (.slice (some ⟨r, 0, none⟩) bl cap)) (e3 : w.cell? ⟨rg, 3, none⟩ = some (.int .i64 kd2)) (e4 : w.cell? ⟨rg, 4, none⟩ = some (.slice none 0 0)) (e5 : w.cell? ⟨rg, 5, none⟩ = some (.slice (some ⟨r2, 0, none⟩) bl2 cap2))
    (HB : ∀ kb mv ma mf sg pb W, w.heap.size ≤ kb → w.heap.size ≤ pb → MkV w W kb mv ma mf sg ⟨firstVs, #[]⟩ → W.heap[pb]? = some (.cells #[.slice none 0 0, .slice none 0 0, .slice none 0 0, .int .i64 0, .int .i64 0] 135 (0, 0)) → Calls Tryz.prog 92 #[.pointer (some ⟨kb, 0, none⟩), .pointer (some ⟨pb, 0, none⟩), .agg #[.int .i64 kd, .slice none 0 0, .slice (some ⟨r, 0, none⟩) bl cap]] W fun en w' => en = .returned (.tuple #[]) ∧ ∃ a b c, w'.heap[pb]? = some (.cells #[a, b, c, .int .i64 0, .int .i64 0] 135 (0, 0)) ∧ G1 W.heap.size w' a b c ∧ MkV w w' kb mv ma mf sg vs1 ∧ Only (fun k => k = pb ∨ k = mv ∨ k = ma) W w')
    (HB' : ∀ kb mv ma mf sg pb W B a b c, w.heap.size ≤ kb → w.heap.size ≤ pb → pb < B → mv < B → ma < B → B ≤ W.heap.size → G1 B W a b c → MkV w W kb mv ma mf sg vs1 → W.heap[pb]? = some (.cells #[a, b, c, .int .i64 0, .int .i64 0] 135 (0, 0)) → Calls Tryz.prog 92 #[.pointer (some ⟨kb, 0, none⟩), .pointer (some ⟨pb, 0, none⟩), .agg #[.int .i64 kd2, .slice none 0 0, .slice (some ⟨r2, 0, none⟩) bl2 cap2]] W fun en w' => en = .returned (.tuple #[]) ∧ ∃ a b c, w'.heap[pb]? = some (.cells #[a, b, c, .int .i64 0, .int .i64 0] 135 (0, 0)) ∧ G B w' a b c ∧ MkV w w' kb mv ma mf sg vs' ∧ Only (fun k => k = pb ∨ k = mv ∨ k = ma) W w') :
    Calls Tryz.prog 59 #[.agg #[.slice none 0 0, .slice (some ⟨rg, 0, none⟩) 2 rcap]] w fun en w' => ∃ pb a b c, en = .returned (.pointer (some ⟨pb, 0, none⟩)) ∧ w'.heap[pb]? = some (.cells #[a, b, c, .int .i64 vs'.v.size, .int .i64 vs'.a.size] 135 (0, 0)) ∧ G w.heap.size w' a b c ∧ Only (fun _ => False) w w' := by
  have hmk := mk289G
  have hmm := @run_makeMap Tryz.prog
  have HV := hide first_vars
  have HB1 := hide HB
  have HK := hide hG
  have HB2 := hide HB'
  have HC1 := hide hG1
  have HD1 := hide hG1d
  clear HB HB' hG hG1 hG1d
  have n0 : (w.alloc (.cells #[.slice none 0 0, .slice (some ⟨rg, 0, none⟩) 2 rcap] 60)).cell? ⟨w.heap.size, 0, none⟩ = some (.slice none 0 0) := cell_of (new0 w _) rfl
  have n0d : (w.alloc (.cells #[.slice none 0 0, .slice (some ⟨rg, 0, none⟩) 2 rcap] 60)).drew.cell? ⟨w.heap.size, 0, none⟩ = some (.slice none 0 0) := n0
  go_enter Tryz.func59, Tryz.ntmps59
  go_upto_region 1 with fail
  go_cut [3, 11, 12, 13, 17] (fun s3 s11 s12 s13 s17 wc => ∃ kb mv ma mf sg, s3 = .pointer (some ⟨kb, 0, none⟩) ∧ w.heap.size ≤ kb ∧ w.heap.size ≤ mv ∧ w.heap.size ≤ ma ∧ s11 = .map (some mv) ∧ s12 = .map (some ma) ∧ s13 = .map (some mf) ∧ s17 = .slice (some ⟨sg, 0, none⟩) 0 0 ∧ wc.heap[kb]? = some (.cells #[.map (some mv), .map (some ma), .map (some mf), .slice (some ⟨sg, 0, none⟩) 0 0, .slice none 0 0] 182 (0, 0)) ∧ wc.heap[mv]? = some (.map firstVs 7) ∧ wc.heap[ma]? = some (.map #[] 0) ∧ wc.heap[w.heap.size]? = some (.cells #[.slice none 0 0, .slice (some ⟨rg, 0, none⟩) 2 rcap] 60 (0, 0)) ∧ Only (fun _ => False) w wc)
  case first =>
    go_region_held3 (fun W => W.cell? ⟨w.heap.size, 0, none⟩ = some (.slice none 0 0)) (repeat (first | (with_reducible assumption) | (with_reducible refine past ?_ _) | (with_reducible refine pastD ?_ _) | ((with_reducible refine farC ?_ ?_); (rotate_left; focus (simp <;> omega)))))
      (first | (go_at_call 90; refine (HV.out _).mono ?_; rintro en w2 ⟨rfl, hw2⟩; subst hw2))
    all_goals
      go_wp2_with fail
      go_meet
      refine ⟨_, _, _, _, _, rfl, by omega, by first | omega | (simp; done) | (simp; omega), by first | omega | (simp; done) | (simp; omega), rfl, rfl, rfl, rfl, ?_, ?_, ?_, ?_, ?_⟩
      · (repeat (first | ((with_reducible refine new_at2 ?_ _); focus (simp; done)) | ((with_reducible refine (Below.heap_alloc _ _ _ ?_).trans ?_); (focus (first | (simp; done) | (simp; omega)))) | ((with_reducible refine new_at2D ?_ _); focus (simp; done)) | ((with_reducible refine (heap_allocD _ _ ?_).trans ?_); (focus (first | (simp; done) | (simp; omega))))))
      · (repeat (first | ((with_reducible refine new_at2 ?_ _); focus (simp; done)) | ((with_reducible refine (Below.heap_alloc _ _ _ ?_).trans ?_); (focus (first | (simp; done) | (simp; omega)))) | ((with_reducible refine new_at2D ?_ _); focus (simp; done)) | ((with_reducible refine (heap_allocD _ _ ?_).trans ?_); (focus (first | (simp; done) | (simp; omega))))))
      · (repeat (first | ((with_reducible refine new_at2 ?_ _); focus (simp; done)) | ((with_reducible refine (Below.heap_alloc _ _ _ ?_).trans ?_); (focus (first | (simp; done) | (simp; omega)))) | ((with_reducible refine new_at2D ?_ _); focus (simp; done)) | ((with_reducible refine (heap_allocD _ _ ?_).trans ?_); (focus (first | (simp; done) | (simp; omega))))))
      · (repeat (first | ((with_reducible refine new_at2 ?_ _); focus (simp; done)) | ((with_reducible refine (Below.heap_alloc _ _ _ ?_).trans ?_); (focus (first | (simp; done) | (simp; omega)))) | ((with_reducible refine new_at2D ?_ _); focus (simp; done)) | ((with_reducible refine (heap_allocD _ _ ?_).trans ?_); (focus (first | (simp; done) | (simp; omega))))))
      · (repeat (first | (with_reducible exact Only.refl _ _) | (with_reducible refine Only.alloc ?_ _) | (with_reducible refine toDrew ?_)))
  case rest =>
    obtain ⟨kb, mv, ma, mf, sg, rfl, hkb, hmb, hab, rfl, rfl, rfl, rfl, hk, h7, h0, hbx, hO⟩ := hcut
    have a0 : wc.cell? ⟨w.heap.size, 0, none⟩ = some (.slice none 0 0) := cell_of hbx rfl
    have a1 : wc.cell? ⟨w.heap.size, 1, none⟩ = some (.slice (some ⟨rg, 0, none⟩) 2 rcap) := cell_of hbx rfl
    have k0 : wc.cell? ⟨kb, 0, none⟩ = some (.map (some mv)) := cell_of hk rfl
    have k1 : wc.cell? ⟨kb, 1, none⟩ = some (.map (some ma)) := cell_of hk rfl
    have k4 : wc.cell? ⟨kb, 4, none⟩ = some (.slice none 0 0) := cell_of hk rfl
    have kf := free_of hk
    have kl := heap_lt hk
    have blx := heap_lt hbx
    have hne : kb ≠ w.heap.size := fun e => by rw [e, hbx] at hk; cases hk
    have q0 := (hO.cell (p := ⟨rg, 0, none⟩) hrg (fun e => e)).trans e0
    have q1 := (hO.cell (p := ⟨rg, 1, none⟩) hrg (fun e => e)).trans e1
    have q2 := (hO.cell (p := ⟨rg, 2, none⟩) hrg (fun e => e)).trans e2
    have q3 := (hO.cell (p := ⟨rg, 3, none⟩) hrg (fun e => e)).trans e3
    have q4 := (hO.cell (p := ⟨rg, 4, none⟩) hrg (fun e => e)).trans e4
    have q5 := (hO.cell (p := ⟨rg, 5, none⟩) hrg (fun e => e)).trans e5
    have rl := Nat.lt_of_lt_of_le hrg hO.size
    have H7 := hide h7
    have H0 := hide h0
    have HKb := hide hk
    have HBx := hide hbx
    have HO := hide hO
    clear h7 h0 hk hbx hO HV
    go_wp2
    go_loop [22] (fun s => s = .int .i64 0) (fun _ => 0)
    case atStart => exact rfl
    case round =>
      subst hrel
      go_wp2
      go_loop [44] (fun s => s = .int .i64 0) (fun _ => 0)
      case atStart => exact rfl
      case round =>
        subst hrel
        go_wp2
        have rne : rg ≠ kb := by omega
        have hOb : Hid (Only (fun _ => False) w ((wc.setCell ⟨kb, 4, none⟩ (.slice none 0 0)).alloc (.cells #[.slice none 0 0, .slice none 0 0, .slice none 0 0, .int .i64 0, .int .i64 0] 135))) := (HO.out.setCell (p := ⟨kb, 4, none⟩) (fun h => absurd h (by show ¬ kb < w.heap.size; omega)) _).alloc _
        have hmv : mv ≠ kb := fun e => by have := H7.out; rw [e, HKb.out] at this; cases this
        have hma : ma ≠ kb := fun e => by have := H0.out; rw [e, HKb.out] at this; cases this
        have hml := heap_lt H7.out
        have hmal := heap_lt H0.out
        go_loopg [67] 2 (fun gh s67 wr => (gh = 2 ∧ s67 = .int .i64 0 ∧ wr = ((wc.setCell ⟨kb, 4, none⟩ (.slice none 0 0)).alloc (.cells #[.slice none 0 0, .slice none 0 0, .slice none 0 0, .int .i64 0, .int .i64 0] 135))) ∨ (gh = 1 ∧ s67 = .int .i64 1 ∧ ∃ a b c, wr.heap[wc.heap.size]? = some (.cells #[a, b, c, .int .i64 0, .int .i64 0] 135 (0, 0)) ∧ G1 (wc.heap.size + 1) wr a b c ∧ MkV w wr kb mv ma mf sg vs1 ∧ Only (fun _ => False) w wr) ∨ (gh = 0 ∧ s67 = .int .i64 2 ∧ ∃ a b c, wr.heap[wc.heap.size]? = some (.cells #[a, b, c, .int .i64 0, .int .i64 0] 135 (0, 0)) ∧ G (wc.heap.size + 1) wr a b c ∧ MkV w wr kb mv ma mf sg vs' ∧ Only (fun _ => False) w wr))
        case atStart => exact Or.inl ⟨rfl, rfl, rfl⟩
        case round =>
          rcases hrel with ⟨hg, rfl, ew⟩ | ⟨hg, rfl, ra, rb, rc, hp, hr, hmk9, ho⟩ | ⟨hg, rfl, ra, rb, rc, hp, hr, hmk9, ho⟩
          · subst ew
            subst hg
            go_wp2_with fail
            have hna : ma ≠ mv := fun e => by have h1 := H0.out; rw [e, H7.out] at h1; injection h1 with h2; injection h2 with h3 h4; exact absurd h4 (by decide)
            have hMk : MkV w (((wc.setCell ⟨kb, 4, none⟩ (.slice none 0 0)).alloc (.cells #[.slice none 0 0, .slice none 0 0, .slice none 0 0, .int .i64 0, .int .i64 0] 135)).alloc (.cells #[.int .i64 kd, .slice none 0 0, .slice (some ⟨r, 0, none⟩) bl cap] 102)) kb mv ma mf sg ⟨firstVs, #[]⟩ := ⟨(Below.heap_alloc _ _ _ (by simp; omega)).trans ((Below.heap_alloc _ _ _ (by simp; omega)).trans (heap_setCell_same HKb.out _)), (Below.heap_alloc _ _ _ (by simp; omega)).trans ((Below.heap_alloc _ _ _ (by simp; omega)).trans ((Below.heap_setCell _ _ _ _ hmv).trans H7.out)), (Below.heap_alloc _ _ _ (by simp; omega)).trans ((Below.heap_alloc _ _ _ (by simp; omega)).trans ((Below.heap_setCell _ _ _ _ hma).trans H0.out)), hna, hmb, hab, hOb.out.alloc _⟩
            refine (HB1.out kb mv ma mf sg wc.heap.size _ hkb HO.out.size hMk ((Below.heap_alloc _ _ _ (by simp)).trans (new_at2 (by simp) _))).mono ?_
            rintro en w5 ⟨rfl, ra, rb, rc, hp5, hr5, hk5, ho5⟩
            have H5 := hide hp5
            have HR5 := hide hr5
            have HO5 := hide ho5
            have HK5 := hide hk5
            clear hp5 hr5 ho5 hk5
            go_wp2
            go_roundg 1
            case measure => omega
            case rel =>
              exact Or.inr (Or.inl ⟨rfl, by go_num, ra, rb, rc, H5.out, HD1.out _ _ _ _ _ _ HR5.out (by simp), HK5.out, (hOb.out.alloc _).trans HO5.out (fun q h e => by rcases e with e | e | e <;> (have := HO.out.size; omega))⟩)
          · have keep : ∀ (o : Nat) x, w.cell? ⟨rg, o, none⟩ = some x → wr.cell? ⟨rg, o, none⟩ = some x := fun o x h => (ho.cell (p := ⟨rg, o, none⟩) hrg (fun e => e)).trans h
            have u3 := keep 3 _ e3
            have u4 := keep 4 _ e4
            have u5 := keep 5 _ e5
            have hzr : wc.heap.size + 1 ≤ wr.heap.size := heap_lt hp
            have HC := hide (HB2.out kb mv ma mf sg wc.heap.size (wr.alloc (.cells #[.int .i64 kd2, .slice none 0 0, .slice (some ⟨r2, 0, none⟩) bl2 cap2] 102)) (wc.heap.size + 1) ra rb rc hkb HO.out.size (by omega) (by omega) (by omega) (by simp; omega) (HC1.out _ _ _ _ _ _ hr) (hmk9.calm (onlyA _ _)) ((Below.heap_alloc _ _ _ hzr).trans hp))
            have HO9 := hide ho
            clear hp hr hmk9 ho keep
            go_wp2_with fail
            refine (HC.out).mono ?_
            rintro en w5 ⟨rfl, ra, rb, rc, hp5, hr5, hk5, ho5⟩
            have H5 := hide hp5
            have HR5 := hide hr5
            have HO5 := hide ho5
            have HK5 := hide hk5
            clear hp5 hr5 ho5 hk5 HC
            go_wp2
            go_roundg 0
            case measure => omega
            case rel =>
              exact Or.inr (Or.inr ⟨rfl, by go_num, ra, rb, rc, H5.out, HR5.out, HK5.out, (HO9.out.alloc _).trans HO5.out (fun q h e => by rcases e with e | e | e <;> (have := HO.out.size; omega))⟩)
          · have c0 : wr.cell? ⟨kb, 0, none⟩ = some (.map (some mv)) := cell_of hmk9.k rfl
            have c1 : wr.cell? ⟨kb, 1, none⟩ = some (.map (some ma)) := cell_of hmk9.k rfl
            have p3 : wr.cell? ⟨wc.heap.size, 3, none⟩ = some (.int .i64 0) := cell_of hp rfl
            have p4 : wr.cell? ⟨wc.heap.size, 4, none⟩ = some (.int .i64 0) := cell_of hp rfl
            have pf := free_of hp
            have pl := heap_lt hp
            have l7 := len287G wr mv vs'.v vs'.v.size hmk9.v
            have l0 := len287G wr ma vs'.a vs'.a.size hmk9.a
            have HP := hide hp
            have HR := hide hr
            have HO9 := hide ho
            clear hp hr hmk9 ho
            go_wp2
            go_ret
            have hwz : w.heap.size ≤ wc.heap.size := HO.out.size
            have hol : Only (fun q => q = wc.heap.size) wr _ := ((Only.refl (fun q => q = wc.heap.size) wr).setCell (p := ⟨wc.heap.size, 3, none⟩) (fun _ => rfl) (.int .i64 vs'.v.size)).setCell (p := ⟨wc.heap.size, 4, none⟩) (fun _ => rfl) (.int .i64 vs'.a.size)
            refine ⟨wc.heap.size, rfl, ra, rb, rc, heap_setCell_same (heap_setCell_same HP.out _) _, HK.out.down _ _ _ _ _ _ (HK.out.keep _ _ _ _ _ _ _ _ HR.out HP.out (by omega) hol) (by omega), HO9.out.trans hol (fun q h e => by omega)⟩
end Go.Proofs.YtdbdbaepmdmnfaaGreatDoor

