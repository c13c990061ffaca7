import Derived.Test.YtdbdbaepmdmnfaaGreatDoorZ41
import Derived.Test.YtdbdbaepmdmnfaaGreatDoorZ36
import Derived.Test.YtdbdbaepmdmnfaaGreatDoorZ33
import Derived.Deep.CutBlock
namespace Go.Proofs.YtdbdbaepmdmnfaaGreatDoor
open Go.RowKit
set_option maxRecDepth 20000 in
set_option maxHeartbeats 8000000 in
theorem grunR (S : List UInt8) (hS : S.length ≤ 100) (hpl : ∀ c ∈ S, plainB c = true) (R : Pat) (hR : wholeP S = some R) (T : ByteArray) (F : AS) (hF : Came R T.data.toList F) (hT : T.size ≤ 60) (hT0 : 0 < T.size) (hno : ∀ b ∈ T.data.toList, b ≠ 10) (a : Addr) (w : World) (hse : SentF w a) (htab : Lib.TabIs Tryz.prog w "internal/strconv.uint64pow10" .u64 Lib.pow10Tab) : Calls Tryz.prog 28 #[.string (TR S), .string T, .int .i64 2000] w fun en w' => ∃ (g : Nat), en = .returned (.tuple #[.slice (some ⟨g, 0, none⟩) 1 1, .int .i64 0, .int .i64 0, .int .i64 0]) ∧ w'.heap[g]? = some (.cells #[.string ⟨#[]⟩, .string (ofB (outR T.data.toList F))] 41 (0, 0)) ∧ Only (fun _ => False) w w' := by
  have HRd := hide (readProgramR S hS hpl w)
  have HSe := hide hse
  have HTab := hide htab
  have hti : ¬ (400 : Int) < (T.size : Int) := by omega
  clear hse htab
  go_enter Tryz.func28, Tryz.ntmps28
  go_wp2_with fail
  refine (HRd.out).mono ?_
  rintro en w2 ⟨pb, v, rfl, hv, ho2⟩
  have hv2 := hv
  obtain ⟨rs, us, rfl, hrow, _⟩ := hv2
  obtain ⟨rg, rcap, rfl, _, _⟩ := own_at hrow (by omega)
  have HRR : Hid (Calls Tryz.prog 41 #[.agg #[.slice none 0 0, .slice (some ⟨rg, 0, none⟩) 2 rcap], .string T, .int .i64 2000] (w2.alloc (.cells #[.slice none 0 0, .slice (some ⟨rg, 0, none⟩) 2 rcap] 60)) fun en w' => ∃ sb tv, en = .returned (.agg #[.slice (some ⟨sb, 0, none⟩) 1 1, .int .i64 0, .nilIface]) ∧ w'.heap[sb]? = some (.cells #[.string ⟨#[]⟩, tv] 142 (0, 0)) ∧ w'.ownsRow 0 5 1 tv (ofB (outR T.data.toList F)).size (Lib.strCells (ofB (outR T.data.toList F))) ∧ Only (fun _ => False) (w2.alloc (.cells #[.slice none 0 0, .slice (some ⟨rg, 0, none⟩) 2 rcap] 60)) w') := hide (by
    exact runR S hS R hR T F hF hT hT0 hno dd_short pb rg rcap _ (progN_stab S pb hv (onlyA w2 _)) (tab_only (tab_only HTab.out ho2) (onlyA w2 _)))
  have HO2 := hide ho2
  clear hrow hv ho2 HRd hno hF
  generalize hout : ofB (outR T.data.toList F) = out at *
  go_wp2_with fail
  refine (HRR.out).mono ?_
  rintro en w4 ⟨sb, tv, rfl, hS, hown, ho4⟩
  have hw4 : Only (fun _ => False) w w4 := (HO2.out.alloc _).trans ho4 (fun _ _ e => e)
  have hO4 : Only (fun _ => False) w (w4.alloc (.cells #[.slice (some ⟨sb, 0, none⟩) 1 1, .int .i64 0, .nilIface] 76)) := hw4.alloc _
  have hrowM : w4.ownsRow 0 5 1 tv out.data.toList.length (out.data.toList.map byV) := by rw [len_eq]; exact hown
  have HSt : Hid (∀ W, Only (fun _ => False) w4 W → Calls Tryz.prog 42 #[.slice (some ⟨sb, 0, none⟩) 1 1] W fun en w' => ∃ g, en = .returned (.slice (some ⟨g, 0, none⟩) 1 1) ∧ w'.heap[g]? = some (.cells #[.string ⟨#[]⟩, .string (ofB out.data.toList)] 41 (0, 0)) ∧ Only (fun _ => False) W w') := fun W hW => streams_ofL sb tv out.data.toList W ((hW.block sb (heap_lt hS) (fun e => e)).trans hS) (ownsRow_of hrowM (fun k hk => hW.block k (hrowM.lt k hk).2 (fun e => e)))
  have HEn : Hid (∀ W, Only (fun _ => False) w W → Calls Tryz.prog 43 #[.nilIface] W fun e w' => e = .returned (.int .i64 0) ∧ w' = W) := hide (fun W hW => errno_nil W (HSe.out.only hW).s)
  have HO4 := hide hO4
  clear hS hown ho4 hO4 HRR hrowM hw4
  have n0 : (w4.alloc (.cells #[.slice (some ⟨sb, 0, none⟩) 1 1, .int .i64 0, .nilIface] 76)).drew.cell? ⟨w4.heap.size, 0, none⟩ = some (.slice (some ⟨sb, 0, none⟩) 1 1) := cell_of (new0 w4 _) rfl
  have n1 : (w4.alloc (.cells #[.slice (some ⟨sb, 0, none⟩) 1 1, .int .i64 0, .nilIface] 76)).drew.cell? ⟨w4.heap.size, 1, none⟩ = some (.int .i64 0) := cell_of (new0 w4 _) rfl
  have n2 : (w4.alloc (.cells #[.slice (some ⟨sb, 0, none⟩) 1 1, .int .i64 0, .nilIface] 76)).drew.cell? ⟨w4.heap.size, 2, none⟩ = some (.nilIface) := cell_of (new0 w4 _) rfl
  go_upto_region 7 with fail
  go_region_held3 (fun W => W.cell? ⟨w4.heap.size, 0, none⟩ = some (.slice (some ⟨sb, 0, none⟩) 1 1) ∧ W.cell? ⟨w4.heap.size, 1, none⟩ = some (.int .i64 0) ∧ W.cell? ⟨w4.heap.size, 2, none⟩ = some (.nilIface)) (first | (refine ⟨?_, ?_, ?_⟩ <;> (with_reducible assumption)))
    (first | (go_at_call 42; refine (HSt.out _ (toDrew (onlyA w4 _))).mono ?_; rintro en w5 ⟨g, rfl, hg5, ho5⟩; have q0 := (ho5.cell (p := ⟨w4.heap.size, 0, none⟩) (by simp) (fun e => e)).trans n0; have q1 := (ho5.cell (p := ⟨w4.heap.size, 1, none⟩) (by simp) (fun e => e)).trans n1; have q2 := (ho5.cell (p := ⟨w4.heap.size, 2, none⟩) (by simp) (fun e => e)).trans n2; have HG5 := hide hg5; have HO5 : Hid (Only (fun _ => False) w w5) := HO4.out.trans (fromDrew ho5) (fun _ _ e => e); clear hg5 ho5) | (go_at_call 43; refine (HEn.out _ HO5.out).mono ?_; rintro en w' ⟨rfl, h3⟩; subst w'))
  all_goals
    go_wp2
    exact bodyPost_ret (v := .tuple #[.slice (some ⟨g, 0, none⟩) 1 1, .int .i64 0, .int .i64 0, .int .i64 0]) (by simp [results, Tryz.results28, go_sem]) rfl ⟨g, rfl, by rw [hout]; exact HG5.out, HO5.out⟩
set_option maxRecDepth 20000 in
set_option maxHeartbeats 4000000 in
theorem ran_ofR (p T : ByteArray) (Φ : ByteArray → Prop) (w : World) (h : ∀ W, Only (fun _ => False) w W → Calls Tryz.prog 28 #[.string p, .string T, .int .i64 2000] W fun en w' => ∃ (g : Nat) (x : ByteArray) (E : Int), en = .returned (.tuple #[.slice (some ⟨g, 0, none⟩) 1 1, .int .i64 0, .int .i64 E, .int .i64 0]) ∧ w'.heap[g]? = some (.cells #[.string ⟨#[]⟩, .string x] 41 (0, 0)) ∧ (E = 0 ∧ Φ x) ∧ Only (fun _ => False) W w') :
    Calls Tryz.prog 18 #[.string p, .string T, .int .i64 2000] w fun en w' => ∃ (g : Nat) (x : ByteArray), en = .returned (.agg #[.slice (some ⟨g, 0, none⟩) 1 1, .int .i64 0, .int .i64 0, .int .i64 0]) ∧ w'.heap[g]? = some (.cells #[.string ⟨#[]⟩, .string x] 41 (0, 0)) ∧ Φ x ∧ Only (fun _ => False) w w' := by
  have HR := hide h
  clear h
  go_enter Tryz.func18, Tryz.ntmps18
  go_wp2_with fail
  refine (HR.out _ (onlyA w _)).mono ?_
  rintro en w2 ⟨g, x, E, rfl, h1, ⟨rfl, h2⟩, ho⟩
  have hb := (ho.block w.heap.size (by simp) (fun e => e)).trans (new0 w _)
  have c0 : w2.cell? ⟨w.heap.size, 0, none⟩ = some (.slice none 0 0) := cell_of hb rfl
  have c1 : w2.cell? ⟨w.heap.size, 1, none⟩ = some (.int .i64 0) := cell_of hb rfl
  have c2 : w2.cell? ⟨w.heap.size, 2, none⟩ = some (.int .i64 0) := cell_of hb rfl
  have c3 : w2.cell? ⟨w.heap.size, 3, none⟩ = some (.int .i64 0) := cell_of hb rfl
  have hfr := free_of hb
  have hne : g ≠ w.heap.size := fun e => by
    rw [e, hb] at h1
    cases h1
  have HO := hide ((onlyA w _).trans ho (fun _ _ e => e))
  have H1 := hide h1
  have H2 := hide h2
  have HB := hide hb
  clear h1 h2 ho hb
  go_wp2_with (go_at_call 13; refine (numLaw _ _).mono ?_; rintro en w' ⟨rfl, h3⟩; subst w')
  refine bodyPost_ret (v := .agg #[.slice (some ⟨g, 0, none⟩) 1 1, .int .i64 0, .int .i64 0, .int .i64 0]) (by simp [results, Tryz.results18, go_sem, c0, c1, c2, c3]) rfl ?_
  have hst : ∀ (W : World) (o : Nat) (u : Value), W.heap[g]? = some (.cells #[.string ⟨#[]⟩, .string x] 41 (0, 0)) → (W.setCell ⟨w.heap.size, o, none⟩ u).heap[g]? = some (.cells #[.string ⟨#[]⟩, .string x] 41 (0, 0)) := fun W o u h => (Below.heap_setCell _ _ _ _ hne).trans h
  exact ⟨g, x, rfl, hst _ _ _ (hst _ _ _ (hst _ _ _ (hst _ _ _ H1.out))), H2.out, (((HO.out.setCell (fun h => absurd h (Nat.lt_irrefl _)) _).setCell (fun h => absurd h (Nat.lt_irrefl _)) _).setCell (fun h => absurd h (Nat.lt_irrefl _)) _).setCell (fun h => absurd h (Nat.lt_irrefl _)) _⟩
/-- What ran answers of the program, of lines. -/
theorem ranR (S : List UInt8) (hS : S.length ≤ 100) (hpl : ∀ c ∈ S, plainB c = true) (R : Pat) (hR : wholeP S = some R) (line : ByteArray) (F : AS) (hF : Came R line.data.toList F) (h60 : line.size ≤ 60) (h0 : 0 < line.size) (hno : ∀ b ∈ line.data.toList, b ≠ 10) (a : Addr) (W : World) (hse : SentF W a) (htab : Lib.TabIs Tryz.prog W "internal/strconv.uint64pow10" .u64 Lib.pow10Tab) : Calls Tryz.prog 18 #[.string (TR S), .string line, .int .i64 2000] W fun en w' => ∃ g, en = .returned (.agg #[.slice (some ⟨g, 0, none⟩) 1 1, .int .i64 0, .int .i64 0, .int .i64 0]) ∧ w'.heap[g]? = some (.cells #[.string ⟨#[]⟩, .string (ofB (outR line.data.toList F))] 41 (0, 0)) ∧ Only (fun _ => False) W w' := by
  refine (ran_ofR (TR S) line (fun x => x = ofB (outR line.data.toList F)) W (fun W' hW' => (grunR S hS hpl R hR line F hF h60 h0 hno a W' (hse.only hW') (tab_only htab hW')).mono ?_)).mono ?_
  · rintro en w' ⟨g, e, hg, ho⟩
    exact ⟨g, _, 0, e, hg, ⟨rfl, rfl⟩, ho⟩
  · rintro en w' ⟨g, x, e, hg, hx, ho⟩
    subst hx
    exact ⟨g, e, hg, ho⟩
end Go.Proofs.YtdbdbaepmdmnfaaGreatDoor

namespace Go.Proofs.YtdbdbaepmdmnfaaGreatDoor
open Go.RowKit
theorem plain_of {c : UInt8} (h1 : c.toNat ≠ 92) (h2 : c.toNat ≠ 34) (h3 : c.toNat ≠ 10) : plainB c = true := by
  unfold plainB
  simp only [Bool.and_eq_true, Bool.not_eq_true', beq_eq_false_iff_ne]
  omega
set_option maxRecDepth 100000 in
set_option maxHeartbeats 8000000 in
theorem replaced_any (a : Addr) (K A B : Int) (s t u : ByteArray) (hs : s.size ≤ 1125899906842624) (ht : t.size ≤ 1125899906842624) (ao : Option Addr) (n cap : Nat) (w : World) (hse : SentF w a) (htab : Lib.TabIs Tryz.prog w "internal/strconv.uint64pow10" .u64 Lib.pow10Tab) :
    Calls Tryz.prog 23 #[.agg #[.int .i64 K, .int .i64 A, .int .i64 B, .string s, .string t, .string u, .slice ao n cap]] w fun e w' => e = .returned (.bool true) ∧ Only (fun _ => False) w w' := by
  have hx0 := new0 w (.cells #[.int .i64 K, .int .i64 A, .int .i64 B, .string s, .string t, .string u, .slice ao n cap] 25)
  have HX0 := hide hx0
  have HSe := hide hse
  have HTb := hide htab
  have HO0 : Hid (Only (fun _ => False) w (w.alloc (.cells #[.int .i64 K, .int .i64 A, .int .i64 B, .string s, .string t, .string u, .slice ao n cap] 25))) := hide (onlyA w _)
  clear hx0 hse htab
  go_enter Tryz.func23, Tryz.ntmps23
  go_wp2
  go_loop [3] (fun x => ∃ k : Nat, k ≤ s.size ∧ x = .int .i64 k ∧ Hid (∀ (m : Nat) c, m < k → s.data.toList[m]? = some c → c.toNat ≠ 94 ∧ c.toNat ≠ 36 ∧ plainB c = true)) (fun x => s.size - (intOf x).toNat)
  case atStart => exact ⟨0, by omega, rfl, hide (fun m c h => by omega)⟩
  case round =>
    obtain ⟨k, hk, rfl, HI⟩ := hrel
    by_cases hlt : k < s.size
    · have hki : (k : Int) < (s.size : Int) := by omega
      have HC : Hid (s.data.toList[k]? = some s[k]) := hide (by rw [List.getElem?_eq_getElem (by rw [len_eq]; exact hlt)]; rfl)
      have hcs : s[k].toNat = 94 ∨ (s[k].toNat ≠ 94 ∧ s[k].toNat = 36) ∨ (s[k].toNat ≠ 94 ∧ s[k].toNat ≠ 36 ∧ s[k].toNat = 92) ∨ (s[k].toNat ≠ 94 ∧ s[k].toNat ≠ 36 ∧ s[k].toNat ≠ 92 ∧ s[k].toNat = 34) ∨ (s[k].toNat ≠ 94 ∧ s[k].toNat ≠ 36 ∧ s[k].toNat ≠ 92 ∧ s[k].toNat ≠ 34 ∧ s[k].toNat = 10) ∨ (s[k].toNat ≠ 94 ∧ s[k].toNat ≠ 36 ∧ s[k].toNat ≠ 92 ∧ s[k].toNat ≠ 34 ∧ s[k].toNat ≠ 10) := by omega
      rcases hcs with hc | ⟨c1, hc⟩ | ⟨c1, c2, hc⟩ | ⟨c1, c2, c3, hc⟩ | ⟨c1, c2, c3, c4, hc⟩ | ⟨c1, c2, c3, c4, c5⟩
      · have h1 : (s[k].toNat : Int) = 94 := by omega
        have g1 : ((s[k].toNat : Int) == 94) = true := by rw [beq_iff_eq]; exact h1
        clear hc
        go_wp2
        go_ret
        exact ⟨rfl, HO0.out⟩
      · have h1 : ¬ (s[k].toNat : Int) = 94 := by omega
        have g1 : ((s[k].toNat : Int) == 94) = false := by rw [beq_eq_false_iff_ne]; exact h1
        have h2 : (s[k].toNat : Int) = 36 := by omega
        have g2 : ((s[k].toNat : Int) == 36) = true := by rw [beq_iff_eq]; exact h2
        clear c1 hc
        go_wp2
        go_ret
        exact ⟨rfl, HO0.out⟩
      · have h1 : ¬ (s[k].toNat : Int) = 94 := by omega
        have g1 : ((s[k].toNat : Int) == 94) = false := by rw [beq_eq_false_iff_ne]; exact h1
        have h2 : ¬ (s[k].toNat : Int) = 36 := by omega
        have g2 : ((s[k].toNat : Int) == 36) = false := by rw [beq_eq_false_iff_ne]; exact h2
        have h3 : (s[k].toNat : Int) = 92 := by omega
        have g3 : ((s[k].toNat : Int) == 92) = true := by rw [beq_iff_eq]; exact h3
        clear c1 c2 hc
        go_wp2
        go_ret
        exact ⟨rfl, HO0.out⟩
      · have h1 : ¬ (s[k].toNat : Int) = 94 := by omega
        have g1 : ((s[k].toNat : Int) == 94) = false := by rw [beq_eq_false_iff_ne]; exact h1
        have h2 : ¬ (s[k].toNat : Int) = 36 := by omega
        have g2 : ((s[k].toNat : Int) == 36) = false := by rw [beq_eq_false_iff_ne]; exact h2
        have h3 : ¬ (s[k].toNat : Int) = 92 := by omega
        have g3 : ((s[k].toNat : Int) == 92) = false := by rw [beq_eq_false_iff_ne]; exact h3
        have h4 : (s[k].toNat : Int) = 34 := by omega
        have g4 : ((s[k].toNat : Int) == 34) = true := by rw [beq_iff_eq]; exact h4
        clear c1 c2 c3 hc
        go_wp2
        go_ret
        exact ⟨rfl, HO0.out⟩
      · have h1 : ¬ (s[k].toNat : Int) = 94 := by omega
        have g1 : ((s[k].toNat : Int) == 94) = false := by rw [beq_eq_false_iff_ne]; exact h1
        have h2 : ¬ (s[k].toNat : Int) = 36 := by omega
        have g2 : ((s[k].toNat : Int) == 36) = false := by rw [beq_eq_false_iff_ne]; exact h2
        have h3 : ¬ (s[k].toNat : Int) = 92 := by omega
        have g3 : ((s[k].toNat : Int) == 92) = false := by rw [beq_eq_false_iff_ne]; exact h3
        have h4 : ¬ (s[k].toNat : Int) = 34 := by omega
        have g4 : ((s[k].toNat : Int) == 34) = false := by rw [beq_eq_false_iff_ne]; exact h4
        have h5 : (s[k].toNat : Int) = 10 := by omega
        have g5 : ((s[k].toNat : Int) == 10) = true := by rw [beq_iff_eq]; exact h5
        clear c1 c2 c3 c4 hc
        go_wp2
        go_ret
        exact ⟨rfl, HO0.out⟩
      · have h1 : ¬ (s[k].toNat : Int) = 94 := by omega
        have g1 : ((s[k].toNat : Int) == 94) = false := by rw [beq_eq_false_iff_ne]; exact h1
        have h2 : ¬ (s[k].toNat : Int) = 36 := by omega
        have g2 : ((s[k].toNat : Int) == 36) = false := by rw [beq_eq_false_iff_ne]; exact h2
        have h3 : ¬ (s[k].toNat : Int) = 92 := by omega
        have g3 : ((s[k].toNat : Int) == 92) = false := by rw [beq_eq_false_iff_ne]; exact h3
        have h4 : ¬ (s[k].toNat : Int) = 34 := by omega
        have g4 : ((s[k].toNat : Int) == 34) = false := by rw [beq_eq_false_iff_ne]; exact h4
        have h5 : ¬ (s[k].toNat : Int) = 10 := by omega
        have g5 : ((s[k].toNat : Int) == 10) = false := by rw [beq_eq_false_iff_ne]; exact h5
        have HN : Hid (∀ (m : Nat) c, m < k + 1 → s.data.toList[m]? = some c → c.toNat ≠ 94 ∧ c.toNat ≠ 36 ∧ plainB c = true) := hide (fun m c hm hc => by
          by_cases e : m = k
          · subst e
            rw [HC.out] at hc
            cases hc
            exact ⟨c1, c2, plain_of c3 c4 c5⟩
          · exact HI.out m c (by omega) hc)
        clear c1 c2 c3 c4 c5 HC
        go_wp2
        go_round
        case rel => exact ⟨k + 1, by omega, by go_num, HN⟩
        case measure => simp [intOf]; omega
    · obtain rfl : k = s.size := by omega
      have HSF : Hid (∀ c ∈ s.data.toList, c.toNat ≠ 94 ∧ c.toNat ≠ 36 ∧ plainB c = true) := hide (fun c hc => by
        obtain ⟨m, hm⟩ := List.getElem?_of_mem hc
        exact HI.out m c (by have := (List.getElem?_eq_some_iff.1 hm).1; rw [len_eq] at this; exact this) hm)
      clear HI hk hlt
      go_wp2_with fail
      refine (match_any s ⟨#[]⟩ _).mono ?_
      rintro e w1 ⟨hm, ho1⟩
      have hx1 : w1.heap[w.heap.size]? = some (.cells #[.int .i64 K, .int .i64 A, .int .i64 B, .string s, .string t, .string u, .slice ao n cap] 25 (0, 0)) := (ho1.block w.heap.size (by simp) (fun e => e)).trans HX0.out
      have p3 : w1.cell? ⟨w.heap.size, 3, none⟩ = some (.string s) := cell_of hx1 rfl
      have p4 : w1.cell? ⟨w.heap.size, 4, none⟩ = some (.string t) := cell_of hx1 rfl
      have HX1 := hide hx1
      have HO1 : Hid (Only (fun _ => False) w w1) := HO0.out.trans ho1 (fun _ _ e => e)
      clear ho1 hx1 HX0 HO0
      by_cases hsl : 500 < s.size
      · obtain rfl := hm.1 (Or.inl hsl)
        have hsi : (100 : Int) < (s.size : Int) := by omega
        clear hm
        go_wp2_with (go_at_call 13; refine (numLaw _ _).mono ?_; rintro e w5 ⟨rfl, h5⟩; subst w5)
        go_ret
        exact ⟨rfl, HO1.out⟩
      · have hm2 := hm.2 (by show ¬ (500 < s.size ∨ 500 < 0); omega)
        clear hm
        cases hw : wholeP s.data.toList with
        | none =>
          obtain rfl := hm2.1 hw
          clear hm2 hw
          by_cases h100 : 100 < s.size
          · have hsi : (100 : Int) < (s.size : Int) := by omega
            go_wp2_with (go_at_call 13; refine (numLaw _ _).mono ?_; rintro e w5 ⟨rfl, h5⟩; subst w5)
            go_ret
            exact ⟨rfl, HO1.out⟩
          · have hsi : ¬ (100 : Int) < (s.size : Int) := by omega
            go_wp2_with (go_at_call 13; refine (numLaw _ _).mono ?_; rintro e w5 ⟨rfl, h5⟩; subst w5)
            go_ret
            exact ⟨rfl, HO1.out⟩
        | some R =>
          obtain ⟨best, hf, rfl⟩ := hm2.2 R hw
          clear hm2
          by_cases h100 : 100 < s.size
          · have hsi : (100 : Int) < (s.size : Int) := by omega
            clear hf
            generalize bBeg best = I at *
            generalize bLen best = N at *
            go_wp2_with (go_at_call 13; refine (numLaw _ _).mono ?_; rintro e w5 ⟨rfl, h5⟩; subst w5)
            go_ret
            exact ⟨rfl, HO1.out⟩
          · have hsi : ¬ (100 : Int) < (s.size : Int) := by omega
            have H100 : Hid (s.size ≤ 100) := hide (by omega)
            have HLoc : Hid (Loc R) := hide (loc_whole (fun k c hc => by
              obtain ⟨g1, g2, _⟩ := HSF.out c (List.mem_of_getElem? hc)
              exact ⟨g1, g2⟩) hw)
            have HW := hide hw
            have HF : Hid ((bBeg best = 0 ∧ R [] 0 0) ∨ (bBeg best = -1 ∧ ¬ R [] 0 0)) := hide (empty_find hf)
            clear hf hw h100 hsl hs
            generalize bBeg best = I at *
            generalize bLen best = N at *

            go_upto_block 2 with (go_at_call 13; refine (numLaw _ _).mono ?_; rintro e w5 ⟨rfl, h5⟩; subst w5)
            go_cut [7] (fun s7 wc => ∃ L : ByteArray, s7 = .string L ∧ wc = w1 ∧ L.size ≤ 60 ∧ Hid (∀ b ∈ L.data.toList, b ≠ 10))
            case first =>
              go_wp2_with fail
              go_loopw [7, 8] (fun s4 s6 w2 => ∃ (m : Nat) (L : ByteArray), m ≤ 60 ∧ m ≤ t.size ∧ s4 = .string L ∧ s6 = .int .i64 m ∧ Hid (L = t.extract 0 m ∧ ∀ b ∈ (t.extract 0 m).data.toList, b ≠ 10) ∧ w2 = w1) (fun _ s6 _ => 60 - (intOf s6).toNat)
              case atStart => exact ⟨0, ⟨#[]⟩, by omega, by omega, rfl, rfl, hide ⟨by apply ByteArray.ext; simp, fun b hb => by simp at hb⟩, rfl⟩
              case round =>
                obtain ⟨m, L, hm, hmt, rfl, rfl, HNo, rfl⟩ := hrel
                have hze : (t.extract 0 m).size = m := by rw [ByteArray.size_extract]; omega
                have HLs : Hid (L.size = m ∧ ∀ b ∈ L.data.toList, b ≠ 10) := hide ⟨by rw [HNo.out.1]; exact hze, by rw [HNo.out.1]; exact HNo.out.2⟩
                by_cases hgo : m < t.size ∧ m < 60 ∧ t[m]? ≠ some 10
                · obtain ⟨g1, g2, g3⟩ := hgo
                  have hc : t[m] ≠ 10 := fun e => g3 (by rw [getElem?_pos t m g1, e])
                  have HNo2 : Hid (∀ b ∈ (t.extract 0 (m + 1)).data.toList, b ≠ 10) := hide (ext_mem t m g1 HNo.out.2 hc)
                  have hx : ((t[m].toNat : Int) == 10) = false := by
                    rw [beq_eq_false_iff_ne]
                    intro e
                    exact hc (UInt8.toNat_inj.1 (by show _ = 10; omega))
                  have hx2 : ((t[m].toNat : Int) != 10) = true := by rw [bne, hx]; rfl
                  have hi1 : (m : Int) < (t.size : Int) := by omega
                  have hi2 : decide ((m : Int) < 60) = true := by simp; omega
                  have hi3 : (m : Int) + 1 ≤ (t.size : Int) := by omega
                  obtain ⟨L2, HL2⟩ : ∃ L2, Hid (L2 = t.extract 0 (m + 1)) := ⟨_, rfl⟩
                  have hadd : ∀ W, (Op.stringOp .add L (t.extract m (m + 1))).run Tryz.prog W = .ok (.string L2) W := fun W => by
                    rw [HNo.out.1, HL2.out, run_string_add_sum W _ _ (by rw [hze, ByteArray.size_extract]; omega), ext_succ]
                  have HG2 := hide g2
                  clear g3 hc hze g2
                  go_wp2_with fail
                  go_roundw
                  case rel => exact ⟨m + 1, L2, by have := HG2.out; omega, by omega, rfl, by simp, hide ⟨HL2.out, HNo2.out⟩, trivial⟩
                  case measure => simp [intOf]; have := HG2.out; omega
                · have HNg := hide hgo
                  clear hgo
                  by_cases g1 : m < t.size
                  · by_cases g2 : m < 60
                    · have hc : t[m] = 10 := by
                        by_cases e : t[m] = 10
                        · exact e
                        · exact (HNg.out ⟨g1, g2, fun h => e (by rw [getElem?_pos t m g1] at h; exact Option.some.inj h)⟩).elim
                      have hx : ((t[m].toNat : Int) == 10) = true := by rw [hc]; rfl
                      have hx2 : ((t[m].toNat : Int) != 10) = false := by rw [hc]; rfl
                      have hi1 : (m : Int) < (t.size : Int) := by omega
                      have hi2 : decide ((m : Int) < 60) = true := by simp; omega
                      clear hc hze
                      go_wp2_with fail
                      go_meet
                      exact ⟨L, rfl, rfl, by rw [HLs.out.1]; exact hm, hide HLs.out.2⟩
                    · have hi1 : (m : Int) < (t.size : Int) := by omega
                      have hi2 : decide ((m : Int) < 60) = false := by simp; omega
                      clear hze
                      go_wp2_with fail
                      go_meet
                      exact ⟨L, rfl, rfl, by rw [HLs.out.1]; exact hm, hide HLs.out.2⟩
                  · have hi1 : ¬ (m : Int) < (t.size : Int) := by omega
                    clear hze
                    go_wp2_with fail
                    go_meet
                    exact ⟨L, rfl, rfl, by rw [HLs.out.1]; exact hm, hide HLs.out.2⟩
            case rest =>
              obtain ⟨L, rfl, rfl, hL60, HNo⟩ := hcut
              by_cases hL0 : L.size = 0
              · have hemp := empty_yes L hL0
                clear hL0
                go_wp2_with fail
                go_ret
                exact ⟨rfl, HO1.out⟩
              · have hemp := empty_no L (by omega)
                have HLt := hide ht
                clear ht
                obtain ⟨Ls, hLs, hCm⟩ := came_some HLoc.out.1 L.data.toList
                have HLs := hide hLs
                have HCm := hide hCm
                clear hLs hCm
                obtain ⟨F, HFn⟩ : ∃ F, Hid (finA L.data.toList Ls ⟨0, -1, [], 0⟩ = F) := ⟨_, hide rfl⟩
                rw [HFn.out] at HCm
                obtain ⟨Pg, HPg⟩ : ∃ Pg, Hid (TR s.data.toList = Pg) := ⟨_, hide rfl⟩
                obtain ⟨P1, HP1⟩ : ∃ P1, Hid (P1 = ofB preR ++ s) := ⟨_, hide rfl⟩
                have hps : P1.size = s.size + 32 := by rw [HP1.out, ByteArray.size_append]; show 32 + s.size = _; omega
                have ha1 : ∀ W, (Op.stringOp .add ⟨#[66, 69, 71, 73, 78, 32, 123, 32, 70, 83, 32, 61, 32, 34, 92, 110, 34, 32, 125, 32, 123, 32, 110, 32, 61, 32, 103, 115, 117, 98, 40, 34]⟩ s).run Tryz.prog W = .ok (.string P1) W := fun W => by
                  rw [HP1.out]
                  exact run_string_add_sum W (ofB preR) s (by show 32 + s.size ≤ _; have := H100.out; omega)
                have ha2 : ∀ W, (Op.stringOp .add P1 ⟨#[34, 44, 32, 34, 34, 41, 59, 32, 112, 114, 105, 110, 116, 32, 110, 59, 32, 112, 114, 105, 110, 116, 32, 125]⟩).run Tryz.prog W = .ok (.string Pg) W := fun W => by
                  have e := run_string_add_sum (P := Tryz.prog) W P1 (ofB sufR) (by show P1.size + 24 ≤ _; have := H100.out; omega)
                  refine e.trans ?_
                  rw [← HPg.out, HP1.out]
                  have hsd : s = ofB s.data.toList := rfl
                  have : ofB preR ++ s ++ ofB sufR = TR s.data.toList := by
                    rw [hsd, ofB_appendR, ofB_appendR]
                    unfold TR
                    rw [List.append_assoc]
                    rfl
                  rw [this]
                have HRan : Hid (∀ W, Only (fun _ => False) w W → Calls Tryz.prog 18 #[.string Pg, .string L, .int .i64 2000] W fun en w' => ∃ g, en = .returned (.agg #[.slice (some ⟨g, 0, none⟩) 1 1, .int .i64 0, .int .i64 0, .int .i64 0]) ∧ w'.heap[g]? = some (.cells #[.string ⟨#[]⟩, .string (ofB (outR L.data.toList F))] 41 (0, 0)) ∧ Only (fun _ => False) W w') := hide (fun W hW => by
                  rw [← HPg.out]
                  exact ranR s.data.toList (by rw [len_eq]; exact H100.out) (fun c hc => (HSF.out c hc).2.2) R HW.out L F HCm.out hL60 (by omega) HNo.out a W (HSe.out.only hW) (tab_only HTb.out hW))
                obtain ⟨X, HX⟩ : ∃ X, Hid (X = ofB (outR L.data.toList F)) := ⟨_, hide rfl⟩
                rw [← HX.out] at HRan
                clear hps HSF HSe HTb
                go_wp2_with fail
                refine (HRan.out _ HO1.out).mono ?_
                rintro en w2 ⟨g, rfl, hg, ho2⟩
                have ob := ho2.alloc (.cells #[.slice (some ⟨g, 0, none⟩) 1 1, .int .i64 0, .int .i64 0, .int .i64 0] 38)
                have HO3 := hide (HO1.out.trans ob (fun _ _ e => e))
                have r0 : (w2.alloc (.cells #[.slice (some ⟨g, 0, none⟩) 1 1, .int .i64 0, .int .i64 0, .int .i64 0] 38)).cell? ⟨w2.heap.size, 0, none⟩ = some (.slice (some ⟨g, 0, none⟩) 1 1) := cell_of (new0 w2 _) rfl
                have r2 : (w2.alloc (.cells #[.slice (some ⟨g, 0, none⟩) 1 1, .int .i64 0, .int .i64 0, .int .i64 0] 38)).cell? ⟨w2.heap.size, 2, none⟩ = some (.int .i64 0) := cell_of (new0 w2 _) rfl
                have t1 : (w2.alloc (.cells #[.slice (some ⟨g, 0, none⟩) 1 1, .int .i64 0, .int .i64 0, .int .i64 0] 38)).cell? ⟨g, 1, none⟩ = some (.string X) := past (cell_of hg rfl) _
                have q3 : (w2.alloc (.cells #[.slice (some ⟨g, 0, none⟩) 1 1, .int .i64 0, .int .i64 0, .int .i64 0] 38)).cell? ⟨w.heap.size, 3, none⟩ = some (.string s) := keepC ob p3
                clear hg ho2 ob HRan HO1 HX1 p3 p4 ha1 ha2
                rcases HF.out with ⟨rfl, hR0⟩ | ⟨rfl, hR0⟩
                · obtain ⟨hl1, b0, r0', he0, hb0⟩ := out_first HLoc.out hR0 HLs.out HFn.out (by have := HCm.out.few; rw [len_eq] at this; omega)
                  have hXs : 1 < X.size := by rw [HX.out, ofB_sizeR]; exact hl1
                  have hXi : (1 : Int) < (X.size : Int) := by omega
                  have hX0 : X[0] = b0 := by
                    have e1 : X.data.toList[0]? = some b0 := by rw [HX.out, he0]; rfl
                    have e2 : X.data.toList[0]? = some X[0] := by rw [List.getElem?_eq_getElem (by rw [len_eq]; omega)]; rfl
                    rw [e1] at e2
                    exact (Option.some.inj e2).symm
                  have hx48 : ((X[0].toNat : Int) == 48) = false := by rw [hX0, beq_eq_false_iff_ne]; omega
                  have hx48b : ((X[0].toNat : Int) != 48) = true := by rw [bne, hx48]; rfl
                  clear hX0 he0 hb0 hl1 hR0
                  go_wp2_with fail
                  go_ret
                  exact ⟨rfl, HO3.out⟩
                · have HR0 := hide hR0
                  clear hR0
                  have hLs60 : L.data.toList.length = L.size := len_eq L
                  have HLL := hide hLs60
                  clear hLs60
                  go_wp2_with fail
                  generalize (w2.alloc (.cells #[.slice (some ⟨g, 0, none⟩) 1 1, .int .i64 0, .int .i64 0, .int .i64 0] 38)) = w3 at *
                  go_loopw [11, 12, 13, 14] (fun s11 s12 s13 s14 wr => ∃ (k p c : Nat) (Rt Lf : ByteArray), s11 = .string Rt ∧ s12 = .string Lf ∧ s13 = .int .i64 c ∧ s14 = .int .i64 k ∧ k ≤ p ∧ p ≤ L.size ∧ c ≤ 60 ∧ Rt.size = L.size - p ∧ Lf.size ≤ 60 ∧ Hid (∃ M, RestInv R L.data.toList Ls F p c M ∧ Rt = ofB (L.data.toList.drop p) ∧ Lf = ofB M) ∧ Hid (Only (fun _ => False) w3 wr)) (fun _ _ _ s14 _ => L.size + 1 - (intOf s14).toNat)
                  case atStart => exact ⟨0, 0, 0, L, ⟨#[]⟩, rfl, rfl, rfl, rfl, by omega, by omega, by omega, by omega, by show 0 ≤ 60; omega, hide ⟨[], by rw [← HFn.out]; exact restR_begin, rfl, rfl⟩, hide (Only.refl _ _)⟩
                  case round =>
                    obtain ⟨k, p, c, Rt, Lf, rfl, rfl, rfl, rfl, hkp, hp, hc60, hRt, hLf, HInv, HOr⟩ := hrel
                    have q0 := keepC HOr.out r0
                    have q2 := keepC HOr.out r2
                    have q1 := keepC HOr.out t1
                    have q4 := keepC HOr.out q3
                    have hkl : (k : Int) ≤ (L.size : Int) := by omega
                    have HMt : Hid (∀ W, Calls Tryz.prog 29 #[.string s, .string Rt] W fun e w' => (∃ best, Finds R Rt.data.toList 0 0 best ∧ e = .returned (.tuple #[.int .i64 (bBeg best), .int .i64 (bLen best), .int .i64 0])) ∧ Only (fun _ => False) W w') := hide (fun W => (match_any s Rt W).mono (fun en w' h => by
                      have h100 := H100.out
                      exact ⟨(h.1.2 (by omega)).2 R HW.out, h.2⟩))
                    go_wp2_with fail
                    refine (HMt.out _).mono ?_
                    rintro en w4 ⟨⟨best, hf, rfl⟩, ho4⟩
                    have u0 := keepC ho4 q0
                    have u2 := keepC ho4 q2
                    have u1 := keepC ho4 q1
                    have u4 := keepC ho4 q4
                    have HO4 := hide (HOr.out.trans ho4 (fun _ _ e => e))
                    have HFd : Hid (Finds R (L.data.toList.drop p) 0 0 best) := hide (by
                      obtain ⟨M, _, hRt2, _⟩ := HInv.out
                      rw [hRt2] at hf
                      exact hf)
                    clear ho4 q0 q1 q2 q4 hf HMt HOr
                    cases best with
                    | none =>
                      have HOut : Hid (∃ M, Rt = ofB (L.data.toList.drop p) ∧ Lf = ofB M ∧ outR L.data.toList F = Lib.decDigits c ++ [10] ++ (M ++ L.data.toList.drop p) ++ [10]) := hide (by
                        obtain ⟨M, h1, h2, h3⟩ := HInv.out
                        exact ⟨M, h2, h3, restR_none HLoc.out HR0.out HLs.out h1 HFd.out⟩)
                      have HDg := hide (fun W => digits_any (c + 1) c (Nat.lt_succ_self _) (by omega) W)
                      have hdd := dd_short c (by omega)
                      obtain ⟨Z, HZ⟩ : ∃ Z, Hid (Z = Lf ++ Rt) := ⟨_, hide rfl⟩
                      obtain ⟨D, HD⟩ : ∃ D, Hid (D = ofB (Lib.decDigits c)) := ⟨_, hide rfl⟩
                      obtain ⟨D1, HD1⟩ : ∃ D1, Hid (D1 = D ++ ⟨#[10]⟩) := ⟨_, hide rfl⟩
                      obtain ⟨D2, HD2⟩ : ∃ D2, Hid (D2 = D1 ++ Z) := ⟨_, hide rfl⟩
                      have h10 : (⟨#[10]⟩ : ByteArray).size = 1 := rfl
                      have zZ : Z.size ≤ 120 := by rw [HZ.out, ByteArray.size_append]; omega
                      have zD : D.size ≤ 30 := by rw [HD.out, ofB_sizeR]; exact hdd
                      have zD1 : D1.size ≤ 31 := by rw [HD1.out, ByteArray.size_append]; omega
                      have zD2 : D2.size ≤ 151 := by rw [HD2.out, ByteArray.size_append]; omega
                      have ha0 : ∀ W, (Op.stringOp .add Lf Rt).run Tryz.prog W = .ok (.string Z) W := fun W => by
                        rw [HZ.out]
                        exact run_string_add_sum W _ _ (by omega)
                      have ha1 : ∀ W, (Op.stringOp .add D ⟨#[10]⟩).run Tryz.prog W = .ok (.string D1) W := fun W => by
                        rw [HD1.out]
                        exact run_string_add_sum W _ _ (by omega)
                      have ha2 : ∀ W, (Op.stringOp .add D1 Z).run Tryz.prog W = .ok (.string D2) W := fun W => by
                        rw [HD2.out]
                        exact run_string_add_sum W _ _ (by omega)
                      have HXD : Hid (D2 ++ ⟨#[10]⟩ = X) := hide (by
                        obtain ⟨M, h1, h2, h3⟩ := HOut.out
                        rw [HD2.out, HD1.out, HZ.out, HD.out, h1, h2, HX.out, h3]
                        show ofB _ ++ ofB [10] ++ (ofB M ++ ofB _) ++ ofB [10] = _
                        rw [ofB_appendR, ofB_appendR, ofB_appendR, ofB_appendR])
                      have ha3 : ∀ W, (Op.stringOp .add D2 ⟨#[10]⟩).run Tryz.prog W = .ok (.string X) W := fun W => by
                        rw [← HXD.out]
                        exact run_string_add_sum W _ _ (by omega)
                      rw [← HD.out] at HDg
                      clear HInv HFd HOut hdd h10 zZ zD zD1 zD2
                      unfold bBeg bLen
                      go_upto_region 34 with (go_at_call 13; refine (numLaw _ _).mono ?_; rintro e w5 ⟨rfl, h5⟩; subst w5)
                      have d0 : w4.drew.cell? ⟨w2.heap.size, 0, none⟩ = some (.slice (some ⟨g, 0, none⟩) 1 1) := u0
                      have d2 : w4.drew.cell? ⟨w2.heap.size, 2, none⟩ = some (.int .i64 0) := u2
                      have d1 : w4.drew.cell? ⟨g, 1, none⟩ = some (.string X) := u1
                      clear u4
                      go_region_held3 (fun W => W.cell? ⟨w2.heap.size, 0, none⟩ = some (.slice (some ⟨g, 0, none⟩) 1 1) ∧ W.cell? ⟨w2.heap.size, 2, none⟩ = some (.int .i64 0) ∧ W.cell? ⟨g, 1, none⟩ = some (.string X)) (first | (refine ⟨?_, ?_, ?_⟩ <;> (with_reducible assumption)))
                        (first | (go_at_call 19; refine (HDg.out _).mono ?_; rintro en w5 ⟨rfl, ho5⟩; have v0 := keepC ho5 d0; have v2 := keepC ho5 d2; have v1 := keepC ho5 d1; have HO5 := hide (HO4.out.trans (fromDrew ho5) (fun _ _ e => e)); clear ho5))
                      all_goals
                        go_wp2
                        go_ret
                        exact ⟨rfl, HO3.out.trans HO5.out (fun _ _ e => e)⟩
                    | some x =>
                      obtain ⟨B1, l1⟩ := x
                      have HNx : Hid (∃ M, 0 < l1 ∧ p + B1 + l1 ≤ L.size ∧ RestInv R L.data.toList Ls F (p + B1 + l1) (c + 1) (M ++ (L.data.toList.drop p).take B1) ∧ Rt = ofB (L.data.toList.drop p) ∧ Lf = ofB M) := hide (by
                        obtain ⟨M, h1, h2, h3⟩ := HInv.out
                        obtain ⟨g1, g2, g3⟩ := restR_some HLoc.out HR0.out HLs.out h1 HFd.out
                        exact ⟨M, g1, by rw [HLL.out] at g2; exact g2, g3, h2, h3⟩)
                      clear HInv HFd
                      obtain ⟨M, hl0, hle, hI2, hRt2, hLf2⟩ := HNx.out
                      have HI2 := hide hI2
                      have HRt2 := hide hRt2
                      have HLf2 := hide hLf2
                      have hml := hI2.ml
                      have hcl : c + 1 ≤ 60 := by have := hI2.cl; omega
                      rw [List.length_append, List.length_take, List.length_drop, HLL.out] at hml
                      clear hI2 hRt2 hLf2 HNx
                      have e1 : Lf.size = M.length := by rw [HLf2.out, ofB_sizeR]
                      have hB1 : B1 ≤ Rt.size := by omega
                      have hBi : (B1 : Int) ≤ (Rt.size : Int) := by omega
                      have hl0i : ¬ (l1 : Int) ≤ 0 := by omega
                      have hsum : ¬ (Rt.size : Int) < (B1 : Int) + (l1 : Int) := by omega
                      have hsum2 : (B1 : Int) + (l1 : Int) ≤ (Rt.size : Int) := by omega
                      obtain ⟨Lf2, HL2⟩ : ∃ Lf2, Hid (Lf2 = Lf ++ Rt.extract 0 B1) := ⟨_, hide rfl⟩
                      have hadd : ∀ W, (Op.stringOp .add Lf (Rt.extract 0 B1)).run Tryz.prog W = .ok (.string Lf2) W := fun W => by
                        rw [HL2.out]
                        exact run_string_add_sum W _ _ (by rw [ByteArray.size_extract]; omega)
                      have HLf3 : Hid (Lf2 = ofB (M ++ (L.data.toList.drop p).take B1)) := hide (by
                        rw [HL2.out, HLf2.out]
                        have : Rt.extract 0 B1 = ofB ((L.data.toList.drop p).take B1) := by
                          have := ext_ofB Rt 0 B1
                          rw [Nat.zero_add] at this
                          rw [this, HRt2.out]
                          rfl
                        rw [this, ofB_appendR])
                      have HRt3 : Hid (Rt.extract (B1 + l1) Rt.size = ofB (L.data.toList.drop (p + B1 + l1))) := hide (by
                        have := ext_ofB Rt (B1 + l1) (Rt.size - (B1 + l1))
                        rw [show B1 + l1 + (Rt.size - (B1 + l1)) = Rt.size by omega] at this
                        rw [this, HRt2.out]
                        congr 1
                        show ((L.data.toList.drop p).drop (B1 + l1)).take _ = _
                        rw [List.drop_drop, List.take_of_length_le (by rw [List.length_drop, HLL.out]; have := hRt; rw [HRt2.out] at this; omega), Nat.add_assoc])
                      have hz2 : Lf2.size ≤ 60 := by rw [HLf3.out, ofB_sizeR, List.length_append, List.length_take, List.length_drop, HLL.out]; omega
                      have hz3 : (Rt.extract (B1 + l1) Rt.size).size = L.size - (p + B1 + l1) := by rw [HRt3.out, ofB_sizeR, List.length_drop, HLL.out]
                      have HZ := hide (And.intro hz2 hz3)
                      have HK : Hid (k + 1 ≤ p + B1 + l1 ∧ p + B1 + l1 ≤ L.size ∧ c + 1 ≤ 60 ∧ k ≤ L.size) := hide (by omega)
                      clear hz2 hz3 hml e1
                      unfold bBeg bLen
                      go_wp2_with (go_at_call 13; refine (numLaw _ _).mono ?_; rintro e w5 ⟨rfl, h5⟩; subst w5)
                      go_roundw
                      case rel => exact ⟨k + 1, p + B1 + l1, c + 1, Rt.extract (B1 + l1) Rt.size, Lf2, by first | rfl | (simp; rw [hRt]), rfl, by simp, by simp, HK.out.1, HK.out.2.1, HK.out.2.2.1, HZ.out.2, HZ.out.1, hide ⟨_, HI2.out, HRt3.out, HLf3.out⟩, HO4⟩
                      case measure => simp [intOf]; have := HK.out.2.2.2; omega
end Go.Proofs.YtdbdbaepmdmnfaaGreatDoor

