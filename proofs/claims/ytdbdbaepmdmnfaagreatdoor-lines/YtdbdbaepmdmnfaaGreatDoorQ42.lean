import Derived.Test.YtdbdbaepmdmnfaaGreatDoorQ37
import Derived.Test.YtdbdbaepmdmnfaaGreatDoorQ41
import Derived.Test.YtdbdbaepmdmnfaaGreatDoorQ38
import Derived.Laws.OwnMore
import Derived.Deep.Slices
import Derived.SliceStrings
import Derived.SizedLaws
import Derived.ProofKit
import Derived.Deep.RegionHeld3
import Derived.Deep.DeepCutAuto
namespace Go.Proofs.YtdbdbaepmdmnfaaGreatDoor
open Go.RowKit
/-- What Run answers of the program that counts. -/
def CountsTo (w : World) (T : List UInt8) (en : Ending) (w' : World) : Prop :=
  ∃ (g : Nat) (x : ByteArray) (E : Int), en = .returned (.tuple #[.slice (some ⟨g, 0, none⟩) 1 1, .int .i64 0, .int .i64 E, .int .i64 0]) ∧ w'.heap[g]? = some (.cells #[.string ⟨#[]⟩, .string x] 41 (0, 0)) ∧ (AllFew (recs T) → E = 0 ∧ x = nrOut (recs T).length) ∧ (¬ AllFew (recs T) → E = 6) ∧ Only (fun _ => False) w w'
set_option maxRecDepth 20000 in
set_option maxHeartbeats 8000000 in
theorem grun_count (T : ByteArray) (hT : T.size ≤ 400) (a : Addr) (w : World) (hse : SentF w a) (htab : Lib.TabIs Tryz.prog w "internal/strconv.uint64pow10" .u64 Lib.pow10Tab) : Calls Tryz.prog 28 #[.string P2, .string T, .int .i64 2000] w (CountsTo w T.data.toList) := by
  have HRd := hide (readProgramp2 w)
  have HSe := hide hse
  have hti : ¬ (400 : Int) < (T.size : Int) := by omega
  have HTab := hide htab
  clear hse htab
  go_enter Tryz.func28, Tryz.ntmps28
  go_wp2_with fail
  refine (HRd.out).mono ?_
  rintro en w2 ⟨pb, v, rfl, ⟨rs, u, rfl, hrow, hu⟩, ho2⟩
  have hrow2 := hrow
  obtain ⟨rg, rcap, rfl, _, _⟩ := own_at hrow2 (by omega)
  have HRR : Hid (Calls Tryz.prog 41 #[.agg #[.slice none 0 0, .slice (some ⟨rg, 0, none⟩) 1 rcap], .string T, .int .i64 2000] (w2.alloc (.cells #[.slice none 0 0, .slice (some ⟨rg, 0, none⟩) 1 rcap] 60)) (RunsToN (w2.alloc (.cells #[.slice none 0 0, .slice (some ⟨rg, 0, none⟩) 1 rcap] 60)) a T.data.toList)) := hide (by
    obtain ⟨vs, hl, h1, _, h4⟩ := hu
    obtain ⟨r, cap, rfl, hrl, hrc⟩ := own_at h1 (by omega)
    match vs, hl with
    | [b], _ =>
      obtain ⟨pr, rfl, hpr⟩ := h4 0 b rfl
      obtain ⟨pg, pgc, rfl, hpgl, hpgc⟩ := own_at hpr.1 (by simp)
      have oA := onlyA w2 (.cells #[.slice none 0 0, .slice (some ⟨rg, 0, none⟩) 1 rcap] 60)
      refine run_count T hT a (.slice (some ⟨rg, 0, none⟩) 1 rcap) r cap pg pgc _ (hrow.alloc _) ((oA.cell (p := ⟨r, 0, none⟩) hrl (fun e => e)).trans (hrc 0 _ rfl)) ((oA.cell (p := ⟨pg, 0, none⟩) hpgl (fun e => e)).trans (hpgc 0 _ rfl)) (tab_only HTab.out (ho2.trans oA (fun _ _ e => e))) ?_
      exact ((HSe.out.only ho2).only oA).f)
  have HO2 := hide ho2
  clear hrow hrow2 hu ho2 HRd
  go_wp2_with fail
  refine (HRR.out).mono ?_
  rintro en w4 ⟨sb, tv, out, hcase, hS, hown, ho4⟩
  have hw4 : Only (fun _ => False) w w4 := (HO2.out.alloc _).trans ho4 (fun _ _ e => e)
  rcases hcase with ⟨hf, rfl, ho⟩ | ⟨hf, rfl⟩
  · have hO4 : Only (fun _ => False) w (w4.alloc (.cells #[.slice (some ⟨sb, 0, none⟩) 1 1, .int .i64 0, .nilIface] 76)) := hw4.alloc _
    have hrowM : w4.ownsRow 0 5 1 tv out.data.toList.length (out.data.toList.map byV) := by rw [len_eq]; exact hown
    have HSt : Hid (∀ W, Only (fun _ => False) w4 W → Calls Tryz.prog 42 #[.slice (some ⟨sb, 0, none⟩) 1 1] W fun en w' => ∃ g, en = .returned (.slice (some ⟨g, 0, none⟩) 1 1) ∧ w'.heap[g]? = some (.cells #[.string ⟨#[]⟩, .string (ofB out.data.toList)] 41 (0, 0)) ∧ Only (fun _ => False) W w') := fun W hW => streams_ofL sb tv out.data.toList W ((hW.block sb (heap_lt hS) (fun e => e)).trans hS) (ownsRow_of hrowM (fun k hk => hW.block k (hrowM.lt k hk).2 (fun e => e)))
    have HEn : Hid (∀ W, Only (fun _ => False) w W → Calls Tryz.prog 43 #[.nilIface] W fun e w' => e = .returned (.int .i64 0) ∧ w' = W) := hide (fun W hW => errno_nil W (HSe.out.only hW).s)
    have HF := hide hf
    have HEq : Hid (ofB out.data.toList = nrOut (recs T.data.toList).length) := hide (by rw [ho]; rfl)
    have HO4 := hide hO4
    clear hS hown ho4 hO4 HRR hrowM hw4
    have n0 : (w4.alloc (.cells #[.slice (some ⟨sb, 0, none⟩) 1 1, .int .i64 0, .nilIface] 76)).drew.cell? ⟨w4.heap.size, 0, none⟩ = some (.slice (some ⟨sb, 0, none⟩) 1 1) := cell_of (new0 w4 _) rfl
    have n1 : (w4.alloc (.cells #[.slice (some ⟨sb, 0, none⟩) 1 1, .int .i64 0, .nilIface] 76)).drew.cell? ⟨w4.heap.size, 1, none⟩ = some (.int .i64 0) := cell_of (new0 w4 _) rfl
    have n2 : (w4.alloc (.cells #[.slice (some ⟨sb, 0, none⟩) 1 1, .int .i64 0, .nilIface] 76)).drew.cell? ⟨w4.heap.size, 2, none⟩ = some (.nilIface) := cell_of (new0 w4 _) rfl
    go_upto_region 7 with fail
    go_region_held3 (fun W => W.cell? ⟨w4.heap.size, 0, none⟩ = some (.slice (some ⟨sb, 0, none⟩) 1 1) ∧ W.cell? ⟨w4.heap.size, 1, none⟩ = some (.int .i64 0) ∧ W.cell? ⟨w4.heap.size, 2, none⟩ = some (.nilIface)) (first | (refine ⟨?_, ?_, ?_⟩ <;> (with_reducible assumption)))
      (first | (go_at_call 42; refine (HSt.out _ (toDrew (onlyA w4 _))).mono ?_; rintro en w5 ⟨g, rfl, hg5, ho5⟩; have q0 := (ho5.cell (p := ⟨w4.heap.size, 0, none⟩) (by simp) (fun e => e)).trans n0; have q1 := (ho5.cell (p := ⟨w4.heap.size, 1, none⟩) (by simp) (fun e => e)).trans n1; have q2 := (ho5.cell (p := ⟨w4.heap.size, 2, none⟩) (by simp) (fun e => e)).trans n2; have HG5 := hide hg5; have HO5 : Hid (Only (fun _ => False) w w5) := HO4.out.trans (fromDrew ho5) (fun _ _ e => e); clear hg5 ho5) | (go_at_call 43; refine (HEn.out _ HO5.out).mono ?_; rintro en w' ⟨rfl, h3⟩; subst w'))
    all_goals
      go_wp2
      exact bodyPost_ret (v := .tuple #[.slice (some ⟨g, 0, none⟩) 1 1, .int .i64 0, .int .i64 0, .int .i64 0]) (by simp [results, Tryz.results28, go_sem]) rfl ⟨g, ofB out.data.toList, 0, rfl, HG5.out, fun _ => ⟨rfl, HEq.out⟩, fun h => absurd HF.out h, HO5.out⟩
  · have hO4 : Only (fun _ => False) w (w4.alloc (.cells #[.slice (some ⟨sb, 0, none⟩) 1 1, .int .i64 0, .iface 558 (.pointer (some a))] 76)) := hw4.alloc _
    have hrowM : w4.ownsRow 0 5 1 tv out.data.toList.length (out.data.toList.map byV) := by rw [len_eq]; exact hown
    have HSt : Hid (∀ W, Only (fun _ => False) w4 W → Calls Tryz.prog 42 #[.slice (some ⟨sb, 0, none⟩) 1 1] W fun en w' => ∃ g, en = .returned (.slice (some ⟨g, 0, none⟩) 1 1) ∧ w'.heap[g]? = some (.cells #[.string ⟨#[]⟩, .string (ofB out.data.toList)] 41 (0, 0)) ∧ Only (fun _ => False) W w') := fun W hW => streams_ofL sb tv out.data.toList W ((hW.block sb (heap_lt hS) (fun e => e)).trans hS) (ownsRow_of hrowM (fun k hk => hW.block k (hrowM.lt k hk).2 (fun e => e)))
    have HEn : Hid (∀ W, Only (fun _ => False) w W → Calls Tryz.prog 43 #[.iface 558 (.pointer (some a))] W fun e w' => e = .returned (.int .i64 6) ∧ w' = W) := hide (fun W hW => errno_field a W (HSe.out.only hW))
    have HF := hide hf
    have HO4 := hide hO4
    clear hS hown ho4 hO4 HRR hrowM hw4
    have n0 : (w4.alloc (.cells #[.slice (some ⟨sb, 0, none⟩) 1 1, .int .i64 0, .iface 558 (.pointer (some a))] 76)).drew.cell? ⟨w4.heap.size, 0, none⟩ = some (.slice (some ⟨sb, 0, none⟩) 1 1) := cell_of (new0 w4 _) rfl
    have n1 : (w4.alloc (.cells #[.slice (some ⟨sb, 0, none⟩) 1 1, .int .i64 0, .iface 558 (.pointer (some a))] 76)).drew.cell? ⟨w4.heap.size, 1, none⟩ = some (.int .i64 0) := cell_of (new0 w4 _) rfl
    have n2 : (w4.alloc (.cells #[.slice (some ⟨sb, 0, none⟩) 1 1, .int .i64 0, .iface 558 (.pointer (some a))] 76)).drew.cell? ⟨w4.heap.size, 2, none⟩ = some (.iface 558 (.pointer (some a))) := cell_of (new0 w4 _) rfl
    go_upto_region 7 with fail
    go_region_held3 (fun W => W.cell? ⟨w4.heap.size, 0, none⟩ = some (.slice (some ⟨sb, 0, none⟩) 1 1) ∧ W.cell? ⟨w4.heap.size, 1, none⟩ = some (.int .i64 0) ∧ W.cell? ⟨w4.heap.size, 2, none⟩ = some (.iface 558 (.pointer (some a)))) (first | (refine ⟨?_, ?_, ?_⟩ <;> (with_reducible assumption)))
      (first | (go_at_call 42; refine (HSt.out _ (toDrew (onlyA w4 _))).mono ?_; rintro en w5 ⟨g, rfl, hg5, ho5⟩; have q0 := (ho5.cell (p := ⟨w4.heap.size, 0, none⟩) (by simp) (fun e => e)).trans n0; have q1 := (ho5.cell (p := ⟨w4.heap.size, 1, none⟩) (by simp) (fun e => e)).trans n1; have q2 := (ho5.cell (p := ⟨w4.heap.size, 2, none⟩) (by simp) (fun e => e)).trans n2; have HG5 := hide hg5; have HO5 : Hid (Only (fun _ => False) w w5) := HO4.out.trans (fromDrew ho5) (fun _ _ e => e); clear hg5 ho5) | (go_at_call 43; refine (HEn.out _ HO5.out).mono ?_; rintro en w' ⟨rfl, h3⟩; subst w'))
    all_goals
      go_wp2
      exact bodyPost_ret (v := .tuple #[.slice (some ⟨g, 0, none⟩) 1 1, .int .i64 0, .int .i64 6, .int .i64 0]) (by simp [results, Tryz.results28, go_sem]) rfl ⟨g, ofB out.data.toList, 6, rfl, HG5.out, fun h => absurd h HF.out, fun _ => rfl, HO5.out⟩
end Go.Proofs.YtdbdbaepmdmnfaaGreatDoor
namespace Go.Proofs.YtdbdbaepmdmnfaaGreatDoor
open Go.RowKit
theorem lenN (s : ByteArray) : s.data.toList.length = s.size := by rw [Array.length_toList]; rfl
theorem ofB_listN (t : ByteArray) : ofB t.data.toList = t := rfl
theorem get_lastN (a : ByteArray) (h : 0 < a.size) : a.data.toList.getLast? = some a[a.size - 1] := by
  rw [List.getLast?_eq_getElem?, lenN]
  have : a.size - 1 < a.data.toList.length := by rw [lenN]; omega
  rw [List.getElem?_eq_getElem this]
  simp
  rfl
/-- A text as whole lines, and another behind it. -/
def ontoB (a b : ByteArray) : ByteArray := ofB (nlT a.data.toList) ++ b
set_option maxRecDepth 20000 in
set_option maxHeartbeats 2000000 in
theorem onto_any (a b : ByteArray) (ha : a.size ≤ 1125899906842624) (hb : b.size ≤ 1125899906842624) (w : World) : Calls Tryz.prog 17 #[.string a, .string b] w fun en w' => en = .returned (.string (ontoB a b)) ∧ w' = w := by
  by_cases h0 : a = ⟨#[]⟩
  · subst h0
    have he : ontoB ⟨#[]⟩ b = b := by
      unfold ontoB nlT
      rw [if_pos rfl]
      apply ByteArray.ext
      simp [ofB, ByteArray.data_append]
    rw [he]
    go_enter Tryz.func17, Tryz.ntmps17
    go_wp2
    refine bodyPost_ret (v := .string b) (by simp [results, Tryz.results17, go_sem]; apply ByteArray.ext; simp [ByteArray.data_append]) rfl ⟨rfl, rfl⟩
  · have hp : 0 < a.size := by
      rcases Nat.eq_zero_or_pos a.size with h | h
      · exact absurd (ByteArray.ext (Array.eq_empty_of_size_eq_zero h)) h0
      · exact h
    have he : a.toList.isEmpty = false := by
      rw [ByteArray.toList_eq]
      cases h : a.data.toList with
      | nil => have := lenN a; rw [h] at this; simp at this; omega
      | cons => rfl
    have hl := get_lastN a hp
    have hne : a.data.toList ≠ [] := fun e => by rw [e] at hl; cases hl
    by_cases hc : a[a.size - 1] = 10
    · have hon : ontoB a b = a ++ b := by
        unfold ontoB nlT
        rw [if_neg hne, if_pos (by rw [hl, hc]), ofB_listN]
      rw [hon]
      go_enter Tryz.func17, Tryz.ntmps17
      go_wp2
      go_ret
      exact ⟨rfl, rfl⟩
    · have hon : ontoB a b = a ++ ⟨#[10]⟩ ++ b := by
        unfold ontoB nlT
        rw [if_neg hne, if_neg (by rw [hl]; intro e; exact hc (Option.some.inj e)), ← ofB_appendR, ofB_listN]
        rfl
      have hx : ((a[a.size - 1].toNat : Int) == 10) = false := by
        rw [beq_eq_false_iff_ne]
        intro e
        exact hc (UInt8.toNat_inj.1 (by show _ = 10; omega))
      rw [hon]
      go_enter Tryz.func17, Tryz.ntmps17
      go_wp2
      go_ret
      exact ⟨rfl, rfl⟩
set_option maxRecDepth 20000 in
set_option maxHeartbeats 1000000 in
theorem numLaw (e : Int) (w : World) : Calls Tryz.prog 13 #[.int .i64 e] w fun en w' => en = .returned (.int .i64 e) ∧ w' = w := by
  go_enter Tryz.func13, Tryz.ntmps13
  go_wp2
  go_ret
  exact ⟨rfl, rfl⟩
theorem take_count (l : List UInt8) (k : Nat) (hk : k < l.length) : (l.take (k + 1)).count 10 = (l.take k).count 10 + (if l[k] = 10 then 1 else 0) := by
  rw [List.take_succ_eq_append_getElem hk, List.count_append, List.count_singleton]
  by_cases h : l[k] = 10
  · simp [h]
  · simp [h]
set_option maxRecDepth 20000 in
set_option maxHeartbeats 2000000 in
theorem count_any (s : ByteArray) (hs : s.size ≤ 1000) (w : World) : Calls Tryz.prog 20 #[.string s] w fun en w' => en = .returned (.int .i64 (s.data.toList.count 10)) ∧ w' = w := by
  go_enter Tryz.func20, Tryz.ntmps20
  go_wp2
  go_loopw [3, 4] (fun x y wr => ∃ k : Nat, k ≤ s.size ∧ x = .int .i64 ((s.data.toList.take k).count 10 : Nat) ∧ y = .int .i64 k ∧ wr = w) (fun _ y _ => s.size - (intOf y).toNat)
  case atStart => exact ⟨0, by omega, by simp, rfl, rfl⟩
  case round =>
    obtain ⟨k, hk, rfl, rfl, rfl⟩ := hrel
    have hcl : (s.data.toList.take k).count 10 ≤ 1000 := by
      have := List.count_le_length (a := (10 : UInt8)) (l := s.data.toList.take k)
      rw [List.length_take] at this
      omega
    by_cases hlt : k < s.size
    · have hki : (k : Int) < (s.size : Int) := by omega
      have hll : k < s.data.toList.length := by rw [lenN]; exact hlt
      have ht := take_count s.data.toList k hll
      have hg : s.data.toList[k] = s[k] := by simp; rfl
      rw [hg] at ht
      generalize hq : (s.data.toList.take k).count 10 = q at ht hcl
      by_cases hc : s[k] = 10
      · rw [if_pos hc] at ht
        have HT := hide ht
        clear ht hq hg
        go_wp2
        go_roundw
        case rel => exact ⟨k + 1, by omega, by rw [HT.out]; go_num, by go_num, trivial⟩
        case measure => simp [intOf]; omega
      · have hx : ((s[k].toNat : Int) == 10) = false := by
          rw [beq_eq_false_iff_ne]
          intro e
          exact hc (UInt8.toNat_inj.1 (by show _ = 10; omega))
        rw [if_neg hc] at ht
        have HT := hide ht
        clear ht hq hg
        go_wp2
        go_roundw
        case rel => exact ⟨k + 1, by omega, by rw [HT.out]; rfl, by go_num, trivial⟩
        case measure => simp [intOf]; omega
    · obtain rfl : k = s.size := by omega
      have hki : ¬ (s.size : Int) < (s.size : Int) := by omega
      have ht : s.data.toList.take s.size = s.data.toList := by rw [← lenN]; exact List.take_length
      rw [ht] at hcl ⊢
      go_wp2
      go_ret
      exact ⟨rfl, rfl⟩
theorem digit_conv (k : Nat) (w : World) : (convert 54 9 (.slice (some ⟨w.heap.size, 0, none⟩) 1 1)).run Tryz.prog (w.alloc (.cells #[.int .u8 (48 + (k : Int) % 10)] 5)) = .ok (.string (ofB [UInt8.ofNat (48 + k % 10)])) (w.alloc (.cells #[.int .u8 (48 + (k : Int) % 10)] 5)) := by
  have hm : k % 10 < 10 := Nat.mod_lt _ (by omega)
  have hcn : (UInt8.ofNat (48 + k % 10)).toNat = 48 + k % 10 := by
    rw [UInt8.toNat_ofNat']
    exact Nat.mod_eq_of_lt (by omega)
  have hv : (Value.int .u8 (48 + (k : Int) % 10)) = byV (UInt8.ofNat (48 + k % 10)) := by
    unfold byV
    rw [hcn]
    congr 1
  rw [hv]
  have := World.ownsRow_lit (base := 0) (e := 5) (size := 1) w #[byV (UInt8.ofNat (48 + k % 10))] 1 (Nat.zero_le _) (by unfold maxLen; omega) rfl
  exact bytes_conv (M := [UInt8.ofNat (48 + k % 10)]) this
set_option maxRecDepth 20000 in
set_option maxHeartbeats 4000000 in
theorem digits_any (N : Nat) : ∀ (k : Nat), k < N → k ≤ 1000 → ∀ (w : World), Calls Tryz.prog 19 #[.int .i64 k] w fun en w' => en = .returned (.string (ofB (Lib.decDigits k))) ∧ Only (fun _ => False) w w' := by
  induction N with
  | zero =>
    intro k hk hk2 w
    omega
  | succ N ih =>
    intro k hk hk2 w
    have hcv := digit_conv k w
    have hm : k % 10 < 10 := Nat.mod_lt _ (by omega)
    by_cases h10 : k < 10
    · have hki : (k : Int) < 10 := by omega
      have hdd : Lib.decDigits k = [UInt8.ofNat (48 + k % 10)] := by rw [Lib.decDigits_one h10, Nat.mod_eq_of_lt h10]
      rw [hdd]
      generalize UInt8.ofNat (48 + k % 10) = c at hcv
      go_enter Tryz.func19, Tryz.ntmps19
      go_wp2
      go_ret
      exact ⟨rfl, onlyA _ _⟩
    · have hki : ¬ (k : Int) < 10 := by omega
      have hdd : ofB (Lib.decDigits k) = ofB (Lib.decDigits (k / 10)) ++ ofB [UInt8.ofNat (48 + k % 10)] := by rw [Lib.decDigits, dif_neg h10, ofB_appendR]
      rw [hdd]
      have hln : (Lib.decDigits (k / 10)).length ≤ 30 := by
        have := itoa_short (k / 10) (by omega)
        rw [Lib.itoa_nonneg] at this
        exact this
      have hls : (ofB (Lib.decDigits (k / 10))).size ≤ 30 := by rw [ofB_sizeR]; exact hln
      have hl1 : (ofB [UInt8.ofNat (48 + k % 10)]).size = 1 := rfl
      have HI : Hid (∀ W, Calls Tryz.prog 19 #[.int .i64 ((k : Int) / 10)] W fun en w' => en = .returned (.string (ofB (Lib.decDigits (k / 10)))) ∧ Only (fun _ => False) W w') := hide (fun W => ih (k / 10) (by omega) (by omega) W)
      generalize UInt8.ofNat (48 + k % 10) = c at hcv hl1
      clear hln hdd
      generalize ofB (Lib.decDigits (k / 10)) = D at *
      go_enter Tryz.func19, Tryz.ntmps19
      go_wp2_with (go_at_call 19; refine (HI.out _).mono ?_; rintro en w2 ⟨rfl, ho⟩; have HO := hide ho; clear ho)
      go_ret
      exact ⟨rfl, (onlyA w _).trans HO.out (fun _ _ e => e)⟩
end Go.Proofs.YtdbdbaepmdmnfaaGreatDoor
namespace Go.Proofs.YtdbdbaepmdmnfaaGreatDoor
open Go.RowKit
/-- What ran answers: v, or that a line has too many words. -/
def RanTo (w : World) (T : List UInt8) (v : ByteArray) (en : Ending) (w' : World) : Prop :=
  ∃ (g : Nat) (x : ByteArray) (E : Int), en = .returned (.agg #[.slice (some ⟨g, 0, none⟩) 1 1, .int .i64 0, .int .i64 E, .int .i64 0]) ∧ w'.heap[g]? = some (.cells #[.string ⟨#[]⟩, .string x] 41 (0, 0)) ∧ ((AllFew (recs T) ∧ E = 0 ∧ x = v) ∨ (¬ AllFew (recs T) ∧ E = 6)) ∧ Only (fun _ => False) w w'
set_option maxRecDepth 20000 in
set_option maxHeartbeats 4000000 in
theorem ran_of (p T v : ByteArray) (w : World) (h : ∀ W, Only (fun _ => False) w W → Calls Tryz.prog 28 #[.string p, .string T, .int .i64 2000] W fun en w' => ∃ (g : Nat) (x : ByteArray) (E : Int), en = .returned (.tuple #[.slice (some ⟨g, 0, none⟩) 1 1, .int .i64 0, .int .i64 E, .int .i64 0]) ∧ w'.heap[g]? = some (.cells #[.string ⟨#[]⟩, .string x] 41 (0, 0)) ∧ (AllFew (recs T.data.toList) → E = 0 ∧ x = v) ∧ (¬ AllFew (recs T.data.toList) → E = 6) ∧ Only (fun _ => False) W w') :
    Calls Tryz.prog 18 #[.string p, .string T, .int .i64 2000] w (RanTo w T.data.toList v) := by
  have HR := hide h
  clear h
  go_enter Tryz.func18, Tryz.ntmps18
  go_wp2_with fail
  refine (HR.out _ (onlyA w _)).mono ?_
  rintro en w2 ⟨g, x, E, rfl, h1, h2, h3, ho⟩
  have hb := (ho.block w.heap.size (by simp) (fun e => e)).trans (new0 w _)
  have c0 : w2.cell? ⟨w.heap.size, 0, none⟩ = some (.slice none 0 0) := cell_of hb rfl
  have c1 : w2.cell? ⟨w.heap.size, 1, none⟩ = some (.int .i64 0) := cell_of hb rfl
  have c2 : w2.cell? ⟨w.heap.size, 2, none⟩ = some (.int .i64 0) := cell_of hb rfl
  have c3 : w2.cell? ⟨w.heap.size, 3, none⟩ = some (.int .i64 0) := cell_of hb rfl
  have hfr := free_of hb
  have hne : g ≠ w.heap.size := fun e => by
    rw [e, hb] at h1
    cases h1
  have HO := hide ((onlyA w _).trans ho (fun _ _ e => e))
  have H1 := hide h1
  have H2 := hide h2
  have H3 := hide h3
  have HB := hide hb
  clear h1 h2 h3 ho hb
  go_wp2_with (go_at_call 13; refine (numLaw _ _).mono ?_; rintro en w' ⟨rfl, h3⟩; subst w')
  refine bodyPost_ret (v := .agg #[.slice (some ⟨g, 0, none⟩) 1 1, .int .i64 0, .int .i64 E, .int .i64 0]) (by simp [results, Tryz.results18, go_sem, c0, c1, c2, c3]) rfl ?_
  have hst : ∀ (W : World) (o : Nat) (u : Value), W.heap[g]? = some (.cells #[.string ⟨#[]⟩, .string x] 41 (0, 0)) → (W.setCell ⟨w.heap.size, o, none⟩ u).heap[g]? = some (.cells #[.string ⟨#[]⟩, .string x] 41 (0, 0)) := fun W o u h => (Below.heap_setCell _ _ _ _ hne).trans h
  refine ⟨g, x, E, rfl, hst _ _ _ (hst _ _ _ (hst _ _ _ (hst _ _ _ H1.out))), ?_, (((HO.out.setCell (fun h => absurd h (Nat.lt_irrefl _)) _).setCell (fun h => absurd h (Nat.lt_irrefl _)) _).setCell (fun h => absurd h (Nat.lt_irrefl _)) _).setCell (fun h => absurd h (Nat.lt_irrefl _)) _⟩
  by_cases hf : AllFew (recs T.data.toList)
  · exact Or.inl ⟨hf, H2.out hf⟩
  · exact Or.inr ⟨hf, H3.out hf⟩
theorem ran_print (T : ByteArray) (hT : T.size ≤ 400) (a : Addr) (w : World) (hse : SentF w a) : Calls Tryz.prog 18 #[.string P1, .string T, .int .i64 2000] w (RanTo w T.data.toList (ofB (nlT T.data.toList))) :=
  ran_of P1 T _ w (fun W hW => (grun_print T hT a W (hse.only hW)).mono (fun _ _ h => by
    obtain ⟨g, x, E, h1, h2, h3, h4, h5⟩ := h
    refine ⟨g, x, E, h1, h2, fun hf => ?_, h4, h5⟩
    have := h3 hf
    rw [printed_recs] at this
    exact this))
theorem ran_count (T : ByteArray) (hT : T.size ≤ 400) (a : Addr) (w : World) (hse : SentF w a) (htab : Lib.TabIs Tryz.prog w "internal/strconv.uint64pow10" .u64 Lib.pow10Tab) : Calls Tryz.prog 18 #[.string P2, .string T, .int .i64 2000] w (RanTo w T.data.toList (nrOut (recs T.data.toList).length)) :=
  ran_of P2 T _ w (fun W hW => grun_count T hT a W (hse.only hW) (tab_only htab hW))
/-- A step of a script, as it lies in memory. -/
def OpN (w : World) (b o : Nat) : Prop := ∃ (K A B : Int) (s t u : ByteArray) (ao : Option Addr) (n cap : Nat), (t.size ≤ 1125899906842624 ∧ u.size ≤ 1125899906842624) ∧
  w.cell? ⟨b, o, none⟩ = some (.int .i64 K) ∧ w.cell? ⟨b, o + 1, none⟩ = some (.int .i64 A) ∧ w.cell? ⟨b, o + 2, none⟩ = some (.int .i64 B) ∧ w.cell? ⟨b, o + 3, none⟩ = some (.string s) ∧ w.cell? ⟨b, o + 4, none⟩ = some (.string t) ∧ w.cell? ⟨b, o + 5, none⟩ = some (.string u) ∧ w.cell? ⟨b, o + 6, none⟩ = some (.slice ao n cap)
theorem OpN.below {w w' : World} {b o : Nat} (h : OpN w b o) (hb : Below w.heap.size w w') (hB : b < w.heap.size) : OpN w' b o := by
  obtain ⟨K, A, B, s, t, u, ao, n, cap, hz, h0, h1, h2, h3, h4, h5, h6⟩ := h
  refine ⟨K, A, B, s, t, u, ao, n, cap, hz, ?_, ?_, ?_, ?_, ?_, ?_, ?_⟩
  · rw [hb.cell (p := ⟨b, o, none⟩) hB]; exact h0
  · rw [hb.cell (p := ⟨b, o + 1, none⟩) hB]; exact h1
  · rw [hb.cell (p := ⟨b, o + 2, none⟩) hB]; exact h2
  · rw [hb.cell (p := ⟨b, o + 3, none⟩) hB]; exact h3
  · rw [hb.cell (p := ⟨b, o + 4, none⟩) hB]; exact h4
  · rw [hb.cell (p := ⟨b, o + 5, none⟩) hB]; exact h5
  · rw [hb.cell (p := ⟨b, o + 6, none⟩) hB]; exact h6
theorem nlT_size (l : List UInt8) : l.length ≤ (nlT l).length ∧ (nlT l).length ≤ l.length + 1 := by
  unfold nlT
  split
  · subst_vars; simp
  · split
    · omega
    · simp
theorem ontoB_size (a b : ByteArray) : a.size + b.size ≤ (ontoB a b).size ∧ (ontoB a b).size ≤ a.size + b.size + 1 := by
  unfold ontoB
  have := nlT_size a.data.toList
  rw [lenN] at this
  rw [ByteArray.size_append, ofB_sizeR]
  omega
end Go.Proofs.YtdbdbaepmdmnfaaGreatDoor
namespace Go.Proofs.YtdbdbaepmdmnfaaGreatDoor
open Go.RowKit
theorem OpN.only {w w' : World} {b o : Nat} (h : OpN w b o) (ho : Only (fun _ => False) w w') (hB : b < w.heap.size) : OpN w' b o := h.below (ho.below (Nat.le_refl _) (fun _ _ e => e)) hB
theorem keepC {w w' : World} (ho : Only (fun _ => False) w w') {p : Addr} {v : Value} (h : w.cell? p = some v) : w'.cell? p = some v := (ho.cell (p := p) (World.block_lt_of_cell? w p h) (fun e => e)).trans h
/-- What is wanted of the whole: the one's lines and then the other's. -/
theorem onto_want (t u : ByteArray) : ofB (nlT (ontoB t u).data.toList) = ofB (nlT t.data.toList) ++ ofB (nlT u.data.toList) := by
  have : (ontoB t u).data.toList = nlT t.data.toList ++ u.data.toList := by
    unfold ontoB
    rw [ByteArray.data_append]
    simp [ofB]
  rw [this, nlT_two, ofB_appendR]
theorem onto_again (t : ByteArray) : ontoB t ⟨#[]⟩ = ofB (nlT t.data.toList) := by
  unfold ontoB
  apply ByteArray.ext
  rw [ByteArray.data_append]
  simp
theorem want_count (t : ByteArray) : (ofB (nlT t.data.toList)).data.toList.count 10 = (recs t.data.toList).length := by
  rw [← printed_recs]
  exact count_printed _
theorem nrOut_digits (k : Nat) : nrOut k = ofB (Lib.decDigits k) ++ ⟨#[10]⟩ := by
  unfold nrOut
  rw [Lib.itoa_nonneg]
  rfl
set_option maxRecDepth 100000 in
set_option maxHeartbeats 8000000 in
theorem linesL_some (b off n cap : Nat) (hn : n ≤ 140737488355328) (a : Addr) (w : World) (hB : b < w.heap.size) (hO : ∀ i, i < n → OpN w b (off + i * 7)) (hse : SentF w a) (htab : Lib.TabIs Tryz.prog w "internal/strconv.uint64pow10" .u64 Lib.pow10Tab) :
    Calls Tryz.prog 5 #[.slice (some ⟨b, off, none⟩) n cap] w fun e w' => e = .returned (.bool true) ∧ Only (fun _ => False) w w' := by
  have HOp := hide hO
  have HSe := hide hse
  have HTb := hide htab
  clear hO hse htab
  go_enter Tryz.func5, Tryz.ntmps5
  go_wp2
  go_loopw [3] (fun i wr => ∃ k : Nat, k ≤ n ∧ i = .int .i64 k ∧ Only (fun _ => False) w wr) (fun i _ => n - (intOf i).toNat)
  case atStart => exact ⟨0, by omega, rfl, Only.refl _ _⟩
  case round =>
    obtain ⟨k, hk, rfl, hbw⟩ := hrel
    have hzw := hbw.size
    by_cases hlt : k < n
    · obtain ⟨K, A, B, s, t, u, ao, nn, cp, ⟨z1, z2⟩, h0, h1, h2, h3, h4, h5, h6⟩ := (HOp.out k hlt).only hbw hB
      have hk60 : (k : Int) < 1152921504606846976 := by omega
      have HB := hide hbw
      clear hbw
      go_wp2_with fail
      refine (onto_any t u z1 z2 _).mono ?_
      rintro e w1 ⟨rfl, hw1⟩
      subst w1
      have HZ := hide (ontoB_size t u)
      have n4 : (wr.alloc (.cells #[.int .i64 K, .int .i64 A, .int .i64 B, .string s, .string t, .string u, .slice ao nn cp] 25)).cell? ⟨wr.heap.size, 4, none⟩ = some (.string t) := cell_of (new0 wr _) rfl
      have n5 : (wr.alloc (.cells #[.int .i64 K, .int .i64 A, .int .i64 B, .string s, .string t, .string u, .slice ao nn cp] 25)).cell? ⟨wr.heap.size, 5, none⟩ = some (.string u) := cell_of (new0 wr _) rfl
      by_cases hsz : (ontoB t u).size ≤ 200
      · have hsi : decide (((ontoB t u).size : Int) ≤ 200) = true := by simp; omega
        have ht2 : t.size ≤ 200 := by have := HZ.out; omega
        have hu2 : u.size ≤ 200 := by have := HZ.out; omega
        have hW0 : Only (fun _ => False) w (wr.alloc (.cells #[.int .i64 K, .int .i64 A, .int .i64 B, .string s, .string t, .string u, .slice ao nn cp] 25)) := HB.out.alloc _
        have hox := onto_want t u
        have hoa := onto_again (ontoB t u)
        have hcn := want_count (ontoB t u)
        have HX := hide hox
        have HA := hide hoa
        have HN := hide hcn
        have HU2 := hide hu2
        have HT2 := hide ht2
        have HZ2 := hide hsz
        have HW0 := hide hW0
        have HB2 := hide hB
        clear hox hoa hcn hsz h0 h1 h2 h3 h4 h5 h6 HZ z1 z2 hB hu2 ht2 hW0
        generalize ontoB t u = T0 at *
        generalize wr.alloc (.cells #[.int .i64 K, .int .i64 A, .int .i64 B, .string s, .string t, .string u, .slice ao nn cp] 25) = Wa at *
        go_wp2_with fail
        refine (ran_print t (Nat.le_trans HT2.out (by decide)) a _ (HSe.out.only HW0.out)).mono ?_
        rintro e w1 ⟨g1, x1, E1, rfl, hg1, hc1, ho1⟩
        have ob1 := ho1.alloc (.cells #[.slice (some ⟨g1, 0, none⟩) 1 1, .int .i64 0, .int .i64 E1, .int .i64 0] 38)
        have HW1 := hide (HW0.out.trans ob1 (fun _ _ e => e))
        have a5 := keepC ob1 n5
        have r10 : (w1.alloc (.cells #[.slice (some ⟨g1, 0, none⟩) 1 1, .int .i64 0, .int .i64 E1, .int .i64 0] 38)).cell? ⟨w1.heap.size, 0, none⟩ = some (.slice (some ⟨g1, 0, none⟩) 1 1) := cell_of (new0 w1 _) rfl
        have r12 : (w1.alloc (.cells #[.slice (some ⟨g1, 0, none⟩) 1 1, .int .i64 0, .int .i64 E1, .int .i64 0] 38)).cell? ⟨w1.heap.size, 2, none⟩ = some (.int .i64 E1) := cell_of (new0 w1 _) rfl
        have t1 : (w1.alloc (.cells #[.slice (some ⟨g1, 0, none⟩) 1 1, .int .i64 0, .int .i64 E1, .int .i64 0] 38)).cell? ⟨g1, 1, none⟩ = some (.string x1) := past (cell_of hg1 rfl) _
        have HC1 := hide hc1
        clear hc1 ho1 hg1
        go_wp2_with fail
        generalize w1.alloc (.cells #[.slice (some ⟨g1, 0, none⟩) 1 1, .int .i64 0, .int .i64 E1, .int .i64 0] 38) = W1 at *
        clear ob1
        refine (ran_print u (Nat.le_trans HU2.out (by decide)) a _ (HSe.out.only HW1.out)).mono ?_
        rintro e w2 ⟨g2, x2, E2, rfl, hg2, hc2, ho2⟩
        have ob2 := ho2.alloc (.cells #[.slice (some ⟨g2, 0, none⟩) 1 1, .int .i64 0, .int .i64 E2, .int .i64 0] 38)
        have HW2 := hide (HW1.out.trans ob2 (fun _ _ e => e))
        have b10 := keepC ob2 r10
        have b12 := keepC ob2 r12
        have b1t := keepC ob2 t1
        have r20 : (w2.alloc (.cells #[.slice (some ⟨g2, 0, none⟩) 1 1, .int .i64 0, .int .i64 E2, .int .i64 0] 38)).cell? ⟨w2.heap.size, 0, none⟩ = some (.slice (some ⟨g2, 0, none⟩) 1 1) := cell_of (new0 w2 _) rfl
        have r22 : (w2.alloc (.cells #[.slice (some ⟨g2, 0, none⟩) 1 1, .int .i64 0, .int .i64 E2, .int .i64 0] 38)).cell? ⟨w2.heap.size, 2, none⟩ = some (.int .i64 E2) := cell_of (new0 w2 _) rfl
        have t2 : (w2.alloc (.cells #[.slice (some ⟨g2, 0, none⟩) 1 1, .int .i64 0, .int .i64 E2, .int .i64 0] 38)).cell? ⟨g2, 1, none⟩ = some (.string x2) := past (cell_of hg2 rfl) _
        have HC2 := hide hc2
        clear hc2 ho2 hg2
        go_wp2_with fail
        generalize w2.alloc (.cells #[.slice (some ⟨g2, 0, none⟩) 1 1, .int .i64 0, .int .i64 E2, .int .i64 0] 38) = W2 at *
        clear ob2
        refine (ran_print T0 (Nat.le_trans HZ2.out (by decide)) a _ (HSe.out.only HW2.out)).mono ?_
        rintro e w3 ⟨g3, x3, E3, rfl, hg3, hc3, ho3⟩
        have ob3 := ho3.alloc (.cells #[.slice (some ⟨g3, 0, none⟩) 1 1, .int .i64 0, .int .i64 E3, .int .i64 0] 38)
        have HW3 := hide (HW2.out.trans ob3 (fun _ _ e => e))
        have c10 := keepC ob3 b10
        have c12 := keepC ob3 b12
        have c1t := keepC ob3 b1t
        have c20 := keepC ob3 r20
        have c22 := keepC ob3 r22
        have c2t := keepC ob3 t2
        have r30 : (w3.alloc (.cells #[.slice (some ⟨g3, 0, none⟩) 1 1, .int .i64 0, .int .i64 E3, .int .i64 0] 38)).cell? ⟨w3.heap.size, 0, none⟩ = some (.slice (some ⟨g3, 0, none⟩) 1 1) := cell_of (new0 w3 _) rfl
        have r32 : (w3.alloc (.cells #[.slice (some ⟨g3, 0, none⟩) 1 1, .int .i64 0, .int .i64 E3, .int .i64 0] 38)).cell? ⟨w3.heap.size, 2, none⟩ = some (.int .i64 E3) := cell_of (new0 w3 _) rfl
        have t3 : (w3.alloc (.cells #[.slice (some ⟨g3, 0, none⟩) 1 1, .int .i64 0, .int .i64 E3, .int .i64 0] 38)).cell? ⟨g3, 1, none⟩ = some (.string x3) := past (cell_of hg3 rfl) _
        have HC3 := hide hc3
        clear hc3 ho3 hg3
        go_wp2_with fail
        generalize w3.alloc (.cells #[.slice (some ⟨g3, 0, none⟩) 1 1, .int .i64 0, .int .i64 E3, .int .i64 0] 38) = W3 at *
        clear ob3
        refine (ran_count T0 (Nat.le_trans HZ2.out (by decide)) a _ (HSe.out.only HW3.out) (tab_only HTb.out HW3.out)).mono ?_
        rintro e w4 ⟨g4, x4, E4, rfl, hg4, hc4, ho4⟩
        have ob4 := ho4.alloc (.cells #[.slice (some ⟨g4, 0, none⟩) 1 1, .int .i64 0, .int .i64 E4, .int .i64 0] 38)
        have HW4 := hide (HW3.out.trans ob4 (fun _ _ e => e))
        have d10 := keepC ob4 c10
        have d12 := keepC ob4 c12
        have d1t := keepC ob4 c1t
        have d20 := keepC ob4 c20
        have d22 := keepC ob4 c22
        have d2t := keepC ob4 c2t
        have d30 := keepC ob4 r30
        have d32 := keepC ob4 r32
        have d3t := keepC ob4 t3
        have r40 : (w4.alloc (.cells #[.slice (some ⟨g4, 0, none⟩) 1 1, .int .i64 0, .int .i64 E4, .int .i64 0] 38)).cell? ⟨w4.heap.size, 0, none⟩ = some (.slice (some ⟨g4, 0, none⟩) 1 1) := cell_of (new0 w4 _) rfl
        have r42 : (w4.alloc (.cells #[.slice (some ⟨g4, 0, none⟩) 1 1, .int .i64 0, .int .i64 E4, .int .i64 0] 38)).cell? ⟨w4.heap.size, 2, none⟩ = some (.int .i64 E4) := cell_of (new0 w4 _) rfl
        have t4 : (w4.alloc (.cells #[.slice (some ⟨g4, 0, none⟩) 1 1, .int .i64 0, .int .i64 E4, .int .i64 0] 38)).cell? ⟨g4, 1, none⟩ = some (.string x4) := past (cell_of hg4 rfl) _
        have HC4 := hide hc4
        clear hc4 ho4 hg4
        clear ob4
        rcases HC1.out with ⟨f1, rfl, rfl⟩ | ⟨f1, rfl⟩
        · rcases HC2.out with ⟨f2, rfl, rfl⟩ | ⟨f2, rfl⟩
          · rcases HC3.out with ⟨f3, rfl, rfl⟩ | ⟨f3, rfl⟩
            · have h4 : x4 = ofB (Lib.decDigits (recs T0.data.toList).length) ++ ⟨#[10]⟩ := by
                rcases HC4.out with ⟨_, _, h⟩ | ⟨h, _⟩
                · rw [h, nrOut_digits]
                · exact absurd f3 h
              have hq : (recs T0.data.toList).length ≤ 200 := by
                have := recs_len T0.data.toList
                rw [lenN] at this
                exact Nat.le_trans this HZ2.out
              have hxs : (ofB (nlT t.data.toList)).size ≤ 201 := by
                have := (nlT_size t.data.toList).2
                rw [lenN] at this
                rw [ofB_sizeR]
                have := HT2.out
                omega
              have hys : (ofB (nlT u.data.toList)).size ≤ 201 := by
                have := (nlT_size u.data.toList).2
                rw [lenN] at this
                rw [ofB_sizeR]
                have := HU2.out
                omega
              have hds : (ofB (Lib.decDigits (recs T0.data.toList).length)).size ≤ 30 := by
                have := itoa_short (recs T0.data.toList).length (by omega)
                rw [Lib.itoa_nonneg] at this
                rw [ofB_sizeR]
                exact this
              have HOn : Hid (∀ W, Calls Tryz.prog 17 #[.string T0, .string ⟨#[]⟩] W fun en w' => en = .returned (.string (ofB (nlT t.data.toList) ++ ofB (nlT u.data.toList))) ∧ w' = W) := hide (fun W => by
                have := onto_any T0 ⟨#[]⟩ (Nat.le_trans HZ2.out (by decide)) (by decide) W
                rw [HA.out, HX.out] at this
                exact this)
              have HCt : Hid (∀ W, Calls Tryz.prog 20 #[.string (ofB (nlT t.data.toList) ++ ofB (nlT u.data.toList))] W fun en w' => en = .returned (.int .i64 ((recs T0.data.toList).length : Nat)) ∧ w' = W) := hide (fun W => by
                have := count_any (ofB (nlT t.data.toList) ++ ofB (nlT u.data.toList)) (by rw [ByteArray.size_append]; omega) W
                have e := HN.out
                rw [HX.out] at e
                rw [e] at this
                exact this)
              have HDg : Hid (∀ W, Calls Tryz.prog 19 #[.int .i64 ((recs T0.data.toList).length : Nat)] W fun en w' => en = .returned (.string (ofB (Lib.decDigits (recs T0.data.toList).length))) ∧ Only (fun _ => False) W w') := hide (fun W => digits_any _ _ (Nat.lt_succ_self _) (by omega) W)
              rw [HX.out] at d3t
              rw [h4] at t4
              clear HC1 HC2 HC3 HC4 h4 f1 f2 f3 HN HX HA hq HOp HSe HTb
              generalize ofB (Lib.decDigits (recs T0.data.toList).length) = D at *
              generalize (recs T0.data.toList).length = q at *
              generalize ofB (nlT t.data.toList) = X at *
              generalize ofB (nlT u.data.toList) = Y at *
              go_wp2_with (go_at_call 17; refine (HOn.out _).mono ?_; rintro en w' ⟨rfl, h3⟩; subst w')
              go_region
              have HWD := hide (toDrew HW4.out)
              have v0 : (w4.alloc (.cells #[.slice (some ⟨g4, 0, none⟩) 1 1, .int .i64 0, .int .i64 E4, .int .i64 0] 38)).drew.cell? ⟨w4.heap.size, 0, none⟩ = some (.slice (some ⟨g4, 0, none⟩) 1 1) := r40
              have v1 : (w4.alloc (.cells #[.slice (some ⟨g4, 0, none⟩) 1 1, .int .i64 0, .int .i64 E4, .int .i64 0] 38)).drew.cell? ⟨g4, 1, none⟩ = some (.string (D ++ ⟨#[10]⟩)) := t4
              clear HW4 r40 r42 t4 d10 d12 d1t d20 d22 d2t d30 d32 d3t c10 c12 c1t c20 c22 c2t b10 b12 b1t r10 r12 t1 r20 r22 t2 r30 r32 t3 n4 n5 a5 HOn
              generalize (w4.alloc (.cells #[.slice (some ⟨g4, 0, none⟩) 1 1, .int .i64 0, .int .i64 E4, .int .i64 0] 38)).drew = WD at *
              generalize w4.heap.size = nb at *
              have v0' : WD.drew.cell? ⟨nb, 0, none⟩ = some (.slice (some ⟨g4, 0, none⟩) 1 1) := v0
              have v1' : WD.drew.cell? ⟨g4, 1, none⟩ = some (.string (D ++ ⟨#[10]⟩)) := v1
              have hadd : ∀ W, (Op.stringOp .add D ⟨#[10]⟩).run Tryz.prog W = .ok (.string (D ++ ⟨#[10]⟩)) W := fun W => run_string_add_sum W D ⟨#[10]⟩ (by have : (⟨#[10]⟩ : ByteArray).size = 1 := rfl; omega)
              generalize D ++ ⟨#[10]⟩ = DD at *
              have HXS := hide hxs
              have HYS := hide hys
              have HZW := hide hzw
              have HK := hide hk
              have HLT := hide hlt
              have HK60 := hide hk60
              have HHN := hide hn
              clear hxs hys hzw hk hlt hk60 hn hsi hds
              go_upto_region 15 with fail
              go_region_held3 (fun W => W.cell? ⟨nb, 0, none⟩ = some (.slice (some ⟨g4, 0, none⟩) 1 1) ∧ W.cell? ⟨g4, 1, none⟩ = some (.string (DD))) (first | (refine ⟨?_, ?_⟩ <;> (with_reducible assumption)))
                (first | (go_at_call 20; refine (HCt.out _).mono ?_; rintro en w' ⟨rfl, h3⟩; subst w') | (go_at_call 19; refine (HDg.out _).mono ?_; rintro en w5 ⟨rfl, ho5⟩; have q0 := keepC ho5 v0'; have q1 := keepC ho5 v1'; have HO5 : Hid (Only (fun _ => False) w w5) := hide (HWD.out.trans (fromDrew ho5) (fun _ _ e => e)); clear ho5))
              all_goals
                have hk := HK.out
                have hlt := HLT.out
                have hhn := HHN.out
                go_wp2_with fail
                go_roundw
                case rel => exact ⟨k + 1, by omega, by go_num, HO5.out⟩
                case measure => simp [intOf]; omega
            · clear HC1 HC2 HC3 HC4
              go_wp2_with fail
              go_roundw
              case rel => exact ⟨k + 1, by omega, by go_num, HW4.out⟩
              case measure => simp [intOf]; omega
          · clear HC1 HC2 HC3 HC4
            go_wp2_with fail
            go_roundw
            case rel => exact ⟨k + 1, by omega, by go_num, HW4.out⟩
            case measure => simp [intOf]; omega
        · clear HC1 HC2 HC3 HC4
          go_wp2_with fail
          go_roundw
          case rel => exact ⟨k + 1, by omega, by go_num, HW4.out⟩
          case measure => simp [intOf]; omega
      · have hsi : decide (((ontoB t u).size : Int) ≤ 200) = false := by simp; omega
        clear HSe HTb HZ hsz z1 z2 h0 h1 h2 h3 h4 h5 h6 HOp hB
        generalize ontoB t u = T0 at *
        go_wp2_with fail
        go_roundw
        case rel => exact ⟨k + 1, by omega, by go_num, HB.out.alloc _⟩
        case measure => simp [intOf]; omega
    · go_wp2
      go_ret
      exact ⟨rfl, hbw⟩
set_option maxHeartbeats 1000000 in
theorem linesL_none (ao : Option Addr) (cap : Nat) (w : World) : Calls Tryz.prog 5 #[.slice ao 0 cap] w fun e w' => e = .returned (.bool true) ∧ Only (fun _ => False) w w' := by
  go_enter Tryz.func5, Tryz.ntmps5
  go_wp2
  go_loop [3] (fun i => i = .int .i64 0) (fun _ => 0)
  case atStart => exact rfl
  case round =>
    subst hrel
    go_wp2
    go_ret
    exact ⟨rfl, Only.refl _ _⟩
end Go.Proofs.YtdbdbaepmdmnfaaGreatDoor
