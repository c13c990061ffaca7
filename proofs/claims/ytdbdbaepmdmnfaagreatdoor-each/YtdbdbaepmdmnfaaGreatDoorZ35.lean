import Derived.Test.YtdbdbaepmdmnfaaGreatDoorZ25
import Derived.Test.YtdbdbaepmdmnfaaGreatDoorZ34
import Derived.Test.YtdbdbaepmdmnfaaGreatDoorZ12
import Derived.Test.YtdbdbaepmdmnfaaGreatDoorZ29
import Derived.Test.YtdbdbaepmdmnfaaGreatDoorZ22
import Derived.Test.YtdbdbaepmdmnfaaGreatDoorZ15
import Derived.Test.YtdbdbaepmdmnfaaGreatDoorZ32
import Derived.Test.YtdbdbaepmdmnfaaGreatDoorZ30
import Derived.Test.YtdbdbaepmdmnfaaGreatDoorZ11
namespace Go.Proofs.YtdbdbaepmdmnfaaGreatDoor
open Go.RowKit
variable {wT : World}
def vN : Array MapEntry := firstVs.push ⟨.string nx, .int .i64 7, 7⟩
def vK : Array MapEntry := vN.push ⟨.string kx, .int .i64 8, 8⟩
def vC : Array MapEntry := vK.push ⟨.string cx, .int .i64 9, 9⟩
def aA : Array MapEntry := #[⟨.string ax, .int .i64 0, 0⟩]
def C0 : Nat → World → Value → Prop := fun B w v => ConstE B w v 1 0 ⟨#[]⟩
def C1 : Nat → World → Value → Prop := fun B w v => ConstE B w v 1 1 ⟨#[]⟩
def CX : Nat → World → Value → Prop := fun B w v => ConstE B w v 2 0 xx
def JS : Nat → World → Value → Prop := SetK (VarK 7) (SplitK (FieldK C0))
def JX : Nat → World → Value → Prop := SetK (ElemK (JoinK CX (VarK 8))) C1
def JA : Nat → World → Value → Prop := AddK (VarK 9) C1
/-- The inner statements, made. -/
def KI : Nat → Nat → World → Value → Prop
  | 0 => StF (PrintK2 (VarK 8) (ElemK (VarK 8)))
  | 1 => StF DelK
  | _ => StF (WorkK JX)
/-- The statements, made. -/
def KE : Nat → Nat → World → Value → Prop
  | 0 => StF (WorkK JS)
  | 1 => StF (InK 8 (BlockK KI 3))
  | 2 => StF (WorkK (SetK (VarK 9) C0))
  | 3 => StF (InK 8 (BlockK (fun _ => StF (WorkK JA)) 1))
  | _ => StF (PrintK (VarK 9))
def vssE : Nat → VA
  | 0 => ⟨firstVs, #[]⟩
  | 1 => ⟨vN, aA⟩
  | 2 => ⟨vK, aA⟩
  | _ => ⟨vC, aA⟩
theorem num_n : NumOK nx 7 firstVs vN := num_new nx firstVs rfl rfl
theorem num_k : NumOK kx 8 vN vK := num_new kx vN rfl rfl
theorem num_k2 : NumOK kx 8 vK vK := num_known kx 8 8 vK rfl rfl
theorem num_k3 : NumOK kx 8 vC vC := num_known kx 8 8 vC rfl rfl
theorem num_c : NumOK cx 9 vK vC := num_new cx vK rfl rfl
theorem num_c2 : NumOK cx 9 vC vC := num_known cx 9 9 vC rfl rfl
theorem num_a : NumOK ax 0 #[] aA := num_first ax
theorem num_a2 : NumOK ax 0 aA aA := num_known ax 0 0 aA rfl rfl
theorem c0_keeps : KeepsE C0 := const_keeps 1 0 ⟨#[]⟩
theorem c1_keeps : KeepsE C1 := const_keeps 1 1 ⟨#[]⟩
theorem cx_keeps : KeepsE CX := const_keeps 2 0 xx
theorem js_keeps : KeepsE JS := setk_keeps (vark_keeps 7) (splitK_keeps (fieldk_keeps c0_keeps))
theorem jx_keeps : KeepsE JX := setk_keeps (elemk_keeps (joink_keeps cx_keeps (vark_keeps 8))) c1_keeps
theorem ja_keeps : KeepsE JA := addk_keeps (vark_keeps 9) c1_keeps
theorem ki_keeps : ∀ i, i < 3 → Keeps (KI i)
  | 0, _ => st_keeps (printK2_keeps (vark_keeps 8) (elemk_keeps (vark_keeps 8)))
  | 1, _ => st_keeps delK_keeps
  | 2, _ => st_keeps (workK_keeps jx_keeps)
theorem kib_keeps : Keeps (BlockK KI 3) := blockK_keeps ki_keeps
theorem kc_keeps : Keeps (BlockK (fun _ => StF (WorkK JA)) 1) := blockK_keeps (fun _ _ => st_keeps (workK_keeps ja_keeps))
theorem ke_keeps : ∀ i, i < 5 → Keeps (KE i)
  | 0, _ => st_keeps (workK_keeps js_keeps)
  | 1, _ => st_keeps (inK_keeps kib_keeps)
  | 2, _ => st_keeps (workK_keeps (setk_keeps (vark_keeps 9) c0_keeps))
  | 3, _ => st_keeps (inK_keeps kc_keeps)
  | 4, _ => st_keeps (printK_keeps (vark_keeps 9))
theorem keb_keeps : Keeps (BlockK KE 5) := blockK_keeps ke_keeps
theorem mk5 (W : World) : (Instr.makeSlice 132 (.int .i64 5) (.int .i64 5)).run Tryz.prog W = .ok (.slice (some ⟨W.heap.size, 0, none⟩) 5 5) (W.alloc (.cells (Array.replicate 5 .nilFunc) 185)) := by kernel_rfl
theorem mk3 (W : World) : (Instr.makeSlice 132 (.int .i64 3) (.int .i64 3)).run Tryz.prog W = .ok (.slice (some ⟨W.heap.size, 0, none⟩) 3 3) (W.alloc (.cells (Array.replicate 3 .nilFunc) 185)) := by kernel_rfl
theorem mk1 (W : World) : (Instr.makeSlice 132 (.int .i64 1) (.int .i64 1)).run Tryz.prog W = .ok (.slice (some ⟨W.heap.size, 0, none⟩) 1 1) (W.alloc (.cells (Array.replicate 1 .nilFunc) 185)) := by kernel_rfl
theorem ta_print_block (v : Value) (w : World) : (Instr.typeAssert (.iface 285 v) 235 95 true).run Tryz.prog w = .ok (.tuple #[.slice none 0 0, .bool false]) w := by kernel_rfl
theorem ta_print_empty (v : Value) (w : World) : (Instr.typeAssert (.iface 285 v) 235 334 true).run Tryz.prog w = .ok (.tuple #[.agg #[], .bool false]) w := by kernel_rfl
theorem ta_work_block (v : Value) (w : World) : (Instr.typeAssert (.iface 350 v) 235 95 true).run Tryz.prog w = .ok (.tuple #[.slice none 0 0, .bool false]) w := by kernel_rfl
theorem ta_work_empty (v : Value) (w : World) : (Instr.typeAssert (.iface 350 v) 235 334 true).run Tryz.prog w = .ok (.tuple #[.agg #[], .bool false]) w := by kernel_rfl
theorem ta_in_block (v : Value) (w : World) : (Instr.typeAssert (.iface 298 v) 235 95 true).run Tryz.prog w = .ok (.tuple #[.slice none 0 0, .bool false]) w := by kernel_rfl
theorem ta_in_empty (v : Value) (w : World) : (Instr.typeAssert (.iface 298 v) 235 334 true).run Tryz.prog w = .ok (.tuple #[.agg #[], .bool false]) w := by kernel_rfl
theorem ta_del_block (v : Value) (w : World) : (Instr.typeAssert (.iface 356 v) 235 95 true).run Tryz.prog w = .ok (.tuple #[.slice none 0 0, .bool false]) w := by kernel_rfl
theorem ta_del_empty (v : Value) (w : World) : (Instr.typeAssert (.iface 356 v) 235 334 true).run Tryz.prog w = .ok (.tuple #[.agg #[], .bool false]) w := by kernel_rfl
theorem own_cap {w : World} {B : Nat} {e : TypeId} {z : Nat} {po : Option Addr} {n cap : Nat} {xs : List Value} (h : w.ownsRow B e z (.slice po n cap) n xs) : n ≤ cap := by
  rcases h.2 with ⟨h1, h2⟩ | ⟨g', cap', cur, h', _, hg, hc, _⟩
  · omega
  · injection h' with _ _ e
    omega
/-- A block of the tree, made in a world in which the tree stands. -/
theorem tree_made (pb n : Nat) (V : Nat → World → Value → Prop) (hVi : ∀ i, i < n → IsIf (V i)) (Ks : Nat → Nat → World → Value → Prop) (hK : ∀ i, i < n → Keeps (Ks i)) (vss : Nat → VA) (hn0 : 0 < n) (hn : n ≤ 900) (hmk : ∀ W, (Instr.makeSlice 132 (.int .i64 n) (.int .i64 n)).run Tryz.prog W = .ok (.slice (some ⟨W.heap.size, 0, none⟩) n n) (W.alloc (.cells (Array.replicate n .nilFunc) 185))) (kb mv ma mf sg : Nat) (hlv : wT.heap.size ≤ mv) (hla : wT.heap.size ≤ ma) (b : Value) (h : BlockT pb n V wT b)
    (H : ∀ (i : Nat) e w, i < n → V i wT e → Only (fun _ => False) wT w → MadeS wT 126 kb mv ma mf sg w e (Ks i) (vss i) (vss (i + 1))) (w : World) (hT : Only (fun _ => False) wT w) : ∃ r cap, b = .slice (some ⟨r, 0, none⟩) n cap ∧ MadeS wT 91 kb mv ma mf sg w b (BlockK Ks n) (vss 0) (vss n) := by
  obtain ⟨es, hl, hr, _, hv⟩ := h
  obtain ⟨g, cap, rfl, hgl, hc⟩ := own_at hr (by omega)
  refine ⟨g, cap, rfl, ?_⟩
  subst hl
  exact made_block kb mv ma mf sg w Ks vss es hK (by omega) g cap (Nat.lt_of_lt_of_le hgl hT.size) (by omega) hmk (fun i e he => hVi i (List.getElem?_eq_some_iff.1 he).1 wT e (hv i e he)) (fun i e he => (hT.cell (p := ⟨g, i, none⟩) hgl (fun e => e)).trans (hc i e he)) (fun i e he => H i e w (List.getElem?_eq_some_iff.1 he).1 (hv i e he) hT)
/-- The inner statements are made. -/
theorem inner_made (pb kb mv ma mf sg : Nat) (hlv : wT.heap.size ≤ mv) (hla : wT.heap.size ≤ ma) : ∀ (i : Nat) (e : Value) (w : World), i < 3 → VI pb i wT e → Only (fun _ => False) wT w → MadeS wT 126 kb mv ma mf sg w e (KI i) ⟨vK, aA⟩ ⟨vK, aA⟩
  | 0, e, w, _, h, _ => by
    obtain ⟨r, rfl, u2, ⟨r2, rfl, hr2, _⟩, hr, _⟩ := h
    obtain ⟨g, cap, rfl, hgl, hc⟩ := own_at hr (by simp)
    obtain ⟨g2, cap2, rfl, hgl2, hc2⟩ := own_at hr2 (by simp)
    exact made_stmt kb mv ma mf sg w 285 _ _ (printK2_keeps (vark_keeps 8) (elemk_keeps (vark_keeps 8))) _ _ (ta_print_block _) (ta_print_empty _) (fun W hW _ => counted_print2 _ _ _ _ (VarK 8) (ElemK (VarK 8)) (vark_keeps 8) (elemk_keeps (vark_keeps 8)) ⟨vK, aA⟩ ⟨vK, aA⟩ ⟨vK, aA⟩ (makesE_name kx 41 8 ⟨vK, aA⟩ vK num_k2) (makesE_elem ax 44 _ _ (VarK 8) (vark_keeps 8) ⟨vK, aA⟩ aA ⟨vK, aA⟩ num_a2 (makesE_name kx 46 8 ⟨vK, aA⟩ vK num_k2) g2 cap2 (hc2 0 _ rfl)) kb mv ma mf sg g cap W hW ((hW.t.cell (p := ⟨g, 0, none⟩) hgl (fun e => e)).trans (hc 0 _ rfl)) ((hW.t.cell (p := ⟨g, 1, none⟩) hgl (fun e => e)).trans (hc 1 _ rfl)) (by omega))
  | 1, e, w, _, h, _ => by
    obtain rfl : e = delT ax 57 := h
    exact made_stmt kb mv ma mf sg w 356 _ _ delK_keeps _ _ (ta_del_block _) (ta_del_empty _) (made_del ax 57 ⟨vK, aA⟩ aA num_a2 kb mv ma mf sg w)
  | 2, e, w, _, h, _ => by
    obtain ⟨u, rfl, l, r, rfl, ⟨r2, rfl, hr2, _⟩, rfl⟩ := h
    obtain ⟨g2, cap2, rfl, hgl2, hc2⟩ := own_at hr2 (by simp)
    exact made_stmt kb mv ma mf sg w 350 _ _ (workK_keeps jx_keeps) _ _ (ta_work_block _) (ta_work_empty _) (made_work _ _ JX jx_keeps ⟨vK, aA⟩ ⟨vK, aA⟩ (makesE_set _ _ _ _ (ElemK (JoinK CX (VarK 8))) C1 (elemk_keeps (joink_keeps cx_keeps (vark_keeps 8))) c1_keeps ⟨vK, aA⟩ ⟨vK, aA⟩ ⟨vK, aA⟩ (makesE_elem ax 60 _ _ (JoinK CX (VarK 8)) (joink_keeps cx_keeps (vark_keeps 8)) ⟨vK, aA⟩ aA ⟨vK, aA⟩ num_a2 (makesE_join _ _ _ _ CX (VarK 8) cx_keeps (vark_keeps 8) ⟨vK, aA⟩ ⟨vK, aA⟩ ⟨vK, aA⟩ (makesE_str xx ⟨vK, aA⟩) (makesE_name kx 66 8 ⟨vK, aA⟩ vK num_k2)) g2 cap2 (hc2 0 _ rfl)) (makesE_num 1 ⟨vK, aA⟩)) kb mv ma mf sg w)
/-- The program's statements are made. -/
theorem stmts_madeE (pb kb mv ma mf sg : Nat) (hlv : wT.heap.size ≤ mv) (hla : wT.heap.size ≤ ma) : ∀ (i : Nat) (e : Value) (w : World), i < 5 → VE pb i wT e → Only (fun _ => False) wT w → MadeS wT 126 kb mv ma mf sg w e (KE i) (vssE i) (vssE (i + 1))
  | 0, e, w, _, h, _ => by
    obtain ⟨u, rfl, l, r, rfl, rfl, ⟨r2, rfl, hr2, _⟩⟩ := h
    obtain ⟨g2, cap2, rfl, hgl2, hc2⟩ := own_at hr2 (by simp [splitArgs])
    exact made_stmt kb mv ma mf sg w 350 _ _ (workK_keeps js_keeps) _ _ (ta_work_block _) (ta_work_empty _) (made_work _ _ JS js_keeps ⟨firstVs, #[]⟩ ⟨vN, aA⟩ (makesE_set _ _ _ _ (VarK 7) (SplitK (FieldK C0)) (vark_keeps 7) (splitK_keeps (fieldk_keeps c0_keeps)) ⟨firstVs, #[]⟩ ⟨vN, #[]⟩ ⟨vN, aA⟩ (makesE_name nx 2 7 ⟨firstVs, #[]⟩ vN num_n) (makesE_split _ _ ax 16 6 (FieldK C0) (fieldk_keeps c0_keeps) ⟨vN, #[]⟩ ⟨vN, #[]⟩ aA (makesE_field _ _ C0 c0_keeps ⟨vN, #[]⟩ ⟨vN, #[]⟩ (makesE_num 0 ⟨vN, #[]⟩)) num_a g2 cap2 (own_cap hr2) (hc2 0 _ rfl) (hc2 1 _ rfl) hgl2)) kb mv ma mf sg w)
  | 1, e, w, _, h, hT => by
    obtain ⟨b, rfl, hb⟩ := h
    obtain ⟨r, cap, rfl, hB⟩ := tree_made pb 3 (VI pb) (vi_if pb) KI ki_keeps (fun _ => ⟨vK, aA⟩) (by omega) (by omega) mk3 kb mv ma mf sg hlv hla b hb (fun i e w hi hv hT => inner_made pb kb mv ma mf sg hlv hla i e w hi hv hT) w hT
    exact made_stmt kb mv ma mf sg w 298 _ _ (inK_keeps kib_keeps) _ _ (ta_in_block _) (ta_in_empty _) (made_forIn kx 25 8 ax 30 (BlockK KI 3) kib_keeps ⟨vN, aA⟩ vK aA ⟨vK, aA⟩ num_k num_a2 kb mv ma mf sg r 3 cap w hB)
  | 2, e, w, _, h, _ => by
    obtain ⟨u, rfl, rfl⟩ := h
    exact made_stmt kb mv ma mf sg w 350 _ _ (workK_keeps (setk_keeps (vark_keeps 9) c0_keeps)) _ _ (ta_work_block _) (ta_work_empty _) (made_work _ _ (SetK (VarK 9) C0) (setk_keeps (vark_keeps 9) c0_keeps) ⟨vK, aA⟩ ⟨vC, aA⟩ (makesE_set _ _ _ _ (VarK 9) C0 (vark_keeps 9) c0_keeps ⟨vK, aA⟩ ⟨vC, aA⟩ ⟨vC, aA⟩ (makesE_name cx 75 9 ⟨vK, aA⟩ vC num_c) (makesE_num 0 ⟨vC, aA⟩)) kb mv ma mf sg w)
  | 3, e, w, _, h, hT => by
    obtain ⟨b, rfl, hb⟩ := h
    obtain ⟨r, cap, rfl, hB⟩ := tree_made pb 1 (fun _ => WorkT (Is addC)) (fun _ _ => work_if) (fun _ => StF (WorkK JA)) (fun _ _ => st_keeps (workK_keeps ja_keeps)) (fun _ => ⟨vC, aA⟩) (by omega) (by omega) mk1 kb mv ma mf sg hlv hla b hb (fun i e w hi hv hT => by
      obtain ⟨u, rfl, rfl⟩ := hv
      exact made_stmt kb mv ma mf sg w 350 _ _ (workK_keeps ja_keeps) _ _ (ta_work_block _) (ta_work_empty _) (made_work _ _ JA ja_keeps ⟨vC, aA⟩ ⟨vC, aA⟩ (makesE_add _ _ _ _ (VarK 9) C1 (vark_keeps 9) c1_keeps ⟨vC, aA⟩ ⟨vC, aA⟩ ⟨vC, aA⟩ (makesE_name cx 95 9 ⟨vC, aA⟩ vC num_c2) (makesE_num 1 ⟨vC, aA⟩)) kb mv ma mf sg w)) w hT
    exact made_stmt kb mv ma mf sg w 298 _ _ (inK_keeps kc_keeps) _ _ (ta_in_block _) (ta_in_empty _) (made_forIn kx 87 8 ax 92 _ kc_keeps ⟨vC, aA⟩ vC aA ⟨vC, aA⟩ num_k3 num_a2 kb mv ma mf sg r 1 cap w hB)
  | 4, e, w, _, h, _ => by
    obtain ⟨r, rfl, hr, _⟩ := h
    obtain ⟨g, cap, rfl, hgl, hc⟩ := own_at hr (by simp)
    exact made_stmt kb mv ma mf sg w 285 _ _ (printK_keeps (vark_keeps 9)) _ _ (ta_print_block _) (ta_print_empty _) (fun W hW _ => counted_printK _ _ (VarK 9) (vark_keeps 9) ⟨vC, aA⟩ ⟨vC, aA⟩ (makesE_name cx 109 9 ⟨vC, aA⟩ vC num_c2) kb mv ma mf sg g cap W hW ((hW.t.cell (p := ⟨g, 0, none⟩) hgl (fun e => e)).trans (hc 0 _ rfl)))
/-- The program's block is made. -/
theorem body_madeE (pb kb mv ma mf sg : Nat) (hlv : wT.heap.size ≤ mv) (hla : wT.heap.size ≤ ma) (b : Value) (h : BE pb wT b) (w : World) (hT : Only (fun _ => False) wT w) : ∃ r cap, b = .slice (some ⟨r, 0, none⟩) 5 cap ∧ MadeS wT 91 kb mv ma mf sg w b (BlockK KE 5) ⟨firstVs, #[]⟩ ⟨vC, aA⟩ :=
  tree_made pb 5 (VE pb) (ve_if pb) KE ke_keeps vssE (by omega) (by omega) mk5 kb mv ma mf sg hlv hla b h (fun i e w hi hv hT => stmts_madeE pb kb mv ma mf sg hlv hla i e w hi hv hT) w hT
end Go.Proofs.YtdbdbaepmdmnfaaGreatDoor

namespace Go.Proofs.YtdbdbaepmdmnfaaGreatDoor
open Go.RowKit
theorem empty_yes (L : ByteArray) (h : L.size = 0) : L.toList.isEmpty = true := by
  rw [ByteArray.toList_eq]
  have : L.data.toList = [] := List.eq_nil_of_length_eq_zero (by rw [← h]; rfl)
  rw [this]
  rfl
theorem empty_no (L : ByteArray) (h : 0 < L.size) : L.toList.isEmpty = false := by
  rw [ByteArray.toList_eq]
  have hl : 0 < L.data.toList.length := h
  cases hd : L.data.toList with
  | nil => rw [hd] at hl; simp at hl
  | cons a r => rfl
theorem ext_succ (t : ByteArray) (k : Nat) : t.extract 0 k ++ t.extract k (k + 1) = t.extract 0 (k + 1) := by
  rw [ByteArray.extract_append_extract]
  congr 1 <;> omega
theorem ext_mem (t : ByteArray) (k : Nat) (h : k < t.size) (hk : ∀ b ∈ (t.extract 0 k).data.toList, b ≠ 10) (hc : t[k] ≠ 10) : ∀ b ∈ (t.extract 0 (k + 1)).data.toList, b ≠ 10 := by
  intro b hb
  rw [← ext_succ t k, ByteArray.data_append, Array.toList_append, List.mem_append] at hb
  rcases hb with hb | hb
  · exact hk b hb
  · have : (t.extract k (k + 1)).data.toList = [t[k]] := by
      apply List.ext_getElem
      · simp
        omega
      · intro i h1 h2
        have : i = 0 := by simp at h2; omega
        subst this
        simp
        rfl
    rw [this] at hb
    simp at hb
    rw [hb]
    exact hc
end Go.Proofs.YtdbdbaepmdmnfaaGreatDoor

namespace Go.Proofs.YtdbdbaepmdmnfaaGreatDoor
open Go.RowKit
theorem dd_short (k : Nat) (hk : k ≤ 400) : (Lib.decDigits k).length ≤ 30 := by
  have := itoa_short k hk
  rwa [Lib.itoa_nonneg] at this
theorem row_or {w : World} {B : Nat} {v : Value} {L : List (List UInt8)} (h : w.ownsRow B 9 1 v L.length (strsV L)) : (L = [] ∧ ∃ ao cap, v = .slice ao 0 cap) ∨ (0 < L.length ∧ ∃ g cap, v = .slice (some ⟨g, 0, none⟩) L.length cap ∧ ∀ (i : Nat) l, L[i]? = some l → w.cell? ⟨g, i, none⟩ = some (.string (ofB l))) := by
  rcases h.2 with ⟨h1, h2⟩ | ⟨g, cap, cur, rfl, hb, hg, _⟩
  · exact Or.inl ⟨List.eq_nil_of_length_eq_zero h2, none, 0, h1⟩
  · by_cases h0 : L.length = 0
    · exact Or.inl ⟨List.eq_nil_of_length_eq_zero h0, some ⟨g, 0, none⟩, cap, by rw [h0]⟩
    · refine Or.inr ⟨by omega, g, cap, rfl, fun i l hi => ?_⟩
      have hl : i < L.length := (List.getElem?_eq_some_iff.1 hi).1
      rw [h.cellAt i (by omega)]
      simp [strsV, hi]
end Go.Proofs.YtdbdbaepmdmnfaaGreatDoor

namespace Go.Proofs.YtdbdbaepmdmnfaaGreatDoor
open Go.RowKit
/-- What each is wanted to answer, of lines. -/
def EachOK (a : Addr) : Prop := ∀ (line : ByteArray) (W : World), line.size ≤ 30 → 0 < line.size → (∀ b ∈ line.data.toList, b ≠ 10) → SentF W a → Lib.TabIs Tryz.prog W "internal/strconv.uint64pow10" .u64 Lib.pow10Tab → Calls Tryz.prog 22 #[.string line] W fun en w' => en = .returned (.bool true) ∧ Only (fun _ => False) W w'
set_option maxRecDepth 100000 in
set_option maxHeartbeats 8000000 in
theorem eachL_some (b off n cap : Nat) (hn : n ≤ 140737488355328) (a : Addr) (hF : EachOK a) (w : World) (hB : b < w.heap.size) (hO : ∀ i, i < n → OpN w b (off + i * 7)) (hse : SentF w a) (htab : Lib.TabIs Tryz.prog w "internal/strconv.uint64pow10" .u64 Lib.pow10Tab) :
    Calls Tryz.prog 7 #[.slice (some ⟨b, off, none⟩) n cap] w fun e w' => e = .returned (.bool true) ∧ Only (fun _ => False) w w' := by
  have HOp := hide hO
  have HSe := hide hse
  have HTb := hide htab
  have HF := hide hF
  clear hO hse htab hF
  go_enter Tryz.func7, Tryz.ntmps7
  go_wp2
  go_loopw [3] (fun i wr => ∃ k : Nat, k ≤ n ∧ i = .int .i64 k ∧ Only (fun _ => False) w wr) (fun i _ => n - (intOf i).toNat)
  case atStart => exact ⟨0, by omega, rfl, Only.refl _ _⟩
  case round =>
    obtain ⟨k, hk, rfl, hbw⟩ := hrel
    by_cases hlt : k < n
    · obtain ⟨K, A, B, s, t, u, ao, nn, cp, ⟨z1, z2⟩, h0, h1, h2, h3, h4, h5, h6⟩ := (HOp.out k hlt).only hbw hB
      have hk60 : (k : Int) < 1152921504606846976 := by omega
      have HB := hide hbw
      clear hbw h0 h1 h2 h3 h5 h6
      go_wp2_with fail
      go_loopw [4, 6] (fun s4 s6 w2 => ∃ (m : Nat) (L : ByteArray), m ≤ 30 ∧ m ≤ t.size ∧ s4 = .string L ∧ s6 = .int .i64 m ∧ Hid (L = t.extract 0 m ∧ ∀ b ∈ (t.extract 0 m).data.toList, b ≠ 10) ∧ w2 = wr) (fun _ s6 _ => 30 - (intOf s6).toNat)
      case atStart => exact ⟨0, ⟨#[]⟩, by omega, by omega, rfl, rfl, hide ⟨by apply ByteArray.ext; simp, fun b hb => by simp at hb⟩, rfl⟩
      case round =>
        obtain ⟨m, L, hm, hmt, rfl, rfl, HNo, rfl⟩ := hrel
        have hze : (t.extract 0 m).size = m := by rw [ByteArray.size_extract]; omega
        by_cases hgo : m < t.size ∧ m < 30 ∧ t[m]? ≠ some 10
        · obtain ⟨g1, g2, g3⟩ := hgo
          have hc : t[m] ≠ 10 := fun e => g3 (by rw [getElem?_pos t m g1, e])
          have HNo2 : Hid (∀ b ∈ (t.extract 0 (m + 1)).data.toList, b ≠ 10) := hide (ext_mem t m g1 HNo.out.2 hc)
          have hx : ((t[m].toNat : Int) == 10) = false := by
            rw [beq_eq_false_iff_ne]
            intro e
            exact hc (UInt8.toNat_inj.1 (by show _ = 10; omega))
          have hx2 : ((t[m].toNat : Int) != 10) = true := by rw [bne, hx]; rfl
          have hi1 : (m : Int) < (t.size : Int) := by omega
          have hi2 : decide ((m : Int) < 30) = true := by simp; omega
          have hi3 : (m : Int) + 1 ≤ (t.size : Int) := by omega
          obtain ⟨L2, HL2⟩ : ∃ L2, Hid (L2 = t.extract 0 (m + 1)) := ⟨_, rfl⟩
          have hadd : ∀ W, (Op.stringOp .add L (t.extract m (m + 1))).run Tryz.prog W = .ok (.string L2) W := fun W => by
            rw [HNo.out.1, HL2.out, run_string_add_sum W _ _ (by rw [hze, ByteArray.size_extract]; omega), ext_succ]
          have HM1 := hide hm
          have HM2 := hide hmt
          have HLT := hide hlt
          have HK6 := hide hk60
          have HKN := hide hk
          have HN1 := hide hn
          have HG2 := hide g2
          clear g3 hc hze hlt hk60 hk hn z1 z2 g2 hB
          go_wp2_with fail
          go_roundw
          case rel => exact ⟨m + 1, L2, by have := HG2.out; omega, by omega, rfl, by simp, hide ⟨HL2.out, HNo2.out⟩, trivial⟩
          case measure => simp [intOf]; have := HG2.out; omega
        · have HNg := hide hgo
          clear hgo
          by_cases g1 : m < t.size
          · by_cases g2 : m < 30
            · have hc : t[m] = 10 := by
                by_cases e : t[m] = 10
                · exact e
                · exact (HNg.out ⟨g1, g2, fun h => e (by rw [getElem?_pos t m g1] at h; exact Option.some.inj h)⟩).elim
              have hx : ((t[m].toNat : Int) == 10) = true := by rw [hc]; rfl
              have hx2 : ((t[m].toNat : Int) != 10) = false := by rw [hc]; rfl
              have hi1 : (m : Int) < (t.size : Int) := by omega
              have hi2 : decide ((m : Int) < 30) = true := by simp; omega
              clear hc
              have hLs : L.size = m := by rw [HNo.out.1]; exact hze
              have HS := hide hLs
              have HN6 := hide hm
              have HLT := hide hlt
              have HKN := hide hk
              clear hze z1 z2 hm hmt hB
              by_cases h0 : m = 0
              · have hemp := empty_yes L (by rw [HS.out]; exact h0)
                clear hLs h0
                go_wp2_with fail
                go_roundw
                case rel => exact ⟨k + 1, by have := HLT.out; omega, by simp, HB.out⟩
                case measure => simp [intOf]; have := HLT.out; omega
              · have hemp := empty_no L (by rw [HS.out]; omega)
                have HH := hide h0
                clear hLs h0
                go_wp2_with fail
                refine (HF.out L _ (by rw [HS.out]; exact HN6.out) (by rw [HS.out]; have := HH.out; omega) (by rw [HNo.out.1]; exact HNo.out.2) (HSe.out.only HB.out) (tab_only HTb.out HB.out)).mono ?_
                rintro en w3 ⟨rfl, ho3⟩
                have HO3 := hide (HB.out.trans ho3 (fun _ _ e => e))
                clear ho3
                go_wp2_with fail
                go_roundw
                case rel => exact ⟨k + 1, by have := HLT.out; omega, by simp, HO3.out⟩
                case measure => simp [intOf]; have := HLT.out; omega
            · have hi1 : (m : Int) < (t.size : Int) := by omega
              have hi2 : decide ((m : Int) < 30) = false := by simp; omega
              have hLs : L.size = m := by rw [HNo.out.1]; exact hze
              have HS := hide hLs
              have HN6 := hide hm
              have HLT := hide hlt
              have HKN := hide hk
              clear hze z1 z2 hm hmt hB
              by_cases h0 : m = 0
              · have hemp := empty_yes L (by rw [HS.out]; exact h0)
                clear hLs h0
                go_wp2_with fail
                go_roundw
                case rel => exact ⟨k + 1, by have := HLT.out; omega, by simp, HB.out⟩
                case measure => simp [intOf]; have := HLT.out; omega
              · have hemp := empty_no L (by rw [HS.out]; omega)
                have HH := hide h0
                clear hLs h0
                go_wp2_with fail
                refine (HF.out L _ (by rw [HS.out]; exact HN6.out) (by rw [HS.out]; have := HH.out; omega) (by rw [HNo.out.1]; exact HNo.out.2) (HSe.out.only HB.out) (tab_only HTb.out HB.out)).mono ?_
                rintro en w3 ⟨rfl, ho3⟩
                have HO3 := hide (HB.out.trans ho3 (fun _ _ e => e))
                clear ho3
                go_wp2_with fail
                go_roundw
                case rel => exact ⟨k + 1, by have := HLT.out; omega, by simp, HO3.out⟩
                case measure => simp [intOf]; have := HLT.out; omega
          · have hi1 : ¬ (m : Int) < (t.size : Int) := by omega
            have hLs : L.size = m := by rw [HNo.out.1]; exact hze
            have HS := hide hLs
            have HN6 := hide hm
            have HLT := hide hlt
            have HKN := hide hk
            clear hze z1 z2 hm hmt hB
            by_cases h0 : m = 0
            · have hemp := empty_yes L (by rw [HS.out]; exact h0)
              clear hLs h0
              go_wp2_with fail
              go_roundw
              case rel => exact ⟨k + 1, by have := HLT.out; omega, by simp, HB.out⟩
              case measure => simp [intOf]; have := HLT.out; omega
            · have hemp := empty_no L (by rw [HS.out]; omega)
              have HH := hide h0
              clear hLs h0
              go_wp2_with fail
              refine (HF.out L _ (by rw [HS.out]; exact HN6.out) (by rw [HS.out]; have := HH.out; omega) (by rw [HNo.out.1]; exact HNo.out.2) (HSe.out.only HB.out) (tab_only HTb.out HB.out)).mono ?_
              rintro en w3 ⟨rfl, ho3⟩
              have HO3 := hide (HB.out.trans ho3 (fun _ _ e => e))
              clear ho3
              go_wp2_with fail
              go_roundw
              case rel => exact ⟨k + 1, by have := HLT.out; omega, by simp, HO3.out⟩
              case measure => simp [intOf]; have := HLT.out; omega
    · go_wp2
      go_ret
      exact ⟨rfl, hbw⟩
set_option maxHeartbeats 1000000 in
theorem eachL_none (ao : Option Addr) (cap : Nat) (w : World) : Calls Tryz.prog 7 #[.slice ao 0 cap] w fun e w' => e = .returned (.bool true) ∧ Only (fun _ => False) w w' := by
  go_enter Tryz.func7, Tryz.ntmps7
  go_wp2
  go_loop [3] (fun i => i = .int .i64 0) (fun _ => 0)
  case atStart => exact rfl
  case round =>
    subst hrel
    go_wp2
    go_ret
    exact ⟨rfl, Only.refl _ _⟩
end Go.Proofs.YtdbdbaepmdmnfaaGreatDoor

namespace Go.Proofs.YtdbdbaepmdmnfaaGreatDoor
open Go.RowKit
/-- The program of Each. -/
def PE : ByteArray := ⟨#[123, 32, 110, 32, 61, 32, 115, 112, 108, 105, 116, 40, 36, 48, 44, 32, 97, 41, 59, 32, 102, 111, 114, 32, 40, 107, 32, 105, 110, 32, 97, 41, 32, 123, 32, 112, 114, 105, 110, 116, 32, 107, 44, 32, 97, 91, 107, 93, 59, 32, 100, 101, 108, 101, 116, 101, 32, 97, 59, 32, 97, 91, 34, 120, 34, 32, 107, 93, 32, 61, 32, 49, 32, 125, 32, 99, 32, 61, 32, 48, 59, 32, 102, 111, 114, 32, 40, 107, 32, 105, 110, 32, 97, 41, 32, 99, 32, 43, 61, 32, 49, 59, 32, 112, 114, 105, 110, 116, 32, 99, 32, 125]⟩
/-- A row of what it puts out. -/
def eachRow (L : List (List UInt8)) (i : Nat) : List UInt8 := Lib.decDigits (i + 1) ++ [32] ++ (if i = 0 then L.headD [] else []) ++ [10]
def eachRows (L : List (List UInt8)) (k : Nat) : List UInt8 := ((List.range k).map (eachRow L)).flatten
def outE (L : List (List UInt8)) : List UInt8 := eachRows L L.length ++ (if L = [] then [48, 10] else [49, 10])
theorem eachRows_succ (L : List (List UInt8)) (k : Nat) : eachRows L (k + 1) = eachRows L k ++ eachRow L k := by
  unfold eachRows
  rw [List.range_succ]
  simp
/-- What ran is wanted to answer of the program, of lines. -/
def RanE (a : Addr) : Prop := ∀ (line : ByteArray) (W : World), line.size ≤ 30 → 0 < line.size → (∀ b ∈ line.data.toList, b ≠ 10) → SentF W a → Lib.TabIs Tryz.prog W "internal/strconv.uint64pow10" .u64 Lib.pow10Tab → Calls Tryz.prog 18 #[.string PE, .string line, .int .i64 2000] W fun en w' => ∃ (g : Nat) (x : ByteArray) (c E : Int), en = .returned (.agg #[.slice (some ⟨g, 0, none⟩) 1 1, .int .i64 c, .int .i64 E, .int .i64 0]) ∧ w'.heap[g]? = some (.cells #[.string ⟨#[]⟩, .string x] 41 (0, 0)) ∧ ((words [] line.data.toList).length ≤ 9 → E = 0 ∧ x = ofB (outE (words [] line.data.toList))) ∧ Only (fun _ => False) W w'
set_option maxRecDepth 20000 in
set_option maxHeartbeats 4000000 in
theorem eachL_any (a : Addr) (hR : RanE a) (line : ByteArray) (w : World) (h30 : line.size ≤ 30) (h0 : 0 < line.size) (hno : ∀ b ∈ line.data.toList, b ≠ 10) (hse : SentF w a) (htab : Lib.TabIs Tryz.prog w "internal/strconv.uint64pow10" .u64 Lib.pow10Tab) :
    Calls Tryz.prog 22 #[.string line] w fun en w' => en = .returned (.bool true) ∧ Only (fun _ => False) w w' := by
  have HS := hide (split_blank line (by omega) w)
  have HR := hide (fun W (hW : Only (fun _ => False) w W) => hR line W h30 h0 hno (hse.only hW) (tab_only htab hW))
  have hf := words_few (t := line.data.toList) (by rw [lenN]; omega)
  have HF := hide hf
  clear hf hR h30 h0 hno hse htab
  go_enter Tryz.func22, Tryz.ntmps22
  go_wp2_with fail
  refine (HS.out).mono ?_
  rintro en w1 ⟨v, rfl, hown, ho1⟩
  have HO1 := hide ho1
  have HOw := hide hown
  clear ho1 hown HS
  have hfew := HF.out
  have HRw := hide (row_or HOw.out)
  clear HOw HF
  generalize words [] line.data.toList = L at *
  obtain ⟨hl30, hl61, hj61⟩ := hfew
  have HL61 := hide hl61
  clear hj61 hl61
  rcases HRw.out with ⟨hL0, ao, cap, rfl⟩ | ⟨hlp, g1, cap, rfl, hcells⟩
  · subst hL0
    go_wp2_with fail
    refine (HR.out w1 HO1.out).mono ?_
    rintro en w2 ⟨g, x, c, E, rfl, hg, hx, ho2⟩
    obtain ⟨rfl, rfl⟩ := hx (by simp)
    have ob := ho2.alloc (.cells #[.slice (some ⟨g, 0, none⟩) 1 1, .int .i64 c, .int .i64 0, .int .i64 0] 38)
    have HW := hide (HO1.out.trans ob (fun _ _ e => e))
    have r0 : (w2.alloc (.cells #[.slice (some ⟨g, 0, none⟩) 1 1, .int .i64 c, .int .i64 0, .int .i64 0] 38)).cell? ⟨w2.heap.size, 0, none⟩ = some (.slice (some ⟨g, 0, none⟩) 1 1) := cell_of (new0 w2 _) rfl
    have r2 : (w2.alloc (.cells #[.slice (some ⟨g, 0, none⟩) 1 1, .int .i64 c, .int .i64 0, .int .i64 0] 38)).cell? ⟨w2.heap.size, 2, none⟩ = some (.int .i64 0) := cell_of (new0 w2 _) rfl
    have t1 : (w2.alloc (.cells #[.slice (some ⟨g, 0, none⟩) 1 1, .int .i64 c, .int .i64 0, .int .i64 0] 38)).cell? ⟨g, 1, none⟩ = some (.string (ofB (outE []))) := past (cell_of hg rfl) _
    clear hg ho2 ob HR hx
    go_wp2_with (go_at_call 13; refine (numLaw _ _).mono ?_; rintro en w' ⟨rfl, h3⟩; subst w')
    generalize w2.alloc (.cells #[.slice (some ⟨g, 0, none⟩) 1 1, .int .i64 c, .int .i64 0, .int .i64 0] 38) = w3 at *
    go_loopw [6, 7] (fun s6 s7 wr => s6 = .string ⟨#[]⟩ ∧ s7 = .int .i64 0 ∧ wr = w3) (fun _ _ _ => 0)
    case atStart => exact ⟨rfl, rfl, rfl⟩
    case round =>
      obtain ⟨rfl, rfl, rfl⟩ := hrel
      have hcmp : ((ofB (outE [])).toList == ((⟨#[]⟩ : ByteArray) ++ ⟨#[48, 10]⟩).toList) = true := by
        have : ofB (outE []) = (⟨#[]⟩ : ByteArray) ++ ⟨#[48, 10]⟩ := rfl
        rw [this]
        simp
      go_wp2_with fail
      go_ret
      exact ⟨rfl, HW.out⟩
  · have HC := hide hcells
    clear hcells
    go_wp2_with fail
    refine (HR.out w1 HO1.out).mono ?_
    rintro en w2 ⟨g, x, c, E, rfl, hg, hx, ho2⟩
    have ob := ho2.alloc (.cells #[.slice (some ⟨g, 0, none⟩) 1 1, .int .i64 c, .int .i64 E, .int .i64 0] 38)
    have HW := hide (HO1.out.trans ob (fun _ _ e => e))
    have r0 : (w2.alloc (.cells #[.slice (some ⟨g, 0, none⟩) 1 1, .int .i64 c, .int .i64 E, .int .i64 0] 38)).cell? ⟨w2.heap.size, 0, none⟩ = some (.slice (some ⟨g, 0, none⟩) 1 1) := cell_of (new0 w2 _) rfl
    have r2 : (w2.alloc (.cells #[.slice (some ⟨g, 0, none⟩) 1 1, .int .i64 c, .int .i64 E, .int .i64 0] 38)).cell? ⟨w2.heap.size, 2, none⟩ = some (.int .i64 E) := cell_of (new0 w2 _) rfl
    have t1 : (w2.alloc (.cells #[.slice (some ⟨g, 0, none⟩) 1 1, .int .i64 c, .int .i64 E, .int .i64 0] 38)).cell? ⟨g, 1, none⟩ = some (.string x) := past (cell_of hg rfl) _
    have HC2 := hide (fun i l hi => keepC ob (HC.out i l hi))
    have HX := hide hx
    clear hg ho2 ob HR HC hx
    by_cases h9 : L.length ≤ 9
    · obtain ⟨rfl, rfl⟩ := HX.out h9
      have hk9 : ¬ (9 : Int) < (L.length : Int) := by omega
      have HH := hide (dd_short)
      obtain ⟨l0, hl0⟩ : ∃ l, L[0]? = some l := ⟨L[0], List.getElem?_eq_getElem hlp⟩
      have c00 := HC2.out 0 l0 hl0
      have hhd : L.headD [] = l0 := by
        cases L with
        | nil => simp at hlp
        | cons b r => simp at hl0; exact hl0
      have hl0l : l0.length ≤ 61 := by
        have h1 := linesOf_take L 1
        have : linesOf (L.take 1) = l0 ++ [10] := by
          cases L with
          | nil => simp at hlp
          | cons b r => simp at hl0; subst hl0; simp [linesOf]
        rw [this] at h1
        have := HL61.out
        simp only [List.length_append, List.length_cons, List.length_nil] at h1
        omega
      have HHd := hide hhd
      have HL0 := hide hl0l
      clear hhd hl0l hl0 HC2
      go_wp2_with (go_at_call 13; refine (numLaw _ _).mono ?_; rintro en w' ⟨rfl, h3⟩; subst w')
      generalize (w2.alloc (.cells #[.slice (some ⟨g, 0, none⟩) 1 1, .int .i64 c, .int .i64 0, .int .i64 0] 38)) = w3 at *
      have HRows : Hid (∀ k, k ≤ L.length → (eachRows L k).length ≤ 100 * k) := hide (fun k hk => by
        induction k with
        | zero => simp [eachRows]
        | succ k ih =>
          rw [eachRows_succ, List.length_append]
          have h1 := ih (by omega)
          have h2 : (eachRow L k).length ≤ 100 := by
            unfold eachRow
            have := HH.out (k + 1) (by omega)
            have := HL0.out
            simp only [List.length_append, List.length_cons, List.length_nil]
            split
            · rw [HHd.out]; omega
            · simp; omega
          omega)
      go_loopw [6, 7] (fun s6 s7 wr => ∃ (k : Nat) (S : ByteArray), k ≤ L.length ∧ s7 = .int .i64 k ∧ s6 = .string S ∧ Hid (S = ofB (eachRows L k)) ∧ Hid (Only (fun _ => False) w3 wr)) (fun _ s7 _ => L.length - (intOf s7).toNat)
      case atStart => exact ⟨0, ⟨#[]⟩, by omega, rfl, rfl, hide rfl, hide (Only.refl _ _)⟩
      case round =>
        obtain ⟨k, S, hk, rfl, rfl, HSk, HOr⟩ := hrel
        have q0 := keepC HOr.out r0
        have q2 := keepC HOr.out r2
        have q1 := keepC HOr.out t1
        have q00 := keepC HOr.out c00
        have hSz : S.size ≤ 1000 := by rw [HSk.out, ofB_sizeR]; have := HRows.out k hk; omega
        have HSz := hide hSz
        clear hSz
        by_cases hlt : k < L.length
        · have HDg := hide (fun W => digits_any (k + 1 + 1) (k + 1) (Nat.lt_succ_self _) (by omega) W)
          have hki : (k : Int) < (L.length : Int) := by omega
          have hdd := HH.out (k + 1) (by omega)
          obtain ⟨S1, HS1⟩ : ∃ S1, Hid (S1 = S ++ ofB (Lib.decDigits (k + 1))) := ⟨_, hide rfl⟩
          obtain ⟨S2, HS2⟩ : ∃ S2, Hid (S2 = S1 ++ ⟨#[32]⟩) := ⟨_, hide rfl⟩
          have z1 : S1.size ≤ 1030 := by rw [HS1.out, ByteArray.size_append, ofB_sizeR]; have := HSz.out; omega
          have z2 : S2.size ≤ 1031 := by rw [HS2.out, ByteArray.size_append]; have : (⟨#[32]⟩ : ByteArray).size = 1 := rfl; omega
          have ha1 : ∀ W, (Op.stringOp .add S (ofB (Lib.decDigits (k + 1)))).run Tryz.prog W = .ok (.string S1) W := fun W => by
            rw [HS1.out]
            exact run_string_add_sum W _ _ (by rw [ofB_sizeR]; have := HSz.out; omega)
          have ha2 : ∀ W, (Op.stringOp .add S1 ⟨#[32]⟩).run Tryz.prog W = .ok (.string S2) W := fun W => by
            rw [HS2.out]
            exact run_string_add_sum W _ _ (by have : (⟨#[32]⟩ : ByteArray).size = 1 := rfl; omega)
          have HLt := hide hlt
          have HZ2 := hide z2
          clear hdd z1 z2 hlt
          by_cases h0 : k = 0
          · subst h0
            obtain ⟨S3, HS3⟩ : ∃ S3, Hid (S3 = S2 ++ ofB l0) := ⟨_, hide rfl⟩
            obtain ⟨S4, HS4⟩ : ∃ S4, Hid (S4 = S3 ++ ⟨#[10]⟩) := ⟨_, hide rfl⟩
            have ha3 : ∀ W, (Op.stringOp .add S2 (ofB l0)).run Tryz.prog W = .ok (.string S3) W := fun W => by
              rw [HS3.out]
              exact run_string_add_sum W _ _ (by rw [ofB_sizeR]; have := HZ2.out; have := HL0.out; omega)
            have ha4 : ∀ W, (Op.stringOp .add S3 ⟨#[10]⟩).run Tryz.prog W = .ok (.string S4) W := fun W => by
              rw [HS4.out]
              exact run_string_add_sum W _ _ (by rw [HS3.out, ByteArray.size_append, ofB_sizeR]; have := HZ2.out; have := HL0.out; have : (⟨#[10]⟩ : ByteArray).size = 1 := rfl; omega)
            go_wp2_with (go_at_call 19; refine (HDg.out _).mono ?_; rintro en w5 ⟨rfl, ho5⟩; have u00 := keepC ho5 q00; have HO5 := hide (HOr.out.trans ho5 (fun _ _ e => e)); clear ho5)
            go_roundw
            case rel => exact ⟨1, S4, by have := HLt.out; omega, by simp, rfl, hide (by
              rw [HS4.out, HS3.out, HS2.out, HS1.out, HSk.out, eachRows_succ]
              unfold eachRow
              rw [if_pos rfl, HHd.out]
              show ofB _ ++ ofB _ ++ ofB [32] ++ ofB l0 ++ ofB [10] = _
              rw [ofB_appendR, ofB_appendR, ofB_appendR, ofB_appendR]
              simp), HO5⟩
            case measure => simp [intOf]; have := HLt.out; omega
          · obtain ⟨S4, HS4⟩ : ∃ S4, Hid (S4 = S2 ++ ⟨#[10]⟩) := ⟨_, hide rfl⟩
            have ha4 : ∀ W, (Op.stringOp .add S2 ⟨#[10]⟩).run Tryz.prog W = .ok (.string S4) W := fun W => by
              rw [HS4.out]
              exact run_string_add_sum W _ _ (by have := HZ2.out; have : (⟨#[10]⟩ : ByteArray).size = 1 := rfl; omega)
            have hkz : ((k : Int) == 0) = false := by rw [beq_eq_false_iff_ne]; omega
            have HK0 := hide h0
            clear h0
            go_wp2_with (go_at_call 19; refine (HDg.out _).mono ?_; rintro en w5 ⟨rfl, ho5⟩; have HO5 := hide (HOr.out.trans ho5 (fun _ _ e => e)); clear ho5)
            go_roundw
            case rel => exact ⟨k + 1, S4, by have := HLt.out; omega, by simp, rfl, hide (by
              rw [HS4.out, HS2.out, HS1.out, HSk.out, eachRows_succ]
              unfold eachRow
              rw [if_neg HK0.out]
              show ofB _ ++ ofB _ ++ ofB [32] ++ ofB [10] = _
              rw [ofB_appendR, ofB_appendR, ofB_appendR]
              simp), HO5⟩
            case measure => simp [intOf]; have := HLt.out; omega
        · obtain rfl : k = L.length := by omega
          have hne : ¬ ((L.length : Int) = 0) := by omega
          obtain ⟨S4, HS4⟩ : ∃ S4, Hid (S4 = S ++ ⟨#[49, 10]⟩) := ⟨_, hide rfl⟩
          have ha4 : ∀ W, (Op.stringOp .add S ⟨#[49, 10]⟩).run Tryz.prog W = .ok (.string S4) W := fun W => by
            rw [HS4.out]
            exact run_string_add_sum W _ _ (by have := HSz.out; have : (⟨#[49, 10]⟩ : ByteArray).size = 2 := rfl; omega)
          have hcmp : ((ofB (outE L)).toList == S4.toList) = true := by
            have : ofB (outE L) = S4 := by
              rw [HS4.out, HSk.out]
              show _ = ofB _ ++ ofB [49, 10]
              rw [ofB_appendR]
              unfold outE
              rw [if_neg (fun e => by rw [e] at hlp; simp at hlp)]
            rw [this]
            simp
          clear hlt hk
          go_wp2_with fail
          go_ret
          exact ⟨rfl, HW.out.trans HOr.out (fun _ _ e => e)⟩
    · have hk9 : (9 : Int) < (L.length : Int) := by omega
      clear HX
      go_wp2_with (go_at_call 13; refine (numLaw _ _).mono ?_; rintro en w' ⟨rfl, h3⟩; subst w')
      go_ret
      exact ⟨rfl, HW.out⟩
theorem eachOK (a : Addr) (hR : RanE a) : EachOK a := fun line W h30 h0 hno hse htab => eachL_any a hR line W h30 h0 hno hse htab
end Go.Proofs.YtdbdbaepmdmnfaaGreatDoor

namespace Go.Proofs.YtdbdbaepmdmnfaaGreatDoor
open Go.RowKit
theorem ofB_appE (a b : List UInt8) : ofB a ++ ofB b = ofB (a ++ b) := by
  apply ByteArray.ext
  simp [ofB]
theorem ofB_lenE (l : List UInt8) : (ofB l).size = l.length := by
  show l.toArray.size = _
  simp
theorem ofB_nlE (o x : List UInt8) : ofB o ++ (ofB x ++ ⟨#[10]⟩) = ofB (o ++ x ++ [10]) := by
  rw [show (⟨#[10]⟩ : ByteArray) = ofB [10] from rfl, ofB_appE, ofB_appE, List.append_assoc]
/-- The variables of Each's run: NF, n, k, c. -/
def csE (nf : Nat) (a7 n7 k8 : Int) (t8 : ByteArray) (a9 n9 : Int) : List Value := [.int .i64 1, .int .i64 1, .string ⟨#[]⟩, .int .i64 1, .int .i64 nf, .string ⟨#[]⟩, .int .i64 2, .int .i64 0, .string ⟨#[32]⟩, .int .i64 2, .int .i64 0, .string ⟨#[32]⟩, .int .i64 2, .int .i64 0, .string ⟨#[10]⟩, .int .i64 1, .int .i64 0, .string ⟨#[]⟩, .int .i64 1, .int .i64 (-1), .string ⟨#[]⟩, .int .i64 a7, .int .i64 n7, .string ⟨#[]⟩, .int .i64 k8, .int .i64 0, .string t8, .int .i64 a9, .int .i64 n9, .string ⟨#[]⟩]
def stE (txt : ByteArray) (nf : Nat) (a7 n7 k8 : Int) (t8 : ByteArray) (a9 n9 : Int) (A : AL) (o : List UInt8) (f : Nat) : St8 := ⟨txt, csE nf a7 n7 k8 t8 a9 n9, A, ofB o, f⟩
theorem var_y {k B : Nat} {w : World} {x y : Value} (hv : VarK k B w (.agg #[x, y])) : ∃ F2 c2, y = .func (.func F2) #[] c2 := by
  obtain ⟨g, nb, e, _⟩ := hv
  exact ⟨_, _, (agg_two e).2⟩
theorem text_on (p : Pl8) (s : St8) (k n : Int) (t : ByteArray) (hk : (k == 1) = false) (W : World) (_ : On8 p s W) : Calls Tryz.prog 235 #[.agg #[.int .i64 k, .int .i64 n, .string t]] W fun en w' => en = .returned (.string t) ∧ Only (fun _ => False) W w' :=
  (text_any k n t W hk).mono (fun _ _ h => ⟨h.1, Only.ofBelow h.2 (fun _ => False)⟩)
theorem rdK_neE (t : ByteArray) : (rdK t == 1) = false := by unfold rdK; split <;> rfl
theorem words_fewE {t : List UInt8} (ht : t.length ≤ 30) : (words [] t).length ≤ 15 ∧ ∀ x ∈ words [] t, x.length ≤ 30 := by
  have h1 := words_lines [] t
  have h2 := twice_lines _ (words_ne [] t)
  simp at h1
  refine ⟨by omega, fun x hx => ?_⟩
  have : x.length + 1 ≤ (linesOf (words [] t)).length := by
    have : ∀ (L : List (List UInt8)), x ∈ L → x.length + 1 ≤ (linesOf L).length := fun L hL => by
      induction L with
      | nil => cases hL
      | cons a L ih =>
        simp only [List.mem_cons] at hL
        simp [linesOf] at ih ⊢
        rcases hL with rfl | hL
        · omega
        · have := ih hL
          omega
    exact this _ hx
  omega
/-- n = split($0, a). -/
theorem does_split (p : Pl8) (t : List UInt8) (ht : t.length ≤ 30) (nf : Nat) (a7 n7 k8 : Int) (t8 : ByteArray) (a9 n9 : Int) (A : AL) (hA : A.length ≤ 100) (o : List UInt8) (f : Nat) (hf : f ≤ 100000) (B : Nat) (v : Value) (h : StF (WorkK JS) B p.wN v) : Does p (stE (ofB t) nf a7 n7 k8 t8 a9 n9 A o (f + 1)) (stE (ofB t) nf 1 (words [] t).length k8 t8 a9 n9 (splitA (words [] t)) o f) v := by
  refine does_step p (stE (ofB t) nf a7 n7 k8 t8 a9 n9 A o f) _ f hf B (WorkK JS) v h (fun x hx => ?_)
  obtain ⟨h1, h2⟩ := words_fewE ht
  have hts : (ofB t).size ≤ 500 := by rw [ofB_lenE]; omega
  refine does_work p _ _ B JS x (.agg #[.int .i64 1, .int .i64 (words [] t).length, .string ⟨#[]⟩]) hx (fun x y hj => ?_)
  obtain ⟨lb, rb, x1, y1, x2, y2, e, _, hl, hr, hi, hj⟩ := hj
  obtain ⟨rfl, rfl⟩ := agg_two e
  have hW := works_split p (stE (ofB t) nf a7 n7 k8 t8 a9 n9 A o f) (FieldK C0) B x2 y2 hj (ofB t) hts h1 (fun x hx => by have := h2 x hx; omega) hA (rdK (ofB t)) (rdN (ofB t)) (ofB t) (fun x y hf => gives_field p _ C0 B x y hf 0 (by omega) 1 (by decide) ⟨#[]⟩ (fun x' y' hc => gives_num p _ B 0 x' y' hc) _ _ _ (takes_rec p (stE (ofB t) nf a7 n7 k8 t8 a9 n9 A o f) hts)) (text_on p _ _ _ _ (rdK_neE _)) rfl rfl rfl
  exact works_setW p _ _ _ 308 310 3 #[.int .i64 7] (Or.inl rfl) lb rb x1 y1 x2 y2 1 (words [] t).length ⟨#[]⟩ hl hr (finds_var p _ 7 B x1 y1 hi) hW (stores_var p _ 7 (by omega) (by omega) 1 (words [] t).length ⟨#[]⟩ _ _ _ rfl rfl rfl)
/-- c = 0. -/
theorem does_c0 (p : Pl8) (txt : ByteArray) (nf : Nat) (a7 n7 k8 : Int) (t8 : ByteArray) (a9 n9 : Int) (A : AL) (o : List UInt8) (f : Nat) (hf : f ≤ 100000) (B : Nat) (v : Value) (h : StF (WorkK (SetK (VarK 9) C0)) B p.wN v) : Does p (stE txt nf a7 n7 k8 t8 a9 n9 A o (f + 1)) (stE txt nf a7 n7 k8 t8 1 0 A o f) v := by
  refine does_step p (stE txt nf a7 n7 k8 t8 a9 n9 A o f) _ f hf B _ v h (fun x hx => ?_)
  refine does_work p _ _ B _ x (.agg #[.int .i64 1, .int .i64 0, .string ⟨#[]⟩]) hx (fun x y hj => ?_)
  obtain ⟨lb, rb, x1, y1, x2, y2, e, _, hl, hr, hi, hj⟩ := hj
  obtain ⟨rfl, rfl⟩ := agg_two e
  exact works_setG p _ _ 308 310 3 #[.int .i64 9] (Or.inl rfl) lb rb x1 y1 x2 y2 1 0 ⟨#[]⟩ hl hr (finds_var p _ 9 B x1 y1 hi) (gives_num p _ B 0 x2 y2 hj) (stores_var p _ 9 (by omega) (by omega) 1 0 ⟨#[]⟩ _ _ _ rfl rfl rfl)
/-- c += 1. -/
theorem does_c1 (p : Pl8) (txt : ByteArray) (nf : Nat) (a7 n7 k8 : Int) (t8 : ByteArray) (c : Nat) (hc : c ≤ 1000) (A : AL) (o : List UInt8) (f : Nat) (hf : f ≤ 100000) (B : Nat) (v : Value) (h : StF (WorkK JA) B p.wN v) : Does p (stE txt nf a7 n7 k8 t8 1 c A o (f + 1)) (stE txt nf a7 n7 k8 t8 1 ((c + 1 : Nat) : Int) A o f) v := by
  refine does_step p (stE txt nf a7 n7 k8 t8 1 c A o f) _ f hf B _ v h (fun x hx => ?_)
  refine does_work p _ _ B _ x (.agg #[.int .i64 1, .int .i64 ((c : Int) + ((1 : Nat) : Int)), .string ⟨#[]⟩]) hx (fun x y hj => ?_)
  obtain ⟨lb, rb, kb, ob, x1, y1, x2, y2, e, _, hl, hr, hk, ho, hi, hj⟩ := hj
  obtain ⟨rfl, rfl⟩ := agg_two e
  have := works_addG p (stE txt nf a7 n7 k8 t8 1 c A o f) (stE txt nf a7 n7 k8 t8 1 ((c + 1 : Nat) : Int) A o f) 308 310 3 #[.int .i64 9] lb rb kb ob x1 y1 x2 y2 c 1 (by omega) (by omega) ⟨#[]⟩ ⟨#[]⟩ hl hr hk ho (finds_var p _ 9 B x1 y1 hi) (takes_var p _ 9 (by omega) 1 c ⟨#[]⟩ rfl rfl rfl) (gives_num p _ B 1 x2 y2 hj) (stores_var p _ 9 (by omega) (by omega) 1 _ ⟨#[]⟩ _ _ _ rfl rfl rfl)
  exact this
/-- print c. -/
theorem does_pc (p : Pl8) (htab : Lib.TabIs Tryz.prog p.wN "internal/strconv.uint64pow10" .u64 Lib.pow10Tab) (txt : ByteArray) (nf : Nat) (a7 n7 k8 : Int) (t8 : ByteArray) (c : Nat) (hc : c ≤ 9) (A : AL) (o : List UInt8) (ho : o.length ≤ 3000) (f : Nat) (hf : f ≤ 100000) (B : Nat) (v : Value) (h : StF (PrintK (VarK 9)) B p.wN v) : Does p (stE txt nf a7 n7 k8 t8 1 c A o (f + 1)) (stE txt nf a7 n7 k8 t8 1 c A (o ++ Lib.decDigits c ++ [10]) f) v := by
  refine does_step p (stE txt nf a7 n7 k8 t8 1 c A o f) _ f hf B _ v h (fun x hx => ?_)
  have hi : (Lib.itoa (c : Int)) = Lib.decDigits c := Lib.itoa_nonneg c
  have hl : (Lib.decDigits c).length ≤ 2 := by rw [dec_dd (by omega)]; unfold dd; split <;> simp
  have := does_print p (stE txt nf a7 n7 k8 t8 1 c A o f) B (VarK 9) x hx 1 c ⟨#[]⟩ (ofB (Lib.decDigits c)) (fun x y hv => ⟨gives_var p _ 9 B x y hv (by omega) 1 c ⟨#[]⟩ rfl rfl rfl, var_y hv⟩) (fun W hW => by
      have := text_num c (by omega) ⟨#[]⟩ W (tab_only htab hW.O)
      rw [hi] at this
      exact this) (by rw [ofB_lenE]; omega) (by show (ofB o).size + _ + 1 ≤ 4000; rw [ofB_lenE, ofB_lenE]; omega) rfl rfl rfl rfl rfl rfl
  have e : (stE txt nf a7 n7 k8 t8 1 c A (o ++ Lib.decDigits c ++ [10]) f) = { stE txt nf a7 n7 k8 t8 1 c A o f with out := (stE txt nf a7 n7 k8 t8 1 c A o f).out ++ (ofB (Lib.decDigits c) ++ ⟨#[10]⟩) } := by
    show _ = St8.mk txt (csE nf a7 n7 k8 t8 1 c) A (ofB o ++ (ofB (Lib.decDigits c) ++ ⟨#[10]⟩)) f
    rw [ofB_nlE]
    rfl
  rw [e]
  exact this
end Go.Proofs.YtdbdbaepmdmnfaaGreatDoor

namespace Go.Proofs.YtdbdbaepmdmnfaaGreatDoor
open Go.RowKit
theorem elem_y {I : Nat → World → Value → Prop} {B : Nat} {w : World} {x y : Value} (hv : ElemK I B w (.agg #[x, y])) : ∃ F2 c2, y = .func (.func F2) #[] c2 := by
  obtain ⟨g, kq, z, e, _⟩ := hv
  exact ⟨_, _, (agg_two e).2⟩
/-- print k, a[k]. -/
theorem does_pk (p : Pl8) (txt : ByteArray) (nf : Nat) (a7 n7 a9 n9 : Int) (s : List UInt8) (hs : s.length ≤ 10) (A A' : AL) (a n : Int) (ha : (a == 1) = false) (u : List UInt8) (hu : u.length ≤ 30) (o : List UInt8) (ho : o.length ≤ 3000) (f : Nat) (hf : f ≤ 100000) (hT : TakesW p (stE txt nf a7 n7 2 (ofB s) a9 n9 A o f) (stE txt nf a7 n7 2 (ofB s) a9 n9 A' o f) 313 448 #[.int .i64 0, .string (ofB s)] a n (ofB u)) (B : Nat) (v : Value) (h : StF (PrintK2 (VarK 8) (ElemK (VarK 8))) B p.wN v) : Does p (stE txt nf a7 n7 2 (ofB s) a9 n9 A o (f + 1)) (stE txt nf a7 n7 2 (ofB s) a9 n9 A' (o ++ (s ++ [32] ++ u ++ [10])) f) v := by
  refine does_step p (stE txt nf a7 n7 2 (ofB s) a9 n9 A o f) _ f hf B _ v h (fun x hx => ?_)
  have hg : ∀ x y, VarK 8 B p.wN (.agg #[x, y]) → Gives p (stE txt nf a7 n7 2 (ofB s) a9 n9 A o f) x (.agg #[.int .i64 2, .int .i64 0, .string (ofB s)]) ∧ ∃ F2 c2, y = .func (.func F2) #[] c2 := fun x y hv => ⟨gives_var p _ 8 B x y hv (by omega) 2 0 (ofB s) rfl rfl rfl, var_y hv⟩
  have hsz : (ofB s).size ≤ 10 := by rw [ofB_lenE]; exact hs
  have huz : (ofB u).size ≤ 30 := by rw [ofB_lenE]; exact hu
  have := does_print2 p (stE txt nf a7 n7 2 (ofB s) a9 n9 A o f) (stE txt nf a7 n7 2 (ofB s) a9 n9 A' o f) B (VarK 8) (ElemK (VarK 8)) x hx 2 0 a n (ofB s) (ofB u) (ofB s) (ofB u) hg (fun x y he => ⟨works_elem p _ _ (VarK 8) B x y he (ofB s) (fun z hz => key_do p _ B (VarK 8) z hz 2 0 (ofB s) (ofB s) (by omega) hg (text_on p _ 2 0 (ofB s) rfl)) a n (ofB u) hT, elem_y he⟩) (text_on p _ 2 0 (ofB s) rfl) (text_on p _ a n (ofB u) ha) (by omega) (by show (ofB o).size + _ + 1 ≤ 4000; rw [ofB_lenE]; omega) rfl rfl rfl rfl rfl rfl
  have e : (stE txt nf a7 n7 2 (ofB s) a9 n9 A' (o ++ (s ++ [32] ++ u ++ [10])) f) = { stE txt nf a7 n7 2 (ofB s) a9 n9 A' o f with out := (stE txt nf a7 n7 2 (ofB s) a9 n9 A' o f).out ++ (ofB ((ofB s).data.toList ++ [32] ++ (ofB u).data.toList) ++ ⟨#[10]⟩) } := by
    show _ = St8.mk txt (csE nf a7 n7 2 (ofB s) a9 n9) A' (ofB o ++ (ofB (s ++ [32] ++ u) ++ ⟨#[10]⟩)) f
    rw [ofB_nlE, show o ++ (s ++ [32] ++ u) ++ [10] = o ++ (s ++ [32] ++ u ++ [10]) by simp]
    rfl
  rw [e]
  exact this
/-- delete a. -/
theorem does_da (p : Pl8) (txt : ByteArray) (nf : Nat) (a7 n7 k8 : Int) (t8 : ByteArray) (a9 n9 : Int) (A : AL) (hA : A.length ≤ 100) (o : List UInt8) (f : Nat) (hf : f ≤ 100000) (B : Nat) (v : Value) (h : StF DelK B p.wN v) : Does p (stE txt nf a7 n7 k8 t8 a9 n9 A o (f + 1)) (stE txt nf a7 n7 k8 t8 a9 n9 [] o f) v :=
  does_step p (stE txt nf a7 n7 k8 t8 a9 n9 A o f) _ f hf B _ v h (fun x hx => does_del p (stE txt nf a7 n7 k8 t8 a9 n9 A o f) B x hx hA)
/-- a["x" k] = 1. -/
theorem does_ax (p : Pl8) (txt : ByteArray) (nf : Nat) (a7 n7 a9 n9 : Int) (s : List UInt8) (hs : s.length ≤ 10) (o : List UInt8) (f : Nat) (hf : f ≤ 100000) (B : Nat) (v : Value) (h : StF (WorkK JX) B p.wN v) : Does p (stE txt nf a7 n7 2 (ofB s) a9 n9 [] o (f + 1)) (stE txt nf a7 n7 2 (ofB s) a9 n9 [(xx ++ ofB s, 1, 1, ⟨#[]⟩)] o f) v := by
  refine does_step p (stE txt nf a7 n7 2 (ofB s) a9 n9 [] o f) _ f hf B _ v h (fun x hx => ?_)
  refine does_work p _ _ B _ x (.agg #[.int .i64 1, .int .i64 1, .string ⟨#[]⟩]) hx (fun x y hj => ?_)
  obtain ⟨lb, rb, x1, y1, x2, y2, e, _, hl, hr, hi, hj⟩ := hj
  obtain ⟨rfl, rfl⟩ := agg_two e
  have hsz : (ofB s).size ≤ 10 := by rw [ofB_lenE]; exact hs
  have hxx : xx.size = 1 := rfl
  have hsum : (xx ++ ofB s).size ≤ 11 := by rw [ByteArray.size_append]; omega
  have hj2 : ∀ x y, JoinK CX (VarK 8) B p.wN (.agg #[x, y]) → Gives p (stE txt nf a7 n7 2 (ofB s) a9 n9 [] o f) x (.agg #[.int .i64 2, .int .i64 0, .string (xx ++ ofB s)]) ∧ y = .nilFunc := fun x y hj => gives_join p _ CX (VarK 8) B x y hj 2 0 2 0 xx (ofB s) xx (ofB s) (fun x y hc => gives_str p _ B xx x y hc) (fun x y hv => gives_var p _ 8 B x y hv (by omega) 2 0 (ofB s) rfl rfl rfl) (text_on p _ 2 0 xx rfl) (text_on p _ 2 0 (ofB s) rfl) (by omega)
  exact works_setG p _ _ 313 315 448 #[.int .i64 0, .string (xx ++ ofB s)] (Or.inr rfl) lb rb x1 y1 x2 y2 1 1 ⟨#[]⟩ hl hr (finds_elem p _ (JoinK CX (VarK 8)) B x1 y1 hi (xx ++ ofB s) (fun z hz => key_doN p _ B (JoinK CX (VarK 8)) z hz 2 0 (xx ++ ofB s) (xx ++ ofB s) (by omega) hj2 (text_on p _ 2 0 _ rfl))) (gives_num p _ B 1 x2 y2 hj) (stores_elem p (stE txt nf a7 n7 2 (ofB s) a9 n9 [] o f) (xx ++ ofB s) (1, 1, ⟨#[]⟩) (by omega) (fun q hq => by cases hq) (by show (0 : Nat) ≤ 100; omega))
/-- A round of the first loop: the three statements. -/
theorem does_round (p : Pl8) (txt : ByteArray) (nf : Nat) (a7 n7 a9 n9 : Int) (s : List UInt8) (hs : s.length ≤ 10) (A A' : AL) (hA' : A'.length ≤ 100) (a n : Int) (ha : (a == 1) = false) (u : List UInt8) (hu : u.length ≤ 30) (o : List UInt8) (ho : o.length ≤ 3000) (f : Nat) (hf : f ≤ 50000) (hT : ∀ f, TakesW p (stE txt nf a7 n7 2 (ofB s) a9 n9 A o f) (stE txt nf a7 n7 2 (ofB s) a9 n9 A' o f) 313 448 #[.int .i64 0, .string (ofB s)] a n (ofB u)) (B : Nat) (v : Value) (h : BlockK KI 3 B p.wN v) : Does p (stE txt nf a7 n7 2 (ofB s) a9 n9 A o (f + 3)) (stE txt nf a7 n7 2 (ofB s) a9 n9 [(xx ++ ofB s, 1, 1, ⟨#[]⟩)] (o ++ (s ++ [32] ++ u ++ [10])) f) v := by
  have := does_block p (fun i => match i with
    | 0 => stE txt nf a7 n7 2 (ofB s) a9 n9 A o (f + 3)
    | 1 => stE txt nf a7 n7 2 (ofB s) a9 n9 A' (o ++ (s ++ [32] ++ u ++ [10])) (f + 2)
    | 2 => stE txt nf a7 n7 2 (ofB s) a9 n9 [] (o ++ (s ++ [32] ++ u ++ [10])) (f + 1)
    | _ => stE txt nf a7 n7 2 (ofB s) a9 n9 [(xx ++ ofB s, 1, 1, ⟨#[]⟩)] (o ++ (s ++ [32] ++ u ++ [10])) f) B 3 (by omega) KI v h (fun i x hi hk => by
      have hcc : i = 0 ∨ i = 1 ∨ i = 2 := by omega
      rcases hcc with rfl | rfl | rfl
      · exact does_pk p txt nf a7 n7 a9 n9 s hs A A' a n ha u hu o ho (f + 2) (by omega) (hT _) B x hk
      · exact does_da p txt nf a7 n7 2 (ofB s) a9 n9 A' hA' _ (f + 1) (by omega) B x hk
      · exact does_ax p txt nf a7 n7 a9 n9 s hs _ f (by omega) B x hk)
  exact this
end Go.Proofs.YtdbdbaepmdmnfaaGreatDoor

namespace Go.Proofs.YtdbdbaepmdmnfaaGreatDoor
open Go.RowKit
/-- A key of what split has made. -/
theorem key_in (L : List (List UInt8)) (i : Nat) (s : List UInt8) (h : (sortedKeys (splitA L))[i]? = some s) : ∃ j x, L[j]? = some x ∧ s = Lib.decDigits (j + 1) ∧ (splitA L)[j]? = some (ofB s, rdK (ofB x), rdN (ofB x), ofB x) := by
  have hm := List.mem_of_getElem? h
  unfold sortedKeys at hm
  rw [List.mem_mergeSort] at hm
  obtain ⟨q, hq, rfl⟩ := List.mem_map.1 hm
  obtain ⟨j, hj⟩ := List.getElem?_of_mem hq
  have hj2 := hj
  unfold splitA at hj2
  rw [List.getElem?_map, List.getElem?_zipIdx] at hj2
  cases hx : L[j]? with
  | none => rw [hx] at hj2; simp at hj2
  | some x =>
    rw [hx] at hj2
    simp at hj2
    subst hj2
    exact ⟨j, x, hx, by simp [ofB], by rw [hj]; simp [ofB]⟩
theorem dd_small : ∀ j : Fin 15, (dd (j.val + 1)).length ≤ 2 ∧ (dd (j.val + 1)).head? ≠ some 120 := by decide
theorem key_facts (L : List (List UInt8)) (hL : L.length ≤ 15) (i : Nat) (s : List UInt8) (h : (sortedKeys (splitA L))[i]? = some s) : s.length ≤ 2 ∧ s.head? ≠ some 120 := by
  obtain ⟨j, x, hx, rfl, _⟩ := key_in L i s h
  have hj : j < L.length := (List.getElem?_eq_some_iff.1 hx).1
  rw [dec_dd (by omega)]
  exact dd_small ⟨j, by omega⟩
theorem keys_len (A : AL) : (sortedKeys A).length = A.length := by simp [sortedKeys, List.length_mergeSort]
/-- What the first loop puts out: i rows of it. -/
def rowsK (ks : List (List UInt8)) (u0 : List UInt8) (i : Nat) : List UInt8 := ((List.range i).map (fun i => ks.getD i [] ++ [32] ++ (if i = 0 then u0 else []) ++ [10])).flatten
theorem rowsK_succ (ks : List (List UInt8)) (u0 : List UInt8) (i : Nat) : rowsK ks u0 (i + 1) = rowsK ks u0 i ++ (ks.getD i [] ++ [32] ++ (if i = 0 then u0 else []) ++ [10]) := by
  simp [rowsK, List.range_succ]
theorem rowsK_len (ks : List (List UInt8)) (u0 : List UInt8) (hu : u0.length ≤ 30) (hk : ∀ s ∈ ks, s.length ≤ 2) : ∀ i, (rowsK ks u0 i).length ≤ i * 40
  | 0 => by simp [rowsK]
  | i + 1 => by
    have h := rowsK_len ks u0 hu hk i
    have hg : (ks.getD i []).length ≤ 2 := by
      rw [List.getD_eq_getElem?_getD]
      cases hx : ks[i]? with
      | none => simp
      | some s => simpa using hk s (List.mem_of_getElem? hx)
    rw [rowsK_succ]
    simp only [List.length_append, List.length_cons, List.length_nil]
    split
    · omega
    · simp only [List.length_nil]; omega
def kK (i : Nat) : Int := if i = 0 then 0 else 2
def kT (ks : List (List UInt8)) (i : Nat) : ByteArray := if i = 0 then ⟨#[]⟩ else ofB (ks.getD (i - 1) [])
def aE (L : List (List UInt8)) (ks : List (List UInt8)) (i : Nat) : AL := if i = 0 then splitA L else [(xx ++ ofB (ks.getD (i - 1) []), 1, 1, ⟨#[]⟩)]
/-- The first loop. -/
theorem does_for1 (p : Pl8) (txt : ByteArray) (nf : Nat) (L : List (List UInt8)) (hL : L.length ≤ 15) (hx : ∀ x ∈ L, x.length ≤ 30) :
    ∃ u0 : List UInt8, u0.length ≤ 30 ∧ (L.length ≤ 9 → 0 < L.length → (sortedKeys (splitA L))[0]? = some (Lib.decDigits 1) → u0 = L.headD []) ∧ ∀ (a9 n9 : Int) (f : Nat), f ≤ 40000 → ∀ (B : Nat) (v : Value), StF (InK 8 (BlockK KI 3)) B p.wN v → Does p (stE txt nf 1 L.length 0 ⟨#[]⟩ a9 n9 (splitA L) [] (f + 4 * L.length + 1)) (stE txt nf 1 L.length (kK L.length) (kT (sortedKeys (splitA L)) L.length) a9 n9 (aE L (sortedKeys (splitA L)) L.length) (rowsK (sortedKeys (splitA L)) u0 L.length) f) v := by
  have hkl : (sortedKeys (splitA L)).length = L.length := by rw [keys_len, splitA_len]
  obtain ⟨u0, hu0, hu1, hu2⟩ : ∃ u0 : List UInt8, u0.length ≤ 30 ∧ (∀ s, (sortedKeys (splitA L))[0]? = some s → ∃ j x, (splitA L)[j]? = some (ofB s, rdK (ofB x), rdN (ofB x), ofB x) ∧ u0 = x) ∧ (0 < L.length → (sortedKeys (splitA L))[0]? = some (Lib.decDigits 1) → u0 = L.headD []) := by
    by_cases h0 : 0 < L.length
    · obtain ⟨s, hs⟩ : ∃ s, (sortedKeys (splitA L))[0]? = some s := ⟨_, List.getElem?_eq_getElem (by omega)⟩
      obtain ⟨j, x, hj, hsd, hA⟩ := key_in L 0 s hs
      refine ⟨x, hx x (List.mem_of_getElem? hj), fun s' hs' => ?_, fun _ hs1 => ?_⟩
      · rw [hs] at hs'
        cases hs'
        exact ⟨j, x, hA, rfl⟩
      · rw [hs] at hs1
        have e : Lib.decDigits (j + 1) = Lib.decDigits 1 := hsd.symm.trans (Option.some.inj hs1)
        have hjl : j < L.length := (List.getElem?_eq_some_iff.1 hj).1
        have hj0 : j + 1 = 1 := dec_inj (j + 1) 1 (by omega) (by omega) e
        obtain rfl : j = 0 := by omega
        cases L with
        | nil => simp at hj
        | cons a L => simp at hj; simp [hj]
    · refine ⟨[], by simp, fun s hs => ?_, fun h => absurd h h0⟩
      have := (List.getElem?_eq_some_iff.1 hs).1
      omega
  refine ⟨u0, hu0, fun _ => hu2, fun a9 n9 f hf B v h => ?_⟩
  refine does_step p (stE txt nf 1 L.length 0 ⟨#[]⟩ a9 n9 (splitA L) [] (f + 4 * L.length)) _ (f + 4 * L.length) (by omega) B _ v h (fun w hw => ?_)
  have hks : ∀ s ∈ sortedKeys (splitA L), s.length ≤ 2 := fun s hs => by
    obtain ⟨i, hi⟩ := List.getElem?_of_mem hs
    exact (key_facts L hL i s hi).1
  have hAl : (splitA L).length = L.length := splitA_len L
  have := does_keys p (fun i => stE txt nf 1 L.length (kK i) (kT (sortedKeys (splitA L)) i) a9 n9 (aE L (sortedKeys (splitA L)) i) (rowsK (sortedKeys (splitA L)) u0 i) (f + 4 * (L.length - i))) (fun i => stE txt nf 1 L.length (kK i) (kT (sortedKeys (splitA L)) i) a9 n9 (aE L (sortedKeys (splitA L)) i) (rowsK (sortedKeys (splitA L)) u0 i) (f + 4 * (L.length - i) - 1)) 8 B (by omega) (by omega) (BlockK KI 3) (fun z hz => kib_keeps.isF _ _ _ hz) w hw (splitA L) rfl (by omega) (fun i hi => by
      show St8.mk _ _ _ _ _ = St8.mk _ _ _ _ _
      rw [hAl] at hi
      congr 1
      show f + 4 * (L.length - i) = f + 4 * (L.length - i) - 1 + 1
      omega) (fun i hi => by show f + 4 * (L.length - i) - 1 ≤ 100000; omega) (fun i hi => ⟨_, _, _, rfl, rfl, rfl⟩) (fun i z s hi hK hs => by
      rw [hAl] at hi
      have hgd : (sortedKeys (splitA L)).getD i [] = s := by rw [List.getD_eq_getElem?_getD, hs]; rfl
      have hkf := key_facts L hL i s hs
      have hrl := rowsK_len (sortedKeys (splitA L)) u0 hu0 hks i
      have e1 : kK (i + 1) = 2 := by simp [kK]
      have e2 : kT (sortedKeys (splitA L)) (i + 1) = ofB s := by simp only [kT]; rw [if_neg (by omega), Nat.add_sub_cancel, hgd]
      have e3 : aE L (sortedKeys (splitA L)) (i + 1) = [(xx ++ ofB s, 1, 1, ⟨#[]⟩)] := by simp only [aE]; rw [if_neg (by omega), Nat.add_sub_cancel, hgd]
      have e4 : rowsK (sortedKeys (splitA L)) u0 (i + 1) = rowsK (sortedKeys (splitA L)) u0 i ++ (s ++ [32] ++ (if i = 0 then u0 else []) ++ [10]) := by rw [rowsK_succ, hgd]
      have e5 : f + 4 * (L.length - i) - 1 = f + 4 * (L.length - (i + 1)) + 3 := by omega
      show Does p (stE txt nf 1 L.length 2 (ofB s) a9 n9 (aE L (sortedKeys (splitA L)) i) (rowsK (sortedKeys (splitA L)) u0 i) (f + 4 * (L.length - i) - 1)) (stE txt nf 1 L.length (kK (i + 1)) (kT (sortedKeys (splitA L)) (i + 1)) a9 n9 (aE L (sortedKeys (splitA L)) (i + 1)) (rowsK (sortedKeys (splitA L)) u0 (i + 1)) (f + 4 * (L.length - (i + 1)))) z
      rw [e1, e2, e3, e4, e5]
      by_cases hi0 : i = 0
      · subst hi0
        obtain ⟨j, x, hA, rfl⟩ := hu1 s hs
        rw [if_pos rfl]
        exact does_round p txt nf 1 L.length a9 n9 s (by omega) (aE L (sortedKeys (splitA L)) 0) (aE L (sortedKeys (splitA L)) 0) (by simp only [aE]; rw [if_pos trivial]; omega) (rdK (ofB u0)) (rdN (ofB u0)) (rdK_neE _) u0 hu0 _ (by omega) _ (by omega) (fun f => takes_have p (stE txt nf 1 L.length 2 (ofB s) a9 n9 (splitA L) (rowsK (sortedKeys (splitA L)) u0 0) f) j (ofB s) (rdK (ofB u0), rdN (ofB u0), ofB u0) hA) B z hK
      · rw [if_neg hi0]
        have e6 : aE L (sortedKeys (splitA L)) i = [(xx ++ ofB ((sortedKeys (splitA L)).getD (i - 1) []), 1, 1, ⟨#[]⟩)] := by simp only [aE]; rw [if_neg hi0]
        rw [e6]
        have hno : ∀ q ∈ ([(xx ++ ofB ((sortedKeys (splitA L)).getD (i - 1) []), 1, 1, ⟨#[]⟩)] : AL), q.1 ≠ ofB s := fun q hq e => by
          simp only [List.mem_singleton] at hq
          subst hq
          have h1 := congrArg (fun b => b.data.toList.head?) e
          simp [xx, ofB] at h1
          exact hkf.2 h1.symm
        exact does_round p txt nf 1 L.length a9 n9 s (by omega) _ ([(xx ++ ofB ((sortedKeys (splitA L)).getD (i - 1) []), 1, 1, ⟨#[]⟩)] ++ [(ofB s, 0, 0, ⟨#[]⟩)]) (by simp) 0 0 rfl [] (by simp) _ (by omega) _ (by omega) (fun f => takes_new p (stE txt nf 1 L.length 2 (ofB s) a9 n9 [(xx ++ ofB ((sortedKeys (splitA L)).getD (i - 1) []), 1, 1, ⟨#[]⟩)] (rowsK (sortedKeys (splitA L)) u0 i) f) (ofB s) (by rw [ofB_lenE]; omega) hno (by simp [stE])) B z hK)
  rw [hAl] at this
  have e7 : f + 4 * (L.length - L.length) = f := by omega
  rw [e7] at this
  exact this
/-- The second loop. -/
theorem does_for2 (p : Pl8) (txt : ByteArray) (nf : Nat) (a7 n7 k8 : Int) (t8 : ByteArray) (A : AL) (hA : A.length ≤ 9) (o : List UInt8) (f : Nat) (hf : f ≤ 40000) (B : Nat) (v : Value) (h : StF (InK 8 (BlockK (fun _ => StF (WorkK JA)) 1)) B p.wN v) :
    Does p (stE txt nf a7 n7 k8 t8 1 0 A o (f + 2 * A.length + 1)) (stE txt nf a7 n7 (if A.length = 0 then k8 else 2) (if A.length = 0 then t8 else ofB ((sortedKeys A).getD (A.length - 1) [])) 1 A.length A o f) v := by
  refine does_step p (stE txt nf a7 n7 k8 t8 1 0 A o (f + 2 * A.length)) _ (f + 2 * A.length) (by omega) B _ v h (fun w hw => ?_)
  have := does_keys p (fun i => stE txt nf a7 n7 (if i = 0 then k8 else 2) (if i = 0 then t8 else ofB ((sortedKeys A).getD (i - 1) [])) 1 i A o (f + 2 * (A.length - i))) (fun i => stE txt nf a7 n7 (if i = 0 then k8 else 2) (if i = 0 then t8 else ofB ((sortedKeys A).getD (i - 1) [])) 1 i A o (f + 2 * (A.length - i) - 1)) 8 B (by omega) (by omega) _ (fun z hz => kc_keeps.isF _ _ _ hz) w hw A rfl (by omega) (fun i hi => by
      show St8.mk _ _ _ _ _ = St8.mk _ _ _ _ _
      congr 1
      show f + 2 * (A.length - i) = f + 2 * (A.length - i) - 1 + 1
      omega) (fun i hi => by show f + 2 * (A.length - i) - 1 ≤ 100000; omega) (fun i hi => ⟨_, _, _, rfl, rfl, rfl⟩) (fun i z s hi hK hs => by
      have hgd : (sortedKeys A).getD i [] = s := by rw [List.getD_eq_getElem?_getD, hs]; rfl
      show Does p (stE txt nf a7 n7 2 (ofB s) 1 i A o (f + 2 * (A.length - i) - 1)) (stE txt nf a7 n7 (if i + 1 = 0 then k8 else 2) (if i + 1 = 0 then t8 else ofB ((sortedKeys A).getD (i + 1 - 1) [])) 1 ((i + 1 : Nat) : Int) A o (f + 2 * (A.length - (i + 1)))) z
      rw [if_neg (by omega), if_neg (by omega), Nat.add_sub_cancel, hgd, show f + 2 * (A.length - i) - 1 = f + 2 * (A.length - (i + 1)) + 1 by omega]
      exact does_block p (fun j => match j with
        | 0 => stE txt nf a7 n7 2 (ofB s) 1 i A o (f + 2 * (A.length - (i + 1)) + 1)
        | _ => stE txt nf a7 n7 2 (ofB s) 1 ((i + 1 : Nat) : Int) A o (f + 2 * (A.length - (i + 1)))) B 1 (by omega) _ z hK (fun j x hj hk => by
          obtain rfl : j = 0 := by omega
          exact does_c1 p txt nf a7 n7 2 (ofB s) i (by omega) A o _ (by omega) B x hk))
  rw [show f + 2 * (A.length - A.length) = f by omega] at this
  exact this
/-- What the program's block does with a record. -/
theorem body_doesE (p : Pl8) (htab : Lib.TabIs Tryz.prog p.wN "internal/strconv.uint64pow10" .u64 Lib.pow10Tab) (t : List UInt8) (ht : t.length ≤ 30) (nf f : Nat) (hf : f ≤ 30000) :
    ∃ (a : Nat) (s' : St8) (u0 : List UInt8), a ≤ 1 ∧ u0.length ≤ 30 ∧ ((words [] t).length ≤ 9 → 0 < (words [] t).length → (sortedKeys (splitA (words [] t)))[0]? = some (Lib.decDigits 1) → u0 = (words [] t).headD []) ∧ a = (if (words [] t).length = 0 then 0 else 1) ∧ s'.out = ofB (rowsK (sortedKeys (splitA (words [] t))) u0 (words [] t).length ++ Lib.decDigits a ++ [10]) ∧ ∀ (B : Nat) (v : Value), BlockK KE 5 B p.wN v → Does p (stE (ofB t) nf 0 0 0 ⟨#[]⟩ 0 0 [] [] (f + 5 + 4 * (words [] t).length + 2 * a)) s' v := by
  obtain ⟨h1, h2⟩ := words_fewE ht
  generalize hLL : words [] t = L at *
  obtain ⟨u0, hu0, hu1, hF⟩ := does_for1 p (ofB t) nf L h1 h2
  have hks : ∀ s ∈ sortedKeys (splitA L), s.length ≤ 2 := fun s hs => by
    obtain ⟨i, hi⟩ := List.getElem?_of_mem hs
    exact (key_facts L h1 i s hi).1
  have hrl := rowsK_len (sortedKeys (splitA L)) u0 hu0 hks L.length
  have hal : (aE L (sortedKeys (splitA L)) L.length).length = (if L.length = 0 then 0 else 1) := by
    unfold aE
    by_cases h0 : L.length = 0
    · rw [if_pos h0, if_pos h0, splitA_len, h0]
    · rw [if_neg h0, if_neg h0]; rfl
  generalize hE : aE L (sortedKeys (splitA L)) L.length = AE at *
  have ha1 : AE.length ≤ 1 := by rw [hal]; split <;> omega
  refine ⟨AE.length, stE (ofB t) nf 1 L.length (if AE.length = 0 then kK L.length else 2) (if AE.length = 0 then kT (sortedKeys (splitA L)) L.length else ofB ((sortedKeys AE).getD (AE.length - 1) [])) 1 AE.length AE (rowsK (sortedKeys (splitA L)) u0 L.length ++ Lib.decDigits AE.length ++ [10]) f, u0, ha1, hu0, hu1, hal, rfl, fun B v hv => ?_⟩
  have := does_block p (fun j => match j with
    | 0 => stE (ofB t) nf 0 0 0 ⟨#[]⟩ 0 0 [] [] (f + 5 + 4 * L.length + 2 * AE.length)
    | 1 => stE (ofB t) nf 1 L.length 0 ⟨#[]⟩ 0 0 (splitA L) [] (f + 4 + 4 * L.length + 2 * AE.length)
    | 2 => stE (ofB t) nf 1 L.length (kK L.length) (kT (sortedKeys (splitA L)) L.length) 0 0 AE (rowsK (sortedKeys (splitA L)) u0 L.length) (f + 3 + 2 * AE.length)
    | 3 => stE (ofB t) nf 1 L.length (kK L.length) (kT (sortedKeys (splitA L)) L.length) 1 0 AE (rowsK (sortedKeys (splitA L)) u0 L.length) (f + 2 + 2 * AE.length)
    | 4 => stE (ofB t) nf 1 L.length (if AE.length = 0 then kK L.length else 2) (if AE.length = 0 then kT (sortedKeys (splitA L)) L.length else ofB ((sortedKeys AE).getD (AE.length - 1) [])) 1 AE.length AE (rowsK (sortedKeys (splitA L)) u0 L.length) (f + 1)
    | _ => stE (ofB t) nf 1 L.length (if AE.length = 0 then kK L.length else 2) (if AE.length = 0 then kT (sortedKeys (splitA L)) L.length else ofB ((sortedKeys AE).getD (AE.length - 1) [])) 1 AE.length AE (rowsK (sortedKeys (splitA L)) u0 L.length ++ Lib.decDigits AE.length ++ [10]) f) B 5 (by omega) KE v hv (fun i x hi hk => by
      have hcc : i = 0 ∨ i = 1 ∨ i = 2 ∨ i = 3 ∨ i = 4 := by omega
      rcases hcc with rfl | rfl | rfl | rfl | rfl
      · show Does p (stE (ofB t) nf 0 0 0 ⟨#[]⟩ 0 0 [] [] (f + 5 + 4 * L.length + 2 * AE.length)) (stE (ofB t) nf 1 L.length 0 ⟨#[]⟩ 0 0 (splitA L) [] (f + 4 + 4 * L.length + 2 * AE.length)) x
        rw [show f + 5 + 4 * L.length + 2 * AE.length = (f + 4 + 4 * L.length + 2 * AE.length) + 1 by omega]
        have := does_split p t ht nf 0 0 0 ⟨#[]⟩ 0 0 [] (by simp) [] (f + 4 + 4 * L.length + 2 * AE.length) (by omega) B x hk
        rw [hLL] at this
        exact this
      · show Does p (stE (ofB t) nf 1 L.length 0 ⟨#[]⟩ 0 0 (splitA L) [] (f + 4 + 4 * L.length + 2 * AE.length)) (stE (ofB t) nf 1 L.length (kK L.length) (kT (sortedKeys (splitA L)) L.length) 0 0 AE (rowsK (sortedKeys (splitA L)) u0 L.length) (f + 3 + 2 * AE.length)) x
        rw [show f + 4 + 4 * L.length + 2 * AE.length = (f + 3 + 2 * AE.length) + 4 * L.length + 1 by omega]
        exact hF 0 0 _ (by omega) B x hk
      · show Does p (stE _ _ _ _ _ _ _ _ _ _ (f + 3 + 2 * AE.length)) _ x
        rw [show f + 3 + 2 * AE.length = (f + 2 + 2 * AE.length) + 1 by omega]
        exact does_c0 p (ofB t) nf 1 L.length _ _ 0 0 AE _ _ (by omega) B x hk
      · show Does p (stE _ _ _ _ _ _ _ _ _ _ (f + 2 + 2 * AE.length)) _ x
        rw [show f + 2 + 2 * AE.length = (f + 1) + 2 * AE.length + 1 by omega]
        exact does_for2 p (ofB t) nf 1 L.length _ _ AE (by omega) _ (f + 1) (by omega) B x hk
      · exact does_pc p htab (ofB t) nf 1 L.length _ _ AE.length (by omega) AE _ (by omega) f (by omega) B x hk)
  exact this
end Go.Proofs.YtdbdbaepmdmnfaaGreatDoor

namespace Go.Proofs.YtdbdbaepmdmnfaaGreatDoor
open Go.RowKit
theorem line_of {l : List UInt8} (h : ∀ b ∈ l, b ≠ 10) : lineOf l = l ∧ restOf l = [] := by
  induction l with
  | nil => exact ⟨rfl, rfl⟩
  | cons c l ih =>
    have hc := h c (by simp)
    obtain ⟨h1, h2⟩ := ih (fun b hb => h b (by simp [hb]))
    exact ⟨by rw [lineOf, if_neg hc, h1], by rw [restOf, if_neg hc, h2]⟩
/-- The keys of few pieces, in rising order. -/
theorem keys_few (L : List (List UInt8)) (hL : L.length ≤ 9) : sortedKeys (splitA L) = (List.range L.length).map (fun i => dd (i + 1)) := by
  have hp : ∀ m : Fin 10, ((List.range m.val).map (fun i => dd (i + 1))).Pairwise (fun a b => decide (a ≤ b) = true) := by decide
  have he : (splitA L).map (·.1.data.toList) = (List.range L.length).map (fun i => dd (i + 1)) := by
    apply List.ext_getElem?
    intro i
    rw [List.getElem?_map, List.getElem?_map]
    unfold splitA
    rw [List.getElem?_map, List.getElem?_zipIdx]
    by_cases hi : i < L.length
    · rw [List.getElem?_range hi, List.getElem?_eq_getElem hi]
      simp only [Option.map_some, Nat.zero_add]
      rw [dec_dd (by omega)]
      simp [ofB]
    · rw [List.getElem?_eq_none (by omega), List.getElem?_eq_none (by simp; omega)]
      rfl
  unfold sortedKeys
  rw [he]
  exact List.mergeSort_of_pairwise (hp ⟨L.length, by omega⟩)
theorem outE_of (L : List (List UInt8)) (_h15 : L.length ≤ 15) (u0 : List UInt8) (a : Nat) (ha : a = (if L.length = 0 then 0 else 1)) (hu : L.length ≤ 9 → 0 < L.length → (sortedKeys (splitA L))[0]? = some (Lib.decDigits 1) → u0 = L.headD []) (hL : L.length ≤ 9) : rowsK (sortedKeys (splitA L)) u0 L.length ++ Lib.decDigits a ++ [10] = outE L := by
  have hk := keys_few L hL
  have hu0 : 0 < L.length → u0 = L.headD [] := fun h0 => hu hL h0 (by
    rw [hk, List.getElem?_map, List.getElem?_range h0, dec_dd (by omega)]
    rfl)
  have hrows : ∀ i, i ≤ L.length → rowsK (sortedKeys (splitA L)) u0 i = eachRows L i := fun i => by
    induction i with
    | zero => intro _; simp [rowsK, eachRows]
    | succ i ih =>
      intro hi
      rw [rowsK_succ, eachRows_succ, ih (by omega)]
      congr 1
      have hg : (sortedKeys (splitA L)).getD i [] = Lib.decDigits (i + 1) := by
        rw [hk, List.getD_eq_getElem?_getD, List.getElem?_map, List.getElem?_range (by omega), dec_dd (by omega)]
        rfl
      rw [hg]
      unfold eachRow
      by_cases h0 : i = 0
      · rw [if_pos h0, if_pos h0, hu0 (by omega)]
      · rw [if_neg h0, if_neg h0]
  rw [hrows L.length (Nat.le_refl _), List.append_assoc]
  unfold outE
  congr 1
  by_cases h0 : L.length = 0
  · rw [ha, if_pos h0, if_pos (List.eq_nil_of_length_eq_zero h0), dec_dd (by omega)]
    rfl
  · rw [ha, if_neg h0, if_neg (fun e => h0 (by rw [e]; rfl)), dec_dd (by omega)]
    rfl
theorem outE_len (L : List (List UInt8)) (h15 : L.length ≤ 15) (u0 : List UInt8) (hu0 : u0.length ≤ 30) (a : Nat) (ha : a ≤ 1) : (rowsK (sortedKeys (splitA L)) u0 L.length ++ Lib.decDigits a ++ [10]).length ≤ 3000 := by
  have hks : ∀ s ∈ sortedKeys (splitA L), s.length ≤ 2 := fun s hs => by
    obtain ⟨i, hi⟩ := List.getElem?_of_mem hs
    exact (key_facts L h15 i s hi).1
  have hrl := rowsK_len (sortedKeys (splitA L)) u0 hu0 hks L.length
  have hl : (Lib.decDigits a).length ≤ 2 := by rw [dec_dd (by omega)]; unfold dd; split <;> simp
  simp only [List.length_append, List.length_cons, List.length_nil]
  omega
/-- A record is read. -/
theorem read_onK (p : Pl8) (s : St8) (t : ByteArray) (ht : t.size ≤ 500) (hw : (words [] t.data.toList).length ≤ 40) (x3 x4 x5 : Value) (h0 : s.cs[0]? = some (.int .i64 1)) (h1 : s.cs[1]? = some (.int .i64 0)) (h2 : s.cs[2]? = some (.string ⟨#[]⟩)) (h3 : s.cs[3]? = some x3) (h4 : s.cs[4]? = some x4) (h5 : s.cs[5]? = some x5) (f0 : s.cs[6]? = some (.int .i64 2)) (f1 : s.cs[7]? = some (.int .i64 0)) (f2 : s.cs[8]? = some (.string ⟨#[32]⟩)) (W : World) (h : On8 p s W) :
    Calls Tryz.prog 100 #[.pointer (some ⟨p.m, 0, none⟩), .string t] W fun en w' => en = .returned (.tuple #[]) ∧ On8 p { s with txt := t, cs := ((((((s.cs.set 0 (.int .i64 1)).set 1 (.int .i64 1)).set 2 (.string ⟨#[]⟩))).set 3 (.int .i64 1)).set 4 (.int .i64 (words [] t.data.toList).length)).set 5 (.string ⟨#[]⟩) } w' ∧ Kept p W w' := by
  refine (read_on p s t ht hw x3 x4 x5 h0 h1 h2 h3 h4 h5 f0 f1 f2 W h).mono ?_
  rintro en w' ⟨e, hq, ho⟩
  exact ⟨e, hq, Kept.ofV h (fun q e => by rcases e with e | e; exact Or.inl e; exact Or.inr (Or.inl e)) ho⟩
/-- The machine as it was made. -/
def st0 : St8 := ⟨⟨#[]⟩, first8, [], ⟨#[]⟩, 2000⟩
set_option maxRecDepth 20000 in
set_option maxHeartbeats 4000000 in
theorem readAll_one (p : Pl8) (htab : Lib.TabIs Tryz.prog p.wN "internal/strconv.uint64pow10" .u64 Lib.pow10Tab) (B pb : Nat) (rs : Value) (hp : p.wN.heap[pb]? = some (.cells #[.slice none 0 0, rs, .slice none 0 0, .int .i64 10, .int .i64 1] 135 (0, 0))) (hr : RuleF (BlockK KE 5) B p.wN rs) (T : ByteArray) (hT : T.size ≤ 30) (h0 : 0 < T.size) (hno : ∀ b ∈ T.data.toList, b ≠ 10) (w : World) (h : On8 p st0 w) :
    Calls Tryz.prog 64 #[.pointer (some ⟨pb, 0, none⟩), .pointer (some ⟨p.m, 0, none⟩), .string T] w fun en w' => en = .returned (.tuple #[]) ∧ ∃ s' x, s'.out = ofB x ∧ ((words [] T.data.toList).length ≤ 9 → x = outE (words [] T.data.toList)) ∧ x.length ≤ 3000 ∧ On8 p s' w' ∧ Kept p w w' := by
  have htl : T.data.toList.length ≤ 30 := by rw [len_eq]; exact hT
  obtain ⟨w1, w2⟩ := words_fewE htl
  obtain ⟨cg, x, hown, hx⟩ := hr
  obtain ⟨g, cap, ers, hgl2, hgc⟩ := own_at hown (by simp)
  obtain ⟨a, s', u0, ha1, hu0, hu1, haL, ho', hDo⟩ := body_doesE p htab T.data.toList htl (words [] T.data.toList).length (1994 - 4 * (words [] T.data.toList).length - 2 * (if (words [] T.data.toList).length = 0 then 0 else 1)) (by omega)
  obtain ⟨F, caps, ex, hcf, hD⟩ := hDo B x hx
  have hfu : 1994 - 4 * (words [] T.data.toList).length - 2 * (if (words [] T.data.toList).length = 0 then 0 else 1) + 5 + 4 * (words [] T.data.toList).length + 2 * a = 1999 := by rw [← haL]; omega
  rw [hfu] at hD
  have hout := outE_of (words [] T.data.toList) w1 u0 a haL hu1
  have hlen := outE_len (words [] T.data.toList) w1 u0 hu0 a ha1
  have HDo : Hid (∀ W, On8 p (stE (ofB T.data.toList) (words [] T.data.toList).length 0 0 0 ⟨#[]⟩ 0 0 [] [] 1999) W → Calls Tryz.prog 101 #[.pointer (some ⟨pb, 0, none⟩), .pointer (some ⟨p.m, 0, none⟩)] W fun en w' => en = .returned (.tuple #[]) ∧ (On8 p s' w' ∧ Kept p W w')) := hide (fun W hW => by
    have hpW := (hW.O.block pb (heap_lt hp) (fun e => e)).trans hp
    have c0 := (hW.O.cell (p := ⟨g, 0, none⟩) hgl2 (fun e => e)).trans (hgc 0 _ rfl)
    have c2 := (hW.O.cell (p := ⟨g, 2, none⟩) hgl2 (fun e => e)).trans (hgc 2 _ rfl)
    rw [ex] at c2
    refine doRules_one pb p.m g cap F (some ⟨cg, 0, none⟩) 0 hcf caps (fun w' => On8 p s' w' ∧ Kept p W w') W ?_ c0 c2 (hD W hW)
    have c1 : W.cell? ⟨pb, 1, none⟩ = some rs := cell_of hpW rfl
    rw [c1, ers])
  have HSt := hide (step_on p { st0 with fuel := 1999 } (by decide) w h)
  have HC : Hid (∀ W, Calls Tryz.prog 99 #[.string T, .string ⟨#[10]⟩] W fun en w' => ∃ q, en = .returned (.tuple #[.string T, .string ⟨#[]⟩, .bool q]) ∧ Only (fun _ => False) W w') := hide (fun W => (cutS_any T (by omega) W).mono (fun en w' h => by
    obtain ⟨e1, e2⟩ := line_of hno
    rw [e1, e2] at h
    exact ⟨_, h.1, h.2⟩))
  have HRd := hide (fun W (hW : On8 p { st0 with fuel := 1999 } W) => read_onK p { st0 with fuel := 1999 } T (by omega) (by omega) _ _ _ rfl rfl rfl rfl rfl rfl rfl rfl rfl W hW)
  have he : T.toList.isEmpty = false := by
    rw [ByteArray.toList_eq]
    have hl : 0 < T.data.toList.length := h0
    cases hd : T.data.toList with
    | nil => rw [hd] at hl; simp at hl
    | cons a r => rfl
  have HO' := hide ho'
  have HOt := hide hout
  have HLn := hide hlen
  clear h hown hgc hgl2 ers hp hx hD hDo ho' hcf hno hfu w2 htl hout hlen
  go_enter Tryz.func64, Tryz.ntmps64
  go_wp2
  go_loopg [2] 1 (fun gh s2 wr => (gh = 1 ∧ s2 = .string T ∧ wr = w) ∨ (gh = 0 ∧ s2 = .string ⟨#[]⟩ ∧ Hid (On8 p s' wr ∧ Kept p w wr)))
  case atStart => exact Or.inl ⟨rfl, rfl, rfl⟩
  case round =>
    rcases hrel with ⟨rfl, rfl, rfl⟩ | ⟨rfl, rfl, HR⟩
    · go_wp2_with fail
      refine (HSt.out).mono ?_
      rintro en w2 ⟨rfl, hn2, hk2⟩
      have HN2 := hide hn2
      have HK2 := hide hk2
      clear hn2 hk2 HSt
      go_wp2_with fail
      refine (HC.out _).mono ?_
      rintro en w3 ⟨q, rfl, ho3⟩
      have HN3 := hide (HRd.out w3 (HN2.out.calm ho3))
      have HK3 := hide (HK2.out.trans (Kept.of (p := p) ho3))
      clear ho3 HN2 HRd
      go_wp2_with fail
      refine (HN3.out).mono ?_
      rintro en w4 ⟨rfl, hn4, hk4⟩
      have HD4 := hide (HDo.out w4 hn4)
      have HK4 := hide (HK3.out.trans hk4)
      clear hn4 hk4 HN3 HDo
      go_wp2_with fail
      refine (HD4.out).mono ?_
      rintro en w5 ⟨rfl, hn5, hk5⟩
      have HR5 := hide (And.intro hn5 (HK4.out.trans hk5))
      clear hn5 hk5 HD4
      go_wp2
      go_roundg 0
      case measure => omega
      case rel => exact Or.inr ⟨rfl, rfl, HR5⟩
    · have he0 : (⟨#[]⟩ : ByteArray).toList.isEmpty = true := by rw [ByteArray.toList_eq]; rfl
      go_wp2
      go_end0
      exact ⟨rfl, s', _, HO'.out, HOt.out, HLn.out, HR.out.1, HR.out.2⟩
set_option maxRecDepth 20000 in
set_option maxHeartbeats 4000000 in
/-- A part of a run that comes to its end. -/
theorem attempt_kept (p : Pl8) (F : Nat) (hcf : ∀ (args : Array Value) (w : World), (callFunc F args).run Tryz.prog w = .ok (.enter F args) w) (caps : Array Value) (Q : World → Prop) (w : World) (lm : p.m < w.heap.size) (lv : p.vb < w.heap.size) (ls : p.sb < w.heap.size) (lk : p.akb < w.heap.size)
    (h1 : ∀ W, Only (fun _ => False) w W → Calls Tryz.prog F caps W fun en w' => en = .returned (.tuple #[]) ∧ Q w' ∧ Kept p W w') :
    Calls Tryz.prog 61 #[.pointer (some ⟨p.m, 0, none⟩), .func (.func F) #[] caps] w fun en w' => en = .returned .nilIface ∧ ∃ w1, Q w1 ∧ Kept p w w1 ∧ w1.heap[w.heap.size + 1]? = some (.cells #[.nilIface] 74 (0, 0)) ∧ w' = w1.setCell ⟨w.heap.size + 1, 0, none⟩ .nilIface := by
  have hmf : ∀ (fn : Fn) (first cap : Array Value) (w : World), (Instr.makeFunc fn first cap).run Tryz.prog w = .ok (.func fn first cap) w := fun _ _ _ _ => rfl
  have H1 := hide (h1 ((w.alloc (.cells #[.pointer (some ⟨p.m, 0, none⟩)] 130)).alloc (.cells #[.nilIface] 74)) ((onlyA w _).alloc _))
  clear h1
  go_enter_defers Tryz.func61, Tryz.ntmps61
  go_wp2_with fail
  refine (H1.out).mono ?_
  rintro en w1 ⟨rfl, hQ, hk⟩
  have hb := hk.box (w.heap.size + 1) _ _ (by omega) (by omega) (by omega) (by omega) (by decide) (by decide) (new_at2 (W := w.alloc (.cells #[.pointer (some ⟨p.m, 0, none⟩)] 130)) (by simp) (.cells #[.nilIface] 74))
  have c0 : w1.cell? ⟨w.heap.size + 1, 0, none⟩ = some .nilIface := cell_of hb rfl
  have cf := free_of hb
  have HQ := hide hQ
  have HBb := hide hb
  have HK := hide ((Kept.of (p := p) ((onlyA w _).alloc _)).trans hk)
  clear hQ hk hb H1
  go_wp2
  refine leaves_cons (f := 97) (args := #[.pointer (some ⟨w.heap.size, 0, none⟩), .pointer (some ⟨w.heap.size + 1, 0, none⟩)]) (by simp) (by simp [go_sem]) ?_
  refine (caught_idle _ _ _).mono ?_
  rintro e u' w'' ⟨rfl, rfl, rfl⟩
  refine ⟨.nilIface, ?_, rfl, w1, HQ.out, HK.out, HBb.out, rfl⟩
  simp [results, Tryz.results61, go_sem, c0]
end Go.Proofs.YtdbdbaepmdmnfaaGreatDoor

