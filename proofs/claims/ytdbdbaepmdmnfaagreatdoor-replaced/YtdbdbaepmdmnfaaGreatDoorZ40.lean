import Derived.Test.YtdbdbaepmdmnfaaGreatDoorZ34
import Derived.Test.YtdbdbaepmdmnfaaGreatDoorZ37
import Derived.Test.YtdbdbaepmdmnfaaGreatDoorZ38
import Derived.Test.YtdbdbaepmdmnfaaGreatDoorZ39
import Derived.Test.YtdbdbaepmdmnfaaGreatDoorZ36
import Derived.Test.YtdbdbaepmdmnfaaGreatDoorZ33
import Derived.Lib.ItoaMem
namespace Go.Proofs.YtdbdbaepmdmnfaaGreatDoor
open Go.RowKit
variable {wT : World}
def vsN : Array MapEntry := firstVs.push ⟨.string nr, .int .i64 7, 7⟩
def CNL : Nat → World → Value → Prop := fun B w v => ConstE B w v 2 0 (ofB [10])
def JFS : Nat → World → Value → Prop := SetK (VarK 2) CNL
def JG (S : List UInt8) : Nat → World → Value → Prop := SetK (VarK 7) (ReplS (ofB S) (ofB []))
/-- The statements of the beginning, made. -/
def KBs : Nat → Nat → World → Value → Prop := fun _ => StF (WorkK JFS)
/-- The statements, made. -/
def KMs (S : List UInt8) : Nat → Nat → World → Value → Prop
  | 0 => StF (WorkK (JG S))
  | 1 => StF (PrintK (VarK 7))
  | _ => StF PrintF
def vssM : Nat → VA
  | 0 => ⟨firstVs, #[]⟩
  | _ => ⟨vsN, #[]⟩
theorem num_fsR : NumOK FSr 2 firstVs firstVs := num_known FSr 2 2 firstVs rfl rfl
theorem num_nR : NumOK nr 7 firstVs vsN := num_new nr firstVs rfl rfl
theorem num_nR2 : NumOK nr 7 vsN vsN := num_known nr 7 7 vsN rfl rfl
theorem cnl_keeps : KeepsE CNL := const_keeps 2 0 (ofB [10])
theorem jfs_keeps : KeepsE JFS := setk_keeps (vark_keeps 2) cnl_keeps
theorem jg_keeps (S : List UInt8) : KeepsE (JG S) := setk_keeps (vark_keeps 7) (replS_keeps _ _)
theorem kbs_keeps : ∀ i, i < 1 → Keeps (KBs i) := fun _ _ => st_keeps (workK_keeps jfs_keeps)
theorem kms_keeps (S : List UInt8) : ∀ i, i < 3 → Keeps (KMs S i)
  | 0, _ => st_keeps (workK_keeps (jg_keeps S))
  | 1, _ => st_keeps (printK_keeps (vark_keeps 7))
  | 2, _ => st_keeps print_keeps
theorem kbb_keeps : Keeps (BlockK KBs 1) := blockK_keeps kbs_keeps
theorem kmb_keeps (S : List UInt8) : Keeps (BlockK (KMs S) 3) := blockK_keeps (kms_keeps S)
theorem mk3R (W : World) : (Instr.makeSlice 132 (.int .i64 3) (.int .i64 3)).run Tryz.prog W = .ok (.slice (some ⟨W.heap.size, 0, none⟩) 3 3) (W.alloc (.cells (Array.replicate 3 .nilFunc) 185)) := by kernel_rfl
theorem mk1R (W : World) : (Instr.makeSlice 132 (.int .i64 1) (.int .i64 1)).run Tryz.prog W = .ok (.slice (some ⟨W.heap.size, 0, none⟩) 1 1) (W.alloc (.cells (Array.replicate 1 .nilFunc) 185)) := by kernel_rfl
theorem tr_print_block (v : Value) (w : World) : (Instr.typeAssert (.iface 285 v) 235 95 true).run Tryz.prog w = .ok (.tuple #[.slice none 0 0, .bool false]) w := by kernel_rfl
theorem tr_print_empty (v : Value) (w : World) : (Instr.typeAssert (.iface 285 v) 235 334 true).run Tryz.prog w = .ok (.tuple #[.agg #[], .bool false]) w := by kernel_rfl
theorem tr_work_block (v : Value) (w : World) : (Instr.typeAssert (.iface 350 v) 235 95 true).run Tryz.prog w = .ok (.tuple #[.slice none 0 0, .bool false]) w := by kernel_rfl
theorem tr_work_empty (v : Value) (w : World) : (Instr.typeAssert (.iface 350 v) 235 334 true).run Tryz.prog w = .ok (.tuple #[.agg #[], .bool false]) w := by kernel_rfl
/-- A block of the tree, made in a world in which the tree stands. -/
theorem treeR_made (pb n : Nat) (V : Nat → World → Value → Prop) (hVi : ∀ i, i < n → IsIf (V i)) (Ks : Nat → Nat → World → Value → Prop) (hK : ∀ i, i < n → Keeps (Ks i)) (vss : Nat → VA) (hn0 : 0 < n) (hn : n ≤ 900) (hmk : ∀ W, (Instr.makeSlice 132 (.int .i64 n) (.int .i64 n)).run Tryz.prog W = .ok (.slice (some ⟨W.heap.size, 0, none⟩) n n) (W.alloc (.cells (Array.replicate n .nilFunc) 185))) (kb mv ma mf sg : Nat) (hlv : wT.heap.size ≤ mv) (hla : wT.heap.size ≤ ma) (b : Value) (h : BlockT pb n V wT b)
    (H : ∀ (i : Nat) e w, i < n → V i wT e → Only (fun _ => False) wT w → MadeS wT 126 kb mv ma mf sg w e (Ks i) (vss i) (vss (i + 1))) (w : World) (hT : Only (fun _ => False) wT w) : MadeS wT 91 kb mv ma mf sg w b (BlockK Ks n) (vss 0) (vss n) := by
  obtain ⟨es, hl, hr, _, hv⟩ := h
  obtain ⟨g, cap, rfl, hgl, hc⟩ := own_at hr (by omega)
  subst hl
  exact made_block kb mv ma mf sg w Ks vss es hK (by omega) g cap (Nat.lt_of_lt_of_le hgl hT.size) (by omega) hmk (fun i e he => hVi i (List.getElem?_eq_some_iff.1 he).1 wT e (hv i e he)) (fun i e he => (hT.cell (p := ⟨g, i, none⟩) hgl (fun e => e)).trans (hc i e he)) (fun i e he => H i e w (List.getElem?_eq_some_iff.1 he).1 (hv i e he) hT)
theorem begin_made (kb mv ma mf sg : Nat) : ∀ (i : Nat) (e : Value) (w : World), i < 1 → VB i wT e → Only (fun _ => False) wT w → MadeS wT 126 kb mv ma mf sg w e (KBs i) ⟨firstVs, #[]⟩ ⟨firstVs, #[]⟩
  | 0, e, w, _, h, _ => by
    obtain ⟨u, rfl, rfl⟩ := h
    exact made_stmt kb mv ma mf sg w 350 _ _ (workK_keeps jfs_keeps) _ _ (tr_work_block _) (tr_work_empty _) (made_work _ _ JFS jfs_keeps ⟨firstVs, #[]⟩ ⟨firstVs, #[]⟩ (makesE_set _ _ _ _ (VarK 2) CNL (vark_keeps 2) cnl_keeps ⟨firstVs, #[]⟩ ⟨firstVs, #[]⟩ ⟨firstVs, #[]⟩ (makesE_name FSr 8 2 ⟨firstVs, #[]⟩ firstVs num_fsR) (makesE_str (ofB [10]) ⟨firstVs, #[]⟩)) kb mv ma mf sg w)
theorem main_made (S : List UInt8) (pb kb mv ma mf sg : Nat) : ∀ (i : Nat) (e : Value) (w : World), i < 3 → VM pb S i wT e → Only (fun _ => False) wT w → MadeS wT 126 kb mv ma mf sg w e (KMs S i) (vssM i) (vssM (i + 1))
  | 0, e, w, _, h, _ => by
    obtain ⟨u, rfl, l, r, rfl, rfl, ⟨r2, rfl, hr2, _⟩⟩ := h
    obtain ⟨g2, cap2, rfl, hgl2, hc2⟩ := own_at hr2 (by simp [gsubArgs])
    exact made_stmt kb mv ma mf sg w 350 _ _ (workK_keeps (jg_keeps S)) _ _ (tr_work_block _) (tr_work_empty _) (made_work _ _ (JG S) (jg_keeps S) ⟨firstVs, #[]⟩ ⟨vsN, #[]⟩ (makesE_set _ _ _ _ (VarK 7) (ReplS (ofB S) (ofB [])) (vark_keeps 7) (replS_keeps _ _) ⟨firstVs, #[]⟩ ⟨vsN, #[]⟩ ⟨vsN, #[]⟩ (makesE_name nr 22 7 ⟨firstVs, #[]⟩ vsN num_nR) (makesE_gsub (ofB S) (ofB []) 26 ⟨vsN, #[]⟩ g2 cap2 hgl2 (hc2 0 _ rfl) (hc2 1 _ rfl))) kb mv ma mf sg w)
  | 1, e, w, _, h, _ => by
    obtain ⟨r, rfl, hr, _⟩ := h
    obtain ⟨g, cap, rfl, hgl, hc⟩ := own_at hr (by simp)
    exact made_stmt kb mv ma mf sg w 285 _ _ (printK_keeps (vark_keeps 7)) _ _ (tr_print_block _) (tr_print_empty _) (fun W hW _ => counted_printK _ _ (VarK 7) (vark_keeps 7) ⟨vsN, #[]⟩ ⟨vsN, #[]⟩ (makesE_name nr (46 + S.length) 7 ⟨vsN, #[]⟩ vsN num_nR2) kb mv ma mf sg g cap W hW ((hW.t.cell (p := ⟨g, 0, none⟩) hgl (fun e => e)).trans (hc 0 _ rfl)))
  | 2, e, w, _, h, _ => by
    obtain rfl : e = printV := h
    exact made_stmt kb mv ma mf sg w 285 _ _ print_keeps ⟨vsN, #[]⟩ ⟨vsN, #[]⟩ (tr_print_block _) (tr_print_empty _) (made_bare kb mv ma mf sg w ⟨vsN, #[]⟩)
def BegG (K : Nat → World → Value → Prop) (B : Nat) (w : World) (a b c : Value) : Prop := b = .slice none 0 0 ∧ c = .slice none 0 0 ∧ BegF K B w a
def TwoG (K1 K2 : Nat → World → Value → Prop) (B : Nat) (w : World) (a b c : Value) : Prop := c = .slice none 0 0 ∧ BegF K1 B w a ∧ RuleF K2 B w b
theorem twoG_keeps {K1 K2 : Nat → World → Value → Prop} (h1 : Keeps K1) (h2 : Keeps K2) : KeepsG (TwoG K1 K2) where
  keep := fun B w w' a b c pb x ⟨e, hb, hr⟩ hp hlt ho => ⟨e, begF_keep h1 hb (ho.mono (fun q _ e => by omega)), ((ruleG_keeps h2).keep B w w' (.slice none 0 0) b (.slice none 0 0) pb x ⟨rfl, rfl, hr⟩ hp hlt ho).2.2⟩
  down := fun A B w a b c ⟨e, hb, hr⟩ hA => ⟨e, begF_down h1 hb hA, ((ruleG_keeps h2).down A B w (.slice none 0 0) b (.slice none 0 0) ⟨rfl, rfl, hr⟩ hA).2.2⟩
/-- The program is made ready. -/
theorem readyR (S : List UInt8) (pbp : Nat) (w : World) (v : Value) (h : ProgN 2 kdR (BR pbp S) w v) :
    Calls Tryz.prog 59 #[v] w fun en w' => ∃ pb a b, en = .returned (.pointer (some ⟨pb, 0, none⟩)) ∧ w'.heap[pb]? = some (.cells #[a, b, .slice none 0 0, .int .i64 8, .int .i64 0] 135 (0, 0)) ∧ BegF (BlockK KBs 1) w.heap.size w' a ∧ RuleF (BlockK (KMs S) 3) w.heap.size w' b ∧ Only (fun _ => False) w w' := by
  obtain ⟨rs, us, rfl, hr, hu⟩ := h
  obtain ⟨rg, rcap, rfl, hrg, hc⟩ := own_at hr (by omega)
  have hu1 : BlockT pbp 1 VB w (us 0) := hu 0 (by omega)
  have hu2 : BlockT pbp 3 (VM pbp S) w (us 1) := hu 1 (by omega)
  have hu1' := hu1
  have hu2' := hu2
  obtain ⟨es1, hl1, hr1, _, _⟩ := hu1'
  obtain ⟨es2, hl2, hr2, _, _⟩ := hu2'
  obtain ⟨r1, cap1, e1, _, _⟩ := own_at hr1 (by omega)
  obtain ⟨r2, cap2, e2, _, _⟩ := own_at hr2 (by omega)
  refine (ready_two 1 0 ⟨firstVs, #[]⟩ ⟨vsN, #[]⟩ (BegG (BlockK KBs 1)) (TwoG (BlockK KBs 1) (BlockK (KMs S) 3)) (fun B W o a b c ⟨h1, h2, h3⟩ => ⟨h1, h2, begF_keep kbb_keeps h3 ((onlyA W o).mono (fun _ _ e => e.elim))⟩) (fun A B W a b c ⟨h1, h2, h3⟩ hA => ⟨h1, h2, begF_down kbb_keeps h3 hA⟩) (twoG_keeps kbb_keeps (kmb_keeps S)) rg rcap r1 1 cap1 r2 3 cap2 w hrg (hc 0 _ rfl) (hc 1 _ rfl) (by rw [← e1]; exact hc 2 _ rfl) (hc 3 _ rfl) (hc 4 _ rfl) (by rw [← e2]; exact hc 5 _ rfl) (fun kb mv ma mf sg pb W hk hpb hM hp => ?_) (fun kb mv ma mf sg pb W B a b c hk hpb hpB hvB haB hBW hG hM hp => ?_)).mono ?_
  · have hMd := treeR_made pbp 1 VB (fun _ _ => work_if) KBs kbs_keeps (fun _ => ⟨firstVs, #[]⟩) (by omega) (by omega) mk1R kb mv ma mf sg hM.lv hM.la (us 0) hu1 (fun i e w' hi hv hT => begin_made kb mv ma mf sg i e w' hi hv hT) W hM.t
    rw [e1] at hMd
    refine (rule_madeB kb mv ma mf sg ⟨firstVs, #[]⟩ ⟨firstVs, #[]⟩ (BlockK KBs 1) kbb_keeps pb r1 1 cap1 hpb W hM hp hMd).mono ?_
    rintro en w' ⟨e, rs, h1, h2, h3, h4⟩
    exact ⟨e, rs, _, _, h1, ⟨rfl, rfl, h2⟩, h3, h4⟩
  · obtain ⟨rfl, rfl, hb⟩ := hG
    have hMd := treeR_made pbp 3 (VM pbp S) (vm_if pbp S) (KMs S) (kms_keeps S) vssM (by omega) (by omega) mk3R kb mv ma mf sg hM.lv hM.la (us 1) hu2 (fun i e w' hi hv hT => main_made S pbp kb mv ma mf sg i e w' hi hv hT) W hM.t
    rw [e2] at hMd
    refine (rule_madeW a kb mv ma mf sg ⟨firstVs, #[]⟩ ⟨vsN, #[]⟩ (BlockK (KMs S) 3) (kmb_keeps S) pb r2 3 cap2 hpb W hM hp hMd).mono ?_
    rintro en w' ⟨e, rs, h1, h2, h3, h4⟩
    exact ⟨e, a, rs, _, h1, ⟨rfl, begF_keep kbb_keeps hb (h4.mono (fun q _ e => by omega)), ((ruleG_keeps (kmb_keeps S)).down B _ w' (.slice none 0 0) rs (.slice none 0 0) ⟨rfl, rfl, h2⟩ hBW).2.2⟩, h3, h4⟩
  · rintro en w' ⟨pb, a, b, c, e, h1, ⟨rfl, h2, h3⟩, h4⟩
    exact ⟨pb, a, b, e, h1, h2, h3, h4⟩
end Go.Proofs.YtdbdbaepmdmnfaaGreatDoor

namespace Go.Proofs.YtdbdbaepmdmnfaaGreatDoor
open Go.RowKit
/-- The variables: NR is nr, NF is nf, FS a newline; n is what the last three cells tell. -/
def csR (nr nf : Nat) (a k : Int) : List Value := [.int .i64 1, .int .i64 nr, .string ⟨#[]⟩, .int .i64 1, .int .i64 nf, .string ⟨#[]⟩, .int .i64 2, .int .i64 0, .string (ofB [10]), .int .i64 2, .int .i64 0, .string ⟨#[32]⟩, .int .i64 2, .int .i64 0, .string ⟨#[10]⟩, .int .i64 1, .int .i64 0, .string ⟨#[]⟩, .int .i64 1, .int .i64 (-1), .string ⟨#[]⟩, .int .i64 a, .int .i64 k, .string ⟨#[]⟩]
/-- A state of the program's run. -/
def stR (t : List UInt8) (nr : Nat) (a k : Int) (o : List UInt8) (f : Nat) : St8 := ⟨ofB t, lnF t, csR nr (lnF t).length a k, ofB o, f⟩
/-- The machine as it was made. -/
def st0 : St8 := ⟨⟨#[]⟩, [], first8, ⟨#[]⟩, 2000⟩
theorem ofB_app (a b : List UInt8) : ofB a ++ ofB b = ofB (a ++ b) := by
  apply ByteArray.ext
  rw [ByteArray.data_append]
  apply Array.toList_inj.1
  simp [ofB]
theorem ofB_len (l : List UInt8) : (ofB l).size = l.length := by show l.toArray.size = _; simp
theorem ofB_nl (o x : List UInt8) : ofB o ++ (ofB x ++ ⟨#[10]⟩) = ofB (o ++ x ++ [10]) := by
  show ofB o ++ (ofB x ++ ofB [10]) = _
  rw [ofB_app, ofB_app, List.append_assoc]
/-- The beginning: FS = newline. -/
theorem begin_does (p : Pl8) (B : Nat) (v : Value) (h : BlockK KBs 1 B p.wN v) : Does p st0 (stR [] 0 0 0 [] 1999) v := by
  have hD := does_block p (fun i => if i = 0 then st0 else stR [] 0 0 0 [] 1999) B 1 (by omega) KBs v h (fun i x hi hx => by
    obtain rfl : i = 0 := by omega
    show Does p st0 (stR [] 0 0 0 [] 1999) x
    refine does_step p ⟨⟨#[]⟩, [], first8, ⟨#[]⟩, 1999⟩ _ 1999 (by omega) B (WorkK JFS) x hx (fun z hz => ?_)
    refine does_work p _ _ B JFS z (.agg #[.int .i64 2, .int .i64 0, .string (ofB [10])]) hz (fun x y h => ?_)
    obtain ⟨lb, rb, x1, y1, x2, y2, e, _, hl, hr, h1, h2⟩ := h
    obtain ⟨rfl, _⟩ := agg_two e
    exact works_setG p ⟨⟨#[]⟩, [], first8, ⟨#[]⟩, 1999⟩ (stR [] 0 0 0 [] 1999) 308 310 2 lb rb x1 y1 x2 y2 2 0 (ofB [10]) hl hr (finds_var p _ 2 B x1 y1 h1) (gives_str p _ B (ofB [10]) x2 y2 h2) (stores_var p ⟨⟨#[]⟩, [], first8, ⟨#[]⟩, 1999⟩ 2 (by omega) (by omega) 2 0 (ofB [10]) _ _ _ rfl rfl rfl))
  exact hD
/-- n = gsub(S, ""). -/
theorem works_gsub (p : Pl8) (S t : List UInt8) (hS : S.length ≤ 100) (R : Pat) (hR : wholeP S = some R) (F : AS) (hF : Came R t F) (ht : t.length ≤ 60) (hno : ∀ c ∈ t, c ≠ 10) (a k : Int) (o : List UInt8) (f B : Nat) (x y : Value) (h : JG S B p.wN (.agg #[x, y])) : Works p (stR t 1 a k o f) (stR (left t F) 1 1 F.count o f) x (.agg #[.int .i64 1, .int .i64 F.count, .string ⟨#[]⟩]) := by
  obtain ⟨lb, rb, x1, y1, x2, y2, e, _, hl, hr, h1, h2⟩ := h
  obtain ⟨rfl, _⟩ := agg_two e
  have hw : Works p (stR t 1 a k o f) (stR (left t F) 1 a k o f) x2 (.agg #[.int .i64 1, .int .i64 F.count, .string ⟨#[]⟩]) := by
    refine works_repl p (stR t 1 a k o f) (stR (left t F) 1 a k o f) (ofB S) R hR (by rw [ofB_len]; omega) B x2 y2 h2 (by show (ofB t).size ≤ 60; rw [ofB_len]; exact ht) F hF.all (by have := hF.few; omega) (fun hc => ?_) (fun hc => ?_)
    · have hl : left t F = F.made := if_neg (by omega)
      rw [hl]
      exact stores_zero p (stR t 1 a k o f) (ofB F.made) (by rw [ofB_len]; have := hF.made.2.1; omega) (fun c hc => hno c (hF.made.2.2 c hc)) _ _ _ rfl rfl rfl rfl rfl rfl
    · have hl : left t F = t := if_pos hc
      rw [hl]
  exact works_setW p (stR t 1 a k o f) (stR (left t F) 1 a k o f) (stR (left t F) 1 1 F.count o f) 308 310 7 lb rb x1 y1 x2 y2 1 F.count ⟨#[]⟩ hl hr (finds_var p _ 7 B x1 y1 h1) hw (stores_var p (stR (left t F) 1 a k o f) 7 (by omega) (by omega) 1 F.count ⟨#[]⟩ _ _ _ rfl rfl rfl)
/-- print n. -/
theorem does_n (p : Pl8) (htab : Lib.TabIs Tryz.prog p.wN "internal/strconv.uint64pow10" .u64 Lib.pow10Tab) (t : List UInt8) (n : Nat) (hn : n ≤ 400) (hd : (Lib.decDigits n).length ≤ 30) (o : List UInt8) (ho : o.length ≤ 3000) (f : Nat) (hf : f ≤ 100000) (B : Nat) (v : Value) (h : StF (PrintK (VarK 7)) B p.wN v) : Does p (stR t 1 1 n o (f + 1)) (stR t 1 1 n (o ++ Lib.decDigits n ++ [10]) f) v := by
  refine does_step p (stR t 1 1 n o f) _ f hf B (PrintK (VarK 7)) v h (fun x hx => ?_)
  have hi : (Lib.itoa (n : Int)) = Lib.decDigits n := Lib.itoa_nonneg n
  have := does_print p (stR t 1 1 n o f) B (VarK 7) x hx 1 n ⟨#[]⟩ (ofB (Lib.decDigits n)) (fun x y hv => ⟨gives_var p _ 7 B x y hv (by omega) 1 n ⟨#[]⟩ rfl rfl rfl, by
      obtain ⟨g, nb, e, _⟩ := hv
      exact ⟨_, _, (agg_two e).2⟩⟩) (fun W hW => by
      have := text_num n (by omega) ⟨#[]⟩ W (tab_only htab hW.O)
      rw [hi] at this
      exact this) (by rw [ofB_len]; omega) (by show (ofB o).size + _ + 1 ≤ 4000; rw [ofB_len, ofB_len]; omega) rfl rfl rfl rfl rfl rfl
  have e : (stR t 1 1 n (o ++ Lib.decDigits n ++ [10]) f) = { stR t 1 1 n o f with out := (stR t 1 1 n o f).out ++ (ofB (Lib.decDigits n) ++ ⟨#[10]⟩) } := by
    show _ = St8.mk (ofB t) (lnF t) (csR 1 (lnF t).length 1 n) (ofB o ++ (ofB (Lib.decDigits n) ++ ⟨#[10]⟩)) f
    rw [ofB_nl]
    rfl
  rw [e]
  exact this
/-- print. -/
theorem does_rec (p : Pl8) (t : List UInt8) (ht : t.length ≤ 900) (a k : Int) (o : List UInt8) (ho : o.length ≤ 3000) (f : Nat) (hf : f ≤ 100000) (B : Nat) (v : Value) (h : StF PrintF B p.wN v) : Does p (stR t 1 a k o (f + 1)) (stR t 1 a k (o ++ t ++ [10]) f) v := by
  refine does_step p (stR t 1 a k o f) _ f hf B PrintF v h (fun x hx => ?_)
  have := does_bare p (stR t 1 a k o f) B x hx (by show (ofB t).size ≤ 900; rw [ofB_len]; exact ht) (by show (ofB o).size + (ofB t).size + 1 ≤ 4000; rw [ofB_len, ofB_len]; omega) rfl rfl rfl
  have e : (stR t 1 a k (o ++ t ++ [10]) f) = { stR t 1 a k o f with out := (stR t 1 a k o f).out ++ ((stR t 1 a k o f).txt ++ ⟨#[10]⟩) } := by
    show _ = St8.mk (ofB t) (lnF t) (csR 1 (lnF t).length a k) (ofB o ++ (ofB t ++ ⟨#[10]⟩)) f
    rw [ofB_nl]
    rfl
  rw [e]
  exact this
/-- What the program's block does with a record. -/
theorem body_doesR (p : Pl8) (htab : Lib.TabIs Tryz.prog p.wN "internal/strconv.uint64pow10" .u64 Lib.pow10Tab) (S t : List UInt8) (hS : S.length ≤ 100) (R : Pat) (hR : wholeP S = some R) (F : AS) (hF : Came R t F) (ht : t.length ≤ 60) (hno : ∀ c ∈ t, c ≠ 10) (hdd : ∀ k, k ≤ 400 → (Lib.decDigits k).length ≤ 30) (B : Nat) (v : Value) (h : BlockK (KMs S) 3 B p.wN v) :
    Does p (stR t 1 0 0 [] 1998) (stR (left t F) 1 1 F.count (outR t F) 1995) v := by
  have hfew := hF.few
  have hd := hdd F.count (by omega)
  have hl := (left_of hF).1
  let st : Nat → St8 := fun i => match i with
    | 0 => stR t 1 0 0 [] 1998
    | 1 => stR (left t F) 1 1 F.count [] 1997
    | 2 => stR (left t F) 1 1 F.count (Lib.decDigits F.count ++ [10]) 1996
    | _ => stR (left t F) 1 1 F.count (outR t F) 1995
  refine does_block p st B 3 (by omega) (KMs S) v h (fun i x hi hx => ?_)
  match i, hi, hx with
  | 0, _, hx =>
    refine does_step p (stR t 1 0 0 [] 1997) _ 1997 (by omega) B (WorkK (JG S)) x hx (fun z hz => ?_)
    exact does_work p _ _ B (JG S) z _ hz (fun x y h => works_gsub p S t hS R hR F hF ht hno 0 0 [] 1997 B x y h)
  | 1, _, hx =>
    have := does_n p htab (left t F) F.count (by omega) hd [] (by simp) 1996 (by omega) B x hx
    exact this
  | 2, _, hx =>
    have := does_rec p (left t F) (by omega) 1 F.count (Lib.decDigits F.count ++ [10]) (by rw [List.length_append]; show _ + 1 ≤ 3000; omega) 1995 (by omega) B x hx
    exact this
end Go.Proofs.YtdbdbaepmdmnfaaGreatDoor

