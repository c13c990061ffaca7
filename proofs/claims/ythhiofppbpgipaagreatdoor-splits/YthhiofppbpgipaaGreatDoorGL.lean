import Derived.Test.YthhiofppbpgipaaGreatDoorGK
import Derived.Deep.DeepCutAuto
import Derived.Deep.LoopGhost
namespace Go.Proofs.YthhiofppbpgipaaGreatDoor
open Go.RowKit
/-- Where a piece without parts comes to from a place. -/
def oneP (x : Pc) (t : List UInt8) (i : Nat) : Option Nat :=
  if x.K = 101 then some i else if x.K = 94 then (if i = 0 then some i else none) else if x.K = 36 then (if i = t.length then some i else none)
  else match t[i]? with | none => none | some c => if x.K = 46 ∨ (x.K = 99 ∧ x.C = c.toNat) ∨ (x.K = 91 ∧ x.set c = true) then some (i + 1) else none
def placeI (o : Option Nat) : Int := match o with | none => -1 | some j => j
theorem bools_get (S : UInt8 → Bool) (c : UInt8) : (bools S)[c.toNat]? = some (.bool (S c)) := by
  unfold bools
  rw [List.getElem?_map, List.getElem?_range c.toNat_lt]
  simp
def Leaf (x : Pc) : Prop := x.K = 101 ∨ x.K = 94 ∨ x.K = 36 ∨ x.K = 46 ∨ x.K = 99 ∨ x.K = 91
set_option maxHeartbeats 4000000 in
theorem one_cls (C A B : Nat) (g nS cS : Nat) (s : ByteArray) (i : Nat) (hlt : i < s.size) (h6 : s.size ≤ 65000) (w : World) (hn : nS = 256) (t : Bool) (k0 : w.cell? ⟨g, s[i].toNat, none⟩ = some (.bool t)) :
    Calls Tryz.prog 194 #[.agg #[.int .u8 91, .int .u8 C, .slice (some ⟨g, 0, none⟩) nS cS, .int .i64 A, .int .i64 B], .string s, .int .i64 i] w fun e w' => e = .returned (.int .i64 (placeI (if t = true then some (i + 1) else none))) ∧ Only (fun _ => False) w w' := by
  have hli : (i : Int) < (s.size : Int) := by omega
  have hcn : (s[i].toNat : Int) < (nS : Int) := by have := s[i].toNat_lt; omega
  have hgl : g < w.heap.size := World.block_lt_of_cell? w _ k0
  have h00 : (0 : Int) ≤ (s[i].toNat : Int) := Int.natCast_nonneg _
  have h255 : (s[i].toNat : Int) ≤ 255 := by have := s[i].toNat_lt; omega
  have HK := hide k0
  clear k0 hn
  cases t
  · go_enter Tryz.func194, Tryz.ntmps194
    go_upto_region 14 with fail
    have k0 := HK.out
    go_quiet (fail)
    go_wp2
    go_ret
    exact ⟨rfl, ((Only.refl _ w).alloc _).drewN _⟩
  · go_enter Tryz.func194, Tryz.ntmps194
    go_upto_region 14 with fail
    have k0 := HK.out
    go_quiet (fail)
    go_wp2
    go_ret
    exact ⟨rfl, ((Only.refl _ w).alloc _).drewN _⟩
set_option maxHeartbeats 4000000 in
theorem one_any (x : Pc) (pS : Option Addr) (nS cS : Nat) (s : ByteArray) (i : Nat) (hx : Leaf x) (hi : i ≤ s.size) (h6 : s.size ≤ 65000) (w : World) (hs : SetV w x (.slice pS nS cS)) :
    Calls Tryz.prog 194 #[.agg #[.int .u8 x.K, .int .u8 x.C, .slice pS nS cS, .int .i64 x.A, .int .i64 x.B], .string s, .int .i64 i] w fun e w' => e = .returned (.int .i64 (placeI (oneP x s.data.toList i))) ∧ Only (fun _ => False) w w' := by
  obtain ⟨R, HR⟩ : ∃ R, Hid (oneP x s.data.toList i = R) := ⟨_, rfl⟩
  rw [HR.out]
  have HS := hide hs
  have HX := hide hx
  obtain ⟨K, C, S, A, B⟩ := x
  clear hs hx
  have hlen : s.data.toList.length = s.size := len_eq s
  rcases HX.out with h | h | h | h | h | h
  all_goals
    have hK : K = _ := h
    subst hK
    clear h
  · have hr : R = some i := by rw [← HR.out]; rfl
    subst hr
    go_enter Tryz.func194, Tryz.ntmps194
    go_wp2
    go_ret
    exact ⟨rfl, (Only.refl _ w).alloc _⟩
  · by_cases h0 : i = 0
    · have hr : R = some 0 := by rw [← HR.out, h0]; rfl
      subst hr
      subst h0
      go_enter Tryz.func194, Tryz.ntmps194
      go_wp2
      go_ret
      exact ⟨rfl, (Only.refl _ w).alloc _⟩
    · have hr : R = none := by rw [← HR.out]; show (if i = 0 then some i else none) = none; rw [if_neg h0]
      subst hr
      have hb : ((i : Int) == 0) = false := by rw [beq_eq_false_iff_ne]; omega
      clear h0
      go_enter Tryz.func194, Tryz.ntmps194
      go_wp2
      go_ret
      exact ⟨rfl, (Only.refl _ w).alloc _⟩
  · by_cases h0 : i = s.size
    · have hr : R = some i := by rw [← HR.out]; show (if i = s.data.toList.length then some i else none) = some i; rw [if_pos (by omega)]
      subst hr
      have hb : ((i : Int) == (s.size : Int)) = true := by rw [beq_iff_eq]; omega
      clear h0
      go_enter Tryz.func194, Tryz.ntmps194
      go_wp2
      go_ret
      exact ⟨rfl, (Only.refl _ w).alloc _⟩
    · have hr : R = none := by rw [← HR.out]; show (if i = s.data.toList.length then some i else none) = none; rw [if_neg (by omega)]
      subst hr
      have hb : ((i : Int) == (s.size : Int)) = false := by rw [beq_eq_false_iff_ne]; omega
      clear h0
      go_enter Tryz.func194, Tryz.ntmps194
      go_wp2
      go_ret
      exact ⟨rfl, (Only.refl _ w).alloc _⟩
  · by_cases hlt : i < s.size
    · have hli : (i : Int) < (s.size : Int) := by omega
      have HG := hide (get_of_lt s i hlt)
      have hr : R = some (i + 1) := by
        rw [← HR.out]
        unfold oneP
        simp [HG.out]
      subst hr
      go_enter Tryz.func194, Tryz.ntmps194
      go_wp2
      go_quiet (fail)
      go_wp2
      go_ret
      exact ⟨rfl, ((Only.refl _ w).alloc _).drewN _⟩
    · have hli : ¬ (i : Int) < (s.size : Int) := by omega
      have HG := hide (get_none s i (by omega))
      have hr : R = none := by
        rw [← HR.out]
        show (match s.data.toList[i]? with | none => none | some c => _) = none
        rw [HG.out]
      subst hr
      go_enter Tryz.func194, Tryz.ntmps194
      go_wp2
      go_ret
      exact ⟨rfl, (Only.refl _ w).alloc _⟩
  · by_cases hlt : i < s.size
    · have hli : (i : Int) < (s.size : Int) := by omega
      have HG := hide (get_of_lt s i hlt)
      by_cases hc : C = s[i].toNat
      · have hr : R = some (i + 1) := by
          rw [← HR.out]
          unfold oneP
          simp [HG.out, hc]
        subst hr
        have hb : ((C : Int) == (s[i].toNat : Int)) = true := by rw [beq_iff_eq]; omega
        clear hc
        go_enter Tryz.func194, Tryz.ntmps194
        go_wp2
        go_quiet (fail)
        go_wp2
        go_ret
        exact ⟨rfl, ((Only.refl _ w).alloc _).drewN _⟩
      · have hr : R = none := by
          rw [← HR.out]
          unfold oneP
          simp [HG.out, hc]
        subst hr
        have hb : ((C : Int) == (s[i].toNat : Int)) = false := by rw [beq_eq_false_iff_ne]; omega
        clear hc
        go_enter Tryz.func194, Tryz.ntmps194
        go_wp2
        go_quiet (fail)
        go_wp2
        go_ret
        exact ⟨rfl, ((Only.refl _ w).alloc _).drewN _⟩
    · have hli : ¬ (i : Int) < (s.size : Int) := by omega
      have HG := hide (get_none s i (by omega))
      have hr : R = none := by
        rw [← HR.out]
        show (match s.data.toList[i]? with | none => none | some c => _) = none
        rw [HG.out]
      subst hr
      go_enter Tryz.func194, Tryz.ntmps194
      go_wp2
      go_ret
      exact ⟨rfl, (Only.refl _ w).alloc _⟩
  · by_cases hlt : i < s.size
    · have hli : (i : Int) < (s.size : Int) := by omega
      have HG := hide (get_of_lt s i hlt)
      obtain ⟨g, e, hg⟩ := HS.out.2 rfl
      injection e with e1 e2 e3
      subst e1
      have k1 : w.cell? ⟨g, s[i].toNat, none⟩ = some (.bool (S s[i])) := cell_of hg (by rw [List.getElem?_toArray]; exact bools_get S s[i])
      have hr : R = if S s[i] = true then some (i + 1) else none := by
        rw [← HR.out]
        unfold oneP
        simp [HG.out]
      rw [hr]
      exact one_cls C A B g nS cS s i hlt h6 w e2 _ k1
    · have hli : ¬ (i : Int) < (s.size : Int) := by omega
      have HG := hide (get_none s i (by omega))
      have hr : R = none := by
        rw [← HR.out]
        show (match s.data.toList[i]? with | none => none | some c => _) = none
        rw [HG.out]
      subst hr
      go_enter Tryz.func194, Tryz.ntmps194
      go_wp2
      go_ret
      exact ⟨rfl, (Only.refl _ w).alloc _⟩
end Go.Proofs.YthhiofppbpgipaaGreatDoor

namespace Go.Proofs.YthhiofppbpgipaaGreatDoor
open Go.RowKit
/-- The pieces that a value of the reference's type of patterns holds. -/
def PcAt (w : World) (v : Value) (P : List Pc) : Prop := ∃ xs, w.ownsRow 0 156 5 v P.length xs ∧ PcCells w P xs
theorem PcAt.only {w w' v P D} (h : PcAt w v P) (ho : Only D w w') (hD : ∀ k, k < w.heap.size → ¬ D k) : PcAt w' v P := by
  obtain ⟨xs, h2, h3⟩ := h
  exact ⟨xs, ownsRow_of h2 (fun k hk => ho.block k (h2.lt k hk).2 (hD _ (h2.lt k hk).2)), h3.of (fun g c hg => ho.block g (heap_lt hg) (hD _ (heap_lt hg)))⟩
/-- What piece k of P means; d levels at most. -/
def PcIs (P : List Pc) : Nat → Nat → Pat → Prop
  | 0, _, _ => False
  | d + 1, k, R => ∃ x, P[k]? = some x ∧ ((Leaf x ∧ ∀ t i j, i ≤ t.length → (R t i j ↔ oneP x t i = some j)) ∨ (x.K = 38 ∧ ∃ S T, PcIs P d x.A S ∧ PcIs P d x.B T ∧ R = compR S T) ∨ (x.K = 124 ∧ ∃ S T, PcIs P d x.A S ∧ PcIs P d x.B T ∧ R = orR S T) ∨
      (x.K = 63 ∧ ∃ S, PcIs P d x.A S ∧ R = optR S) ∨ (x.K = 42 ∧ ∃ S, PcIs P d x.A S ∧ R = starR S) ∨ (x.K = 43 ∧ ∃ S, PcIs P d x.A S ∧ R = plusR S))
def EndsPost (w : World) (n : Nat) (t : List UInt8) (R : Pat) (f : List Bool) (e : Ending) (w' : World) : Prop :=
  ∃ (g : Nat) (out : List Bool) (cap : Nat), e = .returned (.slice (some ⟨g, 0, none⟩) n cap) ∧ BitsAt w' g out ∧ Img (R t) f out ∧ w.heap.size ≤ g ∧ Only (fun _ => False) w w'
def EndsOK (d : Nat) : Prop := ∀ (P : List Pc) (k : Nat) (R : Pat) (v : Value) (top : Nat) (s : ByteArray) (gf cf : Nat) (f : List Bool) (w : World), PcIs P d k R → PcAt w v P → P.length ≤ 1000000 → s.size ≤ 65000 → f.length = s.size + 1 → BitsAt w gf f →
  Calls Tryz.prog 113 #[.agg #[v, .int .i64 top], .int .i64 k, .string s, .slice (some ⟨gf, 0, none⟩) (s.size + 1) cf] w (EndsPost w (s.size + 1) s.data.toList R f)
theorem Img.len {R f out} (h : Img R f out) : out.length = f.length := h.1
set_option maxRecDepth 10000 in
set_option maxHeartbeats 4000000 in
theorem again_any (d : Nat) (hd : EndsOK d) (P : List Pc) (x : Pc) (hK : x.K = 42 ∨ x.K = 43) (S : Pat) (hS : PcIs P d x.A S) (pS : Option Addr) (nS cS : Nat) (v : Value) (top : Nat) (s : ByteArray) (gf cf : Nat) (f : List Bool) (w : World) (hP : PcAt w v P) (hPl : P.length ≤ 1000000) (h6 : s.size ≤ 65000) (hf : f.length = s.size + 1) (hb : BitsAt w gf f) :
    Calls Tryz.prog 193 #[.agg #[v, .int .i64 top], .agg #[.int .u8 x.K, .int .u8 x.C, .slice pS nS cS, .int .i64 x.A, .int .i64 x.B], .string s, .slice (some ⟨gf, 0, none⟩) (s.size + 1) cf] w (EndsPost w (s.size + 1) s.data.toList (if x.K = 42 then starR S else plusR S) f) := by
  obtain ⟨K, C, St0, A, B⟩ := x
  obtain ⟨RR, HRR⟩ : ∃ RR, Hid ((if K = 42 then starR S else plusR S) = RR) := ⟨_, rfl⟩
  show Calls _ _ _ _ (EndsPost w (s.size + 1) s.data.toList (if K = 42 then starR S else plusR S) f)
  rw [HRR.out]
  obtain ⟨po, cap, rfl⟩ : ∃ po cap, v = .slice po P.length cap := by obtain ⟨xs, h2, _⟩ := hP; exact ownsRow_slice h2
  have hKK : K = 42 ∨ K = 43 := hK
  have HK := hide hKK
  have HS : Hid (PcIs P d A S) := hS
  have HD := hide hd
  have HP := hide hP
  have HB := hide hb
  have hgf := heap_lt hb
  clear hK hKK hS hd hP hb
  have ho0 : ∀ o1 o2, Hid (Only (fun _ => False) w ((w.alloc o1).alloc o2)) := fun o1 o2 => ((Only.refl _ w).alloc o1).alloc o2
  go_enter Tryz.func193, Tryz.ntmps193
  go_wp2_with fail
  refine (HD.out P A S _ top s gf cf f _ HS.out (HP.out.only (ho0 _ _).out (fun _ _ e => e)) hPl h6 hf (HB.out.only (ho0 _ _).out (fun e => e))).mono ?_
  rintro e w1 ⟨g, out, co, rfl, hb1, him, hgl, ho1⟩
  have hgl2 : w.heap.size + 2 ≤ g := by simpa using hgl
  have hbx1 : w1.heap[w.heap.size]? = some (.cells #[.slice po P.length cap, .int .i64 top] 66 (0, 0)) := (ho1.block w.heap.size (by simp; omega) (fun e => e)).trans ((Below.heap_alloc _ _ _ (by simp)).trans (new0 w _))
  have hbx2 : w1.heap[w.heap.size + 1]? = some (.cells #[.int .u8 K, .int .u8 C, .slice pS nS cS, .int .i64 A, .int .i64 B] 156 (0, 0)) := (ho1.block (w.heap.size + 1) (by simp) (fun e => e)).trans (newb1 w _ _)
  have HO1 : Hid (Only (fun _ => False) w w1) := (ho0 _ _).out.trans ho1 (fun _ _ e => e)
  have HX1 := hide hbx1
  have HX2 := hide hbx2
  have HB1 := hide hb1
  have HIm := hide him
  have hl1 : out.length = s.size + 1 := by rw [him.1, hf]
  have hg1 := heap_lt hb1
  clear ho1 hb1 him hbx1 hbx2 hgl ho0
  go_wp2
  go_loopw [10, 11] (fun s10 s11 wr => ∃ (n : Nat) (more : Bool) (o : List Bool), s10 = .bool more ∧ s11 = .int .i64 n ∧ n ≤ s.size + 2 ∧ o.length = s.size + 1 ∧ BitsAt wr g o ∧ Rounds (S s.data.toList) f o n more ∧ Only (fun k => k = g) w1 wr) (fun _ s11 _ => s.size + 3 - (intOf s11).toNat)
  case atStart => exact ⟨0, true, out, rfl, rfl, by omega, hl1, HB1.out, Rounds.begin HIm.out, Only.refl _ _⟩
  case round =>
    clear HIm HB1
    obtain ⟨n, more, o, e10, e11, hn, hol, hbo, hR, ho⟩ := hrel
    subst e10
    subst e11
    have hx1 := (ho.block w.heap.size (by omega) (by omega)).trans HX1.out
    have hx2 := (ho.block (w.heap.size + 1) (by omega) (by omega)).trans HX2.out
    have p0 : wr.cell? ⟨w.heap.size, 0, none⟩ = some (.slice po P.length cap) := cell_of hx1 rfl
    have p1 : wr.cell? ⟨w.heap.size, 1, none⟩ = some (.int .i64 top) := cell_of hx1 rfl
    have q0 : wr.cell? ⟨w.heap.size + 1, 0, none⟩ = some (.int .u8 K) := cell_of hx2 rfl
    have q3 : wr.cell? ⟨w.heap.size + 1, 3, none⟩ = some (.int .i64 A) := cell_of hx2 rfl
    have HOw : Hid (Only (fun _ => False) w wr) := HO1.out.trans ho (fun k hk e => by omega)
    have HBo := hide hbo
    have HR := hide hR
    have HOo := hide ho
    clear hbo hR ho hx1 hx2
    by_cases hgo : n ≤ s.size + 1 ∧ more = true
    · obtain ⟨hn1, hm⟩ := hgo
      subst hm
      have hni : (n : Int) ≤ (s.size : Int) + 1 := by omega
      go_wp2_with fail
      refine (HD.out P A S _ top s g co o wr HS.out (HP.out.only HOw.out (fun _ _ e => e)) hPl h6 hol HBo.out).mono ?_
      rintro e w2 ⟨gn, nx, cn, rfl, hbn, himn, hgn, ho2⟩
      have hgg : g < wr.heap.size := heap_lt HBo.out
      have hln : nx.length = s.size + 1 := by rw [himn.1, hol]
      have HBn := hide hbn
      have HIn := hide himn
      have HB2 := hide (HBo.out.only ho2 (fun e => e))
      have HO2 := hide ho2
      clear hbn himn ho2
      go_wp2_with fail
      have HJ := join_any g gn co cn o nx (by omega) (by omega) (by omega) w2 HB2.out HBn.out
      rw [hol, hln] at HJ
      refine HJ.mono ?_
      rintro e w3 ⟨t, rfl, hb3, ho3, ht⟩
      have HB3 := hide hb3
      have HR3 := hide (HR.out.round HIn.out ht)
      have HO3 : Hid (Only (fun k => k = g) w1 w3) := (HOo.out.trans HO2.out (fun _ _ e => e.elim)).trans ho3 (fun _ _ e => e)
      have hl3 : (joinB o nx).length = s.size + 1 := by rw [joinB_length (by omega)]; exact hol
      clear hb3 ho3 ht HJ
      go_wp2
      go_roundw
      case rel => exact ⟨n + 1, t, joinB o nx, rfl, by go_num, by omega, hl3, HB3.out, HR3.out, HO3.out⟩
      case measure => simp [intOf]; omega
    · have HI := hide (HR.out.done (by
        cases more with
        | false => exact Or.inl rfl
        | true => exact Or.inr (by rw [hf]; have : ¬ n ≤ s.size + 1 := fun h => hgo ⟨h, rfl⟩; omega)))
      clear HR HOo
      by_cases hn1 : n ≤ s.size + 1
      · have hm : more = false := by
          cases more with
          | false => rfl
          | true => exact absurd ⟨hn1, rfl⟩ hgo
        subst hm
        have hni : (n : Int) ≤ (s.size : Int) + 1 := by omega
        clear hgo
        rcases HK.out with hk | hk
        · subst hk
          have HRs : Hid (RR = starR S) := HRR.out.symm
          go_wp2_with fail
          have HJ := join_any g gf co cf o f (by omega) (by omega) (by omega) wr HBo.out (HB.out.only HOw.out (fun e => e))
          rw [hol, hf] at HJ
          refine HJ.mono ?_
          rintro e w3 ⟨t, rfl, hb3, ho3, _⟩
          have HB3 := hide hb3
          have HO3 : Hid (Only (fun _ => False) w w3) := HOw.out.trans ho3 (fun k hk e => by omega)
          clear hb3 ho3 HJ
          go_wp2
          go_ret
          exact ⟨g, joinB o f, co, rfl, HB3.out, by rw [HRs.out]; exact HI.out.star, by omega, HO3.out⟩
        · subst hk
          have HRs : Hid (RR = plusR S) := HRR.out.symm
          go_wp2
          go_ret
          exact ⟨g, o, co, rfl, HBo.out, by rw [HRs.out]; exact HI.out, by omega, HOw.out⟩
      · have hni : ¬ (n : Int) ≤ (s.size : Int) + 1 := by omega
        clear hgo
        rcases HK.out with hk | hk
        · subst hk
          have HRs : Hid (RR = starR S) := HRR.out.symm
          go_wp2_with fail
          have HJ := join_any g gf co cf o f (by omega) (by omega) (by omega) wr HBo.out (HB.out.only HOw.out (fun e => e))
          rw [hol, hf] at HJ
          refine HJ.mono ?_
          rintro e w3 ⟨t, rfl, hb3, ho3, _⟩
          have HB3 := hide hb3
          have HO3 : Hid (Only (fun _ => False) w w3) := HOw.out.trans ho3 (fun k hk e => by omega)
          clear hb3 ho3 HJ
          go_wp2
          go_ret
          exact ⟨g, joinB o f, co, rfl, HB3.out, by rw [HRs.out]; exact HI.out.star, by omega, HO3.out⟩
        · subst hk
          have HRs : Hid (RR = plusR S) := HRR.out.symm
          go_wp2
          go_ret
          exact ⟨g, o, co, rfl, HBo.out, by rw [HRs.out]; exact HI.out, by omega, HOw.out⟩
end Go.Proofs.YthhiofppbpgipaaGreatDoor

