import Derived.Test.YtdbdbaepmdmnfaaGreatDoorZ31
import Derived.Test.YtdbdbaepmdmnfaaGreatDoorZ32
import Derived.Test.YtdbdbaepmdmnfaaGreatDoorProg
import Derived.Shelf.Strings.OnBuilder
import Derived.Test.YtdbdbaepmdmnfaaGreatDoorZ18
namespace Go.Proofs.YtdbdbaepmdmnfaaGreatDoor
open Go.RowKit
theorem set3 {w : World} {b : Nat} {x0 x1 x2 : Value} (h : w.heap[b]? = some (.cells #[x0, x1, x2] 203 (0, 0))) (u0 u1 u2 : Value) : (((w.setCell ⟨b, 0, none⟩ u0).setCell ⟨b, 1, none⟩ u1).setCell ⟨b, 2, none⟩ u2).heap[b]? = some (.cells #[u0, u1, u2] 203 (0, 0)) := heap_setCell_same (heap_setCell_same (heap_setCell_same h u0) u1) u2
theorem set3D {w : World} {b : Nat} {x0 x1 x2 : Value} (h : w.heap[b]? = some (.cells #[x0, x1, x2] 203 (0, 0))) (u0 u1 u2 : Value) : (((w.setCell ⟨b, 0, none⟩ u0).setCell ⟨b, 1, none⟩ u1).setCell ⟨b, 2, none⟩ u2).drew.heap[b]? = some (.cells #[u0, u1, u2] 203 (0, 0)) := set3 h u0 u1 u2
set_option maxRecDepth 20000 in
set_option maxHeartbeats 2000000 in
/-- What was made of a store that adds. -/
theorem works_addG (p : Pl8) (s s' : St8) (ft fst k lb rb kb ob : Nat) (x1 y1 x2 y2 : Value) (x y : Nat) (hx : x ≤ 100000) (hy : y ≤ 100000) (t1 t2 : ByteArray) (hl : p.wN.heap[lb]? = some (.cells #[x1, y1] 338 (0, 0))) (hr : p.wN.heap[rb]? = some (.cells #[x2, y2] 338 (0, 0))) (hkb : p.wN.heap[kb]? = some (.cells #[.func (.func 455) #[] #[.pointer (some ⟨ob, 0, none⟩)]] 476 (0, 0))) (hob : p.wN.heap[ob]? = some (.cells #[.func (.func 416) #[] #[]] 511 (0, 0))) (hF : FindsK p s ft fst k y1) (hT : TakesK p s ft k 1 x t1) (hG : Gives p s x2 (.agg #[.int .i64 1, .int .i64 y, .string t2])) (hS : StoresK p s s' fst k (.agg #[.int .i64 1, .int .i64 ((x : Int) + (y : Int)), .string ⟨#[]⟩])) : Works p s s' (.func (.func 353) #[] #[.pointer (some ⟨lb, 0, none⟩), .pointer (some ⟨rb, 0, none⟩), .pointer (some ⟨kb, 0, none⟩)]) (.agg #[.int .i64 1, .int .i64 ((x : Int) + (y : Int)), .string ⟨#[]⟩]) := by
  refine ⟨353, [.pointer (some ⟨lb, 0, none⟩), .pointer (some ⟨rb, 0, none⟩), .pointer (some ⟨kb, 0, none⟩)], rfl, cf353, fun w h => ?_⟩
  obtain ⟨F1, caps1, rfl, hcf1, hF⟩ := hF
  obtain ⟨F2, caps2, rfl, hcf2, hG⟩ := hG
  obtain ⟨hcf3, hS⟩ := hS
  obtain ⟨hcf4, hT⟩ := hT
  unfold Enters at hcf1 hcf2 hcf3 hcf4
  have hcf5 := cf455
  have hmf := hmfT
  have hsf := hsfT
  have hsn := hsnT
  have hlw := (h.O.block lb (heap_lt hl) (fun e => e)).trans hl
  have hrw := (h.O.block rb (heap_lt hr) (fun e => e)).trans hr
  have hkw := (h.O.block kb (heap_lt hkb) (fun e => e)).trans hkb
  have how := (h.O.block ob (heap_lt hob) (fun e => e)).trans hob
  have ek : w.cell? ⟨kb, 0, none⟩ = some (.func (.func 455) #[] #[.pointer (some ⟨ob, 0, none⟩)]) := cell_of hkw rfl
  have kl := heap_lt hkw
  have HOb := hide how
  have el : w.cell? ⟨lb, 1, none⟩ = some (.func (.func F1) #[] caps1.toArray) := cell_of hlw rfl
  have er : w.cell? ⟨rb, 0, none⟩ = some (.func (.func F2) #[] caps2.toArray) := cell_of hrw rfl
  have ll := heap_lt hlw
  have rl := heap_lt hrw
  have HH := hide h
  have HF := hide (fun W (hW : Only (fun _ => False) w W) => hF W (h.calm hW))
  have HG := hide (fun W (hW : Only (fun _ => False) w W) => hG W (h.calm hW))
  have HS := hide (fun W b2 nb (hW : Only (fun _ => False) w W) => hS W b2 nb (h.calm hW))
  have HTk := hide (fun W b2 nb (hW : Only (fun _ => False) w W) => hT W b2 nb (h.calm hW))
  clear h hlw hrw hkw how hF hG hS hl hr hkb hob hT
  go_enter Tryz.func353, Tryz.ntmps353
  go_wp2_with fail
  refine (HF.out _ (onlyA w _)).mono ?_
  rintro en w1 ⟨tk, st, rfl, ⟨b2, nb, rfl, rfl, h2, h4⟩, ho1⟩
  have hO1 := (onlyA w _).trans ho1 (fun _ _ e => e)
  have el1 := (hO1.cell (p := ⟨lb, 1, none⟩) ll (fun e => e)).trans el
  have er1 := (hO1.cell (p := ⟨rb, 0, none⟩) rl (fun e => e)).trans er
  have hb0 := (ho1.block w.heap.size (by simp) (fun e => e)).trans (new0 w _)
  have HB0 := hide hb0
  have HO1 := hide hO1
  have H2 := hide h2
  have H4 := hide h4
  have z1 := ho1.size
  simp at z1
  have rl1 : rb < w1.heap.size := by omega
  clear ho1 hO1 hb0 h2 h4 z1
  go_wp2_with fail
  refine (HG.out _ (HO1.out.alloc _)).mono ?_
  rintro en w2 ⟨rfl, ho2⟩
  have hO2 := (HO1.out.alloc _).trans ho2 (fun _ _ e => e)
  have hfb := (ho2.block w1.heap.size (by simp) (fun e => e)).trans (new0 w1 _)
  have f02 : w2.cell? ⟨w1.heap.size, 0, none⟩ = some (.func (.func ft) #[] #[.pointer (some ⟨b2, 0, none⟩), .pointer (some ⟨nb, 0, none⟩)]) := cell_of hfb rfl
  have ck2 := (hO2.cell (p := ⟨kb, 0, none⟩) kl (fun e => e)).trans ek
  have fl := heap_lt hfb
  have HFb := hide hfb
  have o12 := ((Only.refl (fun _ => False) w1).alloc _).trans ho2 (fun _ _ e => e)
  have hb2 := (o12.block b2 (heap_lt H2.out) (fun e => e)).trans H2.out
  have hb4 := (o12.block nb (heap_lt H4.out) (fun e => e)).trans H4.out
  have hbr := (o12.block w.heap.size (heap_lt HB0.out) (fun e => e)).trans HB0.out
  have z2 := o12.size
  have z0 := heap_lt HB0.out
  have HT := hide (fun W (hW : Only (fun _ => False) w2 W) => HTk.out W b2 nb (hO2.trans hW (fun _ _ e => e)) ((hW.block b2 (heap_lt hb2) (fun e => e)).trans hb2) ((hW.block nb (heap_lt hb4) (fun e => e)).trans hb4))
  have hobw := (hO2.block ob (heap_lt HOb.out) (fun e => e)).trans HOb.out
  have HA := hide (fun W (hW : Only (fun _ => False) w2 W) => reckon_add (some ⟨p.m, 0, none⟩) ob x y hx hy t1 t2 W ((hW.block ob (heap_lt hobw) (fun e => e)).trans hobw))
  have kl2 : kb < w2.heap.size := Nat.lt_of_lt_of_le kl hO2.size
  have HBr := hide hbr
  have HO2 := hide hO2
  have H22 := hide hb2
  have H24 := hide hb4
  clear ho2 hO2 hfb o12 hb2 hb4 hbr hobw H2 H4 HB0 HTk HF HG hx hy el el1 er er1 ek
  go_upto_region 3 with fail
  have n0 : (w2.alloc (.cells #[.int .i64 1, .int .i64 y, .string t2] 203)).cell? ⟨kb, 0, none⟩ = some (.func (.func 455) #[] #[.pointer (some ⟨ob, 0, none⟩)]) := past ck2 _
  have n0d : (w2.alloc (.cells #[.int .i64 1, .int .i64 y, .string t2] 203)).drew.cell? ⟨kb, 0, none⟩ = some (.func (.func 455) #[] #[.pointer (some ⟨ob, 0, none⟩)]) := n0
  have n1 : (w2.alloc (.cells #[.int .i64 1, .int .i64 y, .string t2] 203)).cell? ⟨w1.heap.size, 0, none⟩ = some (.func (.func ft) #[] #[.pointer (some ⟨b2, 0, none⟩), .pointer (some ⟨nb, 0, none⟩)]) := past f02 _
  have n1d : (w2.alloc (.cells #[.int .i64 1, .int .i64 y, .string t2] 203)).drew.cell? ⟨w1.heap.size, 0, none⟩ = some (.func (.func ft) #[] #[.pointer (some ⟨b2, 0, none⟩), .pointer (some ⟨nb, 0, none⟩)]) := n1
  have n2 : (w2.alloc (.cells #[.int .i64 1, .int .i64 y, .string t2] 203)).cell? ⟨w2.heap.size, 0, none⟩ = some (.int .i64 1) := cell_of (new0 w2 _) rfl
  have n2d : (w2.alloc (.cells #[.int .i64 1, .int .i64 y, .string t2] 203)).drew.cell? ⟨w2.heap.size, 0, none⟩ = some (.int .i64 1) := n2
  have n3 : (w2.alloc (.cells #[.int .i64 1, .int .i64 y, .string t2] 203)).cell? ⟨w2.heap.size, 1, none⟩ = some (.int .i64 y) := cell_of (new0 w2 _) rfl
  have n3d : (w2.alloc (.cells #[.int .i64 1, .int .i64 y, .string t2] 203)).drew.cell? ⟨w2.heap.size, 1, none⟩ = some (.int .i64 y) := n3
  have n4 : (w2.alloc (.cells #[.int .i64 1, .int .i64 y, .string t2] 203)).cell? ⟨w2.heap.size, 2, none⟩ = some (.string t2) := cell_of (new0 w2 _) rfl
  have n4d : (w2.alloc (.cells #[.int .i64 1, .int .i64 y, .string t2] 203)).drew.cell? ⟨w2.heap.size, 2, none⟩ = some (.string t2) := n4
  go_cut [8] (fun s8 wc => ∃ vv, s8 = .pointer (some ⟨vv, 0, none⟩) ∧ wc.heap[vv]? = some (.cells #[.int .i64 1, .int .i64 ((x : Int) + (y : Int)), .string ⟨#[]⟩] 203 (0, 0)) ∧ w2.heap.size < vv ∧ Only (fun _ => False) w2 wc)
  case first =>
    go_region_held3 (fun W => W.cell? ⟨kb, 0, none⟩ = some (.func (.func 455) #[] #[.pointer (some ⟨ob, 0, none⟩)]) ∧ W.cell? ⟨w1.heap.size, 0, none⟩ = some (.func (.func ft) #[] #[.pointer (some ⟨b2, 0, none⟩), .pointer (some ⟨nb, 0, none⟩)]) ∧ W.cell? ⟨w2.heap.size, 0, none⟩ = some (.int .i64 1) ∧ W.cell? ⟨w2.heap.size, 1, none⟩ = some (.int .i64 y) ∧ W.cell? ⟨w2.heap.size, 2, none⟩ = some (.string t2)) (first | (refine ⟨?_, ?_, ?_, ?_, ?_⟩ <;> (repeat (first | (with_reducible assumption) | (with_reducible refine past ?_ _) | (with_reducible refine pastD ?_ _) | ((with_reducible refine farC ?_ ?_); (rotate_left; (focus (first | (simp; done) | (simp; omega) | omega))))))))
      (first | (with_reducible show Calls Tryz.prog ft _ _ _; refine (HT.out _ (by repeat (first | with_reducible exact Only.refl _ _ | with_reducible refine Only.alloc ?_ _ | with_reducible refine toDrew ?_))).mono ?_; rintro en w3 ⟨rfl, ho3⟩; have hO3 : Only (fun _ => False) w2 w3 := Only.trans (by repeat (first | with_reducible exact Only.refl _ _ | with_reducible refine Only.alloc ?_ _ | with_reducible refine toDrew ?_)) ho3 (fun _ _ e => e); have hB3 : Only (fun _ => False) (w2.alloc (.cells #[.int .i64 1, .int .i64 y, .string t2] 203)) w3 := Only.trans (by repeat (first | with_reducible exact Only.refl _ _ | with_reducible refine Only.alloc ?_ _ | with_reducible refine toDrew ?_)) ho3 (fun _ _ e => e); have y0 := (hB3.cell (p := ⟨kb, 0, none⟩) (by simp <;> omega) (fun e => e)).trans n0; have y1 := (hB3.cell (p := ⟨w1.heap.size, 0, none⟩) (by simp <;> omega) (fun e => e)).trans n1; have y2 := (hB3.cell (p := ⟨w2.heap.size, 0, none⟩) (by simp <;> omega) (fun e => e)).trans n2; have y3 := (hB3.cell (p := ⟨w2.heap.size, 1, none⟩) (by simp <;> omega) (fun e => e)).trans n3; have y4 := (hB3.cell (p := ⟨w2.heap.size, 2, none⟩) (by simp <;> omega) (fun e => e)).trans n4; (try (refine lay (P := Hid (w3.heap[w2.heap.size + 1]? = some (.cells #[.int .i64 0, .int .i64 0, .string ⟨#[]⟩] 203 (0, 0)))) ?_ (fun HI0 => ?_); (focus (refine hide ?_; refine (ho3.block _ ?_ (fun e => e)).trans ?_; (focus (first | (simp; done) | (simp; omega) | omega)); (repeat (first | ((with_reducible refine new_at2D ?_ _); focus (simp; done)) | ((with_reducible refine (heap_allocD _ _ ?_).trans ?_); (focus (first | (simp; done) | (simp; omega) | omega))) | ((with_reducible refine new_at2 ?_ _); focus (simp; done)) | ((with_reducible refine (Below.heap_alloc _ _ _ ?_).trans ?_); (focus (first | (simp; done) | (simp; omega) | omega))))); done)); have HI00 : w3.cell? ⟨w2.heap.size + 1, 0, none⟩ = some (.int .i64 0) := cell_of HI0.out rfl; have HI01 : w3.cell? ⟨w2.heap.size + 1, 1, none⟩ = some (.int .i64 0) := cell_of HI0.out rfl; have HI02 : w3.cell? ⟨w2.heap.size + 1, 2, none⟩ = some (.string ⟨#[]⟩) := cell_of HI0.out rfl; have HI0f := free_of HI0.out; have HI0l := heap_lt HI0.out)); have z3 : w2.heap.size + 1 ≤ w3.heap.size := (by have := hB3.size; (try simp at this); omega); have HO3 := hide hO3; have HB3 := hide hB3; clear hO3 hB3 ho3) | (go_at_call 455; refine (HA.out _ (by repeat (first | with_reducible exact HO3.out | with_reducible refine Only.alloc ?_ _ | with_reducible refine toDrew ?_))).mono ?_; rintro en w4 ⟨rfl, ho4⟩; have hO4 : Only (fun _ => False) w2 w4 := Only.trans (by repeat (first | with_reducible exact HO3.out | with_reducible refine Only.alloc ?_ _ | with_reducible refine toDrew ?_)) ho4 (fun _ _ e => e); have hB4 : Only (fun _ => False) (w2.alloc (.cells #[.int .i64 1, .int .i64 y, .string t2] 203)) w4 := Only.trans (by repeat (first | with_reducible exact HB3.out | with_reducible refine Only.alloc ?_ _ | with_reducible refine toDrew ?_)) ho4 (fun _ _ e => e); have v0 := (hB4.cell (p := ⟨kb, 0, none⟩) (by simp <;> omega) (fun e => e)).trans n0; have v1 := (hB4.cell (p := ⟨w1.heap.size, 0, none⟩) (by simp <;> omega) (fun e => e)).trans n1; have v2 := (hB4.cell (p := ⟨w2.heap.size, 0, none⟩) (by simp <;> omega) (fun e => e)).trans n2; have v3 := (hB4.cell (p := ⟨w2.heap.size, 1, none⟩) (by simp <;> omega) (fun e => e)).trans n3; have v4 := (hB4.cell (p := ⟨w2.heap.size, 2, none⟩) (by simp <;> omega) (fun e => e)).trans n4; (try (refine lay (P := Hid (w4.heap[w2.heap.size + 1]? = some (.cells #[.int .i64 0, .int .i64 0, .string ⟨#[]⟩] 203 (0, 0)))) ?_ (fun HJ0 => ?_); (focus (refine hide ?_; refine (ho4.block _ ?_ (fun e => e)).trans ?_; (focus (first | (simp; done) | (simp; omega) | omega)); (repeat (first | (with_reducible exact HI0.out) | ((with_reducible refine new_at2D ?_ _); focus (simp; done)) | ((with_reducible refine (heap_allocD _ _ ?_).trans ?_); (focus (first | (simp; done) | (simp; omega) | omega))) | ((with_reducible refine new_at2 ?_ _); focus (simp; done)) | ((with_reducible refine (Below.heap_alloc _ _ _ ?_).trans ?_); (focus (first | (simp; done) | (simp; omega) | omega))))); done)); have HJ00 : w4.cell? ⟨w2.heap.size + 1, 0, none⟩ = some (.int .i64 0) := cell_of HJ0.out rfl; have HJ01 : w4.cell? ⟨w2.heap.size + 1, 1, none⟩ = some (.int .i64 0) := cell_of HJ0.out rfl; have HJ02 : w4.cell? ⟨w2.heap.size + 1, 2, none⟩ = some (.string ⟨#[]⟩) := cell_of HJ0.out rfl; have HJ0f := free_of HJ0.out; have HJ0l := heap_lt HJ0.out)); (try (refine lay (P := Hid (w4.heap[w3.heap.size]? = some (.cells #[.int .i64 0, .int .i64 0, .string ⟨#[]⟩] 203 (0, 0)))) ?_ (fun HJ1 => ?_); (focus (refine hide ?_; refine (ho4.block _ ?_ (fun e => e)).trans ?_; (focus (first | (simp; done) | (simp; omega) | omega)); (repeat (first | ((with_reducible refine new_at2D ?_ _); focus (simp; done)) | ((with_reducible refine (heap_allocD _ _ ?_).trans ?_); (focus (first | (simp; done) | (simp; omega) | omega))) | ((with_reducible refine new_at2 ?_ _); focus (simp; done)) | ((with_reducible refine (Below.heap_alloc _ _ _ ?_).trans ?_); (focus (first | (simp; done) | (simp; omega) | omega))))); done)); have HJ10 : w4.cell? ⟨w3.heap.size, 0, none⟩ = some (.int .i64 0) := cell_of HJ1.out rfl; have HJ11 : w4.cell? ⟨w3.heap.size, 1, none⟩ = some (.int .i64 0) := cell_of HJ1.out rfl; have HJ12 : w4.cell? ⟨w3.heap.size, 2, none⟩ = some (.string ⟨#[]⟩) := cell_of HJ1.out rfl; have HJ1f := free_of HJ1.out; have HJ1l := heap_lt HJ1.out)); have z4 : w3.heap.size ≤ w4.heap.size := (by have := ho4.size; (try simp at this); omega); have HO4 := hide hO4; clear hO4 hB4 ho4))
    all_goals
      go_wp2_with fail
      go_meet
      refine ⟨_, rfl, ?_, ?_, HO4.out.trans (D := fun _ => False) (E := fun q => w2.heap.size ≤ q) ?_ (fun q h1 h2 => by omega)⟩
      · (repeat (first | ((with_reducible refine new_at2 ?_ _); focus (simp; done)) | ((with_reducible refine new_at2D ?_ _); focus (simp; done)) | (with_reducible refine set3D (x0 := .int .i64 0) (x1 := .int .i64 0) (x2 := .string ⟨#[]⟩) ?_ _ _ _) | (with_reducible refine set3 (x0 := .int .i64 0) (x1 := .int .i64 0) (x2 := .string ⟨#[]⟩) ?_ _ _ _) | (with_reducible exact HJ0.out) | (with_reducible exact HJ1.out)))
      · first | omega | (simp; done) | (simp; omega)
      · (repeat (first | (with_reducible exact Only.refl _ _) | (with_reducible refine Only.alloc ?_ _) | (with_reducible refine toDrew ?_) | ((with_reducible refine Only.setCell ?_ ?_ _); (rotate_left; (focus (intro _; show _; first | (simp; done) | (simp; omega) | omega))))))
  case rest =>
    obtain ⟨vv, rfl, hv, hlt, hO⟩ := hcut
    have hfc := (hO.block w1.heap.size fl (fun e => e)).trans HFb.out
    have f0 : wc.cell? ⟨w1.heap.size, 1, none⟩ = some (.func (.func fst) #[] #[.pointer (some ⟨b2, 0, none⟩), .pointer (some ⟨nb, 0, none⟩)]) := cell_of hfc rfl
    have flc := heap_lt hfc
    have q0 : wc.cell? ⟨vv, 0, none⟩ = some (.int .i64 1) := cell_of hv rfl
    have q1 : wc.cell? ⟨vv, 1, none⟩ = some (.int .i64 ((x : Int) + (y : Int))) := cell_of hv rfl
    have q2 : wc.cell? ⟨vv, 2, none⟩ = some (.string ⟨#[]⟩) := cell_of hv rfl
    have ql := heap_lt hv
    have HV := hide hv
    have H2c := hide ((hO.block b2 (heap_lt H22.out) (fun e => e)).trans H22.out)
    have H4c := hide ((hO.block nb (heap_lt H24.out) (fun e => e)).trans H24.out)
    have HBc := hide ((hO.block w.heap.size (heap_lt HBr.out) (fun e => e)).trans HBr.out)
    have HOc := hide (HO2.out.trans hO (fun _ _ e => e))
    clear hfc hv hO HT HA HO2 H22 H24 HBr
    go_wp2_with fail
    refine (HS.out _ b2 nb HOc.out H2c.out H4c.out).mono ?_
    rintro en w3 ⟨rfl, h3, k3⟩
    have hv3 := k3.new HH.out (q := vv) (by omega) (by decide) (by decide) HV.out
    have hr3 := k3.new HH.out (q := w.heap.size) (by omega) (by decide) (by decide) HBc.out
    have v0 : w3.cell? ⟨vv, 0, none⟩ = some (.int .i64 1) := cell_of hv3 rfl
    have v1 : w3.cell? ⟨vv, 1, none⟩ = some (.int .i64 ((x : Int) + (y : Int))) := cell_of hv3 rfl
    have v2 : w3.cell? ⟨vv, 2, none⟩ = some (.string ⟨#[]⟩) := cell_of hv3 rfl
    have vl := heap_lt hv3
    have r0 : w3.cell? ⟨w.heap.size, 0, none⟩ = some (.int .i64 0) := cell_of hr3 rfl
    have r1 : w3.cell? ⟨w.heap.size, 1, none⟩ = some (.int .i64 0) := cell_of hr3 rfl
    have r2 : w3.cell? ⟨w.heap.size, 2, none⟩ = some (.string ⟨#[]⟩) := cell_of hr3 rfl
    have rf := free_of hr3
    have rl3 := heap_lt hr3
    have H3 := hide h3
    have HR3 := hide hr3
    have K3 := hide ((Kept.of HOc.out).trans k3)
    clear h3 k3 hv3 hr3
    go_wp2
    refine bodyPost_ret (v := .agg #[.int .i64 1, .int .i64 ((x : Int) + (y : Int)), .string ⟨#[]⟩]) (by simp [results, Tryz.results353, go_sem, r0, r1, r2]) rfl ⟨rfl, HH.out.box3 H3.out HR3.out (Nat.le_refl _) _ _ _, ((K3.out.set (Nat.le_refl _) _).set (Nat.le_refl _) _).set (Nat.le_refl _) _⟩
end Go.Proofs.YtdbdbaepmdmnfaaGreatDoor

namespace Go.Proofs.YtdbdbaepmdmnfaaGreatDoor
open Go.RowKit
set_option maxRecDepth 20000 in
set_option maxHeartbeats 4000000 in
theorem compared_do (p : Pl8) (s : St8) (lb hb rb : Nat) (x1 y1 x2 y2 : Value) (a x b y : Int) (t1 t2 : ByteArray) (ha : (a == 2) = false) (hb2 : (b == 2) = false) (hl : p.wN.heap[lb]? = some (.cells #[x1, y1] 338 (0, 0))) (hh : p.wN.heap[hb]? = some (.cells #[.func (.func 448) #[] #[]] 145 (0, 0))) (hr : p.wN.heap[rb]? = some (.cells #[x2, y2] 338 (0, 0))) (hG1 : Gives p s x1 (.agg #[.int .i64 a, .int .i64 x, .string t1])) (hG2 : Gives p s x2 (.agg #[.int .i64 b, .int .i64 y, .string t2])) (w : World) (h : On8 p s w) :
    Calls Tryz.prog 413 #[.pointer (some ⟨p.m, 0, none⟩), .pointer (some ⟨lb, 0, none⟩), .pointer (some ⟨hb, 0, none⟩), .pointer (some ⟨rb, 0, none⟩)] w fun en w' => en = .returned (.bool (decide (x ≤ y))) ∧ Only (fun _ => False) w w' := by
  obtain ⟨F1, caps1, rfl, hcf1, hG1⟩ := hG1
  obtain ⟨F2, caps2, rfl, hcf2, hG2⟩ := hG2
  unfold Enters at hcf1 hcf2
  have hcf3 := cf448
  have hlw := (h.O.block lb (heap_lt hl) (fun e => e)).trans hl
  have hhw := (h.O.block hb (heap_lt hh) (fun e => e)).trans hh
  have hrw := (h.O.block rb (heap_lt hr) (fun e => e)).trans hr
  have el : w.cell? ⟨lb, 0, none⟩ = some (.func (.func F1) #[] caps1.toArray) := cell_of hlw rfl
  have eh : w.cell? ⟨hb, 0, none⟩ = some (.func (.func 448) #[] #[]) := cell_of hhw rfl
  have er : w.cell? ⟨rb, 0, none⟩ = some (.func (.func F2) #[] caps2.toArray) := cell_of hrw rfl
  have ll := heap_lt hlw
  have hhl := heap_lt hhw
  have rl := heap_lt hrw
  have HG1 := hide (hG1 w h)
  have HG2 := hide (fun W (hW : Only (fun _ => False) w W) => hG2 W (h.calm hW))
  have HC := hide (fun W => compare_nums a x b y t1 t2 ha hb2 W)
  have HL : Hid (∀ W, Calls Tryz.prog 448 #[.int .i64 (cmpI x y)] W fun en w' => en = .returned (.bool (decide (x ≤ y))) ∧ w' = W) := hide (fun W => by rw [← cmpI_le]; exact le_do _ W)
  clear h hlw hhw hrw hG1 hG2 hl hh hr ha hb2
  go_enter Tryz.func413, Tryz.ntmps413
  go_wp2_with fail
  refine (HG1.out).mono ?_
  rintro en w1 ⟨rfl, ho1⟩
  have eh1 := (ho1.cell (p := ⟨hb, 0, none⟩) hhl (fun e => e)).trans eh
  have er1 := (ho1.cell (p := ⟨rb, 0, none⟩) rl (fun e => e)).trans er
  have z1 := ho1.size
  have HO1 := hide ho1
  have hhl1 : hb < w1.heap.size := by omega
  have rl1 : rb < w1.heap.size := by omega
  clear ho1 HG1 el eh er
  go_upto_region 2 with fail
  have n0 : (w1.alloc (.cells #[.int .i64 a, .int .i64 x, .string t1] 203)).cell? ⟨hb, 0, none⟩ = some (.func (.func 448) #[] #[]) := past eh1 _
  have n0d : (w1.alloc (.cells #[.int .i64 a, .int .i64 x, .string t1] 203)).drew.cell? ⟨hb, 0, none⟩ = some (.func (.func 448) #[] #[]) := n0
  have n1 : (w1.alloc (.cells #[.int .i64 a, .int .i64 x, .string t1] 203)).cell? ⟨rb, 0, none⟩ = some (.func (.func F2) #[] caps2.toArray) := past er1 _
  have n1d : (w1.alloc (.cells #[.int .i64 a, .int .i64 x, .string t1] 203)).drew.cell? ⟨rb, 0, none⟩ = some (.func (.func F2) #[] caps2.toArray) := n1
  have n2 : (w1.alloc (.cells #[.int .i64 a, .int .i64 x, .string t1] 203)).cell? ⟨w1.heap.size, 0, none⟩ = some (.int .i64 a) := cell_of (new0 w1 _) rfl
  have n2d : (w1.alloc (.cells #[.int .i64 a, .int .i64 x, .string t1] 203)).drew.cell? ⟨w1.heap.size, 0, none⟩ = some (.int .i64 a) := n2
  have n3 : (w1.alloc (.cells #[.int .i64 a, .int .i64 x, .string t1] 203)).cell? ⟨w1.heap.size, 1, none⟩ = some (.int .i64 x) := cell_of (new0 w1 _) rfl
  have n3d : (w1.alloc (.cells #[.int .i64 a, .int .i64 x, .string t1] 203)).drew.cell? ⟨w1.heap.size, 1, none⟩ = some (.int .i64 x) := n3
  have n4 : (w1.alloc (.cells #[.int .i64 a, .int .i64 x, .string t1] 203)).cell? ⟨w1.heap.size, 2, none⟩ = some (.string t1) := cell_of (new0 w1 _) rfl
  have n4d : (w1.alloc (.cells #[.int .i64 a, .int .i64 x, .string t1] 203)).drew.cell? ⟨w1.heap.size, 2, none⟩ = some (.string t1) := n4
  go_region_held3 (fun W => W.cell? ⟨hb, 0, none⟩ = some (.func (.func 448) #[] #[]) ∧ W.cell? ⟨rb, 0, none⟩ = some (.func (.func F2) #[] caps2.toArray) ∧ W.cell? ⟨w1.heap.size, 0, none⟩ = some (.int .i64 a) ∧ W.cell? ⟨w1.heap.size, 1, none⟩ = some (.int .i64 x) ∧ W.cell? ⟨w1.heap.size, 2, none⟩ = some (.string t1)) (first | (refine ⟨?_, ?_, ?_, ?_, ?_⟩ <;> (repeat (first | (with_reducible assumption) | (with_reducible refine past ?_ _) | (with_reducible refine pastD ?_ _)))))
    (first | (with_reducible show Calls Tryz.prog F2 _ _ _; refine (HG2.out _ (HO1.out.trans (by repeat (first | with_reducible exact Only.refl _ _ | with_reducible refine Only.alloc ?_ _ | with_reducible refine toDrew ?_)) (fun _ _ e => e))).mono ?_; rintro en w2 ⟨rfl, ho2⟩; have hB2 : Only (fun _ => False) (w1.alloc (.cells #[.int .i64 a, .int .i64 x, .string t1] 203)) w2 := Only.trans (by repeat (first | with_reducible exact Only.refl _ _ | with_reducible refine Only.alloc ?_ _ | with_reducible refine toDrew ?_)) ho2 (fun _ _ e => e); have y0 := (hB2.cell (p := ⟨hb, 0, none⟩) (by simp <;> omega) (fun e => e)).trans n0; have y1 := (hB2.cell (p := ⟨rb, 0, none⟩) (by simp <;> omega) (fun e => e)).trans n1; have y2 := (hB2.cell (p := ⟨w1.heap.size, 0, none⟩) (by simp <;> omega) (fun e => e)).trans n2; have y3 := (hB2.cell (p := ⟨w1.heap.size, 1, none⟩) (by simp <;> omega) (fun e => e)).trans n3; have y4 := (hB2.cell (p := ⟨w1.heap.size, 2, none⟩) (by simp <;> omega) (fun e => e)).trans n4; have HB2 := hide hB2; clear hB2 ho2) | (go_at_call 414; refine (HC.out _).mono ?_; rintro en w3 ⟨rfl, ho3⟩; have hB3 : Only (fun _ => False) (w1.alloc (.cells #[.int .i64 a, .int .i64 x, .string t1] 203)) w3 := Only.trans (by repeat (first | with_reducible exact HB2.out | with_reducible refine Only.alloc ?_ _ | with_reducible refine toDrew ?_)) ho3 (fun _ _ e => e); have v0 := (hB3.cell (p := ⟨hb, 0, none⟩) (by simp <;> omega) (fun e => e)).trans n0; have v1 := (hB3.cell (p := ⟨rb, 0, none⟩) (by simp <;> omega) (fun e => e)).trans n1; have v2 := (hB3.cell (p := ⟨w1.heap.size, 0, none⟩) (by simp <;> omega) (fun e => e)).trans n2; have v3 := (hB3.cell (p := ⟨w1.heap.size, 1, none⟩) (by simp <;> omega) (fun e => e)).trans n3; have v4 := (hB3.cell (p := ⟨w1.heap.size, 2, none⟩) (by simp <;> omega) (fun e => e)).trans n4; have HB3 := hide hB3; clear hB3 ho3) | (go_at_call 448; refine (HL.out _).mono ?_; rintro en w' ⟨rfl, h3⟩; subst w'))
  all_goals
    go_wp2_with fail
    go_ret
    exact ⟨rfl, (HO1.out.alloc _).trans HB3.out (fun _ _ e => e)⟩
set_option maxRecDepth 20000 in
set_option maxHeartbeats 2000000 in
/-- What was made of a comparison. -/
theorem gives_leG (p : Pl8) (s : St8) (tb lb hb rb : Nat) (x1 y1 x2 y2 : Value) (a x b y : Int) (t1 t2 : ByteArray) (ha : (a == 2) = false) (hb2 : (b == 2) = false) (ht : p.wN.heap[tb]? = some (.cells #[.func (.func 413) #[] #[.pointer (some ⟨lb, 0, none⟩), .pointer (some ⟨hb, 0, none⟩), .pointer (some ⟨rb, 0, none⟩)]] 263 (0, 0))) (hl : p.wN.heap[lb]? = some (.cells #[x1, y1] 338 (0, 0))) (hh : p.wN.heap[hb]? = some (.cells #[.func (.func 448) #[] #[]] 145 (0, 0))) (hr : p.wN.heap[rb]? = some (.cells #[x2, y2] 338 (0, 0))) (hG1 : Gives p s x1 (.agg #[.int .i64 a, .int .i64 x, .string t1])) (hG2 : Gives p s x2 (.agg #[.int .i64 b, .int .i64 y, .string t2])) :
    Gives p s (.func (.func 380) #[] #[.pointer (some ⟨tb, 0, none⟩)]) (.agg #[.int .i64 1, .int .i64 (if decide (x ≤ y) = true then 1 else 0), .string ⟨#[]⟩]) := by
  refine ⟨380, [.pointer (some ⟨tb, 0, none⟩)], rfl, cf380, fun w h => ?_⟩
  have htw := (h.O.block tb (heap_lt ht) (fun e => e)).trans ht
  have et : w.cell? ⟨tb, 0, none⟩ = some (.func (.func 413) #[] #[.pointer (some ⟨lb, 0, none⟩), .pointer (some ⟨hb, 0, none⟩), .pointer (some ⟨rb, 0, none⟩)]) := cell_of htw rfl
  have tl := heap_lt htw
  have hcf := cf413
  have HC := hide (compared_do p s lb hb rb x1 y1 x2 y2 a x b y t1 t2 ha hb2 hl hh hr hG1 hG2 _ (h.calm (onlyA w (.cells #[.int .i64 0, .int .i64 0, .string ⟨#[]⟩] 203))))
  have HT := hide (truth_any (decide (x ≤ y)))
  generalize (if decide (x ≤ y) = true then (1 : Int) else 0) = q at HT ⊢
  clear h htw ht hl hh hr hG1 hG2 ha hb2
  go_enter Tryz.func380, Tryz.ntmps380
  go_wp2_with fail
  refine (HC.out).mono ?_
  rintro en w1 ⟨rfl, ho1⟩
  have hb0 := (ho1.block w.heap.size (by simp) (fun e => e)).trans (new0 w _)
  have HB0 := hide hb0
  have HO1 := hide ((onlyA w _).trans ho1 (fun _ _ e => e))
  clear ho1 hb0 HC
  go_wp2_with fail
  refine (HT.out _).mono ?_
  rintro en w2 ⟨rfl, o1, o2, hw2⟩
  have ho2 : Only (fun _ => False) w1 w2 := by rw [hw2]; exact (onlyA w1 o1).alloc o2
  have hb2 := (ho2.block w.heap.size (heap_lt HB0.out) (fun e => e)).trans HB0.out
  have r0 : w2.cell? ⟨w.heap.size, 0, none⟩ = some (.int .i64 0) := cell_of hb2 rfl
  have r1 : w2.cell? ⟨w.heap.size, 1, none⟩ = some (.int .i64 0) := cell_of hb2 rfl
  have r2 : w2.cell? ⟨w.heap.size, 2, none⟩ = some (.string ⟨#[]⟩) := cell_of hb2 rfl
  have rf := free_of hb2
  have rl := heap_lt hb2
  have HO2 := hide (HO1.out.trans ho2 (fun _ _ e => e))
  clear ho2 hb2 hw2
  go_wp2
  refine bodyPost_ret (v := .agg #[.int .i64 1, .int .i64 q, .string ⟨#[]⟩]) (by simp [results, Tryz.results380, go_sem, r0, r1, r2]) rfl ⟨rfl, ?_⟩
  exact ((HO2.out.setCell (p := ⟨w.heap.size, 0, none⟩) (fun h => absurd h (by show ¬ w.heap.size < w.heap.size; omega)) _).setCell (p := ⟨w.heap.size, 1, none⟩) (fun h => absurd h (by show ¬ w.heap.size < w.heap.size; omega)) _).setCell (p := ⟨w.heap.size, 2, none⟩) (fun h => absurd h (by show ¬ w.heap.size < w.heap.size; omega)) _
set_option maxRecDepth 20000 in
set_option maxHeartbeats 2000000 in
theorem is_true_on (p : Pl8) (s : St8) (x y : Value) (k n : Int) (t : ByteArray) (hk : (k == 2) = false) (hy : y = .nilFunc ∨ ∃ F c, y = .func (.func F) #[] c) (hG : Gives p s x (.agg #[.int .i64 k, .int .i64 n, .string t])) (w : World) (h : On8 p s w) :
    Calls Tryz.prog 170 #[.agg #[x, y], .pointer (some ⟨p.m, 0, none⟩)] w fun en w' => en = .returned (.bool (n != 0)) ∧ Only (fun _ => False) w w' := by
  obtain ⟨F1, caps1, rfl, hcf1, hG⟩ := hG
  unfold Enters at hcf1
  have hsf := hsfT
  have hsn := hsnT
  have HG := hide (hG _ (h.calm (onlyA w (.cells #[.func (.func F1) #[] caps1.toArray, y] 338))))
  have HT := hide (is_true_num k n t hk)
  clear h hG hk
  rcases hy with rfl | ⟨F, c, rfl⟩
  · go_enter Tryz.func170, Tryz.ntmps170
    go_wp2_with fail
    refine (HG.out).mono ?_
    rintro en w1 ⟨rfl, ho1⟩
    have HO1 := hide ((onlyA w _).trans ho1 (fun _ _ e => e))
    clear ho1 HG
    go_wp2_with fail
    refine (HT.out _).mono ?_
    rintro en w2 ⟨rfl, ho2⟩
    have HO2 := hide (HO1.out.trans ho2 (fun _ _ e => e))
    clear ho2
    go_wp2
    go_ret
    exact ⟨rfl, HO2.out⟩
  · go_enter Tryz.func170, Tryz.ntmps170
    go_wp2_with fail
    refine (HG.out).mono ?_
    rintro en w1 ⟨rfl, ho1⟩
    have HO1 := hide ((onlyA w _).trans ho1 (fun _ _ e => e))
    clear ho1 HG
    go_wp2_with fail
    refine (HT.out _).mono ?_
    rintro en w2 ⟨rfl, ho2⟩
    have HO2 := hide (HO1.out.trans ho2 (fun _ _ e => e))
    clear ho2
    go_wp2
    go_ret
    exact ⟨rfl, HO2.out⟩
end Go.Proofs.YtdbdbaepmdmnfaaGreatDoor

namespace Go.Proofs
open Go.Shelf
def Tryz.lays156_ren : Go.Shelf.Ren := ⟨fun | 156 => 283 | 165 => 375 | 166 => 118 | 169 => 49 | 240 => 149 | 241 => 433 | 276 => 200 | 277 => 469 | n => n, fun | 31 => 23 | 9 => 9 | 3 => 3 | 4 => 4 | 0 => 0 | 20 => 20 | 72 => 88 | 76 => 232 | 70 => 86 | 37 => 54 | 75 => 74 | 127 => 167 | 164 => 368 | 5 => 5 | 80 => 104 | n => n, fun | n => n⟩
theorem Tryz.lays156 : Go.Proofs.Lays.n156 Tryz.prog Tryz.lays156_ren := {
  mixed := by kernel_rfl
  f156 := Tryz.func283.trans (congrArg some (by kernel_rfl))
  f165 := Tryz.func375.trans (congrArg some (by kernel_rfl))
  f166 := Tryz.func118.trans (congrArg some (by kernel_rfl))
  f169 := Tryz.func49.trans (congrArg some (by kernel_rfl))
  f240 := Tryz.func149.trans (congrArg some (by kernel_rfl))
  f241 := Tryz.func433.trans (congrArg some (by kernel_rfl))
  f276 := Tryz.func200.trans (congrArg some (by kernel_rfl))
  f277 := Tryz.func469.trans (congrArg some (by kernel_rfl))
  t0 := Tryz.underlying0
  a0 := Tryz.isAgg0
  z0 := Tryz.sizeOf0
  v0 := Tryz.zeroValue0
  t3 := Tryz.underlying3
  a3 := Tryz.isAgg3
  z3 := Tryz.sizeOf3
  v3 := Tryz.zeroValue3
  t4 := Tryz.underlying4
  a4 := Tryz.isAgg4
  z4 := Tryz.sizeOf4
  v4 := Tryz.zeroValue4
  t9 := Tryz.underlying9
  a9 := Tryz.isAgg9
  z9 := Tryz.sizeOf9
  v9 := Tryz.zeroValue9
  t20 := Tryz.underlying20
  a20 := Tryz.isAgg20
  z20 := Tryz.sizeOf20
  v20 := Tryz.zeroValue20
  t31 := Tryz.underlying23
  a31 := Tryz.isAgg23
  z31 := Tryz.sizeOf23
  v31 := Tryz.zeroValue23
  t37 := Tryz.underlying54
  a37 := Tryz.isAgg54
  z37 := Tryz.sizeOf54
  v37 := Tryz.zeroValue54
  t70 := Tryz.underlying86
  a70 := Tryz.isAgg86
  z70 := Tryz.sizeOf86
  v70 := Tryz.zeroValue86
  t72 := Tryz.underlying88
  a72 := Tryz.isAgg88
  z72 := Tryz.sizeOf88
  v72 := Tryz.zeroValue88
  t75 := Tryz.underlying74
  a75 := Tryz.isAgg74
  z75 := Tryz.sizeOf74
  v75 := Tryz.zeroValue74
  t76 := Tryz.underlying232
  a76 := Tryz.isAgg232
  z76 := Tryz.sizeOf232
  v76 := Tryz.zeroValue232
  t127 := Tryz.underlying167
  a127 := Tryz.isAgg167
  z127 := Tryz.sizeOf167
  v127 := Tryz.zeroValue167
  t164 := Tryz.underlying368
  a164 := Tryz.isAgg368
  z164 := Tryz.sizeOf368
  v164 := Tryz.zeroValue368 }
theorem Tryz.Builder_Extra_156 : Builder.Extra Tryz.prog Tryz.lays156_ren := {
  sizeBuilder := by kernel_rfl
  liesBuilder := by kernel_rfl
  t5 := Tryz.underlying5
  a5 := Tryz.isAgg5
  z5 := Tryz.sizeOf5
  v5 := Tryz.zeroValue5
  infoByte := by kernel_rfl
  cellsByte := by kernel_rfl
  sizeByte := by kernel_rfl
  neB5 := by decide }
open Go.RowKit in
theorem Tryz.strings_Join (bk o c : Nat) (xs : List ByteArray) (sep : ByteArray) (w : World) (hcells : ∀ (j : Nat) x, xs[j]? = some x → w.cell? ⟨bk, o + j, none⟩ = some (.string x)) (hbk : bk < w.heap.size) (hN : xs.length ≤ 140737488355328) (hcap : xs.length ≤ c) (hlen : (Lib.join (xs.map (·.data.toList)) sep.data.toList).length ≤ 140737488355328) :
    Calls Tryz.prog 283 #[.slice (some ⟨bk, o, none⟩) xs.length c, .string sep] w fun e w' => e = .returned (.string ⟨(Lib.join (xs.map (·.data.toList)) sep.data.toList).toArray⟩) ∧ Below w.heap.size w w' := Any.strings_Join Tryz.lays156 Tryz.Builder_Extra_156 bk o c xs sep w hcells hbk hN hcap hlen
end Go.Proofs

namespace Go.Proofs.YtdbdbaepmdmnfaaGreatDoor
open Go.RowKit
theorem lib_join (sep : List UInt8) (L : List (List UInt8)) : Lib.join L sep = joinsL sep L := by
  cases L with
  | nil => rfl
  | cons a r => rw [Lib.join_cons]; rfl
theorem row_some {w : World} {B : Nat} {v : Value} {L : List (List UInt8)} (h : w.ownsRow B 9 1 v L.length (strsV L)) (h0 : 0 < L.length) : ∃ g cap, v = .slice (some ⟨g, 0, none⟩) L.length cap ∧ L.length ≤ cap ∧ g < w.heap.size ∧ ∀ (i : Nat) l, L[i]? = some l → w.cell? ⟨g, i, none⟩ = some (.string (ofB l)) := by
  rcases h.2 with ⟨h1, h2⟩ | ⟨g, cap, cur, rfl, hb, hg, hc, _⟩
  · omega
  · refine ⟨g, cap, rfl, hc, heap_lt hg, fun i l hi => ?_⟩
    have hl : i < L.length := (List.getElem?_eq_some_iff.1 hi).1
    rw [h.cellAt i (by omega)]
    simp [strsV, hi]
/-- What strings.Join answers of a row. -/
theorem join_row (sep : ByteArray) (L : List (List UInt8)) (h0 : 0 < L.length) (hL : L.length ≤ 1000) (hT : (joinsL sep.data.toList L).length ≤ 500) (B : Nat) (v : Value) (w : World) (h : w.ownsRow B 9 1 v L.length (strsV L)) : Calls Tryz.prog 283 #[v, .string sep] w fun en w' => en = .returned (.string (ofB (joinsL sep.data.toList L))) ∧ Only (fun _ => False) w w' := by
  obtain ⟨g, cap, rfl, hc, hg, hcells⟩ := row_some h h0
  have hm : (L.map ofB).map (fun x => x.data.toList) = L := by
    rw [List.map_map]
    conv => rhs; rw [← List.map_id L]
    rfl
  have hll : (L.map ofB).length = L.length := List.length_map _
  have hj : (⟨(Lib.join ((L.map ofB).map (fun x => x.data.toList)) sep.data.toList).toArray⟩ : ByteArray) = ofB (joinsL sep.data.toList L) := by rw [hm, lib_join]; rfl
  have := Tryz.strings_Join g 0 cap (L.map ofB) sep w (fun j x hx => by
    rw [List.getElem?_map] at hx
    cases hq : L[j]? with
    | none => rw [hq] at hx; simp at hx
    | some l =>
      rw [hq] at hx
      simp at hx
      rw [← hx, Nat.zero_add]
      exact hcells j l hq) hg (by rw [hll]; omega) (by rw [hll]; omega) (by rw [hm, lib_join]; omega)
  rw [hj, hll] at this
  exact this.mono (fun en w' h => ⟨h.1, Only.ofBelow h.2 _⟩)
set_option maxRecDepth 20000 in
set_option maxHeartbeats 2000000 in
theorem rjoin_on (p : Pl8) (s : St8) (sep : ByteArray) (h0 : 0 < s.fs.length) (hL : s.fs.length ≤ 1000) (hT : (joinsL sep.data.toList s.fs).length ≤ 500) (w : World) (h : On8 p s w) :
    Calls Tryz.prog 436 #[.pointer (some ⟨p.m, 2, none⟩), .string sep] w fun en w' => en = .returned .nilIface ∧ On8 p { s with txt := ofB (joinsL sep.data.toList s.fs) } w' ∧ Kept p w w' := by
  obtain ⟨fv, hM, hF⟩ := h.M
  have HJ := hide (join_row sep s.fs h0 hL hT p.wN.heap.size fv w hF)
  have c3 : w.cell? ⟨p.m, 3, none⟩ = some fv := cell_of hM rfl
  have hsz : (ofB (joinsL sep.data.toList s.fs)).size ≤ 500 := by show (joinsL sep.data.toList s.fs).toArray.size ≤ 500; simpa using hT
  have HH := hide h
  have HM := hide hM
  have HF := hide hF
  clear h hM hF hT h0 hL
  generalize ofB (joinsL sep.data.toList s.fs) = T at *
  obtain ⟨po, cap, rfl⟩ := ownsRow_slice HF.out
  go_enter Tryz.func436, Tryz.ntmps436
  go_wp2_with fail
  refine (HJ.out).mono ?_
  rintro en w1 ⟨rfl, ho1⟩
  have hM1 := HM.out.only ho1 (fun e => e)
  have c2 : w1.cell? ⟨p.m, 2, none⟩ = some (.string s.txt) := cell_of hM1 rfl
  have mf := free_of hM1
  have ml := heap_lt hM1
  have HM1 := hide hM1
  have HO1 := hide ho1
  have hsi : ¬ (500 : Int) < (T.size : Int) := by omega
  clear ho1 hM1 HJ
  go_wp2
  go_ret
  have a1 := own_tag HF.out HM.out (by decide)
  have hF1 := ownsRow_of HF.out (fun k hk => HO1.out.block k (HF.out.lt k hk).2 (fun e => e))
  have hO := (Only.refl (fun q => q = p.m) w1).setCell (p := ⟨p.m, 2, none⟩) (fun _ => rfl) (.string T)
  exact ⟨rfl, (HH.out.calm HO1.out).turnM hO (heap_setCell_same HM1.out _) (ownsRow_of hF1 (fun k hk => Below.heap_setCell _ _ _ _ (fun e => a1 (by rw [hk, e])))), (Kept.of HO1.out).trans (Kept.ofV (fun q e => Or.inl e) hO)⟩
/-- A field turns in its row. -/
theorem On8.setField {p : Pl8} {s : St8} {W : World} (h : On8 p s W) {g cap : Nat} (hM : MAt8 W p.m p.ab p.vb s.txt (.slice (some ⟨g, 0, none⟩) s.fs.length cap) (.slice (some ⟨p.sb, 0, none⟩) 1 1) s.out.size s.fuel 0) (hF : W.ownsRow p.wN.heap.size 9 1 (.slice (some ⟨g, 0, none⟩) s.fs.length cap) s.fs.length (strsV s.fs)) (i : Nat) (x : List UInt8) : On8 p { s with fs := s.fs.set i x } (W.setCell ⟨g, i, none⟩ (.string (ofB x))) ∧ Kept p W (W.setCell ⟨g, i, none⟩ (.string (ofB x))) := by
  obtain ⟨tv, hS, hT⟩ := h.S
  obtain ⟨cur, hg⟩ : ∃ cur, W.heap[g]? = some (.cells cur 9 (0, 0)) := by
    rcases hF.2 with ⟨h1, _⟩ | ⟨g', cap', cur, h', _, hg, _⟩
    · simp at h1
    · simp only [Value.slice.injEq, Option.some.injEq, Addr.mk.injEq, and_true, true_and] at h'
      obtain ⟨rfl, _⟩ := h'
      exact ⟨cur, hg⟩
  have e1 : g ≠ p.m := fun e => by have := hM; unfold MAt8 at this; rw [← e, hg] at this; simp at this
  have e2 : g ≠ p.vb := fun e => by have := h.V; unfold VAt at this; rw [← e, hg] at this; simp at this
  have e3 : g ≠ p.sb := fun e => by have := hS; rw [← e, hg] at this; simp at this
  have a2 := own_tag hT hg (by decide)
  have hgb := (hF.lt g rfl).1
  have ho : Only (fun k => k = g) W (W.setCell ⟨g, i, none⟩ (.string (ofB x))) := (Only.refl (fun k => k = g) W).setCell (p := ⟨g, i, none⟩) (fun _ => rfl) _
  have hst := (hF.stored i (.string (ofB x))).1
  have hsv : (strsV s.fs).set i (.string (ofB x)) = strsV (s.fs.set i x) := by simp [strsV, List.map_set]
  rw [hsv] at hst
  have hln : (s.fs.set i x).length = s.fs.length := List.length_set
  refine ⟨⟨h.hm, h.hv, h.hs, h.nmv, h.nms, h.nvs, ⟨_, hM.only ho (fun e => e1 e.symm), ?_⟩, h.V.only ho (fun e => e2 e.symm), ⟨tv, (ho.block p.sb (heap_lt hS) (fun e => e3 e.symm)).trans hS, ownsRow_of hT (fun k hk => ho.block k (hT.lt k hk).2 (fun e => a2 (by rw [hk, e])))⟩, h.O.trans ho (fun k hk e => by omega)⟩, ⟨ho.size, fun q c t _ _ _ h9 _ hq => ?_⟩⟩
  · show World.ownsRow _ _ 9 1 _ (s.fs.set i x).length _
    rw [hln]
    exact hst
  · refine (ho.block q (heap_lt hq) (fun e => ?_)).trans hq
    rw [e, hg] at hq
    simp at hq
    exact h9 hq.2.symm
set_option maxRecDepth 20000 in
set_option maxHeartbeats 2000000 in
/-- A field that there is is stored. -/
theorem store_field_on (p : Pl8) (s : St8) (i : Nat) (hi : i < s.fs.length) (h40 : s.fs.length ≤ 40) (x : List UInt8) (sep : ByteArray) (hT : (joinsL sep.data.toList (s.fs.set i x)).length ≤ 500) (w : World) (h : On8 p s w) :
    Calls Tryz.prog 389 #[.pointer (some ⟨p.m, 2, none⟩), .int .i64 ((i : Int) + 1), .string (ofB x), .string sep] w fun en w' => en = .returned .nilIface ∧ On8 p { s with fs := s.fs.set i x, txt := ofB (joinsL sep.data.toList (s.fs.set i x)) } w' ∧ Kept p w w' := by
  obtain ⟨fv, hM, hF⟩ := h.M
  obtain ⟨g, cap, rfl, hc, hg, hcells⟩ := row_some hF (by omega)
  obtain ⟨hn, hk⟩ := h.setField hM hF i x
  have HJ := hide (rjoin_on p { s with fs := s.fs.set i x } sep (by simp; omega) (by simp; omega) hT _ hn)
  have c3 : w.cell? ⟨p.m, 3, none⟩ = some (.slice (some ⟨g, 0, none⟩) s.fs.length cap) := cell_of hM rfl
  have ml := heap_lt hM
  have ci := hcells i s.fs[i] (List.getElem?_eq_getElem hi)
  have cf := hF.frozenAt i
  have hi1 : (i : Int) < (s.fs.length : Int) := by omega
  have HK := hide hk
  clear h hM hF hn hk hcells hT hc
  go_enter Tryz.func389, Tryz.ntmps389
  go_wp2_with fail
  refine (HJ.out).mono ?_
  rintro en w1 ⟨rfl, hn, hk⟩
  have HN := hide hn
  have HK1 := hide hk
  clear hn hk HJ
  go_wp2
  go_ret
  exact ⟨rfl, HN.out, HK.out.trans HK1.out⟩
theorem own_block {w : World} {B : Nat} {v : Value} {n : Nat} {xs : List Value} (h : w.ownsRow B 9 1 v n xs) {q : Nat} (hq : v.ownBlock = some q) : B ≤ q ∧ ∃ cur, w.heap[q]? = some (.cells cur 9 (0, 0)) := by
  refine ⟨(h.lt q hq).1, ?_⟩
  rcases h.2 with ⟨rfl, _⟩ | ⟨g, cap, cur, rfl, _, hg, _⟩
  · cases hq
  · have : g = q := by cases hq; rfl
    subst this
    exact ⟨cur, hg⟩
/-- The fields' row turns, or another takes its place. -/
theorem On8.newRow {p : Pl8} {s : St8} {W W' : World} {fv0 fv : Value} {t : ByteArray} {fs : List (List UInt8)} (h : On8 p s W) (hM0 : MAt8 W p.m p.ab p.vb s.txt fv0 (.slice (some ⟨p.sb, 0, none⟩) 1 1) s.out.size s.fuel 0) (hF0 : W.ownsRow p.wN.heap.size 9 1 fv0 s.fs.length (strsV s.fs)) (ho : Only (fun q => q = p.m ∨ fv0.ownBlock = some q) W W') (hM : MAt8 W' p.m p.ab p.vb t fv (.slice (some ⟨p.sb, 0, none⟩) 1 1) s.out.size s.fuel 0) (hF : W'.ownsRow p.wN.heap.size 9 1 fv fs.length (strsV fs)) : On8 p { s with txt := t, fs := fs } W' ∧ Kept p W W' := by
  obtain ⟨tv, hS, hT⟩ := h.S
  have hm := h.hm
  have a2 := own_tag hT hM0 (by decide)
  refine ⟨⟨h.hm, h.hv, h.hs, h.nmv, h.nms, h.nvs, ⟨fv, hM, hF⟩, h.V.only ho (fun e => ?_), ⟨tv, (ho.block p.sb (heap_lt hS) (fun e => ?_)).trans hS, ownsRow_of hT (fun k hk => ho.block k (hT.lt k hk).2 (fun e => ?_))⟩, h.O.trans ho (fun k hk e => ?_)⟩, ⟨ho.size, fun q c t h1 _ _ h9 _ hq => (ho.block q (heap_lt hq) (fun e => ?_)).trans hq⟩⟩
  · rcases e with e | e
    · exact h.nmv e.symm
    · obtain ⟨_, cur, hg⟩ := own_block hF0 e
      have := h.V
      unfold VAt at this
      rw [hg] at this
      simp at this
  · rcases e with e | e
    · exact h.nms e.symm
    · obtain ⟨_, cur, hg⟩ := own_block hF0 e
      rw [hg] at hS
      simp at hS
  · rcases e with e | e
    · exact a2 (by rw [hk, e])
    · obtain ⟨_, cur, hg⟩ := own_block hF0 e
      exact own_tag hT hg (by decide) hk
  · rcases e with e | e
    · omega
    · have := (own_block hF0 e).1
      omega
  · rcases e with e | e
    · exact h1 e
    · obtain ⟨_, cur, hg⟩ := own_block hF0 e
      rw [hg] at hq
      simp at hq
      exact h9 hq.2.symm
set_option maxRecDepth 20000 in
set_option maxHeartbeats 4000000 in
/-- A record without fields gets one. -/
theorem resize_on (p : Pl8) (s : St8) (hs : s.fs = []) (sep : ByteArray) (w : World) (h : On8 p s w) :
    Calls Tryz.prog 435 #[.pointer (some ⟨p.m, 2, none⟩), .int .i64 1, .string sep] w fun en w' => en = .returned .nilIface ∧ On8 p { s with fs := [[]], txt := ofB [] } w' ∧ Kept p w w' := by
  obtain ⟨i0, hi0, hz0, hz1, hz2⟩ := info_parts info9s
  have HJ := hide (fun W hW => rjoin_on p { s with fs := [[]] } sep (by simp) (by simp) (by simp [joinsL]) W hW)
  have HH := hide h
  clear h
  go_enter Tryz.func435, Tryz.ntmps435
  go_wp2
  go_loopg [] 1 (fun gh wr => (gh = 1 ∧ wr = w) ∨ (gh = 0 ∧ Hid (On8 p { s with fs := [[]] } wr ∧ Kept p w wr)))
  case atStart => exact Or.inl ⟨rfl, rfl⟩
  case round =>
    rcases hrel with ⟨rfl, rfl⟩ | ⟨rfl, HR⟩
    · obtain ⟨fv, hM, hF⟩ := HH.out.M
      obtain ⟨po, cap, rfl⟩ := ownsRow_slice hF
      rw [hs] at hM hF
      have c3 : wr.cell? ⟨p.m, 3, none⟩ = some (.slice po 0 cap) := cell_of hM rfl
      have ml := heap_lt hM
      have mf := free_of hM
      have hF' : wr.ownsRow p.wN.heap.size 9 1 (.slice po 0 cap) 0 [] := hF
      have HF := hide hF'
      have HM := hide hM
      have hnm : some p.m ≠ (Value.slice po 0 cap).ownBlock := fun e => own_tag hF' hM (by decide) e.symm
      have hBw := HH.out.O.size
      clear hM hF hF'
      go_wp2_with (at_builtin; refine wpList_append_own _ rfl (.tmp 18) (.tmp 19) 23 rfl p.wN.heap.size 9 i0 (.string ⟨#[]⟩) 1 16 Tryz.underlying23 hi0 hz0 hz1 hz2 rfl (by decide) _ _ _ rfl (HF.out.alloc _) _ 1 1 [.string ⟨#[]⟩] rfl rfl (news_oneR _ _ _) (fun u hu => by simp at hu; subst hu; rfl) (by unfold maxLen; omega) (by omega) (by simp; omega) ?_; intro v' w1 hown hgrow hnil; obtain ⟨ao, cap2, rfl⟩ := ownsRow_slice hown; have hb1 := (hgrow.block p.m (by simp; omega) hnm).trans ((Below.heap_alloc _ _ _ ml).trans HM.out); have d3 : w1.cell? ⟨p.m, 3, none⟩ = some (.slice po 0 cap) := cell_of hb1 rfl; have df := free_of hb1; have dl := heap_lt hb1; have HB1 := hide hb1; have HOw := hide hown; have HG := hide hgrow; clear hb1 hown hgrow)
      go_roundg 0
      case measure => omega
      case rel =>
        have hO : Only (fun q => q = p.m ∨ (Value.slice po 0 cap).ownBlock = some q) wr _ := ((((Only.refl (fun q => q = p.m ∨ (Value.slice po 0 cap).ownBlock = some q) wr).alloc (.cells #[.string ⟨#[]⟩] 9)).grown HG.out (fun k hk _ => Or.inr hk)).setCell (p := ⟨p.m, 3, none⟩) (fun _ => Or.inl rfl) (.slice ao 1 cap2))
        have hM1 := heap_setCell_same (o := 3) HB1.out (.slice ao 1 cap2)
        have a1 := own_tag HOw.out HB1.out (by decide)
        have hF1 := ownsRow_of (w' := w1.setCell ⟨p.m, 3, none⟩ (.slice ao 1 cap2)) HOw.out (fun k hk => Below.heap_setCell _ _ _ _ (fun e => a1 (by rw [hk, e])))
        have hM0 := HM.out
        have hF0 := HF.out
        exact Or.inr ⟨rfl, hide (HH.out.newRow (fs := [[]]) hM0 (by rw [hs]; exact hF0) hO hM1 hF1)⟩
    · have hR := HR.out
      clear HR
      obtain ⟨hn, hk⟩ := hR
      obtain ⟨fv, hM, hF⟩ := hn.M
      obtain ⟨g, cap, rfl, hc, hg, hcells⟩ := row_some hF (by simp)
      have c3 : wr.cell? ⟨p.m, 3, none⟩ = some (.slice (some ⟨g, 0, none⟩) 1 cap) := cell_of hM rfl
      have ml := heap_lt hM
      have mf := free_of hM
      have HM := hide hM
      have HF := hide hF
      have HN := hide hn
      have HK := hide hk
      have hc1 : (1 : Int) ≤ (cap : Int) := by simp at hc; omega
      have hc0 : ¬ cap = 0 := by omega
      clear hn hk hM hF hcells hc
      have hO : Only (fun q => q = p.m) wr _ := (Only.refl (fun q => q = p.m) wr).setCell (p := ⟨p.m, 3, none⟩) (fun _ => rfl) (.slice (some ⟨g, 0, none⟩) 1 cap)
      have a1 := own_tag HF.out HM.out (by decide)
      have hn2 := HN.out.turnM (fs := [[]]) hO (heap_setCell_same HM.out _) (ownsRow_of HF.out (fun k hk => Below.heap_setCell _ _ _ _ (fun e => a1 (hk.trans (congrArg some e)))))
      have HJ2 := hide (HJ.out _ hn2)
      have HK2 := hide (HK.out.trans (Kept.ofV (fun q e => Or.inl e) hO))
      clear hO hn2 a1
      go_wp2_with fail
      refine (HJ2.out).mono ?_
      rintro en w2 ⟨rfl, hn3, hk3⟩
      have HN3 := hide hn3
      have HK3 := hide hk3
      clear hn3 hk3
      go_wp2
      go_ret
      refine ⟨rfl, ?_, HK2.out.trans HK3.out⟩
      have := HN3.out
      simp only [joinsL, List.map_nil, List.flatten_nil, List.append_nil] at this
      exact this
set_option maxRecDepth 20000 in
set_option maxHeartbeats 2000000 in
/-- The first field is stored where there is none. -/
theorem store_first_on (p : Pl8) (s : St8) (hs : s.fs = []) (x : List UInt8) (hx : x.length ≤ 500) (sep : ByteArray) (w : World) (h : On8 p s w) :
    Calls Tryz.prog 389 #[.pointer (some ⟨p.m, 2, none⟩), .int .i64 1, .string (ofB x), .string sep] w fun en w' => en = .returned .nilIface ∧ On8 p { s with fs := [x], txt := ofB x } w' ∧ Kept p w w' := by
  obtain ⟨fv, hM, hF⟩ := h.M
  obtain ⟨po, cap, rfl⟩ := ownsRow_slice hF
  rw [hs] at hM hF
  have c3 : w.cell? ⟨p.m, 3, none⟩ = some (.slice po 0 cap) := cell_of hM rfl
  have HR := hide (resize_on p s hs sep w h)
  clear h hM hF
  go_enter Tryz.func389, Tryz.ntmps389
  go_wp2_with fail
  refine (HR.out).mono ?_
  rintro en w1 ⟨rfl, hn, hk⟩
  obtain ⟨fv, hM, hF⟩ := hn.M
  obtain ⟨g, cap2, rfl, hc, hg, hcells⟩ := row_some hF (by simp)
  obtain ⟨hn1, hk1⟩ := hn.setField hM hF 0 x
  have HJ := hide (rjoin_on p { s with txt := ofB [], fs := [x] } sep (by simp) (by simp) (by simpa [joinsL] using hx) _ hn1)
  have c31 : w1.cell? ⟨p.m, 3, none⟩ = some (.slice (some ⟨g, 0, none⟩) 1 cap2) := cell_of hM rfl
  have ml := heap_lt hM
  have ci := hcells 0 [] rfl
  have cf := hF.frozenAt 0
  have HK := hide (hk.trans hk1)
  clear hn hk hM hF hn1 hk1 hcells hc hx HR c3
  go_wp2_with fail
  refine (HJ.out).mono ?_
  rintro en w2 ⟨rfl, hn, hk⟩
  have HN := hide hn
  have HK1 := hide hk
  clear hn hk HJ
  go_wp2
  go_ret
  refine ⟨rfl, ?_, HK.out.trans HK1.out⟩
  have := HN.out
  simp only [joinsL, List.map_nil, List.flatten_nil, List.append_nil] at this
  exact this
set_option maxRecDepth 20000 in
set_option maxHeartbeats 4000000 in
theorem set_field_on (p : Pl8) (s s1 : St8) (k : Nat) (hk0 : k ≠ 0) (a n : Int) (ha : (a == 1) = false) (t sep : ByteArray) (hcs : s1.cs = s.cs) (x3 x4 x5 : Value) (e3 : s.cs[3]? = some x3) (e4 : s.cs[4]? = some x4) (e5 : s.cs[5]? = some x5) (f0 : s.cs[9]? = some (.int .i64 2)) (f1 : s.cs[10]? = some (.int .i64 0)) (f2 : s.cs[11]? = some (.string sep))
    (HS : ∀ W, On8 p s W → Calls Tryz.prog 389 #[.pointer (some ⟨p.m, 2, none⟩), .int .i64 k, .string t, .string sep] W fun en w' => en = .returned .nilIface ∧ On8 p s1 w' ∧ Kept p W w') (w : World) (h : On8 p s w) :
    Calls Tryz.prog 322 #[.pointer (some ⟨p.m, 0, none⟩), .int .i64 k, .agg #[.int .i64 a, .int .i64 n, .string t]] w fun en w' => en = .returned (.tuple #[]) ∧ On8 p { s1 with cs := setVar s1.cs 1 1 s1.fs.length ⟨#[]⟩ } w' ∧ Kept p w w' := by
  have hkz : ((k : Int) == 0) = false := by rw [beq_eq_false_iff_ne]; omega
  have HTx := hide (fun W => text_any a n t W ha)
  have HTm := hide (fun W (hW : Only (fun _ => False) w W) => by
    have hn := h.calm hW
    obtain ⟨fv, hM, _⟩ := hn.M
    exact mtext8 p.m p.ab p.vb s.txt fv _ s.out.size s.fuel 0 3 2 0 sep (by decide) (by omega) W hM (hn.V.cell f0) (hn.V.cell f1) (hn.V.cell f2))
  have HSt := hide (fun W (hW : Only (fun _ => False) w W) => HS W (h.calm hW))
  have HCk := hide (check_nil (some ⟨p.m, 0, none⟩))
  have HCt := hide (fun W (hW : On8 p s1 W) => by
    obtain ⟨fv, hM, hF⟩ := hW.M
    obtain ⟨po, cap, rfl⟩ := ownsRow_slice hF
    exact count_fields8 p.m p.ab p.vb s1.txt po s1.fs.length cap _ s1.out.size s1.fuel 0 s1.cs x3 x4 x5 W hM hW.V (by rw [hcs]; exact e3) (by rw [hcs]; exact e4) (by rw [hcs]; exact e5) hW.nmv)
  clear h HS f0 f1 f2 e3 e4 e5 hcs
  go_enter Tryz.func322, Tryz.ntmps322
  go_upto_region 3 with fail
  go_region_with (first | (go_at_call 235; refine (HTx.out _).mono ?_; rintro en w1 ⟨rfl, hb1⟩; have HO1 := hide ((onlyA w _).trans (fromDrew (Only.ofBelow hb1 (fun _ => False))) (fun _ _ e => e)); clear hb1) | (go_at_call 168; refine (HTm.out _ HO1.out).mono ?_; rintro en w2 ⟨rfl, ho2⟩; have HO2 := hide (HO1.out.trans ho2 (fun _ _ e => e)); clear ho2) | (go_at_call 389; refine (HSt.out _ HO2.out).mono ?_; rintro en w3 ⟨rfl, hn3, hk3⟩; have HN3 := hide hn3; have HK3 := hide ((Kept.of (p := p) HO2.out).trans hk3); clear hn3 hk3) | (go_at_call 166; refine (HCk.out _).mono ?_; rintro en w' ⟨rfl, h3⟩; subst w'))
  all_goals
    have HC3 := hide (HCt.out w3 HN3.out)
    go_wp2_with fail
    refine (HC3.out).mono ?_
    rintro en w4 ⟨rfl, hv4, ho4⟩
    have HV4 := hide hv4
    have HO4 := hide ho4
    clear hv4 ho4
    go_wp2
    go_end0
    exact ⟨rfl, HN3.out.turnV HO4.out HV4.out, HK3.out.trans (Kept.ofV (fun q e => Or.inr (Or.inl e)) HO4.out)⟩
theorem cf321 (args : Array Value) (w : World) : (callFunc 321 args).run Tryz.prog w = .ok (.enter 321 args) w := callFunc_in Tryz.func321 (by kernel_rfl) rfl args w
set_option maxRecDepth 20000 in
set_option maxHeartbeats 2000000 in
theorem stores_fieldG (p : Pl8) (s s' : St8) (k : Nat) (a n : Int) (t : ByteArray) (H : ∀ W, On8 p s W → Calls Tryz.prog 322 #[.pointer (some ⟨p.m, 0, none⟩), .int .i64 k, .agg #[.int .i64 a, .int .i64 n, .string t]] W fun en w' => en = .returned (.tuple #[]) ∧ On8 p s' w' ∧ Kept p W w') : StoresK p s s' 321 k (.agg #[.int .i64 a, .int .i64 n, .string t]) := by
  refine ⟨cf321, fun w b2 nb h g2 g4 => ?_⟩
  have l2 := heap_lt g2
  have l4 := heap_lt g4
  have c2 : w.cell? ⟨b2, 0, none⟩ = some (.pointer (some ⟨p.m, 0, none⟩)) := cell_of g2 rfl
  have c4 : w.cell? ⟨nb, 0, none⟩ = some (.int .i64 k) := cell_of g4 rfl
  have HR := hide (H _ (h.calm (onlyA w (.cells #[.int .i64 a, .int .i64 n, .string t] 203))))
  clear h H g2 g4
  go_enter Tryz.func321, Tryz.ntmps321
  go_wp2_with fail
  refine (HR.out).mono ?_
  rintro en w2 ⟨rfl, hq, hk⟩
  have HQ := hide hq
  have HK := hide hk
  clear hq hk
  go_wp2
  go_end0
  exact ⟨rfl, HQ.out, (Kept.of (onlyA w _)).trans HK.out⟩
/-- The first field is stored to itself. -/
theorem stores_first (p : Pl8) (s : St8) (h40 : s.fs.length ≤ 40) (x3 x4 x5 : Value) (e3 : s.cs[3]? = some x3) (e4 : s.cs[4]? = some x4) (e5 : s.cs[5]? = some x5) (f0 : s.cs[9]? = some (.int .i64 2)) (f1 : s.cs[10]? = some (.int .i64 0)) (f2 : s.cs[11]? = some (.string ⟨#[32]⟩)) (x : List UInt8) (hx : s.fs[0]? = some x) (hT : (joinsL [32] s.fs).length ≤ 500) (a n : Int) (ha : (a == 1) = false) :
    StoresK p s { s with txt := ofB (joinsL [32] s.fs), cs := setVar s.cs 1 1 s.fs.length ⟨#[]⟩ } 321 1 (.agg #[.int .i64 a, .int .i64 n, .string (ofB x)]) := by
  have h0 : 0 < s.fs.length := (List.getElem?_eq_some_iff.1 hx).1
  have hse : s.fs.set 0 x = s.fs := by
    cases hf : s.fs with
    | nil => rw [hf] at h0; simp at h0
    | cons b r => rw [hf] at hx; simp at hx; subst hx; rfl
  refine stores_fieldG p s _ 1 a n (ofB x) (fun W hW => set_field_on p s { s with txt := ofB (joinsL [32] s.fs) } 1 (by omega) a n ha (ofB x) ⟨#[32]⟩ rfl x3 x4 x5 e3 e4 e5 f0 f1 f2 (fun W hW => ?_) W hW)
  have := store_field_on p s 0 h0 h40 x ⟨#[32]⟩ (by rw [hse]; exact hT) W hW
  rw [hse] at this
  exact this
/-- The first field is stored where there is none. -/
theorem stores_none (p : Pl8) (s : St8) (hs : s.fs = []) (x3 x4 x5 : Value) (e3 : s.cs[3]? = some x3) (e4 : s.cs[4]? = some x4) (e5 : s.cs[5]? = some x5) (f0 : s.cs[9]? = some (.int .i64 2)) (f1 : s.cs[10]? = some (.int .i64 0)) (f2 : s.cs[11]? = some (.string ⟨#[32]⟩)) :
    StoresK p s { s with fs := [[]], txt := ofB [], cs := setVar s.cs 1 1 1 ⟨#[]⟩ } 321 1 (.agg #[.int .i64 0, .int .i64 0, .string ⟨#[]⟩]) :=
  stores_fieldG p s _ 1 0 0 ⟨#[]⟩ (fun W hW => set_field_on p s { s with fs := [[]], txt := ofB [] } 1 (by omega) 0 0 (by decide) ⟨#[]⟩ ⟨#[32]⟩ rfl x3 x4 x5 e3 e4 e5 f0 f1 f2 (fun W hW => store_first_on p s hs [] (by simp) ⟨#[32]⟩ W hW) W hW)
end Go.Proofs.YtdbdbaepmdmnfaaGreatDoor

