import Derived.Test.YtdbdbaepmdmnfaaGreatDoorMTab
import Derived.Test.YtdbdbaepmdmnfaaGreatDoorRows
namespace Go.Proofs.YtdbdbaepmdmnfaaGreatDoor
/-- The closure by a table; what was seen is told by the bits of a number. -/
def closB (T : Nat → List Nat) : Nat → List Nat → Nat → List Nat → List Nat
  | 0, _, _, seen => seen.reverse
  | _ + 1, [], _, seen => seen.reverse
  | n + 1, f :: todo, mask, seen => if mask.testBit f then closB T n todo mask seen else closB T n (T f ++ todo) (mask ||| 2 ^ f) (f :: seen)
theorem closB_eq (n : Nat) (todo seen : List Nat) (mask : Nat) (h : ∀ g, mask.testBit g = seen.contains g) : Tryz.prog.closureVia n todo seen = closB leadT n todo mask seen := by
  induction n generalizing todo seen mask with
  | zero => rfl
  | succ n ih =>
    cases todo with
    | nil => rfl
    | cons f todo =>
      unfold Program.closureVia closB
      rw [h f]
      by_cases hc : seen.contains f = true
      · rw [if_pos hc, if_pos hc]; exact ih _ _ _ h
      · rw [if_neg hc, if_neg hc, ← lead_eq f]
        refine ih _ _ _ fun g => ?_
        rw [Nat.testBit_or, Nat.testBit_two_pow, h g, List.contains_cons]
        by_cases e : f = g
        · subst e; simp
        · rw [decide_eq_false e, Bool.or_false]
          have : (g == f) = false := by rw [beq_eq_false_iff_ne]; exact Ne.symm e
          rw [this, Bool.false_or]
theorem fuel_num : 1 + ((List.range 587).map fun i => (leadT i).length + 1).sum = 1794 := by kernel_rfl
theorem fuel_eq : 1 + (Tryz.prog.funcs.toList.map fun g => (Tryz.prog.leadsTo g).length + 1).sum = 1794 := by
  have h : (Tryz.prog.funcs.toList.map fun g => (Tryz.prog.leadsTo g).length + 1) = (List.range 587).map fun i => (leadT i).length + 1 := by
    apply List.ext_getElem?
    intro i
    rw [List.getElem?_map, List.getElem?_map]
    by_cases hi : i < 587
    · rw [List.getElem?_range hi]
      show _ = some ((leadT i).length + 1)
      rw [← lead_eq i]
      have : i < Tryz.prog.funcs.size := by rw [nfuncs]; exact hi
      rw [Array.getElem?_toList, Array.getElem?_eq_getElem this]
      rfl
    · rw [List.getElem?_eq_none (by rw [Array.length_toList, nfuncs]; omega), List.getElem?_eq_none (by rw [List.length_range]; omega)]
      rfl
  rw [h]
  exact fuel_num
def clos8 : List Nat := [8, 23, 29, 26, 39, 55, 83, 121, 84, 122, 158, 205, 267, 268, 269, 368, 431, 369, 270, 271, 206, 57, 56, 85, 86, 87, 44, 58, 88, 123, 159, 160, 89, 124, 125, 69, 70, 13, 18, 28, 34, 45, 71, 72, 73, 105, 134, 171, 51, 172, 135, 173, 174, 175, 238, 239, 176, 240, 241, 177, 242, 178, 243, 179, 244, 245, 136, 74, 106, 137, 107, 138, 139, 140, 141, 180, 246, 142, 181, 247, 248, 143, 182, 253, 362, 428, 425, 458, 482, 492, 184, 496, 497, 501, 503, 508, 509, 502, 504, 486, 505, 506, 399, 441, 203, 263, 264, 199, 364, 365, 265, 266, 366, 367, 429, 430, 510, 507, 498, 426, 424, 499, 500, 252, 459, 427, 183, 249, 250, 357, 358, 251, 359, 423, 360, 361, 108, 46, 75, 109, 110, 111, 76, 112, 113, 144, 145, 186, 254, 114, 188, 255, 189, 256, 257, 185, 187, 77, 78, 115, 147, 198, 146, 190, 191, 258, 192, 259, 260, 193, 261, 262, 363, 194, 195, 196, 197, 116, 117, 148, 79, 41, 59, 90, 91, 126, 161, 207, 163, 95, 216, 298, 96, 217, 299, 378, 379, 235, 153, 129, 301, 282, 374, 302, 300, 380, 274, 218, 303, 382, 381, 304, 383, 291, 384, 385, 306, 386, 305, 307, 308, 309, 310, 311, 131, 165, 233, 387, 234, 166, 168, 435, 436, 283, 375, 149, 200, 433, 469, 118, 49, 169, 236, 219, 294, 277, 370, 371, 128, 377, 281, 347, 312, 313, 314, 316, 315, 220, 317, 318, 319, 320, 388, 400, 321, 322, 132, 167, 27, 36, 50, 52, 53, 37, 38, 54, 40, 389, 221, 323, 390, 391, 324, 325, 392, 326, 393, 327, 394, 293, 222, 328, 395, 396, 329, 397, 437, 438, 439, 440, 398, 330, 401, 331, 402, 332, 333, 403, 336, 404, 442, 471, 443, 472, 473, 487, 474, 444, 475, 477, 489, 488, 494, 490, 495, 476, 491, 478, 356, 479, 334, 405, 406, 445, 164, 229, 354, 230, 231, 232, 355, 407, 446, 408, 409, 410, 335, 223, 337, 170, 237, 338, 339, 224, 340, 341, 342, 411, 343, 412, 447, 448, 449, 450, 451, 452, 413, 414, 453, 480, 454, 481, 344, 415, 455, 416, 417, 418, 419, 456, 420, 421, 345, 225, 346, 226, 348, 349, 227, 350, 228, 351, 352, 422, 457, 353, 272, 208, 273, 275, 98, 276, 209, 278, 279, 372, 373, 432, 460, 466, 461, 483, 462, 463, 484, 485, 493, 464, 465, 467, 468, 210, 280, 284, 376, 434, 470, 211, 285, 212, 286, 287, 288, 289, 213, 290, 214, 292, 295, 296, 215, 297, 162, 127, 92, 60, 93, 94, 62, 63, 64, 99, 130, 100, 101, 133, 61, 97, 65, 66, 102, 67, 42, 43, 68, 103, 104, 19]
theorem clos_num_8 : closB leadT 1794 [8] 0 [] = clos8 := by kernel_rfl
theorem plc_num_8 : (Rows.replacedRow.inPlace == clos8.filterMap (fun g => if plcT g then (Tryz.prog.funcs[g]?).map (·.name) else .none)) = true := by kernel_rfl
theorem nam_num_8 : (Rows.replacedRow.named == (((clos8.flatMap gloT).eraseDups).filterMap (fun g => (Tryz.prog.globals[g]?).map (·.name)) ++ clos8.filterMap entT).eraseDups) = true := by kernel_rfl
theorem clos_8 : Tryz.prog.closure 8 = clos8 := by
  unfold Program.closure
  rw [fuel_eq, closB_eq 1794 [8] [] 0 (fun g => by simp)]
  exact clos_num_8
theorem inPlace_8 : (Rows.replacedRow.inPlace == Tryz.prog.inPlace 8) = true := by
  have h : Tryz.prog.inPlace 8 = clos8.filterMap (fun g => if plcT g then (Tryz.prog.funcs[g]?).map (·.name) else .none) := by
    unfold Program.inPlace
    rw [clos_8, show (fun g => (Tryz.prog.funcs[g]?).bind fun fn => if fn.ours || fn.body.isNone || fn.name == "runtime.NumGoroutine" then some fn.name else .none) = (fun g => if plcT g then (Tryz.prog.funcs[g]?).map (·.name) else .none) from funext plc_name]
  rw [h]
  exact plc_num_8
theorem unf_8 : Tryz.prog.unfollowed 8 = true := by
  unfold Program.unfollowed
  rw [clos_8]
  exact List.any_eq_true.2 ⟨69, by decide, by kernel_rfl⟩
theorem unfollowed_8 : (Rows.replacedRow.unfollowed == Tryz.prog.unfollowed 8) = true := by rw [unf_8]; rfl
theorem recurses_8 : (Rows.replacedRow.recurses == Tryz.prog.recurses 8) = true := by
  unfold Program.recurses
  rw [unf_8, Bool.true_or]; rfl
theorem named_8 : (Rows.replacedRow.named == Tryz.prog.varsNamed 8) = true := by
  have h : Tryz.prog.varsNamed 8 = (((clos8.flatMap gloT).eraseDups).filterMap (fun g => (Tryz.prog.globals[g]?).map (·.name)) ++ clos8.filterMap entT).eraseDups := by
    unfold Program.varsNamed
    rw [clos_8, show (fun g => ((Tryz.prog.funcs[g]?).bind (·.body)).elim [] Code.globalsNamed) = gloT from funext glo_eq, show (fun g => (Tryz.prog.funcs[g]?).bind fun fn => if fn.body.isNone then entryReads.lookup fn.name else .none) = entT from funext ent_eq]
  rw [h]
  exact nam_num_8
end Go.Proofs.YtdbdbaepmdmnfaaGreatDoor
