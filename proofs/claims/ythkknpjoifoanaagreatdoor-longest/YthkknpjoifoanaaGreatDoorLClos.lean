import Derived.Test.YthkknpjoifoanaaGreatDoorMTab
import Derived.Test.YthkknpjoifoanaaGreatDoorRows
namespace Go.Proofs.YthkknpjoifoanaaGreatDoor
/-- The closure by a table; what was seen is told by the bits of a number. -/
def closB (T : Nat → List Nat) : Nat → List Nat → Nat → List Nat → List Nat
  | 0, _, _, seen => seen.reverse
  | _ + 1, [], _, seen => seen.reverse
  | n + 1, f :: todo, mask, seen => if mask.testBit f then closB T n todo mask seen else closB T n (T f ++ todo) (mask ||| 2 ^ f) (f :: seen)
theorem closB_eq (n : Nat) (todo seen : List Nat) (mask : Nat) (h : ∀ g, mask.testBit g = seen.contains g) : Tryz.prog.closureVia n todo seen = closB leadT n todo mask seen := by
  induction n generalizing todo seen mask with
  | zero => rfl
  | succ n ih =>
    cases todo with
    | nil => rfl
    | cons f todo =>
      unfold Program.closureVia closB
      rw [h f]
      by_cases hc : seen.contains f = true
      · rw [if_pos hc, if_pos hc]; exact ih _ _ _ h
      · rw [if_neg hc, if_neg hc, ← lead_eq f]
        refine ih _ _ _ fun g => ?_
        rw [Nat.testBit_or, Nat.testBit_two_pow, h g, List.contains_cons]
        by_cases e : f = g
        · subst e; simp
        · rw [decide_eq_false e, Bool.or_false]
          have : (g == f) = false := by rw [beq_eq_false_iff_ne]; exact Ne.symm e
          rw [this, Bool.false_or]
theorem fuel_num : 1 + ((List.range 571).map fun i => (leadT i).length + 1).sum = 1726 := by kernel_rfl
theorem fuel_eq : 1 + (Tryz.prog.funcs.toList.map fun g => (Tryz.prog.leadsTo g).length + 1).sum = 1726 := by
  have h : (Tryz.prog.funcs.toList.map fun g => (Tryz.prog.leadsTo g).length + 1) = (List.range 571).map fun i => (leadT i).length + 1 := by
    apply List.ext_getElem?
    intro i
    rw [List.getElem?_map, List.getElem?_map]
    by_cases hi : i < 571
    · rw [List.getElem?_range hi]
      show _ = some ((leadT i).length + 1)
      rw [← lead_eq i]
      have : i < Tryz.prog.funcs.size := by rw [nfuncs]; exact hi
      rw [Array.getElem?_toList, Array.getElem?_eq_getElem this]
      rfl
    · rw [List.getElem?_eq_none (by rw [Array.length_toList, nfuncs]; omega), List.getElem?_eq_none (by rw [List.length_range]; omega)]
      rfl
  rw [h]
  exact fuel_num
def clos3 : List Nat := [3, 5, 8, 16, 17, 25, 50, 89, 51, 90, 118, 155, 222, 223, 224, 341, 407, 342, 225, 226, 156, 27, 26, 52, 53, 54, 18, 28, 55, 91, 119, 120, 56, 92, 93, 29, 30, 9, 10, 11, 6, 12, 19, 31, 57, 58, 59, 94, 121, 157, 85, 158, 122, 159, 160, 161, 227, 228, 162, 229, 230, 163, 231, 164, 232, 165, 233, 234, 123, 60, 95, 124, 96, 125, 126, 127, 128, 166, 235, 129, 167, 236, 237, 130, 168, 242, 348, 413, 410, 442, 466, 476, 170, 480, 481, 485, 487, 492, 493, 486, 488, 470, 489, 490, 383, 425, 189, 252, 253, 185, 350, 351, 254, 255, 352, 353, 414, 415, 494, 491, 482, 411, 409, 483, 484, 241, 443, 412, 169, 238, 239, 343, 344, 240, 345, 408, 346, 347, 97, 32, 61, 98, 99, 100, 62, 101, 102, 131, 132, 172, 243, 103, 174, 244, 175, 245, 246, 171, 173, 63, 64, 104, 134, 184, 133, 176, 177, 247, 178, 248, 249, 179, 250, 251, 349, 180, 181, 182, 183, 105, 106, 135, 65, 20, 33, 66, 107, 136, 186, 67, 108, 137, 109, 140, 141, 190, 142, 68, 143, 144, 138, 139, 187, 188, 34, 35, 13, 21, 36, 69, 70, 110, 145, 191, 147, 74, 200, 282, 75, 201, 283, 362, 363, 219, 113, 285, 266, 358, 286, 284, 364, 258, 202, 287, 366, 365, 288, 367, 275, 368, 369, 290, 370, 289, 291, 292, 293, 294, 295, 115, 149, 217, 371, 218, 150, 152, 419, 420, 267, 359, 417, 453, 153, 220, 203, 278, 261, 354, 355, 112, 361, 265, 331, 296, 297, 298, 300, 299, 204, 301, 302, 303, 304, 372, 384, 305, 306, 116, 151, 24, 46, 84, 86, 87, 47, 48, 88, 49, 373, 205, 307, 374, 375, 308, 309, 376, 310, 377, 311, 378, 277, 206, 312, 379, 380, 313, 381, 421, 422, 423, 424, 382, 314, 385, 315, 386, 316, 317, 387, 320, 388, 426, 455, 427, 456, 457, 471, 458, 428, 459, 461, 473, 472, 478, 474, 479, 460, 475, 462, 340, 463, 318, 389, 390, 429, 148, 213, 338, 214, 215, 216, 339, 391, 430, 392, 393, 394, 319, 207, 321, 154, 221, 322, 323, 208, 324, 325, 326, 395, 327, 396, 431, 432, 433, 434, 435, 436, 397, 398, 437, 464, 438, 465, 328, 399, 439, 400, 401, 402, 403, 440, 404, 405, 329, 209, 330, 210, 332, 333, 211, 334, 212, 335, 336, 406, 441, 337, 256, 192, 257, 259, 77, 260, 193, 262, 263, 356, 357, 416, 444, 450, 445, 467, 446, 447, 468, 469, 477, 448, 449, 451, 452, 194, 264, 268, 360, 418, 454, 195, 269, 196, 270, 271, 272, 273, 197, 274, 198, 276, 279, 280, 199, 281, 146, 111, 71, 37, 72, 73, 39, 40, 41, 78, 114, 79, 80, 117, 38, 76, 42, 43, 81, 44, 22, 23, 45, 82, 83]
theorem clos_num_3 : closB leadT 1726 [3] 0 [] = clos3 := by kernel_rfl
theorem plc_num_3 : (Rows.longestRow.inPlace == clos3.filterMap (fun g => if plcT g then (Tryz.prog.funcs[g]?).map (·.name) else .none)) = true := by kernel_rfl
theorem nam_num_3 : (Rows.longestRow.named == (((clos3.flatMap gloT).eraseDups).filterMap (fun g => (Tryz.prog.globals[g]?).map (·.name)) ++ clos3.filterMap entT).eraseDups) = true := by kernel_rfl
theorem clos_3 : Tryz.prog.closure 3 = clos3 := by
  unfold Program.closure
  rw [fuel_eq, closB_eq 1726 [3] [] 0 (fun g => by simp)]
  exact clos_num_3
theorem inPlace_3 : (Rows.longestRow.inPlace == Tryz.prog.inPlace 3) = true := by
  have h : Tryz.prog.inPlace 3 = clos3.filterMap (fun g => if plcT g then (Tryz.prog.funcs[g]?).map (·.name) else .none) := by
    unfold Program.inPlace
    rw [clos_3, show (fun g => (Tryz.prog.funcs[g]?).bind fun fn => if fn.ours || fn.body.isNone || fn.name == "runtime.NumGoroutine" then some fn.name else .none) = (fun g => if plcT g then (Tryz.prog.funcs[g]?).map (·.name) else .none) from funext plc_name]
  rw [h]
  exact plc_num_3
theorem unf_3 : Tryz.prog.unfollowed 3 = true := by
  unfold Program.unfollowed
  rw [clos_3]
  exact List.any_eq_true.2 ⟨29, by decide, by kernel_rfl⟩
theorem unfollowed_3 : (Rows.longestRow.unfollowed == Tryz.prog.unfollowed 3) = true := by rw [unf_3]; rfl
theorem recurses_3 : (Rows.longestRow.recurses == Tryz.prog.recurses 3) = true := by
  unfold Program.recurses
  rw [unf_3, Bool.true_or]; rfl
theorem named_3 : (Rows.longestRow.named == Tryz.prog.varsNamed 3) = true := by
  have h : Tryz.prog.varsNamed 3 = (((clos3.flatMap gloT).eraseDups).filterMap (fun g => (Tryz.prog.globals[g]?).map (·.name)) ++ clos3.filterMap entT).eraseDups := by
    unfold Program.varsNamed
    rw [clos_3, show (fun g => ((Tryz.prog.funcs[g]?).bind (·.body)).elim [] Code.globalsNamed) = gloT from funext glo_eq, show (fun g => (Tryz.prog.funcs[g]?).bind fun fn => if fn.body.isNone then entryReads.lookup fn.name else .none) = entT from funext ent_eq]
  rw [h]
  exact nam_num_3
end Go.Proofs.YthkknpjoifoanaaGreatDoor
