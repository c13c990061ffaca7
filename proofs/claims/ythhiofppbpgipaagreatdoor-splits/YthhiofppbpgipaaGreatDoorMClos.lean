import Derived.Test.YthhiofppbpgipaaGreatDoorMTab
import Derived.Test.YthhiofppbpgipaaGreatDoorRows
namespace Go.Proofs.YthhiofppbpgipaaGreatDoor
/-- The closure by a table; what was seen is told by the bits of a number. -/
def closB (T : Nat → List Nat) : Nat → List Nat → Nat → List Nat → List Nat
  | 0, _, _, seen => seen.reverse
  | _ + 1, [], _, seen => seen.reverse
  | n + 1, f :: todo, mask, seen => if mask.testBit f then closB T n todo mask seen else closB T n (T f ++ todo) (mask ||| 2 ^ f) (f :: seen)
theorem closB_eq (n : Nat) (todo seen : List Nat) (mask : Nat) (h : ∀ g, mask.testBit g = seen.contains g) : Tryz.prog.closureVia n todo seen = closB leadT n todo mask seen := by
  induction n generalizing todo seen mask with
  | zero => rfl
  | succ n ih =>
    cases todo with
    | nil => rfl
    | cons f todo =>
      unfold Program.closureVia closB
      rw [h f]
      by_cases hc : seen.contains f = true
      · rw [if_pos hc, if_pos hc]; exact ih _ _ _ h
      · rw [if_neg hc, if_neg hc, ← lead_eq f]
        refine ih _ _ _ fun g => ?_
        rw [Nat.testBit_or, Nat.testBit_two_pow, h g, List.contains_cons]
        by_cases e : f = g
        · subst e; simp
        · rw [decide_eq_false e, Bool.or_false]
          have : (g == f) = false := by rw [beq_eq_false_iff_ne]; exact Ne.symm e
          rw [this, Bool.false_or]
theorem fuel_num : 1 + ((List.range 735).map fun i => (leadT i).length + 1).sum = 2504 := by kernel_rfl
theorem fuel_eq : 1 + (Tryz.prog.funcs.toList.map fun g => (Tryz.prog.leadsTo g).length + 1).sum = 2504 := by
  have h : (Tryz.prog.funcs.toList.map fun g => (Tryz.prog.leadsTo g).length + 1) = (List.range 735).map fun i => (leadT i).length + 1 := by
    apply List.ext_getElem?
    intro i
    rw [List.getElem?_map, List.getElem?_map]
    by_cases hi : i < 735
    · rw [List.getElem?_range hi]
      show _ = some ((leadT i).length + 1)
      rw [← lead_eq i]
      have : i < Tryz.prog.funcs.size := by rw [nfuncs]; exact hi
      rw [Array.getElem?_toList, Array.getElem?_eq_getElem this]
      rfl
    · rw [List.getElem?_eq_none (by rw [Array.length_toList, nfuncs]; omega), List.getElem?_eq_none (by rw [List.length_range]; omega)]
      rfl
  rw [h]
  exact fuel_num
def clos3 : List Nat := [3, 6, 7, 8, 22, 23, 47, 104, 186, 105, 187, 257, 332, 415, 416, 417, 539, 600, 540, 418, 419, 333, 49, 48, 106, 107, 108, 24, 50, 109, 188, 258, 259, 110, 189, 190, 51, 52, 9, 25, 53, 54, 111, 191, 260, 112, 26, 55, 113, 192, 193, 194, 10, 11, 27, 56, 114, 115, 116, 117, 57, 58, 118, 59, 12, 28, 60, 70, 61, 13, 14, 15, 29, 62, 30, 63, 64, 31, 65, 119, 66, 120, 121, 195, 122, 67, 125, 124, 199, 264, 265, 336, 335, 337, 266, 267, 338, 339, 421, 422, 123, 127, 197, 196, 261, 283, 368, 334, 420, 215, 262, 77, 198, 263, 126, 200, 128, 201, 130, 129, 32, 68, 131, 132, 16, 33, 69, 133, 34, 71, 134, 72, 135, 86, 163, 101, 136, 17, 35, 73, 137, 138, 139, 202, 268, 340, 341, 269, 342, 343, 344, 423, 424, 345, 425, 426, 346, 427, 347, 428, 348, 429, 430, 270, 140, 203, 271, 204, 272, 273, 274, 275, 349, 431, 276, 350, 432, 433, 277, 351, 438, 546, 606, 603, 630, 645, 650, 353, 653, 655, 230, 300, 377, 378, 162, 231, 301, 232, 233, 302, 234, 656, 604, 602, 657, 658, 437, 631, 605, 352, 434, 435, 541, 542, 436, 543, 601, 544, 545, 205, 74, 141, 206, 207, 208, 142, 209, 210, 278, 279, 355, 439, 211, 357, 440, 358, 441, 442, 354, 356, 143, 144, 212, 281, 367, 280, 359, 360, 443, 361, 444, 445, 362, 446, 447, 547, 363, 364, 365, 366, 213, 214, 282, 145, 36, 75, 146, 147, 216, 284, 217, 287, 371, 288, 148, 289, 290, 285, 286, 369, 370, 76, 18, 37, 78, 149, 218, 219, 291, 292, 154, 293, 294, 295, 296, 150, 151, 152, 220, 221, 222, 223, 226, 297, 225, 372, 224, 298, 375, 453, 550, 549, 607, 632, 646, 651, 376, 452, 548, 654, 299, 608, 448, 373, 449, 374, 450, 451, 153, 79, 155, 156, 157, 81, 80, 158, 227, 160, 159, 228, 229, 82, 38, 39, 85, 161, 87, 84, 83, 19, 40, 88, 164, 165, 235, 303, 379, 305, 169, 388, 480, 170, 389, 481, 558, 559, 238, 483, 464, 555, 484, 482, 560, 456, 390, 485, 562, 561, 486, 563, 473, 564, 565, 488, 566, 487, 489, 490, 491, 492, 493, 567, 405, 307, 309, 611, 612, 465, 310, 406, 391, 476, 459, 551, 552, 237, 557, 463, 529, 494, 495, 496, 498, 497, 392, 499, 500, 501, 502, 568, 503, 504, 240, 308, 569, 393, 505, 570, 571, 506, 507, 572, 508, 573, 509, 574, 475, 394, 510, 575, 576, 511, 577, 613, 614, 615, 616, 578, 512, 579, 513, 580, 514, 515, 581, 518, 516, 582, 583, 617, 306, 401, 536, 402, 403, 404, 537, 584, 618, 585, 586, 587, 517, 395, 519, 311, 407, 520, 521, 396, 522, 523, 524, 588, 525, 589, 619, 620, 621, 622, 623, 624, 590, 591, 625, 643, 626, 644, 526, 592, 627, 593, 594, 595, 596, 628, 597, 598, 527, 397, 528, 398, 530, 531, 399, 532, 400, 533, 534, 599, 629, 535, 454, 380, 455, 457, 172, 458, 381, 460, 461, 553, 554, 609, 633, 639, 634, 647, 635, 636, 648, 649, 652, 637, 638, 640, 641, 382, 462, 466, 556, 610, 642, 383, 467, 384, 468, 469, 470, 471, 385, 472, 386, 474, 477, 478, 387, 479, 304, 236, 166, 89, 167, 168, 91, 92, 93, 173, 239, 174, 175, 241, 90, 171, 94, 95, 176, 96, 41, 20, 42, 43, 44, 97, 99, 182, 177, 242, 312, 313, 315, 183, 100, 243, 314, 244, 316, 245, 317, 246, 318, 319, 327, 320, 321, 254, 330, 184, 414, 408, 409, 102, 247, 178, 248, 322, 249, 250, 323, 324, 410, 538, 325, 326, 411, 412, 413, 251, 252, 328, 329, 179, 180, 253, 181, 255, 331, 256, 45, 46, 98, 103, 185, 21]
theorem clos_num_3 : closB leadT 2504 [3] 0 [] = clos3 := by kernel_rfl
theorem plc_num_3 : (Rows.matchesRow.inPlace == clos3.filterMap (fun g => if plcT g then (Tryz.prog.funcs[g]?).map (·.name) else .none)) = true := by kernel_rfl
theorem nam_num_3 : (Rows.matchesRow.named == (((clos3.flatMap gloT).eraseDups).filterMap (fun g => (Tryz.prog.globals[g]?).map (·.name)) ++ clos3.filterMap entT).eraseDups) = true := by kernel_rfl
theorem clos_3 : Tryz.prog.closure 3 = clos3 := by
  unfold Program.closure
  rw [fuel_eq, closB_eq 2504 [3] [] 0 (fun g => by simp)]
  exact clos_num_3
theorem inPlace_3 : (Rows.matchesRow.inPlace == Tryz.prog.inPlace 3) = true := by
  have h : Tryz.prog.inPlace 3 = clos3.filterMap (fun g => if plcT g then (Tryz.prog.funcs[g]?).map (·.name) else .none) := by
    unfold Program.inPlace
    rw [clos_3, show (fun g => (Tryz.prog.funcs[g]?).bind fun fn => if fn.ours || fn.body.isNone || fn.name == "runtime.NumGoroutine" then some fn.name else .none) = (fun g => if plcT g then (Tryz.prog.funcs[g]?).map (·.name) else .none) from funext plc_name]
  rw [h]
  exact plc_num_3
theorem unf_3 : Tryz.prog.unfollowed 3 = true := by
  unfold Program.unfollowed
  rw [clos_3]
  exact List.any_eq_true.2 ⟨51, by decide, by kernel_rfl⟩
theorem unfollowed_3 : (Rows.matchesRow.unfollowed == Tryz.prog.unfollowed 3) = true := by rw [unf_3]; rfl
theorem recurses_3 : (Rows.matchesRow.recurses == Tryz.prog.recurses 3) = true := by
  unfold Program.recurses
  rw [unf_3, Bool.true_or]; rfl
theorem named_3 : (Rows.matchesRow.named == Tryz.prog.varsNamed 3) = true := by
  have h : Tryz.prog.varsNamed 3 = (((clos3.flatMap gloT).eraseDups).filterMap (fun g => (Tryz.prog.globals[g]?).map (·.name)) ++ clos3.filterMap entT).eraseDups := by
    unfold Program.varsNamed
    rw [clos_3, show (fun g => ((Tryz.prog.funcs[g]?).bind (·.body)).elim [] Code.globalsNamed) = gloT from funext glo_eq, show (fun g => (Tryz.prog.funcs[g]?).bind fun fn => if fn.body.isNone then entryReads.lookup fn.name else .none) = entT from funext ent_eq]
  rw [h]
  exact nam_num_3
end Go.Proofs.YthhiofppbpgipaaGreatDoor
