/- Lines that are right. Made by gen_line.py. -/
import Derived.Test.YtgdihceikhkddaaDoorLnVal
import Derived.Test.YtgdihceikhkddaaDoorBoxNameS
import Derived.Test.YtgdihceikhkddaaDoorFlagA
namespace Go.Proofs.YtgdihceikhkddaaDoor
open Go.RowKit Go.ChangeShapes Go.WideShapes Go.ChangeAt Go.Deep
open Plain
set_option linter.unusedVariables false
set_option linter.unusedSimpArgs false

namespace Plain
/-- A line that is right. -/
def lineOk (x : Ln) : Bool :=
 if x.kind = 1 then (inI x.num 0 30) && (decide (x.uid = 0)) && (decide (x.flags = 0)) && (decide (x.mod = 0)) && (decide (x.set.length = 0)) && (!x.all)
 else if x.kind = 2 then (inI x.num 1 30) && (decide (x.uid = 0)) && (decide (x.flags = 0)) && (decide (x.mod = 0)) && (decide (x.set.length = 0)) && (!x.all)
 else if x.kind = 3 then (inI x.num 1 30) && (inI x.uid 1 9999) && (flOk x.flags) && (inI x.mod 1 100000) && (decide (x.set.length = 0)) && (!x.all)
 else if x.kind = 4 then (okS x.set) && (!decide (x.set.length = 0)) && (decide (x.num = 0)) && (decide (x.uid = 0)) && (decide (x.flags = 0)) && (decide (x.mod = 0)) && (!x.all)
 else if x.kind = 5 then (inI x.num 1 9999) && (inI x.mod 1 100000) && (decide (x.uid = 0)) && (decide (x.flags = 0)) && (decide (x.set.length = 0))
 else if x.kind = 6 then (okS x.set) && (decide (x.num = 0)) && (decide (x.uid = 0)) && (decide (x.flags = 0)) && (decide (x.mod = 0)) && (!x.all)
 else if x.kind = 7 then (decide (x.num = 0)) && (decide (x.uid = 0)) && (decide (x.flags = 0)) && (decide (x.mod = 0)) && (decide (x.set.length = 0)) && (!x.all)
 else if x.kind = 8 then (inI x.num 1 9) && (decide (x.uid = 0)) && (decide (x.flags = 0)) && (decide (x.mod = 0)) && (decide (x.set.length = 0)) && (!x.all)
 else if x.kind = 9 then (decide (x.num = 0)) && (decide (x.uid = 0)) && (decide (x.flags = 0)) && (decide (x.mod = 0)) && (decide (x.set.length = 0)) && (!x.all)
 else false
theorem kinds9 {k : Int} (h : inI k 1 9 = true) : k = 1 ∨ k = 2 ∨ k = 3 ∨ k = 4 ∨ k = 5 ∨ k = 6 ∨ k = 7 ∨ k = 8 ∨ k = 9 := by rw [inI_iff] at h; omega
theorem lineOk_no {x : Ln} (h : inI x.kind 1 9 = false) : lineOk x = false := by
 have hn : ∀ k : Int, 1 ≤ k → k ≤ 9 → ¬ x.kind = k := fun k h1 h2 h3 => by rw [h3, inI_iff.2 ⟨h1, h2⟩] at h; cases h
 unfold lineOk
 rw [if_neg (hn 1 (by decide) (by decide)), if_neg (hn 2 (by decide) (by decide)), if_neg (hn 3 (by decide) (by decide)), if_neg (hn 4 (by decide) (by decide)), if_neg (hn 5 (by decide) (by decide)), if_neg (hn 6 (by decide) (by decide)), if_neg (hn 7 (by decide) (by decide)), if_neg (hn 8 (by decide) (by decide)), if_neg (hn 9 (by decide) (by decide))]
theorem okSl_zero {l : List Rg} (h : l.length = 0) : okS l = true := by rw [List.eq_nil_of_length_eq_zero h]; rfl
theorem lineOk_1 {x : Ln} (h : x.kind = 1) : lineOk x = ((inI x.num 0 30) && (decide (x.uid = 0)) && (decide (x.flags = 0)) && (decide (x.mod = 0)) && (decide (x.set.length = 0)) && (!x.all)) := by
 unfold lineOk
 rw [if_pos h]
theorem lineOk_2 {x : Ln} (h : x.kind = 2) : lineOk x = ((inI x.num 1 30) && (decide (x.uid = 0)) && (decide (x.flags = 0)) && (decide (x.mod = 0)) && (decide (x.set.length = 0)) && (!x.all)) := by
 unfold lineOk
 rw [if_neg (show ¬ x.kind = 1 by rw [h]; decide), if_pos h]
theorem lineOk_3 {x : Ln} (h : x.kind = 3) : lineOk x = ((inI x.num 1 30) && (inI x.uid 1 9999) && (flOk x.flags) && (inI x.mod 1 100000) && (decide (x.set.length = 0)) && (!x.all)) := by
 unfold lineOk
 rw [if_neg (show ¬ x.kind = 1 by rw [h]; decide), if_neg (show ¬ x.kind = 2 by rw [h]; decide), if_pos h]
theorem lineOk_4 {x : Ln} (h : x.kind = 4) : lineOk x = ((okS x.set) && (!decide (x.set.length = 0)) && (decide (x.num = 0)) && (decide (x.uid = 0)) && (decide (x.flags = 0)) && (decide (x.mod = 0)) && (!x.all)) := by
 unfold lineOk
 rw [if_neg (show ¬ x.kind = 1 by rw [h]; decide), if_neg (show ¬ x.kind = 2 by rw [h]; decide), if_neg (show ¬ x.kind = 3 by rw [h]; decide), if_pos h]
theorem lineOk_5 {x : Ln} (h : x.kind = 5) : lineOk x = ((inI x.num 1 9999) && (inI x.mod 1 100000) && (decide (x.uid = 0)) && (decide (x.flags = 0)) && (decide (x.set.length = 0))) := by
 unfold lineOk
 rw [if_neg (show ¬ x.kind = 1 by rw [h]; decide), if_neg (show ¬ x.kind = 2 by rw [h]; decide), if_neg (show ¬ x.kind = 3 by rw [h]; decide), if_neg (show ¬ x.kind = 4 by rw [h]; decide), if_pos h]
theorem lineOk_6 {x : Ln} (h : x.kind = 6) : lineOk x = ((okS x.set) && (decide (x.num = 0)) && (decide (x.uid = 0)) && (decide (x.flags = 0)) && (decide (x.mod = 0)) && (!x.all)) := by
 unfold lineOk
 rw [if_neg (show ¬ x.kind = 1 by rw [h]; decide), if_neg (show ¬ x.kind = 2 by rw [h]; decide), if_neg (show ¬ x.kind = 3 by rw [h]; decide), if_neg (show ¬ x.kind = 4 by rw [h]; decide), if_neg (show ¬ x.kind = 5 by rw [h]; decide), if_pos h]
theorem lineOk_7 {x : Ln} (h : x.kind = 7) : lineOk x = ((decide (x.num = 0)) && (decide (x.uid = 0)) && (decide (x.flags = 0)) && (decide (x.mod = 0)) && (decide (x.set.length = 0)) && (!x.all)) := by
 unfold lineOk
 rw [if_neg (show ¬ x.kind = 1 by rw [h]; decide), if_neg (show ¬ x.kind = 2 by rw [h]; decide), if_neg (show ¬ x.kind = 3 by rw [h]; decide), if_neg (show ¬ x.kind = 4 by rw [h]; decide), if_neg (show ¬ x.kind = 5 by rw [h]; decide), if_neg (show ¬ x.kind = 6 by rw [h]; decide), if_pos h]
theorem lineOk_8 {x : Ln} (h : x.kind = 8) : lineOk x = ((inI x.num 1 9) && (decide (x.uid = 0)) && (decide (x.flags = 0)) && (decide (x.mod = 0)) && (decide (x.set.length = 0)) && (!x.all)) := by
 unfold lineOk
 rw [if_neg (show ¬ x.kind = 1 by rw [h]; decide), if_neg (show ¬ x.kind = 2 by rw [h]; decide), if_neg (show ¬ x.kind = 3 by rw [h]; decide), if_neg (show ¬ x.kind = 4 by rw [h]; decide), if_neg (show ¬ x.kind = 5 by rw [h]; decide), if_neg (show ¬ x.kind = 6 by rw [h]; decide), if_neg (show ¬ x.kind = 7 by rw [h]; decide), if_pos h]
theorem lineOk_9 {x : Ln} (h : x.kind = 9) : lineOk x = ((decide (x.num = 0)) && (decide (x.uid = 0)) && (decide (x.flags = 0)) && (decide (x.mod = 0)) && (decide (x.set.length = 0)) && (!x.all)) := by
 unfold lineOk
 rw [if_neg (show ¬ x.kind = 1 by rw [h]; decide), if_neg (show ¬ x.kind = 2 by rw [h]; decide), if_neg (show ¬ x.kind = 3 by rw [h]; decide), if_neg (show ¬ x.kind = 4 by rw [h]; decide), if_neg (show ¬ x.kind = 5 by rw [h]; decide), if_neg (show ¬ x.kind = 6 by rw [h]; decide), if_neg (show ¬ x.kind = 7 by rw [h]; decide), if_neg (show ¬ x.kind = 8 by rw [h]; decide), if_pos h]
theorem lineOk_set {x : Ln} (h : okS x.set = false) : lineOk x = false := by
 have hl : ¬ x.set.length = 0 := fun h0 => by rw [okSl_zero h0] at h; cases h
 cases hk : inI x.kind 1 9 with
 | false => exact lineOk_no hk
 | true =>
  rcases kinds9 hk with h1 | h1 | h1 | h1 | h1 | h1 | h1 | h1 | h1
  ·rw [lineOk_1 h1]; simp [h, hl]
  ·rw [lineOk_2 h1]; simp [h, hl]
  ·rw [lineOk_3 h1]; simp [h, hl]
  ·rw [lineOk_4 h1]; simp [h, hl]
  ·rw [lineOk_5 h1]; simp [h, hl]
  ·rw [lineOk_6 h1]; simp [h, hl]
  ·rw [lineOk_7 h1]; simp [h, hl]
  ·rw [lineOk_8 h1]; simp [h, hl]
  ·rw [lineOk_9 h1]; simp [h, hl]
end Plain
end Go.Proofs.YtgdihceikhkddaaDoor
