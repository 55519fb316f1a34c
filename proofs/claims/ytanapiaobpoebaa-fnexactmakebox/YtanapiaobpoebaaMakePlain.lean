/- What MakeBox answers, plainly. Made by gen_stores.py. -/
import Derived.Test.YtanapiaobpoebaaStorePlain2
import Derived.Test.YtanapiaobpoebaaStoreMarks
namespace Go.Proofs.Ytanapiaobpoebaa
open Go.RowKit
open Plain
set_option linter.unusedVariables false
set_option linter.unusedSimpArgs false

namespace Plain
theorem makeV_bad1 {s : Sx} {n : ByteArray} (h : storeOk s = false) : makeV s n = (s, 4) := by unfold makeV; rw [if_pos (.inl h)]
theorem makeV_bad2 {s : Sx} {n : ByteArray} (h : nameOkL n.data.toList = false) : makeV s n = (s, 4) := by unfold makeV; rw [if_pos (.inr h)]
theorem makeV_in {s : Sx} {n : ByteArray} (h : storeOk s = true) (hn : nameOkL n.data.toList = true) : makeV s n = if (boxAt s n).isSome = true then (s, 2) else if 4 ≤ s.boxes.length ∨ 9999 ≤ s.valid then (s, 3) else (⟨madeL s.boxes n s.valid, s.valid + 1⟩, 0) := by
 unfold makeV
 rw [if_neg (by rw [h, hn]; simp)]
theorem makeV_there {s : Sx} {n : ByteArray} {b : Bx} (h : storeOk s = true) (hn : nameOkL n.data.toList = true) (hb : boxAt s n = some b) : makeV s n = (s, 2) := by rw [makeV_in h hn, hb]; rfl
theorem makeV_full {s : Sx} {n : ByteArray} (h : storeOk s = true) (hn : nameOkL n.data.toList = true) (hb : boxAt s n = none) (hf : 4 ≤ s.boxes.length ∨ 9999 ≤ s.valid) : makeV s n = (s, 3) := by rw [makeV_in h hn, hb, if_neg (by simp), if_pos hf]
theorem makeV_yes {s : Sx} {n : ByteArray} (h : storeOk s = true) (hn : nameOkL n.data.toList = true) (hb : boxAt s n = none) (h1 : ¬ 4 ≤ s.boxes.length) (h2 : ¬ 9999 ≤ s.valid) : makeV s n = (⟨madeL s.boxes n s.valid, s.valid + 1⟩, 0) := by rw [makeV_in h hn, hb, if_neg (by simp), if_neg (by omega)]
theorem at_yes {s : Sx} {n : ByteArray} {z : Bx} (h : (z, true) = atV s n) : boxAt s n = some z := by
 cases hb : boxAt s n with
 | none => rw [atV_none hb] at h; cases h
 | some b => rw [atV_some hb] at h; cases h; rfl
theorem at_no {s : Sx} {n : ByteArray} {z : Bx} (h : (z, false) = atV s n) : boxAt s n = none := by
 cases hb : boxAt s n with
 | none => rfl
 | some b => rw [atV_some hb] at h; cases h
theorem new_ok {n : ByteArray} {v : Int} (hn : nameOkL n.data.toList = true) (h1 : 1 ≤ v) (h2 : v ≤ 9999) : boxOk (newBox n v) = true := by
 rw [boxOk_iff]
 refine ⟨?_, ?_⟩
 ·unfold headOk newBox
  simp only [hn, inI_iff.2 ⟨h1, h2⟩, Bool.true_and]
  rfl
 ·simp [newBox]
theorem newV_ok {n : ByteArray} {v : Int} (hn : nameOkL n.data.toList = true) (h1 : 1 ≤ v) (h2 : v ≤ 9999) : newV n v = (newBox n v, true) := by unfold newV; rw [if_pos (new_ok hn h1 h2)]
end Plain
end Go.Proofs.Ytanapiaobpoebaa
