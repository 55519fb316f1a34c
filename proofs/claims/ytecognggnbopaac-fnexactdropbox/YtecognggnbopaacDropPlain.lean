/- What DropBox answers, plainly. Made by gen_stores.py. -/
import Derived.Test.YtecognggnbopaacStorePlain2
import Derived.Test.YtecognggnbopaacStoreMarks
namespace Go.Proofs.Ytecognggnbopaac
open Go.RowKit
open Plain
set_option linter.unusedVariables false
set_option linter.unusedSimpArgs false

namespace Plain
theorem dropV_bad1 {s : Sx} {n : ByteArray} (h : storeOk s = false) : dropV s n = (s, 4) := by unfold dropV; rw [if_pos (.inl h)]
theorem dropV_bad2 {s : Sx} {n : ByteArray} (h : n = inboxN) : dropV s n = (s, 4) := by unfold dropV; rw [if_pos (.inr h)]
theorem dropV_in {s : Sx} {n : ByteArray} (h : storeOk s = true) (hn : n ≠ inboxN) : dropV s n = if (boxAt s n).isSome = false then (s, 1) else if dropL s.boxes n = [] then (s, 4) else (⟨dropL s.boxes n, s.valid⟩, 0) := by
  unfold dropV
  rw [if_neg (by rw [h]; rintro (h1 | h1); cases h1; exact hn h1)]
theorem dropV_none {s : Sx} {n : ByteArray} (h : storeOk s = true) (hn : n ≠ inboxN) (hb : boxAt s n = none) : dropV s n = (s, 1) := by rw [dropV_in h hn, hb]; rfl
theorem dropV_last {s : Sx} {n : ByteArray} {b : Bx} (h : storeOk s = true) (hn : n ≠ inboxN) (hb : boxAt s n = some b) (hd : dropL s.boxes n = []) : dropV s n = (s, 4) := by rw [dropV_in h hn, hb, if_neg (by simp), if_pos hd]
theorem dropV_yes {s : Sx} {n : ByteArray} {b : Bx} (h : storeOk s = true) (hn : n ≠ inboxN) (hb : boxAt s n = some b) (hd : dropL s.boxes n ≠ []) : dropV s n = (⟨dropL s.boxes n, s.valid⟩, 0) := by rw [dropV_in h hn, hb, if_neg (by simp), if_neg hd]
theorem inbox_list : inboxN.toList = [105, 110, 98, 111, 120] := by kernel_rfl
theorem is_inbox {n : ByteArray} (h : (n.toList == [105, 110, 98, 111, 120]) = true) : n = inboxN := same_iff.1 (by rw [inbox_list]; exact h)
theorem not_inbox {n : ByteArray} (h : (n.toList == [105, 110, 98, 111, 120]) = false) : n ≠ inboxN := fun e => by
  have h2 := same_iff.2 e
  rw [inbox_list, h] at h2
  cases h2
theorem atV_yes {s : Sx} {n : ByteArray} {z : Bx} (h : (z, true) = atV s n) : boxAt s n = some z := by
  cases hb : boxAt s n with
  | none => rw [atV_none hb] at h; cases h
  | some b => rw [atV_some hb] at h; cases h; rfl
theorem atV_no {s : Sx} {n : ByteArray} {z : Bx} (h : (z, false) = atV s n) : boxAt s n = none := by
  cases hb : boxAt s n with
  | none => rfl
  | some b => rw [atV_some hb] at h; cases h
end Plain
end Go.Proofs.Ytecognggnbopaac
