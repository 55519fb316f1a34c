/- Blanks about a text, plainly: from the left first or from the right first is the same; letters made small turn no blank. -/
import Derived.Test.YthnofckkehephaaGreatDoorSubjectS
import Derived.Lib.Strings
import Derived.Lib.TrimByte
namespace Go.Proofs.YthnofckkehephaaGreatDoor.Plain
open Go.RowKit
set_option linter.unusedVariables false

theorem trimZ_cons (b : UInt8) (r : List UInt8) : trimZ (b :: r) = if trimZ r = [] ∧ b = 32 then [] else b :: trimZ r := by
  unfold trimZ
  rw [List.reverse_cons, List.dropWhile_append]
  cases h : List.dropWhile isBlank r.reverse with
  | nil =>
    simp only [List.isEmpty_nil, List.reverse_nil, if_true]
    by_cases hb : b = 32
    · subst hb
      rw [if_pos (by simp)]
      rfl
    · rw [List.dropWhile_cons, if_neg (by simpa [isBlank] using hb)]
      simp [hb]
  | cons x l => simp
theorem trimA_cons_no {b : UInt8} (r : List UInt8) (h : b ≠ 32) : trimA (b :: r) = b :: r := trimA_no r h
theorem trim_both (l : List UInt8) : trimA (trimZ l) = trimZ (trimA l) := by
  induction l with
  | nil => rfl
  | cons b r ih =>
    by_cases hb : b = 32
    · subst hb
      rw [trimA_cons, ← ih, trimZ_cons]
      split
      · rename_i h
        rw [h.1]
      · rfl
    · rw [trimA_no r hb, trimZ_cons, if_neg (fun h => hb h.2), trimA_no _ hb]
theorem trimB_is (l : List UInt8) : Lib.trimB l 32 = trimL l := trim_both l
theorem trimZ_twice (l : List UInt8) : trimZ (trimZ l) = trimZ l := by
  induction l with
  | nil => rfl
  | cons b r ih =>
    by_cases h : trimZ r = [] ∧ b = 32
    · rw [trimZ_cons, if_pos h]
      rfl
    · rw [trimZ_cons b r, if_neg h, trimZ_cons, ih, if_neg h]
theorem trimL_Z (l : List UInt8) : trimL (trimZ l) = trimL l := by
  unfold trimL
  rw [← trim_both, ← trim_both, trimZ_twice]
theorem low_blank (b : UInt8) : lowB b = 32 ↔ b = 32 := by
  constructor
  · intro h
    by_cases hb : 65 ≤ b.toNat ∧ b.toNat ≤ 90
    · rw [lowB_in hb.1 hb.2] at h
      have := congrArg UInt8.toNat h
      rw [UInt8.toNat_ofNat'] at this
      have e : (32 : UInt8).toNat = 32 := rfl
      omega
    · rwa [lowB_no hb] at h
  · rintro rfl
    rfl
theorem trimA_low (l : List UInt8) : trimA (l.map lowB) = (trimA l).map lowB := by
  induction l with
  | nil => rfl
  | cons b r ih =>
    by_cases hb : b = 32
    · subst hb
      rw [trimA_cons, ← ih]
      rfl
    · rw [trimA_no r hb, List.map_cons, trimA_no _ (fun h => hb ((low_blank b).1 h))]
theorem trimZ_low (l : List UInt8) : trimZ (l.map lowB) = (trimZ l).map lowB := by
  induction l with
  | nil => rfl
  | cons b r ih =>
    rw [List.map_cons, trimZ_cons, trimZ_cons, ih]
    by_cases h : trimZ r = [] ∧ b = 32
    · rw [if_pos h, if_pos ⟨by rw [h.1]; rfl, by rw [h.2]; rfl⟩]
      rfl
    · rw [if_neg h, if_neg (fun x => h ⟨by simpa using x.1, (low_blank b).1 x.2⟩)]
      rfl
theorem trimL_low (l : List UInt8) : trimL (l.map lowB) = (trimL l).map lowB := by
  unfold trimL
  rw [trimA_low, trimZ_low]
/-- A prefix, as the library tells it. -/
theorem pre_is (u x : List UInt8) : Lib.hasPrefix u x = decide (u.take x.length = x) := by
  unfold Lib.hasPrefix
  rw [Bool.eq_iff_iff, List.isPrefixOf_iff_prefix, decide_eq_true_eq, List.prefix_iff_eq_take]
  exact ⟨fun h => h.symm, fun h => h.symm⟩
theorem pre_yes {u x : List UInt8} (h : u.take x.length = x) : Lib.hasPrefix u x = true ∧ Lib.trimPrefix u x = u.drop x.length := by
  have e : Lib.hasPrefix u x = true := by rw [pre_is]; exact decide_eq_true h
  exact ⟨e, by unfold Lib.trimPrefix; rw [if_pos e]⟩
theorem pre_no {u x : List UInt8} (h : u.take x.length ≠ x) : Lib.hasPrefix u x = false ∧ Lib.trimPrefix u x = u := by
  have e : Lib.hasPrefix u x = false := by rw [pre_is]; exact decide_eq_false h
  exact ⟨e, by unfold Lib.trimPrefix; rw [if_neg (by rw [e]; decide)]⟩
theorem fw_out {r : List UInt8} (h : r.take 4 = fwL) : r = 102 :: 119 :: 100 :: 58 :: r.drop 4 := by
  have := List.take_append_drop 4 r
  rw [h] at this
  exact this.symm
/-- What answers and is handed on at once. -/
theorem base_both {f : Nat} {u : List UInt8} (h1 : u.take 3 = reL) (h2 : (u.drop 3).take 4 = fwL) : baseF (f + 2) u = baseF f (trimL ((u.drop 3).drop 4)) := by
  rw [base_re h1]
  have e := fw_out h2
  generalize (u.drop 3).drop 4 = y at *
  have n1 : (102 : UInt8) ≠ 32 := by decide
  have n2 : (119 : UInt8) ≠ 32 := by decide
  have n3 : (100 : UInt8) ≠ 32 := by decide
  have n4 : (58 : UInt8) ≠ 32 := by decide
  have e2 : trimL (u.drop 3) = 102 :: 119 :: 100 :: 58 :: trimZ y := by
    rw [e]
    unfold trimL
    rw [trimA_no _ n1, trimZ_cons, if_neg (fun h => n1 h.2), trimZ_cons, if_neg (fun h => n2 h.2), trimZ_cons, if_neg (fun h => n3 h.2), trimZ_cons, if_neg (fun h => n4 h.2)]
  rw [e2, base_fw (by show _ ≠ reL; unfold reL; simp) (by rfl)]
  show baseF f (trimL (trimZ y)) = _
  rw [trimL_Z]
/-- One round of the program's: what it cuts. -/
def cutRe (u : List UInt8) : List UInt8 := Lib.trimPrefix u reL
def cutFw (u : List UInt8) : List UInt8 := Lib.trimPrefix (cutRe u) fwL
def hasRe (u : List UInt8) : Bool := Lib.hasPrefix u reL
def hasFw (u : List UInt8) : Bool := Lib.hasPrefix (cutRe u) fwL
theorem round_end {f : Nat} {u : List UInt8} (h1 : hasRe u = false) (h2 : hasFw u = false) : baseF f u = u := by
  have k1 : u.take 3 ≠ reL := fun h => by rw [show hasRe u = true from (pre_yes (x := reL) h).1] at h1; cases h1
  have k2 : cutRe u = u := (pre_no (x := reL) k1).2
  have k3 : u.take 4 ≠ fwL := fun h => by
    have : hasFw u = true := by unfold hasFw; rw [k2]; exact (pre_yes (x := fwL) h).1
    rw [this] at h2
    cases h2
  exact base_no k1 k3
theorem take_len {u x : List UInt8} (h : u.take x.length = x) : x.length ≤ u.length := by
  have := congrArg List.length h
  rw [List.length_take] at this
  omega
theorem round_more {f : Nat} {u : List UInt8} (hf : u.length ≤ f) (h : (hasRe u || hasFw u) = true) :
    ∃ f', (cutFw u).length ≤ f' ∧ f' ≤ f ∧ (cutFw u).length < u.length ∧ baseF f u = baseF f' (trimL (cutFw u)) := by
  by_cases k1 : u.take 3 = reL
  · have e1 : cutRe u = u.drop 3 := (pre_yes (x := reL) k1).2
    have l1 : 3 ≤ u.length := take_len (x := reL) k1
    by_cases k2 : (u.drop 3).take 4 = fwL
    · have e2 : cutFw u = (u.drop 3).drop 4 := by unfold cutFw; rw [e1]; exact (pre_yes (x := fwL) k2).2
      have l2 : 4 ≤ (u.drop 3).length := take_len (x := fwL) k2
      rw [List.length_drop] at l2
      refine ⟨f - 2, ?_, by omega, ?_, ?_⟩
      · rw [e2]; simp; omega
      · rw [e2]; simp; omega
      · rw [e2, ← base_both k1 k2]
        congr 1
        omega
    · have e2 : cutFw u = u.drop 3 := by unfold cutFw; rw [e1]; exact (pre_no (x := fwL) k2).2
      refine ⟨f - 1, ?_, by omega, ?_, ?_⟩
      · rw [e2]; simp; omega
      · rw [e2]; simp; omega
      · rw [e2, ← base_re k1]
        congr 1
        omega
  · have e0 : hasRe u = false := (pre_no (x := reL) k1).1
    have e1 : cutRe u = u := (pre_no (x := reL) k1).2
    rw [e0, Bool.false_or] at h
    have k2 : u.take 4 = fwL := by
      unfold hasFw at h
      rw [e1, pre_is, decide_eq_true_eq] at h
      exact h
    have e2 : cutFw u = u.drop 4 := by unfold cutFw; rw [e1]; exact (pre_yes (x := fwL) k2).2
    have l2 : 4 ≤ u.length := take_len (x := fwL) k2
    refine ⟨f - 1, ?_, by omega, ?_, ?_⟩
    · rw [e2]; simp; omega
    · rw [e2]; simp; omega
    · rw [e2, ← base_fw k1 k2]
      congr 1
      omega
theorem cutFw_len (u : List UInt8) : (cutFw u).length ≤ u.length := by
  have h : ∀ a b : List UInt8, (Lib.trimPrefix a b).length ≤ a.length := by
    intro a b
    unfold Lib.trimPrefix
    split
    · simp
    · exact Nat.le_refl _
  exact Nat.le_trans (h _ _) (h _ _)
end Go.Proofs.YthnofckkehephaaGreatDoor.Plain
