/- Flags: how the program cuts a text of flags, plainly. -/
import Derived.Test.YtjaohlnejkgkaaaGreatDoorPlainA
import Derived.Lib.Strings
namespace Go.Proofs.YtjaohlnejkgkaaaGreatDoor.Plain
open Go.RowKit
set_option linter.unusedVariables false

def openB (t : List UInt8) : Bool := Lib.hasPrefix t [40]
def restF (t : List UInt8) : List UInt8 := Lib.trimPrefix t [40]
def shutB (t : List UInt8) : Bool := Lib.hasSuffix (restF t) [41]
def innerF (t : List UInt8) : List UInt8 := Lib.trimSuffix (restF t) [41]
theorem suffix_snoc (r : List UInt8) (b : UInt8) : Lib.hasSuffix (r ++ [b]) [41] = (b == 41) := by
  rw [← Lib.hasSuffix_of_drop]
  simp
theorem signs (t : List UInt8) : shutF t = (openB t && shutB t) ∧ (shutF t = true → innerF t = inner t) := by
  cases t with
  | nil => exact ⟨rfl, fun h => by cases h⟩
  | cons a r =>
    have e0 : openB (a :: r) = (a == 40) := by
      unfold openB Lib.hasPrefix
      rw [show List.isPrefixOf [40] (a :: r) = ((40 : UInt8) == a && List.isPrefixOf [] r) from rfl, List.isPrefixOf_nil_left, Bool.and_true]
      exact BEq.comm
    by_cases ha : a = 40
    · subst ha
      have e1 : restF (40 :: r) = r := by
        unfold restF Lib.trimPrefix
        rw [if_pos (by rw [show Lib.hasPrefix (40 :: r) [40] = openB (40 :: r) from rfl, e0]; rfl)]
        rfl
      have e2 : shutB (40 :: r) = Lib.hasSuffix r [41] := by unfold shutB; rw [e1]
      have e3 : innerF (40 :: r) = Lib.trimSuffix r [41] := by unfold innerF; rw [e1]
      rw [e0, e2, e3]
      rcases List.eq_nil_or_concat r with rfl | ⟨q, b, rfl⟩
      · exact ⟨by decide, fun h => by revert h; decide⟩
      · rw [List.concat_eq_append, suffix_snoc]
        have hl : (40 :: (q ++ [b])).length = q.length + 2 := by simp
        have e4 : shutF (40 :: (q ++ [b])) = (b == 41) := by
          unfold shutF
          rw [hl, decide_eq_true (by omega)]
          simp
        refine ⟨by rw [e4]; rfl, fun h => ?_⟩
        rw [e4] at h
        unfold Lib.trimSuffix inner
        rw [suffix_snoc, if_pos h, hl]
        simp
    · have e1 : (a == 40) = false := by simpa using ha
      have e4 : shutF (a :: r) = false := by
        unfold shutF
        simp [ha]
      rw [e0, e1, e4]
      exact ⟨by simp, fun h => by cases h⟩
theorem read_out {t : List UInt8} (h : (openB t && shutB t) = false) : readF t = (0, false) := readF_no (by rw [(signs t).1]; exact h)
theorem read_in {t : List UInt8} (h1 : openB t = true) (h2 : shutB t = true) : readF t = ansF (wordsF ((innerF t).map lowB)) := by
  have h : shutF t = true := by rw [(signs t).1, h1, h2]; rfl
  rw [readF_in h, (signs t).2 h]
theorem low_blank (b : UInt8) : lowB b = 32 ↔ b = 32 := by
  constructor
  · intro h
    by_cases hb : 65 ≤ b.toNat ∧ b.toNat ≤ 90
    · rw [lowB_in hb.1 hb.2] at h
      have := congrArg UInt8.toNat h
      rw [UInt8.toNat_ofNat'] at this
      simp at this
      omega
    · rw [lowB_no hb] at h; exact h
  · rintro rfl; decide
theorem cuts_low (l : List UInt8) : cutsL 32 (l.map lowB) = (cutsL 32 l).map (fun p => p.map lowB) := by
  induction l with
  | nil => rfl
  | cons b r ih =>
    rw [List.map_cons, cutsL, cutsL, ih]
    by_cases hb : b = 32
    · rw [if_pos ((low_blank b).2 hb), if_pos hb]; rfl
    · rw [if_neg (fun h => hb ((low_blank b).1 h)), if_neg hb]
      cases cutsL 32 r with
      | nil => rfl
      | cons p q => rfl
/-- What words tell, as they stand in the text. -/
def lowW (ps : List (List UInt8)) : List (List UInt8) := ps.map fun p => p.map lowB
theorem lowW_snoc (ps : List (List UInt8)) (p : List UInt8) : lowW (ps ++ [p]) = lowW ps ++ [p.map lowB] := by simp [lowW]
theorem words_of {l : List UInt8} (h : l ≠ []) : wordsF (l.map lowB) = foldF (some 0) (lowW (cutsL 32 l)) := by
  rw [words_in (by simpa using h), cuts_low]; rfl
theorem fold_pre {a b : List (List UInt8)} (h : a <+: b) (ha : foldF (some 0) (lowW a) = none) : foldF (some 0) (lowW b) = none := by
  obtain ⟨c, rfl⟩ := h
  unfold lowW at ha ⊢
  rw [List.map_append, foldF_append, ha, foldF_none]
def numW (ps : List (List UInt8)) : Int := (foldF (some 0) (lowW ps)).getD 0
theorem addI : ∀ (a : Fin 32) (k : Fin 5), ¬ (a.val : Int) / 2 ^ k.val % 2 = 1 → (a.val : Int) + 2 ^ k.val - andTo a.val (2 ^ k.val) 5 = a.val + 2 ^ k.val := by decide +kernel
end Go.Proofs.YtjaohlnejkgkaaaGreatDoor.Plain
