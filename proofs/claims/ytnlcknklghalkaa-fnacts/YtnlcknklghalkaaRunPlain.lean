/- Acts one behind the other, plainly. Nothing of the program stands here. -/
import Derived.Test.YtnlcknklghalkaaActsPlain
namespace Go.Proofs.Ytnlcknklghalkaa.Plain
set_option linter.unusedVariables false

/-- What acts leave, up to the first that can't be done; how many were. -/
def runActs (l : List Fl) : List Ac → List Fl × Nat
  | [] => (l, 0)
  | a :: r => match doneL l a with
    | none => (l, 0)
    | some l' => ((runActs l' r).1, (runActs l' r).2 + 1)
/-- The first k of them are done: what they leave. -/
def stepsL (l : List Fl) : List Ac → Option (List Fl)
  | [] => some l
  | a :: r => match doneL l a with
    | none => none
    | some l' => stepsL l' r
theorem stepsL_snoc {l lk : List Fl} {as : List Ac} {a : Ac} (h : stepsL l as = some lk) : stepsL l (as ++ [a]) = doneL lk a := by
  induction as generalizing l with
  | nil => cases h; simp only [List.nil_append, stepsL]; cases doneL lk a <;> rfl
  | cons b r ih =>
    simp only [List.cons_append, stepsL] at h ⊢
    cases hd : doneL l b with
    | none => rw [hd] at h; cases h
    | some l' => rw [hd] at h; exact ih h
theorem runActs_stop {l lk : List Fl} {as : List Ac} {k : Nat} {a : Ac} (h : stepsL l (as.take k) = some lk) (ha : as[k]? = some a) (hn : doneL lk a = none) : runActs l as = (lk, k) := by
  induction as generalizing l k with
  | nil => simp at ha
  | cons b r ih =>
    cases k with
    | zero =>
      simp at ha; subst ha
      cases h
      simp only [runActs, hn]
    | succ k =>
      simp only [List.take_succ_cons, stepsL] at h
      simp at ha
      cases hd : doneL l b with
      | none => rw [hd] at h; cases h
      | some l' =>
        rw [hd] at h
        simp only [runActs, hd, ih h ha]
theorem runActs_all {l lk : List Fl} {as : List Ac} (h : stepsL l as = some lk) : runActs l as = (lk, as.length) := by
  induction as generalizing l with
  | nil => cases h; rfl
  | cons b r ih =>
    simp only [stepsL] at h
    cases hd : doneL l b with
    | none => rw [hd] at h; cases h
    | some l' =>
      rw [hd] at h
      simp only [runActs, hd, ih h, List.length_cons]
theorem doneL_right {l l' : List Fl} {a : Ac} (h : doneL l a = some l') : diskB l' = true := by
  unfold doneL at h
  cases hd : diskB l
  · rw [hd] at h; cases h
  · rw [hd] at h; exact actL_right hd h
theorem doneL_is {l : List Fl} {a : Ac} (h : diskB l = true) : doneL l a = actL l a := by unfold doneL; rw [h]; rfl
theorem runActs_bad {l : List Fl} {as : List Ac} (h : diskB l = false) : runActs l as = (l, 0) := by
  cases as with
  | nil => rfl
  | cons a r =>
    have : doneL l a = none := by unfold doneL; rw [h]; rfl
    simp only [runActs, this]
theorem stepsL_right {l lk : List Fl} {as : List Ac} (hd : diskB l = true) (h : stepsL l as = some lk) : diskB lk = true := by
  induction as generalizing l with
  | nil => cases h; exact hd
  | cons b r ih =>
    simp only [stepsL] at h
    cases hb : doneL l b with
    | none => rw [hb] at h; cases h
    | some l' => rw [hb] at h; exact ih (doneL_right hb) h
theorem runActs_le (l : List Fl) (as : List Ac) : (runActs l as).2 ≤ as.length := by
  induction as generalizing l with
  | nil => exact Nat.le_refl _
  | cons b r ih =>
    simp only [runActs]
    cases doneL l b with
    | none => simp
    | some l' => simp only [List.length_cons]; have := ih l'; omega
/-- What is left is the disk as it was, or a right one. -/
theorem runActs_small {l : List Fl} (as : List Ac) : (runActs l as).1 = l ∨ diskB (runActs l as).1 = true := by
  induction as generalizing l with
  | nil => exact .inl rfl
  | cons b r ih =>
    simp only [runActs]
    cases hb : doneL l b with
    | none => exact .inl rfl
    | some l' =>
      right
      simp only
      rcases ih (l := l') with h | h
      · rw [h]; exact doneL_right hb
      · exact h
end Go.Proofs.Ytnlcknklghalkaa.Plain
