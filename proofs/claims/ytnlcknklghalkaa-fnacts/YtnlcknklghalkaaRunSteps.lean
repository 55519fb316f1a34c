/- Acts one behind the other: each of those that were done is done on what the ones ahead of it left. Nothing of the program stands here. -/
import Derived.Test.YtnlcknklghalkaaActsLeave
import Derived.Test.YtnlcknklghalkaaRunPlain
namespace Go.Proofs.Ytnlcknklghalkaa.Plain
set_option linter.unusedVariables false

theorem runActs_steps (l : List Fl) (as : List Ac) : stepsL l (as.take (runActs l as).2) = some (runActs l as).1 := by
  induction as generalizing l with
  | nil => rfl
  | cons b r ih =>
    simp only [runActs]
    cases hb : doneL l b with
    | none => rfl
    | some l' =>
      simp only [List.take_succ_cons, stepsL, hb]
      exact ih l'
theorem runActs_at {l lk : List Fl} {as : List Ac} {k : Nat} {a : Ac} (hk : k < (runActs l as).2) (ha : as[k]? = some a) (h : stepsL l (as.take k) = some lk) :
    ∃ l', doneL lk a = some l' ∧ stepsL l (as.take (k + 1)) = some l' := by
  cases hd : doneL lk a with
  | none =>
    rw [runActs_stop h ha hd] at hk
    exact absurd hk (Nat.lt_irrefl k)
  | some l' =>
    refine ⟨l', rfl, ?_⟩
    rw [List.take_add_one, ha]
    exact (stepsL_snoc h).trans hd
end Go.Proofs.Ytnlcknklghalkaa.Plain
