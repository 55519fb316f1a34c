/- What a done act leaves at its name, plainly. Nothing of the program stands here. -/
import Derived.Test.YtnlcknklghalkaaActPlain
namespace Go.Proofs.Ytnlcknklghalkaa.Plain
set_option linter.unusedVariables false

theorem fileOf_putL (l : List Fl) (f : Fl) : fileOf (putL l f) f.name = some f := by
  unfold fileOf putL
  rw [List.find?_append]
  have e : (l.filter fun g => ltB g.name f.name).find? (fun g => g.name.toList == f.name.toList) = none := by
    rw [List.find?_eq_none]
    intro g hg e
    have := (List.mem_filter.1 hg).2
    exact ltB_ne this (same_iff.1 e)
  rw [e, List.find?_cons_of_pos (by exact same_iff.2 rfl)]
  rfl
theorem fileOf_without (l : List Fl) (n : ByteArray) : fileOf (withoutL l n) n = none := by
  rw [fileOf_none]
  intro f hf e
  have h := (List.mem_filter.1 hf).2
  rw [e, same_iff.2 rfl] at h
  cases h
/-- Behind an addition: the file's text is the elder text and the new one. -/
theorem add_leaves {l l' : List Fl} {a : Ac} (h : doneL l a = some l') (hk : a.kind = 1) :
    ∃ f, fileOf l' a.name = some f ∧ f.text = (match fileOf l a.name with | none => a.text | some g => g.text ++ a.text) := by
  unfold doneL at h
  split at h
  · unfold actL at h
    split at h
    · cases h
    · try rw [if_pos hk] at h
      cases e : fileOf l a.name with
      | none =>
        rw [e] at h
        simp only at h
        split at h
        · cases h
        · cases h
          exact ⟨_, fileOf_putL l ⟨a.name, a.text, 0⟩, rfl⟩
      | some g =>
        rw [e] at h
        simp only at h
        split at h
        · cases h
        · cases h
          exact ⟨_, fileOf_putL l ⟨a.name, g.text ++ a.text, g.kept⟩, rfl⟩
  · cases h
/-- Behind a removal there is no such file. -/
theorem drop_leaves {l l' : List Fl} {a : Ac} (h : doneL l a = some l') (hk : a.kind = 4) : fileOf l' a.name = none := by
  unfold doneL at h
  split at h
  · unfold actL at h
    split at h
    · cases h
    · rw [if_neg (by omega)] at h
      cases e : fileOf l a.name with
      | none => rw [e] at h; cases h
      | some g =>
        rw [e] at h
        simp only at h
        rw [if_neg (by omega), if_neg (by omega)] at h
        try rw [if_pos hk] at h
        cases h
        exact fileOf_without l a.name
  · cases h
end Go.Proofs.Ytnlcknklghalkaa.Plain
