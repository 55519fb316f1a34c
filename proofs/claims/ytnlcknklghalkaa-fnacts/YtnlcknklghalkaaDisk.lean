/- Disks that are right: the program's test and the specification's. -/
import Derived.Test.YtnlcknklghalkaaFiles
import Derived.Test.YtnlcknklghalkaaDiskPlain
namespace Go.Proofs.Ytnlcknklghalkaa
open Go.RowKit
open Plain
set_option linter.unusedVariables false

set_option maxHeartbeats 1000000 in
theorem nameOk_any (n : ByteArray) (w : World) (hn : n.size ≤ 1048576) : Calls Try.prog 51 #[.string n] w fun e w' => e = .returned (.bool (nameB n)) ∧ w' = w := by
  unfold nameB
  by_cases h : n = ByteArray.empty
  · subst h
    go_enter Try.func51, Try.ntmps51
    go_wp2
    go_ret
    exact ⟨rfl, rfl⟩
  · have h1 := ofNatName n h
    have h2 : n.toList.isEmpty = false := by
      rw [ByteArray.toList_eq]
      cases hl : n.data.toList with
      | nil => have : n.data.toList.length = n.size := rfl; rw [hl] at this; simp at this; omega
      | cons a b => rfl
    clear h
    go_enter Try.func51, Try.ntmps51
    go_wp2
    go_ret
    refine ⟨?_, rfl⟩
    show Ending.returned (Value.bool (decide ((n.size : Int) ≤ 8))) = _
    congr 2
    rw [Bool.eq_iff_iff]
    simp
    omega

set_option maxHeartbeats 1000000 in
theorem l01In_any (a b c : Int) (w : World) : Calls Try.prog 26 #[.int .i64 a, .int .i64 b, .int .i64 c] w fun e w' => e = .returned (.bool (decide (b ≤ a) && decide (a ≤ c))) ∧ w' = w := by
  go_enter Try.func26, Try.ntmps26
  go_wp2
  all_goals go_ret
  all_goals exact ⟨by simp <;> omega, rfl⟩

set_option maxHeartbeats 1000000 in
theorem l03Name_any (n : ByteArray) (w : World) (hn : n.size ≤ 1048576) : Calls Try.prog 45 #[.string n] w fun e w' => e = .returned (.bool (nameB n)) ∧ w' = w := by
  have hc : ∀ wx, Calls Try.prog 26 #[.int .i64 (n.size : Int), .int .i64 1, .int .i64 8] wx fun e w' => e = .returned (.bool (nameB n)) ∧ w' = wx := fun wx =>
    (l01In_any _ _ _ wx).mono fun e w' ⟨h1, h2⟩ => ⟨by
      rw [h1]; unfold nameB
      congr 3 <;> simp <;> omega, h2⟩
  have HC := hide hc
  clear hc
  generalize nameB n = b at *
  go_enter Try.func45, Try.ntmps45
  go_wp2_with (go_at_call 26; refine (unhide HC _).mono ?_; rintro e w1 ⟨rfl, rfl⟩)
  go_ret
  exact ⟨rfl, rfl⟩

set_option maxHeartbeats 1000000 in
theorem fileOk_any (n t : ByteArray) (k : Int) (w : World) (hn : n.size ≤ 1048576) (ht : t.size ≤ 1048576) : Calls Try.prog 38 #[.agg #[.string n, .string t, .int .i64 k]] w fun e w' => e = .returned (.bool (fileB ⟨n, t, k⟩)) ∧ Below w.heap.size w w' := by
  unfold fileB
  simp only
  cases h1 : nameB n
  · have c := fun wx => nameOk_any n wx hn
    rw [h1] at c
    have HC := hide c
    clear c h1
    go_enter Try.func38, Try.ntmps38
    go_wp2_with (go_at_call 51; refine (unhide HC _).mono ?_; rintro e w1 ⟨rfl, rfl⟩)
    all_goals go_ret
    all_goals exact ⟨by simp <;> omega, by go_grown⟩
  · have c := fun wx => nameOk_any n wx hn
    rw [h1] at c
    have HC := hide c
    clear c h1
    go_enter Try.func38, Try.ntmps38
    go_wp2_with (go_at_call 51; refine (unhide HC _).mono ?_; rintro e w1 ⟨rfl, rfl⟩)
    all_goals go_ret
    all_goals exact ⟨by simp <;> omega, by go_grown⟩

/-- A row of files, as the walk reads it. -/
theorem OwnF.shape {B : Nat} {w : World} {v : Value} {l : List Fl} (h : OwnF B w v l) : ∃ a c, v = .slice a l.length c ∧ ∀ (k : Nat) (f : Fl), l[k]? = some f →
    ∃ g, a = some ⟨g, 0, none⟩ ∧ g < w.heap.size ∧ w.cell? ⟨g, k * 3, none⟩ = some (.string f.name) ∧ w.cell? ⟨g, k * 3 + 1, none⟩ = some (.string f.text) ∧ w.cell? ⟨g, k * 3 + 2, none⟩ = some (.int .i64 f.kept) := by
  unfold OwnF at h
  rcases h.2 with ⟨rfl, h0⟩ | ⟨g, c, cur, rfl, hb, hh, _⟩
  · refine ⟨none, 0, by rw [h0], fun k f hf => ?_⟩
    rw [List.eq_nil_of_length_eq_zero h0] at hf
    simp at hf
  · refine ⟨_, _, rfl, fun k f hf => ⟨g, rfl, (h.lt _ rfl).2, file_cells h hf ?_⟩⟩
    rcases Nat.lt_or_ge k l.length with h1 | h1
    · exact h1
    · rw [List.getElem?_eq_none h1] at hf; cases hf

end Go.Proofs.Ytnlcknklghalkaa
