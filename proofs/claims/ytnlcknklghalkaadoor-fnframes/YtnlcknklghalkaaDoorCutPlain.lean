/- Plain facts on a file of frames that is cut: which come back, and how far they go. -/
import Derived.Test.YtnlcknklghalkaaDoorFramesPlain
import Derived.Test.YtnlcknklghalkaaDoorSpecUnframe
namespace Go.Proofs.YtnlcknklghalkaaDoor.Plain
open Go.RowKit

theorem catL_append (a b : List (List UInt8)) : catL (a ++ b) = catL a ++ catL b := by
  induction a with
  | nil => rfl
  | cons t r ih => show frameL t ++ catL (r ++ b) = frameL t ++ catL r ++ catL b; rw [ih, List.append_assoc]
theorem catL_snoc {L : List (List UInt8)} {k : Nat} (h : k < L.length) : catL (L.take (k + 1)) = catL (L.take k) ++ frameL L[k] := by
  rw [List.take_succ_eq_append_getElem h, catL_append]
  show _ ++ (frameL L[k] ++ []) = _
  rw [List.append_nil]

/-- How far the first k go. -/
def farL (L : List (List UInt8)) (k : Nat) : Nat := (catL (L.take k)).length
theorem farL_zero (L : List (List UInt8)) : farL L 0 = 0 := rfl
theorem farL_cons (t : List UInt8) (L : List (List UInt8)) (k : Nat) : farL (t :: L) (k + 1) = (frameL t).length + farL L k := by
  show (frameL t ++ catL (L.take k)).length = _
  rw [List.length_append]; rfl
/-- How far the first 0, 1 .. k go. -/
def farsL (L : List (List UInt8)) (k : Nat) : List Nat := (List.range (k + 1)).map (farL L)
theorem farsL_zero (L : List (List UInt8)) : farsL L 0 = [0] := rfl
theorem farsL_succ (L : List (List UInt8)) (k : Nat) : farsL L (k + 1) = farsL L k ++ [farL L (k + 1)] := by
  unfold farsL; rw [List.range_succ, List.map_append]; rfl
theorem farsL_length (L : List (List UInt8)) (k : Nat) : (farsL L k).length = k + 1 := by simp [farsL]
theorem farsL_get {L : List (List UInt8)} {k j : Nat} (h : j ≤ k) : (farsL L k)[j]? = some (farL L j) := by
  unfold farsL
  rw [List.getElem?_map, List.getElem?_range (by omega)]
  rfl

theorem endL_cons (x : List UInt8 × Nat) (y : List UInt8 × Nat) (r : List (List UInt8 × Nat)) : endL (x :: y :: r) = endL (y :: r) := by
  unfold endL; rw [List.getLast?_cons_cons]
theorem endL_one (x : List UInt8 × Nat) : endL [x] = x.2 := rfl

theorem whole_cut (K : Nat) : ∀ (L : List (List UInt8)) (A : Nat), A ≤ K → ∃ m, m ≤ L.length ∧ (wholeL K A L).length = m ∧ recs (wholeL K A L) = L.take m ∧ (m = 0 ∨ endL (wholeL K A L) = A + farL L m) ∧ A + farL L m ≤ K ∧ (m = L.length ∨ K < A + farL L (m + 1)) := by
  intro L
  induction L with
  | nil => intro A hA; exact ⟨0, Nat.le_refl _, rfl, rfl, .inl rfl, by simpa [farL_zero] using hA, .inl rfl⟩
  | cons t r ih =>
    intro A hA
    by_cases hw : A + (frameL t).length ≤ K
    · obtain ⟨m, h1, h2, h3, h4, h5, h6⟩ := ih (A + (frameL t).length) hw
      have e : wholeL K A (t :: r) = (t, A + (frameL t).length) :: wholeL K (A + (frameL t).length) r := if_pos hw
      refine ⟨m + 1, by simp; omega, by rw [e, List.length_cons, h2], ?_, .inr ?_, by rw [farL_cons]; omega, ?_⟩
      · rw [e, List.take_succ_cons, ← h3]; rfl
      · rw [e, farL_cons]
        cases hx : wholeL K (A + (frameL t).length) r with
        | nil =>
          have hm : m = 0 := by rw [← h2, hx]; rfl
          rw [hm, endL_one, farL_zero]; rfl
        | cons y z =>
          rw [endL_cons, ← hx]
          rcases h4 with h4 | h4
          · rw [h4, hx] at h2; simp at h2
          · rw [h4]; omega
      · rcases h6 with h6 | h6
        · exact .inl (by simp [h6])
        · exact .inr (by rw [farL_cons]; omega)
    · have e : wholeL K A (t :: r) = [] := if_neg hw
      refine ⟨0, Nat.zero_le _, by rw [e]; rfl, by rw [e]; rfl, .inl rfl, by rw [farL_zero]; exact hA, .inr ?_⟩
      rw [farL_cons, farL_zero]; omega

/-- Of frames that are cut just the whole ones come back. -/
theorem un_cut {L : List (List UInt8)} (h : ∀ t ∈ L, 1 ≤ t.length ∧ t.length ≤ 9000) (K : Nat) (hK : ((catL L).take K).length ≤ 20000) :
    ∃ m, m ≤ L.length ∧ (unL ((catL L).take K)).length = m ∧ recs (unL ((catL L).take K)) = L.take m ∧ endL (unL ((catL L).take K)) = farL L m ∧ farL L m ≤ K ∧ (m = L.length ∨ K < farL L (m + 1)) := by
  rw [unL_in hK, frs_whole L h K]
  obtain ⟨m, h1, h2, h3, h4, h5, h6⟩ := whole_cut K L 0 (Nat.zero_le _)
  refine ⟨m, h1, h2, h3, ?_, by omega, by omega⟩
  rcases h4 with h4 | h4
  · subst h4
    rw [List.eq_nil_of_length_eq_zero h2, farL_zero]; rfl
  · rw [h4]; omega
theorem un_all {L : List (List UInt8)} (h : ∀ t ∈ L, 1 ≤ t.length ∧ t.length ≤ 9000) (hK : (catL L).length ≤ 20000) : (unL (catL L)).length = L.length ∧ recs (unL (catL L)) = L ∧ endL (unL (catL L)) = (catL L).length := by
  have e : (catL L).take (catL L).length = catL L := List.take_length
  obtain ⟨m, h1, h2, h3, h4, h5, h6⟩ := un_cut h (catL L).length (by rw [e]; exact hK)
  rw [e] at h2 h3 h4
  have hm : m = L.length := by
    rcases h6 with h6 | h6
    · exact h6
    · by_cases hl : m < L.length
      · exfalso
        have h7 : farL L (m + 1) ≤ (catL L).length := by
          have h8 : catL L = catL (L.take (m + 1)) ++ catL (L.drop (m + 1)) := by rw [← catL_append, List.take_append_drop]
          rw [h8, List.length_append]
          exact Nat.le_add_right _ _
        omega
      · omega
  rw [hm] at h2 h3 h4
  have e2 : L.take L.length = L := List.take_length
  refine ⟨h2, by rw [h3, e2], ?_⟩
  rw [h4, farL, e2]
end Go.Proofs.YtnlcknklghalkaaDoor.Plain
