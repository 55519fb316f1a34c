/- Plain facts on frames one behind the other, and on a file of them that is cut. Nothing of the program stands here. -/
import Derived.Test.YtnlcknklghalkaaDoorFramePlain
import Derived.Test.YtnlcknklghalkaaDoorNumPlain
namespace Go.Proofs.YtnlcknklghalkaaDoor.Plain
open Go.RowKit

theorem frameL_length (t : List UInt8) : (frameL t).length = (varL t.length).length + 4 + t.length := by
  unfold frameL; simp [four]; omega
theorem frameL_le (t : List UInt8) : (frameL t).length ≤ t.length + 15 := by
  have := varL_length t.length
  rw [frameL_length]; omega

theorem seg_mid (a b c : List UInt8) : seg (a ++ b ++ c) a.length (a.length + b.length) = b := by
  unfold seg
  rw [List.append_assoc, List.drop_take, List.drop_left, Nat.add_sub_cancel_left, List.take_left]

/-- A whole frame is found. -/
theorem fr_found (pre t rest : List UInt8) (h1 : 1 ≤ t.length) (h2 : t.length ≤ 9000) : frL (pre ++ frameL t ++ rest) pre.length = some (t, pre.length + (frameL t).length) := by
  have hr : rdL 5 [] ((pre ++ frameL t ++ rest).drop pre.length) = some (t.length, (varL t.length).length) := by
    rw [List.append_assoc, List.drop_left]
    unfold frameL
    rw [List.append_assoc, List.append_assoc]
    exact rd_var t.length (by omega) _
  have e1 : seg (pre ++ frameL t ++ rest) (pre.length + (varL t.length).length + 4) (pre.length + (varL t.length).length + 4 + t.length) = t := by
    have := seg_mid (pre ++ varL t.length ++ four (sumOf t)) t rest
    simp only [List.length_append, show (four (sumOf t)).length = 4 from rfl] at this
    unfold frameL
    simpa only [List.append_assoc] using this
  have e2 : seg (pre ++ frameL t ++ rest) (pre.length + (varL t.length).length) (pre.length + (varL t.length).length + 4) = four (sumOf t) := by
    have := seg_mid (pre ++ varL t.length) (four (sumOf t)) (t ++ rest)
    simp only [List.length_append, show (four (sumOf t)).length = 4 from rfl] at this
    unfold frameL
    simpa only [List.append_assoc] using this
  have h := frL_yes hr (by simp only [List.length_append, frameL_length]; omega) h1 h2 (by rw [e1, e2])
  rw [h, e1, frameL_length]
  congr 2
  omega

/-- A torn one is not. -/
theorem fr_torn (pre t : List UInt8) (j : Nat) (h2 : t.length ≤ 9000) (hj : j < (frameL t).length) : frL (pre ++ (frameL t).take j) pre.length = none := by
  cases hr : rdL 5 [] ((pre ++ (frameL t).take j).drop pre.length) with
  | none => exact frL_none hr
  | some x =>
    obtain ⟨n, d⟩ := x
    have hr2 := hr
    rw [List.drop_left] at hr2
    have hm := rd_more hr2 ((frameL t).drop j)
    rw [List.take_append_drop] at hm
    unfold frameL at hm
    rw [List.append_assoc, rd_var t.length (by omega)] at hm
    simp only [Option.some.injEq, Prod.mk.injEq] at hm
    obtain ⟨rfl, rfl⟩ := hm
    refine frL_no hr (fun h => ?_)
    have := h.1
    rw [frameL_length] at hj
    simp only [List.length_append, List.length_take, frameL_length] at this
    omega

/-- Frames one behind the other. -/
def catL : List (List UInt8) → List UInt8
  | [] => []
  | t :: r => frameL t ++ catL r
/-- Those of them that are whole up to k, from A on. -/
def wholeL (k : Nat) : Nat → List (List UInt8) → List (List UInt8 × Nat)
  | _, [] => []
  | A, t :: r => if A + (frameL t).length ≤ k then (t, A + (frameL t).length) :: wholeL k (A + (frameL t).length) r else []

theorem frs_cut : ∀ (r : List (List UInt8)) (pre : List UInt8) (k : Nat), (∀ t ∈ r, 1 ≤ t.length ∧ t.length ≤ 9000) → pre.length ≤ k →
    frs ((pre ++ catL r).take k) pre.length = wholeL k pre.length r := by
  intro r
  induction r with
  | nil =>
    intro pre k h hk
    refine (frs_none ?_).trans rfl
    refine frL_end ?_
    simp [catL]; omega
  | cons t r ih =>
    intro pre k h hk
    have ht := h t (by simp)
    by_cases hw : pre.length + (frameL t).length ≤ k
    · have e : (pre ++ catL (t :: r)).take k = pre ++ frameL t ++ (catL r).take (k - (pre.length + (frameL t).length)) := by
        show (pre ++ (frameL t ++ catL r)).take k = _
        rw [← List.append_assoc, List.take_append, List.take_of_length_le (by simp; omega), List.length_append]
      have hf := fr_found pre t ((catL r).take (k - (pre.length + (frameL t).length))) ht.1 ht.2
      rw [← e] at hf
      rw [frs_some hf]
      have hi := ih (pre ++ frameL t) k (fun x hx => h x (by simp [hx])) (by simp; omega)
      rw [List.length_append, List.append_assoc] at hi
      rw [show (pre ++ catL (t :: r)) = pre ++ (frameL t ++ catL r) from rfl, hi]
      show _ = if _ then _ else _
      rw [if_pos hw]
    · have e : (pre ++ catL (t :: r)).take k = pre ++ (frameL t).take (k - pre.length) := by
        show (pre ++ (frameL t ++ catL r)).take k = _
        rw [List.take_append, List.take_of_length_le hk, List.take_append_of_le_length (by omega)]
      rw [e, frs_none (fr_torn pre t (k - pre.length) ht.2 (by omega))]
      show _ = if _ then _ else _
      rw [if_neg hw]

theorem frs_whole (r : List (List UInt8)) (h : ∀ t ∈ r, 1 ≤ t.length ∧ t.length ≤ 9000) (k : Nat) : frs ((catL r).take k) 0 = wholeL k 0 r := by
  have := frs_cut r [] k h (Nat.zero_le _)
  simpa using this
end Go.Proofs.YtnlcknklghalkaaDoor.Plain
