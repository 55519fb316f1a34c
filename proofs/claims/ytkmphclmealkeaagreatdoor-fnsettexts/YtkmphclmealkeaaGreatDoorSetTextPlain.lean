/- The text of a set read back; how many a set has. Nothing of the program stands here. -/
import Derived.Test.YtkmphclmealkeaaGreatDoorReadSetPlain
import Derived.Test.YtkmphclmealkeaaGreatDoorDecPlain
namespace Go.Proofs.YtkmphclmealkeaaGreatDoor.Plain
open Go.RowKit
set_option linter.unusedVariables false

/- How many. -/
def cntTo (f : Nat → Bool) : Nat → Int
  | 0 => 0
  | n + 1 => cntTo f n + (if f (n + 1) then 1 else 0)
theorem cnt_congr {f g : Nat → Bool} {N : Nat} (h : ∀ n, 1 ≤ n → n ≤ N → f n = g n) : cntTo f N = cntTo g N := by
  induction N with
  | zero => rfl
  | succ N ih => rw [cntTo, cntTo, ih (fun n h1 h2 => h n h1 (by omega)), h (N + 1) (by omega) (Nat.le_refl _)]
theorem cnt_or {f g : Nat → Bool} {N : Nat} : cntTo (fun n => f n || g n) N + cntTo (fun n => f n && g n) N = cntTo f N + cntTo g N := by
  induction N with
  | zero => rfl
  | succ N ih =>
    simp only [cntTo]
    by_cases hf : f (N + 1) = true <;> by_cases hg : g (N + 1) = true <;> simp [hf, hg] <;> omega
theorem cnt_none {N : Nat} : cntTo (fun _ => false) N = 0 := by
  induction N with
  | zero => rfl
  | succ N ih => rw [cntTo, ih]; rfl
theorem cnt_range {lo hi : Int} (h1 : 1 ≤ lo) (h2 : lo ≤ hi + 1) : ∀ N : Nat, cntTo (fun n => decide (lo ≤ (n : Int)) && decide ((n : Int) ≤ hi)) N = (if (N : Int) < lo then 0 else if (N : Int) ≤ hi then (N : Int) - lo + 1 else hi - lo + 1) := by
  intro N
  induction N with
  | zero => rw [cntTo, if_pos (by omega)]
  | succ N ih =>
    rw [cntTo, ih]
    by_cases ha : lo ≤ ((N + 1 : Nat) : Int)
    · by_cases hb : ((N + 1 : Nat) : Int) ≤ hi
      · rw [decide_eq_true ha, decide_eq_true hb]
        rw [if_neg (show ¬ ((N + 1 : Nat) : Int) < lo by omega), if_pos hb]
        by_cases hc : (N : Int) < lo
        · rw [if_pos hc]; simp; omega
        · rw [if_neg hc, if_pos (by omega)]; simp; omega
      · rw [decide_eq_false hb, Bool.and_false]
        rw [if_neg (show ¬ ((N + 1 : Nat) : Int) < lo by omega), if_neg hb]
        by_cases hc : (N : Int) < lo
        · rw [if_pos hc]; simp; omega
        · rw [if_neg hc]
          by_cases hd : (N : Int) ≤ hi
          · rw [if_pos hd]; simp; omega
          · rw [if_neg hd]; simp
    · rw [decide_eq_false ha, Bool.false_and, if_pos (by omega), if_pos (show ((N + 1 : Nat) : Int) < lo by omega)]; simp

theorem size_from {p : Int} {s : List Rg} (h : okFrom p s = true) : ∀ z : Int, s.foldl (fun n r => n + r.hi - r.lo + 1) z = z + cntTo (bitsOf s) 9999 := by
  induction s generalizing p with
  | nil => intro z; rw [show bitsOf [] = (fun _ => false) from rfl, cnt_none]; simp
  | cons r t ih =>
    intro z
    rw [okFrom_cons] at h
    obtain ⟨h1, h2, h3, h4, h5⟩ := h
    rw [List.foldl_cons, ih h5]
    have e := cnt_or (f := fun n => decide (r.lo ≤ (n : Int)) && decide ((n : Int) ≤ r.hi)) (g := bitsOf t) (N := 9999)
    have e1 : cntTo (fun n => (decide (r.lo ≤ (n : Int)) && decide ((n : Int) ≤ r.hi)) || bitsOf t n) 9999 = cntTo (bitsOf (r :: t)) 9999 := cnt_congr fun n _ _ => by unfold bitsOf; rw [hasB_cons]
    have e2 : cntTo (fun n => (decide (r.lo ≤ (n : Int)) && decide ((n : Int) ≤ r.hi)) && bitsOf t n) 9999 = 0 := by
      rw [← cnt_none (N := 9999)]
      refine cnt_congr fun n _ _ => ?_
      by_cases hn : (n : Int) ≤ r.hi
      · unfold bitsOf; rw [hasB_no h5 (by omega), Bool.and_false]
      · rw [decide_eq_false hn, Bool.and_false, Bool.false_and]
    have e3 := cnt_range (lo := r.lo) (hi := r.hi) h1 (by omega) 9999
    rw [if_neg (by omega)] at e3
    have e4 : cntTo (fun n => decide (r.lo ≤ (n : Int)) && decide ((n : Int) ≤ r.hi)) 9999 = r.hi - r.lo + 1 := by
      rw [e3]
      split
      · have : r.hi = 9999 := by omega
        omega
      · rfl
    rw [e1, e2, e4] at e
    omega
theorem size_cnt {s : List Rg} (h : okS s = true) : sizeL s = cntTo (bitsOf s) 9999 := by
  unfold sizeL
  rw [if_pos h, size_from (show okFrom (-1) s = true by have := h; simp [okS] at this; exact this.1)]
  omega

/- The text of a number read back. -/
theorem dec_figs : ∀ (N : Nat), (Lib.decDigits N).all figOk = true ∧ figsV (Lib.decDigits N) = (N : Int) := by
  intro N
  induction N using Nat.strongRecOn with
  | ind N ih =>
    by_cases h10 : N < 10
    · rw [Lib.decDigits, dif_pos h10]
      constructor
      · simp [figOk]; omega
      · simp [figsV]; omega
    · rw [Lib.decDigits, dif_neg h10]
      obtain ⟨i1, i2⟩ := ih (N / 10) (by omega)
      have e : (UInt8.ofNat (48 + N % 10)).toNat = 48 + N % 10 := by rw [UInt8.toNat_ofNat']; omega
      constructor
      · rw [List.all_append, i1]; simp [figOk]; omega
      · rw [figsV_snoc, i2, e]; omega
theorem num_back {n : Int} (h1 : 1 ≤ n) (h2 : n ≤ 9999) (last : Int) : numV (Lib.itoa n) last = (n, true) := by
  obtain ⟨N, rfl⟩ := Int.eq_ofNat_of_zero_le (show 0 ≤ n by omega)
  rw [itoa_nat]
  obtain ⟨d1, d2⟩ := dec_figs N
  have hl : 1 ≤ (Lib.decDigits N).length ∧ (Lib.decDigits N).length ≤ 4 := by
    have hp : 1 ≤ (Lib.decDigits N).length := by
      cases hx : Lib.decDigits N with
      | nil => rw [hx] at d2; simp [figsV] at d2; omega
      | cons b r => simp
    refine ⟨hp, ?_⟩
    have hN : N ≤ 9999 := by omega
    rw [Lib.decDigits]
    split
    · simp
    · rw [Lib.decDigits]
      split
      · simp
      · rw [Lib.decDigits]
        split
        · simp
        · rw [Lib.decDigits, dif_pos (by omega)]; simp
  have hs : Lib.decDigits N ≠ [42] := by
    intro e
    rw [e] at d1
    simp [figOk] at d1
  unfold numV
  rw [if_neg hs, if_pos hl, d1, d2]
  simp
  omega
theorem itoa_plain {n : Int} (h : 0 ≤ n) : ∀ b ∈ Lib.itoa n, b ≠ 58 ∧ b ≠ 44 := by
  obtain ⟨N, rfl⟩ := Int.eq_ofNat_of_zero_le h
  rw [itoa_nat]
  intro b hb
  have := (dec_figs N).1
  rw [List.all_eq_true] at this
  have h2 := this b hb
  have h3 : 48 ≤ b.toNat ∧ b.toNat ≤ 57 := by simpa [figOk] using h2
  constructor
  · intro e; rw [e] at h3; revert h3; decide
  · intro e; rw [e] at h3; revert h3; decide
end Go.Proofs.YtkmphclmealkeaaGreatDoor.Plain
