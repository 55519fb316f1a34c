/- How many ranges what is marked has: one for each beginning. Nothing of the program stands here. -/
import Derived.Test.YtkmphclmealkeaaGreatDoorSetTextPlain
namespace Go.Proofs.YtkmphclmealkeaaGreatDoor.Plain
open Go.RowKit
set_option linter.unusedVariables false

def startB (b : Nat → Bool) (n : Nat) : Bool := b n && !b (n - 1)
theorem runs_count (b : Nat → Bool) (h0 : b 0 = false) : ∀ n, n ≤ 9999 → ((runsTo b n).length : Int) = cntTo (startB b) n := by
  intro n
  induction n with
  | zero => intro _; rfl
  | succ n ih =>
    intro hn
    have i := ih (by omega)
    rw [cntTo, ← i]
    unfold startB
    rw [Nat.add_sub_cancel]
    cases hb : b (n + 1) with
    | false => rw [runsTo_off hb]; simp
    | true =>
      cases hc : b n with
      | false => rw [runsTo_new hb hc]; simp
      | true =>
        obtain ⟨a, r, hs, _⟩ := (runs_inv b h0 n (by omega)).2.2.1 hc
        rw [runsTo_on hb hc hs, hs]; simp
theorem cnt_le {f g : Nat → Bool} {N : Nat} (h : ∀ n, 1 ≤ n → n ≤ N → f n = true → g n = true) : cntTo f N ≤ cntTo g N := by
  induction N with
  | zero => exact Int.le_refl _
  | succ N ih =>
    have := ih (fun n h1 h2 => h n h1 (by omega))
    simp only [cntTo]
    by_cases hf : f (N + 1) = true
    · rw [if_pos hf, if_pos (h (N + 1) (by omega) (Nat.le_refl _) hf)]; omega
    · rw [if_neg hf]
      split <;> omega
theorem cnt_one (x : Nat) : ∀ N, cntTo (fun n => decide (n = x)) N ≤ 1 ∧ (N < x → cntTo (fun n => decide (n = x)) N = 0) := by
  intro N
  induction N with
  | zero => exact ⟨by simp [cntTo], fun _ => rfl⟩
  | succ N ih =>
    rw [cntTo]
    by_cases e : N + 1 = x
    · have := ih.2 (by omega)
      rw [this]
      simp [e]
    · rw [decide_eq_false e]
      exact ⟨by simp; exact ih.1, fun h => by simp; exact ih.2 (by omega)⟩
theorem cnt_more {f g : Nat → Bool} {N x : Nat} (h : ∀ n, 1 ≤ n → n ≤ N → f n = true → g n = true ∨ n = x) : cntTo f N ≤ cntTo g N + 1 := by
  have h1 : cntTo f N ≤ cntTo (fun n => g n || decide (n = x)) N := cnt_le fun n a b hf => by
    rcases h n a b hf with e | e
    · rw [e]; rfl
    · rw [decide_eq_true e, Bool.or_true]
  have h2 := cnt_or (f := g) (g := fun n => decide (n = x)) (N := N)
  have h3 := (cnt_one x N).1
  have h4 : 0 ≤ cntTo (fun n => g n && decide (n = x)) N := by
    have := cnt_le (f := fun _ => false) (g := fun n => g n && decide (n = x)) (N := N) (fun n _ _ h => by cases h)
    rw [cnt_none] at this
    exact this
  omega
theorem cnt_two {f g k : Nat → Bool} {N : Nat} (h : ∀ n, 1 ≤ n → n ≤ N → f n = true → g n = true ∨ k n = true) : cntTo f N ≤ cntTo g N + cntTo k N := by
  have h1 : cntTo f N ≤ cntTo (fun n => g n || k n) N := cnt_le fun n a b hf => by
    rcases h n a b hf with e | e
    · rw [e]; rfl
    · rw [e, Bool.or_true]
  have h2 := cnt_or (f := g) (g := k) (N := N)
  have h4 : 0 ≤ cntTo (fun n => g n && k n) N := by
    have := cnt_le (f := fun _ => false) (g := fun n => g n && k n) (N := N) (fun n _ _ h => by cases h)
    rw [cnt_none] at this
    exact this
  omega
theorem set_count {s : List Rg} (h : okFrom (-1) s = true) : (s.length : Int) = cntTo (startB (bitsOf s)) 9999 := by
  have := runs_count (bitsOf s) (bitsOf_zero h) 9999 (Nat.le_refl _)
  rw [← this]
  have e := set_back h
  unfold setOf at e
  rw [e]
/-- What is put in or taken out makes one range more at most. -/
theorem put_len {s : List Rg} {lo hi : Int} {c : Bool} (h : okFrom (-1) s = true) (h1 : 1 ≤ lo) (h2 : lo ≤ hi) (h3 : hi ≤ 9999) : (setOf (putB s lo hi c)).length ≤ s.length + 1 := by
  have h0 : putB s lo hi c 0 = false := by unfold putB; rw [if_neg (by simp; omega)]; exact bitsOf_zero h
  have a := runs_count (putB s lo hi c) h0 9999 (Nat.le_refl _)
  have b := set_count h
  obtain ⟨ln, rfl⟩ : ∃ ln : Nat, lo = (ln : Int) := ⟨lo.toNat, by omega⟩
  obtain ⟨hn, rfl⟩ : ∃ hn : Nat, hi = (hn : Int) := ⟨hi.toNat, by omega⟩
  have k : cntTo (startB (putB s ln hn c)) 9999 ≤ cntTo (startB (bitsOf s)) 9999 + 1 := by
    refine cnt_more (x := if c then ln else hn + 1) (fun n n1 n2 hs => ?_)
    unfold startB at hs ⊢
    rw [Bool.and_eq_true] at hs
    obtain ⟨s1, s2⟩ := hs
    have s2' : putB s ln hn c (n - 1) = false := by simpa using s2
    unfold putB at s1 s2'
    cases c with
    | true =>
      by_cases e : n = ln
      · exact .inr (by rw [if_pos rfl]; exact e)
      · left
        by_cases hin : (ln : Int) ≤ (n : Int) ∧ (n : Int) ≤ (hn : Int)
        · rw [if_pos (by omega)] at s2'
          cases s2'
        · rw [if_neg hin] at s1
          by_cases hin2 : (ln : Int) ≤ ((n - 1 : Nat) : Int) ∧ ((n - 1 : Nat) : Int) ≤ (hn : Int)
          · rw [if_pos hin2] at s2'; cases s2'
          · rw [if_neg hin2] at s2'
            rw [s1, s2']; rfl
    | false =>
      by_cases e : n = hn + 1
      · exact .inr (by simp; exact e)
      · left
        by_cases hin : (ln : Int) ≤ (n : Int) ∧ (n : Int) ≤ (hn : Int)
        · rw [if_pos hin] at s1; cases s1
        · rw [if_neg hin] at s1
          by_cases hin2 : (ln : Int) ≤ ((n - 1 : Nat) : Int) ∧ ((n - 1 : Nat) : Int) ≤ (hn : Int)
          · omega
          · rw [if_neg hin2] at s2'
            rw [s1, s2']; rfl
  show (runsTo _ 9999).length ≤ _
  omega
theorem two_len {x y : List Rg} {both : Bool} (hx : okS x = true) (hy : okS y = true) : (setOf (twoB x y both)).length ≤ x.length + y.length := by
  have ox : okFrom (-1) x = true := by have := hx; simp [okS] at this; exact this.1
  have oy : okFrom (-1) y = true := by have := hy; simp [okS] at this; exact this.1
  have h0 : twoB x y both 0 = false := by unfold twoB; rw [bitsOf_zero ox, bitsOf_zero oy]; cases both <;> rfl
  have a := runs_count (twoB x y both) h0 9999 (Nat.le_refl _)
  have b := set_count ox
  have c := set_count oy
  have k : cntTo (startB (twoB x y both)) 9999 ≤ cntTo (startB (bitsOf x)) 9999 + cntTo (startB (bitsOf y)) 9999 := by
    refine cnt_two (fun n n1 n2 hs => ?_)
    unfold startB at hs ⊢
    rw [Bool.and_eq_true] at hs
    obtain ⟨s1, s2⟩ := hs
    have s2' : twoB x y both (n - 1) = false := by simpa using s2
    unfold twoB at s1 s2'
    cases both with
    | true =>
      simp only [if_true] at s1 s2'
      rw [Bool.and_eq_true] at s1
      cases hp : bitsOf x (n - 1) with
      | false => left; rw [s1.1]; rfl
      | true =>
        rw [hp, Bool.true_and] at s2'
        right; rw [s1.2, s2']; rfl
    | false =>
      simp only [Bool.false_eq_true, if_false] at s1 s2'
      rw [Bool.or_eq_false_iff] at s2'
      rw [Bool.or_eq_true] at s1
      rcases s1 with e | e
      · left; rw [e, s2'.1]; rfl
      · right; rw [e, s2'.2]; rfl
  show (runsTo _ 9999).length ≤ _
  omega
end Go.Proofs.YtkmphclmealkeaaGreatDoor.Plain
