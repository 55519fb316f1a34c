/- What the laws on sets say, plainly. Nothing of the program stands here. -/
import Derived.Test.YtkmphclmealkeaaGreatDoorRunsCount
namespace Go.Proofs.YtkmphclmealkeaaGreatDoor.Plain
open Go.RowKit
set_option linter.unusedVariables false

theorem okS_of {s : List Rg} (h : okFrom (-1) s = true) (h2 : s.length ≤ 40) : okS s = true := by rw [okS, h, decide_eq_true h2]; rfl
theorem okS_two {s : List Rg} (h : okS s = true) : okFrom (-1) s = true ∧ s.length ≤ 40 := by simpa [okS] using h
theorem bits_setOf {f : Nat → Bool} (h0 : f 0 = false) {n : Nat} (h : n ≤ 9999) : bitsOf (setOf f) n = f n := by
  unfold bitsOf
  rw [setOf_has f h0]
  by_cases hn : 1 ≤ n
  · rw [decide_eq_true (by omega), Int.toNat_natCast, Bool.true_and]
  · have e : n = 0 := by omega
    subst e
    rw [decide_eq_false (by omega), Bool.false_and, h0]
theorem cnt_setOf {f : Nat → Bool} (h0 : f 0 = false) : cntTo (bitsOf (setOf f)) 9999 = cntTo f 9999 := cnt_congr fun n _ h => bits_setOf h0 h
theorem put_zero {s : List Rg} {lo hi : Int} {c : Bool} (h : okS s = true) (h1 : 1 ≤ lo) : putB s lo hi c 0 = false := by
  unfold putB; rw [if_neg (by simp; omega)]; exact bitsOf_zero (okS_two h).1
/-- What is put in, or taken out, of a set that has room. -/
theorem put_room {s : List Rg} {lo hi : Int} {c : Bool} (h : okS s = true) (hr : s.length ≤ 39) (h1 : 1 ≤ lo) (h2 : lo ≤ hi) (h3 : hi ≤ 9999) : putV s lo hi c = (setOf (putB s lo hi c), true) ∧ okS (setOf (putB s lo hi c)) = true ∧ (setOf (putB s lo hi c)).length ≤ s.length + 1 := by
  have hl := put_len (c := c) (okS_two h).1 h1 h2 h3
  have h40 : (setOf (putB s lo hi c)).length ≤ 40 := by omega
  refine ⟨?_, okS_of (setOf_ok _ (put_zero h h1)) h40, hl⟩
  unfold putV
  rw [if_pos ⟨h, h1, h2, h3⟩, if_pos h40]
theorem put_has {s : List Rg} {lo hi : Int} {c : Bool} (h : okS s = true) (h1 : 1 ≤ lo) {n : Nat} (hn : n ≤ 9999) : hasB (setOf (putB s lo hi c)) (n : Int) = putB s lo hi c n := bits_setOf (put_zero h h1) hn
theorem put_size {s : List Rg} {lo hi : Int} (h : okS s = true) (hr : s.length ≤ 39) (h1 : 1 ≤ lo) (h2 : lo ≤ hi) (h3 : hi ≤ 9999) : sizeL (setOf (putB s lo hi true)) - sizeL (setOf (putB s lo hi false)) = hi - lo + 1 := by
  obtain ⟨_, a2, _⟩ := put_room (c := true) h hr h1 h2 h3
  obtain ⟨_, b2, _⟩ := put_room (c := false) h hr h1 h2 h3
  rw [size_cnt a2, size_cnt b2, cnt_setOf (put_zero h h1), cnt_setOf (put_zero h h1)]
  have e := cnt_or (f := putB s lo hi false) (g := fun n => decide (lo ≤ (n : Int)) && decide ((n : Int) ≤ hi)) (N := 9999)
  have e1 : cntTo (fun n => putB s lo hi false n || (decide (lo ≤ (n : Int)) && decide ((n : Int) ≤ hi))) 9999 = cntTo (putB s lo hi true) 9999 := cnt_congr fun n _ _ => by
    unfold putB
    by_cases hin : lo ≤ (n : Int) ∧ (n : Int) ≤ hi
    · rw [if_pos hin, if_pos hin, decide_eq_true hin.1, decide_eq_true hin.2]; rfl
    · rw [if_neg hin, if_neg hin]
      have : (decide (lo ≤ (n : Int)) && decide ((n : Int) ≤ hi)) = false := by
        rw [Bool.and_eq_false_iff]
        by_cases hx : lo ≤ (n : Int)
        · right; rw [decide_eq_false_iff_not]; omega
        · left; rw [decide_eq_false_iff_not]; exact hx
      rw [this, Bool.or_false]
  have e2 : cntTo (fun n => putB s lo hi false n && (decide (lo ≤ (n : Int)) && decide ((n : Int) ≤ hi))) 9999 = 0 := by
    rw [← cnt_none (N := 9999)]
    refine cnt_congr fun n _ _ => ?_
    unfold putB
    by_cases hin : lo ≤ (n : Int) ∧ (n : Int) ≤ hi
    · rw [if_pos hin]; rfl
    · have : (decide (lo ≤ (n : Int)) && decide ((n : Int) ≤ hi)) = false := by
        rw [Bool.and_eq_false_iff]
        by_cases hx : lo ≤ (n : Int)
        · right; rw [decide_eq_false_iff_not]; omega
        · left; rw [decide_eq_false_iff_not]; exact hx
      rw [this, Bool.and_false]
  have e3 := cnt_range (lo := lo) (hi := hi) h1 (by omega) 9999
  have e4 : cntTo (fun n => decide (lo ≤ (n : Int)) && decide ((n : Int) ≤ hi)) 9999 = hi - lo + 1 := by
    rw [e3, if_neg (by omega)]
    split <;> omega
  omega
theorem two_zero {x y : List Rg} {both : Bool} (hx : okS x = true) (hy : okS y = true) : twoB x y both 0 = false := by
  unfold twoB; rw [bitsOf_zero (okS_two hx).1, bitsOf_zero (okS_two hy).1]; cases both <;> rfl
theorem two_room {x y : List Rg} {both : Bool} (hx : okS x = true) (hy : okS y = true) (hr : x.length + y.length ≤ 40) : twoV x y both = (setOf (twoB x y both), true) ∧ okS (setOf (twoB x y both)) = true := by
  have hl := two_len (both := both) hx hy
  have h40 : (setOf (twoB x y both)).length ≤ 40 := by omega
  refine ⟨?_, okS_of (setOf_ok _ (two_zero hx hy)) h40⟩
  unfold twoV setV
  rw [if_pos ⟨hx, hy⟩, if_pos h40]
theorem two_has {x y : List Rg} {both : Bool} (hx : okS x = true) (hy : okS y = true) {n : Nat} (hn : n ≤ 9999) : hasB (setOf (twoB x y both)) (n : Int) = twoB x y both n := bits_setOf (two_zero hx hy) hn
theorem two_swap (x y : List Rg) (both : Bool) : twoB x y both = twoB y x both := by
  funext n
  unfold twoB
  cases both
  · simp [Bool.or_comm]
  · simp [Bool.and_comm]
theorem two_size {x y : List Rg} (hx : okS x = true) (hy : okS y = true) (hr : x.length + y.length ≤ 40) : sizeL (setOf (twoB x y false)) + sizeL (setOf (twoB x y true)) = sizeL x + sizeL y := by
  rw [size_cnt (two_room (both := false) hx hy hr).2, size_cnt (two_room (both := true) hx hy hr).2, cnt_setOf (two_zero hx hy), cnt_setOf (two_zero hx hy), size_cnt hx, size_cnt hy]
  exact cnt_or (f := bitsOf x) (g := bitsOf y) (N := 9999)
end Go.Proofs.YtkmphclmealkeaaGreatDoor.Plain
