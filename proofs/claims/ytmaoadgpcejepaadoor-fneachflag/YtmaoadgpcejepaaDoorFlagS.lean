/- Flags: the specification's FlagsOk, l06And, FlagsAfter. -/
import Derived.Test.YtmaoadgpcejepaaDoorBase
import Derived.Test.YtmaoadgpcejepaaDoorFlagPlain
namespace Go.Proofs.YtmaoadgpcejepaaDoor
open Go.RowKit
open Plain
set_option linter.unusedVariables false

theorem l01In_held (x l m : Int) (w : World) : Calls Tryd.prog 46 #[.int .i64 x, .int .i64 l, .int .i64 m] w fun e w' => e = .returned (.bool (decide (l ≤ x) && decide (x ≤ m))) ∧ w' = w := by
  by_cases h : l ≤ x
  · have hd : decide (l ≤ x) = true := by simpa using h
    by_cases h2 : x ≤ m
    · have hd2 : decide (x ≤ m) = true := by simpa using h2
      rw [hd, hd2]
      go_enter Tryd.func46, Tryd.ntmps46
      go_wp2
      go_ret
      exact ⟨rfl, rfl⟩
    · have hd2 : decide (x ≤ m) = false := by simpa using h2
      rw [hd, hd2]
      go_enter Tryd.func46, Tryd.ntmps46
      go_wp2
      go_ret
      exact ⟨rfl, rfl⟩
  · have hd : decide (l ≤ x) = false := by simpa using h
    rw [hd]
    go_enter Tryd.func46, Tryd.ntmps46
    go_wp2
    go_ret
    exact ⟨rfl, rfl⟩
theorem spec_FlagsOk_any (b : Int) (w : World) :
    Calls Tryd.prog 34 #[.int .i64 b] w fun e w' => e = .returned (.bool (flOk b)) ∧ w' = w := by
  have q := hide (l01In_held b 0 31 w)
  go_enter Tryd.func34, Tryd.ntmps34
  go_wp2_with (go_at_call 46; refine (unhide q).mono ?_; rintro e w1 ⟨rfl, hw1⟩; subst w1)
  go_ret
  exact ⟨rfl, rfl⟩

namespace Plain
theorem and_range (a b : Int) : ∀ k, k ≤ 5 → 0 ≤ andTo a b k ∧ andTo a b k < 2 ^ k := by
  intro k
  induction k with
  | zero => intro _; exact ⟨Int.le_refl _, by show (0 : Int) < 2 ^ 0; decide⟩
  | succ k ih =>
    intro hk
    obtain ⟨i1, i2⟩ := ih (by omega)
    have hp : (0 : Int) < 2 ^ k := Int.pow_pos (by decide)
    rw [andTo, Int.pow_succ]
    split <;> omega
end Plain

set_option maxHeartbeats 2000000 in
set_option maxRecDepth 100000 in
theorem l06And_any (a b : Int) (w : World) (ha0 : 0 ≤ a) (ha : a ≤ 31) (hb0 : 0 ≤ b) (hb : b ≤ 31) :
    Calls Tryd.prog 35 #[.int .i64 a, .int .i64 b] w fun e w' => e = .returned (.int .i64 (andTo a b 5)) ∧ w' = w := by
  have R := hide (and_range a b)
  go_enter Tryd.func35, Tryd.ntmps35
  go_wp2
  go_loop [5, 6] (fun n i => ∃ k : Nat, k ≤ 5 ∧ i = .int .i64 (2 ^ k) ∧ n = .int .i64 (andTo a b k)) (fun _ i => 64 - (intOf i).toNat)
  case atStart => exact ⟨0, by omega, rfl, rfl⟩
  case round =>
    obtain ⟨k, hk, rfl, rfl⟩ := hrel
    have S := hide (show andTo a b (k + 1) = if a / 2 ^ k % 2 = 1 ∧ b / 2 ^ k % 2 = 1 then andTo a b k + 2 ^ k else andTo a b k from rfl)
    obtain ⟨r1, r2⟩ := unhide R k hk
    rcases (show k = 0 ∨ k = 1 ∨ k = 2 ∨ k = 3 ∨ k = 4 ∨ k = 5 by omega) with rfl | rfl | rfl | rfl | rfl | rfl
    · generalize hn : andTo a b 0 = n at *
      clear hn
      simp only [Int.reducePow, Int.ediv_one] at S r2
      simp only [Int.reducePow]
      by_cases h1 : a % 2 = 1
      · have t1 : (a % 2 == 1) = true := by simpa using h1
        by_cases h2 : b % 2 = 1
        · have t2 : (b % 2 == 1) = true := by simpa using h2
          have E : Hid (andTo a b 1 = n + 1) := (unhide S).trans (if_pos ⟨h1, h2⟩)
          clear h1 h2
          go_wp2
          exact ⟨⟨1, by omega, rfl, by rw [unhide E]⟩, by decide⟩
        · have t2 : (b % 2 == 1) = false := by simpa using h2
          have E : Hid (andTo a b 1 = n) := (unhide S).trans (if_neg (fun h => h2 h.2))
          clear h1 h2
          go_wp2
          exact ⟨⟨1, by omega, rfl, by rw [unhide E]⟩, by decide⟩
      · have t1 : (a % 2 == 1) = false := by simpa using h1
        have E : Hid (andTo a b 1 = n) := (unhide S).trans (if_neg (fun h => h1 h.1))
        clear h1
        go_wp2
        exact ⟨⟨1, by omega, rfl, by rw [unhide E]⟩, by decide⟩
    · generalize hn : andTo a b 1 = n at *
      clear hn
      simp only [Int.reducePow] at S r2
      simp only [Int.reducePow]
      by_cases h1 : a / 2 % 2 = 1
      · have t1 : (a / 2 % 2 == 1) = true := by simpa using h1
        by_cases h2 : b / 2 % 2 = 1
        · have t2 : (b / 2 % 2 == 1) = true := by simpa using h2
          have E : Hid (andTo a b 2 = n + 2) := (unhide S).trans (if_pos ⟨h1, h2⟩)
          clear h1 h2
          go_wp2
          exact ⟨⟨2, by omega, rfl, by rw [unhide E]⟩, by decide⟩
        · have t2 : (b / 2 % 2 == 1) = false := by simpa using h2
          have E : Hid (andTo a b 2 = n) := (unhide S).trans (if_neg (fun h => h2 h.2))
          clear h1 h2
          go_wp2
          exact ⟨⟨2, by omega, rfl, by rw [unhide E]⟩, by decide⟩
      · have t1 : (a / 2 % 2 == 1) = false := by simpa using h1
        have E : Hid (andTo a b 2 = n) := (unhide S).trans (if_neg (fun h => h1 h.1))
        clear h1
        go_wp2
        exact ⟨⟨2, by omega, rfl, by rw [unhide E]⟩, by decide⟩
    · generalize hn : andTo a b 2 = n at *
      clear hn
      simp only [Int.reducePow] at S r2
      simp only [Int.reducePow]
      by_cases h1 : a / 4 % 2 = 1
      · have t1 : (a / 4 % 2 == 1) = true := by simpa using h1
        by_cases h2 : b / 4 % 2 = 1
        · have t2 : (b / 4 % 2 == 1) = true := by simpa using h2
          have E : Hid (andTo a b 3 = n + 4) := (unhide S).trans (if_pos ⟨h1, h2⟩)
          clear h1 h2
          go_wp2
          exact ⟨⟨3, by omega, rfl, by rw [unhide E]⟩, by decide⟩
        · have t2 : (b / 4 % 2 == 1) = false := by simpa using h2
          have E : Hid (andTo a b 3 = n) := (unhide S).trans (if_neg (fun h => h2 h.2))
          clear h1 h2
          go_wp2
          exact ⟨⟨3, by omega, rfl, by rw [unhide E]⟩, by decide⟩
      · have t1 : (a / 4 % 2 == 1) = false := by simpa using h1
        have E : Hid (andTo a b 3 = n) := (unhide S).trans (if_neg (fun h => h1 h.1))
        clear h1
        go_wp2
        exact ⟨⟨3, by omega, rfl, by rw [unhide E]⟩, by decide⟩
    · generalize hn : andTo a b 3 = n at *
      clear hn
      simp only [Int.reducePow] at S r2
      simp only [Int.reducePow]
      by_cases h1 : a / 8 % 2 = 1
      · have t1 : (a / 8 % 2 == 1) = true := by simpa using h1
        by_cases h2 : b / 8 % 2 = 1
        · have t2 : (b / 8 % 2 == 1) = true := by simpa using h2
          have E : Hid (andTo a b 4 = n + 8) := (unhide S).trans (if_pos ⟨h1, h2⟩)
          clear h1 h2
          go_wp2
          exact ⟨⟨4, by omega, rfl, by rw [unhide E]⟩, by decide⟩
        · have t2 : (b / 8 % 2 == 1) = false := by simpa using h2
          have E : Hid (andTo a b 4 = n) := (unhide S).trans (if_neg (fun h => h2 h.2))
          clear h1 h2
          go_wp2
          exact ⟨⟨4, by omega, rfl, by rw [unhide E]⟩, by decide⟩
      · have t1 : (a / 8 % 2 == 1) = false := by simpa using h1
        have E : Hid (andTo a b 4 = n) := (unhide S).trans (if_neg (fun h => h1 h.1))
        clear h1
        go_wp2
        exact ⟨⟨4, by omega, rfl, by rw [unhide E]⟩, by decide⟩
    · generalize hn : andTo a b 4 = n at *
      clear hn
      simp only [Int.reducePow] at S r2
      simp only [Int.reducePow]
      by_cases h1 : a / 16 % 2 = 1
      · have t1 : (a / 16 % 2 == 1) = true := by simpa using h1
        by_cases h2 : b / 16 % 2 = 1
        · have t2 : (b / 16 % 2 == 1) = true := by simpa using h2
          have E : Hid (andTo a b 5 = n + 16) := (unhide S).trans (if_pos ⟨h1, h2⟩)
          clear h1 h2
          go_wp2
          exact ⟨⟨5, by omega, rfl, by rw [unhide E]⟩, by decide⟩
        · have t2 : (b / 16 % 2 == 1) = false := by simpa using h2
          have E : Hid (andTo a b 5 = n) := (unhide S).trans (if_neg (fun h => h2 h.2))
          clear h1 h2
          go_wp2
          exact ⟨⟨5, by omega, rfl, by rw [unhide E]⟩, by decide⟩
      · have t1 : (a / 16 % 2 == 1) = false := by simpa using h1
        have E : Hid (andTo a b 5 = n) := (unhide S).trans (if_neg (fun h => h1 h.1))
        clear h1
        go_wp2
        exact ⟨⟨5, by omega, rfl, by rw [unhide E]⟩, by decide⟩
    · generalize hn : andTo a b 5 = n at *
      have HN := hide hn
      clear hn
      simp only [Int.reducePow] at r2
      simp only [Int.reducePow]
      go_wp2
      go_ret
      exact ⟨by rw [unhide HN]; rfl, rfl⟩

set_option maxHeartbeats 2000000 in
set_option maxRecDepth 100000 in
theorem spec_FlagsAfter_any (old how bits : Int) (w : World) :
    Calls Tryd.prog 15 #[.int .i64 old, .int .i64 how, .int .i64 bits] w fun e w' => e = .returned (.int .i64 (afterV old how bits)) ∧ w' = w := by
  have q1 := fun W => spec_FlagsOk_any old W
  have q2 := fun W => spec_FlagsOk_any bits W
  cases ho : flOk old with
  | false =>
    have V := hide (afterV_no (old := old) (how := how) (bits := bits) (fun h => by rw [ho] at h; cases h.1))
    rw [ho] at q1
    have Q1 := hide q1
    clear q1 q2 ho
    go_enter Tryd.func15, Tryd.ntmps15
    go_wp2_with (go_at_call 34; refine (unhide Q1 _).mono ?_; rintro e w1 ⟨rfl, hw1⟩; subst w1)
    go_ret
    exact ⟨by rw [unhide V]; rfl, rfl⟩
  | true =>
    rw [ho] at q1
    have Q1 := hide q1
    clear q1
    cases hb : flOk bits with
    | false =>
      have V := hide (afterV_no (old := old) (how := how) (bits := bits) (fun h => by rw [hb] at h; cases h.2))
      rw [hb] at q2
      have Q2 := hide q2
      clear q2 ho hb
      go_enter Tryd.func15, Tryd.ntmps15
      go_wp2_with fail
      refine (unhide Q1 _).mono ?_
      rintro e w1 ⟨rfl, hw1⟩
      subst w1
      go_wp2_with fail
      refine (unhide Q2 _).mono ?_
      rintro e w1 ⟨rfl, hw1⟩
      subst w1
      go_wp2
      go_ret
      exact ⟨by rw [unhide V]; rfl, rfl⟩
    | true =>
      have V := hide (afterV_in (how := how) ⟨ho, hb⟩)
      rw [hb] at q2
      have Q2 := hide q2
      obtain ⟨o1, o2⟩ := flOk_parts ho
      obtain ⟨b1, b2⟩ := flOk_parts hb
      have QA := hide (l06And_any old bits w o1 o2 b1 b2)
      obtain ⟨n1, n2⟩ := and_range old bits 5 (by omega)
      rw [show (2 : Int) ^ 5 = 32 from rfl] at n2
      generalize andTo old bits 5 = n at *
      clear q2 ho hb
      by_cases h1 : how = 1
      · subst h1
        go_enter Tryd.func15, Tryd.ntmps15
        go_wp2_with fail
        refine (unhide Q1 _).mono ?_
        rintro e w1 ⟨rfl, hw1⟩
        subst w1
        go_wp2_with fail
        refine (unhide Q2 _).mono ?_
        rintro e w1 ⟨rfl, hw1⟩
        subst w1
        go_wp2
        go_ret
        exact ⟨by rw [unhide V]; rfl, rfl⟩
      · by_cases h2 : how = 2
        · subst h2
          go_enter Tryd.func15, Tryd.ntmps15
          go_wp2_with fail
          refine (unhide Q1 _).mono ?_
          rintro e w1 ⟨rfl, hw1⟩
          subst w1
          go_wp2_with fail
          refine (unhide Q2 _).mono ?_
          rintro e w1 ⟨rfl, hw1⟩
          subst w1
          go_wp2_with fail
          refine (unhide QA).mono ?_
          rintro e w1 ⟨rfl, hw1⟩
          subst w1
          go_wp2
          go_ret
          exact ⟨by rw [unhide V]; rfl, rfl⟩
        · by_cases h3 : how = 3
          · subst h3
            go_enter Tryd.func15, Tryd.ntmps15
            go_wp2_with fail
            refine (unhide Q1 _).mono ?_
            rintro e w1 ⟨rfl, hw1⟩
            subst w1
            go_wp2_with fail
            refine (unhide Q2 _).mono ?_
            rintro e w1 ⟨rfl, hw1⟩
            subst w1
            go_wp2_with fail
            refine (unhide QA).mono ?_
            rintro e w1 ⟨rfl, hw1⟩
            subst w1
            go_wp2
            go_ret
            exact ⟨by rw [unhide V]; rfl, rfl⟩
          · have t1 : (how == 1) = false := by simpa using h1
            have t2 : (how == 2) = false := by simpa using h2
            have t3 : (how == 3) = false := by simpa using h3
            rw [if_neg h1, if_neg h2, if_neg h3] at V
            clear h1 h2 h3
            go_enter Tryd.func15, Tryd.ntmps15
            go_wp2_with fail
            refine (unhide Q1 _).mono ?_
            rintro e w1 ⟨rfl, hw1⟩
            subst w1
            go_wp2_with fail
            refine (unhide Q2 _).mono ?_
            rintro e w1 ⟨rfl, hw1⟩
            subst w1
            go_wp2
            go_ret
            exact ⟨by rw [unhide V]; rfl, rfl⟩
end Go.Proofs.YtmaoadgpcejepaaDoor
