/- Flags: the program's FlagsOk, has, with, without, after, FlagsAfter. -/
import Derived.Test.YtanapiaobpoebaaDoorBase
import Derived.Test.YtanapiaobpoebaaDoorPlainA
namespace Go.Proofs.YtanapiaobpoebaaDoor
open Go.RowKit
open Plain
set_option linter.unusedVariables false

namespace Plain
theorem orI : ∀ a b : Fin 32, bits .or .i64 (a.val : Int) (b.val : Int) = (a.val : Int) + b.val - andTo a.val b.val 5 := by decide +kernel
theorem notI : ∀ a b : Fin 32, bits .andNot .i64 (a.val : Int) (b.val : Int) = (a.val : Int) - andTo a.val b.val 5 := by decide +kernel
theorem fin_of {a : Int} (h0 : 0 ≤ a) (h1 : a ≤ 31) : ∃ x : Fin 32, (x.val : Int) = a := ⟨⟨a.toNat, by omega⟩, by simp; omega⟩
theorem or_is {a b : Int} (h0 : 0 ≤ a) (h1 : a ≤ 31) (h2 : 0 ≤ b) (h3 : b ≤ 31) : bits .or .i64 a b = a + b - andTo a b 5 := by
  obtain ⟨x, rfl⟩ := fin_of h0 h1
  obtain ⟨y, rfl⟩ := fin_of h2 h3
  exact orI x y
theorem not_is {a b : Int} (h0 : 0 ≤ a) (h1 : a ≤ 31) (h2 : 0 ≤ b) (h3 : b ≤ 31) : bits .andNot .i64 a b = a - andTo a b 5 := by
  obtain ⟨x, rfl⟩ := fin_of h0 h1
  obtain ⟨y, rfl⟩ := fin_of h2 h3
  exact notI x y
end Plain

theorem impl_FlagsOk_any (b : Int) (w : World) :
    Calls Tryd.prog 15 #[.int .i64 b] w fun e w' => e = .returned (.bool (flOk b)) ∧ w' = w := by
  by_cases h : 0 ≤ b
  · have hd : decide (0 ≤ b) = true := by simpa using h
    by_cases h2 : b ≤ 31
    · have hd2 : decide (b < 32) = true := by simp; omega
      rw [flOk_in h h2]
      go_enter Tryd.func15, Tryd.ntmps15
      go_wp2
      go_ret
      exact ⟨rfl, rfl⟩
    · have hd2 : decide (b < 32) = false := by simp; omega
      rw [flOk_no (fun x => h2 x.2)]
      go_enter Tryd.func15, Tryd.ntmps15
      go_wp2
      go_ret
      exact ⟨rfl, rfl⟩
  · have hd : decide (0 ≤ b) = false := by simpa using h
    rw [flOk_no (fun x => h x.1)]
    go_enter Tryd.func15, Tryd.ntmps15
    go_wp2
    go_ret
    exact ⟨rfl, rfl⟩

theorem with_any (a b : Int) (w : World) (h0 : 0 ≤ a) (h1 : a ≤ 31) (h2 : 0 ≤ b) (h3 : b ≤ 31) :
    Calls Tryd.prog 25 #[.int .i64 a, .int .i64 b] w fun e w' => e = .returned (.int .i64 (a + b - andTo a b 5)) ∧ w' = w := by
  have b1 := or_is h0 h1 h2 h3
  generalize a + b - andTo a b 5 = z at *
  go_enter Tryd.func25, Tryd.ntmps25
  go_wp2
  go_ret
  exact ⟨rfl, rfl⟩
theorem without_any (a b : Int) (w : World) (h0 : 0 ≤ a) (h1 : a ≤ 31) (h2 : 0 ≤ b) (h3 : b ≤ 31) :
    Calls Tryd.prog 43 #[.int .i64 a, .int .i64 b] w fun e w' => e = .returned (.int .i64 (a - andTo a b 5)) ∧ w' = w := by
  have b1 := not_is h0 h1 h2 h3
  generalize a - andTo a b 5 = z at *
  go_enter Tryd.func43, Tryd.ntmps43
  go_wp2
  go_ret
  exact ⟨rfl, rfl⟩
theorem after_any (a how b : Int) (w : World) (h0 : 0 ≤ a) (h1 : a ≤ 31) (h2 : 0 ≤ b) (h3 : b ≤ 31) :
    Calls Tryd.prog 30 #[.int .i64 a, .int .i64 how, .int .i64 b] w fun e w' => e = .returned (.int .i64 (afterV a how b)) ∧ w' = w := by
  have E := afterV_in (how := how) ⟨flOk_in h0 h1, flOk_in h2 h3⟩
  have Q1 := hide (with_any a b w h0 h1 h2 h3)
  have Q2 := hide (without_any a b w h0 h1 h2 h3)
  generalize afterV a how b = v at *
  generalize a + b - andTo a b 5 = x at *
  generalize a - andTo a b 5 = y at *
  by_cases c1 : how = 1
  · have t1 : (how == 1) = true := by simpa using c1
    have E1 : Hid (v = b) := E.trans (if_pos c1)
    clear E c1
    go_enter Tryd.func30, Tryd.ntmps30
    go_wp2
    go_ret
    exact ⟨by rw [unhide E1]; rfl, rfl⟩
  have t1 : (how == 1) = false := by simpa using c1
  rw [if_neg c1] at E
  clear c1
  by_cases c2 : how = 2
  · have t2 : (how == 2) = true := by simpa using c2
    have E1 : Hid (v = x) := E.trans (if_pos c2)
    clear E c2
    go_enter Tryd.func30, Tryd.ntmps30
    go_wp2_with (go_at_call 25; refine (unhide Q1).mono ?_; rintro e w1 ⟨rfl, hw1⟩; subst w1)
    go_ret
    exact ⟨by rw [unhide E1]; rfl, rfl⟩
  have t2 : (how == 2) = false := by simpa using c2
  rw [if_neg c2] at E
  clear c2
  by_cases c3 : how = 3
  · have t3 : (how == 3) = true := by simpa using c3
    have E1 : Hid (v = y) := E.trans (if_pos c3)
    clear E c3
    go_enter Tryd.func30, Tryd.ntmps30
    go_wp2_with (go_at_call 43; refine (unhide Q2).mono ?_; rintro e w1 ⟨rfl, hw1⟩; subst w1)
    go_ret
    exact ⟨by rw [unhide E1]; rfl, rfl⟩
  have t3 : (how == 3) = false := by simpa using c3
  have E1 : Hid (v = a) := E.trans (if_neg c3)
  clear E c3
  go_enter Tryd.func30, Tryd.ntmps30
  go_wp2
  go_ret
  exact ⟨by rw [unhide E1]; rfl, rfl⟩

theorem impl_FlagsAfter_any (old how bits : Int) (w : World) :
    Calls Tryd.prog 11 #[.int .i64 old, .int .i64 how, .int .i64 bits] w fun e w' => e = .returned (.int .i64 (afterV old how bits)) ∧ w' = w := by
  cases ho : flOk old with
  | false =>
    have Q := impl_FlagsOk_any old w
    rw [ho] at Q
    have Q := hide Q
    have E : Hid (afterV old how bits = old) := afterV_no (by rw [ho]; simp)
    clear ho
    generalize afterV old how bits = v at *
    go_enter Tryd.func11, Tryd.ntmps11
    go_wp2_with (go_at_call 15; refine (unhide Q).mono ?_; rintro e w1 ⟨rfl, hw1⟩; subst w1)
    go_ret
    exact ⟨by rw [unhide E]; rfl, rfl⟩
  | true =>
    have Q := impl_FlagsOk_any old w
    rw [ho] at Q
    have Q := hide Q
    cases hb : flOk bits with
    | false =>
      have Q2 := impl_FlagsOk_any bits w
      rw [hb] at Q2
      have Q2 := hide Q2
      have E : Hid (afterV old how bits = old) := afterV_no (by rw [hb]; simp)
      clear ho hb
      generalize afterV old how bits = v at *
      go_enter Tryd.func11, Tryd.ntmps11
      go_wp2_with fail
      refine (unhide Q).mono ?_
      rintro e w1 ⟨rfl, hw1⟩
      subst w1
      go_wp2_with fail
      refine (unhide Q2).mono ?_
      rintro e w1 ⟨rfl, hw1⟩
      subst w1
      go_wp2
      go_ret
      exact ⟨by rw [unhide E]; rfl, rfl⟩
    | true =>
      have Q2 := impl_FlagsOk_any bits w
      rw [hb] at Q2
      have Q2 := hide Q2
      obtain ⟨a1, a2⟩ := flOk_parts ho
      obtain ⟨b1, b2⟩ := flOk_parts hb
      have Q3 := hide (after_any old how bits w a1 a2 b1 b2)
      clear ho hb a1 a2 b1 b2
      generalize afterV old how bits = v at *
      go_enter Tryd.func11, Tryd.ntmps11
      go_wp2_with fail
      refine (unhide Q).mono ?_
      rintro e w1 ⟨rfl, hw1⟩
      subst w1
      go_wp2_with fail
      refine (unhide Q2).mono ?_
      rintro e w1 ⟨rfl, hw1⟩
      subst w1
      go_wp2_with fail
      refine (unhide Q3).mono ?_
      rintro e w1 ⟨rfl, hw1⟩
      subst w1
      go_wp2
      go_ret
      exact ⟨rfl, rfl⟩
end Go.Proofs.YtanapiaobpoebaaDoor
