/- FnEachFlag's walk, over whatever contracts of the program's own functions. -/
import Derived.Test.YtanapiaobpoebaaDoorFlagAll
namespace Go.Proofs.YtanapiaobpoebaaDoor
open Go.RowKit
open Plain
set_option linter.unusedVariables false

set_option maxHeartbeats 8000000 in
set_option maxRecDepth 100000 in
theorem FnEachFlag_walk (len cap : Nat) (a : Option Addr) (w : World) (ha : Arg w.heap.size w a len) (CI : FlagsI w) :
    Calls Tryd.prog 5 #[.slice a len cap] w fun e w' => e = .returned (.bool true) ∧ Below w.heap.size w w' := by
  have hl := ha.1
  have q0 := bigF_any len cap a w (by omega)
  rw [decide_eq_false (show ¬ (1048576 : Int) < (len : Int) by omega)] at q0
  have Q0 := hide q0
  have D1 := hide (placesF_any w.heap.size len cap a w ha (Nat.le_refl _))
  have CC := hide CI
  clear q0 ha CI
  go_enter Tryd.func5, Tryd.ntmps5
  go_wp2_with fail
  refine (unhide Q0).mono ?_
  rintro e w0 ⟨rfl, hw⟩
  subst w0
  go_wp2_with fail
  refine (unhide D1).mono ?_
  rintro e w1 ⟨g, pc, p0, p1, hp0, hp1, rfl, c0, c1, b1⟩
  have B1 := hide b1
  clear Q0 D1 b1
  obtain ⟨x, hx0⟩ : ∃ x, x = p0 % 32 := ⟨_, rfl⟩
  obtain ⟨y, hy0⟩ : ∃ x, x = p1 % 32 := ⟨_, rfl⟩
  have e0 : (p0 : Int) % 32 = (x : Int) := by rw [hx0]; omega
  have e1 : (p1 : Int) % 32 = (y : Int) := by rw [hy0]; omega
  have hx : x < 32 := by omega
  have hy : y < 32 := by omega
  clear hx0 hy0 hp0 hp1
  go_wp2
  rw [e0, e1]
  clear e0 e1 c0 c1
  obtain ⟨⟨u0, u1⟩, v0, v1⟩ := after_range ⟨x, hx⟩ ⟨y, hy⟩
  have AU := fun W hb => (unhide CC).after (x : Int) 2 (y : Int) W (i64R_small (by omega) (by omega)) (i64R_small (by omega) (by omega)) (i64R_small (by omega) (by omega)) hb
  have AV := fun W hb => (unhide CC).after (x : Int) 3 (y : Int) W (i64R_small (by omega) (by omega)) (i64R_small (by omega) (by omega)) (i64R_small (by omega) (by omega)) hb
  obtain ⟨u, hu⟩ : ∃ u, afterV (x : Int) 2 (y : Int) = u := ⟨_, rfl⟩
  obtain ⟨v, hv⟩ : ∃ v, afterV (x : Int) 3 (y : Int) = v := ⟨_, rfl⟩
  simp only at u0 u1 v0 v1
  rw [hu] at AU u0 u1
  rw [hv] at AV v0 v1
  have EU := hide hu
  have EV := hide hv
  replace AU := hide AU
  replace AV := hide AV
  clear hu hv
  have T0 := hide (fun W hb => (unhide CC).text 0 W (i64R_small (by omega) (by omega)) hb)
  have T32 := hide (fun W hb => (unhide CC).text 32 W (i64R_small (by omega) (by omega)) hb)
  have TA := hide (fun W hb => (unhide CC).text (x : Int) W (i64R_small (by omega) (by omega)) hb)
  have TS := hide (fun W => spec_FlagsText_any (x : Int) W)
  have OK := hide (fun W hb => (unhide CC).ok (-1) W ⟨by omega, by omega⟩ hb)
  rw [show (⟨(flagsL 0).toArray⟩ : ByteArray) = ⟨#[40, 41]⟩ from rfl] at T0
  rw [show (⟨(flagsL 32).toArray⟩ : ByteArray) = ⟨#[]⟩ from rfl] at T32
  rw [show flOk (-1) = false from rfl] at OK
  generalize (⟨(flagsL (x : Int)).toArray⟩ : ByteArray) = X at *
  clear CC
  have hx' : (x : Int) ≤ 31 := by omega
  have hy' : (y : Int) ≤ 31 := by omega
  go_loopw [6] (fun i wr => ∃ k : Nat, k ≤ 5 ∧ i = .int .i64 (2 ^ k) ∧ Below w.heap.size w wr) (fun i _ => 64 - (intOf i).toNat)
  case atStart => exact ⟨0, by omega, rfl, unhide B1⟩
  case round =>
    obtain ⟨k, hk, rfl, hbel⟩ := hrel
    have BW := hide hbel
    clear hbel
    rcases (show k = 0 ∨ k = 1 ∨ k = 2 ∨ k = 3 ∨ k = 4 ∨ k = 5 by omega) with rfl | rfl | rfl | rfl | rfl | rfl
    · simp only [Int.reducePow]
      have AB := hide (add_bit ⟨x, hx⟩ ⟨y, hy⟩ ⟨0, by omega⟩)
      have TB := hide (take_bit ⟨x, hx⟩ ⟨y, hy⟩ ⟨0, by omega⟩)
      simp only [Int.reducePow, Int.ediv_one] at AB TB
      rw [unhide EU] at AB
      rw [unhide EV] at TB
      by_cases h1 : (x : Int) % 2 = 1
      · have t1 : ((x : Int) % 2 == 1) = true := by simpa using h1
        by_cases h2 : (y : Int) % 2 = 1
        · have t2 : ((y : Int) % 2 == 1) = true := by simpa using h2
          have t3 : (u % 2 == 1) = true := beq_iff_eq.2 ((unhide AB).2 (.inl h1))
          have t4 : (v % 2 == 1) = false := beq_eq_false_iff_ne.2 (fun h => ((unhide TB).1 h).2 h2)
          clear h1 h2 AB TB
          go_wp2_with fail
          refine (unhide AU wr (unhide BW)).mono ?_
          rintro e w3 ⟨rfl, hb3⟩
          have B3 := hide ((unhide BW).trans (hb3.mono (unhide BW).size))
          clear hb3
          go_wp2_with fail
          refine (unhide AV w3 (unhide B3)).mono ?_
          rintro e w4 ⟨rfl, hb4⟩
          have B4 := hide ((unhide B3).trans (hb4.mono (unhide B3).size))
          clear hb4
          go_wp2
          exact ⟨⟨1, by omega, rfl, unhide B4⟩, by decide⟩
        · have t2 : ((y : Int) % 2 == 1) = false := by simpa using h2
          have t3 : (u % 2 == 1) = true := beq_iff_eq.2 ((unhide AB).2 (.inl h1))
          have t4 : (v % 2 == 1) = true := beq_iff_eq.2 ((unhide TB).2 ⟨h1, h2⟩)
          clear h1 h2 AB TB
          go_wp2_with fail
          refine (unhide AU wr (unhide BW)).mono ?_
          rintro e w3 ⟨rfl, hb3⟩
          have B3 := hide ((unhide BW).trans (hb3.mono (unhide BW).size))
          clear hb3
          go_wp2_with fail
          refine (unhide AV w3 (unhide B3)).mono ?_
          rintro e w4 ⟨rfl, hb4⟩
          have B4 := hide ((unhide B3).trans (hb4.mono (unhide B3).size))
          clear hb4
          go_wp2
          exact ⟨⟨1, by omega, rfl, unhide B4⟩, by decide⟩
      · have t1 : ((x : Int) % 2 == 1) = false := by simpa using h1
        by_cases h2 : (y : Int) % 2 = 1
        · have t2 : ((y : Int) % 2 == 1) = true := by simpa using h2
          have t3 : (u % 2 == 1) = true := beq_iff_eq.2 ((unhide AB).2 (.inr h2))
          have t4 : (v % 2 == 1) = false := beq_eq_false_iff_ne.2 (fun h => h1 ((unhide TB).1 h).1)
          clear h1 h2 AB TB
          go_wp2_with fail
          refine (unhide AU wr (unhide BW)).mono ?_
          rintro e w3 ⟨rfl, hb3⟩
          have B3 := hide ((unhide BW).trans (hb3.mono (unhide BW).size))
          clear hb3
          go_wp2_with fail
          refine (unhide AV w3 (unhide B3)).mono ?_
          rintro e w4 ⟨rfl, hb4⟩
          have B4 := hide ((unhide B3).trans (hb4.mono (unhide B3).size))
          clear hb4
          go_wp2
          exact ⟨⟨1, by omega, rfl, unhide B4⟩, by decide⟩
        · have t2 : ((y : Int) % 2 == 1) = false := by simpa using h2
          have t3 : (u % 2 == 1) = false := beq_eq_false_iff_ne.2 (fun h => ((unhide AB).1 h).elim h1 h2)
          have t4 : (v % 2 == 1) = false := beq_eq_false_iff_ne.2 (fun h => h1 ((unhide TB).1 h).1)
          clear h1 h2 AB TB
          go_wp2_with fail
          refine (unhide AU wr (unhide BW)).mono ?_
          rintro e w3 ⟨rfl, hb3⟩
          have B3 := hide ((unhide BW).trans (hb3.mono (unhide BW).size))
          clear hb3
          go_wp2_with fail
          refine (unhide AV w3 (unhide B3)).mono ?_
          rintro e w4 ⟨rfl, hb4⟩
          have B4 := hide ((unhide B3).trans (hb4.mono (unhide B3).size))
          clear hb4
          go_wp2
          exact ⟨⟨1, by omega, rfl, unhide B4⟩, by decide⟩
    · simp only [Int.reducePow]
      have AB := hide (add_bit ⟨x, hx⟩ ⟨y, hy⟩ ⟨1, by omega⟩)
      have TB := hide (take_bit ⟨x, hx⟩ ⟨y, hy⟩ ⟨1, by omega⟩)
      simp only [Int.reducePow] at AB TB
      rw [unhide EU] at AB
      rw [unhide EV] at TB
      by_cases h1 : (x : Int) / 2 % 2 = 1
      · have t1 : ((x : Int) / 2 % 2 == 1) = true := by simpa using h1
        by_cases h2 : (y : Int) / 2 % 2 = 1
        · have t2 : ((y : Int) / 2 % 2 == 1) = true := by simpa using h2
          have t3 : (u / 2 % 2 == 1) = true := beq_iff_eq.2 ((unhide AB).2 (.inl h1))
          have t4 : (v / 2 % 2 == 1) = false := beq_eq_false_iff_ne.2 (fun h => ((unhide TB).1 h).2 h2)
          clear h1 h2 AB TB
          go_wp2_with fail
          refine (unhide AU wr (unhide BW)).mono ?_
          rintro e w3 ⟨rfl, hb3⟩
          have B3 := hide ((unhide BW).trans (hb3.mono (unhide BW).size))
          clear hb3
          go_wp2_with fail
          refine (unhide AV w3 (unhide B3)).mono ?_
          rintro e w4 ⟨rfl, hb4⟩
          have B4 := hide ((unhide B3).trans (hb4.mono (unhide B3).size))
          clear hb4
          go_wp2
          exact ⟨⟨2, by omega, rfl, unhide B4⟩, by decide⟩
        · have t2 : ((y : Int) / 2 % 2 == 1) = false := by simpa using h2
          have t3 : (u / 2 % 2 == 1) = true := beq_iff_eq.2 ((unhide AB).2 (.inl h1))
          have t4 : (v / 2 % 2 == 1) = true := beq_iff_eq.2 ((unhide TB).2 ⟨h1, h2⟩)
          clear h1 h2 AB TB
          go_wp2_with fail
          refine (unhide AU wr (unhide BW)).mono ?_
          rintro e w3 ⟨rfl, hb3⟩
          have B3 := hide ((unhide BW).trans (hb3.mono (unhide BW).size))
          clear hb3
          go_wp2_with fail
          refine (unhide AV w3 (unhide B3)).mono ?_
          rintro e w4 ⟨rfl, hb4⟩
          have B4 := hide ((unhide B3).trans (hb4.mono (unhide B3).size))
          clear hb4
          go_wp2
          exact ⟨⟨2, by omega, rfl, unhide B4⟩, by decide⟩
      · have t1 : ((x : Int) / 2 % 2 == 1) = false := by simpa using h1
        by_cases h2 : (y : Int) / 2 % 2 = 1
        · have t2 : ((y : Int) / 2 % 2 == 1) = true := by simpa using h2
          have t3 : (u / 2 % 2 == 1) = true := beq_iff_eq.2 ((unhide AB).2 (.inr h2))
          have t4 : (v / 2 % 2 == 1) = false := beq_eq_false_iff_ne.2 (fun h => h1 ((unhide TB).1 h).1)
          clear h1 h2 AB TB
          go_wp2_with fail
          refine (unhide AU wr (unhide BW)).mono ?_
          rintro e w3 ⟨rfl, hb3⟩
          have B3 := hide ((unhide BW).trans (hb3.mono (unhide BW).size))
          clear hb3
          go_wp2_with fail
          refine (unhide AV w3 (unhide B3)).mono ?_
          rintro e w4 ⟨rfl, hb4⟩
          have B4 := hide ((unhide B3).trans (hb4.mono (unhide B3).size))
          clear hb4
          go_wp2
          exact ⟨⟨2, by omega, rfl, unhide B4⟩, by decide⟩
        · have t2 : ((y : Int) / 2 % 2 == 1) = false := by simpa using h2
          have t3 : (u / 2 % 2 == 1) = false := beq_eq_false_iff_ne.2 (fun h => ((unhide AB).1 h).elim h1 h2)
          have t4 : (v / 2 % 2 == 1) = false := beq_eq_false_iff_ne.2 (fun h => h1 ((unhide TB).1 h).1)
          clear h1 h2 AB TB
          go_wp2_with fail
          refine (unhide AU wr (unhide BW)).mono ?_
          rintro e w3 ⟨rfl, hb3⟩
          have B3 := hide ((unhide BW).trans (hb3.mono (unhide BW).size))
          clear hb3
          go_wp2_with fail
          refine (unhide AV w3 (unhide B3)).mono ?_
          rintro e w4 ⟨rfl, hb4⟩
          have B4 := hide ((unhide B3).trans (hb4.mono (unhide B3).size))
          clear hb4
          go_wp2
          exact ⟨⟨2, by omega, rfl, unhide B4⟩, by decide⟩
    · simp only [Int.reducePow]
      have AB := hide (add_bit ⟨x, hx⟩ ⟨y, hy⟩ ⟨2, by omega⟩)
      have TB := hide (take_bit ⟨x, hx⟩ ⟨y, hy⟩ ⟨2, by omega⟩)
      simp only [Int.reducePow] at AB TB
      rw [unhide EU] at AB
      rw [unhide EV] at TB
      by_cases h1 : (x : Int) / 4 % 2 = 1
      · have t1 : ((x : Int) / 4 % 2 == 1) = true := by simpa using h1
        by_cases h2 : (y : Int) / 4 % 2 = 1
        · have t2 : ((y : Int) / 4 % 2 == 1) = true := by simpa using h2
          have t3 : (u / 4 % 2 == 1) = true := beq_iff_eq.2 ((unhide AB).2 (.inl h1))
          have t4 : (v / 4 % 2 == 1) = false := beq_eq_false_iff_ne.2 (fun h => ((unhide TB).1 h).2 h2)
          clear h1 h2 AB TB
          go_wp2_with fail
          refine (unhide AU wr (unhide BW)).mono ?_
          rintro e w3 ⟨rfl, hb3⟩
          have B3 := hide ((unhide BW).trans (hb3.mono (unhide BW).size))
          clear hb3
          go_wp2_with fail
          refine (unhide AV w3 (unhide B3)).mono ?_
          rintro e w4 ⟨rfl, hb4⟩
          have B4 := hide ((unhide B3).trans (hb4.mono (unhide B3).size))
          clear hb4
          go_wp2
          exact ⟨⟨3, by omega, rfl, unhide B4⟩, by decide⟩
        · have t2 : ((y : Int) / 4 % 2 == 1) = false := by simpa using h2
          have t3 : (u / 4 % 2 == 1) = true := beq_iff_eq.2 ((unhide AB).2 (.inl h1))
          have t4 : (v / 4 % 2 == 1) = true := beq_iff_eq.2 ((unhide TB).2 ⟨h1, h2⟩)
          clear h1 h2 AB TB
          go_wp2_with fail
          refine (unhide AU wr (unhide BW)).mono ?_
          rintro e w3 ⟨rfl, hb3⟩
          have B3 := hide ((unhide BW).trans (hb3.mono (unhide BW).size))
          clear hb3
          go_wp2_with fail
          refine (unhide AV w3 (unhide B3)).mono ?_
          rintro e w4 ⟨rfl, hb4⟩
          have B4 := hide ((unhide B3).trans (hb4.mono (unhide B3).size))
          clear hb4
          go_wp2
          exact ⟨⟨3, by omega, rfl, unhide B4⟩, by decide⟩
      · have t1 : ((x : Int) / 4 % 2 == 1) = false := by simpa using h1
        by_cases h2 : (y : Int) / 4 % 2 = 1
        · have t2 : ((y : Int) / 4 % 2 == 1) = true := by simpa using h2
          have t3 : (u / 4 % 2 == 1) = true := beq_iff_eq.2 ((unhide AB).2 (.inr h2))
          have t4 : (v / 4 % 2 == 1) = false := beq_eq_false_iff_ne.2 (fun h => h1 ((unhide TB).1 h).1)
          clear h1 h2 AB TB
          go_wp2_with fail
          refine (unhide AU wr (unhide BW)).mono ?_
          rintro e w3 ⟨rfl, hb3⟩
          have B3 := hide ((unhide BW).trans (hb3.mono (unhide BW).size))
          clear hb3
          go_wp2_with fail
          refine (unhide AV w3 (unhide B3)).mono ?_
          rintro e w4 ⟨rfl, hb4⟩
          have B4 := hide ((unhide B3).trans (hb4.mono (unhide B3).size))
          clear hb4
          go_wp2
          exact ⟨⟨3, by omega, rfl, unhide B4⟩, by decide⟩
        · have t2 : ((y : Int) / 4 % 2 == 1) = false := by simpa using h2
          have t3 : (u / 4 % 2 == 1) = false := beq_eq_false_iff_ne.2 (fun h => ((unhide AB).1 h).elim h1 h2)
          have t4 : (v / 4 % 2 == 1) = false := beq_eq_false_iff_ne.2 (fun h => h1 ((unhide TB).1 h).1)
          clear h1 h2 AB TB
          go_wp2_with fail
          refine (unhide AU wr (unhide BW)).mono ?_
          rintro e w3 ⟨rfl, hb3⟩
          have B3 := hide ((unhide BW).trans (hb3.mono (unhide BW).size))
          clear hb3
          go_wp2_with fail
          refine (unhide AV w3 (unhide B3)).mono ?_
          rintro e w4 ⟨rfl, hb4⟩
          have B4 := hide ((unhide B3).trans (hb4.mono (unhide B3).size))
          clear hb4
          go_wp2
          exact ⟨⟨3, by omega, rfl, unhide B4⟩, by decide⟩
    · simp only [Int.reducePow]
      have AB := hide (add_bit ⟨x, hx⟩ ⟨y, hy⟩ ⟨3, by omega⟩)
      have TB := hide (take_bit ⟨x, hx⟩ ⟨y, hy⟩ ⟨3, by omega⟩)
      simp only [Int.reducePow] at AB TB
      rw [unhide EU] at AB
      rw [unhide EV] at TB
      by_cases h1 : (x : Int) / 8 % 2 = 1
      · have t1 : ((x : Int) / 8 % 2 == 1) = true := by simpa using h1
        by_cases h2 : (y : Int) / 8 % 2 = 1
        · have t2 : ((y : Int) / 8 % 2 == 1) = true := by simpa using h2
          have t3 : (u / 8 % 2 == 1) = true := beq_iff_eq.2 ((unhide AB).2 (.inl h1))
          have t4 : (v / 8 % 2 == 1) = false := beq_eq_false_iff_ne.2 (fun h => ((unhide TB).1 h).2 h2)
          clear h1 h2 AB TB
          go_wp2_with fail
          refine (unhide AU wr (unhide BW)).mono ?_
          rintro e w3 ⟨rfl, hb3⟩
          have B3 := hide ((unhide BW).trans (hb3.mono (unhide BW).size))
          clear hb3
          go_wp2_with fail
          refine (unhide AV w3 (unhide B3)).mono ?_
          rintro e w4 ⟨rfl, hb4⟩
          have B4 := hide ((unhide B3).trans (hb4.mono (unhide B3).size))
          clear hb4
          go_wp2
          exact ⟨⟨4, by omega, rfl, unhide B4⟩, by decide⟩
        · have t2 : ((y : Int) / 8 % 2 == 1) = false := by simpa using h2
          have t3 : (u / 8 % 2 == 1) = true := beq_iff_eq.2 ((unhide AB).2 (.inl h1))
          have t4 : (v / 8 % 2 == 1) = true := beq_iff_eq.2 ((unhide TB).2 ⟨h1, h2⟩)
          clear h1 h2 AB TB
          go_wp2_with fail
          refine (unhide AU wr (unhide BW)).mono ?_
          rintro e w3 ⟨rfl, hb3⟩
          have B3 := hide ((unhide BW).trans (hb3.mono (unhide BW).size))
          clear hb3
          go_wp2_with fail
          refine (unhide AV w3 (unhide B3)).mono ?_
          rintro e w4 ⟨rfl, hb4⟩
          have B4 := hide ((unhide B3).trans (hb4.mono (unhide B3).size))
          clear hb4
          go_wp2
          exact ⟨⟨4, by omega, rfl, unhide B4⟩, by decide⟩
      · have t1 : ((x : Int) / 8 % 2 == 1) = false := by simpa using h1
        by_cases h2 : (y : Int) / 8 % 2 = 1
        · have t2 : ((y : Int) / 8 % 2 == 1) = true := by simpa using h2
          have t3 : (u / 8 % 2 == 1) = true := beq_iff_eq.2 ((unhide AB).2 (.inr h2))
          have t4 : (v / 8 % 2 == 1) = false := beq_eq_false_iff_ne.2 (fun h => h1 ((unhide TB).1 h).1)
          clear h1 h2 AB TB
          go_wp2_with fail
          refine (unhide AU wr (unhide BW)).mono ?_
          rintro e w3 ⟨rfl, hb3⟩
          have B3 := hide ((unhide BW).trans (hb3.mono (unhide BW).size))
          clear hb3
          go_wp2_with fail
          refine (unhide AV w3 (unhide B3)).mono ?_
          rintro e w4 ⟨rfl, hb4⟩
          have B4 := hide ((unhide B3).trans (hb4.mono (unhide B3).size))
          clear hb4
          go_wp2
          exact ⟨⟨4, by omega, rfl, unhide B4⟩, by decide⟩
        · have t2 : ((y : Int) / 8 % 2 == 1) = false := by simpa using h2
          have t3 : (u / 8 % 2 == 1) = false := beq_eq_false_iff_ne.2 (fun h => ((unhide AB).1 h).elim h1 h2)
          have t4 : (v / 8 % 2 == 1) = false := beq_eq_false_iff_ne.2 (fun h => h1 ((unhide TB).1 h).1)
          clear h1 h2 AB TB
          go_wp2_with fail
          refine (unhide AU wr (unhide BW)).mono ?_
          rintro e w3 ⟨rfl, hb3⟩
          have B3 := hide ((unhide BW).trans (hb3.mono (unhide BW).size))
          clear hb3
          go_wp2_with fail
          refine (unhide AV w3 (unhide B3)).mono ?_
          rintro e w4 ⟨rfl, hb4⟩
          have B4 := hide ((unhide B3).trans (hb4.mono (unhide B3).size))
          clear hb4
          go_wp2
          exact ⟨⟨4, by omega, rfl, unhide B4⟩, by decide⟩
    · simp only [Int.reducePow]
      have AB := hide (add_bit ⟨x, hx⟩ ⟨y, hy⟩ ⟨4, by omega⟩)
      have TB := hide (take_bit ⟨x, hx⟩ ⟨y, hy⟩ ⟨4, by omega⟩)
      simp only [Int.reducePow] at AB TB
      rw [unhide EU] at AB
      rw [unhide EV] at TB
      by_cases h1 : (x : Int) / 16 % 2 = 1
      · have t1 : ((x : Int) / 16 % 2 == 1) = true := by simpa using h1
        by_cases h2 : (y : Int) / 16 % 2 = 1
        · have t2 : ((y : Int) / 16 % 2 == 1) = true := by simpa using h2
          have t3 : (u / 16 % 2 == 1) = true := beq_iff_eq.2 ((unhide AB).2 (.inl h1))
          have t4 : (v / 16 % 2 == 1) = false := beq_eq_false_iff_ne.2 (fun h => ((unhide TB).1 h).2 h2)
          clear h1 h2 AB TB
          go_wp2_with fail
          refine (unhide AU wr (unhide BW)).mono ?_
          rintro e w3 ⟨rfl, hb3⟩
          have B3 := hide ((unhide BW).trans (hb3.mono (unhide BW).size))
          clear hb3
          go_wp2_with fail
          refine (unhide AV w3 (unhide B3)).mono ?_
          rintro e w4 ⟨rfl, hb4⟩
          have B4 := hide ((unhide B3).trans (hb4.mono (unhide B3).size))
          clear hb4
          go_wp2
          exact ⟨⟨5, by omega, rfl, unhide B4⟩, by decide⟩
        · have t2 : ((y : Int) / 16 % 2 == 1) = false := by simpa using h2
          have t3 : (u / 16 % 2 == 1) = true := beq_iff_eq.2 ((unhide AB).2 (.inl h1))
          have t4 : (v / 16 % 2 == 1) = true := beq_iff_eq.2 ((unhide TB).2 ⟨h1, h2⟩)
          clear h1 h2 AB TB
          go_wp2_with fail
          refine (unhide AU wr (unhide BW)).mono ?_
          rintro e w3 ⟨rfl, hb3⟩
          have B3 := hide ((unhide BW).trans (hb3.mono (unhide BW).size))
          clear hb3
          go_wp2_with fail
          refine (unhide AV w3 (unhide B3)).mono ?_
          rintro e w4 ⟨rfl, hb4⟩
          have B4 := hide ((unhide B3).trans (hb4.mono (unhide B3).size))
          clear hb4
          go_wp2
          exact ⟨⟨5, by omega, rfl, unhide B4⟩, by decide⟩
      · have t1 : ((x : Int) / 16 % 2 == 1) = false := by simpa using h1
        by_cases h2 : (y : Int) / 16 % 2 = 1
        · have t2 : ((y : Int) / 16 % 2 == 1) = true := by simpa using h2
          have t3 : (u / 16 % 2 == 1) = true := beq_iff_eq.2 ((unhide AB).2 (.inr h2))
          have t4 : (v / 16 % 2 == 1) = false := beq_eq_false_iff_ne.2 (fun h => h1 ((unhide TB).1 h).1)
          clear h1 h2 AB TB
          go_wp2_with fail
          refine (unhide AU wr (unhide BW)).mono ?_
          rintro e w3 ⟨rfl, hb3⟩
          have B3 := hide ((unhide BW).trans (hb3.mono (unhide BW).size))
          clear hb3
          go_wp2_with fail
          refine (unhide AV w3 (unhide B3)).mono ?_
          rintro e w4 ⟨rfl, hb4⟩
          have B4 := hide ((unhide B3).trans (hb4.mono (unhide B3).size))
          clear hb4
          go_wp2
          exact ⟨⟨5, by omega, rfl, unhide B4⟩, by decide⟩
        · have t2 : ((y : Int) / 16 % 2 == 1) = false := by simpa using h2
          have t3 : (u / 16 % 2 == 1) = false := beq_eq_false_iff_ne.2 (fun h => ((unhide AB).1 h).elim h1 h2)
          have t4 : (v / 16 % 2 == 1) = false := beq_eq_false_iff_ne.2 (fun h => h1 ((unhide TB).1 h).1)
          clear h1 h2 AB TB
          go_wp2_with fail
          refine (unhide AU wr (unhide BW)).mono ?_
          rintro e w3 ⟨rfl, hb3⟩
          have B3 := hide ((unhide BW).trans (hb3.mono (unhide BW).size))
          clear hb3
          go_wp2_with fail
          refine (unhide AV w3 (unhide B3)).mono ?_
          rintro e w4 ⟨rfl, hb4⟩
          have B4 := hide ((unhide B3).trans (hb4.mono (unhide B3).size))
          clear hb4
          go_wp2
          exact ⟨⟨5, by omega, rfl, unhide B4⟩, by decide⟩
    · simp only [Int.reducePow]
      go_wp2_with fail
      refine (unhide T0 wr (unhide BW)).mono ?_
      rintro e w3 ⟨rfl, hb3⟩
      have B3 := hide ((unhide BW).trans (hb3.mono (unhide BW).size))
      clear hb3
      go_wp2_with fail
      refine (unhide T32 w3 (unhide B3)).mono ?_
      rintro e w4 ⟨rfl, hb4⟩
      have B4 := hide ((unhide B3).trans (hb4.mono (unhide B3).size))
      clear hb4
      go_wp2_with fail
      refine (unhide TA w4 (unhide B4)).mono ?_
      rintro e w5 ⟨rfl, hb5⟩
      have B5 := hide ((unhide B4).trans (hb5.mono (unhide B4).size))
      clear hb5
      go_wp2_with fail
      refine (unhide TS w5).mono ?_
      rintro e w6 ⟨rfl, hb6⟩
      have B6 := hide ((unhide B5).trans (hb6.mono (unhide B5).size))
      clear hb6
      go_wp2_with fail
      refine (unhide OK w6 (unhide B6)).mono ?_
      rintro e w7 ⟨rfl, hb7⟩
      have B7 := hide ((unhide B6).trans (hb7.mono (unhide B6).size))
      clear hb7
      go_wp2
      go_ret
      exact ⟨rfl, unhide B7⟩
end Go.Proofs.YtanapiaobpoebaaDoor
