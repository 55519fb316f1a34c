/- FnFlags's walk, over whatever contracts of the program's own functions. -/
import Derived.Test.YtanapiaobpoebaaDoorDrawFlags
namespace Go.Proofs.YtanapiaobpoebaaDoor
open Go.RowKit
open Plain
set_option linter.unusedVariables false

namespace Plain
theorem flags_two : ∀ a b : Fin 32, afterV a.val 1 b.val = b.val ∧ (0 ≤ afterV a.val 2 b.val ∧ afterV a.val 2 b.val ≤ 31) ∧ (0 ≤ afterV (afterV a.val 2 b.val) 3 b.val ∧ afterV (afterV a.val 2 b.val) 3 b.val ≤ 31) ∧
    afterV (afterV (afterV a.val 2 b.val) 3 b.val) 2 b.val = afterV a.val 2 b.val ∧ afterV (afterV (afterV a.val 2 b.val) 3 b.val) 3 b.val = afterV (afterV a.val 2 b.val) 3 b.val := by decide +kernel
theorem flags_nine : readF [40, 68, 101, 108, 101, 116, 101, 100, 32, 83, 69, 69, 78, 41] = (9, true) := by decide +kernel
theorem flags_len (b : Int) : (flagsL b).length ≤ 60 := by
  have := flTo_len b 5 (by omega)
  unfold flagsL
  split
  · simp; omega
  · simp
end Plain

set_option maxHeartbeats 8000000 in
set_option maxRecDepth 100000 in
theorem FnFlags_walk (len cap : Nat) (a : Option Addr) (w : World) (ha : Arg w.heap.size w a len) (CI : FlagsI w) :
    Calls Tryd.prog 4 #[.slice a len cap] w fun e w' => e = .returned (.bool true) ∧ Below w.heap.size w w' := by
  have hl := ha.1
  have q0 := bigF_any len cap a w (by omega)
  rw [decide_eq_false (show ¬ (1048576 : Int) < (len : Int) by omega)] at q0
  have Q0 := hide q0
  have D1 := hide (placesF_any w.heap.size len cap a w ha (Nat.le_refl _))
  have DA := hide (fun W (hb : Below w.heap.size w W) => DrawFlagsAfter_any w.heap.size len cap a W (ha.below hb) hb.size)
  have DR := hide (fun W (hb : Below w.heap.size w W) => DrawReadFlags_any w.heap.size len cap a W (ha.below hb) hb.size)
  have CC := hide CI
  clear q0 ha CI
  go_enter Tryd.func4, Tryd.ntmps4
  go_wp2_with fail
  refine (unhide Q0).mono ?_
  rintro e w0 ⟨rfl, hw⟩
  subst w0
  go_wp2_with fail
  refine (unhide D1).mono ?_
  rintro e w1 ⟨g, pc, p0, p1, hp0, hp1, rfl, c0, c1, b1⟩
  have B1 := hide b1
  clear Q0 D1 b1
  obtain ⟨x, hx0⟩ : ∃ x, x = p0 % 32 := ⟨_, rfl⟩
  obtain ⟨y, hy0⟩ : ∃ x, x = p1 % 32 := ⟨_, rfl⟩
  have e0 : (p0 : Int) % 32 = (x : Int) := by rw [hx0]; omega
  have e1 : (p1 : Int) % 32 = (y : Int) := by rw [hy0]; omega
  have hx : x < 32 := by omega
  have hy : y < 32 := by omega
  clear hx0 hy0 hp0 hp1
  go_wp2_with fail
  rw [e0, e1]
  clear e0 e1 c0 c1
  obtain ⟨f1, ⟨f2, f3⟩, ⟨f4, f5⟩, f6, f7⟩ := flags_two ⟨x, hx⟩ ⟨y, hy⟩
  have fb := read_back ⟨x, hx⟩
  simp only at f1 f2 f3 f4 f5 f6 f7 fb
  have small : ∀ z : Int, 0 ≤ z → z ≤ 31 → i64R z := fun z h0 h1 => i64R_small h0 (by omega)
  have sx : i64R (x : Int) := small _ (by omega) (by omega)
  have sy : i64R (y : Int) := small _ (by omega) (by omega)
  have s2 : i64R 2 := small _ (by omega) (by omega)
  have s3 : i64R 3 := small _ (by omega) (by omega)
  have TX := fun W hb => (unhide CC).text (x : Int) W sx hb
  have RX := fun W hb => (unhide CC).read ⟨(flagsL (x : Int)).toArray⟩ W (by have := flags_len (x : Int); show (flagsL (x : Int)).toArray.size ≤ 1048576; simp; omega) hb
  rw [show (⟨(flagsL (x : Int)).toArray⟩ : ByteArray).data.toList = flagsL (x : Int) from rfl, fb] at RX
  have AD := fun W hb => (unhide CC).after (x : Int) 2 (y : Int) W sx s2 sy hb
  have TK := fun W hb => (unhide CC).after (afterV (x : Int) 2 (y : Int)) 3 (y : Int) W (small _ f2 f3) s3 sy hb
  have R9 := fun W hb => (unhide CC).read ⟨#[40, 68, 101, 108, 101, 116, 101, 100, 32, 83, 69, 69, 78, 41]⟩ W (by decide) hb
  rw [show (⟨#[40, 68, 101, 108, 101, 116, 101, 100, 32, 83, 69, 69, 78, 41]⟩ : ByteArray).data.toList = [40, 68, 101, 108, 101, 116, 101, 100, 32, 83, 69, 69, 78, 41] from rfl, flags_nine] at R9
  have A1 := fun W hb => (unhide CC).after (x : Int) 1 (y : Int) W sx (small _ (by omega) (by omega)) sy hb
  have A2 := fun W hb => (unhide CC).after (afterV (afterV (x : Int) 2 (y : Int)) 3 (y : Int)) 2 (y : Int) W (small _ f4 f5) s2 sy hb
  have A3 := fun W hb => (unhide CC).after (afterV (afterV (x : Int) 2 (y : Int)) 3 (y : Int)) 3 (y : Int) W (small _ f4 f5) s3 sy hb
  have A4 := fun W hb => (unhide CC).after (afterV (afterV (x : Int) 2 (y : Int)) 3 (y : Int)) 2 (x : Int) W (small _ f4 f5) s2 sx hb
  have S4 := fun W => spec_FlagsAfter_any (afterV (afterV (x : Int) 2 (y : Int)) 3 (y : Int)) 2 (x : Int) W
  have OK := fun W hb => (unhide CC).ok (x : Int) W sx hb
  rw [flOk_in (show (0 : Int) ≤ (x : Int) by omega) (show (x : Int) ≤ 31 by omega)] at OK
  rw [f1] at A1
  rw [f6] at A2
  rw [f7] at A3
  simp only at RX R9
  generalize (⟨(flagsL (x : Int)).toArray⟩ : ByteArray) = X at *
  generalize afterV (afterV (afterV (x : Int) 2 (y : Int)) 3 (y : Int)) 2 (x : Int) = V4 at *
  generalize afterV (afterV (x : Int) 2 (y : Int)) 3 (y : Int) = K at *
  generalize afterV (x : Int) 2 (y : Int) = D at *
  clear f1 f6 f7 fb small sx sy s2 s3
  replace TX := hide TX
  replace RX := hide RX
  replace AD := hide AD
  replace TK := hide TK
  replace R9 := hide R9
  replace A1 := hide A1
  replace A2 := hide A2
  replace A3 := hide A3
  replace A4 := hide A4
  replace S4 := hide S4
  replace OK := hide OK
  refine (unhide TX w1 (unhide B1)).mono ?_
  rintro e w2 ⟨rfl, hb2⟩
  have B2 := hide ((unhide B1).trans (hb2.mono (unhide B1).size))
  clear hb2
  go_wp2_with fail
  refine (unhide RX w2 (unhide B2)).mono ?_
  rintro e w3 ⟨rfl, hb3⟩
  have B3 := hide ((unhide B2).trans (hb3.mono (unhide B2).size))
  clear hb3
  go_wp2_with fail
  refine (unhide AD w3 (unhide B3)).mono ?_
  rintro e w4 ⟨rfl, hb4⟩
  have B4 := hide ((unhide B3).trans (hb4.mono (unhide B3).size))
  clear hb4
  go_wp2_with fail
  refine (unhide TK w4 (unhide B4)).mono ?_
  rintro e w5 ⟨rfl, hb5⟩
  have B5 := hide ((unhide B4).trans (hb5.mono (unhide B4).size))
  clear hb5
  go_wp2_with fail
  refine (unhide R9 w5 (unhide B5)).mono ?_
  rintro e w6 ⟨rfl, hb6⟩
  have B6 := hide ((unhide B5).trans (hb6.mono (unhide B5).size))
  clear hb6
  go_wp2_with fail
  refine (unhide DA w6 (unhide B6)).mono ?_
  rintro e w7 ⟨z, h, u, rfl, rz, rh, ru, hb7⟩
  have B7 := hide ((unhide B6).trans (hb7.mono (unhide B6).size))
  clear hb7
  have PA := hide (fun W hb => (unhide CC).after z h u W rz rh ru hb)
  have SA := hide (fun W => spec_FlagsAfter_any z h u W)
  clear rz rh ru
  generalize afterV z h u = AZ at *
  go_wp2_with fail
  refine (unhide DR w7 (unhide B7)).mono ?_
  rintro e w8 ⟨t, rfl, ht, hb8⟩
  have B8 := hide ((unhide B7).trans (hb8.mono (unhide B7).size))
  clear hb8
  have PR := hide (fun W hb => (unhide CC).read t W ht hb)
  have SR := hide (fun W => spec_ReadFlags_any t W ht)
  clear ht
  generalize readF t.data.toList = RT at *
  obtain ⟨r1, r2⟩ := RT
  simp only at PR SR
  go_wp2_with fail
  refine (unhide PR w8 (unhide B8)).mono ?_
  rintro e w9 ⟨rfl, hb9⟩
  have B9 := hide ((unhide B8).trans (hb9.mono (unhide B8).size))
  clear hb9
  go_wp2_with fail
  refine (unhide SR w9).mono ?_
  rintro e w10 ⟨rfl, hb10⟩
  have B10 := hide ((unhide B9).trans (hb10.mono (unhide B9).size))
  clear hb10
  go_wp2_with fail
  refine (unhide A1 w10 (unhide B10)).mono ?_
  rintro e w11 ⟨rfl, hb11⟩
  have B11 := hide ((unhide B10).trans (hb11.mono (unhide B10).size))
  clear hb11
  go_wp2_with fail
  refine (unhide A2 w11 (unhide B11)).mono ?_
  rintro e w12 ⟨rfl, hb12⟩
  have B12 := hide ((unhide B11).trans (hb12.mono (unhide B11).size))
  clear hb12
  go_wp2_with fail
  refine (unhide A3 w12 (unhide B12)).mono ?_
  rintro e w13 ⟨rfl, hb13⟩
  have B13 := hide ((unhide B12).trans (hb13.mono (unhide B12).size))
  clear hb13
  go_wp2_with fail
  refine (unhide A4 w13 (unhide B13)).mono ?_
  rintro e w14 ⟨rfl, hb14⟩
  have B14 := hide ((unhide B13).trans (hb14.mono (unhide B13).size))
  clear hb14
  go_wp2_with fail
  refine (unhide S4 w14).mono ?_
  rintro e wq ⟨rfl, hwq⟩
  subst wq
  go_wp2_with fail
  refine (unhide PA w14 (unhide B14)).mono ?_
  rintro e w15 ⟨rfl, hb15⟩
  have B15 := hide ((unhide B14).trans (hb15.mono (unhide B14).size))
  clear hb15
  go_wp2_with fail
  refine (unhide SA w15).mono ?_
  rintro e wq ⟨rfl, hwq⟩
  subst wq
  go_wp2_with fail
  refine (unhide OK w15 (unhide B15)).mono ?_
  rintro e w16 ⟨rfl, hb16⟩
  have B16 := hide ((unhide B15).trans (hb16.mono (unhide B15).size))
  clear hb16
  go_wp2
  go_ret
  exact ⟨rfl, unhide B16⟩
end Go.Proofs.YtanapiaobpoebaaDoor
