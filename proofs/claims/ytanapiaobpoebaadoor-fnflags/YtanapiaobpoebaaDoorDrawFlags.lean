/- The draws of FnFlags. -/
import Derived.Test.YtanapiaobpoebaaDoorDrawKit
import Derived.Test.YtanapiaobpoebaaDoorFlagAll
namespace Go.Proofs.YtanapiaobpoebaaDoor
open Go.RowKit
open Plain
set_option linter.unusedVariables false
set_option linter.unusedSimpArgs false

set_option maxHeartbeats 2000000 in
set_option maxRecDepth 100000 in
theorem DrawFlagsAfter_any (B len cap : Nat) (a : Option Addr) (w : World) (ha : Arg B w a len) (hB : B ≤ w.heap.size) :
    Calls Tryd.prog 12 #[.slice a len cap] w fun e w' => ∃ z h u : Int, e = .returned (.tuple #[.int .i64 z, .int .i64 h, .int .i64 u]) ∧ i64R z ∧ i64R h ∧ i64R u ∧ Below w.heap.size w w' := by
  have q1 := hide (l01New_any B len cap a w ha hB)
  clear ha
  go_enter Tryd.func12, Tryd.ntmps12
  go_wp2_with fail
  refine (unhide q1).mono ?_
  rintro e w1 ⟨rfl, hc1, hg1⟩
  have C1 : Hid (FC B w.heap.size w w1) := ⟨hc1, g_below hg1, Nat.le_refl _⟩
  clear q1 hg1 hc1
  go_wp2_with fail
  refine (placeF_any B w.heap.size 32 w1 (unhide C1).cur (by omega) (by omega)).mono ?_
  rintro e w2 ⟨z, z0, z1, rfl, hc2, hg2⟩
  have C2 := hide ((unhide C1).call hg2 hc2)
  clear hc2 hg2 C1
  go_wp2_with fail
  refine (placeF_any B w.heap.size 4 w2 (unhide C2).cur (by omega) (by omega)).mono ?_
  rintro e w3 ⟨h, h0, h1, rfl, hc3, hg3⟩
  have C3 := hide ((unhide C2).call hg3 hc3)
  clear hc3 hg3 C2
  go_wp2_with fail
  refine (placeF_any B w.heap.size 32 w3 (unhide C3).cur (by omega) (by omega)).mono ?_
  rintro e w4 ⟨u, u0, u1, rfl, hc4, hg4⟩
  have C4 := hide ((unhide C3).call hg4 hc4)
  clear hc4 hg4 C3
  go_wp2
  go_ret3
  exact ⟨z, h, u, rfl, ⟨z0, z1⟩, ⟨h0, h1⟩, ⟨u0, u1⟩, (unhide C4).below⟩

set_option maxHeartbeats 2000000 in
set_option maxRecDepth 100000 in
theorem DrawReadFlags_any (B len cap : Nat) (a : Option Addr) (w : World) (ha : Arg B w a len) (hB : B ≤ w.heap.size) :
    Calls Tryd.prog 13 #[.slice a len cap] w fun e w' => ∃ t : ByteArray, e = .returned (.string t) ∧ t.size ≤ 1048576 ∧ Below w.heap.size w w' := by
  have q1 := hide (l01New_any B len cap a w ha hB)
  clear ha
  go_enter Tryd.func13, Tryd.ntmps13
  go_wp2_with fail
  refine (unhide q1).mono ?_
  rintro e w1 ⟨rfl, hc1, hg1⟩
  have C1 : Hid (FC B w.heap.size w w1) := ⟨hc1, g_below hg1, Nat.le_refl _⟩
  clear q1 hg1 hc1
  go_wp2_with fail
  refine (l01Below_any B w.heap.size 32 w1 (unhide C1).cur (by omega) (by omega)).mono ?_
  rintro e w2 ⟨k, hk, rfl, hc2, hg2⟩
  have C2 := hide ((unhide C1).call hg2 hc2)
  clear hc2 hg2 C1
  go_wp2_with fail
  refine (flag_str [⟨#[40, 41]⟩, ⟨#[40, 115, 101, 101, 110, 41]⟩, ⟨#[40, 68, 101, 108, 101, 116, 101, 100, 32, 83, 69, 69, 78, 41]⟩, ⟨#[40, 115, 101, 101, 110, 32, 115, 101, 101, 110, 41]⟩, ⟨#[40, 32, 115, 101, 101, 110, 41]⟩, ⟨#[40, 115, 101, 101, 110, 32, 41]⟩, ⟨#[115, 101, 101, 110]⟩, ⟨#[]⟩, ⟨#[40]⟩, ⟨#[40, 119, 104, 97, 116, 41]⟩, ⟨#[40, 100, 114, 97, 102, 116, 32, 32, 115, 101, 101, 110, 41]⟩] B w.heap.size w2 (unhide C2).cur (by decide) (by decide)).mono ?_
  rintro e w3 ⟨more, hmo, rfl, hc3, hg3⟩
  have C3 := hide ((unhide C2).call hg3 hc3)
  have l2 : more.size ≤ 20 := by
    have : ∀ z ∈ ([⟨#[40, 41]⟩, ⟨#[40, 115, 101, 101, 110, 41]⟩, ⟨#[40, 68, 101, 108, 101, 116, 101, 100, 32, 83, 69, 69, 78, 41]⟩, ⟨#[40, 115, 101, 101, 110, 32, 115, 101, 101, 110, 41]⟩, ⟨#[40, 32, 115, 101, 101, 110, 41]⟩, ⟨#[40, 115, 101, 101, 110, 32, 41]⟩, ⟨#[115, 101, 101, 110]⟩, ⟨#[]⟩, ⟨#[40]⟩, ⟨#[40, 119, 104, 97, 116, 41]⟩, ⟨#[40, 100, 114, 97, 102, 116, 32, 32, 115, 101, 101, 110, 41]⟩] : List ByteArray), z.size ≤ 20 := by decide
    exact this _ hmo
  clear hc3 hg3 C2 hmo
  go_wp2_with fail
  refine (l01Once_any B w.heap.size 3 w3 (unhide C3).cur (by omega) (by omega)).mono ?_
  rintro e w4 ⟨bb, rfl, hc4, hg4⟩
  have C4 := hide ((unhide C3).call hg4 hc4)
  clear hc4 hg4 C3
  cases bb with
  | true =>
    go_wp2
    go_ret
    exact ⟨more, rfl, by omega, (unhide C4).below⟩
  | false =>
    go_wp2_with fail
    refine (spec_FlagsText_any (k : Int) w4).mono ?_
    rintro e w5 ⟨rfl, hb5⟩
    have B5 := hide ((unhide C4).below.trans (hb5.mono (unhide C4).below.size))
    have hts : (⟨(flagsL (k : Int)).toArray⟩ : ByteArray).size ≤ 60 := by
      show (flagsL (k : Int)).toArray.size ≤ 60
      have := flTo_len (k : Int) 5 (by omega)
      unfold flagsL
      split
      · simp; omega
      · simp
    generalize (⟨(flagsL (k : Int)).toArray⟩ : ByteArray) = T at *
    clear hb5 C4
    go_wp2
    go_ret
    exact ⟨T, rfl, by omega, unhide B5⟩
end Go.Proofs.YtanapiaobpoebaaDoor
