/- The walks of the exact laws on sets: over whatever contract of the program's own function. -/
import Derived.Test.YtkmphclmealkeaaRangeMarks
import Derived.Test.YtkmphclmealkeaaSetPut
import Derived.Test.YtkmphclmealkeaaSetTwo
namespace Go.Proofs.Ytkmphclmealkeaa
open Go.RowKit
open Plain
set_option linter.unusedVariables false

theorem putV_len {s : List Rg} {lo hi : Int} {c : Bool} (hs : s.length ≤ 1048576) : (putV s lo hi c).1.length ≤ 1048576 := by
  unfold putV
  split
  · split
    · have := runs_len (putB s lo hi c) 9999
      show (runsTo _ 9999).length ≤ _
      omega
    · exact hs
  · exact hs
theorem setV_len (f : Nat → Bool) : (setV f).1.length ≤ 1048576 := by
  unfold setV
  split
  · have := runs_len f 9999
    show (runsTo _ 9999).length ≤ _
    omega
  · exact Nat.zero_le _
theorem twoV_len {a b : List Rg} {both : Bool} : (twoV a b both).1.length ≤ 1048576 := by
  unfold twoV
  split
  · exact setV_len _
  · exact Nat.zero_le _

set_option maxHeartbeats 8000000 in
set_option maxRecDepth 100000 in
theorem FnExactSetOk_walk (a0 : Option Addr) (cap0 : Nat) (l0 : List Rg) (w : World) (m0 : l0.length ≤ maxLen) (h0 : ArgR w.heap.size w a0 l0) (CI : ∀ (s : List Rg) (v : Value) (B : Nat) (W : World), s.length ≤ 1048576 → OwnR B W v s → Below w.heap.size w W → Calls Try.prog 14 #[v] W fun e w' => e = .returned (.bool (okS s)) ∧ Below W.heap.size W w') :
    Calls Try.prog 5 #[.slice a0 l0.length cap0] w fun e w' => e = .returned (.bool true) ∧ Below w.heap.size w w' := by
  have HA := hide h0
  clear h0
  have BB := hide (Below.refl w.heap.size w)
  go_enter Try.func5, Try.ntmps5
  go_wp2_with fail
  refine (szRangeS_any a0 cap0 l0.length 1048576 w (Nat.le_refl _) m0).mono ?_
  rintro e w0 ⟨⟨m, rfl, hmm⟩, hw0⟩
  subst w0
  rcases hmm with rfl | ⟨q, rfl, hq, hs0⟩
  · go_wp2
    go_ret
    exact ⟨rfl, unhide BB⟩
  have CI := hide CI
  go_wp2_with fail
  refine (toRangeS_any a0 cap0 l0 w hs0 ((unhide HA).up (unhide BB))).mono ?_
  rintro e w1 ⟨v1, rfl, own1, hb1⟩
  have z1 : w.heap.size ≤ w1.heap.size := hb1.size
  replace BB := hide ((unhide BB).trans (hb1.mono (by show w.heap.size ≤ w.heap.size; omega)))
  clear hb1
  have O1 := hide own1
  have RO1 := hide (World.ownsRow.lt (unhide O1))
  clear own1
  go_wp2_with fail
  refine (spec_SetOk_any l0 _ w1 hs0 (unhide O1).read).mono ?_
  rintro e wz ⟨rfl, qz, rfl⟩
  replace BB := hide (below_drewN (unhide BB) qz)
  have zz : w1.heap.size ≤ (w1.drewN qz).heap.size := Nat.le_refl _
  clear O1 RO1
  go_wp2_with fail
  refine (toRangeS_any a0 cap0 l0 (w1.drewN qz) hs0 ((unhide HA).up (unhide BB))).mono ?_
  rintro e w2 ⟨v2, rfl, own2, hb2⟩
  have z2 : (w1.drewN qz).heap.size ≤ w2.heap.size := hb2.size
  replace BB := hide ((unhide BB).trans (hb2.mono (by show w.heap.size ≤ (w1.drewN qz).heap.size; omega)))
  clear hb2
  have O2 := hide own2
  have RO2 := hide (World.ownsRow.lt (unhide O2))
  clear own2
  go_wp2_with fail
  refine (unhide CI l0 _ _ w2 hs0 (unhide O2) (unhide BB)).mono ?_
  rintro e w3 ⟨rfl, hb3⟩
  replace O2 := hide (g_stays (w := w2) (unhide O2) hb3)
  have z3 : w2.heap.size ≤ w3.heap.size := hb3.size
  replace BB := hide ((unhide BB).trans (hb3.mono (by show w.heap.size ≤ w2.heap.size; omega)))
  clear hb3
  go_wp2_with fail
  refine (toRangeS_any a0 cap0 l0 w3 hs0 ((unhide HA).up (unhide BB))).mono ?_
  rintro e w4 ⟨v4, rfl, own4, hb4⟩
  replace O2 := hide (g_stays (w := w3) (unhide O2) hb4)
  have z4 : w3.heap.size ≤ w4.heap.size := hb4.size
  replace BB := hide ((unhide BB).trans (hb4.mono (by show w.heap.size ≤ w3.heap.size; omega)))
  clear hb4
  have O4 := hide own4
  have RO4 := hide (World.ownsRow.lt (unhide O4))
  clear own4
  go_wp2_with fail
  refine (eqRangeS_same l0 _ _ _ _ w4 hs0 (unhide O2) (unhide O4)).mono ?_
  rintro e w5 ⟨rfl, hb5⟩
  replace O2 := hide (g_stays (w := w4) (unhide O2) hb5)
  replace O4 := hide (g_stays (w := w4) (unhide O4) hb5)
  have z5 : w4.heap.size ≤ w5.heap.size := hb5.size
  replace BB := hide ((unhide BB).trans (hb5.mono (by show w.heap.size ≤ w4.heap.size; omega)))
  clear hb5
  go_wp2
  go_ret
  exact ⟨rfl, unhide BB⟩

set_option maxHeartbeats 8000000 in
set_option maxRecDepth 100000 in
theorem FnExactSetHas_walk (a0 : Option Addr) (cap0 : Nat) (l0 : List Rg) (n1 : Int) (w : World) (m0 : l0.length ≤ maxLen) (h0 : ArgR w.heap.size w a0 l0) (CI : ∀ (s : List Rg) (v : Value) (B : Nat) (W : World), s.length ≤ 1048576 → OwnR B W v s → Below w.heap.size w W → Calls Try.prog 13 #[v, .int .i64 n1] W fun e w' => e = .returned (.bool (hasB s n1)) ∧ Below W.heap.size W w') :
    Calls Try.prog 6 #[.slice a0 l0.length cap0, .int .i64 n1] w fun e w' => e = .returned (.bool true) ∧ Below w.heap.size w w' := by
  have HA := hide h0
  clear h0
  have BB := hide (Below.refl w.heap.size w)
  go_enter Try.func6, Try.ntmps6
  go_wp2_with fail
  refine (szRangeS_any a0 cap0 l0.length 1048576 w (Nat.le_refl _) m0).mono ?_
  rintro e w0 ⟨⟨m, rfl, hmm⟩, hw0⟩
  subst w0
  rcases hmm with rfl | ⟨q, rfl, hq, hs0⟩
  · go_wp2
    go_ret
    exact ⟨rfl, unhide BB⟩
  have CI := hide CI
  go_wp2_with fail
  refine (toRangeS_any a0 cap0 l0 w hs0 ((unhide HA).up (unhide BB))).mono ?_
  rintro e w1 ⟨v1, rfl, own1, hb1⟩
  have z1 : w.heap.size ≤ w1.heap.size := hb1.size
  replace BB := hide ((unhide BB).trans (hb1.mono (by show w.heap.size ≤ w.heap.size; omega)))
  clear hb1
  have O1 := hide own1
  have RO1 := hide (World.ownsRow.lt (unhide O1))
  clear own1
  go_wp2_with fail
  refine (spec_SetHas_any l0 n1 _ w1 hs0 (OwnR.read (unhide O1))).mono ?_
  rintro e wz ⟨rfl, hwz⟩
  subst wz
  clear O1 RO1
  go_wp2_with fail
  refine (toRangeS_any a0 cap0 l0 w1 hs0 ((unhide HA).up (unhide BB))).mono ?_
  rintro e w2 ⟨v2, rfl, own2, hb2⟩
  have z2 : w1.heap.size ≤ w2.heap.size := hb2.size
  replace BB := hide ((unhide BB).trans (hb2.mono (by show w.heap.size ≤ w1.heap.size; omega)))
  clear hb2
  have O2 := hide own2
  have RO2 := hide (World.ownsRow.lt (unhide O2))
  clear own2
  go_wp2_with fail
  refine (unhide CI l0 _ _ w2 hs0 (unhide O2) (unhide BB)).mono ?_
  rintro e w3 ⟨rfl, hb3⟩
  replace O2 := hide (g_stays (w := w2) (unhide O2) hb3)
  have z3 : w2.heap.size ≤ w3.heap.size := hb3.size
  replace BB := hide ((unhide BB).trans (hb3.mono (by show w.heap.size ≤ w2.heap.size; omega)))
  clear hb3
  go_wp2_with fail
  refine (toRangeS_any a0 cap0 l0 w3 hs0 ((unhide HA).up (unhide BB))).mono ?_
  rintro e w4 ⟨v4, rfl, own4, hb4⟩
  replace O2 := hide (g_stays (w := w3) (unhide O2) hb4)
  have z4 : w3.heap.size ≤ w4.heap.size := hb4.size
  replace BB := hide ((unhide BB).trans (hb4.mono (by show w.heap.size ≤ w3.heap.size; omega)))
  clear hb4
  have O4 := hide own4
  have RO4 := hide (World.ownsRow.lt (unhide O4))
  clear own4
  go_wp2_with fail
  refine (eqRangeS_same l0 _ _ _ _ w4 hs0 (unhide O2) (unhide O4)).mono ?_
  rintro e w5 ⟨rfl, hb5⟩
  replace O2 := hide (g_stays (w := w4) (unhide O2) hb5)
  replace O4 := hide (g_stays (w := w4) (unhide O4) hb5)
  have z5 : w4.heap.size ≤ w5.heap.size := hb5.size
  replace BB := hide ((unhide BB).trans (hb5.mono (by show w.heap.size ≤ w4.heap.size; omega)))
  clear hb5
  go_wp2
  go_ret
  exact ⟨rfl, unhide BB⟩

end Go.Proofs.Ytkmphclmealkeaa
