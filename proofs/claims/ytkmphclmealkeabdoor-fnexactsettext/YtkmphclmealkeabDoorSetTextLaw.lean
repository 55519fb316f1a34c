/- The walk of the exact law on SetText: over whatever contract of the program's own function. -/
import Derived.Test.YtkmphclmealkeabDoorRangeMarks
import Derived.Test.YtkmphclmealkeabDoorSetText
namespace Go.Proofs.YtkmphclmealkeabDoor
open Go.RowKit
open Plain
set_option linter.unusedVariables false

set_option maxHeartbeats 8000000 in
set_option maxRecDepth 100000 in
theorem FnExactSetText_walk (a0 : Option Addr) (cap0 : Nat) (l0 : List Rg) (w : World) (m0 : l0.length ≤ maxLen) (h0 : ArgR w.heap.size w a0 l0) (CI : ∀ (s : List Rg) (v : Value) (B : Nat) (W : World), s.length ≤ 1048576 → OwnR B W v s → Below w.heap.size w W → Calls Tryd.prog 7 #[v] W fun e w' => e = .returned (.string ⟨(setTextL s).toArray⟩) ∧ Below W.heap.size W w') :
    Calls Tryd.prog 3 #[.slice a0 l0.length cap0] w fun e w' => e = .returned (.bool true) ∧ Below w.heap.size w w' := by
  have HA := hide h0
  clear h0
  have BB := hide (Below.refl w.heap.size w)
  go_enter Tryd.func3, Tryd.ntmps3
  go_wp2_with fail
  refine (szRangeS_any a0 cap0 l0.length 1048576 w (Nat.le_refl _) m0).mono ?_
  rintro e w0 ⟨⟨m, rfl, hmm⟩, hw0⟩
  subst w0
  rcases hmm with rfl | ⟨q, rfl, hq, hs0⟩
  · go_wp2
    go_ret
    exact ⟨rfl, unhide BB⟩
  have CI := hide CI
  go_wp2_with fail
  refine (toRangeS_any a0 cap0 l0 w hs0 ((unhide HA).up (unhide BB))).mono ?_
  rintro e w1 ⟨v1, rfl, own1, hb1⟩
  have z1 : w.heap.size ≤ w1.heap.size := hb1.size
  replace BB := hide ((unhide BB).trans (hb1.mono (by show w.heap.size ≤ w.heap.size; omega)))
  clear hb1
  have O1 := hide own1
  have RO1 := hide (World.ownsRow.lt (unhide O1))
  clear own1
  go_wp2_with fail
  refine (spec_SetText_any l0 _ w1 hs0 (OwnR.read (unhide O1))).mono ?_
  rintro e w2 ⟨rfl, hb2⟩
  replace O1 := hide (g_stays (w := w1) (unhide O1) hb2)
  have z2 : w1.heap.size ≤ w2.heap.size := hb2.size
  replace BB := hide ((unhide BB).trans (hb2.mono (by show w.heap.size ≤ w1.heap.size; omega)))
  clear hb2
  clear O1 RO1
  go_wp2_with fail
  refine (toRangeS_any a0 cap0 l0 w2 hs0 ((unhide HA).up (unhide BB))).mono ?_
  rintro e w3 ⟨v3, rfl, own3, hb3⟩
  have z3 : w2.heap.size ≤ w3.heap.size := hb3.size
  replace BB := hide ((unhide BB).trans (hb3.mono (by show w.heap.size ≤ w2.heap.size; omega)))
  clear hb3
  have O3 := hide own3
  have RO3 := hide (World.ownsRow.lt (unhide O3))
  clear own3
  go_wp2_with fail
  refine (unhide CI l0 _ _ w3 hs0 (unhide O3) (unhide BB)).mono ?_
  rintro e w4 ⟨rfl, hb4⟩
  replace O3 := hide (g_stays (w := w3) (unhide O3) hb4)
  have z4 : w3.heap.size ≤ w4.heap.size := hb4.size
  replace BB := hide ((unhide BB).trans (hb4.mono (by show w.heap.size ≤ w3.heap.size; omega)))
  clear hb4
  go_wp2_with fail
  refine (toRangeS_any a0 cap0 l0 w4 hs0 ((unhide HA).up (unhide BB))).mono ?_
  rintro e w5 ⟨v5, rfl, own5, hb5⟩
  replace O3 := hide (g_stays (w := w4) (unhide O3) hb5)
  have z5 : w4.heap.size ≤ w5.heap.size := hb5.size
  replace BB := hide ((unhide BB).trans (hb5.mono (by show w.heap.size ≤ w4.heap.size; omega)))
  clear hb5
  have O5 := hide own5
  have RO5 := hide (World.ownsRow.lt (unhide O5))
  clear own5
  go_wp2_with fail
  refine (eqRangeS_same l0 _ _ _ _ w5 hs0 (unhide O3) (unhide O5)).mono ?_
  rintro e w6 ⟨rfl, hb6⟩
  replace O3 := hide (g_stays (w := w5) (unhide O3) hb6)
  replace O5 := hide (g_stays (w := w5) (unhide O5) hb6)
  have z6 : w5.heap.size ≤ w6.heap.size := hb6.size
  replace BB := hide ((unhide BB).trans (hb6.mono (by show w.heap.size ≤ w5.heap.size; omega)))
  clear hb6
  go_wp2
  go_ret
  exact ⟨rfl, unhide BB⟩

end Go.Proofs.YtkmphclmealkeabDoor
