/- The walk of the exact law on ReadSet: over whatever contract of the program's own function. -/
import Derived.Test.YtkmphclmealkeacDoorRangeMarks
import Derived.Test.YtkmphclmealkeacDoorReadSetW
namespace Go.Proofs.YtkmphclmealkeacDoor
open Go.RowKit
open Plain
set_option linter.unusedVariables false

theorem readV_len (l : List UInt8) (last : Int) : (readV l last).1.length ≤ 1048576 := by
  unfold readV
  split
  · unfold setV
    split
    · have := runs_len (marksV (cutsL 44 l) last) 9999
      show (runsTo _ 9999).length ≤ _
      omega
    · exact Nat.zero_le _
  · exact Nat.zero_le _

set_option maxHeartbeats 8000000 in
set_option maxRecDepth 100000 in
theorem FnExactReadSet_walk (s0 : ByteArray) (n1 : Int) (w : World) (m0 : s0.size ≤ maxLen) (CI : s0.size ≤ 1048576 → ∀ (W : World), Below w.heap.size w W → Calls Tryd.prog 5 #[.string s0, .int .i64 n1] W fun e w' => ∃ v', e = .returned (.tuple #[v', .bool (readV s0.data.toList n1).2]) ∧ OwnR W.heap.size w' v' (readV s0.data.toList n1).1 ∧ Below W.heap.size W w') :
    Calls Tryd.prog 3 #[.string s0, .int .i64 n1] w fun e w' => e = .returned (.bool true) ∧ Below w.heap.size w w' := by
  unfold maxLen at m0
  have BB := hide (Below.refl w.heap.size w)
  by_cases hs0 : s0.size ≤ 1048576
  · have CI := hide (CI hs0)
    have hal : (readV s0.data.toList n1).1.length ≤ 1048576 := readV_len _ _
    have CS := hide (fun (W : World) => spec_ReadSet_any s0 n1 W hs0)
    generalize (readV s0.data.toList n1).1 = ans at CS CI hal
    generalize (readV s0.data.toList n1).2 = d at CS CI
    go_enter Tryd.func3, Tryd.ntmps3
    go_wp2_with fail
    refine (unhide CS w).mono ?_
    rintro e w1 ⟨v1, rfl, own1, hb1⟩
    have z1 : w.heap.size ≤ w1.heap.size := hb1.size
    replace BB := hide ((unhide BB).trans (hb1.mono (by show w.heap.size ≤ w.heap.size; omega)))
    clear hb1
    have O1 := hide own1
    have RO1 := hide (World.ownsRow.lt (unhide O1))
    clear own1
    go_wp2_with fail
    refine (unhide CI w1 (unhide BB)).mono ?_
    rintro e w2 ⟨v2, rfl, own2, hb2⟩
    replace O1 := hide (g_stays (w := w1) (unhide O1) hb2)
    have z2 : w1.heap.size ≤ w2.heap.size := hb2.size
    replace BB := hide ((unhide BB).trans (hb2.mono (by show w.heap.size ≤ w1.heap.size; omega)))
    clear hb2
    have O2 := hide own2
    have RO2 := hide (World.ownsRow.lt (unhide O2))
    clear own2
    go_wp2_with fail
    refine (eqRangeS_same ans _ _ _ _ w2 hal (unhide O2) (unhide O1)).mono ?_
    rintro e w3 ⟨rfl, hb3⟩
    replace O1 := hide (g_stays (w := w2) (unhide O1) hb3)
    replace O2 := hide (g_stays (w := w2) (unhide O2) hb3)
    have z3 : w2.heap.size ≤ w3.heap.size := hb3.size
    replace BB := hide ((unhide BB).trans (hb3.mono (by show w.heap.size ≤ w2.heap.size; omega)))
    clear hb3
    go_wp2_with fail
    refine (markRangeS_any ans _ _ 1 w3 hal (by omega) (unhide O2)).mono ?_
    rintro e w4 ⟨rfl, ownm4, hg4⟩
    replace O1 := hide (g_aside (unhide O1) hg4 (fun k hk h => by have a1 := unhide RO1 k h; have a2 := unhide RO2 k hk; omega))
    have z4 : w3.heap.size ≤ w4.heap.size := hg4.size
    replace BB := hide ((unhide BB).grown hg4 (by show w.heap.size ≤ w3.heap.size; omega) (fun k hk => by have a2 := unhide RO2 k hk; omega))
    clear hg4
    have OM := hide ownm4
    clear ownm4
    have CH := hide (fun v B wx h => heldRangeS_any ans.length v B 1 wx hal (by omega) h)
    obtain ⟨K4, hK4⟩ : ∃ K, K = 1 + ans.length * 2 := ⟨_, rfl⟩
    rw [← hK4] at CH ⊢
    clear hK4
    go_wp2_with fail
    refine (unhide CH _ _ w4 (unhide OM)).mono ?_
    rintro e wy ⟨rfl, hwy⟩
    subst wy
    go_wp2_with fail
    refine (unhide CI w4 (unhide BB)).mono ?_
    rintro e w5 ⟨v5, rfl, own5, hb5⟩
    replace O1 := hide (g_stays (w := w4) (unhide O1) hb5)
    replace OM := hide (g_stays (w := w4) (unhide OM) hb5)
    have z5 : w4.heap.size ≤ w5.heap.size := hb5.size
    replace BB := hide ((unhide BB).trans (hb5.mono (by show w.heap.size ≤ w4.heap.size; omega)))
    clear hb5
    have O5 := hide own5
    have RO5 := hide (World.ownsRow.lt (unhide O5))
    clear own5
    go_wp2_with fail
    refine (eqRangeS_same ans _ _ _ _ w5 hal (unhide O5) (unhide O1)).mono ?_
    rintro e w6 ⟨rfl, hb6⟩
    replace O1 := hide (g_stays (w := w5) (unhide O1) hb6)
    replace OM := hide (g_stays (w := w5) (unhide OM) hb6)
    replace O5 := hide (g_stays (w := w5) (unhide O5) hb6)
    have z6 : w5.heap.size ≤ w6.heap.size := hb6.size
    replace BB := hide ((unhide BB).trans (hb6.mono (by show w.heap.size ≤ w5.heap.size; omega)))
    clear hb6
    clear O5 RO5
    go_wp2_with fail
    refine (unhide CH _ _ w6 (unhide OM)).mono ?_
    rintro e wy ⟨rfl, hwy⟩
    subst wy
    go_wp2
    go_ret
    exact ⟨rfl, unhide BB⟩
  · go_enter Tryd.func3, Tryd.ntmps3
    go_wp2
    go_ret
    exact ⟨rfl, unhide BB⟩
end Go.Proofs.YtkmphclmealkeacDoor
