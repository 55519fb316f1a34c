/- The walks of the exact laws on sets: over whatever contract of the program's own function. -/
import Derived.Test.YtkmphclmealkeabRangeMarks
import Derived.Test.YtkmphclmealkeabSetPut
import Derived.Test.YtkmphclmealkeabSetTwo
namespace Go.Proofs.Ytkmphclmealkeab
open Go.RowKit
open Plain
set_option linter.unusedVariables false

theorem putV_len {s : List Rg} {lo hi : Int} {c : Bool} (hs : s.length ≤ 1048576) : (putV s lo hi c).1.length ≤ 1048576 := by
  unfold putV
  split
  · split
    · have := runs_len (putB s lo hi c) 9999
      show (runsTo _ 9999).length ≤ _
      omega
    · exact hs
  · exact hs
theorem setV_len (f : Nat → Bool) : (setV f).1.length ≤ 1048576 := by
  unfold setV
  split
  · have := runs_len f 9999
    show (runsTo _ 9999).length ≤ _
    omega
  · exact Nat.zero_le _
theorem twoV_len {a b : List Rg} {both : Bool} : (twoV a b both).1.length ≤ 1048576 := by
  unfold twoV
  split
  · exact setV_len _
  · exact Nat.zero_le _

set_option maxHeartbeats 8000000 in
set_option maxRecDepth 100000 in
theorem FnExactSetSize_walk (a0 : Option Addr) (cap0 : Nat) (l0 : List Rg) (w : World) (m0 : l0.length ≤ maxLen) (h0 : ArgR w.heap.size w a0 l0) (CI : ∀ (s : List Rg) (v : Value) (B : Nat) (W : World), s.length ≤ 1048576 → OwnR B W v s → Below w.heap.size w W → Calls Try.prog 22 #[v] W fun e w' => e = .returned (.int .i64 (sizeL s)) ∧ Below W.heap.size W w') :
    Calls Try.prog 7 #[.slice a0 l0.length cap0] w fun e w' => e = .returned (.bool true) ∧ Below w.heap.size w w' := by
  have HA := hide h0
  clear h0
  have BB := hide (Below.refl w.heap.size w)
  go_enter Try.func7, Try.ntmps7
  go_wp2_with fail
  refine (szRangeS_any a0 cap0 l0.length 1048576 w (Nat.le_refl _) m0).mono ?_
  rintro e w0 ⟨⟨m, rfl, hmm⟩, hw0⟩
  subst w0
  rcases hmm with rfl | ⟨q, rfl, hq, hs0⟩
  · go_wp2
    go_ret
    exact ⟨rfl, unhide BB⟩
  have CI := hide CI
  go_wp2_with fail
  refine (toRangeS_any a0 cap0 l0 w hs0 ((unhide HA).up (unhide BB))).mono ?_
  rintro e w1 ⟨v1, rfl, own1, hb1⟩
  have z1 : w.heap.size ≤ w1.heap.size := hb1.size
  replace BB := hide ((unhide BB).trans (hb1.mono (by show w.heap.size ≤ w.heap.size; omega)))
  clear hb1
  have O1 := hide own1
  have RO1 := hide (World.ownsRow.lt (unhide O1))
  clear own1
  go_wp2_with fail
  refine (spec_SetSize_any l0 _ w1 hs0 (unhide O1).read).mono ?_
  rintro e wz ⟨rfl, qz, rfl⟩
  replace BB := hide (below_drewN (unhide BB) qz)
  have zz : w1.heap.size ≤ (w1.drewN qz).heap.size := Nat.le_refl _
  clear O1 RO1
  go_wp2_with fail
  refine (toRangeS_any a0 cap0 l0 (w1.drewN qz) hs0 ((unhide HA).up (unhide BB))).mono ?_
  rintro e w2 ⟨v2, rfl, own2, hb2⟩
  have z2 : (w1.drewN qz).heap.size ≤ w2.heap.size := hb2.size
  replace BB := hide ((unhide BB).trans (hb2.mono (by show w.heap.size ≤ (w1.drewN qz).heap.size; omega)))
  clear hb2
  have O2 := hide own2
  have RO2 := hide (World.ownsRow.lt (unhide O2))
  clear own2
  go_wp2_with fail
  refine (unhide CI l0 _ _ w2 hs0 (unhide O2) (unhide BB)).mono ?_
  rintro e w3 ⟨rfl, hb3⟩
  replace O2 := hide (g_stays (w := w2) (unhide O2) hb3)
  have z3 : w2.heap.size ≤ w3.heap.size := hb3.size
  replace BB := hide ((unhide BB).trans (hb3.mono (by show w.heap.size ≤ w2.heap.size; omega)))
  clear hb3
  go_wp2_with fail
  refine (toRangeS_any a0 cap0 l0 w3 hs0 ((unhide HA).up (unhide BB))).mono ?_
  rintro e w4 ⟨v4, rfl, own4, hb4⟩
  replace O2 := hide (g_stays (w := w3) (unhide O2) hb4)
  have z4 : w3.heap.size ≤ w4.heap.size := hb4.size
  replace BB := hide ((unhide BB).trans (hb4.mono (by show w.heap.size ≤ w3.heap.size; omega)))
  clear hb4
  have O4 := hide own4
  have RO4 := hide (World.ownsRow.lt (unhide O4))
  clear own4
  go_wp2_with fail
  refine (eqRangeS_same l0 _ _ _ _ w4 hs0 (unhide O2) (unhide O4)).mono ?_
  rintro e w5 ⟨rfl, hb5⟩
  replace O2 := hide (g_stays (w := w4) (unhide O2) hb5)
  replace O4 := hide (g_stays (w := w4) (unhide O4) hb5)
  have z5 : w4.heap.size ≤ w5.heap.size := hb5.size
  replace BB := hide ((unhide BB).trans (hb5.mono (by show w.heap.size ≤ w4.heap.size; omega)))
  clear hb5
  go_wp2
  go_ret
  exact ⟨rfl, unhide BB⟩

set_option maxHeartbeats 8000000 in
set_option maxRecDepth 100000 in
theorem FnExactSetAdd_walk (a0 : Option Addr) (cap0 : Nat) (l0 : List Rg) (n1 n2 : Int) (w : World) (m0 : l0.length ≤ maxLen) (h0 : ArgR w.heap.size w a0 l0) (CI : (l0.length ≤ 1048576) → ∀ (v0 : Value) (B0 : Nat) (W : World), OwnR B0 W v0 l0 → Below w.heap.size w W → Calls Try.prog 11 #[v0, .int .i64 n1, .int .i64 n2] W fun e w' => ∃ v', e = .returned (.tuple #[v', .bool ((putV l0 n1 n2 true).2)]) ∧ OwnR W.heap.size w' v' ((putV l0 n1 n2 true).1) ∧ Below W.heap.size W w') :
    Calls Try.prog 3 #[.slice a0 l0.length cap0, .int .i64 n1, .int .i64 n2] w fun e w' => e = .returned (.bool true) ∧ Below w.heap.size w w' := by
  have HA := hide h0
  clear h0
  have BB := hide (Below.refl w.heap.size w)
  go_enter Try.func3, Try.ntmps3
  go_wp2_with fail
  refine (szRangeS_any a0 cap0 l0.length 1048576 w (Nat.le_refl _) m0).mono ?_
  rintro e w0 ⟨⟨m, rfl, hmm⟩, hw0⟩
  subst w0
  rcases hmm with rfl | ⟨q, rfl, hq, hs0⟩
  · go_wp2
    go_ret
    exact ⟨rfl, unhide BB⟩
  have CI := hide (CI hs0)
  have hal : ((putV l0 n1 n2 true).1).length ≤ 1048576 := putV_len hs0
  have CS := hide (fun (v0 : Value) (B0 : Nat) (W : World) (g0 : OwnR B0 W v0 l0) => spec_SetAdd_any l0 n1 n2 v0 B0 W hs0 g0)
  generalize (putV l0 n1 n2 true).1 = ans at CS CI hal
  generalize (putV l0 n1 n2 true).2 = d at CS CI
  go_wp2_with fail
  refine (toRangeS_any a0 cap0 l0 w hs0 ((unhide HA).up (unhide BB))).mono ?_
  rintro e w1 ⟨v1, rfl, own1, hb1⟩
  have z1 : w.heap.size ≤ w1.heap.size := hb1.size
  replace BB := hide ((unhide BB).trans (hb1.mono (by show w.heap.size ≤ w.heap.size; omega)))
  clear hb1
  have O1 := hide own1
  have RO1 := hide (World.ownsRow.lt (unhide O1))
  clear own1
  go_wp2_with fail
  refine (unhide CS _ _ w1 (unhide O1)).mono ?_
  rintro e w2 ⟨v2, rfl, own2, hb2⟩
  replace O1 := hide (g_stays (w := w1) (unhide O1) hb2)
  have z2 : w1.heap.size ≤ w2.heap.size := hb2.size
  replace BB := hide ((unhide BB).trans (hb2.mono (by show w.heap.size ≤ w1.heap.size; omega)))
  clear hb2
  have O2 := hide own2
  have RO2 := hide (World.ownsRow.lt (unhide O2))
  clear own2
  clear O1 RO1
  go_wp2_with fail
  refine (toRangeS_any a0 cap0 l0 w2 hs0 ((unhide HA).up (unhide BB))).mono ?_
  rintro e w3 ⟨v3, rfl, own3, hb3⟩
  replace O2 := hide (g_stays (w := w2) (unhide O2) hb3)
  have z3 : w2.heap.size ≤ w3.heap.size := hb3.size
  replace BB := hide ((unhide BB).trans (hb3.mono (by show w.heap.size ≤ w2.heap.size; omega)))
  clear hb3
  have O3 := hide own3
  have RO3 := hide (World.ownsRow.lt (unhide O3))
  clear own3
  go_wp2_with fail
  refine (unhide CI _ _ w3 (unhide O3) (unhide BB)).mono ?_
  rintro e w4 ⟨v4, rfl, own4, hb4⟩
  replace O2 := hide (g_stays (w := w3) (unhide O2) hb4)
  replace O3 := hide (g_stays (w := w3) (unhide O3) hb4)
  have z4 : w3.heap.size ≤ w4.heap.size := hb4.size
  replace BB := hide ((unhide BB).trans (hb4.mono (by show w.heap.size ≤ w3.heap.size; omega)))
  clear hb4
  have O4 := hide own4
  have RO4 := hide (World.ownsRow.lt (unhide O4))
  clear own4
  go_wp2_with fail
  refine (eqRangeS_same ans _ _ _ _ w4 hal (unhide O4) (unhide O2)).mono ?_
  rintro e w5 ⟨rfl, hb5⟩
  replace O2 := hide (g_stays (w := w4) (unhide O2) hb5)
  replace O3 := hide (g_stays (w := w4) (unhide O3) hb5)
  replace O4 := hide (g_stays (w := w4) (unhide O4) hb5)
  have z5 : w4.heap.size ≤ w5.heap.size := hb5.size
  replace BB := hide ((unhide BB).trans (hb5.mono (by show w.heap.size ≤ w4.heap.size; omega)))
  clear hb5
  go_wp2_with fail
  refine (toRangeS_any a0 cap0 l0 w5 hs0 ((unhide HA).up (unhide BB))).mono ?_
  rintro e w6 ⟨v6, rfl, own6, hb6⟩
  replace O2 := hide (g_stays (w := w5) (unhide O2) hb6)
  replace O3 := hide (g_stays (w := w5) (unhide O3) hb6)
  replace O4 := hide (g_stays (w := w5) (unhide O4) hb6)
  have z6 : w5.heap.size ≤ w6.heap.size := hb6.size
  replace BB := hide ((unhide BB).trans (hb6.mono (by show w.heap.size ≤ w5.heap.size; omega)))
  clear hb6
  have O6 := hide own6
  have RO6 := hide (World.ownsRow.lt (unhide O6))
  clear own6
  go_wp2_with fail
  refine (eqRangeS_same l0 _ _ _ _ w6 hs0 (unhide O3) (unhide O6)).mono ?_
  rintro e w7 ⟨rfl, hb7⟩
  replace O2 := hide (g_stays (w := w6) (unhide O2) hb7)
  replace O3 := hide (g_stays (w := w6) (unhide O3) hb7)
  replace O4 := hide (g_stays (w := w6) (unhide O4) hb7)
  replace O6 := hide (g_stays (w := w6) (unhide O6) hb7)
  have z7 : w6.heap.size ≤ w7.heap.size := hb7.size
  replace BB := hide ((unhide BB).trans (hb7.mono (by show w.heap.size ≤ w6.heap.size; omega)))
  clear hb7
  clear O6 RO6
  go_wp2_with fail
  refine (markRangeS_any l0 _ _ 1 w7 hs0 (by omega) (unhide O3)).mono ?_
  rintro e w8 ⟨rfl, ownm8, hg8⟩
  replace O2 := hide (g_aside (unhide O2) hg8 (fun k hk h => by have a1 := unhide RO2 k h; have a2 := unhide RO3 k hk; omega))
  replace O4 := hide (g_aside (unhide O4) hg8 (fun k hk h => by have a1 := unhide RO4 k h; have a2 := unhide RO3 k hk; omega))
  have z8 : w7.heap.size ≤ w8.heap.size := hg8.size
  replace BB := hide ((unhide BB).grown hg8 (by show w.heap.size ≤ w7.heap.size; omega) (fun k hk => by have a2 := unhide RO3 k hk; omega))
  clear hg8
  clear ownm8
  obtain ⟨K0, hK0⟩ : ∃ K, K = 1 + l0.length * 2 := ⟨_, rfl⟩
  rw [← hK0]
  have hKb0 : K0 ≤ 3000000 := by omega
  clear hK0
  go_wp2_with fail
  refine (eqRangeS_same ans _ _ _ _ w8 hal (unhide O4) (unhide O2)).mono ?_
  rintro e w9 ⟨rfl, hb9⟩
  replace O2 := hide (g_stays (w := w8) (unhide O2) hb9)
  replace O4 := hide (g_stays (w := w8) (unhide O4) hb9)
  have z9 : w8.heap.size ≤ w9.heap.size := hb9.size
  replace BB := hide ((unhide BB).trans (hb9.mono (by show w.heap.size ≤ w8.heap.size; omega)))
  clear hb9
  go_wp2_with fail
  refine (markRangeS_any ans _ _ 1 w9 hal (by omega) (unhide O4)).mono ?_
  rintro e w10 ⟨rfl, ownm10, hg10⟩
  replace O2 := hide (g_aside (unhide O2) hg10 (fun k hk h => by have a1 := unhide RO2 k h; have a2 := unhide RO4 k hk; omega))
  have z10 : w9.heap.size ≤ w10.heap.size := hg10.size
  replace BB := hide ((unhide BB).grown hg10 (by show w.heap.size ≤ w9.heap.size; omega) (fun k hk => by have a2 := unhide RO4 k hk; omega))
  clear hg10
  have OM := hide ownm10
  clear ownm10
  have CH := hide (fun v B wx h => heldRangeS_any ans.length v B 1 wx hal (by omega) h)
  obtain ⟨K4, hK4⟩ : ∃ K, K = 1 + ans.length * 2 := ⟨_, rfl⟩
  rw [← hK4] at CH ⊢
  clear hK4
  go_wp2_with fail
  refine (unhide CH _ _ w10 (unhide OM)).mono ?_
  rintro e wy ⟨rfl, hwy⟩
  subst wy
  go_wp2_with fail
  refine (toRangeS_any a0 cap0 l0 w10 hs0 ((unhide HA).up (unhide BB))).mono ?_
  rintro e w11 ⟨v11, rfl, own11, hb11⟩
  replace O2 := hide (g_stays (w := w10) (unhide O2) hb11)
  replace OM := hide (g_stays (w := w10) (unhide OM) hb11)
  have z11 : w10.heap.size ≤ w11.heap.size := hb11.size
  replace BB := hide ((unhide BB).trans (hb11.mono (by show w.heap.size ≤ w10.heap.size; omega)))
  clear hb11
  have O11 := hide own11
  have RO11 := hide (World.ownsRow.lt (unhide O11))
  clear own11
  go_wp2_with fail
  refine (unhide CI _ _ w11 (unhide O11) (unhide BB)).mono ?_
  rintro e w12 ⟨v12, rfl, own12, hb12⟩
  replace O2 := hide (g_stays (w := w11) (unhide O2) hb12)
  replace OM := hide (g_stays (w := w11) (unhide OM) hb12)
  replace O11 := hide (g_stays (w := w11) (unhide O11) hb12)
  have z12 : w11.heap.size ≤ w12.heap.size := hb12.size
  replace BB := hide ((unhide BB).trans (hb12.mono (by show w.heap.size ≤ w11.heap.size; omega)))
  clear hb12
  have O12 := hide own12
  have RO12 := hide (World.ownsRow.lt (unhide O12))
  clear own12
  clear O11 RO11
  go_wp2_with fail
  refine (eqRangeS_same ans _ _ _ _ w12 hal (unhide O12) (unhide O2)).mono ?_
  rintro e w13 ⟨rfl, hb13⟩
  replace O2 := hide (g_stays (w := w12) (unhide O2) hb13)
  replace OM := hide (g_stays (w := w12) (unhide OM) hb13)
  replace O12 := hide (g_stays (w := w12) (unhide O12) hb13)
  have z13 : w12.heap.size ≤ w13.heap.size := hb13.size
  replace BB := hide ((unhide BB).trans (hb13.mono (by show w.heap.size ≤ w12.heap.size; omega)))
  clear hb13
  clear O12 RO12
  go_wp2_with fail
  refine (unhide CH _ _ w13 (unhide OM)).mono ?_
  rintro e wy ⟨rfl, hwy⟩
  subst wy
  go_wp2
  go_ret
  exact ⟨rfl, unhide BB⟩

set_option maxHeartbeats 8000000 in
set_option maxRecDepth 100000 in
theorem FnExactSetDrop_walk (a0 : Option Addr) (cap0 : Nat) (l0 : List Rg) (n1 n2 : Int) (w : World) (m0 : l0.length ≤ maxLen) (h0 : ArgR w.heap.size w a0 l0) (CI : (l0.length ≤ 1048576) → ∀ (v0 : Value) (B0 : Nat) (W : World), OwnR B0 W v0 l0 → Below w.heap.size w W → Calls Try.prog 16 #[v0, .int .i64 n1, .int .i64 n2] W fun e w' => ∃ v', e = .returned (.tuple #[v', .bool ((putV l0 n1 n2 false).2)]) ∧ OwnR W.heap.size w' v' ((putV l0 n1 n2 false).1) ∧ Below W.heap.size W w') :
    Calls Try.prog 4 #[.slice a0 l0.length cap0, .int .i64 n1, .int .i64 n2] w fun e w' => e = .returned (.bool true) ∧ Below w.heap.size w w' := by
  have HA := hide h0
  clear h0
  have BB := hide (Below.refl w.heap.size w)
  go_enter Try.func4, Try.ntmps4
  go_wp2_with fail
  refine (szRangeS_any a0 cap0 l0.length 1048576 w (Nat.le_refl _) m0).mono ?_
  rintro e w0 ⟨⟨m, rfl, hmm⟩, hw0⟩
  subst w0
  rcases hmm with rfl | ⟨q, rfl, hq, hs0⟩
  · go_wp2
    go_ret
    exact ⟨rfl, unhide BB⟩
  have CI := hide (CI hs0)
  have hal : ((putV l0 n1 n2 false).1).length ≤ 1048576 := putV_len hs0
  have CS := hide (fun (v0 : Value) (B0 : Nat) (W : World) (g0 : OwnR B0 W v0 l0) => spec_SetDrop_any l0 n1 n2 v0 B0 W hs0 g0)
  generalize (putV l0 n1 n2 false).1 = ans at CS CI hal
  generalize (putV l0 n1 n2 false).2 = d at CS CI
  go_wp2_with fail
  refine (toRangeS_any a0 cap0 l0 w hs0 ((unhide HA).up (unhide BB))).mono ?_
  rintro e w1 ⟨v1, rfl, own1, hb1⟩
  have z1 : w.heap.size ≤ w1.heap.size := hb1.size
  replace BB := hide ((unhide BB).trans (hb1.mono (by show w.heap.size ≤ w.heap.size; omega)))
  clear hb1
  have O1 := hide own1
  have RO1 := hide (World.ownsRow.lt (unhide O1))
  clear own1
  go_wp2_with fail
  refine (unhide CS _ _ w1 (unhide O1)).mono ?_
  rintro e w2 ⟨v2, rfl, own2, hb2⟩
  replace O1 := hide (g_stays (w := w1) (unhide O1) hb2)
  have z2 : w1.heap.size ≤ w2.heap.size := hb2.size
  replace BB := hide ((unhide BB).trans (hb2.mono (by show w.heap.size ≤ w1.heap.size; omega)))
  clear hb2
  have O2 := hide own2
  have RO2 := hide (World.ownsRow.lt (unhide O2))
  clear own2
  clear O1 RO1
  go_wp2_with fail
  refine (toRangeS_any a0 cap0 l0 w2 hs0 ((unhide HA).up (unhide BB))).mono ?_
  rintro e w3 ⟨v3, rfl, own3, hb3⟩
  replace O2 := hide (g_stays (w := w2) (unhide O2) hb3)
  have z3 : w2.heap.size ≤ w3.heap.size := hb3.size
  replace BB := hide ((unhide BB).trans (hb3.mono (by show w.heap.size ≤ w2.heap.size; omega)))
  clear hb3
  have O3 := hide own3
  have RO3 := hide (World.ownsRow.lt (unhide O3))
  clear own3
  go_wp2_with fail
  refine (unhide CI _ _ w3 (unhide O3) (unhide BB)).mono ?_
  rintro e w4 ⟨v4, rfl, own4, hb4⟩
  replace O2 := hide (g_stays (w := w3) (unhide O2) hb4)
  replace O3 := hide (g_stays (w := w3) (unhide O3) hb4)
  have z4 : w3.heap.size ≤ w4.heap.size := hb4.size
  replace BB := hide ((unhide BB).trans (hb4.mono (by show w.heap.size ≤ w3.heap.size; omega)))
  clear hb4
  have O4 := hide own4
  have RO4 := hide (World.ownsRow.lt (unhide O4))
  clear own4
  go_wp2_with fail
  refine (eqRangeS_same ans _ _ _ _ w4 hal (unhide O4) (unhide O2)).mono ?_
  rintro e w5 ⟨rfl, hb5⟩
  replace O2 := hide (g_stays (w := w4) (unhide O2) hb5)
  replace O3 := hide (g_stays (w := w4) (unhide O3) hb5)
  replace O4 := hide (g_stays (w := w4) (unhide O4) hb5)
  have z5 : w4.heap.size ≤ w5.heap.size := hb5.size
  replace BB := hide ((unhide BB).trans (hb5.mono (by show w.heap.size ≤ w4.heap.size; omega)))
  clear hb5
  go_wp2_with fail
  refine (toRangeS_any a0 cap0 l0 w5 hs0 ((unhide HA).up (unhide BB))).mono ?_
  rintro e w6 ⟨v6, rfl, own6, hb6⟩
  replace O2 := hide (g_stays (w := w5) (unhide O2) hb6)
  replace O3 := hide (g_stays (w := w5) (unhide O3) hb6)
  replace O4 := hide (g_stays (w := w5) (unhide O4) hb6)
  have z6 : w5.heap.size ≤ w6.heap.size := hb6.size
  replace BB := hide ((unhide BB).trans (hb6.mono (by show w.heap.size ≤ w5.heap.size; omega)))
  clear hb6
  have O6 := hide own6
  have RO6 := hide (World.ownsRow.lt (unhide O6))
  clear own6
  go_wp2_with fail
  refine (eqRangeS_same l0 _ _ _ _ w6 hs0 (unhide O3) (unhide O6)).mono ?_
  rintro e w7 ⟨rfl, hb7⟩
  replace O2 := hide (g_stays (w := w6) (unhide O2) hb7)
  replace O3 := hide (g_stays (w := w6) (unhide O3) hb7)
  replace O4 := hide (g_stays (w := w6) (unhide O4) hb7)
  replace O6 := hide (g_stays (w := w6) (unhide O6) hb7)
  have z7 : w6.heap.size ≤ w7.heap.size := hb7.size
  replace BB := hide ((unhide BB).trans (hb7.mono (by show w.heap.size ≤ w6.heap.size; omega)))
  clear hb7
  clear O6 RO6
  go_wp2_with fail
  refine (markRangeS_any l0 _ _ 1 w7 hs0 (by omega) (unhide O3)).mono ?_
  rintro e w8 ⟨rfl, ownm8, hg8⟩
  replace O2 := hide (g_aside (unhide O2) hg8 (fun k hk h => by have a1 := unhide RO2 k h; have a2 := unhide RO3 k hk; omega))
  replace O4 := hide (g_aside (unhide O4) hg8 (fun k hk h => by have a1 := unhide RO4 k h; have a2 := unhide RO3 k hk; omega))
  have z8 : w7.heap.size ≤ w8.heap.size := hg8.size
  replace BB := hide ((unhide BB).grown hg8 (by show w.heap.size ≤ w7.heap.size; omega) (fun k hk => by have a2 := unhide RO3 k hk; omega))
  clear hg8
  clear ownm8
  obtain ⟨K0, hK0⟩ : ∃ K, K = 1 + l0.length * 2 := ⟨_, rfl⟩
  rw [← hK0]
  have hKb0 : K0 ≤ 3000000 := by omega
  clear hK0
  go_wp2_with fail
  refine (eqRangeS_same ans _ _ _ _ w8 hal (unhide O4) (unhide O2)).mono ?_
  rintro e w9 ⟨rfl, hb9⟩
  replace O2 := hide (g_stays (w := w8) (unhide O2) hb9)
  replace O4 := hide (g_stays (w := w8) (unhide O4) hb9)
  have z9 : w8.heap.size ≤ w9.heap.size := hb9.size
  replace BB := hide ((unhide BB).trans (hb9.mono (by show w.heap.size ≤ w8.heap.size; omega)))
  clear hb9
  go_wp2_with fail
  refine (markRangeS_any ans _ _ 1 w9 hal (by omega) (unhide O4)).mono ?_
  rintro e w10 ⟨rfl, ownm10, hg10⟩
  replace O2 := hide (g_aside (unhide O2) hg10 (fun k hk h => by have a1 := unhide RO2 k h; have a2 := unhide RO4 k hk; omega))
  have z10 : w9.heap.size ≤ w10.heap.size := hg10.size
  replace BB := hide ((unhide BB).grown hg10 (by show w.heap.size ≤ w9.heap.size; omega) (fun k hk => by have a2 := unhide RO4 k hk; omega))
  clear hg10
  have OM := hide ownm10
  clear ownm10
  have CH := hide (fun v B wx h => heldRangeS_any ans.length v B 1 wx hal (by omega) h)
  obtain ⟨K4, hK4⟩ : ∃ K, K = 1 + ans.length * 2 := ⟨_, rfl⟩
  rw [← hK4] at CH ⊢
  clear hK4
  go_wp2_with fail
  refine (unhide CH _ _ w10 (unhide OM)).mono ?_
  rintro e wy ⟨rfl, hwy⟩
  subst wy
  go_wp2_with fail
  refine (toRangeS_any a0 cap0 l0 w10 hs0 ((unhide HA).up (unhide BB))).mono ?_
  rintro e w11 ⟨v11, rfl, own11, hb11⟩
  replace O2 := hide (g_stays (w := w10) (unhide O2) hb11)
  replace OM := hide (g_stays (w := w10) (unhide OM) hb11)
  have z11 : w10.heap.size ≤ w11.heap.size := hb11.size
  replace BB := hide ((unhide BB).trans (hb11.mono (by show w.heap.size ≤ w10.heap.size; omega)))
  clear hb11
  have O11 := hide own11
  have RO11 := hide (World.ownsRow.lt (unhide O11))
  clear own11
  go_wp2_with fail
  refine (unhide CI _ _ w11 (unhide O11) (unhide BB)).mono ?_
  rintro e w12 ⟨v12, rfl, own12, hb12⟩
  replace O2 := hide (g_stays (w := w11) (unhide O2) hb12)
  replace OM := hide (g_stays (w := w11) (unhide OM) hb12)
  replace O11 := hide (g_stays (w := w11) (unhide O11) hb12)
  have z12 : w11.heap.size ≤ w12.heap.size := hb12.size
  replace BB := hide ((unhide BB).trans (hb12.mono (by show w.heap.size ≤ w11.heap.size; omega)))
  clear hb12
  have O12 := hide own12
  have RO12 := hide (World.ownsRow.lt (unhide O12))
  clear own12
  clear O11 RO11
  go_wp2_with fail
  refine (eqRangeS_same ans _ _ _ _ w12 hal (unhide O12) (unhide O2)).mono ?_
  rintro e w13 ⟨rfl, hb13⟩
  replace O2 := hide (g_stays (w := w12) (unhide O2) hb13)
  replace OM := hide (g_stays (w := w12) (unhide OM) hb13)
  replace O12 := hide (g_stays (w := w12) (unhide O12) hb13)
  have z13 : w12.heap.size ≤ w13.heap.size := hb13.size
  replace BB := hide ((unhide BB).trans (hb13.mono (by show w.heap.size ≤ w12.heap.size; omega)))
  clear hb13
  clear O12 RO12
  go_wp2_with fail
  refine (unhide CH _ _ w13 (unhide OM)).mono ?_
  rintro e wy ⟨rfl, hwy⟩
  subst wy
  go_wp2
  go_ret
  exact ⟨rfl, unhide BB⟩

set_option maxHeartbeats 8000000 in
set_option maxRecDepth 100000 in
theorem FnExactSetJoin_walk (a0 : Option Addr) (cap0 : Nat) (l0 : List Rg) (a1 : Option Addr) (cap1 : Nat) (l1 : List Rg) (w : World) (m0 : l0.length ≤ maxLen) (h0 : ArgR w.heap.size w a0 l0) (m1 : l1.length ≤ maxLen) (h1 : ArgR w.heap.size w a1 l1) (CI : (l0.length ≤ 1048576 ∧ l1.length ≤ 1048576) → ∀ (v0 : Value) (B0 : Nat) (v1 : Value) (B1 : Nat) (W : World), OwnR B0 W v0 l0 → OwnR B1 W v1 l1 → Below w.heap.size w W → Calls Try.prog 18 #[v0, v1] W fun e w' => ∃ v', e = .returned (.tuple #[v', .bool ((twoV l0 l1 false).2)]) ∧ OwnR W.heap.size w' v' ((twoV l0 l1 false).1) ∧ Below W.heap.size W w') :
    Calls Try.prog 5 #[.slice a0 l0.length cap0, .slice a1 l1.length cap1] w fun e w' => e = .returned (.bool true) ∧ Below w.heap.size w w' := by
  have HA := hide h0
  have HX := hide h1
  clear h0 h1
  have BB := hide (Below.refl w.heap.size w)
  go_enter Try.func5, Try.ntmps5
  go_wp2_with fail
  refine (szRangeS_any a0 cap0 l0.length 1048576 w (Nat.le_refl _) m0).mono ?_
  rintro e w0 ⟨⟨m, rfl, hmm⟩, hw0⟩
  subst w0
  rcases hmm with rfl | ⟨q, rfl, hq, hs0⟩
  · go_wp2
    go_ret
    exact ⟨rfl, unhide BB⟩
  go_wp2_with fail
  refine (szRangeS_any a1 cap1 l1.length q w hq m1).mono ?_
  rintro e w0 ⟨⟨m2, rfl, hmm2⟩, hw0⟩
  subst w0
  rcases hmm2 with rfl | ⟨q2, rfl, hq2, hs1'⟩
  · go_wp2
    go_ret
    exact ⟨rfl, unhide BB⟩
  have hs1 : l1.length ≤ 1048576 := by omega
  clear hs1'
  have CI := hide (CI ⟨hs0, hs1⟩)
  have hal : ((twoV l0 l1 false).1).length ≤ 1048576 := twoV_len
  have CS := hide (fun (v0 : Value) (B0 : Nat) (v1 : Value) (B1 : Nat) (W : World) (g0 : OwnR B0 W v0 l0) (g1 : OwnR B1 W v1 l1) => spec_SetJoin_any l0 l1 v0 v1 W hs0 hs1 g0.read g1.read)
  generalize (twoV l0 l1 false).1 = ans at CS CI hal
  generalize (twoV l0 l1 false).2 = d at CS CI
  go_wp2_with fail
  refine (toRangeS_any a0 cap0 l0 w hs0 ((unhide HA).up (unhide BB))).mono ?_
  rintro e w1 ⟨v1, rfl, own1, hb1⟩
  have z1 : w.heap.size ≤ w1.heap.size := hb1.size
  replace BB := hide ((unhide BB).trans (hb1.mono (by show w.heap.size ≤ w.heap.size; omega)))
  clear hb1
  have O1 := hide own1
  have RO1 := hide (World.ownsRow.lt (unhide O1))
  clear own1
  go_wp2_with fail
  refine (toRangeS_any a1 cap1 l1 w1 hs1 ((unhide HX).up (unhide BB))).mono ?_
  rintro e w2 ⟨v2, rfl, own2, hb2⟩
  replace O1 := hide (g_stays (w := w1) (unhide O1) hb2)
  have z2 : w1.heap.size ≤ w2.heap.size := hb2.size
  replace BB := hide ((unhide BB).trans (hb2.mono (by show w.heap.size ≤ w1.heap.size; omega)))
  clear hb2
  have O2 := hide own2
  have RO2 := hide (World.ownsRow.lt (unhide O2))
  clear own2
  go_wp2_with fail
  refine (unhide CS _ _ _ _ w2 (unhide O1) (unhide O2)).mono ?_
  rintro e w3 ⟨v3, rfl, own3, hb3⟩
  replace O1 := hide (g_stays (w := w2) (unhide O1) hb3)
  replace O2 := hide (g_stays (w := w2) (unhide O2) hb3)
  have z3 : w2.heap.size ≤ w3.heap.size := hb3.size
  replace BB := hide ((unhide BB).trans (hb3.mono (by show w.heap.size ≤ w2.heap.size; omega)))
  clear hb3
  have O3 := hide own3
  have RO3 := hide (World.ownsRow.lt (unhide O3))
  clear own3
  clear O1 O2 RO1 RO2
  go_wp2_with fail
  refine (toRangeS_any a0 cap0 l0 w3 hs0 ((unhide HA).up (unhide BB))).mono ?_
  rintro e w4 ⟨v4, rfl, own4, hb4⟩
  replace O3 := hide (g_stays (w := w3) (unhide O3) hb4)
  have z4 : w3.heap.size ≤ w4.heap.size := hb4.size
  replace BB := hide ((unhide BB).trans (hb4.mono (by show w.heap.size ≤ w3.heap.size; omega)))
  clear hb4
  have O4 := hide own4
  have RO4 := hide (World.ownsRow.lt (unhide O4))
  clear own4
  go_wp2_with fail
  refine (toRangeS_any a1 cap1 l1 w4 hs1 ((unhide HX).up (unhide BB))).mono ?_
  rintro e w5 ⟨v5, rfl, own5, hb5⟩
  replace O3 := hide (g_stays (w := w4) (unhide O3) hb5)
  replace O4 := hide (g_stays (w := w4) (unhide O4) hb5)
  have z5 : w4.heap.size ≤ w5.heap.size := hb5.size
  replace BB := hide ((unhide BB).trans (hb5.mono (by show w.heap.size ≤ w4.heap.size; omega)))
  clear hb5
  have O5 := hide own5
  have RO5 := hide (World.ownsRow.lt (unhide O5))
  clear own5
  go_wp2_with fail
  refine (unhide CI _ _ _ _ w5 (unhide O4) (unhide O5) (unhide BB)).mono ?_
  rintro e w6 ⟨v6, rfl, own6, hb6⟩
  replace O3 := hide (g_stays (w := w5) (unhide O3) hb6)
  replace O4 := hide (g_stays (w := w5) (unhide O4) hb6)
  replace O5 := hide (g_stays (w := w5) (unhide O5) hb6)
  have z6 : w5.heap.size ≤ w6.heap.size := hb6.size
  replace BB := hide ((unhide BB).trans (hb6.mono (by show w.heap.size ≤ w5.heap.size; omega)))
  clear hb6
  have O6 := hide own6
  have RO6 := hide (World.ownsRow.lt (unhide O6))
  clear own6
  go_wp2_with fail
  refine (eqRangeS_same ans _ _ _ _ w6 hal (unhide O6) (unhide O3)).mono ?_
  rintro e w7 ⟨rfl, hb7⟩
  replace O3 := hide (g_stays (w := w6) (unhide O3) hb7)
  replace O4 := hide (g_stays (w := w6) (unhide O4) hb7)
  replace O5 := hide (g_stays (w := w6) (unhide O5) hb7)
  replace O6 := hide (g_stays (w := w6) (unhide O6) hb7)
  have z7 : w6.heap.size ≤ w7.heap.size := hb7.size
  replace BB := hide ((unhide BB).trans (hb7.mono (by show w.heap.size ≤ w6.heap.size; omega)))
  clear hb7
  go_wp2_with fail
  refine (toRangeS_any a0 cap0 l0 w7 hs0 ((unhide HA).up (unhide BB))).mono ?_
  rintro e w8 ⟨v8, rfl, own8, hb8⟩
  replace O3 := hide (g_stays (w := w7) (unhide O3) hb8)
  replace O4 := hide (g_stays (w := w7) (unhide O4) hb8)
  replace O5 := hide (g_stays (w := w7) (unhide O5) hb8)
  replace O6 := hide (g_stays (w := w7) (unhide O6) hb8)
  have z8 : w7.heap.size ≤ w8.heap.size := hb8.size
  replace BB := hide ((unhide BB).trans (hb8.mono (by show w.heap.size ≤ w7.heap.size; omega)))
  clear hb8
  have O8 := hide own8
  have RO8 := hide (World.ownsRow.lt (unhide O8))
  clear own8
  go_wp2_with fail
  refine (eqRangeS_same l0 _ _ _ _ w8 hs0 (unhide O4) (unhide O8)).mono ?_
  rintro e w9 ⟨rfl, hb9⟩
  replace O3 := hide (g_stays (w := w8) (unhide O3) hb9)
  replace O4 := hide (g_stays (w := w8) (unhide O4) hb9)
  replace O5 := hide (g_stays (w := w8) (unhide O5) hb9)
  replace O6 := hide (g_stays (w := w8) (unhide O6) hb9)
  replace O8 := hide (g_stays (w := w8) (unhide O8) hb9)
  have z9 : w8.heap.size ≤ w9.heap.size := hb9.size
  replace BB := hide ((unhide BB).trans (hb9.mono (by show w.heap.size ≤ w8.heap.size; omega)))
  clear hb9
  clear O8 RO8
  go_wp2_with fail
  refine (toRangeS_any a1 cap1 l1 w9 hs1 ((unhide HX).up (unhide BB))).mono ?_
  rintro e w10 ⟨v10, rfl, own10, hb10⟩
  replace O3 := hide (g_stays (w := w9) (unhide O3) hb10)
  replace O4 := hide (g_stays (w := w9) (unhide O4) hb10)
  replace O5 := hide (g_stays (w := w9) (unhide O5) hb10)
  replace O6 := hide (g_stays (w := w9) (unhide O6) hb10)
  have z10 : w9.heap.size ≤ w10.heap.size := hb10.size
  replace BB := hide ((unhide BB).trans (hb10.mono (by show w.heap.size ≤ w9.heap.size; omega)))
  clear hb10
  have O10 := hide own10
  have RO10 := hide (World.ownsRow.lt (unhide O10))
  clear own10
  go_wp2_with fail
  refine (eqRangeS_same l1 _ _ _ _ w10 hs1 (unhide O5) (unhide O10)).mono ?_
  rintro e w11 ⟨rfl, hb11⟩
  replace O3 := hide (g_stays (w := w10) (unhide O3) hb11)
  replace O4 := hide (g_stays (w := w10) (unhide O4) hb11)
  replace O5 := hide (g_stays (w := w10) (unhide O5) hb11)
  replace O6 := hide (g_stays (w := w10) (unhide O6) hb11)
  replace O10 := hide (g_stays (w := w10) (unhide O10) hb11)
  have z11 : w10.heap.size ≤ w11.heap.size := hb11.size
  replace BB := hide ((unhide BB).trans (hb11.mono (by show w.heap.size ≤ w10.heap.size; omega)))
  clear hb11
  clear O10 RO10
  go_wp2_with fail
  refine (markRangeS_any l0 _ _ 1 w11 hs0 (by omega) (unhide O4)).mono ?_
  rintro e w12 ⟨rfl, ownm12, hg12⟩
  replace O3 := hide (g_aside (unhide O3) hg12 (fun k hk h => by have a1 := unhide RO3 k h; have a2 := unhide RO4 k hk; omega))
  replace O5 := hide (g_aside (unhide O5) hg12 (fun k hk h => by have a1 := unhide RO5 k h; have a2 := unhide RO4 k hk; omega))
  replace O6 := hide (g_aside (unhide O6) hg12 (fun k hk h => by have a1 := unhide RO6 k h; have a2 := unhide RO4 k hk; omega))
  have z12 : w11.heap.size ≤ w12.heap.size := hg12.size
  replace BB := hide ((unhide BB).grown hg12 (by show w.heap.size ≤ w11.heap.size; omega) (fun k hk => by have a2 := unhide RO4 k hk; omega))
  clear hg12
  clear ownm12
  obtain ⟨K0, hK0⟩ : ∃ K, K = 1 + l0.length * 2 := ⟨_, rfl⟩
  rw [← hK0]
  have hKb0 : K0 ≤ 3000000 := by omega
  clear hK0
  go_wp2_with fail
  refine (markRangeS_any l1 _ _ K0 w12 hs1 (by omega) (unhide O5)).mono ?_
  rintro e w13 ⟨rfl, ownm13, hg13⟩
  replace O3 := hide (g_aside (unhide O3) hg13 (fun k hk h => by have a1 := unhide RO3 k h; have a2 := unhide RO5 k hk; omega))
  replace O6 := hide (g_aside (unhide O6) hg13 (fun k hk h => by have a1 := unhide RO6 k h; have a2 := unhide RO5 k hk; omega))
  have z13 : w12.heap.size ≤ w13.heap.size := hg13.size
  replace BB := hide ((unhide BB).grown hg13 (by show w.heap.size ≤ w12.heap.size; omega) (fun k hk => by have a2 := unhide RO5 k hk; omega))
  clear hg13
  clear ownm13
  obtain ⟨K1, hK1⟩ : ∃ K, K = K0 + l1.length * 2 := ⟨_, rfl⟩
  rw [← hK1]
  have hKb1 : K1 ≤ 9000000 := by omega
  clear hK1
  go_wp2_with fail
  refine (eqRangeS_same ans _ _ _ _ w13 hal (unhide O6) (unhide O3)).mono ?_
  rintro e w14 ⟨rfl, hb14⟩
  replace O3 := hide (g_stays (w := w13) (unhide O3) hb14)
  replace O6 := hide (g_stays (w := w13) (unhide O6) hb14)
  have z14 : w13.heap.size ≤ w14.heap.size := hb14.size
  replace BB := hide ((unhide BB).trans (hb14.mono (by show w.heap.size ≤ w13.heap.size; omega)))
  clear hb14
  go_wp2_with fail
  refine (markRangeS_any ans _ _ 1 w14 hal (by omega) (unhide O6)).mono ?_
  rintro e w15 ⟨rfl, ownm15, hg15⟩
  replace O3 := hide (g_aside (unhide O3) hg15 (fun k hk h => by have a1 := unhide RO3 k h; have a2 := unhide RO6 k hk; omega))
  have z15 : w14.heap.size ≤ w15.heap.size := hg15.size
  replace BB := hide ((unhide BB).grown hg15 (by show w.heap.size ≤ w14.heap.size; omega) (fun k hk => by have a2 := unhide RO6 k hk; omega))
  clear hg15
  have OM := hide ownm15
  clear ownm15
  have CH := hide (fun v B wx h => heldRangeS_any ans.length v B 1 wx hal (by omega) h)
  obtain ⟨K4, hK4⟩ : ∃ K, K = 1 + ans.length * 2 := ⟨_, rfl⟩
  rw [← hK4] at CH ⊢
  clear hK4
  go_wp2_with fail
  refine (unhide CH _ _ w15 (unhide OM)).mono ?_
  rintro e wy ⟨rfl, hwy⟩
  subst wy
  go_wp2_with fail
  refine (toRangeS_any a0 cap0 l0 w15 hs0 ((unhide HA).up (unhide BB))).mono ?_
  rintro e w16 ⟨v16, rfl, own16, hb16⟩
  replace O3 := hide (g_stays (w := w15) (unhide O3) hb16)
  replace OM := hide (g_stays (w := w15) (unhide OM) hb16)
  have z16 : w15.heap.size ≤ w16.heap.size := hb16.size
  replace BB := hide ((unhide BB).trans (hb16.mono (by show w.heap.size ≤ w15.heap.size; omega)))
  clear hb16
  have O16 := hide own16
  have RO16 := hide (World.ownsRow.lt (unhide O16))
  clear own16
  go_wp2_with fail
  refine (toRangeS_any a1 cap1 l1 w16 hs1 ((unhide HX).up (unhide BB))).mono ?_
  rintro e w17 ⟨v17, rfl, own17, hb17⟩
  replace O3 := hide (g_stays (w := w16) (unhide O3) hb17)
  replace OM := hide (g_stays (w := w16) (unhide OM) hb17)
  replace O16 := hide (g_stays (w := w16) (unhide O16) hb17)
  have z17 : w16.heap.size ≤ w17.heap.size := hb17.size
  replace BB := hide ((unhide BB).trans (hb17.mono (by show w.heap.size ≤ w16.heap.size; omega)))
  clear hb17
  have O17 := hide own17
  have RO17 := hide (World.ownsRow.lt (unhide O17))
  clear own17
  go_wp2_with fail
  refine (unhide CI _ _ _ _ w17 (unhide O16) (unhide O17) (unhide BB)).mono ?_
  rintro e w18 ⟨v18, rfl, own18, hb18⟩
  replace O3 := hide (g_stays (w := w17) (unhide O3) hb18)
  replace OM := hide (g_stays (w := w17) (unhide OM) hb18)
  replace O16 := hide (g_stays (w := w17) (unhide O16) hb18)
  replace O17 := hide (g_stays (w := w17) (unhide O17) hb18)
  have z18 : w17.heap.size ≤ w18.heap.size := hb18.size
  replace BB := hide ((unhide BB).trans (hb18.mono (by show w.heap.size ≤ w17.heap.size; omega)))
  clear hb18
  have O18 := hide own18
  have RO18 := hide (World.ownsRow.lt (unhide O18))
  clear own18
  clear O16 O17 RO16 RO17
  go_wp2_with fail
  refine (eqRangeS_same ans _ _ _ _ w18 hal (unhide O18) (unhide O3)).mono ?_
  rintro e w19 ⟨rfl, hb19⟩
  replace O3 := hide (g_stays (w := w18) (unhide O3) hb19)
  replace OM := hide (g_stays (w := w18) (unhide OM) hb19)
  replace O18 := hide (g_stays (w := w18) (unhide O18) hb19)
  have z19 : w18.heap.size ≤ w19.heap.size := hb19.size
  replace BB := hide ((unhide BB).trans (hb19.mono (by show w.heap.size ≤ w18.heap.size; omega)))
  clear hb19
  clear O18 RO18
  go_wp2_with fail
  refine (unhide CH _ _ w19 (unhide OM)).mono ?_
  rintro e wy ⟨rfl, hwy⟩
  subst wy
  go_wp2
  go_ret
  exact ⟨rfl, unhide BB⟩

set_option maxHeartbeats 8000000 in
set_option maxRecDepth 100000 in
theorem FnExactSetMeet_walk (a0 : Option Addr) (cap0 : Nat) (l0 : List Rg) (a1 : Option Addr) (cap1 : Nat) (l1 : List Rg) (w : World) (m0 : l0.length ≤ maxLen) (h0 : ArgR w.heap.size w a0 l0) (m1 : l1.length ≤ maxLen) (h1 : ArgR w.heap.size w a1 l1) (CI : (l0.length ≤ 1048576 ∧ l1.length ≤ 1048576) → ∀ (v0 : Value) (B0 : Nat) (v1 : Value) (B1 : Nat) (W : World), OwnR B0 W v0 l0 → OwnR B1 W v1 l1 → Below w.heap.size w W → Calls Try.prog 20 #[v0, v1] W fun e w' => ∃ v', e = .returned (.tuple #[v', .bool ((twoV l0 l1 true).2)]) ∧ OwnR W.heap.size w' v' ((twoV l0 l1 true).1) ∧ Below W.heap.size W w') :
    Calls Try.prog 6 #[.slice a0 l0.length cap0, .slice a1 l1.length cap1] w fun e w' => e = .returned (.bool true) ∧ Below w.heap.size w w' := by
  have HA := hide h0
  have HX := hide h1
  clear h0 h1
  have BB := hide (Below.refl w.heap.size w)
  go_enter Try.func6, Try.ntmps6
  go_wp2_with fail
  refine (szRangeS_any a0 cap0 l0.length 1048576 w (Nat.le_refl _) m0).mono ?_
  rintro e w0 ⟨⟨m, rfl, hmm⟩, hw0⟩
  subst w0
  rcases hmm with rfl | ⟨q, rfl, hq, hs0⟩
  · go_wp2
    go_ret
    exact ⟨rfl, unhide BB⟩
  go_wp2_with fail
  refine (szRangeS_any a1 cap1 l1.length q w hq m1).mono ?_
  rintro e w0 ⟨⟨m2, rfl, hmm2⟩, hw0⟩
  subst w0
  rcases hmm2 with rfl | ⟨q2, rfl, hq2, hs1'⟩
  · go_wp2
    go_ret
    exact ⟨rfl, unhide BB⟩
  have hs1 : l1.length ≤ 1048576 := by omega
  clear hs1'
  have CI := hide (CI ⟨hs0, hs1⟩)
  have hal : ((twoV l0 l1 true).1).length ≤ 1048576 := twoV_len
  have CS := hide (fun (v0 : Value) (B0 : Nat) (v1 : Value) (B1 : Nat) (W : World) (g0 : OwnR B0 W v0 l0) (g1 : OwnR B1 W v1 l1) => spec_SetMeet_any l0 l1 v0 v1 W hs0 hs1 g0.read g1.read)
  generalize (twoV l0 l1 true).1 = ans at CS CI hal
  generalize (twoV l0 l1 true).2 = d at CS CI
  go_wp2_with fail
  refine (toRangeS_any a0 cap0 l0 w hs0 ((unhide HA).up (unhide BB))).mono ?_
  rintro e w1 ⟨v1, rfl, own1, hb1⟩
  have z1 : w.heap.size ≤ w1.heap.size := hb1.size
  replace BB := hide ((unhide BB).trans (hb1.mono (by show w.heap.size ≤ w.heap.size; omega)))
  clear hb1
  have O1 := hide own1
  have RO1 := hide (World.ownsRow.lt (unhide O1))
  clear own1
  go_wp2_with fail
  refine (toRangeS_any a1 cap1 l1 w1 hs1 ((unhide HX).up (unhide BB))).mono ?_
  rintro e w2 ⟨v2, rfl, own2, hb2⟩
  replace O1 := hide (g_stays (w := w1) (unhide O1) hb2)
  have z2 : w1.heap.size ≤ w2.heap.size := hb2.size
  replace BB := hide ((unhide BB).trans (hb2.mono (by show w.heap.size ≤ w1.heap.size; omega)))
  clear hb2
  have O2 := hide own2
  have RO2 := hide (World.ownsRow.lt (unhide O2))
  clear own2
  go_wp2_with fail
  refine (unhide CS _ _ _ _ w2 (unhide O1) (unhide O2)).mono ?_
  rintro e w3 ⟨v3, rfl, own3, hb3⟩
  replace O1 := hide (g_stays (w := w2) (unhide O1) hb3)
  replace O2 := hide (g_stays (w := w2) (unhide O2) hb3)
  have z3 : w2.heap.size ≤ w3.heap.size := hb3.size
  replace BB := hide ((unhide BB).trans (hb3.mono (by show w.heap.size ≤ w2.heap.size; omega)))
  clear hb3
  have O3 := hide own3
  have RO3 := hide (World.ownsRow.lt (unhide O3))
  clear own3
  clear O1 O2 RO1 RO2
  go_wp2_with fail
  refine (toRangeS_any a0 cap0 l0 w3 hs0 ((unhide HA).up (unhide BB))).mono ?_
  rintro e w4 ⟨v4, rfl, own4, hb4⟩
  replace O3 := hide (g_stays (w := w3) (unhide O3) hb4)
  have z4 : w3.heap.size ≤ w4.heap.size := hb4.size
  replace BB := hide ((unhide BB).trans (hb4.mono (by show w.heap.size ≤ w3.heap.size; omega)))
  clear hb4
  have O4 := hide own4
  have RO4 := hide (World.ownsRow.lt (unhide O4))
  clear own4
  go_wp2_with fail
  refine (toRangeS_any a1 cap1 l1 w4 hs1 ((unhide HX).up (unhide BB))).mono ?_
  rintro e w5 ⟨v5, rfl, own5, hb5⟩
  replace O3 := hide (g_stays (w := w4) (unhide O3) hb5)
  replace O4 := hide (g_stays (w := w4) (unhide O4) hb5)
  have z5 : w4.heap.size ≤ w5.heap.size := hb5.size
  replace BB := hide ((unhide BB).trans (hb5.mono (by show w.heap.size ≤ w4.heap.size; omega)))
  clear hb5
  have O5 := hide own5
  have RO5 := hide (World.ownsRow.lt (unhide O5))
  clear own5
  go_wp2_with fail
  refine (unhide CI _ _ _ _ w5 (unhide O4) (unhide O5) (unhide BB)).mono ?_
  rintro e w6 ⟨v6, rfl, own6, hb6⟩
  replace O3 := hide (g_stays (w := w5) (unhide O3) hb6)
  replace O4 := hide (g_stays (w := w5) (unhide O4) hb6)
  replace O5 := hide (g_stays (w := w5) (unhide O5) hb6)
  have z6 : w5.heap.size ≤ w6.heap.size := hb6.size
  replace BB := hide ((unhide BB).trans (hb6.mono (by show w.heap.size ≤ w5.heap.size; omega)))
  clear hb6
  have O6 := hide own6
  have RO6 := hide (World.ownsRow.lt (unhide O6))
  clear own6
  go_wp2_with fail
  refine (eqRangeS_same ans _ _ _ _ w6 hal (unhide O6) (unhide O3)).mono ?_
  rintro e w7 ⟨rfl, hb7⟩
  replace O3 := hide (g_stays (w := w6) (unhide O3) hb7)
  replace O4 := hide (g_stays (w := w6) (unhide O4) hb7)
  replace O5 := hide (g_stays (w := w6) (unhide O5) hb7)
  replace O6 := hide (g_stays (w := w6) (unhide O6) hb7)
  have z7 : w6.heap.size ≤ w7.heap.size := hb7.size
  replace BB := hide ((unhide BB).trans (hb7.mono (by show w.heap.size ≤ w6.heap.size; omega)))
  clear hb7
  go_wp2_with fail
  refine (toRangeS_any a0 cap0 l0 w7 hs0 ((unhide HA).up (unhide BB))).mono ?_
  rintro e w8 ⟨v8, rfl, own8, hb8⟩
  replace O3 := hide (g_stays (w := w7) (unhide O3) hb8)
  replace O4 := hide (g_stays (w := w7) (unhide O4) hb8)
  replace O5 := hide (g_stays (w := w7) (unhide O5) hb8)
  replace O6 := hide (g_stays (w := w7) (unhide O6) hb8)
  have z8 : w7.heap.size ≤ w8.heap.size := hb8.size
  replace BB := hide ((unhide BB).trans (hb8.mono (by show w.heap.size ≤ w7.heap.size; omega)))
  clear hb8
  have O8 := hide own8
  have RO8 := hide (World.ownsRow.lt (unhide O8))
  clear own8
  go_wp2_with fail
  refine (eqRangeS_same l0 _ _ _ _ w8 hs0 (unhide O4) (unhide O8)).mono ?_
  rintro e w9 ⟨rfl, hb9⟩
  replace O3 := hide (g_stays (w := w8) (unhide O3) hb9)
  replace O4 := hide (g_stays (w := w8) (unhide O4) hb9)
  replace O5 := hide (g_stays (w := w8) (unhide O5) hb9)
  replace O6 := hide (g_stays (w := w8) (unhide O6) hb9)
  replace O8 := hide (g_stays (w := w8) (unhide O8) hb9)
  have z9 : w8.heap.size ≤ w9.heap.size := hb9.size
  replace BB := hide ((unhide BB).trans (hb9.mono (by show w.heap.size ≤ w8.heap.size; omega)))
  clear hb9
  clear O8 RO8
  go_wp2_with fail
  refine (toRangeS_any a1 cap1 l1 w9 hs1 ((unhide HX).up (unhide BB))).mono ?_
  rintro e w10 ⟨v10, rfl, own10, hb10⟩
  replace O3 := hide (g_stays (w := w9) (unhide O3) hb10)
  replace O4 := hide (g_stays (w := w9) (unhide O4) hb10)
  replace O5 := hide (g_stays (w := w9) (unhide O5) hb10)
  replace O6 := hide (g_stays (w := w9) (unhide O6) hb10)
  have z10 : w9.heap.size ≤ w10.heap.size := hb10.size
  replace BB := hide ((unhide BB).trans (hb10.mono (by show w.heap.size ≤ w9.heap.size; omega)))
  clear hb10
  have O10 := hide own10
  have RO10 := hide (World.ownsRow.lt (unhide O10))
  clear own10
  go_wp2_with fail
  refine (eqRangeS_same l1 _ _ _ _ w10 hs1 (unhide O5) (unhide O10)).mono ?_
  rintro e w11 ⟨rfl, hb11⟩
  replace O3 := hide (g_stays (w := w10) (unhide O3) hb11)
  replace O4 := hide (g_stays (w := w10) (unhide O4) hb11)
  replace O5 := hide (g_stays (w := w10) (unhide O5) hb11)
  replace O6 := hide (g_stays (w := w10) (unhide O6) hb11)
  replace O10 := hide (g_stays (w := w10) (unhide O10) hb11)
  have z11 : w10.heap.size ≤ w11.heap.size := hb11.size
  replace BB := hide ((unhide BB).trans (hb11.mono (by show w.heap.size ≤ w10.heap.size; omega)))
  clear hb11
  clear O10 RO10
  go_wp2_with fail
  refine (markRangeS_any l0 _ _ 1 w11 hs0 (by omega) (unhide O4)).mono ?_
  rintro e w12 ⟨rfl, ownm12, hg12⟩
  replace O3 := hide (g_aside (unhide O3) hg12 (fun k hk h => by have a1 := unhide RO3 k h; have a2 := unhide RO4 k hk; omega))
  replace O5 := hide (g_aside (unhide O5) hg12 (fun k hk h => by have a1 := unhide RO5 k h; have a2 := unhide RO4 k hk; omega))
  replace O6 := hide (g_aside (unhide O6) hg12 (fun k hk h => by have a1 := unhide RO6 k h; have a2 := unhide RO4 k hk; omega))
  have z12 : w11.heap.size ≤ w12.heap.size := hg12.size
  replace BB := hide ((unhide BB).grown hg12 (by show w.heap.size ≤ w11.heap.size; omega) (fun k hk => by have a2 := unhide RO4 k hk; omega))
  clear hg12
  clear ownm12
  obtain ⟨K0, hK0⟩ : ∃ K, K = 1 + l0.length * 2 := ⟨_, rfl⟩
  rw [← hK0]
  have hKb0 : K0 ≤ 3000000 := by omega
  clear hK0
  go_wp2_with fail
  refine (markRangeS_any l1 _ _ K0 w12 hs1 (by omega) (unhide O5)).mono ?_
  rintro e w13 ⟨rfl, ownm13, hg13⟩
  replace O3 := hide (g_aside (unhide O3) hg13 (fun k hk h => by have a1 := unhide RO3 k h; have a2 := unhide RO5 k hk; omega))
  replace O6 := hide (g_aside (unhide O6) hg13 (fun k hk h => by have a1 := unhide RO6 k h; have a2 := unhide RO5 k hk; omega))
  have z13 : w12.heap.size ≤ w13.heap.size := hg13.size
  replace BB := hide ((unhide BB).grown hg13 (by show w.heap.size ≤ w12.heap.size; omega) (fun k hk => by have a2 := unhide RO5 k hk; omega))
  clear hg13
  clear ownm13
  obtain ⟨K1, hK1⟩ : ∃ K, K = K0 + l1.length * 2 := ⟨_, rfl⟩
  rw [← hK1]
  have hKb1 : K1 ≤ 9000000 := by omega
  clear hK1
  go_wp2_with fail
  refine (eqRangeS_same ans _ _ _ _ w13 hal (unhide O6) (unhide O3)).mono ?_
  rintro e w14 ⟨rfl, hb14⟩
  replace O3 := hide (g_stays (w := w13) (unhide O3) hb14)
  replace O6 := hide (g_stays (w := w13) (unhide O6) hb14)
  have z14 : w13.heap.size ≤ w14.heap.size := hb14.size
  replace BB := hide ((unhide BB).trans (hb14.mono (by show w.heap.size ≤ w13.heap.size; omega)))
  clear hb14
  go_wp2_with fail
  refine (markRangeS_any ans _ _ 1 w14 hal (by omega) (unhide O6)).mono ?_
  rintro e w15 ⟨rfl, ownm15, hg15⟩
  replace O3 := hide (g_aside (unhide O3) hg15 (fun k hk h => by have a1 := unhide RO3 k h; have a2 := unhide RO6 k hk; omega))
  have z15 : w14.heap.size ≤ w15.heap.size := hg15.size
  replace BB := hide ((unhide BB).grown hg15 (by show w.heap.size ≤ w14.heap.size; omega) (fun k hk => by have a2 := unhide RO6 k hk; omega))
  clear hg15
  have OM := hide ownm15
  clear ownm15
  have CH := hide (fun v B wx h => heldRangeS_any ans.length v B 1 wx hal (by omega) h)
  obtain ⟨K4, hK4⟩ : ∃ K, K = 1 + ans.length * 2 := ⟨_, rfl⟩
  rw [← hK4] at CH ⊢
  clear hK4
  go_wp2_with fail
  refine (unhide CH _ _ w15 (unhide OM)).mono ?_
  rintro e wy ⟨rfl, hwy⟩
  subst wy
  go_wp2_with fail
  refine (toRangeS_any a0 cap0 l0 w15 hs0 ((unhide HA).up (unhide BB))).mono ?_
  rintro e w16 ⟨v16, rfl, own16, hb16⟩
  replace O3 := hide (g_stays (w := w15) (unhide O3) hb16)
  replace OM := hide (g_stays (w := w15) (unhide OM) hb16)
  have z16 : w15.heap.size ≤ w16.heap.size := hb16.size
  replace BB := hide ((unhide BB).trans (hb16.mono (by show w.heap.size ≤ w15.heap.size; omega)))
  clear hb16
  have O16 := hide own16
  have RO16 := hide (World.ownsRow.lt (unhide O16))
  clear own16
  go_wp2_with fail
  refine (toRangeS_any a1 cap1 l1 w16 hs1 ((unhide HX).up (unhide BB))).mono ?_
  rintro e w17 ⟨v17, rfl, own17, hb17⟩
  replace O3 := hide (g_stays (w := w16) (unhide O3) hb17)
  replace OM := hide (g_stays (w := w16) (unhide OM) hb17)
  replace O16 := hide (g_stays (w := w16) (unhide O16) hb17)
  have z17 : w16.heap.size ≤ w17.heap.size := hb17.size
  replace BB := hide ((unhide BB).trans (hb17.mono (by show w.heap.size ≤ w16.heap.size; omega)))
  clear hb17
  have O17 := hide own17
  have RO17 := hide (World.ownsRow.lt (unhide O17))
  clear own17
  go_wp2_with fail
  refine (unhide CI _ _ _ _ w17 (unhide O16) (unhide O17) (unhide BB)).mono ?_
  rintro e w18 ⟨v18, rfl, own18, hb18⟩
  replace O3 := hide (g_stays (w := w17) (unhide O3) hb18)
  replace OM := hide (g_stays (w := w17) (unhide OM) hb18)
  replace O16 := hide (g_stays (w := w17) (unhide O16) hb18)
  replace O17 := hide (g_stays (w := w17) (unhide O17) hb18)
  have z18 : w17.heap.size ≤ w18.heap.size := hb18.size
  replace BB := hide ((unhide BB).trans (hb18.mono (by show w.heap.size ≤ w17.heap.size; omega)))
  clear hb18
  have O18 := hide own18
  have RO18 := hide (World.ownsRow.lt (unhide O18))
  clear own18
  clear O16 O17 RO16 RO17
  go_wp2_with fail
  refine (eqRangeS_same ans _ _ _ _ w18 hal (unhide O18) (unhide O3)).mono ?_
  rintro e w19 ⟨rfl, hb19⟩
  replace O3 := hide (g_stays (w := w18) (unhide O3) hb19)
  replace OM := hide (g_stays (w := w18) (unhide OM) hb19)
  replace O18 := hide (g_stays (w := w18) (unhide O18) hb19)
  have z19 : w18.heap.size ≤ w19.heap.size := hb19.size
  replace BB := hide ((unhide BB).trans (hb19.mono (by show w.heap.size ≤ w18.heap.size; omega)))
  clear hb19
  clear O18 RO18
  go_wp2_with fail
  refine (unhide CH _ _ w19 (unhide OM)).mono ?_
  rintro e wy ⟨rfl, hwy⟩
  subst wy
  go_wp2
  go_ret
  exact ⟨rfl, unhide BB⟩

end Go.Proofs.Ytkmphclmealkeab
