/- The walk of FnExactCommandText. -/
import Derived.Test.YtjaohlnejkgkaaaDoorWordArg
import Derived.Test.YtjaohlnejkgkaaaDoorCmIC
namespace Go.Proofs.YtjaohlnejkgkaaaDoor
open Go.RowKit Go.ChangeShapes Go.WideShapes Go.ChangeAt Go.Deep
open Plain
set_option linter.unusedVariables false
set_option linter.unusedSimpArgs false

theorem own_upC {B m n : Nat} {t : TypeId} {w w' : World} {v : Value} {l : List Value} (h : w.ownsRow B t m v n l) (hb : Below w.heap.size w w') : w'.ownsRow B t m v n l := own_below h hb
theorem below_upC {w W W' : World} (h : Below w.heap.size w W) (hb : Below W.heap.size W W') : Below w.heap.size w W' := h.trans (hb.mono h.size)
theorem shapeC {B m n : Nat} {t : TypeId} {w : World} {v : Value} {l : List Value} (h : w.ownsRow B t m v n l) : ∃ a c, v = .slice a n c := by
  rcases h.2 with ⟨h1, h2⟩ | ⟨g, pc, cur, h1, _⟩
  · exact ⟨none, 0, by rw [h1, h2]⟩
  · exact ⟨_, _, h1⟩
set_option maxHeartbeats 16000000 in
set_option maxRecDepth 100000 in
theorem FnExactCommandText_walk (a : Option Addr) (cap : Nat) (l : List (List UInt8)) (w : World) (hm : l.length ≤ maxLen) (h : ArgW w.heap.size w a l)
    (CI : ∀ (b : Option Addr) (c : Nat) (W : World), l.length ≤ 1048576 → (∀ x ∈ l, x.length ≤ 1048576) → SeeW W b l → Below w.heap.size w W → Calls Tryd.prog 9 #[.slice b l.length c] W fun e w' => e = .returned (cmdT (cmdV l)) ∧ Below W.heap.size W w')
    (SI : ∀ (b : Option Addr) (c : Nat) (W : World), l.length ≤ 1048576 → SeeW W b l → Calls Tryd.prog 7 #[.slice b l.length c] W fun e w' => e = .returned (cmdT (cmdV l)) ∧ Below W.heap.size W w') :
    Calls Tryd.prog 3 #[.slice a l.length cap] w fun e w' => e = .returned (.bool true) ∧ Below w.heap.size w w' := by
  have HA := hide h
  have CH := hide CI
  have SH := hide SI
  clear h CI SI
  generalize cmdV l = V at *
  obtain ⟨t, ok⟩ := V
  unfold cmdT at CH SH
  dsimp only at CH SH
  have BB := hide (Below.refl w.heap.size w)
  go_enter Tryd.func3, Tryd.ntmps3
  go_wp2_with fail
  refine (szStringS_any a cap l 1048576 _ (Nat.le_refl _) hm (unhide HA)).mono ?_
  rintro e w1 ⟨⟨m, rfl, hq⟩, hb⟩
  have B1 := hide (below_upC (unhide BB) hb)
  clear BB hb
  rcases hq with rfl | ⟨r, rfl, hr, hn, hs⟩
  · go_wp2
    go_ret
    exact ⟨rfl, unhide B1⟩
  · have i1 : ¬ (r : Int) < 0 := by omega
    have HS := hide hs
    clear hs hr
    go_wp2_with fail
    refine (toStringS_any a cap l _ hn ((unhide HA).up (unhide B1))).mono ?_
    rintro e w2 ⟨v1, rfl, o1, hb⟩
    obtain ⟨a1, c1, rfl⟩ := shapeC o1
    have S1 := hide (seeW_own o1)
    have B2 := hide (below_upC (unhide B1) hb)
    clear B1 hb o1
    go_wp2_with fail
    refine (unhide SH a1 c1 _ hn (unhide S1)).mono ?_
    rintro e w3 ⟨rfl, hb⟩
    have B3 := hide (below_upC (unhide B2) hb)
    clear B2 hb S1
    go_wp2_with fail
    refine (toStringS_any a cap l _ hn ((unhide HA).up (unhide B3))).mono ?_
    rintro e w4 ⟨v2, rfl, o2, hb⟩
    obtain ⟨a2, c2, rfl⟩ := shapeC o2
    have S2 := hide (seeW_own o2)
    have O2 := hide o2
    have B4 := hide (below_upC (unhide B3) hb)
    clear B3 hb o2
    go_wp2_with fail
    refine (unhide CH a2 c2 _ hn (unhide HS) (unhide S2) (unhide B4)).mono ?_
    rintro e w5 ⟨rfl, hb⟩
    have O3 := hide (own_upC (unhide O2) hb)
    have B5 := hide (below_upC (unhide B4) hb)
    clear B4 hb S2 O2
    go_wp2_with fail
    refine (toStringS_any a cap l _ hn ((unhide HA).up (unhide B5))).mono ?_
    rintro e w6 ⟨v3, rfl, o4, hb⟩
    have O4 := hide o4
    have O5 := hide (own_upC (unhide O3) hb)
    have B6 := hide (below_upC (unhide B5) hb)
    clear B5 hb O3 o4
    go_wp2_with fail
    refine (eqStringS_same l _ _ _ _ _ _ rfl hn (unhide O5) (unhide O4)).mono ?_
    rintro e w7 ⟨rfl, q, rfl⟩
    go_wp2
    go_ret
    exact ⟨rfl, below_drewN (unhide B6) q⟩
end Go.Proofs.YtjaohlnejkgkaaaDoor
