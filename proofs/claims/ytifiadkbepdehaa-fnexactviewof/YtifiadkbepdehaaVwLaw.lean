/- The walks of FnExactPlaceIn, FnExactViewOk. Made by gen_vwlaw.py. -/
import Derived.Test.YtifiadkbepdehaaVwI
namespace Go.Proofs.Ytifiadkbepdehaa
open Go.RowKit
open Plain
set_option linter.unusedVariables false
set_option linter.unusedSimpArgs false
attribute [local go_sem] cell_of frozen_of
theorem ownRow {w W : World} {L : List Pc} {a : Option Addr} {c : Nat} {l : List Int} {f : Pc → List Pc} [M : Mem w W L] [h : InL L (rowI a c l) f] : OwnI w.heap.size W (.slice a l.length c) l := M.get (rowI a c l)
theorem seeRow {w W : World} {L : List Pc} {a : Option Addr} {l : List Int} (c : Nat) {f : Pc → List Pc} [M : Mem w W L] [h : InL L (rowI a c l) f] : SeeI W a l := OwnI.see (M.get (rowI a c l))

set_option maxHeartbeats 16000000 in
set_option maxRecDepth 100000 in
theorem FnExactPlaceIn_walk (x : Vw) (a : Option Addr) (c : Nat) (u : Int) (w : World) (h : ArgVw w.heap.size w a x) :
    Calls Try.prog 5 #[vwV x (.slice a x.uids.length c), .int .i64 u] w fun e w' => e = .returned (.bool true) ∧ Below w.heap.size w w' := by
  have HA := hide h
  have M := Mem.start w
  clear h
  go_enter Try.func5, Try.ntmps5
  go_wp2_with fail
  refine (szView_any x a c _ ((unhide HA).up (Mem.here _))).mono ?_
  rintro e w1 ⟨⟨m, rfl, hm⟩, M1⟩
  have M := Mem.then M1
  clear M1
  rcases hm with rfl | ⟨q, rfl, hq, hbs, hs⟩
  · go_wp2
    go_ret
    exact ⟨rfl, Mem.here _⟩
  have i1 : ¬ (q : Int) < 0 := by omega
  go_wp2_with fail
  refine (toView_any x a c _ hs ((unhide HA).up (Mem.here _))).mono ?_
  rintro e w2 ⟨aW, cW, rfl, M2⟩
  have M := Mem.then M2
  clear M2
  go_wp2_with fail
  refine (spec_PlaceIn_any x u aW cW _ hs (seeRow cW)).mono ?_
  rintro e w3 ⟨rfl, M3⟩
  have M := Mem.then M3
  clear M3
  go_wp2_with fail
  refine (toView_any x a c _ hs ((unhide HA).up (Mem.here _))).mono ?_
  rintro e w4 ⟨aX, cX, rfl, M4⟩
  have M := Mem.then M4
  clear M4
  go_wp2_with fail
  refine (impl_PlaceIn_any x u aX cX _ hs (seeRow cX)).mono ?_
  rintro e w5 ⟨rfl, M5⟩
  have M := Mem.then M5
  clear M5
  go_wp2
  refine mb 5 (fun M => ?_)
  refine tm 0 26 ?_; refine tm 1 27 ?_
  refine tc 2 28 (toView_any x a c _ hs ((unhide HA).up (Mem.here _))) ?_
  rintro e w6 ⟨aC, cC, rfl, M6⟩
  have M := Mem.then M6
  clear M6
  refine tce ?_
  refine tc 3 29 (eqView_same x aX aC cX cC _ _ _ hs ownRow ownRow) ?_
  rintro e w7 ⟨rfl, M7⟩
  have M := Mem.then M7
  clear M7
  refine tce ?_
  refine tm 4 30 ?_
  refine td ?_
  go_wp2
  go_ret
  exact ⟨rfl, Mem.here _⟩

set_option maxHeartbeats 16000000 in
set_option maxRecDepth 100000 in
theorem FnExactViewOk_walk (x : Vw) (a : Option Addr) (c : Nat) (w : World) (h : ArgVw w.heap.size w a x) :
    Calls Try.prog 4 #[vwV x (.slice a x.uids.length c)] w fun e w' => e = .returned (.bool true) ∧ Below w.heap.size w w' := by
  have HA := hide h
  have M := Mem.start w
  clear h
  go_enter Try.func4, Try.ntmps4
  go_wp2_with fail
  refine (szView_any x a c _ ((unhide HA).up (Mem.here _))).mono ?_
  rintro e w1 ⟨⟨m, rfl, hm⟩, M1⟩
  have M := Mem.then M1
  clear M1
  rcases hm with rfl | ⟨q, rfl, hq, hbs, hs⟩
  · go_wp2
    go_ret
    exact ⟨rfl, Mem.here _⟩
  have i1 : ¬ (q : Int) < 0 := by omega
  go_wp2_with fail
  refine (toView_any x a c _ hs ((unhide HA).up (Mem.here _))).mono ?_
  rintro e w2 ⟨aW, cW, rfl, M2⟩
  have M := Mem.then M2
  clear M2
  go_wp2_with fail
  refine (spec_ViewOk_any x aW cW _ hs hbs (seeRow cW)).mono ?_
  rintro e w3 ⟨rfl, M3⟩
  have M := Mem.then M3
  clear M3
  go_wp2_with fail
  refine (toView_any x a c _ hs ((unhide HA).up (Mem.here _))).mono ?_
  rintro e w4 ⟨aX, cX, rfl, M4⟩
  have M := Mem.then M4
  clear M4
  go_wp2_with fail
  refine (impl_ViewOk_any x aX cX _ hs hbs (seeRow cX)).mono ?_
  rintro e w5 ⟨rfl, M5⟩
  have M := Mem.then M5
  clear M5
  have rq : ∀ b : Bool, (!b == b) = false := by decide
  go_wp2
  refine mb 5 (fun M => ?_)
  refine tm 0 22 ?_; refine tm 1 23 ?_
  refine tc 2 24 (toView_any x a c _ hs ((unhide HA).up (Mem.here _))) ?_
  rintro e w6 ⟨aC, cC, rfl, M6⟩
  have M := Mem.then M6
  clear M6
  refine tce ?_
  refine tc 3 25 (eqView_same x aX aC cX cC _ _ _ hs ownRow ownRow) ?_
  rintro e w7 ⟨rfl, M7⟩
  have M := Mem.then M7
  clear M7
  refine tce ?_
  refine tm 4 26 ?_
  refine td ?_
  go_wp2
  go_ret
  exact ⟨rfl, Mem.here _⟩
end Go.Proofs.Ytifiadkbepdehaa
