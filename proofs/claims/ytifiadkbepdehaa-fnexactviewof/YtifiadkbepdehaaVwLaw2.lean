/- The walk of FnExactViewOf. Made by gen_vwlaw2.py. -/
import Derived.Test.YtifiadkbepdehaaVwOfI
namespace Go.Proofs.Ytifiadkbepdehaa
open Go.RowKit
open Plain
set_option linter.unusedVariables false
set_option linter.unusedSimpArgs false
attribute [local go_sem] cell_of frozen_of
set_option maxHeartbeats 16000000 in
set_option maxRecDepth 100000 in
theorem FnExactViewOf_walk (b : Bx) (a1 a2 : Option Addr) (c1 c2 : Nat) (w : World) (h : ArgBx w.heap.size w a1 a2 b) :
    Calls Try.prog 3 #[boxV b (.slice a1 b.mails.length c1) (.slice a2 b.tombs.length c2)] w fun e w' => e = .returned (.bool true) ∧ Below w.heap.size w w' := by
  have HA := hide h
  have M := Mem.start w
  clear h
  go_enter Try.func3, Try.ntmps3
  go_wp2_with fail
  refine (szBox_any b a1 a2 c1 c2 _ ((unhide HA).up (Mem.here _))).mono ?_
  rintro e w1 ⟨⟨q, rfl, hq⟩, hb⟩
  have M := Mem.go hb
  clear hb
  rcases hq with rfl | ⟨q, rfl, hq, hsm⟩
  · go_wp2
    go_ret
    exact ⟨rfl, Mem.here _⟩
  have i1 : ¬ (q : Int) < 0 := by omega
  have SM := hide hsm
  obtain ⟨x, hx⟩ : ∃ x, x = viewOf b := ⟨_, rfl⟩
  have HX : Hid (x.uids.length ≤ 1048576) := by show _ ≤ _; rw [hx]; simpa [viewOf] using hsm.2.1.1
  have SA := hide (fun W a1 a2 c1 c2 (h : SeeMl W a1 b.mails) => spec_ViewOf_any b a1 a2 c1 c2 W hsm.2.1.1 h)
  have IA := hide (fun W a1 a2 c1 c2 (h : SeeMl W a1 b.mails) => impl_ViewOf_any b a1 a2 c1 c2 W hsm.2.1.1 hsm.1 h)
  rw [← hx] at SA IA
  clear hsm hx
  go_wp2_with fail
  refine (toBox_mem b a1 a2 c1 c2 (unhide SM) (unhide HA)).mono ?_
  rintro e w9 ⟨amP, cmP, atP, ctP, rfl, M⟩
  try dsimp only at M
  go_wp2_with fail
  refine (unhide SA _ amP atP cmP ctP (seeMl cmP)).mono ?_
  rintro e w9 ⟨aW, cW, rfl, MN⟩
  have M := Mem.then MN
  clear MN
  go_wp2_with fail
  refine (toBox_mem b a1 a2 c1 c2 (unhide SM) (unhide HA)).mono ?_
  rintro e w9 ⟨amX, cmX, atX, ctX, rfl, M⟩
  try dsimp only at M
  go_wp2_with fail
  refine (unhide IA _ amX atX cmX ctX (seeMl cmX)).mono ?_
  rintro e w9 ⟨aG, cG, rfl, MN⟩
  have M := Mem.then MN
  clear MN
  go_wp2_with fail
  refine (eqView_mem x aG aW cG cW (unhide HX)).mono ?_
  rintro e w9 ⟨rfl, M⟩
  try dsimp only at M
  go_wp2
  refine mb 5 (fun M => ?_)
  refine tm 0 27 ?_; refine tm 1 28 ?_
  refine tc 2 29 (toBox_mem b a1 a2 c1 c2 (unhide SM) (unhide HA)) ?_
  rintro e w6 ⟨amC, cmC, atC, ctC, rfl, M⟩
  refine tce ?_
  refine tc 3 30 (eqBox_mem b amX atX amC atC cmX ctX cmC ctC (unhide SM)) ?_
  rintro e w7 ⟨rfl, M⟩
  refine tce ?_
  refine tm 4 31 ?_
  refine td ?_
  go_wp2_with fail
  refine (markBox_mem b amX atX cmX ctX 1 (unhide SM) (by decide) (by decide)).mono ?_
  rintro e w9 ⟨rfl, M⟩
  try dsimp only at M
  have j1 : ¬ (1 : Int) + (b.mails.length : Int) * 4 + (b.tombs.length : Int) * 2 < 0 := by omega
  go_wp2_with fail
  refine (eqView_mem x aG aW cG cW (unhide HX)).mono ?_
  rintro e w9 ⟨rfl, M⟩
  try dsimp only at M
  go_wp2_with fail
  refine (markView_mem x aG cG 1 (unhide HX) (by decide)).mono ?_
  rintro e w9 ⟨rfl, M⟩
  try dsimp only at M
  have j2 : ¬ (1 : Int) + (x.uids.length : Int) < 0 := by omega
  go_wp2_with fail
  refine (heldView_mem x aG cG 1 (unhide HX) (by decide)).mono ?_
  rintro e w9 ⟨rfl, M⟩
  try dsimp only at M
  go_wp2_with fail
  refine (toBox_mem b a1 a2 c1 c2 (unhide SM) (unhide HA)).mono ?_
  rintro e w9 ⟨amQ, cmQ, atQ, ctQ, rfl, M⟩
  try dsimp only at M
  go_wp2_with fail
  refine (unhide IA _ amQ atQ cmQ ctQ (seeMl cmQ)).mono ?_
  rintro e w9 ⟨aH, cH, rfl, MN⟩
  have M := Mem.then MN
  clear MN
  go_wp2_with fail
  refine (eqView_mem x aH aW cH cW (unhide HX)).mono ?_
  rintro e w9 ⟨rfl, M⟩
  try dsimp only at M
  go_wp2_with fail
  refine (heldView_mem x aG cG 1 (unhide HX) (by decide)).mono ?_
  rintro e w9 ⟨rfl, M⟩
  try dsimp only at M
  go_wp2
  go_ret
  exact ⟨rfl, Mem.here _⟩
end Go.Proofs.Ytifiadkbepdehaa
