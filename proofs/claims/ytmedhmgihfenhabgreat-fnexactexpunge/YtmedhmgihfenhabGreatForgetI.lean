/- Boxes: the program's forget and ForgetTombs. Made by gen_forgeti.py. -/
import Derived.Test.YtmedhmgihfenhabGreatDeleteI
import Derived.Test.YtmedhmgihfenhabGreatBoxI
import Derived.Test.YtmedhmgihfenhabGreatForgetS
namespace Go.Proofs.YtmedhmgihfenhabGreat
open Go.RowKit
open Plain
set_option linter.unusedVariables false
set_option linter.unusedSimpArgs false

theorem GrownBut.drew {w w' : World} {S : Nat → Prop} (h : GrownBut w w' S) : GrownBut w w'.drew S := ⟨h.os, h.tape, h.output, h.size, h.block⟩
set_option maxHeartbeats 2000000 in
set_option maxRecDepth 100000 in
theorem forget_any (q B : Nat) (v0 v1 v2 v3 v4 v5 tv : Value) (hor upto : Int) (l : List Tb) (w : World) (hs : l.length ≤ 4000000) (hq : HasObj w q 117 [v0, v1, v2, v3, v4, v5, tv, .int .i64 hor]) (h : OwnTb B w tv l) :
    Calls Tryz.prog 130 #[.pointer (some ⟨q, 0, none⟩), .int .i64 upto] w fun e w' => e = .returned (.tuple #[]) ∧ ∃ tv', HasObj w' q 117 [v0, v1, v2, v3, v4, v5, tv', .int .i64 (if hor < upto then upto else hor)] ∧ OwnTb B w' tv' (l.filter (fun t => decide (upto < t.mod))) ∧ tv'.ownBlock = tv.ownBlock ∧ GrownBut w w' (fun k => k = q ∨ tv.ownBlock = some k) := by
  obtain ⟨at0, ct0, rfl⟩ := g_shape h
  obtain ⟨X, hX⟩ : ∃ X, X = w.alloc (.cells ([.int .i64 upto] : List Value).toArray 3) := ⟨_, rfl⟩
  have x0 : HasObj X w.heap.size 3 [.int .i64 upto] := by rw [hX]; exact HasObj.new _ _ _
  have hbX : Below w.heap.size w X := by rw [hX]; exact (Below.refl _ _).alloc (Nat.le_refl _) _
  have nq : w.heap.size ≠ q := Nat.ne_of_gt hq.lt
  have q0 := hq.ups hbX
  have k6 := q0.cell 6 rfl
  have HX := hX.symm
  have X0 := hide x0
  have Q0 := hide q0
  have BX := hide hbX
  have OX := hide (h.up hbX)
  have SX := hide hbX.size
  have D := hide (deleteTombs_any l _ B w.heap.size upto X hs x0 (h.up hbX))
  clear hX x0 hbX h q0 hq
  go_enter Tryz.func130, Tryz.ntmps130
  go_wp2_with fail
  clear HX k6
  refine (unhide D).mono ?_
  rintro e w1 ⟨v', rfl, ov, eb, hg1⟩
  have q1 := (unhide Q0).kept hg1 (fun e => (unhide Q0).not_row (by decide) (unhide OX) e.symm)
  have x1 := (unhide X0).kept hg1 (fun e => (unhide X0).not_row (by decide) (unhide OX) e.symm)
  obtain ⟨a1, c1, rfl⟩ := g_shape ov
  have g1 : GrownBut w w1 (fun k => k = q ∨ (Value.slice at0 l.length ct0).ownBlock = some k) := ((GrownBut.below (unhide BX) rfl).then (GrownBut.of hg1)).mono (fun k hk hx => by rcases hx with hx | hx; exact absurd hx id; exact .inr hx)
  have f6 := q1.frozen 6
  have k6 := q1.cell 6 rfl
  obtain ⟨Y, hY⟩ : ∃ Y, Y = w1.setCell ⟨q, 6, none⟩ (.slice a1 (l.filter (fun t => decide (upto < t.mod))).length c1) := ⟨_, rfl⟩
  have q2 := q1.set 6 (.slice a1 (l.filter (fun t => decide (upto < t.mod))).length c1)
  have x2 := x1.other (j := 6) nq (.slice a1 (l.filter (fun t => decide (upto < t.mod))).length c1)
  have o2 := q1.row (j := 6) (by decide) ov (.slice a1 (l.filter (fun t => decide (upto < t.mod))).length c1)
  have g2 := g1.then (GrownBut.of (g_store (j := 6) (g_self w1 (some q)) (.slice a1 (l.filter (fun t => decide (upto < t.mod))).length c1)))
  rw [← hY] at q2 x2 o2 g2
  have HY := hY.symm
  have k7 := q2.cell 7 rfl
  have f7 := q2.frozen 7
  have kx := x2.cell 0 rfl
  have Q2 := hide q2
  have O2 := hide o2
  have G2 := hide g2
  have EB := hide eb
  clear D q1 x1 ov eb hg1 g1 hY q2 x2 o2 g2 OX X0 Q0 BX
  obtain ⟨l2, hl2⟩ : ∃ x, x = l.filter (fun t => decide (upto < t.mod)) := ⟨_, rfl⟩
  rw [← hl2] at HY Q2 O2 EB ⊢
  have HL := hide hl2
  clear hl2
  by_cases hh : hor < upto
  · have dh : decide (hor < upto) = true := decide_eq_true hh
    have VV : Hid ((if hor < upto then upto else hor) = upto) := if_pos hh
    have m1 : max hor upto = upto := by omega
    have Q3 := hide ((unhide Q2).set 7 (.int .i64 upto))
    have O3 := hide ((unhide Q2).row (j := 7) (by decide) (unhide O2) (.int .i64 upto))
    have G3 : Hid (GrownBut w (Y.setCell ⟨q, 7, none⟩ (.int .i64 upto)).drew (fun k => k = q ∨ (Value.slice at0 l.length ct0).ownBlock = some k)) := GrownBut.drew (((unhide G2).then (GrownBut.of (w' := Y.setCell ⟨q, 7, none⟩ (.int .i64 upto)) (g_store (j := 7) (g_self Y (some q)) (.int .i64 upto)))).mono (fun k hk hx => by
      rcases hx with (hx | hx) | hx
      · exact hx
      · exact .inl (Option.some.inj hx).symm
      · exact .inl (Option.some.inj hx).symm))
    clear Q2 O2 G2 hh
    go_wp2
    go_region
    go_end0
    exact ⟨rfl, _, by rw [unhide VV]; exact (unhide Q3).drewn, by rw [← unhide HL]; exact unhide O3, unhide EB, unhide G3⟩
  · have dh : decide (hor < upto) = false := decide_eq_false hh
    have VV : Hid ((if hor < upto then upto else hor) = hor) := if_neg hh
    have m1 : max hor upto = hor := by omega
    have Q3 := hide ((unhide Q2).set 7 (.int .i64 hor))
    have O3 := hide ((unhide Q2).row (j := 7) (by decide) (unhide O2) (.int .i64 hor))
    have G3 : Hid (GrownBut w (Y.setCell ⟨q, 7, none⟩ (.int .i64 hor)).drew (fun k => k = q ∨ (Value.slice at0 l.length ct0).ownBlock = some k)) := GrownBut.drew (((unhide G2).then (GrownBut.of (w' := Y.setCell ⟨q, 7, none⟩ (.int .i64 hor)) (g_store (j := 7) (g_self Y (some q)) (.int .i64 hor)))).mono (fun k hk hx => by
      rcases hx with (hx | hx) | hx
      · exact hx
      · exact .inl (Option.some.inj hx).symm
      · exact .inl (Option.some.inj hx).symm))
    clear Q2 O2 G2 hh
    go_wp2
    go_region
    go_end0
    exact ⟨rfl, _, by rw [unhide VV]; exact (unhide Q3).drewn, by rw [← unhide HL]; exact unhide O3, unhide EB, unhide G3⟩

end Go.Proofs.YtmedhmgihfenhabGreat
