/- Boxes: the program's forget and ForgetTombs. Made by gen_forgeti.py. -/
import Derived.Test.YtmedhmgihfenhaaDeleteI
import Derived.Test.YtmedhmgihfenhaaBoxI
import Derived.Test.YtmedhmgihfenhaaForgetS
namespace Go.Proofs.Ytmedhmgihfenhaa
open Go.RowKit
open Plain
set_option linter.unusedVariables false
set_option linter.unusedSimpArgs false

theorem GrownBut.drew {w w' : World} {S : Nat → Prop} (h : GrownBut w w' S) : GrownBut w w'.drew S := ⟨h.os, h.tape, h.output, h.size, h.block⟩
set_option maxHeartbeats 2000000 in
set_option maxRecDepth 100000 in
theorem forget_any (q B : Nat) (v0 v1 v2 v3 v4 v5 tv : Value) (hor upto : Int) (l : List Tb) (w : World) (hs : l.length ≤ 4000000) (hq : HasObj w q 62 [v0, v1, v2, v3, v4, v5, tv, .int .i64 hor]) (h : OwnTb B w tv l) :
    Calls Try.prog 46 #[.pointer (some ⟨q, 0, none⟩), .int .i64 upto] w fun e w' => e = .returned (.tuple #[]) ∧ ∃ tv', HasObj w' q 62 [v0, v1, v2, v3, v4, v5, tv', .int .i64 (if hor < upto then upto else hor)] ∧ OwnTb B w' tv' (l.filter (fun t => decide (upto < t.mod))) ∧ tv'.ownBlock = tv.ownBlock ∧ GrownBut w w' (fun k => k = q ∨ tv.ownBlock = some k) := by
  obtain ⟨at0, ct0, rfl⟩ := g_shape h
  obtain ⟨X, hX⟩ : ∃ X, X = w.alloc (.cells ([.int .i64 upto] : List Value).toArray 3) := ⟨_, rfl⟩
  have x0 : HasObj X w.heap.size 3 [.int .i64 upto] := by rw [hX]; exact HasObj.new _ _ _
  have hbX : Below w.heap.size w X := by rw [hX]; exact (Below.refl _ _).alloc (Nat.le_refl _) _
  have nq : w.heap.size ≠ q := Nat.ne_of_gt hq.lt
  have q0 := hq.ups hbX
  have k6 := q0.cell 6 rfl
  have HX := hX.symm
  have X0 := hide x0
  have Q0 := hide q0
  have BX := hide hbX
  have OX := hide (h.up hbX)
  have SX := hide hbX.size
  have D := hide (deleteTombs_any l _ B w.heap.size upto X hs x0 (h.up hbX))
  clear hX x0 hbX h q0 hq
  go_enter Try.func46, Try.ntmps46
  go_wp2_with fail
  clear HX k6
  refine (unhide D).mono ?_
  rintro e w1 ⟨v', rfl, ov, eb, hg1⟩
  have q1 := (unhide Q0).kept hg1 (fun e => (unhide Q0).not_row (by decide) (unhide OX) e.symm)
  have x1 := (unhide X0).kept hg1 (fun e => (unhide X0).not_row (by decide) (unhide OX) e.symm)
  obtain ⟨a1, c1, rfl⟩ := g_shape ov
  have g1 : GrownBut w w1 (fun k => k = q ∨ (Value.slice at0 l.length ct0).ownBlock = some k) := ((GrownBut.below (unhide BX) rfl).then (GrownBut.of hg1)).mono (fun k hk hx => by rcases hx with hx | hx; exact absurd hx id; exact .inr hx)
  have f6 := q1.frozen 6
  have k6 := q1.cell 6 rfl
  obtain ⟨Y, hY⟩ : ∃ Y, Y = w1.setCell ⟨q, 6, none⟩ (.slice a1 (l.filter (fun t => decide (upto < t.mod))).length c1) := ⟨_, rfl⟩
  have q2 := q1.set 6 (.slice a1 (l.filter (fun t => decide (upto < t.mod))).length c1)
  have x2 := x1.other (j := 6) nq (.slice a1 (l.filter (fun t => decide (upto < t.mod))).length c1)
  have o2 := q1.row (j := 6) (by decide) ov (.slice a1 (l.filter (fun t => decide (upto < t.mod))).length c1)
  have g2 := g1.then (GrownBut.of (g_store (j := 6) (g_self w1 (some q)) (.slice a1 (l.filter (fun t => decide (upto < t.mod))).length c1)))
  rw [← hY] at q2 x2 o2 g2
  have HY := hY.symm
  have k7 := q2.cell 7 rfl
  have f7 := q2.frozen 7
  have kx := x2.cell 0 rfl
  have Q2 := hide q2
  have O2 := hide o2
  have G2 := hide g2
  have EB := hide eb
  clear D q1 x1 ov eb hg1 g1 hY q2 x2 o2 g2 OX X0 Q0 BX
  obtain ⟨l2, hl2⟩ : ∃ x, x = l.filter (fun t => decide (upto < t.mod)) := ⟨_, rfl⟩
  rw [← hl2] at HY Q2 O2 EB ⊢
  have HL := hide hl2
  clear hl2
  by_cases hh : hor < upto
  · have dh : decide (hor < upto) = true := decide_eq_true hh
    have VV : Hid ((if hor < upto then upto else hor) = upto) := if_pos hh
    have m1 : max hor upto = upto := by omega
    have Q3 := hide ((unhide Q2).set 7 (.int .i64 upto))
    have O3 := hide ((unhide Q2).row (j := 7) (by decide) (unhide O2) (.int .i64 upto))
    have G3 : Hid (GrownBut w (Y.setCell ⟨q, 7, none⟩ (.int .i64 upto)).drew (fun k => k = q ∨ (Value.slice at0 l.length ct0).ownBlock = some k)) := GrownBut.drew (((unhide G2).then (GrownBut.of (w' := Y.setCell ⟨q, 7, none⟩ (.int .i64 upto)) (g_store (j := 7) (g_self Y (some q)) (.int .i64 upto)))).mono (fun k hk hx => by
      rcases hx with (hx | hx) | hx
      · exact hx
      · exact .inl (Option.some.inj hx).symm
      · exact .inl (Option.some.inj hx).symm))
    clear Q2 O2 G2 hh
    go_wp2
    go_region
    go_end0
    exact ⟨rfl, _, by rw [unhide VV]; exact (unhide Q3).drewn, by rw [← unhide HL]; exact unhide O3, unhide EB, unhide G3⟩
  · have dh : decide (hor < upto) = false := decide_eq_false hh
    have VV : Hid ((if hor < upto then upto else hor) = hor) := if_neg hh
    have m1 : max hor upto = hor := by omega
    have Q3 := hide ((unhide Q2).set 7 (.int .i64 hor))
    have O3 := hide ((unhide Q2).row (j := 7) (by decide) (unhide O2) (.int .i64 hor))
    have G3 : Hid (GrownBut w (Y.setCell ⟨q, 7, none⟩ (.int .i64 hor)).drew (fun k => k = q ∨ (Value.slice at0 l.length ct0).ownBlock = some k)) := GrownBut.drew (((unhide G2).then (GrownBut.of (w' := Y.setCell ⟨q, 7, none⟩ (.int .i64 hor)) (g_store (j := 7) (g_self Y (some q)) (.int .i64 hor)))).mono (fun k hk hx => by
      rcases hx with (hx | hx) | hx
      · exact hx
      · exact .inl (Option.some.inj hx).symm
      · exact .inl (Option.some.inj hx).symm))
    clear Q2 O2 G2 hh
    go_wp2
    go_region
    go_end0
    exact ⟨rfl, _, by rw [unhide VV]; exact (unhide Q3).drewn, by rw [← unhide HL]; exact unhide O3, unhide EB, unhide G3⟩

set_option maxHeartbeats 8000000 in
set_option maxRecDepth 100000 in
theorem impl_ForgetTombs_any (b : Bx) (m t : Value) (B : Nat) (upto : Int) (w : World) (hf : FitBx b) (h : OwnBx B w m t b) :
    Calls Try.prog 25 #[boxV b m t, .int .i64 upto] w fun e w' => ∃ m' t', e = .returned (boxV (forgetV b upto) m' t') ∧ OwnBx w.heap.size w' m' t' (forgetV b upto) ∧ Below w.heap.size w w' := by
  have hl2 := hf.tombs
  have HF := hide hf
  have HO := hide h
  obtain ⟨am, cm, rfl⟩ := g_shape h.1
  obtain ⟨at1, ct1, rfl⟩ := g_shape h.2
  have V1 := hide (fun hq => forgetV_no1 (b := b) (upto := upto) hq)
  have V2 := hide (fun hq => forgetV_no2 (b := b) (upto := upto) hq)
  have V3 := hide (fun h1 h2 => forgetV_yes (b := b) (upto := upto) h1 h2)
  clear h hf
  have BB := hide (Below.refl w.heap.size w)
  obtain ⟨w1, hP⟩ : ∃ X, X = w.alloc (.cells ([.string b.name, .int .i64 b.valid, .int .i64 b.next, .int .i64 b.mod, .slice am b.mails.length cm, .slice at1 b.tombs.length ct1, .int .i64 b.hor] : List Value).toArray 27) := ⟨_, rfl⟩
  have Px : HasObj w1 w.heap.size 27 [.string b.name, .int .i64 b.valid, .int .i64 b.next, .int .i64 b.mod, .slice am b.mails.length cm, .slice at1 b.tombs.length ct1, .int .i64 b.hor] := by rw [hP]; exact HasObj.new _ _ _
  have hbn : Below w.heap.size w w1 := by rw [hP]; exact (Below.refl _ _).alloc (Nat.le_refl _) _
  have loP : w.heap.size ≤ w.heap.size := (unhide BB).size
  have EP := hP.symm
  clear hP
  have sz1 := hide (hbn.size)
  have BB_ := hide (below_y (unhide BB) hbn)
  clear BB
  have BB := BB_
  clear BB_
  clear hbn
  have P := hide Px
  clear Px
  obtain ⟨w2, hR⟩ : ∃ X, X = w1.alloc (.cells ([.string ⟨#[]⟩, .int .i64 0, .int .i64 0, .int .i64 0, .slice none 0 0, .slice none 0 0, .int .i64 0] : List Value).toArray 27) := ⟨_, rfl⟩
  have Rx : HasObj w2 w1.heap.size 27 [.string ⟨#[]⟩, .int .i64 0, .int .i64 0, .int .i64 0, .slice none 0 0, .slice none 0 0, .int .i64 0] := by rw [hR]; exact HasObj.new _ _ _
  have hbn : Below w1.heap.size w1 w2 := by rw [hR]; exact (Below.refl _ _).alloc (Nat.le_refl _) _
  have nePR : w.heap.size ≠ w1.heap.size := Nat.ne_of_lt (unhide P).lt
  have loR : w.heap.size ≤ w1.heap.size := (unhide BB).size
  have ER := hR.symm
  clear hR
  have P_ := hide ((unhide P).ups hbn)
  clear P
  have P := P_
  clear P_
  have sz2 := hide (hbn.size)
  have BB_ := hide (below_y (unhide BB) hbn)
  clear BB
  have BB := BB_
  clear BB_
  clear hbn
  have R := hide Rx
  clear Rx
  have Pc0_1 := (unhide P).cell 0 rfl
  have Pc1_1 := (unhide P).cell 1 rfl
  have Pc2_1 := (unhide P).cell 2 rfl
  have Pc3_1 := (unhide P).cell 3 rfl
  have Pc4_1 := (unhide P).cell 4 rfl
  have Pc5_1 := (unhide P).cell 5 rfl
  have Pc6_1 := (unhide P).cell 6 rfl
  go_enter Try.func25, Try.ntmps25
  go_wp2_with fail
  clear Pc0_1 Pc1_1 Pc2_1 Pc3_1 Pc4_1 Pc5_1 Pc6_1 EP ER
  refine (impl_BoxOk_any b _ _ B _ (unhide HF) ((unhide HO).up (unhide BB))).mono ?_
  rintro e w3 ⟨rfl, hb⟩
  have P_ := hide ((unhide P).ups hb)
  clear P
  have P := P_
  clear P_
  have R_ := hide ((unhide R).ups hb)
  clear R
  have R := R_
  clear R_
  have sz3 := hide (hb.size)
  have BB_ := hide (below_y (unhide BB) hb)
  clear BB
  have BB := BB_
  clear BB_
  clear hb
  cases hq1 : boxOk b with
  | false =>
    have Pc0_2 := (unhide P).cell 0 rfl
    have Pc1_2 := (unhide P).cell 1 rfl
    have Pc2_2 := (unhide P).cell 2 rfl
    have Pc3_2 := (unhide P).cell 3 rfl
    have Pc4_2 := (unhide P).cell 4 rfl
    have Pc5_2 := (unhide P).cell 5 rfl
    have Pc6_2 := (unhide P).cell 6 rfl
    go_wp2_with fail
    clear Pc0_2 Pc1_2 Pc2_2 Pc3_2 Pc4_2 Pc5_2 Pc6_2
    refine (copiedBox_any b _ _ B _ (unhide HF) ((unhide HO).up (unhide BB))).mono ?_
    rintro e w4 ⟨vm, vt, rfl, ob, hb⟩
    obtain ⟨am7, cm7, rfl⟩ := g_shape ob.1
    obtain ⟨at7, ct7, rfl⟩ := g_shape ob.2
    have P_ := hide ((unhide P).ups hb)
    clear P
    have P := P_
    clear P_
    have R_ := hide ((unhide R).ups hb)
    clear R
    have R := R_
    clear R_
    have sz4 := hide (hb.size)
    have BB_ := hide (below_y (unhide BB) hb)
    clear BB
    have BB := BB_
    clear BB_
    clear hb
    have OM7 := hide ob.1
    have OT7 := hide ob.2
    clear ob
    have V := hide (unhide V1 hq1)
    have Rf0 := (unhide R).frozen 0
    have Rf1 := (unhide R).frozen 1
    have Rf2 := (unhide R).frozen 2
    have Rf3 := (unhide R).frozen 3
    have Rf4 := (unhide R).frozen 4
    have Rf5 := (unhide R).frozen 5
    have Rf6 := (unhide R).frozen 6
    have Re0 := (unhide R).cell 0 rfl
    have Re1 := (unhide R).cell 1 rfl
    have Re2 := (unhide R).cell 2 rfl
    have Re3 := (unhide R).cell 3 rfl
    have Re4 := (unhide R).cell 4 rfl
    have Re5 := (unhide R).cell 5 rfl
    have Re6 := (unhide R).cell 6 rfl
    have F := hide (fill7 (unhide R) (.string b.name) (.int .i64 b.valid) (.int .i64 b.next) (.int .i64 b.mod) (.slice am7 b.mails.length cm7) (.slice at7 b.tombs.length ct7) (.int .i64 b.hor))
    go_wp2
    obtain ⟨U, hU⟩ : ∃ U, U = (((((((w4.setCell ⟨w1.heap.size, 0, none⟩ (.string b.name)).setCell ⟨w1.heap.size, 1, none⟩ (.int .i64 b.valid)).setCell ⟨w1.heap.size, 2, none⟩ (.int .i64 b.next)).setCell ⟨w1.heap.size, 3, none⟩ (.int .i64 b.mod)).setCell ⟨w1.heap.size, 4, none⟩ (.slice am7 b.mails.length cm7)).setCell ⟨w1.heap.size, 5, none⟩ (.slice at7 b.tombs.length ct7)).setCell ⟨w1.heap.size, 6, none⟩ (.int .i64 b.hor)) := ⟨_, rfl⟩
    have F := unhide F
    rw [← hU] at F ⊢
    have v0 := F.obj.cell 0 rfl
    have v1 := F.obj.cell 1 rfl
    have v2 := F.obj.cell 2 rfl
    have v3 := F.obj.cell 3 rfl
    have v4 := F.obj.cell 4 rfl
    have v5 := F.obj.cell 5 rfl
    have v6 := F.obj.cell 6 rfl
    refine bodyPost_ret (by simp [results, Try.results25, go_sem, v0, v1, v2, v3, v4, v5, v6]; try rfl) rfl ?_
    refine ⟨_, _, by rw [unhide V], ?_, F.below loR (unhide BB)⟩
    rw [unhide V]
    exact ⟨g_based (F.row (by decide) (unhide OM7)) (by have sz1_ := unhide sz1; have sz2_ := unhide sz2; have sz3_ := unhide sz3; have sz4_ := unhide sz4; omega), g_based (F.row (by decide) (unhide OT7)) (by have sz1_ := unhide sz1; have sz2_ := unhide sz2; have sz3_ := unhide sz3; have sz4_ := unhide sz4; omega)⟩
  | true =>
    have Pc0_2 := (unhide P).cell 0 rfl
    have Pc1_2 := (unhide P).cell 1 rfl
    have Pc2_2 := (unhide P).cell 2 rfl
    have Pc3_2 := (unhide P).cell 3 rfl
    have Pc4_2 := (unhide P).cell 4 rfl
    have Pc5_2 := (unhide P).cell 5 rfl
    have Pc6_2 := (unhide P).cell 6 rfl
    go_wp2_with fail
    clear Pc0_2 Pc1_2 Pc2_2 Pc3_2 Pc4_2 Pc5_2 Pc6_2
    refine (impl_within_any upto 0 b.mod _).mono ?_
    rintro e w4 ⟨rfl, hw⟩
    subst w4
    cases hq2 : inI upto 0 b.mod with
    | false =>
      have Pc0_3 := (unhide P).cell 0 rfl
      have Pc1_3 := (unhide P).cell 1 rfl
      have Pc2_3 := (unhide P).cell 2 rfl
      have Pc3_3 := (unhide P).cell 3 rfl
      have Pc4_3 := (unhide P).cell 4 rfl
      have Pc5_3 := (unhide P).cell 5 rfl
      have Pc6_3 := (unhide P).cell 6 rfl
      go_wp2_with fail
      clear Pc0_3 Pc1_3 Pc2_3 Pc3_3 Pc4_3 Pc5_3 Pc6_3
      refine (copiedBox_any b _ _ B _ (unhide HF) ((unhide HO).up (unhide BB))).mono ?_
      rintro e w5 ⟨vm, vt, rfl, ob, hb⟩
      obtain ⟨am7, cm7, rfl⟩ := g_shape ob.1
      obtain ⟨at7, ct7, rfl⟩ := g_shape ob.2
      have P_ := hide ((unhide P).ups hb)
      clear P
      have P := P_
      clear P_
      have R_ := hide ((unhide R).ups hb)
      clear R
      have R := R_
      clear R_
      have sz4 := hide (hb.size)
      have BB_ := hide (below_y (unhide BB) hb)
      clear BB
      have BB := BB_
      clear BB_
      clear hb
      have OM7 := hide ob.1
      have OT7 := hide ob.2
      clear ob
      have V := hide (unhide V2 hq2)
      have Rf0 := (unhide R).frozen 0
      have Rf1 := (unhide R).frozen 1
      have Rf2 := (unhide R).frozen 2
      have Rf3 := (unhide R).frozen 3
      have Rf4 := (unhide R).frozen 4
      have Rf5 := (unhide R).frozen 5
      have Rf6 := (unhide R).frozen 6
      have Re0 := (unhide R).cell 0 rfl
      have Re1 := (unhide R).cell 1 rfl
      have Re2 := (unhide R).cell 2 rfl
      have Re3 := (unhide R).cell 3 rfl
      have Re4 := (unhide R).cell 4 rfl
      have Re5 := (unhide R).cell 5 rfl
      have Re6 := (unhide R).cell 6 rfl
      have F := hide (fill7 (unhide R) (.string b.name) (.int .i64 b.valid) (.int .i64 b.next) (.int .i64 b.mod) (.slice am7 b.mails.length cm7) (.slice at7 b.tombs.length ct7) (.int .i64 b.hor))
      go_wp2
      obtain ⟨U, hU⟩ : ∃ U, U = (((((((w5.setCell ⟨w1.heap.size, 0, none⟩ (.string b.name)).setCell ⟨w1.heap.size, 1, none⟩ (.int .i64 b.valid)).setCell ⟨w1.heap.size, 2, none⟩ (.int .i64 b.next)).setCell ⟨w1.heap.size, 3, none⟩ (.int .i64 b.mod)).setCell ⟨w1.heap.size, 4, none⟩ (.slice am7 b.mails.length cm7)).setCell ⟨w1.heap.size, 5, none⟩ (.slice at7 b.tombs.length ct7)).setCell ⟨w1.heap.size, 6, none⟩ (.int .i64 b.hor)) := ⟨_, rfl⟩
      have F := unhide F
      rw [← hU] at F ⊢
      have v0 := F.obj.cell 0 rfl
      have v1 := F.obj.cell 1 rfl
      have v2 := F.obj.cell 2 rfl
      have v3 := F.obj.cell 3 rfl
      have v4 := F.obj.cell 4 rfl
      have v5 := F.obj.cell 5 rfl
      have v6 := F.obj.cell 6 rfl
      refine bodyPost_ret (by simp [results, Try.results25, go_sem, v0, v1, v2, v3, v4, v5, v6]; try rfl) rfl ?_
      refine ⟨_, _, by rw [unhide V], ?_, F.below loR (unhide BB)⟩
      rw [unhide V]
      exact ⟨g_based (F.row (by decide) (unhide OM7)) (by have sz1_ := unhide sz1; have sz2_ := unhide sz2; have sz3_ := unhide sz3; have sz4_ := unhide sz4; omega), g_based (F.row (by decide) (unhide OT7)) (by have sz1_ := unhide sz1; have sz2_ := unhide sz2; have sz3_ := unhide sz3; have sz4_ := unhide sz4; omega)⟩
    | true =>
      have V := hide (unhide V3 hq1 hq2)
      clear hq1 hq2
      have Pc0_3 := (unhide P).cell 0 rfl
      have Pc1_3 := (unhide P).cell 1 rfl
      have Pc2_3 := (unhide P).cell 2 rfl
      have Pc3_3 := (unhide P).cell 3 rfl
      have Pc4_3 := (unhide P).cell 4 rfl
      have Pc5_3 := (unhide P).cell 5 rfl
      have Pc6_3 := (unhide P).cell 6 rfl
      go_wp2_with fail
      clear Pc0_3 Pc1_3 Pc2_3 Pc3_3 Pc4_3 Pc5_3 Pc6_3
      refine (opened_any b _ _ B _ (unhide HF) ((unhide HO).up (unhide BB))).mono ?_
      rintro e w5 ⟨vl, vt, rfl, ol, ot, hb⟩
      obtain ⟨al, cl, rfl⟩ := g_shape ol
      obtain ⟨a2, c2, rfl⟩ := g_shape ot
      have P_ := hide ((unhide P).ups hb)
      clear P
      have P := P_
      clear P_
      have R_ := hide ((unhide R).ups hb)
      clear R
      have R := R_
      clear R_
      have sz4 := hide (hb.size)
      have BB_ := hide (below_y (unhide BB) hb)
      clear BB
      have BB := BB_
      clear BB_
      clear hb
      have OL : Hid (OwnMl w3.heap.size w5 (.slice al b.mails.length cl) (b.mails)) := ol
      have OT : Hid (OwnTb w3.heap.size w5 (.slice a2 b.tombs.length c2) (b.tombs)) := ot
      clear ol ot
      obtain ⟨w6, hQ⟩ : ∃ X, X = w5.alloc (.cells ([.slice al b.mails.length cl, .string b.name, .int .i64 b.valid, .int .i64 b.next, .int .i64 b.mod, .slice none 0 0, .slice a2 b.tombs.length c2, .int .i64 b.hor] : List Value).toArray 62) := ⟨_, rfl⟩
      have Qx : HasObj w6 w5.heap.size 62 [.slice al b.mails.length cl, .string b.name, .int .i64 b.valid, .int .i64 b.next, .int .i64 b.mod, .slice none 0 0, .slice a2 b.tombs.length c2, .int .i64 b.hor] := by rw [hQ]; exact HasObj.new _ _ _
      have hbn : Below w5.heap.size w5 w6 := by rw [hQ]; exact (Below.refl _ _).alloc (Nat.le_refl _) _
      have nePQ : w.heap.size ≠ w5.heap.size := Nat.ne_of_lt (unhide P).lt
      have neRQ : w1.heap.size ≠ w5.heap.size := Nat.ne_of_lt (unhide R).lt
      have loQ : w.heap.size ≤ w5.heap.size := (unhide BB).size
      have EQ := hQ.symm
      clear hQ
      have P_ := hide ((unhide P).ups hbn)
      clear P
      have P := P_
      clear P_
      have R_ := hide ((unhide R).ups hbn)
      clear R
      have R := R_
      clear R_
      have OL_ := hide ((unhide OL).up hbn)
      clear OL
      have OL := OL_
      clear OL_
      have OT_ := hide ((unhide OT).up hbn)
      clear OT
      have OT := OT_
      clear OT_
      have sz5 := hide (hbn.size)
      have BB_ := hide (below_y (unhide BB) hbn)
      clear BB
      have BB := BB_
      clear BB_
      clear hbn
      have Q := hide Qx
      clear Qx
      go_wp2_with fail
      clear EQ
      refine (forget_any w5.heap.size _ _ _ _ _ _ _ _ b.hor upto b.tombs _ hl2 (unhide Q) (unhide OT)).mono ?_
      rintro e w7 ⟨rfl, tv, hQ, hT, eb, gb⟩
      obtain ⟨a5, c5, rfl⟩ := g_shape hT
      have nOT := fun k (hk : (Value.slice a2 b.tombs.length c2).ownBlock = some k) => World.ownsRow.lt (unhide OT) k hk
      have hR := gb.obj (unhide R) (fun hx => by rcases hx with hx | hx; exact neRQ hx; exact (unhide R).not_row (by decide) (unhide OT) hx)
      have hL : OwnMl w3.heap.size w7 (.slice al b.mails.length cl) b.mails := gb.row (unhide OL) (fun k hk hx => by rcases hx with hx | hx; (rw [hx] at hk; exact (unhide Q).not_row (by decide) (unhide OL) hk); exact rows_apart (unhide OL) (unhide OT) (by decide) k hk hx)
      have hB : Below w.heap.size w w7 := (unhide BB).trans (gb.toBelow (unhide BB).size (fun k hx => by rcases hx with hx | hx; (rw [hx]; exact loQ); have q8_ := (nOT k hx).1; have sz1_ := unhide sz1; have sz2_ := unhide sz2; have sz3_ := unhide sz3; have sz4_ := unhide sz4; have sz5_ := unhide sz5; omega))
      have sz99 := hide gb.size
      clear gb nOT R Q OL OT BB P eb
      have R := hide hR
      have Q := hide hQ
      have OL := hide hL
      have OT := hide hT
      have BB := hide hB
      clear hR hQ hL hT hB
      have el : b.tombs.filter (fun t => decide (upto < t.mod)) = leftL b upto := rfl
      rw [el] at Q OT
      clear el
      obtain ⟨hz, ehz⟩ : ∃ x, x = (if b.hor < upto then upto else b.hor) := ⟨_, rfl⟩
      rw [← ehz] at Q
      have EH := hide ehz
      clear ehz
      have Qc0_4 := (unhide Q).cell 0 rfl
      have Qc1_4 := (unhide Q).cell 1 rfl
      have Qc2_4 := (unhide Q).cell 2 rfl
      have Qc3_4 := (unhide Q).cell 3 rfl
      have Qc4_4 := (unhide Q).cell 4 rfl
      have Qc5_4 := (unhide Q).cell 5 rfl
      have Qc6_4 := (unhide Q).cell 6 rfl
      have Qc7_4 := (unhide Q).cell 7 rfl
      go_wp2_with fail
      clear Qc0_4 Qc1_4 Qc2_4 Qc3_4 Qc4_4 Qc5_4 Qc6_4 Qc7_4
      refine (box_any { b with mails := [], hor := hz } _ _ _ _ _ _ _ _ _ _).mono ?_
      rintro e w8 ⟨rfl, hb⟩
      have R_ := hide ((unhide R).ups hb)
      clear R
      have R := R_
      clear R_
      have Q_ := hide ((unhide Q).ups hb)
      clear Q
      have Q := Q_
      clear Q_
      have OL_ := hide ((unhide OL).up hb)
      clear OL
      have OL := OL_
      clear OL_
      have OT_ := hide ((unhide OT).up hb)
      clear OT
      have OT := OT_
      clear OT_
      have sz6 := hide (hb.size)
      have BB_ := hide (below_y (unhide BB) hb)
      clear BB
      have BB := BB_
      clear BB_
      clear hb
      have Rf0 := (unhide R).frozen 0
      have Rf1 := (unhide R).frozen 1
      have Rf2 := (unhide R).frozen 2
      have Rf3 := (unhide R).frozen 3
      have Rf4 := (unhide R).frozen 4
      have Rf5 := (unhide R).frozen 5
      have Rf6 := (unhide R).frozen 6
      have Re0 := (unhide R).cell 0 rfl
      have Re1 := (unhide R).cell 1 rfl
      have Re2 := (unhide R).cell 2 rfl
      have Re3 := (unhide R).cell 3 rfl
      have Re4 := (unhide R).cell 4 rfl
      have Re5 := (unhide R).cell 5 rfl
      have Re6 := (unhide R).cell 6 rfl
      have F := hide (fill7 (unhide R) (.string b.name) (.int .i64 b.valid) (.int .i64 b.next) (.int .i64 b.mod) (.slice al b.mails.length cl) (.slice a5 (leftL b upto).length c5) (.int .i64 hz))
      go_wp2
      obtain ⟨U, hU⟩ : ∃ U, U = (((((((w8.setCell ⟨w1.heap.size, 0, none⟩ (.string b.name)).setCell ⟨w1.heap.size, 1, none⟩ (.int .i64 b.valid)).setCell ⟨w1.heap.size, 2, none⟩ (.int .i64 b.next)).setCell ⟨w1.heap.size, 3, none⟩ (.int .i64 b.mod)).setCell ⟨w1.heap.size, 4, none⟩ (.slice al b.mails.length cl)).setCell ⟨w1.heap.size, 5, none⟩ (.slice a5 (leftL b upto).length c5)).setCell ⟨w1.heap.size, 6, none⟩ (.int .i64 hz)) := ⟨_, rfl⟩
      have F := unhide F
      rw [← hU] at F ⊢
      have v0 := F.obj.cell 0 rfl
      have v1 := F.obj.cell 1 rfl
      have v2 := F.obj.cell 2 rfl
      have v3 := F.obj.cell 3 rfl
      have v4 := F.obj.cell 4 rfl
      have v5 := F.obj.cell 5 rfl
      have v6 := F.obj.cell 6 rfl
      refine bodyPost_ret (by simp [results, Try.results25, go_sem, v0, v1, v2, v3, v4, v5, v6]; try rfl) rfl ?_
      have ef : forgetV b upto = { b with tombs := leftL b upto, hor := hz } := by rw [unhide V]; unfold forgot; rw [unhide EH]
      refine ⟨.slice al b.mails.length cl, .slice a5 (leftL b upto).length c5, by rw [ef], ?_, F.below loR (unhide BB)⟩
      rw [ef]
      exact ⟨g_based (F.row (by decide) (unhide OL)) (by have sz1_ := unhide sz1; have sz2_ := unhide sz2; have sz3_ := unhide sz3; have sz4_ := unhide sz4; have sz5_ := unhide sz5; have sz99_ := unhide sz99; have sz6_ := unhide sz6; omega), g_based (F.row (by decide) (unhide OT)) (by have sz1_ := unhide sz1; have sz2_ := unhide sz2; have sz3_ := unhide sz3; have sz4_ := unhide sz4; have sz5_ := unhide sz5; have sz99_ := unhide sz99; have sz6_ := unhide sz6; omega)⟩
end Go.Proofs.Ytmedhmgihfenhaa
