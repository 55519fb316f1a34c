/- The draw of FnPlaces. Made by gen_drawtl.py. -/
import Derived.Test.YtgdihceikhkddaaTv
import Derived.Test.YtgdihceikhkddaaDrawSeens
import Derived.Test.YtgdihceikhkddaaLate2
namespace Go.Proofs.Ytgdihceikhkddaa
open Go.RowKit Go.ChangeShapes Go.WideShapes Go.ChangeAt Go.Deep
open Plain
set_option linter.unusedVariables false
set_option linter.unusedSimpArgs false

set_option maxHeartbeats 16000000 in
set_option maxRecDepth 100000 in
theorem DrawTakeLine_any (B len cap : Nat) (a : Option Addr) (w : World) (ha : Arg B w a len) (hB : B ≤ w.heap.size) :
  Calls Try.prog 5 #[.slice a len cap] w fun e w' => ∃ (l : List Sn) (x : Ln) (v vx : Value), e = .returned (.tuple #[v, lnV x vx]) ∧ l.length ≤ 6 ∧ x.set.length ≤ 41 ∧ OwnSn w.heap.size w' v l ∧ OwnR w.heap.size w' vx x.set ∧ Below w.heap.size w w' := by
 have HA := hide ha; clear ha; have BB := hide (Below.refl w.heap.size w)
 obtain ⟨w1, hR⟩ : ∃ X, X = w.alloc (.cells ([.int .i64 0, .int .i64 0, .int .i64 0, .int .i64 0, .int .i64 0, .slice none 0 0, .bool false] : List Value).toArray 27) := ⟨_, rfl⟩
 have Rx : HasObj w1 w.heap.size 27 [.int .i64 0, .int .i64 0, .int .i64 0, .int .i64 0, .int .i64 0, .slice none 0 0, .bool false] := by rw [hR]; exact HasObj.new _ _ _
 have hbn : Below w.heap.size w w1 := by rw [hR]; exact (Below.refl _ _).alloc (Nat.le_refl _) _
 have loR : w.heap.size ≤ w.heap.size := (uh BB).size
 have ER := hR.symm; clear hR; have sz1 := hide (hbn.size); replace BB := hide (below_y (uh BB) hbn); clear hbn; have R := hide Rx; clear Rx
 go_enter Try.func5, Try.ntmps5
 go_wp2_with fail; clear ER
 refine (l01New_any B len cap a _ ((uh HA).below ((uh BB).mono hB)) (Nat.le_trans hB (uh BB).size)).mono ?_
 rintro e w2 ⟨rfl, hc, hg⟩
 have neC : w.heap.size < w1.heap.size := (uh R).lt
 obtain ⟨c, hcq⟩ : ∃ c, c = w1.heap.size := ⟨_, rfl⟩
 rw [← hcq] at hc neC ⊢
 clear hcq
 have hb : Below w1.heap.size w1 w2 := ⟨hg.os, hg.tape, hg.output, hg.size, fun k hk => hg.block k hk (by simp)⟩
 clear hg; have CU := hide hc; clear hc; replace R := hide ((uh R).ups hb); have sz2 := hide (hb.size); replace BB := hide (below_y (uh BB) hb); clear hb; go_wp2_with fail
 refine (l13Any_any B c _ (uh CU)).mono ?_
 rintro e w3 ⟨x, vx, rfl, hln, oX, hc, hg⟩
 obtain ⟨aX, cX, rfl⟩ := g_shape oX
 have oX := hide oX
 have LBX : Hid (w.heap.size ≤ w2.heap.size) := (uh BB).size
 have LCX : Hid (c < w2.heap.size) := (uh CU).lt.2
 replace R := hide ((uh R).kept hg (fun e => by have q1_ := Option.some.inj e; omega))
 have sz3 := hide (hg.size)
 replace BB := hide ((uh BB).grown hg (uh BB).size (fun b hb => by have q1_ := Option.some.inj hb; omega))
 clear CU; have CU := hide hc; clear hg hc; have X := oX; clear oX
 have cQ : c < w3.heap.size := (uh CU).lt.2
 obtain ⟨w4, hQ⟩ : ∃ X, X = w3.alloc (.cells ([.int .i64 x.kind, .int .i64 x.num, .int .i64 x.uid, .int .i64 x.flags, .int .i64 x.mod, .slice aX x.set.length cX, .bool x.all] : List Value).toArray 27) := ⟨_, rfl⟩
 have Qx : HasObj w4 w3.heap.size 27 [.int .i64 x.kind, .int .i64 x.num, .int .i64 x.uid, .int .i64 x.flags, .int .i64 x.mod, .slice aX x.set.length cX, .bool x.all] := by rw [hQ]; exact HasObj.new _ _ _
 have hbn : Below w3.heap.size w3 w4 := by rw [hQ]; exact (Below.refl _ _).alloc (Nat.le_refl _) _
 have neRQ : w.heap.size ≠ w3.heap.size := Nat.ne_of_lt (uh R).lt
 have loQ : w.heap.size ≤ w3.heap.size := (uh BB).size
 have EQ := hQ.symm; clear hQ
 replace CU := hide ((uh CU).kept (below_g0 hbn) (fun k hk => by cases hk))
 replace R := hide ((uh R).ups hbn); replace X := hide ((uh X).up hbn); have sz4 := hide (hbn.size); replace BB := hide (below_y (uh BB) hbn); clear hbn; have Q := hide Qx; clear Qx; have Qc0_1 := (uh Q).cell 0 rfl; have Qc1_1 := (uh Q).cell 1 rfl; have Qc2_1 := (uh Q).cell 2 rfl; have Qc3_1 := (uh Q).cell 3 rfl; have Qc4_1 := (uh Q).cell 4 rfl; have Qc5_1 := (uh Q).cell 5 rfl; have Qc6_1 := (uh Q).cell 6 rfl
 go_wp2
 clear Qc0_1 Qc1_1 Qc2_1 Qc3_1 Qc4_1 Qc5_1 Qc6_1 EQ
 refine lat2Begin (S := fun w' => w'.cell? ⟨w3.heap.size, 0, none⟩ = some (.int .i64 x.kind) ∧ w'.cell? ⟨w3.heap.size, 1, none⟩ = some (.int .i64 x.num) ∧ w'.cell? ⟨w3.heap.size, 2, none⟩ = some (.int .i64 x.uid) ∧ w'.cell? ⟨w3.heap.size, 3, none⟩ = some (.int .i64 x.flags) ∧ w'.cell? ⟨w3.heap.size, 4, none⟩ = some (.int .i64 x.mod) ∧ w'.cell? ⟨w3.heap.size, 5, none⟩ = some (.slice aX x.set.length cX) ∧ w'.cell? ⟨w3.heap.size, 6, none⟩ = some (.bool x.all)) 4 (by kernel_rfl) (⟨(uh Q).cell 0 rfl, (uh Q).cell 1 rfl, (uh Q).cell 2 rfl, (uh Q).cell 3 rfl, (uh Q).cell 4 rfl, (uh Q).cell 5 rfl, (uh Q).cell 6 rfl⟩) (fun hHeld => ?_)
 replace CU : Hid (Cur B w4.drew c) := (uh CU).kept (g_drew (g_self _ none)) (fun k hk => by cases hk)
 replace R := hide ((uh R).drew); replace Q := hide ((uh Q).drew); replace X := hide ((uh X).drew); replace BB := hide ((uh BB).drew)
 have sz5 : Hid (w4.heap.size ≤ w4.drew.heap.size) := Nat.le_refl _
 refine lat2Take 0 (some 10) ?_ rfl (by kernel_rfl) (by kernel_rfl) (by kernel_rfl) (by kernel_rfl) rfl (fun _ _ _ h => h) (by rfl) (by assumption) ?_ ?_; rotate_left; (intro w hSw; (try dsimp only at hSw); go_simp <;> with_reducible rfl); simp only [Act.put, p1, p2, p3]
 refine lat2Take 2 (some 12) ?_ rfl (by kernel_rfl) (by kernel_rfl) (by kernel_rfl) (by kernel_rfl) rfl (fun _ _ _ h => h) (by rfl) (by assumption) ?_ ?_; rotate_left; (intro w hSw; (try dsimp only at hSw); go_simp <;> with_reducible rfl); simp only [Act.put, p1, p2, p3]
 refine lat2Step 1 (by kernel_rfl) rfl (by rfl) (fun K hK => ?_)
 go_simp
 refine (l13Seens_any B c _ (uh CU)).mono ?_
 rintro e w5 ⟨l, vl, rfl, hl6, oL, hc, hg⟩
 obtain ⟨aL, cL, rfl⟩ := g_shape oL
 have oL := hide oL
 have LBL : Hid (w.heap.size ≤ w4.drew.heap.size) := (uh BB).size
 replace R := hide ((uh R).kept hg (fun e => by have q1_ := Option.some.inj e; omega))
 replace Q := hide ((uh Q).kept hg (fun e => by have q1_ := Option.some.inj e; omega))
 replace X : Hid (OwnR w2.heap.size w5 (.slice aX x.set.length cX) (x.set)) := g_aside (uh X) hg (fun z hz hz2 => by have q1_ := Option.some.inj hz; have q2_ := (World.ownsRow.lt (uh X) z hz2).1; have q3_ := uh LCX; omega)
 have sz6 := hide (hg.size)
 replace BB := hide ((uh BB).grown hg (uh BB).size (fun b hb => by have q1_ := Option.some.inj hb; omega))
 clear CU; have CU := hide hc; clear hg hc; have L := oL; clear oL; go_wp2_with fail
 refine hK.out _ _ (⟨(uh Q).cell 0 rfl, (uh Q).cell 1 rfl, (uh Q).cell 2 rfl, (uh Q).cell 3 rfl, (uh Q).cell 4 rfl, (uh Q).cell 5 rfl, (uh Q).cell 6 rfl⟩) (fun hHeld2 => ?_)
 clear hK K hHeld; have hHeld := hHeld2; clear hHeld2
 try simp only [Act.put, p1, p2, p3]
 refine lat2Take 3 (some 2) ?_ rfl (by kernel_rfl) (by kernel_rfl) (by kernel_rfl) (by kernel_rfl) rfl (fun _ _ _ h => h) (by rfl) (by assumption) ?_ ?_; rotate_left; (intro w hSw; (try dsimp only at hSw); go_simp <;> with_reducible rfl); simp only [Act.put, p1, p2, p3]
 have Rf0 := (uh R).frozen 0; have Rf1 := (uh R).frozen 1; have Rf2 := (uh R).frozen 2; have Rf3 := (uh R).frozen 3; have Rf4 := (uh R).frozen 4; have Rf5 := (uh R).frozen 5; have Rf6 := (uh R).frozen 6; have Re0 := (uh R).cell 0 rfl; have Re1 := (uh R).cell 1 rfl; have Re2 := (uh R).cell 2 rfl; have Re3 := (uh R).cell 3 rfl; have Re4 := (uh R).cell 4 rfl; have Re5 := (uh R).cell 5 rfl; have Re6 := (uh R).cell 6 rfl; have F_ := hide (fill7 (uh R) (.int .i64 x.kind) (.int .i64 x.num) (.int .i64 x.uid) (.int .i64 x.flags) (.int .i64 x.mod) (.slice aX x.set.length cX) (.bool x.all))
 refine lat2Last 4 (by decide) (by kernel_rfl) rfl (by rfl) (fun K hK => ?_)
 go_simp
 refine hK.out _ _ ?_
 clear hK K hHeld
 try simp only [Act.put, p1, p2, p3]
 obtain ⟨w6, hU⟩ : ∃ U, U = (((((((w5.setCell ⟨w.heap.size, 0, none⟩ (.int .i64 x.kind)).setCell ⟨w.heap.size, 1, none⟩ (.int .i64 x.num)).setCell ⟨w.heap.size, 2, none⟩ (.int .i64 x.uid)).setCell ⟨w.heap.size, 3, none⟩ (.int .i64 x.flags)).setCell ⟨w.heap.size, 4, none⟩ (.int .i64 x.mod)).setCell ⟨w.heap.size, 5, none⟩ (.slice aX x.set.length cX)).setCell ⟨w.heap.size, 6, none⟩ (.bool x.all)) := ⟨_, rfl⟩
 have F := uh F_
 rw [← hU] at F ⊢
 clear hU F_; clear Rf0 Rf1 Rf2 Rf3 Rf4 Rf5 Rf6 Re0 Re1 Re2 Re3 Re4 Re5 Re6
 have X_ : Hid (OwnR w2.heap.size w6 (.slice aX x.set.length cX) (x.set)) := F.row (by decide) (uh X)
 have L_ : Hid (OwnSn w4.drew.heap.size w6 (.slice aL l.length cL) (l)) := F.row (by decide) (uh L)
 have BB_ : Hid (Below w.heap.size w w6) := F.below loR (uh BB)
 have FO := F.obj
 refine lat2Done (by kernel_rfl) ?_ _
 have v0 := FO.cell 0 rfl; have v1 := FO.cell 1 rfl; have v2 := FO.cell 2 rfl; have v3 := FO.cell 3 rfl; have v4 := FO.cell 4 rfl; have v5 := FO.cell 5 rfl; have v6 := FO.cell 6 rfl
 go_wp2_with (refine bodyPost_ret (by simp [results, Try.results5, go_sem, v0, v1, v2, v3, v4, v5, v6]; try rfl) rfl ?_)
 exact ⟨l, x, _, _, rfl, hl6, hln, g_based (uh L_) (uh LBL), g_based (uh X_) (uh LBX), uh BB_⟩
end Go.Proofs.Ytgdihceikhkddaa
