/- The draws of lines and of what one knows of a box. Made by gen_drawline.py. -/
import Derived.Test.YtgdihceikhkddaaLnVal
import Derived.Test.YtgdihceikhkddaaSeenRow
import Derived.Test.YtgdihceikhkddaaDrawTold
import Derived.Test.YtgdihceikhkddaaRegA
import Derived.Test.YtgdihceikhkddaaFlagRows
namespace Go.Proofs.Ytgdihceikhkddaa
open Go.RowKit Go.ChangeShapes Go.WideShapes Go.ChangeAt Go.Deep
open Plain
set_option linter.unusedVariables false
set_option linter.unusedSimpArgs false

theorem below_g0 {w w' : World} (h : Below w.heap.size w w') : w.grownBy w' none := ⟨h.os, h.tape, h.output, h.size, fun k hk _ => h.block k hk⟩
set_option maxHeartbeats 16000000 in
set_option maxRecDepth 100000 in
theorem l13Line_any (B c : Nat) (w : World) (hc : Cur B w c) :
  Calls Try.prog 20 #[.pointer (some ⟨c, 0, none⟩)] w fun e w' => ∃ (x : Ln) (v : Value), e = .returned (lnV x v) ∧ x.set.length ≤ 41 ∧ OwnR w.heap.size w' v x.set ∧ Cur B w' c ∧ w.grownBy w' (some c) := by
 have hcl := hc.lt.2
 have CLO : Hid (c < w.heap.size) := hcl
 have CU := hide hc; have BB := hide (g_self w (some c))
 have LIT := hide (fun (W : World) (n : Nat) (z : Int) (hz : z = (n : Int)) (hC : Cur B W c) (h0 : 0 < n) (h1 : n ≤ 4294967296) => belowS_lit B c n z hz W hC h0 h1)
 clear hc
 obtain ⟨w1, hR⟩ : ∃ X, X = w.alloc (.cells ([.int .i64 0, .int .i64 0, .int .i64 0, .int .i64 0, .int .i64 0, .slice none 0 0, .bool false] : List Value).toArray 27) := ⟨_, rfl⟩
 have Rx : HasObj w1 w.heap.size 27 [.int .i64 0, .int .i64 0, .int .i64 0, .int .i64 0, .int .i64 0, .slice none 0 0, .bool false] := by rw [hR]; exact HasObj.new _ _ _
 have hbn : Below w.heap.size w w1 := by rw [hR]; exact (Below.refl _ _).alloc (Nat.le_refl _) _
 have loR : w.heap.size ≤ w.heap.size := (uh BB).size
 have ER := hR.symm; clear hR
 replace CU := hide ((uh CU).kept (below_g0 hbn) (fun k hk => by cases hk))
 have sz1 := hide (hbn.size); replace BB := hide (g_then (uh BB) hbn); clear hbn; have R := hide Rx; clear Rx
 go_enter Try.func20, Try.ntmps20
 go_wp2_with fail; clear ER
 refine (uh LIT _ 9 9 rfl (uh CU) (by decide) (by decide)).mono ?_
 rintro e w2 ⟨x, hx, rfl, hc, hg⟩
 replace R := hide ((uh R).kept hg (fun e => by have q1_ := Option.some.inj e; omega))
 have sz2 := hide (hg.size); replace BB := hide (g_join (uh BB) hg); clear CU; have CU := hide hc; clear hg hc
 have hx9 : x = 0 ∨ x = 1 ∨ x = 2 ∨ x = 3 ∨ x = 4 ∨ x = 5 ∨ x = 6 ∨ x = 7 ∨ x = 8 := by omega
 rcases hx9 with e9 | e9 | e9 | e9 | e9 | e9 | e9 | e9 | e9
 ·have n1 : IntKind.i64.wrap (1 + (x : Int)) = 1 := by rw [IntKind.wrap_i64]; omega
  clear hx e9
  obtain ⟨wk13, hQ⟩ : ∃ X, X = w2.alloc (.cells ([.int .i64 1, .int .i64 0, .int .i64 0, .int .i64 0, .int .i64 0, .slice none 0 0, .bool false] : List Value).toArray 27) := ⟨_, rfl⟩
  have Qx : HasObj wk13 w2.heap.size 27 [.int .i64 1, .int .i64 0, .int .i64 0, .int .i64 0, .int .i64 0, .slice none 0 0, .bool false] := by rw [hQ]; exact HasObj.new _ _ _
  have hbn : Below w2.heap.size w2 wk13 := by rw [hQ]; exact (Below.refl _ _).alloc (Nat.le_refl _) _
  have neRQ : w.heap.size ≠ w2.heap.size := Nat.ne_of_lt (uh R).lt
  have loQ : w.heap.size ≤ w2.heap.size := (uh BB).size
  have EQ := hQ.symm; clear hQ
  replace CU := hide ((uh CU).kept (below_g0 hbn) (fun k hk => by cases hk))
  replace R := hide ((uh R).ups hbn); have sz3 := hide (hbn.size); replace BB := hide (g_then (uh BB) hbn); clear hbn; have Q := hide Qx; clear Qx; replace EQ := hide EQ; go_wp2_with fail; clear n1
  rw [uh EQ]
  clear EQ
  refine (uh LIT _ 9 9 rfl (uh CU) (by decide) (by decide)).mono ?_
  rintro e wk14 ⟨x1, hx1, rfl, hc, hg⟩
  replace R := hide ((uh R).kept hg (fun e => by have q1_ := Option.some.inj e; omega))
  replace Q := hide ((uh Q).kept hg (fun e => by have q1_ := Option.some.inj e; omega))
  have sz4 := hide (hg.size); replace BB := hide (g_join (uh BB) hg); clear CU; have CU := hide hc; clear hg hc
  obtain ⟨n, hn⟩ : ∃ z : Int, z = 1 + (x1 : Int) := ⟨_, rfl⟩
  have nn : IntKind.i64.wrap (1 + (x1 : Int)) = n := by rw [IntKind.wrap_i64]; omega
  clear hn
  have CUS := hide (fun v => (uh CU).kept (g_store (j := 1) (g_self wk14 (some (w2.heap.size))) v) (fun k hk => by have q1_ := Option.some.inj hk; have q2_ := uh CLO; omega))
  have Qfz1_1 := (uh Q).frozen 1; have Qcz1_1 := (uh Q).cell 1 rfl
  obtain ⟨wk15, hst⟩ : ∃ X, X = wk14.setCell ⟨w2.heap.size, 1, none⟩ (.int .i64 n) := ⟨_, rfl⟩
  have R_ := hide ((uh R).other (j := 1) neRQ (.int .i64 n))
  rw [← hst] at R_
  have Q_ := hide ((uh Q).set 1 (.int .i64 n))
  rw [← hst] at Q_
  have BB_ := hide (g_setnew (j := 1) (uh BB) loQ (.int .i64 n))
  rw [← hst] at BB_
  have sz5 : Hid (wk14.heap.size ≤ wk15.heap.size) := by show _ ≤ _; rw [hst]; simp
  replace R := R_; clear R_; replace Q := Q_; clear Q_; replace BB := BB_; clear BB_; have Est5 := hst.symm; clear hst; have CU_ := hide (uh CUS (.int .i64 n))
  rw [Est5] at CU_
  clear CU CUS; have CU := CU_; clear CU_; have Qc0_2 := (uh Q).cell 0 rfl; have Qc1_2 := (uh Q).cell 1 rfl; have Qc2_2 := (uh Q).cell 2 rfl; have Qc3_2 := (uh Q).cell 3 rfl; have Qc4_2 := (uh Q).cell 4 rfl; have Qc5_2 := (uh Q).cell 5 rfl; have Qc6_2 := (uh Q).cell 6 rfl; have Rf0 := (uh R).frozen 0; have Rf1 := (uh R).frozen 1; have Rf2 := (uh R).frozen 2; have Rf3 := (uh R).frozen 3; have Rf4 := (uh R).frozen 4; have Rf5 := (uh R).frozen 5; have Rf6 := (uh R).frozen 6; have Re0 := (uh R).cell 0 rfl; have Re1 := (uh R).cell 1 rfl; have Re2 := (uh R).cell 2 rfl; have Re3 := (uh R).cell 3 rfl; have Re4 := (uh R).cell 4 rfl; have Re5 := (uh R).cell 5 rfl; have Re6 := (uh R).cell 6 rfl; have F := hide (fill7 (uh R) (.int .i64 1) (.int .i64 n) (.int .i64 0) (.int .i64 0) (.int .i64 0) (.slice none 0 0) (.bool false))
  obtain ⟨U, hU⟩ : ∃ U, U = (((((((wk15.setCell ⟨w.heap.size, 0, none⟩ (.int .i64 1)).setCell ⟨w.heap.size, 1, none⟩ (.int .i64 n)).setCell ⟨w.heap.size, 2, none⟩ (.int .i64 0)).setCell ⟨w.heap.size, 3, none⟩ (.int .i64 0)).setCell ⟨w.heap.size, 4, none⟩ (.int .i64 0)).setCell ⟨w.heap.size, 5, none⟩ (.slice none 0 0)).setCell ⟨w.heap.size, 6, none⟩ (.bool false)) := ⟨_, rfl⟩
  have F9 := uh F
  rw [← hU] at F9
  have GU : wk15.grownBy U (some (w.heap.size)) := by rw [hU]; exact g_store (g_store (g_store (g_store (g_store (g_store (g_store (g_self _ _) _) _) _) _) _) _) _
  have GU := hide GU; have EU := hU.symm; clear F hU; have v0 := F9.obj.cell 0 rfl; have v1 := F9.obj.cell 1 rfl; have v2 := F9.obj.cell 2 rfl; have v3 := F9.obj.cell 3 rfl; have v4 := F9.obj.cell 4 rfl; have v5 := F9.obj.cell 5 rfl; have v6 := F9.obj.cell 6 rfl; have F := hide F9; clear F9
  go_wp2_with (refine bodyPost_ret (by simp [results, Try.results20, go_sem, v0, v1, v2, v3, v4, v5, v6]; try rfl) rfl ?_)
  clear EU; have F := uh F
  exact ⟨⟨1, n, 0, 0, 0, [], false⟩, _, rfl, Nat.zero_le _, World.ownsRow_nil _ _ _ _, (uh CU).kept (uh GU) (fun k hk => by have q1_ := Option.some.inj hk; have q2_ := uh CLO; omega), g_new (uh BB) (uh GU) (fun k hk => by have q1_ := Option.some.inj hk; omega)⟩
 ·have n1 : IntKind.i64.wrap (1 + (x : Int)) = 2 := by rw [IntKind.wrap_i64]; omega
  clear hx e9
  obtain ⟨wk23, hQ⟩ : ∃ X, X = w2.alloc (.cells ([.int .i64 2, .int .i64 0, .int .i64 0, .int .i64 0, .int .i64 0, .slice none 0 0, .bool false] : List Value).toArray 27) := ⟨_, rfl⟩
  have Qx : HasObj wk23 w2.heap.size 27 [.int .i64 2, .int .i64 0, .int .i64 0, .int .i64 0, .int .i64 0, .slice none 0 0, .bool false] := by rw [hQ]; exact HasObj.new _ _ _
  have hbn : Below w2.heap.size w2 wk23 := by rw [hQ]; exact (Below.refl _ _).alloc (Nat.le_refl _) _
  have neRQ : w.heap.size ≠ w2.heap.size := Nat.ne_of_lt (uh R).lt
  have loQ : w.heap.size ≤ w2.heap.size := (uh BB).size
  have EQ := hQ.symm; clear hQ
  replace CU := hide ((uh CU).kept (below_g0 hbn) (fun k hk => by cases hk))
  replace R := hide ((uh R).ups hbn); have sz3 := hide (hbn.size); replace BB := hide (g_then (uh BB) hbn); clear hbn; have Q := hide Qx; clear Qx; replace EQ := hide EQ; go_wp2_with fail; clear n1
  rw [uh EQ]
  clear EQ
  refine (uh LIT _ 9 9 rfl (uh CU) (by decide) (by decide)).mono ?_
  rintro e wk24 ⟨x1, hx1, rfl, hc, hg⟩
  replace R := hide ((uh R).kept hg (fun e => by have q1_ := Option.some.inj e; omega))
  replace Q := hide ((uh Q).kept hg (fun e => by have q1_ := Option.some.inj e; omega))
  have sz4 := hide (hg.size); replace BB := hide (g_join (uh BB) hg); clear CU; have CU := hide hc; clear hg hc
  obtain ⟨n, hn⟩ : ∃ z : Int, z = 1 + (x1 : Int) := ⟨_, rfl⟩
  have nn : IntKind.i64.wrap (1 + (x1 : Int)) = n := by rw [IntKind.wrap_i64]; omega
  clear hn
  have CUS := hide (fun v => (uh CU).kept (g_store (j := 1) (g_self wk24 (some (w2.heap.size))) v) (fun k hk => by have q1_ := Option.some.inj hk; have q2_ := uh CLO; omega))
  have Qfz1_1 := (uh Q).frozen 1; have Qcz1_1 := (uh Q).cell 1 rfl
  obtain ⟨wk25, hst⟩ : ∃ X, X = wk24.setCell ⟨w2.heap.size, 1, none⟩ (.int .i64 n) := ⟨_, rfl⟩
  have R_ := hide ((uh R).other (j := 1) neRQ (.int .i64 n))
  rw [← hst] at R_
  have Q_ := hide ((uh Q).set 1 (.int .i64 n))
  rw [← hst] at Q_
  have BB_ := hide (g_setnew (j := 1) (uh BB) loQ (.int .i64 n))
  rw [← hst] at BB_
  have sz5 : Hid (wk24.heap.size ≤ wk25.heap.size) := by show _ ≤ _; rw [hst]; simp
  replace R := R_; clear R_; replace Q := Q_; clear Q_; replace BB := BB_; clear BB_; have Est5 := hst.symm; clear hst; have CU_ := hide (uh CUS (.int .i64 n))
  rw [Est5] at CU_
  clear CU CUS; have CU := CU_; clear CU_; have Qc0_2 := (uh Q).cell 0 rfl; have Qc1_2 := (uh Q).cell 1 rfl; have Qc2_2 := (uh Q).cell 2 rfl; have Qc3_2 := (uh Q).cell 3 rfl; have Qc4_2 := (uh Q).cell 4 rfl; have Qc5_2 := (uh Q).cell 5 rfl; have Qc6_2 := (uh Q).cell 6 rfl; have Rf0 := (uh R).frozen 0; have Rf1 := (uh R).frozen 1; have Rf2 := (uh R).frozen 2; have Rf3 := (uh R).frozen 3; have Rf4 := (uh R).frozen 4; have Rf5 := (uh R).frozen 5; have Rf6 := (uh R).frozen 6; have Re0 := (uh R).cell 0 rfl; have Re1 := (uh R).cell 1 rfl; have Re2 := (uh R).cell 2 rfl; have Re3 := (uh R).cell 3 rfl; have Re4 := (uh R).cell 4 rfl; have Re5 := (uh R).cell 5 rfl; have Re6 := (uh R).cell 6 rfl; have F := hide (fill7 (uh R) (.int .i64 2) (.int .i64 n) (.int .i64 0) (.int .i64 0) (.int .i64 0) (.slice none 0 0) (.bool false))
  obtain ⟨U, hU⟩ : ∃ U, U = (((((((wk25.setCell ⟨w.heap.size, 0, none⟩ (.int .i64 2)).setCell ⟨w.heap.size, 1, none⟩ (.int .i64 n)).setCell ⟨w.heap.size, 2, none⟩ (.int .i64 0)).setCell ⟨w.heap.size, 3, none⟩ (.int .i64 0)).setCell ⟨w.heap.size, 4, none⟩ (.int .i64 0)).setCell ⟨w.heap.size, 5, none⟩ (.slice none 0 0)).setCell ⟨w.heap.size, 6, none⟩ (.bool false)) := ⟨_, rfl⟩
  have F9 := uh F
  rw [← hU] at F9
  have GU : wk25.grownBy U (some (w.heap.size)) := by rw [hU]; exact g_store (g_store (g_store (g_store (g_store (g_store (g_store (g_self _ _) _) _) _) _) _) _) _
  have GU := hide GU; have EU := hU.symm; clear F hU; have v0 := F9.obj.cell 0 rfl; have v1 := F9.obj.cell 1 rfl; have v2 := F9.obj.cell 2 rfl; have v3 := F9.obj.cell 3 rfl; have v4 := F9.obj.cell 4 rfl; have v5 := F9.obj.cell 5 rfl; have v6 := F9.obj.cell 6 rfl; have F := hide F9; clear F9
  go_wp2_with (refine bodyPost_ret (by simp [results, Try.results20, go_sem, v0, v1, v2, v3, v4, v5, v6]; try rfl) rfl ?_)
  clear EU; have F := uh F
  exact ⟨⟨2, n, 0, 0, 0, [], false⟩, _, rfl, Nat.zero_le _, World.ownsRow_nil _ _ _ _, (uh CU).kept (uh GU) (fun k hk => by have q1_ := Option.some.inj hk; have q2_ := uh CLO; omega), g_new (uh BB) (uh GU) (fun k hk => by have q1_ := Option.some.inj hk; omega)⟩
 ·have n1 : IntKind.i64.wrap (1 + (x : Int)) = 3 := by rw [IntKind.wrap_i64]; omega
  clear hx e9
  obtain ⟨wk33, hQ⟩ : ∃ X, X = w2.alloc (.cells ([.int .i64 3, .int .i64 0, .int .i64 0, .int .i64 0, .int .i64 0, .slice none 0 0, .bool false] : List Value).toArray 27) := ⟨_, rfl⟩
  have Qx : HasObj wk33 w2.heap.size 27 [.int .i64 3, .int .i64 0, .int .i64 0, .int .i64 0, .int .i64 0, .slice none 0 0, .bool false] := by rw [hQ]; exact HasObj.new _ _ _
  have hbn : Below w2.heap.size w2 wk33 := by rw [hQ]; exact (Below.refl _ _).alloc (Nat.le_refl _) _
  have neRQ : w.heap.size ≠ w2.heap.size := Nat.ne_of_lt (uh R).lt
  have loQ : w.heap.size ≤ w2.heap.size := (uh BB).size
  have EQ := hQ.symm; clear hQ
  replace CU := hide ((uh CU).kept (below_g0 hbn) (fun k hk => by cases hk))
  replace R := hide ((uh R).ups hbn); have sz3 := hide (hbn.size); replace BB := hide (g_then (uh BB) hbn); clear hbn; have Q := hide Qx; clear Qx; replace EQ := hide EQ; go_wp2_with fail; clear n1
  rw [uh EQ]
  clear EQ
  refine (uh LIT _ 5 5 rfl (uh CU) (by decide) (by decide)).mono ?_
  rintro e wk34 ⟨x1, hx1, rfl, hc, hg⟩
  replace R := hide ((uh R).kept hg (fun e => by have q1_ := Option.some.inj e; omega))
  replace Q := hide ((uh Q).kept hg (fun e => by have q1_ := Option.some.inj e; omega))
  have sz4 := hide (hg.size); replace BB := hide (g_join (uh BB) hg); clear CU; have CU := hide hc; clear hg hc
  obtain ⟨n, hn⟩ : ∃ z : Int, z = 1 + (x1 : Int) := ⟨_, rfl⟩
  have nn : IntKind.i64.wrap (1 + (x1 : Int)) = n := by rw [IntKind.wrap_i64]; omega
  clear hn
  have CUS := hide (fun v => (uh CU).kept (g_store (j := 1) (g_self wk34 (some (w2.heap.size))) v) (fun k hk => by have q1_ := Option.some.inj hk; have q2_ := uh CLO; omega))
  have Qfz1_1 := (uh Q).frozen 1; have Qcz1_1 := (uh Q).cell 1 rfl
  obtain ⟨wk35, hst⟩ : ∃ X, X = wk34.setCell ⟨w2.heap.size, 1, none⟩ (.int .i64 n) := ⟨_, rfl⟩
  have R_ := hide ((uh R).other (j := 1) neRQ (.int .i64 n))
  rw [← hst] at R_
  have Q_ := hide ((uh Q).set 1 (.int .i64 n))
  rw [← hst] at Q_
  have BB_ := hide (g_setnew (j := 1) (uh BB) loQ (.int .i64 n))
  rw [← hst] at BB_
  have sz5 : Hid (wk34.heap.size ≤ wk35.heap.size) := by show _ ≤ _; rw [hst]; simp
  replace R := R_; clear R_; replace Q := Q_; clear Q_; replace BB := BB_; clear BB_; have Est5 := hst.symm; clear hst; have CU_ := hide (uh CUS (.int .i64 n))
  rw [Est5] at CU_
  clear CU CUS; have CU := CU_; clear CU_; go_wp2_with fail; clear Qfz1_1 Qcz1_1 nn Est5
  refine (uh LIT _ 20 20 rfl (uh CU) (by decide) (by decide)).mono ?_
  rintro e wk36 ⟨x2, hx2, rfl, hc, hg⟩
  replace R := hide ((uh R).kept hg (fun e => by have q1_ := Option.some.inj e; omega))
  replace Q := hide ((uh Q).kept hg (fun e => by have q1_ := Option.some.inj e; omega))
  have sz6 := hide (hg.size); replace BB := hide (g_join (uh BB) hg); clear CU; have CU := hide hc; clear hg hc
  obtain ⟨u, hu⟩ : ∃ z : Int, z = 1 + (x2 : Int) := ⟨_, rfl⟩
  have nu : IntKind.i64.wrap (1 + (x2 : Int)) = u := by rw [IntKind.wrap_i64]; omega
  clear hu
  have CUS := hide (fun v => (uh CU).kept (g_store (j := 2) (g_self wk36 (some (w2.heap.size))) v) (fun k hk => by have q1_ := Option.some.inj hk; have q2_ := uh CLO; omega))
  have Qfz2_2 := (uh Q).frozen 2; have Qcz2_2 := (uh Q).cell 2 rfl
  obtain ⟨wk37, hst⟩ : ∃ X, X = wk36.setCell ⟨w2.heap.size, 2, none⟩ (.int .i64 u) := ⟨_, rfl⟩
  have R_ := hide ((uh R).other (j := 2) neRQ (.int .i64 u))
  rw [← hst] at R_
  have Q_ := hide ((uh Q).set 2 (.int .i64 u))
  rw [← hst] at Q_
  have BB_ := hide (g_setnew (j := 2) (uh BB) loQ (.int .i64 u))
  rw [← hst] at BB_
  have sz7 : Hid (wk36.heap.size ≤ wk37.heap.size) := by show _ ≤ _; rw [hst]; simp
  replace R := R_; clear R_; replace Q := Q_; clear Q_; replace BB := BB_; clear BB_; have Est7 := hst.symm; clear hst; have CU_ := hide (uh CUS (.int .i64 u))
  rw [Est7] at CU_
  clear CU CUS; have CU := CU_; clear CU_; go_wp2_with fail; clear Qfz2_2 Qcz2_2 nu Est7
  refine (uh LIT _ 32 32 rfl (uh CU) (by decide) (by decide)).mono ?_
  rintro e wk38 ⟨f, hf, rfl, hc, hg⟩
  replace R := hide ((uh R).kept hg (fun e => by have q1_ := Option.some.inj e; omega))
  replace Q := hide ((uh Q).kept hg (fun e => by have q1_ := Option.some.inj e; omega))
  have sz8 := hide (hg.size); replace BB := hide (g_join (uh BB) hg); clear CU; have CU := hide hc; clear hg hc
  have CUS := hide (fun v => (uh CU).kept (g_store (j := 3) (g_self wk38 (some (w2.heap.size))) v) (fun k hk => by have q1_ := Option.some.inj hk; have q2_ := uh CLO; omega))
  have Qfz3_3 := (uh Q).frozen 3; have Qcz3_3 := (uh Q).cell 3 rfl
  obtain ⟨wk39, hst⟩ : ∃ X, X = wk38.setCell ⟨w2.heap.size, 3, none⟩ (.int .i64 (f : Int)) := ⟨_, rfl⟩
  have R_ := hide ((uh R).other (j := 3) neRQ (.int .i64 (f : Int)))
  rw [← hst] at R_
  have Q_ := hide ((uh Q).set 3 (.int .i64 (f : Int)))
  rw [← hst] at Q_
  have BB_ := hide (g_setnew (j := 3) (uh BB) loQ (.int .i64 (f : Int)))
  rw [← hst] at BB_
  have sz9 : Hid (wk38.heap.size ≤ wk39.heap.size) := by show _ ≤ _; rw [hst]; simp
  replace R := R_; clear R_; replace Q := Q_; clear Q_; replace BB := BB_; clear BB_; have Est9 := hst.symm; clear hst; have CU_ := hide (uh CUS (.int .i64 (f : Int)))
  rw [Est9] at CU_
  clear CU CUS; have CU := CU_; clear CU_; go_wp2_with fail; clear Qfz3_3 Qcz3_3 Est9
  refine (uh LIT _ 30 30 rfl (uh CU) (by decide) (by decide)).mono ?_
  rintro e wk310 ⟨x4, hx4, rfl, hc, hg⟩
  replace R := hide ((uh R).kept hg (fun e => by have q1_ := Option.some.inj e; omega))
  replace Q := hide ((uh Q).kept hg (fun e => by have q1_ := Option.some.inj e; omega))
  have sz10 := hide (hg.size); replace BB := hide (g_join (uh BB) hg); clear CU; have CU := hide hc; clear hg hc
  obtain ⟨m, hm⟩ : ∃ z : Int, z = 1 + (x4 : Int) := ⟨_, rfl⟩
  have nm : IntKind.i64.wrap (1 + (x4 : Int)) = m := by rw [IntKind.wrap_i64]; omega
  clear hm
  have CUS := hide (fun v => (uh CU).kept (g_store (j := 4) (g_self wk310 (some (w2.heap.size))) v) (fun k hk => by have q1_ := Option.some.inj hk; have q2_ := uh CLO; omega))
  have Qfz4_4 := (uh Q).frozen 4; have Qcz4_4 := (uh Q).cell 4 rfl
  obtain ⟨wk311, hst⟩ : ∃ X, X = wk310.setCell ⟨w2.heap.size, 4, none⟩ (.int .i64 m) := ⟨_, rfl⟩
  have R_ := hide ((uh R).other (j := 4) neRQ (.int .i64 m))
  rw [← hst] at R_
  have Q_ := hide ((uh Q).set 4 (.int .i64 m))
  rw [← hst] at Q_
  have BB_ := hide (g_setnew (j := 4) (uh BB) loQ (.int .i64 m))
  rw [← hst] at BB_
  have sz11 : Hid (wk310.heap.size ≤ wk311.heap.size) := by show _ ≤ _; rw [hst]; simp
  replace R := R_; clear R_; replace Q := Q_; clear Q_; replace BB := BB_; clear BB_; have Est11 := hst.symm; clear hst; have CU_ := hide (uh CUS (.int .i64 m))
  rw [Est11] at CU_
  clear CU CUS; have CU := CU_; clear CU_; have Qc0_5 := (uh Q).cell 0 rfl; have Qc1_5 := (uh Q).cell 1 rfl; have Qc2_5 := (uh Q).cell 2 rfl; have Qc3_5 := (uh Q).cell 3 rfl; have Qc4_5 := (uh Q).cell 4 rfl; have Qc5_5 := (uh Q).cell 5 rfl; have Qc6_5 := (uh Q).cell 6 rfl; have Rf0 := (uh R).frozen 0; have Rf1 := (uh R).frozen 1; have Rf2 := (uh R).frozen 2; have Rf3 := (uh R).frozen 3; have Rf4 := (uh R).frozen 4; have Rf5 := (uh R).frozen 5; have Rf6 := (uh R).frozen 6; have Re0 := (uh R).cell 0 rfl; have Re1 := (uh R).cell 1 rfl; have Re2 := (uh R).cell 2 rfl; have Re3 := (uh R).cell 3 rfl; have Re4 := (uh R).cell 4 rfl; have Re5 := (uh R).cell 5 rfl; have Re6 := (uh R).cell 6 rfl; have F := hide (fill7 (uh R) (.int .i64 3) (.int .i64 n) (.int .i64 u) (.int .i64 (f : Int)) (.int .i64 m) (.slice none 0 0) (.bool false))
  obtain ⟨U, hU⟩ : ∃ U, U = (((((((wk311.setCell ⟨w.heap.size, 0, none⟩ (.int .i64 3)).setCell ⟨w.heap.size, 1, none⟩ (.int .i64 n)).setCell ⟨w.heap.size, 2, none⟩ (.int .i64 u)).setCell ⟨w.heap.size, 3, none⟩ (.int .i64 (f : Int))).setCell ⟨w.heap.size, 4, none⟩ (.int .i64 m)).setCell ⟨w.heap.size, 5, none⟩ (.slice none 0 0)).setCell ⟨w.heap.size, 6, none⟩ (.bool false)) := ⟨_, rfl⟩
  have F9 := uh F
  rw [← hU] at F9
  have GU : wk311.grownBy U (some (w.heap.size)) := by rw [hU]; exact g_store (g_store (g_store (g_store (g_store (g_store (g_store (g_self _ _) _) _) _) _) _) _) _
  have GU := hide GU; have EU := hU.symm; clear F hU; have v0 := F9.obj.cell 0 rfl; have v1 := F9.obj.cell 1 rfl; have v2 := F9.obj.cell 2 rfl; have v3 := F9.obj.cell 3 rfl; have v4 := F9.obj.cell 4 rfl; have v5 := F9.obj.cell 5 rfl; have v6 := F9.obj.cell 6 rfl; have F := hide F9; clear F9
  go_wp2_with (refine bodyPost_ret (by simp [results, Try.results20, go_sem, v0, v1, v2, v3, v4, v5, v6]; try rfl) rfl ?_)
  clear EU; have F := uh F
  exact ⟨⟨3, n, u, (f : Int), m, [], false⟩, _, rfl, Nat.zero_le _, World.ownsRow_nil _ _ _ _, (uh CU).kept (uh GU) (fun k hk => by have q1_ := Option.some.inj hk; have q2_ := uh CLO; omega), g_new (uh BB) (uh GU) (fun k hk => by have q1_ := Option.some.inj hk; omega)⟩
 ·have n1 : IntKind.i64.wrap (1 + (x : Int)) = 4 := by rw [IntKind.wrap_i64]; omega
  clear hx e9
  obtain ⟨wk43, hQ⟩ : ∃ X, X = w2.alloc (.cells ([.int .i64 4, .int .i64 0, .int .i64 0, .int .i64 0, .int .i64 0, .slice none 0 0, .bool false] : List Value).toArray 27) := ⟨_, rfl⟩
  have Qx : HasObj wk43 w2.heap.size 27 [.int .i64 4, .int .i64 0, .int .i64 0, .int .i64 0, .int .i64 0, .slice none 0 0, .bool false] := by rw [hQ]; exact HasObj.new _ _ _
  have hbn : Below w2.heap.size w2 wk43 := by rw [hQ]; exact (Below.refl _ _).alloc (Nat.le_refl _) _
  have neRQ : w.heap.size ≠ w2.heap.size := Nat.ne_of_lt (uh R).lt
  have loQ : w.heap.size ≤ w2.heap.size := (uh BB).size
  have EQ := hQ.symm; clear hQ
  replace CU := hide ((uh CU).kept (below_g0 hbn) (fun k hk => by cases hk))
  replace R := hide ((uh R).ups hbn); have sz3 := hide (hbn.size); replace BB := hide (g_then (uh BB) hbn); clear hbn; have Q := hide Qx; clear Qx; replace EQ := hide EQ; go_wp2_with fail; clear n1
  rw [uh EQ]
  clear EQ
  refine (l05Draw_any B c _ (uh CU)).mono ?_
  rintro e wk44 ⟨vS, sS, rfl, hok, hln, hSS, _⟩
  obtain ⟨aS, cS, rfl⟩ := g_shape hSS.own
  have oS := hide hSS.own; have hc := hSS.cur; have hg := hSS.grown
  have LBS : Hid (w.heap.size ≤ wk43.heap.size) := (uh BB).size
  clear hSS
  replace R := hide ((uh R).kept hg (fun e => by have q1_ := Option.some.inj e; omega))
  replace Q := hide ((uh Q).kept hg (fun e => by have q1_ := Option.some.inj e; omega))
  have sz4 := hide (hg.size); replace BB := hide (g_join (uh BB) hg); clear CU; have CU := hide hc; clear hg hc; have S := oS; clear oS; go_wp2_with fail
  refine (spec_SetAdd_any sS 3 4 _ _ _ (by omega) (uh S)).mono ?_
  rintro e wk45 ⟨vT, rfl, oT, hb⟩
  obtain ⟨aT, cT, rfl⟩ := g_shape oT
  have oT := hide oT
  have LBT : Hid (w.heap.size ≤ wk44.heap.size) := (uh BB).size
  replace CU := hide ((uh CU).kept (below_g0 hb) (fun k hk => by cases hk))
  replace R := hide ((uh R).ups hb); replace Q := hide ((uh Q).ups hb); replace S := hide ((uh S).up hb); have sz5 := hide (hb.size); replace BB := hide (g_then (uh BB) hb); clear hb
  obtain ⟨sT, hT⟩ : ∃ s, s = (putV sS 3 4 true).1 := ⟨_, rfl⟩
  have lT : sT.length ≤ 41 := by rw [hT, (put_room hok (by omega) (by decide) (by decide) (by decide)).1]; have q7 := hok; unfold okS at q7; rw [Bool.and_eq_true] at q7; have q8 := put_len (s := sS) (lo := 3) (hi := 4) (c := true) q7.1 (by decide) (by decide) (by decide); exact Nat.le_trans q8 (by omega)
  rw [← hT] at oT ⊢
  clear hT; have T := oT; clear oT S
  have CUS := hide (fun v => (uh CU).kept (g_store (j := 5) (g_self wk45 (some (w2.heap.size))) v) (fun k hk => by have q1_ := Option.some.inj hk; have q2_ := uh CLO; omega))
  have Qfz5_1 := (uh Q).frozen 5; have Qcz5_1 := (uh Q).cell 5 rfl
  obtain ⟨wk46, hst⟩ : ∃ X, X = wk45.setCell ⟨w2.heap.size, 5, none⟩ (.slice aT sT.length cT) := ⟨_, rfl⟩
  have T_ : Hid (OwnR wk44.heap.size wk46 (.slice aT sT.length cT) (sT)) := by show OwnR _ _ _ _; rw [hst]; exact (uh Q).row (j := 5) (by decide) (uh T) _
  have R_ := hide ((uh R).other (j := 5) neRQ (.slice aT sT.length cT))
  rw [← hst] at R_
  have Q_ := hide ((uh Q).set 5 (.slice aT sT.length cT))
  rw [← hst] at Q_
  have BB_ := hide (g_setnew (j := 5) (uh BB) loQ (.slice aT sT.length cT))
  rw [← hst] at BB_
  have sz6 : Hid (wk45.heap.size ≤ wk46.heap.size) := by show _ ≤ _; rw [hst]; simp
  replace T := T_; clear T_; replace R := R_; clear R_; replace Q := Q_; clear Q_; replace BB := BB_; clear BB_; have Est6 := hst.symm; clear hst; have CU_ := hide (uh CUS (.slice aT sT.length cT))
  rw [Est6] at CU_
  clear CU CUS; have CU := CU_; clear CU_; have Qc0_2 := (uh Q).cell 0 rfl; have Qc1_2 := (uh Q).cell 1 rfl; have Qc2_2 := (uh Q).cell 2 rfl; have Qc3_2 := (uh Q).cell 3 rfl; have Qc4_2 := (uh Q).cell 4 rfl; have Qc5_2 := (uh Q).cell 5 rfl; have Qc6_2 := (uh Q).cell 6 rfl; have Rf0 := (uh R).frozen 0; have Rf1 := (uh R).frozen 1; have Rf2 := (uh R).frozen 2; have Rf3 := (uh R).frozen 3; have Rf4 := (uh R).frozen 4; have Rf5 := (uh R).frozen 5; have Rf6 := (uh R).frozen 6; have Re0 := (uh R).cell 0 rfl; have Re1 := (uh R).cell 1 rfl; have Re2 := (uh R).cell 2 rfl; have Re3 := (uh R).cell 3 rfl; have Re4 := (uh R).cell 4 rfl; have Re5 := (uh R).cell 5 rfl; have Re6 := (uh R).cell 6 rfl; have F := hide (fill7 (uh R) (.int .i64 4) (.int .i64 0) (.int .i64 0) (.int .i64 0) (.int .i64 0) (.slice aT sT.length cT) (.bool false))
  obtain ⟨U, hU⟩ : ∃ U, U = (((((((wk46.setCell ⟨w.heap.size, 0, none⟩ (.int .i64 4)).setCell ⟨w.heap.size, 1, none⟩ (.int .i64 0)).setCell ⟨w.heap.size, 2, none⟩ (.int .i64 0)).setCell ⟨w.heap.size, 3, none⟩ (.int .i64 0)).setCell ⟨w.heap.size, 4, none⟩ (.int .i64 0)).setCell ⟨w.heap.size, 5, none⟩ (.slice aT sT.length cT)).setCell ⟨w.heap.size, 6, none⟩ (.bool false)) := ⟨_, rfl⟩
  have F9 := uh F
  rw [← hU] at F9
  have GU : wk46.grownBy U (some (w.heap.size)) := by rw [hU]; exact g_store (g_store (g_store (g_store (g_store (g_store (g_store (g_self _ _) _) _) _) _) _) _) _
  have GU := hide GU; have EU := hU.symm; clear F hU; have v0 := F9.obj.cell 0 rfl; have v1 := F9.obj.cell 1 rfl; have v2 := F9.obj.cell 2 rfl; have v3 := F9.obj.cell 3 rfl; have v4 := F9.obj.cell 4 rfl; have v5 := F9.obj.cell 5 rfl; have v6 := F9.obj.cell 6 rfl; have F := hide F9; clear F9
  go_wp2_with (refine bodyPost_ret (by simp [results, Try.results20, go_sem, v0, v1, v2, v3, v4, v5, v6]; try rfl) rfl ?_)
  clear EU; have F := uh F
  exact ⟨⟨4, 0, 0, 0, 0, sT, false⟩, _, rfl, (by show sT.length ≤ 41; omega), F.row (by decide) (g_based (uh T) (uh LBT)), (uh CU).kept (uh GU) (fun k hk => by have q1_ := Option.some.inj hk; have q2_ := uh CLO; omega), g_new (uh BB) (uh GU) (fun k hk => by have q1_ := Option.some.inj hk; omega)⟩
 ·have n1 : IntKind.i64.wrap (1 + (x : Int)) = 5 := by rw [IntKind.wrap_i64]; omega
  clear hx e9
  obtain ⟨wk53, hQ⟩ : ∃ X, X = w2.alloc (.cells ([.int .i64 5, .int .i64 0, .int .i64 0, .int .i64 0, .int .i64 0, .slice none 0 0, .bool false] : List Value).toArray 27) := ⟨_, rfl⟩
  have Qx : HasObj wk53 w2.heap.size 27 [.int .i64 5, .int .i64 0, .int .i64 0, .int .i64 0, .int .i64 0, .slice none 0 0, .bool false] := by rw [hQ]; exact HasObj.new _ _ _
  have hbn : Below w2.heap.size w2 wk53 := by rw [hQ]; exact (Below.refl _ _).alloc (Nat.le_refl _) _
  have neRQ : w.heap.size ≠ w2.heap.size := Nat.ne_of_lt (uh R).lt
  have loQ : w.heap.size ≤ w2.heap.size := (uh BB).size
  have EQ := hQ.symm; clear hQ
  replace CU := hide ((uh CU).kept (below_g0 hbn) (fun k hk => by cases hk))
  replace R := hide ((uh R).ups hbn); have sz3 := hide (hbn.size); replace BB := hide (g_then (uh BB) hbn); clear hbn; have Q := hide Qx; clear Qx; replace EQ := hide EQ; go_wp2_with fail; clear n1
  rw [uh EQ]
  clear EQ
  refine (uh LIT _ 5 5 rfl (uh CU) (by decide) (by decide)).mono ?_
  rintro e wk54 ⟨x1, hx1, rfl, hc, hg⟩
  replace R := hide ((uh R).kept hg (fun e => by have q1_ := Option.some.inj e; omega))
  replace Q := hide ((uh Q).kept hg (fun e => by have q1_ := Option.some.inj e; omega))
  have sz4 := hide (hg.size); replace BB := hide (g_join (uh BB) hg); clear CU; have CU := hide hc; clear hg hc
  obtain ⟨n, hn⟩ : ∃ z : Int, z = 1 + (x1 : Int) := ⟨_, rfl⟩
  have nn : IntKind.i64.wrap (1 + (x1 : Int)) = n := by rw [IntKind.wrap_i64]; omega
  clear hn
  have CUS := hide (fun v => (uh CU).kept (g_store (j := 1) (g_self wk54 (some (w2.heap.size))) v) (fun k hk => by have q1_ := Option.some.inj hk; have q2_ := uh CLO; omega))
  have Qfz1_1 := (uh Q).frozen 1; have Qcz1_1 := (uh Q).cell 1 rfl
  obtain ⟨wk55, hst⟩ : ∃ X, X = wk54.setCell ⟨w2.heap.size, 1, none⟩ (.int .i64 n) := ⟨_, rfl⟩
  have R_ := hide ((uh R).other (j := 1) neRQ (.int .i64 n))
  rw [← hst] at R_
  have Q_ := hide ((uh Q).set 1 (.int .i64 n))
  rw [← hst] at Q_
  have BB_ := hide (g_setnew (j := 1) (uh BB) loQ (.int .i64 n))
  rw [← hst] at BB_
  have sz5 : Hid (wk54.heap.size ≤ wk55.heap.size) := by show _ ≤ _; rw [hst]; simp
  replace R := R_; clear R_; replace Q := Q_; clear Q_; replace BB := BB_; clear BB_; have Est5 := hst.symm; clear hst; have CU_ := hide (uh CUS (.int .i64 n))
  rw [Est5] at CU_
  clear CU CUS; have CU := CU_; clear CU_; go_wp2_with fail; clear Qfz1_1 Qcz1_1 nn Est5
  refine (uh LIT _ 30 30 rfl (uh CU) (by decide) (by decide)).mono ?_
  rintro e wk56 ⟨x4, hx4, rfl, hc, hg⟩
  replace R := hide ((uh R).kept hg (fun e => by have q1_ := Option.some.inj e; omega))
  replace Q := hide ((uh Q).kept hg (fun e => by have q1_ := Option.some.inj e; omega))
  have sz6 := hide (hg.size); replace BB := hide (g_join (uh BB) hg); clear CU; have CU := hide hc; clear hg hc
  obtain ⟨m, hm⟩ : ∃ z : Int, z = 1 + (x4 : Int) := ⟨_, rfl⟩
  have nm : IntKind.i64.wrap (1 + (x4 : Int)) = m := by rw [IntKind.wrap_i64]; omega
  clear hm
  have CUS := hide (fun v => (uh CU).kept (g_store (j := 4) (g_self wk56 (some (w2.heap.size))) v) (fun k hk => by have q1_ := Option.some.inj hk; have q2_ := uh CLO; omega))
  have Qfz4_2 := (uh Q).frozen 4; have Qcz4_2 := (uh Q).cell 4 rfl
  obtain ⟨wk57, hst⟩ : ∃ X, X = wk56.setCell ⟨w2.heap.size, 4, none⟩ (.int .i64 m) := ⟨_, rfl⟩
  have R_ := hide ((uh R).other (j := 4) neRQ (.int .i64 m))
  rw [← hst] at R_
  have Q_ := hide ((uh Q).set 4 (.int .i64 m))
  rw [← hst] at Q_
  have BB_ := hide (g_setnew (j := 4) (uh BB) loQ (.int .i64 m))
  rw [← hst] at BB_
  have sz7 : Hid (wk56.heap.size ≤ wk57.heap.size) := by show _ ≤ _; rw [hst]; simp
  replace R := R_; clear R_; replace Q := Q_; clear Q_; replace BB := BB_; clear BB_; have Est7 := hst.symm; clear hst; have CU_ := hide (uh CUS (.int .i64 m))
  rw [Est7] at CU_
  clear CU CUS; have CU := CU_; clear CU_; go_wp2_with fail; clear Qfz4_2 Qcz4_2 nm Est7
  refine (l01Once_any B c 2 _ (uh CU) (by decide) (by decide)).mono ?_
  rintro e wk58 ⟨on, rfl, hc, hg⟩
  replace R := hide ((uh R).kept hg (fun e => by have q1_ := Option.some.inj e; omega))
  replace Q := hide ((uh Q).kept hg (fun e => by have q1_ := Option.some.inj e; omega))
  have sz8 := hide (hg.size); replace BB := hide (g_join (uh BB) hg); clear CU; have CU := hide hc; clear hg hc
  have CUS := hide (fun v => (uh CU).kept (g_store (j := 6) (g_self wk58 (some (w2.heap.size))) v) (fun k hk => by have q1_ := Option.some.inj hk; have q2_ := uh CLO; omega))
  have Qfz6_3 := (uh Q).frozen 6; have Qcz6_3 := (uh Q).cell 6 rfl
  obtain ⟨wk59, hst⟩ : ∃ X, X = wk58.setCell ⟨w2.heap.size, 6, none⟩ (.bool on) := ⟨_, rfl⟩
  have R_ := hide ((uh R).other (j := 6) neRQ (.bool on))
  rw [← hst] at R_
  have Q_ := hide ((uh Q).set 6 (.bool on))
  rw [← hst] at Q_
  have BB_ := hide (g_setnew (j := 6) (uh BB) loQ (.bool on))
  rw [← hst] at BB_
  have sz9 : Hid (wk58.heap.size ≤ wk59.heap.size) := by show _ ≤ _; rw [hst]; simp
  replace R := R_; clear R_; replace Q := Q_; clear Q_; replace BB := BB_; clear BB_; have Est9 := hst.symm; clear hst; have CU_ := hide (uh CUS (.bool on))
  rw [Est9] at CU_
  clear CU CUS; have CU := CU_; clear CU_; have Qc0_4 := (uh Q).cell 0 rfl; have Qc1_4 := (uh Q).cell 1 rfl; have Qc2_4 := (uh Q).cell 2 rfl; have Qc3_4 := (uh Q).cell 3 rfl; have Qc4_4 := (uh Q).cell 4 rfl; have Qc5_4 := (uh Q).cell 5 rfl; have Qc6_4 := (uh Q).cell 6 rfl; have Rf0 := (uh R).frozen 0; have Rf1 := (uh R).frozen 1; have Rf2 := (uh R).frozen 2; have Rf3 := (uh R).frozen 3; have Rf4 := (uh R).frozen 4; have Rf5 := (uh R).frozen 5; have Rf6 := (uh R).frozen 6; have Re0 := (uh R).cell 0 rfl; have Re1 := (uh R).cell 1 rfl; have Re2 := (uh R).cell 2 rfl; have Re3 := (uh R).cell 3 rfl; have Re4 := (uh R).cell 4 rfl; have Re5 := (uh R).cell 5 rfl; have Re6 := (uh R).cell 6 rfl; have F := hide (fill7 (uh R) (.int .i64 5) (.int .i64 n) (.int .i64 0) (.int .i64 0) (.int .i64 m) (.slice none 0 0) (.bool on))
  obtain ⟨U, hU⟩ : ∃ U, U = (((((((wk59.setCell ⟨w.heap.size, 0, none⟩ (.int .i64 5)).setCell ⟨w.heap.size, 1, none⟩ (.int .i64 n)).setCell ⟨w.heap.size, 2, none⟩ (.int .i64 0)).setCell ⟨w.heap.size, 3, none⟩ (.int .i64 0)).setCell ⟨w.heap.size, 4, none⟩ (.int .i64 m)).setCell ⟨w.heap.size, 5, none⟩ (.slice none 0 0)).setCell ⟨w.heap.size, 6, none⟩ (.bool on)) := ⟨_, rfl⟩
  have F9 := uh F
  rw [← hU] at F9
  have GU : wk59.grownBy U (some (w.heap.size)) := by rw [hU]; exact g_store (g_store (g_store (g_store (g_store (g_store (g_store (g_self _ _) _) _) _) _) _) _) _
  have GU := hide GU; have EU := hU.symm; clear F hU; have v0 := F9.obj.cell 0 rfl; have v1 := F9.obj.cell 1 rfl; have v2 := F9.obj.cell 2 rfl; have v3 := F9.obj.cell 3 rfl; have v4 := F9.obj.cell 4 rfl; have v5 := F9.obj.cell 5 rfl; have v6 := F9.obj.cell 6 rfl; have F := hide F9; clear F9
  go_wp2_with (refine bodyPost_ret (by simp [results, Try.results20, go_sem, v0, v1, v2, v3, v4, v5, v6]; try rfl) rfl ?_)
  clear EU; have F := uh F
  exact ⟨⟨5, n, 0, 0, m, [], on⟩, _, rfl, Nat.zero_le _, World.ownsRow_nil _ _ _ _, (uh CU).kept (uh GU) (fun k hk => by have q1_ := Option.some.inj hk; have q2_ := uh CLO; omega), g_new (uh BB) (uh GU) (fun k hk => by have q1_ := Option.some.inj hk; omega)⟩
 ·have n1 : IntKind.i64.wrap (1 + (x : Int)) = 6 := by rw [IntKind.wrap_i64]; omega
  clear hx e9
  obtain ⟨wk63, hQ⟩ : ∃ X, X = w2.alloc (.cells ([.int .i64 6, .int .i64 0, .int .i64 0, .int .i64 0, .int .i64 0, .slice none 0 0, .bool false] : List Value).toArray 27) := ⟨_, rfl⟩
  have Qx : HasObj wk63 w2.heap.size 27 [.int .i64 6, .int .i64 0, .int .i64 0, .int .i64 0, .int .i64 0, .slice none 0 0, .bool false] := by rw [hQ]; exact HasObj.new _ _ _
  have hbn : Below w2.heap.size w2 wk63 := by rw [hQ]; exact (Below.refl _ _).alloc (Nat.le_refl _) _
  have neRQ : w.heap.size ≠ w2.heap.size := Nat.ne_of_lt (uh R).lt
  have loQ : w.heap.size ≤ w2.heap.size := (uh BB).size
  have EQ := hQ.symm; clear hQ
  replace CU := hide ((uh CU).kept (below_g0 hbn) (fun k hk => by cases hk))
  replace R := hide ((uh R).ups hbn); have sz3 := hide (hbn.size); replace BB := hide (g_then (uh BB) hbn); clear hbn; have Q := hide Qx; clear Qx; replace EQ := hide EQ; go_wp2_with fail; clear n1
  rw [uh EQ]
  clear EQ
  refine (l05Draw_any B c _ (uh CU)).mono ?_
  rintro e wk64 ⟨vS, sS, rfl, hok, hln, hSS, _⟩
  obtain ⟨aS, cS, rfl⟩ := g_shape hSS.own
  have oS := hide hSS.own; have hc := hSS.cur; have hg := hSS.grown
  have LBS : Hid (w.heap.size ≤ wk63.heap.size) := (uh BB).size
  clear hSS
  replace R := hide ((uh R).kept hg (fun e => by have q1_ := Option.some.inj e; omega))
  replace Q := hide ((uh Q).kept hg (fun e => by have q1_ := Option.some.inj e; omega))
  have sz4 := hide (hg.size); replace BB := hide (g_join (uh BB) hg); clear CU; have CU := hide hc; clear hg hc; have S := oS; clear oS
  have CUS := hide (fun v => (uh CU).kept (g_store (j := 5) (g_self wk64 (some (w2.heap.size))) v) (fun k hk => by have q1_ := Option.some.inj hk; have q2_ := uh CLO; omega))
  have Qfz5_1 := (uh Q).frozen 5; have Qcz5_1 := (uh Q).cell 5 rfl
  obtain ⟨wk65, hst⟩ : ∃ X, X = wk64.setCell ⟨w2.heap.size, 5, none⟩ (.slice aS sS.length cS) := ⟨_, rfl⟩
  have S_ : Hid (OwnR wk63.heap.size wk65 (.slice aS sS.length cS) (sS)) := by show OwnR _ _ _ _; rw [hst]; exact (uh Q).row (j := 5) (by decide) (uh S) _
  have R_ := hide ((uh R).other (j := 5) neRQ (.slice aS sS.length cS))
  rw [← hst] at R_
  have Q_ := hide ((uh Q).set 5 (.slice aS sS.length cS))
  rw [← hst] at Q_
  have BB_ := hide (g_setnew (j := 5) (uh BB) loQ (.slice aS sS.length cS))
  rw [← hst] at BB_
  have sz5 : Hid (wk64.heap.size ≤ wk65.heap.size) := by show _ ≤ _; rw [hst]; simp
  replace S := S_; clear S_; replace R := R_; clear R_; replace Q := Q_; clear Q_; replace BB := BB_; clear BB_; have Est5 := hst.symm; clear hst; have CU_ := hide (uh CUS (.slice aS sS.length cS))
  rw [Est5] at CU_
  clear CU CUS; have CU := CU_; clear CU_; have Qc0_2 := (uh Q).cell 0 rfl; have Qc1_2 := (uh Q).cell 1 rfl; have Qc2_2 := (uh Q).cell 2 rfl; have Qc3_2 := (uh Q).cell 3 rfl; have Qc4_2 := (uh Q).cell 4 rfl; have Qc5_2 := (uh Q).cell 5 rfl; have Qc6_2 := (uh Q).cell 6 rfl; have Rf0 := (uh R).frozen 0; have Rf1 := (uh R).frozen 1; have Rf2 := (uh R).frozen 2; have Rf3 := (uh R).frozen 3; have Rf4 := (uh R).frozen 4; have Rf5 := (uh R).frozen 5; have Rf6 := (uh R).frozen 6; have Re0 := (uh R).cell 0 rfl; have Re1 := (uh R).cell 1 rfl; have Re2 := (uh R).cell 2 rfl; have Re3 := (uh R).cell 3 rfl; have Re4 := (uh R).cell 4 rfl; have Re5 := (uh R).cell 5 rfl; have Re6 := (uh R).cell 6 rfl; have F := hide (fill7 (uh R) (.int .i64 6) (.int .i64 0) (.int .i64 0) (.int .i64 0) (.int .i64 0) (.slice aS sS.length cS) (.bool false))
  obtain ⟨U, hU⟩ : ∃ U, U = (((((((wk65.setCell ⟨w.heap.size, 0, none⟩ (.int .i64 6)).setCell ⟨w.heap.size, 1, none⟩ (.int .i64 0)).setCell ⟨w.heap.size, 2, none⟩ (.int .i64 0)).setCell ⟨w.heap.size, 3, none⟩ (.int .i64 0)).setCell ⟨w.heap.size, 4, none⟩ (.int .i64 0)).setCell ⟨w.heap.size, 5, none⟩ (.slice aS sS.length cS)).setCell ⟨w.heap.size, 6, none⟩ (.bool false)) := ⟨_, rfl⟩
  have F9 := uh F
  rw [← hU] at F9
  have GU : wk65.grownBy U (some (w.heap.size)) := by rw [hU]; exact g_store (g_store (g_store (g_store (g_store (g_store (g_store (g_self _ _) _) _) _) _) _) _) _
  have GU := hide GU; have EU := hU.symm; clear F hU; have v0 := F9.obj.cell 0 rfl; have v1 := F9.obj.cell 1 rfl; have v2 := F9.obj.cell 2 rfl; have v3 := F9.obj.cell 3 rfl; have v4 := F9.obj.cell 4 rfl; have v5 := F9.obj.cell 5 rfl; have v6 := F9.obj.cell 6 rfl; have F := hide F9; clear F9
  go_wp2_with (refine bodyPost_ret (by simp [results, Try.results20, go_sem, v0, v1, v2, v3, v4, v5, v6]; try rfl) rfl ?_)
  clear EU; have F := uh F
  exact ⟨⟨6, 0, 0, 0, 0, sS, false⟩, _, rfl, (by show sS.length ≤ 41; omega), F.row (by decide) (g_based (uh S) (uh LBS)), (uh CU).kept (uh GU) (fun k hk => by have q1_ := Option.some.inj hk; have q2_ := uh CLO; omega), g_new (uh BB) (uh GU) (fun k hk => by have q1_ := Option.some.inj hk; omega)⟩
 ·have n1 : IntKind.i64.wrap (1 + (x : Int)) = 7 := by rw [IntKind.wrap_i64]; omega
  clear hx e9
  have hbn : Below w2.heap.size w2 (w2.alloc (.cells ([.int .i64 7, .int .i64 0, .int .i64 0, .int .i64 0, .int .i64 0, .slice none 0 0, .bool false] : List Value).toArray 27)) := (Below.refl _ _).alloc (Nat.le_refl _) _
  replace CU := hide ((uh CU).kept (below_g0 hbn) (fun k hk => by cases hk))
  replace R := hide ((uh R).ups hbn); have sz3 := hide (hbn.size); replace BB := hide (g_then (uh BB) hbn); clear hbn; have Rf0 := (uh R).frozen 0; have Rf1 := (uh R).frozen 1; have Rf2 := (uh R).frozen 2; have Rf3 := (uh R).frozen 3; have Rf4 := (uh R).frozen 4; have Rf5 := (uh R).frozen 5; have Rf6 := (uh R).frozen 6; have Re0 := (uh R).cell 0 rfl; have Re1 := (uh R).cell 1 rfl; have Re2 := (uh R).cell 2 rfl; have Re3 := (uh R).cell 3 rfl; have Re4 := (uh R).cell 4 rfl; have Re5 := (uh R).cell 5 rfl; have Re6 := (uh R).cell 6 rfl; have F := hide (fill7 (uh R) (.int .i64 7) (.int .i64 0) (.int .i64 0) (.int .i64 0) (.int .i64 0) (.slice none 0 0) (.bool false))
  obtain ⟨U, hU⟩ : ∃ U, U = ((((((((w2.alloc (.cells ([.int .i64 7, .int .i64 0, .int .i64 0, .int .i64 0, .int .i64 0, .slice none 0 0, .bool false] : List Value).toArray 27)).setCell ⟨w.heap.size, 0, none⟩ (.int .i64 7)).setCell ⟨w.heap.size, 1, none⟩ (.int .i64 0)).setCell ⟨w.heap.size, 2, none⟩ (.int .i64 0)).setCell ⟨w.heap.size, 3, none⟩ (.int .i64 0)).setCell ⟨w.heap.size, 4, none⟩ (.int .i64 0)).setCell ⟨w.heap.size, 5, none⟩ (.slice none 0 0)).setCell ⟨w.heap.size, 6, none⟩ (.bool false)) := ⟨_, rfl⟩
  have F9 := uh F
  rw [← hU] at F9
  have GU : (w2.alloc (.cells ([.int .i64 7, .int .i64 0, .int .i64 0, .int .i64 0, .int .i64 0, .slice none 0 0, .bool false] : List Value).toArray 27)).grownBy U (some (w.heap.size)) := by rw [hU]; exact g_store (g_store (g_store (g_store (g_store (g_store (g_store (g_self _ _) _) _) _) _) _) _) _
  have GU := hide GU; have EU := hU.symm; clear F hU; have v0 := F9.obj.cell 0 rfl; have v1 := F9.obj.cell 1 rfl; have v2 := F9.obj.cell 2 rfl; have v3 := F9.obj.cell 3 rfl; have v4 := F9.obj.cell 4 rfl; have v5 := F9.obj.cell 5 rfl; have v6 := F9.obj.cell 6 rfl; have F := hide F9; clear F9
  go_wp2_with (refine bodyPost_ret (by simp [results, Try.results20, go_sem, v0, v1, v2, v3, v4, v5, v6]; try rfl) rfl ?_)
  clear EU; have F := uh F
  exact ⟨⟨7, 0, 0, 0, 0, [], false⟩, _, rfl, Nat.zero_le _, World.ownsRow_nil _ _ _ _, (uh CU).kept (uh GU) (fun k hk => by have q1_ := Option.some.inj hk; have q2_ := uh CLO; omega), g_new (uh BB) (uh GU) (fun k hk => by have q1_ := Option.some.inj hk; omega)⟩
 ·have n1 : IntKind.i64.wrap (1 + (x : Int)) = 8 := by rw [IntKind.wrap_i64]; omega
  clear hx e9
  obtain ⟨wk83, hQ⟩ : ∃ X, X = w2.alloc (.cells ([.int .i64 8, .int .i64 0, .int .i64 0, .int .i64 0, .int .i64 0, .slice none 0 0, .bool false] : List Value).toArray 27) := ⟨_, rfl⟩
  have Qx : HasObj wk83 w2.heap.size 27 [.int .i64 8, .int .i64 0, .int .i64 0, .int .i64 0, .int .i64 0, .slice none 0 0, .bool false] := by rw [hQ]; exact HasObj.new _ _ _
  have hbn : Below w2.heap.size w2 wk83 := by rw [hQ]; exact (Below.refl _ _).alloc (Nat.le_refl _) _
  have neRQ : w.heap.size ≠ w2.heap.size := Nat.ne_of_lt (uh R).lt
  have loQ : w.heap.size ≤ w2.heap.size := (uh BB).size
  have EQ := hQ.symm; clear hQ
  replace CU := hide ((uh CU).kept (below_g0 hbn) (fun k hk => by cases hk))
  replace R := hide ((uh R).ups hbn); have sz3 := hide (hbn.size); replace BB := hide (g_then (uh BB) hbn); clear hbn; have Q := hide Qx; clear Qx; replace EQ := hide EQ; go_wp2_with fail; clear n1
  rw [uh EQ]
  clear EQ
  refine (uh LIT _ 9 9 rfl (uh CU) (by decide) (by decide)).mono ?_
  rintro e wk84 ⟨x1, hx1, rfl, hc, hg⟩
  replace R := hide ((uh R).kept hg (fun e => by have q1_ := Option.some.inj e; omega))
  replace Q := hide ((uh Q).kept hg (fun e => by have q1_ := Option.some.inj e; omega))
  have sz4 := hide (hg.size); replace BB := hide (g_join (uh BB) hg); clear CU; have CU := hide hc; clear hg hc
  obtain ⟨n, hn⟩ : ∃ z : Int, z = 1 + (x1 : Int) := ⟨_, rfl⟩
  have nn : IntKind.i64.wrap (1 + (x1 : Int)) = n := by rw [IntKind.wrap_i64]; omega
  clear hn
  have CUS := hide (fun v => (uh CU).kept (g_store (j := 1) (g_self wk84 (some (w2.heap.size))) v) (fun k hk => by have q1_ := Option.some.inj hk; have q2_ := uh CLO; omega))
  have Qfz1_1 := (uh Q).frozen 1; have Qcz1_1 := (uh Q).cell 1 rfl
  obtain ⟨wk85, hst⟩ : ∃ X, X = wk84.setCell ⟨w2.heap.size, 1, none⟩ (.int .i64 n) := ⟨_, rfl⟩
  have R_ := hide ((uh R).other (j := 1) neRQ (.int .i64 n))
  rw [← hst] at R_
  have Q_ := hide ((uh Q).set 1 (.int .i64 n))
  rw [← hst] at Q_
  have BB_ := hide (g_setnew (j := 1) (uh BB) loQ (.int .i64 n))
  rw [← hst] at BB_
  have sz5 : Hid (wk84.heap.size ≤ wk85.heap.size) := by show _ ≤ _; rw [hst]; simp
  replace R := R_; clear R_; replace Q := Q_; clear Q_; replace BB := BB_; clear BB_; have Est5 := hst.symm; clear hst; have CU_ := hide (uh CUS (.int .i64 n))
  rw [Est5] at CU_
  clear CU CUS; have CU := CU_; clear CU_; have Qc0_2 := (uh Q).cell 0 rfl; have Qc1_2 := (uh Q).cell 1 rfl; have Qc2_2 := (uh Q).cell 2 rfl; have Qc3_2 := (uh Q).cell 3 rfl; have Qc4_2 := (uh Q).cell 4 rfl; have Qc5_2 := (uh Q).cell 5 rfl; have Qc6_2 := (uh Q).cell 6 rfl; have Rf0 := (uh R).frozen 0; have Rf1 := (uh R).frozen 1; have Rf2 := (uh R).frozen 2; have Rf3 := (uh R).frozen 3; have Rf4 := (uh R).frozen 4; have Rf5 := (uh R).frozen 5; have Rf6 := (uh R).frozen 6; have Re0 := (uh R).cell 0 rfl; have Re1 := (uh R).cell 1 rfl; have Re2 := (uh R).cell 2 rfl; have Re3 := (uh R).cell 3 rfl; have Re4 := (uh R).cell 4 rfl; have Re5 := (uh R).cell 5 rfl; have Re6 := (uh R).cell 6 rfl; have F := hide (fill7 (uh R) (.int .i64 8) (.int .i64 n) (.int .i64 0) (.int .i64 0) (.int .i64 0) (.slice none 0 0) (.bool false))
  obtain ⟨U, hU⟩ : ∃ U, U = (((((((wk85.setCell ⟨w.heap.size, 0, none⟩ (.int .i64 8)).setCell ⟨w.heap.size, 1, none⟩ (.int .i64 n)).setCell ⟨w.heap.size, 2, none⟩ (.int .i64 0)).setCell ⟨w.heap.size, 3, none⟩ (.int .i64 0)).setCell ⟨w.heap.size, 4, none⟩ (.int .i64 0)).setCell ⟨w.heap.size, 5, none⟩ (.slice none 0 0)).setCell ⟨w.heap.size, 6, none⟩ (.bool false)) := ⟨_, rfl⟩
  have F9 := uh F
  rw [← hU] at F9
  have GU : wk85.grownBy U (some (w.heap.size)) := by rw [hU]; exact g_store (g_store (g_store (g_store (g_store (g_store (g_store (g_self _ _) _) _) _) _) _) _) _
  have GU := hide GU; have EU := hU.symm; clear F hU; have v0 := F9.obj.cell 0 rfl; have v1 := F9.obj.cell 1 rfl; have v2 := F9.obj.cell 2 rfl; have v3 := F9.obj.cell 3 rfl; have v4 := F9.obj.cell 4 rfl; have v5 := F9.obj.cell 5 rfl; have v6 := F9.obj.cell 6 rfl; have F := hide F9; clear F9
  go_wp2_with (refine bodyPost_ret (by simp [results, Try.results20, go_sem, v0, v1, v2, v3, v4, v5, v6]; try rfl) rfl ?_)
  clear EU; have F := uh F
  exact ⟨⟨8, n, 0, 0, 0, [], false⟩, _, rfl, Nat.zero_le _, World.ownsRow_nil _ _ _ _, (uh CU).kept (uh GU) (fun k hk => by have q1_ := Option.some.inj hk; have q2_ := uh CLO; omega), g_new (uh BB) (uh GU) (fun k hk => by have q1_ := Option.some.inj hk; omega)⟩
 ·have n1 : IntKind.i64.wrap (1 + (x : Int)) = 9 := by rw [IntKind.wrap_i64]; omega
  clear hx e9
  have hbn : Below w2.heap.size w2 (w2.alloc (.cells ([.int .i64 9, .int .i64 0, .int .i64 0, .int .i64 0, .int .i64 0, .slice none 0 0, .bool false] : List Value).toArray 27)) := (Below.refl _ _).alloc (Nat.le_refl _) _
  replace CU := hide ((uh CU).kept (below_g0 hbn) (fun k hk => by cases hk))
  replace R := hide ((uh R).ups hbn); have sz3 := hide (hbn.size); replace BB := hide (g_then (uh BB) hbn); clear hbn; have Rf0 := (uh R).frozen 0; have Rf1 := (uh R).frozen 1; have Rf2 := (uh R).frozen 2; have Rf3 := (uh R).frozen 3; have Rf4 := (uh R).frozen 4; have Rf5 := (uh R).frozen 5; have Rf6 := (uh R).frozen 6; have Re0 := (uh R).cell 0 rfl; have Re1 := (uh R).cell 1 rfl; have Re2 := (uh R).cell 2 rfl; have Re3 := (uh R).cell 3 rfl; have Re4 := (uh R).cell 4 rfl; have Re5 := (uh R).cell 5 rfl; have Re6 := (uh R).cell 6 rfl; have F := hide (fill7 (uh R) (.int .i64 9) (.int .i64 0) (.int .i64 0) (.int .i64 0) (.int .i64 0) (.slice none 0 0) (.bool false))
  obtain ⟨U, hU⟩ : ∃ U, U = ((((((((w2.alloc (.cells ([.int .i64 9, .int .i64 0, .int .i64 0, .int .i64 0, .int .i64 0, .slice none 0 0, .bool false] : List Value).toArray 27)).setCell ⟨w.heap.size, 0, none⟩ (.int .i64 9)).setCell ⟨w.heap.size, 1, none⟩ (.int .i64 0)).setCell ⟨w.heap.size, 2, none⟩ (.int .i64 0)).setCell ⟨w.heap.size, 3, none⟩ (.int .i64 0)).setCell ⟨w.heap.size, 4, none⟩ (.int .i64 0)).setCell ⟨w.heap.size, 5, none⟩ (.slice none 0 0)).setCell ⟨w.heap.size, 6, none⟩ (.bool false)) := ⟨_, rfl⟩
  have F9 := uh F
  rw [← hU] at F9
  have GU : (w2.alloc (.cells ([.int .i64 9, .int .i64 0, .int .i64 0, .int .i64 0, .int .i64 0, .slice none 0 0, .bool false] : List Value).toArray 27)).grownBy U (some (w.heap.size)) := by rw [hU]; exact g_store (g_store (g_store (g_store (g_store (g_store (g_store (g_self _ _) _) _) _) _) _) _) _
  have GU := hide GU; have EU := hU.symm; clear F hU; have v0 := F9.obj.cell 0 rfl; have v1 := F9.obj.cell 1 rfl; have v2 := F9.obj.cell 2 rfl; have v3 := F9.obj.cell 3 rfl; have v4 := F9.obj.cell 4 rfl; have v5 := F9.obj.cell 5 rfl; have v6 := F9.obj.cell 6 rfl; have F := hide F9; clear F9
  go_wp2_with (refine bodyPost_ret (by simp [results, Try.results20, go_sem, v0, v1, v2, v3, v4, v5, v6]; try rfl) rfl ?_)
  clear EU; have F := uh F
  exact ⟨⟨9, 0, 0, 0, 0, [], false⟩, _, rfl, Nat.zero_le _, World.ownsRow_nil _ _ _ _, (uh CU).kept (uh GU) (fun k hk => by have q1_ := Option.some.inj hk; have q2_ := uh CLO; omega), g_new (uh BB) (uh GU) (fun k hk => by have q1_ := Option.some.inj hk; omega)⟩
set_option maxHeartbeats 16000000 in
set_option maxRecDepth 100000 in
theorem l13Any_any (B c : Nat) (w : World) (hc : Cur B w c) :
  Calls Try.prog 11 #[.pointer (some ⟨c, 0, none⟩)] w fun e w' => ∃ (x : Ln) (v : Value), e = .returned (lnV x v) ∧ x.set.length ≤ 41 ∧ OwnR w.heap.size w' v x.set ∧ Cur B w' c ∧ w.grownBy w' (some c) := by
 have hcl := hc.lt.2
 have CLO : Hid (c < w.heap.size) := hcl
 have CU := hide hc; have BB := hide (g_self w (some c))
 have LIT := hide (fun (W : World) (n : Nat) (z : Int) (hz : z = (n : Int)) (hC : Cur B W c) (h0 : 0 < n) (h1 : n ≤ 4294967296) => belowS_lit B c n z hz W hC h0 h1)
 clear hc
 obtain ⟨w1, hR⟩ : ∃ X, X = w.alloc (.cells ([.int .i64 0, .int .i64 0, .int .i64 0, .int .i64 0, .int .i64 0, .slice none 0 0, .bool false] : List Value).toArray 27) := ⟨_, rfl⟩
 have Rx : HasObj w1 w.heap.size 27 [.int .i64 0, .int .i64 0, .int .i64 0, .int .i64 0, .int .i64 0, .slice none 0 0, .bool false] := by rw [hR]; exact HasObj.new _ _ _
 have hbn : Below w.heap.size w w1 := by rw [hR]; exact (Below.refl _ _).alloc (Nat.le_refl _) _
 have loR : w.heap.size ≤ w.heap.size := (uh BB).size
 have ER := hR.symm; clear hR
 replace CU := hide ((uh CU).kept (below_g0 hbn) (fun k hk => by cases hk))
 have sz1 := hide (hbn.size); replace BB := hide (g_then (uh BB) hbn); clear hbn; have R := hide Rx; clear Rx
 go_enter Try.func11, Try.ntmps11
 go_wp2_with fail; clear ER
 refine (uh LIT _ 12 12 rfl (uh CU) (by decide) (by decide)).mono ?_
 rintro e w2 ⟨k, hk, rfl, hc, hg⟩
 replace R := hide ((uh R).kept hg (fun e => by have q1_ := Option.some.inj e; omega))
 have sz2 := hide (hg.size); replace BB := hide (g_join (uh BB) hg); clear CU; have CU := hide hc; clear hg hc; go_wp2_with fail
 refine (uh LIT _ 60 60 rfl (uh CU) (by decide) (by decide)).mono ?_
 rintro e w3 ⟨y, hy, rfl, hc, hg⟩
 replace R := hide ((uh R).kept hg (fun e => by have q1_ := Option.some.inj e; omega))
 have sz3 := hide (hg.size); replace BB := hide (g_join (uh BB) hg); clear CU; have CU := hide hc; clear hg hc; go_wp2_with fail
 refine (l13Line_any B c _ (uh CU)).mono ?_
 rintro e w4 ⟨x, vx, rfl, hln, oX, hc, hg⟩
 obtain ⟨aX, cX, rfl⟩ := g_shape oX
 have oX := hide oX
 have LBX : Hid (w.heap.size ≤ w3.heap.size) := (uh BB).size
 replace R := hide ((uh R).kept hg (fun e => by have q1_ := Option.some.inj e; omega))
 have sz4 := hide (hg.size); replace BB := hide (g_join (uh BB) hg); clear CU; have CU := hide hc; clear hg hc; have X := oX; clear oX
 obtain ⟨w5, hQ⟩ : ∃ X, X = w4.alloc (.cells ([.int .i64 x.kind, .int .i64 x.num, .int .i64 x.uid, .int .i64 x.flags, .int .i64 x.mod, .slice aX x.set.length cX, .bool x.all] : List Value).toArray 27) := ⟨_, rfl⟩
 have Qx : HasObj w5 w4.heap.size 27 [.int .i64 x.kind, .int .i64 x.num, .int .i64 x.uid, .int .i64 x.flags, .int .i64 x.mod, .slice aX x.set.length cX, .bool x.all] := by rw [hQ]; exact HasObj.new _ _ _
 have hbn : Below w4.heap.size w4 w5 := by rw [hQ]; exact (Below.refl _ _).alloc (Nat.le_refl _) _
 have neRQ : w.heap.size ≠ w4.heap.size := Nat.ne_of_lt (uh R).lt
 have loQ : w.heap.size ≤ w4.heap.size := (uh BB).size
 have EQ := hQ.symm; clear hQ
 replace CU := hide ((uh CU).kept (below_g0 hbn) (fun k hk => by cases hk))
 replace R := hide ((uh R).ups hbn); replace X := hide ((uh X).up hbn); have sz5 := hide (hbn.size); replace BB := hide (g_then (uh BB) hbn); clear hbn; have Q := hide Qx; clear Qx
 have hk5 : k = 0 ∨ k = 1 ∨ k = 2 ∨ k = 3 ∨ k = 4 ∨ 5 ≤ k := by omega
 rcases hk5 with rfl | rfl | rfl | rfl | rfl | h5
 ·simp only [show ((0 : Nat) : Int) = 0 from rfl]
  obtain ⟨z, hz, lz⟩ : ∃ z : Nat, (y : Int).tmod 11 = (z : Int) ∧ z < 11 := ⟨y % 11, by rw [Int.tmod_eq_emod_of_nonneg (by omega)]; omega, by omega⟩
  have CUS := hide (fun v => (uh CU).kept (g_store (j := 0) (g_self w5 (some (w4.heap.size))) v) (fun k hk => by have q1_ := Option.some.inj hk; have q2_ := uh CLO; omega))
  have Qfz0_1 := (uh Q).frozen 0; have Qcz0_1 := (uh Q).cell 0 rfl
  obtain ⟨wa06, hst⟩ : ∃ X, X = w5.setCell ⟨w4.heap.size, 0, none⟩ (.int .i64 (z : Int)) := ⟨_, rfl⟩
  have X_ : Hid (OwnR w3.heap.size wa06 (.slice aX x.set.length cX) (x.set)) := by show OwnR _ _ _ _; rw [hst]; exact (uh Q).row (j := 0) (by decide) (uh X) _
  have R_ := hide ((uh R).other (j := 0) neRQ (.int .i64 (z : Int)))
  rw [← hst] at R_
  have Q_ := hide ((uh Q).set 0 (.int .i64 (z : Int)))
  rw [← hst] at Q_
  have BB_ := hide (g_setnew (j := 0) (uh BB) loQ (.int .i64 (z : Int)))
  rw [← hst] at BB_
  have sz6 : Hid (w5.heap.size ≤ wa06.heap.size) := by show _ ≤ _; rw [hst]; simp
  replace X := X_; clear X_; replace R := R_; clear R_; replace Q := Q_; clear Q_; replace BB := BB_; clear BB_; have Est6 := hst.symm; clear hst; have CU_ := hide (uh CUS (.int .i64 (z : Int)))
  rw [Est6] at CU_
  clear CU CUS; have CU := CU_; clear CU_; have Qc0_2 := (uh Q).cell 0 rfl; have Qc1_2 := (uh Q).cell 1 rfl; have Qc2_2 := (uh Q).cell 2 rfl; have Qc3_2 := (uh Q).cell 3 rfl; have Qc4_2 := (uh Q).cell 4 rfl; have Qc5_2 := (uh Q).cell 5 rfl; have Qc6_2 := (uh Q).cell 6 rfl; have Rf0 := (uh R).frozen 0; have Rf1 := (uh R).frozen 1; have Rf2 := (uh R).frozen 2; have Rf3 := (uh R).frozen 3; have Rf4 := (uh R).frozen 4; have Rf5 := (uh R).frozen 5; have Rf6 := (uh R).frozen 6; have Re0 := (uh R).cell 0 rfl; have Re1 := (uh R).cell 1 rfl; have Re2 := (uh R).cell 2 rfl; have Re3 := (uh R).cell 3 rfl; have Re4 := (uh R).cell 4 rfl; have Re5 := (uh R).cell 5 rfl; have Re6 := (uh R).cell 6 rfl; have F := hide (fill7 (uh R) (.int .i64 (z : Int)) (.int .i64 x.num) (.int .i64 x.uid) (.int .i64 x.flags) (.int .i64 x.mod) (.slice aX x.set.length cX) (.bool x.all))
  obtain ⟨U, hU⟩ : ∃ U, U = (((((((wa06.setCell ⟨w.heap.size, 0, none⟩ (.int .i64 (z : Int))).setCell ⟨w.heap.size, 1, none⟩ (.int .i64 x.num)).setCell ⟨w.heap.size, 2, none⟩ (.int .i64 x.uid)).setCell ⟨w.heap.size, 3, none⟩ (.int .i64 x.flags)).setCell ⟨w.heap.size, 4, none⟩ (.int .i64 x.mod)).setCell ⟨w.heap.size, 5, none⟩ (.slice aX x.set.length cX)).setCell ⟨w.heap.size, 6, none⟩ (.bool x.all)) := ⟨_, rfl⟩
  have F9 := uh F
  rw [← hU] at F9
  have GU : wa06.grownBy U (some (w.heap.size)) := by rw [hU]; exact g_store (g_store (g_store (g_store (g_store (g_store (g_store (g_self _ _) _) _) _) _) _) _) _
  have GU := hide GU; have EU := hU.symm; clear F hU; have v0 := F9.obj.cell 0 rfl; have v1 := F9.obj.cell 1 rfl; have v2 := F9.obj.cell 2 rfl; have v3 := F9.obj.cell 3 rfl; have v4 := F9.obj.cell 4 rfl; have v5 := F9.obj.cell 5 rfl; have v6 := F9.obj.cell 6 rfl; have F := hide F9; clear F9
  go_wp2_with (refine bodyPost_ret (by simp [results, Try.results11, go_sem, v0, v1, v2, v3, v4, v5, v6]; try rfl) rfl ?_)
  clear EU; have F := uh F
  exact ⟨⟨(z : Int), x.num, x.uid, x.flags, x.mod, x.set, x.all⟩, _, rfl, hln, F.row (by decide) (g_based (uh X) (uh LBX)), (uh CU).kept (uh GU) (fun k hk => by have q1_ := Option.some.inj hk; have q2_ := uh CLO; omega), g_new (uh BB) (uh GU) (fun k hk => by have q1_ := Option.some.inj hk; omega)⟩
 ·simp only [show ((1 : Nat) : Int) = 1 from rfl]
  obtain ⟨wa16, hM⟩ : ∃ X, X = w5.alloc (.cells ([.int .i64 (-1), .int .i64 (0), .int .i64 (30), .int .i64 (31), .int .i64 (10000)] : List Value).toArray 3) := ⟨_, rfl⟩
  have Mx : HasObj wa16 w5.heap.size 3 [.int .i64 (-1), .int .i64 (0), .int .i64 (30), .int .i64 (31), .int .i64 (10000)] := by rw [hM]; exact HasObj.new _ _ _
  have hbn : Below w5.heap.size w5 wa16 := by rw [hM]; exact (Below.refl _ _).alloc (Nat.le_refl _) _
  have neRM : w.heap.size ≠ w5.heap.size := Nat.ne_of_lt (uh R).lt
  have neQM : w4.heap.size ≠ w5.heap.size := Nat.ne_of_lt (uh Q).lt
  have loM : w.heap.size ≤ w5.heap.size := (uh BB).size
  have EM := hM.symm; clear hM
  replace CU := hide ((uh CU).kept (below_g0 hbn) (fun k hk => by cases hk))
  replace R := hide ((uh R).ups hbn); replace Q := hide ((uh Q).ups hbn); replace X := hide ((uh X).up hbn); have sz6 := hide (hbn.size); replace BB := hide (g_then (uh BB) hbn); clear hbn; have M := hide Mx; clear Mx
  obtain ⟨z, hz, lz⟩ : ∃ z : Nat, (y : Int).tmod 5 = (z : Int) ∧ z < 5 := ⟨y % 5, by rw [Int.tmod_eq_emod_of_nonneg (by omega)]; omega, by omega⟩
  have hz5 : z = 0 ∨ z = 1 ∨ z = 2 ∨ z = 3 ∨ z = 4 := by omega
  rcases hz5 with rfl | rfl | rfl | rfl | rfl
  ·simp only [show ((0 : Nat) : Int) = 0 from rfl] at hz
   have Mc0_1 := (uh M).cell 0 rfl; have Mc1_1 := (uh M).cell 1 rfl; have Mc2_1 := (uh M).cell 2 rfl; have Mc3_1 := (uh M).cell 3 rfl; have Mc4_1 := (uh M).cell 4 rfl
   have CUS := hide (fun v => (uh CU).kept (g_store (j := 1) (g_self wa16 (some (w4.heap.size))) v) (fun k hk => by have q1_ := Option.some.inj hk; have q2_ := uh CLO; omega))
   have Qfz1_2 := (uh Q).frozen 1; have Qcz1_2 := (uh Q).cell 1 rfl
   obtain ⟨wb07, hst⟩ : ∃ X, X = wa16.setCell ⟨w4.heap.size, 1, none⟩ (.int .i64 (-1)) := ⟨_, rfl⟩
   have X_ : Hid (OwnR w3.heap.size wb07 (.slice aX x.set.length cX) (x.set)) := by show OwnR _ _ _ _; rw [hst]; exact (uh Q).row (j := 1) (by decide) (uh X) _
   have R_ := hide ((uh R).other (j := 1) neRQ (.int .i64 (-1)))
   rw [← hst] at R_
   have Q_ := hide ((uh Q).set 1 (.int .i64 (-1)))
   rw [← hst] at Q_
   have M_ := hide ((uh M).other (j := 1) neQM.symm (.int .i64 (-1)))
   rw [← hst] at M_
   have BB_ := hide (g_setnew (j := 1) (uh BB) loQ (.int .i64 (-1)))
   rw [← hst] at BB_
   have sz7 : Hid (wa16.heap.size ≤ wb07.heap.size) := by show _ ≤ _; rw [hst]; simp
   replace X := X_; clear X_; replace R := R_; clear R_; replace Q := Q_; clear Q_; replace M := M_; clear M_; replace BB := BB_; clear BB_; have Est7 := hst.symm; clear hst; have CU_ := hide (uh CUS (.int .i64 (-1)))
   rw [Est7] at CU_
   clear CU CUS; have CU := CU_; clear CU_; have Qc0_3 := (uh Q).cell 0 rfl; have Qc1_3 := (uh Q).cell 1 rfl; have Qc2_3 := (uh Q).cell 2 rfl; have Qc3_3 := (uh Q).cell 3 rfl; have Qc4_3 := (uh Q).cell 4 rfl; have Qc5_3 := (uh Q).cell 5 rfl; have Qc6_3 := (uh Q).cell 6 rfl; have Rf0 := (uh R).frozen 0; have Rf1 := (uh R).frozen 1; have Rf2 := (uh R).frozen 2; have Rf3 := (uh R).frozen 3; have Rf4 := (uh R).frozen 4; have Rf5 := (uh R).frozen 5; have Rf6 := (uh R).frozen 6; have Re0 := (uh R).cell 0 rfl; have Re1 := (uh R).cell 1 rfl; have Re2 := (uh R).cell 2 rfl; have Re3 := (uh R).cell 3 rfl; have Re4 := (uh R).cell 4 rfl; have Re5 := (uh R).cell 5 rfl; have Re6 := (uh R).cell 6 rfl; have F := hide (fill7 (uh R) (.int .i64 x.kind) (.int .i64 (-1)) (.int .i64 x.uid) (.int .i64 x.flags) (.int .i64 x.mod) (.slice aX x.set.length cX) (.bool x.all))
   obtain ⟨U, hU⟩ : ∃ U, U = (((((((wb07.setCell ⟨w.heap.size, 0, none⟩ (.int .i64 x.kind)).setCell ⟨w.heap.size, 1, none⟩ (.int .i64 (-1))).setCell ⟨w.heap.size, 2, none⟩ (.int .i64 x.uid)).setCell ⟨w.heap.size, 3, none⟩ (.int .i64 x.flags)).setCell ⟨w.heap.size, 4, none⟩ (.int .i64 x.mod)).setCell ⟨w.heap.size, 5, none⟩ (.slice aX x.set.length cX)).setCell ⟨w.heap.size, 6, none⟩ (.bool x.all)) := ⟨_, rfl⟩
   have F9 := uh F
   rw [← hU] at F9
   have GU : wb07.grownBy U (some (w.heap.size)) := by rw [hU]; exact g_store (g_store (g_store (g_store (g_store (g_store (g_store (g_self _ _) _) _) _) _) _) _) _
   have GU := hide GU; have EU := hU.symm; clear F hU; have v0 := F9.obj.cell 0 rfl; have v1 := F9.obj.cell 1 rfl; have v2 := F9.obj.cell 2 rfl; have v3 := F9.obj.cell 3 rfl; have v4 := F9.obj.cell 4 rfl; have v5 := F9.obj.cell 5 rfl; have v6 := F9.obj.cell 6 rfl; have F := hide F9; clear F9
   go_wp2_with (refine bodyPost_ret (by simp [results, Try.results11, go_sem, v0, v1, v2, v3, v4, v5, v6]; try rfl) rfl ?_)
   clear EU; have F := uh F
   exact ⟨⟨x.kind, (-1), x.uid, x.flags, x.mod, x.set, x.all⟩, _, rfl, hln, F.row (by decide) (g_based (uh X) (uh LBX)), (uh CU).kept (uh GU) (fun k hk => by have q1_ := Option.some.inj hk; have q2_ := uh CLO; omega), g_new (uh BB) (uh GU) (fun k hk => by have q1_ := Option.some.inj hk; omega)⟩
  ·simp only [show ((1 : Nat) : Int) = 1 from rfl] at hz
   have Mc0_1 := (uh M).cell 0 rfl; have Mc1_1 := (uh M).cell 1 rfl; have Mc2_1 := (uh M).cell 2 rfl; have Mc3_1 := (uh M).cell 3 rfl; have Mc4_1 := (uh M).cell 4 rfl
   have CUS := hide (fun v => (uh CU).kept (g_store (j := 1) (g_self wa16 (some (w4.heap.size))) v) (fun k hk => by have q1_ := Option.some.inj hk; have q2_ := uh CLO; omega))
   have Qfz1_2 := (uh Q).frozen 1; have Qcz1_2 := (uh Q).cell 1 rfl
   obtain ⟨wb17, hst⟩ : ∃ X, X = wa16.setCell ⟨w4.heap.size, 1, none⟩ (.int .i64 (0)) := ⟨_, rfl⟩
   have X_ : Hid (OwnR w3.heap.size wb17 (.slice aX x.set.length cX) (x.set)) := by show OwnR _ _ _ _; rw [hst]; exact (uh Q).row (j := 1) (by decide) (uh X) _
   have R_ := hide ((uh R).other (j := 1) neRQ (.int .i64 (0)))
   rw [← hst] at R_
   have Q_ := hide ((uh Q).set 1 (.int .i64 (0)))
   rw [← hst] at Q_
   have M_ := hide ((uh M).other (j := 1) neQM.symm (.int .i64 (0)))
   rw [← hst] at M_
   have BB_ := hide (g_setnew (j := 1) (uh BB) loQ (.int .i64 (0)))
   rw [← hst] at BB_
   have sz7 : Hid (wa16.heap.size ≤ wb17.heap.size) := by show _ ≤ _; rw [hst]; simp
   replace X := X_; clear X_; replace R := R_; clear R_; replace Q := Q_; clear Q_; replace M := M_; clear M_; replace BB := BB_; clear BB_; have Est7 := hst.symm; clear hst; have CU_ := hide (uh CUS (.int .i64 (0)))
   rw [Est7] at CU_
   clear CU CUS; have CU := CU_; clear CU_; have Qc0_3 := (uh Q).cell 0 rfl; have Qc1_3 := (uh Q).cell 1 rfl; have Qc2_3 := (uh Q).cell 2 rfl; have Qc3_3 := (uh Q).cell 3 rfl; have Qc4_3 := (uh Q).cell 4 rfl; have Qc5_3 := (uh Q).cell 5 rfl; have Qc6_3 := (uh Q).cell 6 rfl; have Rf0 := (uh R).frozen 0; have Rf1 := (uh R).frozen 1; have Rf2 := (uh R).frozen 2; have Rf3 := (uh R).frozen 3; have Rf4 := (uh R).frozen 4; have Rf5 := (uh R).frozen 5; have Rf6 := (uh R).frozen 6; have Re0 := (uh R).cell 0 rfl; have Re1 := (uh R).cell 1 rfl; have Re2 := (uh R).cell 2 rfl; have Re3 := (uh R).cell 3 rfl; have Re4 := (uh R).cell 4 rfl; have Re5 := (uh R).cell 5 rfl; have Re6 := (uh R).cell 6 rfl; have F := hide (fill7 (uh R) (.int .i64 x.kind) (.int .i64 (0)) (.int .i64 x.uid) (.int .i64 x.flags) (.int .i64 x.mod) (.slice aX x.set.length cX) (.bool x.all))
   obtain ⟨U, hU⟩ : ∃ U, U = (((((((wb17.setCell ⟨w.heap.size, 0, none⟩ (.int .i64 x.kind)).setCell ⟨w.heap.size, 1, none⟩ (.int .i64 (0))).setCell ⟨w.heap.size, 2, none⟩ (.int .i64 x.uid)).setCell ⟨w.heap.size, 3, none⟩ (.int .i64 x.flags)).setCell ⟨w.heap.size, 4, none⟩ (.int .i64 x.mod)).setCell ⟨w.heap.size, 5, none⟩ (.slice aX x.set.length cX)).setCell ⟨w.heap.size, 6, none⟩ (.bool x.all)) := ⟨_, rfl⟩
   have F9 := uh F
   rw [← hU] at F9
   have GU : wb17.grownBy U (some (w.heap.size)) := by rw [hU]; exact g_store (g_store (g_store (g_store (g_store (g_store (g_store (g_self _ _) _) _) _) _) _) _) _
   have GU := hide GU; have EU := hU.symm; clear F hU; have v0 := F9.obj.cell 0 rfl; have v1 := F9.obj.cell 1 rfl; have v2 := F9.obj.cell 2 rfl; have v3 := F9.obj.cell 3 rfl; have v4 := F9.obj.cell 4 rfl; have v5 := F9.obj.cell 5 rfl; have v6 := F9.obj.cell 6 rfl; have F := hide F9; clear F9
   go_wp2_with (refine bodyPost_ret (by simp [results, Try.results11, go_sem, v0, v1, v2, v3, v4, v5, v6]; try rfl) rfl ?_)
   clear EU; have F := uh F
   exact ⟨⟨x.kind, (0), x.uid, x.flags, x.mod, x.set, x.all⟩, _, rfl, hln, F.row (by decide) (g_based (uh X) (uh LBX)), (uh CU).kept (uh GU) (fun k hk => by have q1_ := Option.some.inj hk; have q2_ := uh CLO; omega), g_new (uh BB) (uh GU) (fun k hk => by have q1_ := Option.some.inj hk; omega)⟩
  ·simp only [show ((2 : Nat) : Int) = 2 from rfl] at hz
   have Mc0_1 := (uh M).cell 0 rfl; have Mc1_1 := (uh M).cell 1 rfl; have Mc2_1 := (uh M).cell 2 rfl; have Mc3_1 := (uh M).cell 3 rfl; have Mc4_1 := (uh M).cell 4 rfl
   have CUS := hide (fun v => (uh CU).kept (g_store (j := 1) (g_self wa16 (some (w4.heap.size))) v) (fun k hk => by have q1_ := Option.some.inj hk; have q2_ := uh CLO; omega))
   have Qfz1_2 := (uh Q).frozen 1; have Qcz1_2 := (uh Q).cell 1 rfl
   obtain ⟨wb27, hst⟩ : ∃ X, X = wa16.setCell ⟨w4.heap.size, 1, none⟩ (.int .i64 (30)) := ⟨_, rfl⟩
   have X_ : Hid (OwnR w3.heap.size wb27 (.slice aX x.set.length cX) (x.set)) := by show OwnR _ _ _ _; rw [hst]; exact (uh Q).row (j := 1) (by decide) (uh X) _
   have R_ := hide ((uh R).other (j := 1) neRQ (.int .i64 (30)))
   rw [← hst] at R_
   have Q_ := hide ((uh Q).set 1 (.int .i64 (30)))
   rw [← hst] at Q_
   have M_ := hide ((uh M).other (j := 1) neQM.symm (.int .i64 (30)))
   rw [← hst] at M_
   have BB_ := hide (g_setnew (j := 1) (uh BB) loQ (.int .i64 (30)))
   rw [← hst] at BB_
   have sz7 : Hid (wa16.heap.size ≤ wb27.heap.size) := by show _ ≤ _; rw [hst]; simp
   replace X := X_; clear X_; replace R := R_; clear R_; replace Q := Q_; clear Q_; replace M := M_; clear M_; replace BB := BB_; clear BB_; have Est7 := hst.symm; clear hst; have CU_ := hide (uh CUS (.int .i64 (30)))
   rw [Est7] at CU_
   clear CU CUS; have CU := CU_; clear CU_; have Qc0_3 := (uh Q).cell 0 rfl; have Qc1_3 := (uh Q).cell 1 rfl; have Qc2_3 := (uh Q).cell 2 rfl; have Qc3_3 := (uh Q).cell 3 rfl; have Qc4_3 := (uh Q).cell 4 rfl; have Qc5_3 := (uh Q).cell 5 rfl; have Qc6_3 := (uh Q).cell 6 rfl; have Rf0 := (uh R).frozen 0; have Rf1 := (uh R).frozen 1; have Rf2 := (uh R).frozen 2; have Rf3 := (uh R).frozen 3; have Rf4 := (uh R).frozen 4; have Rf5 := (uh R).frozen 5; have Rf6 := (uh R).frozen 6; have Re0 := (uh R).cell 0 rfl; have Re1 := (uh R).cell 1 rfl; have Re2 := (uh R).cell 2 rfl; have Re3 := (uh R).cell 3 rfl; have Re4 := (uh R).cell 4 rfl; have Re5 := (uh R).cell 5 rfl; have Re6 := (uh R).cell 6 rfl; have F := hide (fill7 (uh R) (.int .i64 x.kind) (.int .i64 (30)) (.int .i64 x.uid) (.int .i64 x.flags) (.int .i64 x.mod) (.slice aX x.set.length cX) (.bool x.all))
   obtain ⟨U, hU⟩ : ∃ U, U = (((((((wb27.setCell ⟨w.heap.size, 0, none⟩ (.int .i64 x.kind)).setCell ⟨w.heap.size, 1, none⟩ (.int .i64 (30))).setCell ⟨w.heap.size, 2, none⟩ (.int .i64 x.uid)).setCell ⟨w.heap.size, 3, none⟩ (.int .i64 x.flags)).setCell ⟨w.heap.size, 4, none⟩ (.int .i64 x.mod)).setCell ⟨w.heap.size, 5, none⟩ (.slice aX x.set.length cX)).setCell ⟨w.heap.size, 6, none⟩ (.bool x.all)) := ⟨_, rfl⟩
   have F9 := uh F
   rw [← hU] at F9
   have GU : wb27.grownBy U (some (w.heap.size)) := by rw [hU]; exact g_store (g_store (g_store (g_store (g_store (g_store (g_store (g_self _ _) _) _) _) _) _) _) _
   have GU := hide GU; have EU := hU.symm; clear F hU; have v0 := F9.obj.cell 0 rfl; have v1 := F9.obj.cell 1 rfl; have v2 := F9.obj.cell 2 rfl; have v3 := F9.obj.cell 3 rfl; have v4 := F9.obj.cell 4 rfl; have v5 := F9.obj.cell 5 rfl; have v6 := F9.obj.cell 6 rfl; have F := hide F9; clear F9
   go_wp2_with (refine bodyPost_ret (by simp [results, Try.results11, go_sem, v0, v1, v2, v3, v4, v5, v6]; try rfl) rfl ?_)
   clear EU; have F := uh F
   exact ⟨⟨x.kind, (30), x.uid, x.flags, x.mod, x.set, x.all⟩, _, rfl, hln, F.row (by decide) (g_based (uh X) (uh LBX)), (uh CU).kept (uh GU) (fun k hk => by have q1_ := Option.some.inj hk; have q2_ := uh CLO; omega), g_new (uh BB) (uh GU) (fun k hk => by have q1_ := Option.some.inj hk; omega)⟩
  ·simp only [show ((3 : Nat) : Int) = 3 from rfl] at hz
   have Mc0_1 := (uh M).cell 0 rfl; have Mc1_1 := (uh M).cell 1 rfl; have Mc2_1 := (uh M).cell 2 rfl; have Mc3_1 := (uh M).cell 3 rfl; have Mc4_1 := (uh M).cell 4 rfl
   have CUS := hide (fun v => (uh CU).kept (g_store (j := 1) (g_self wa16 (some (w4.heap.size))) v) (fun k hk => by have q1_ := Option.some.inj hk; have q2_ := uh CLO; omega))
   have Qfz1_2 := (uh Q).frozen 1; have Qcz1_2 := (uh Q).cell 1 rfl
   obtain ⟨wb37, hst⟩ : ∃ X, X = wa16.setCell ⟨w4.heap.size, 1, none⟩ (.int .i64 (31)) := ⟨_, rfl⟩
   have X_ : Hid (OwnR w3.heap.size wb37 (.slice aX x.set.length cX) (x.set)) := by show OwnR _ _ _ _; rw [hst]; exact (uh Q).row (j := 1) (by decide) (uh X) _
   have R_ := hide ((uh R).other (j := 1) neRQ (.int .i64 (31)))
   rw [← hst] at R_
   have Q_ := hide ((uh Q).set 1 (.int .i64 (31)))
   rw [← hst] at Q_
   have M_ := hide ((uh M).other (j := 1) neQM.symm (.int .i64 (31)))
   rw [← hst] at M_
   have BB_ := hide (g_setnew (j := 1) (uh BB) loQ (.int .i64 (31)))
   rw [← hst] at BB_
   have sz7 : Hid (wa16.heap.size ≤ wb37.heap.size) := by show _ ≤ _; rw [hst]; simp
   replace X := X_; clear X_; replace R := R_; clear R_; replace Q := Q_; clear Q_; replace M := M_; clear M_; replace BB := BB_; clear BB_; have Est7 := hst.symm; clear hst; have CU_ := hide (uh CUS (.int .i64 (31)))
   rw [Est7] at CU_
   clear CU CUS; have CU := CU_; clear CU_; have Qc0_3 := (uh Q).cell 0 rfl; have Qc1_3 := (uh Q).cell 1 rfl; have Qc2_3 := (uh Q).cell 2 rfl; have Qc3_3 := (uh Q).cell 3 rfl; have Qc4_3 := (uh Q).cell 4 rfl; have Qc5_3 := (uh Q).cell 5 rfl; have Qc6_3 := (uh Q).cell 6 rfl; have Rf0 := (uh R).frozen 0; have Rf1 := (uh R).frozen 1; have Rf2 := (uh R).frozen 2; have Rf3 := (uh R).frozen 3; have Rf4 := (uh R).frozen 4; have Rf5 := (uh R).frozen 5; have Rf6 := (uh R).frozen 6; have Re0 := (uh R).cell 0 rfl; have Re1 := (uh R).cell 1 rfl; have Re2 := (uh R).cell 2 rfl; have Re3 := (uh R).cell 3 rfl; have Re4 := (uh R).cell 4 rfl; have Re5 := (uh R).cell 5 rfl; have Re6 := (uh R).cell 6 rfl; have F := hide (fill7 (uh R) (.int .i64 x.kind) (.int .i64 (31)) (.int .i64 x.uid) (.int .i64 x.flags) (.int .i64 x.mod) (.slice aX x.set.length cX) (.bool x.all))
   obtain ⟨U, hU⟩ : ∃ U, U = (((((((wb37.setCell ⟨w.heap.size, 0, none⟩ (.int .i64 x.kind)).setCell ⟨w.heap.size, 1, none⟩ (.int .i64 (31))).setCell ⟨w.heap.size, 2, none⟩ (.int .i64 x.uid)).setCell ⟨w.heap.size, 3, none⟩ (.int .i64 x.flags)).setCell ⟨w.heap.size, 4, none⟩ (.int .i64 x.mod)).setCell ⟨w.heap.size, 5, none⟩ (.slice aX x.set.length cX)).setCell ⟨w.heap.size, 6, none⟩ (.bool x.all)) := ⟨_, rfl⟩
   have F9 := uh F
   rw [← hU] at F9
   have GU : wb37.grownBy U (some (w.heap.size)) := by rw [hU]; exact g_store (g_store (g_store (g_store (g_store (g_store (g_store (g_self _ _) _) _) _) _) _) _) _
   have GU := hide GU; have EU := hU.symm; clear F hU; have v0 := F9.obj.cell 0 rfl; have v1 := F9.obj.cell 1 rfl; have v2 := F9.obj.cell 2 rfl; have v3 := F9.obj.cell 3 rfl; have v4 := F9.obj.cell 4 rfl; have v5 := F9.obj.cell 5 rfl; have v6 := F9.obj.cell 6 rfl; have F := hide F9; clear F9
   go_wp2_with (refine bodyPost_ret (by simp [results, Try.results11, go_sem, v0, v1, v2, v3, v4, v5, v6]; try rfl) rfl ?_)
   clear EU; have F := uh F
   exact ⟨⟨x.kind, (31), x.uid, x.flags, x.mod, x.set, x.all⟩, _, rfl, hln, F.row (by decide) (g_based (uh X) (uh LBX)), (uh CU).kept (uh GU) (fun k hk => by have q1_ := Option.some.inj hk; have q2_ := uh CLO; omega), g_new (uh BB) (uh GU) (fun k hk => by have q1_ := Option.some.inj hk; omega)⟩
  ·simp only [show ((4 : Nat) : Int) = 4 from rfl] at hz
   have Mc0_1 := (uh M).cell 0 rfl; have Mc1_1 := (uh M).cell 1 rfl; have Mc2_1 := (uh M).cell 2 rfl; have Mc3_1 := (uh M).cell 3 rfl; have Mc4_1 := (uh M).cell 4 rfl
   have CUS := hide (fun v => (uh CU).kept (g_store (j := 1) (g_self wa16 (some (w4.heap.size))) v) (fun k hk => by have q1_ := Option.some.inj hk; have q2_ := uh CLO; omega))
   have Qfz1_2 := (uh Q).frozen 1; have Qcz1_2 := (uh Q).cell 1 rfl
   obtain ⟨wb47, hst⟩ : ∃ X, X = wa16.setCell ⟨w4.heap.size, 1, none⟩ (.int .i64 (10000)) := ⟨_, rfl⟩
   have X_ : Hid (OwnR w3.heap.size wb47 (.slice aX x.set.length cX) (x.set)) := by show OwnR _ _ _ _; rw [hst]; exact (uh Q).row (j := 1) (by decide) (uh X) _
   have R_ := hide ((uh R).other (j := 1) neRQ (.int .i64 (10000)))
   rw [← hst] at R_
   have Q_ := hide ((uh Q).set 1 (.int .i64 (10000)))
   rw [← hst] at Q_
   have M_ := hide ((uh M).other (j := 1) neQM.symm (.int .i64 (10000)))
   rw [← hst] at M_
   have BB_ := hide (g_setnew (j := 1) (uh BB) loQ (.int .i64 (10000)))
   rw [← hst] at BB_
   have sz7 : Hid (wa16.heap.size ≤ wb47.heap.size) := by show _ ≤ _; rw [hst]; simp
   replace X := X_; clear X_; replace R := R_; clear R_; replace Q := Q_; clear Q_; replace M := M_; clear M_; replace BB := BB_; clear BB_; have Est7 := hst.symm; clear hst; have CU_ := hide (uh CUS (.int .i64 (10000)))
   rw [Est7] at CU_
   clear CU CUS; have CU := CU_; clear CU_; have Qc0_3 := (uh Q).cell 0 rfl; have Qc1_3 := (uh Q).cell 1 rfl; have Qc2_3 := (uh Q).cell 2 rfl; have Qc3_3 := (uh Q).cell 3 rfl; have Qc4_3 := (uh Q).cell 4 rfl; have Qc5_3 := (uh Q).cell 5 rfl; have Qc6_3 := (uh Q).cell 6 rfl; have Rf0 := (uh R).frozen 0; have Rf1 := (uh R).frozen 1; have Rf2 := (uh R).frozen 2; have Rf3 := (uh R).frozen 3; have Rf4 := (uh R).frozen 4; have Rf5 := (uh R).frozen 5; have Rf6 := (uh R).frozen 6; have Re0 := (uh R).cell 0 rfl; have Re1 := (uh R).cell 1 rfl; have Re2 := (uh R).cell 2 rfl; have Re3 := (uh R).cell 3 rfl; have Re4 := (uh R).cell 4 rfl; have Re5 := (uh R).cell 5 rfl; have Re6 := (uh R).cell 6 rfl; have F := hide (fill7 (uh R) (.int .i64 x.kind) (.int .i64 (10000)) (.int .i64 x.uid) (.int .i64 x.flags) (.int .i64 x.mod) (.slice aX x.set.length cX) (.bool x.all))
   obtain ⟨U, hU⟩ : ∃ U, U = (((((((wb47.setCell ⟨w.heap.size, 0, none⟩ (.int .i64 x.kind)).setCell ⟨w.heap.size, 1, none⟩ (.int .i64 (10000))).setCell ⟨w.heap.size, 2, none⟩ (.int .i64 x.uid)).setCell ⟨w.heap.size, 3, none⟩ (.int .i64 x.flags)).setCell ⟨w.heap.size, 4, none⟩ (.int .i64 x.mod)).setCell ⟨w.heap.size, 5, none⟩ (.slice aX x.set.length cX)).setCell ⟨w.heap.size, 6, none⟩ (.bool x.all)) := ⟨_, rfl⟩
   have F9 := uh F
   rw [← hU] at F9
   have GU : wb47.grownBy U (some (w.heap.size)) := by rw [hU]; exact g_store (g_store (g_store (g_store (g_store (g_store (g_store (g_self _ _) _) _) _) _) _) _) _
   have GU := hide GU; have EU := hU.symm; clear F hU; have v0 := F9.obj.cell 0 rfl; have v1 := F9.obj.cell 1 rfl; have v2 := F9.obj.cell 2 rfl; have v3 := F9.obj.cell 3 rfl; have v4 := F9.obj.cell 4 rfl; have v5 := F9.obj.cell 5 rfl; have v6 := F9.obj.cell 6 rfl; have F := hide F9; clear F9
   go_wp2_with (refine bodyPost_ret (by simp [results, Try.results11, go_sem, v0, v1, v2, v3, v4, v5, v6]; try rfl) rfl ?_)
   clear EU; have F := uh F
   exact ⟨⟨x.kind, (10000), x.uid, x.flags, x.mod, x.set, x.all⟩, _, rfl, hln, F.row (by decide) (g_based (uh X) (uh LBX)), (uh CU).kept (uh GU) (fun k hk => by have q1_ := Option.some.inj hk; have q2_ := uh CLO; omega), g_new (uh BB) (uh GU) (fun k hk => by have q1_ := Option.some.inj hk; omega)⟩
 ·simp only [show ((2 : Nat) : Int) = 2 from rfl]
  have CUS := hide (fun v => (uh CU).kept (g_store (j := 2) (g_self w5 (some (w4.heap.size))) v) (fun k hk => by have q1_ := Option.some.inj hk; have q2_ := uh CLO; omega))
  have Qfz2_1 := (uh Q).frozen 2; have Qcz2_1 := (uh Q).cell 2 rfl
  obtain ⟨wa26, hst⟩ : ∃ X, X = w5.setCell ⟨w4.heap.size, 2, none⟩ (.int .i64 (y : Int)) := ⟨_, rfl⟩
  have X_ : Hid (OwnR w3.heap.size wa26 (.slice aX x.set.length cX) (x.set)) := by show OwnR _ _ _ _; rw [hst]; exact (uh Q).row (j := 2) (by decide) (uh X) _
  have R_ := hide ((uh R).other (j := 2) neRQ (.int .i64 (y : Int)))
  rw [← hst] at R_
  have Q_ := hide ((uh Q).set 2 (.int .i64 (y : Int)))
  rw [← hst] at Q_
  have BB_ := hide (g_setnew (j := 2) (uh BB) loQ (.int .i64 (y : Int)))
  rw [← hst] at BB_
  have sz6 : Hid (w5.heap.size ≤ wa26.heap.size) := by show _ ≤ _; rw [hst]; simp
  replace X := X_; clear X_; replace R := R_; clear R_; replace Q := Q_; clear Q_; replace BB := BB_; clear BB_; have Est6 := hst.symm; clear hst; have CU_ := hide (uh CUS (.int .i64 (y : Int)))
  rw [Est6] at CU_
  clear CU CUS; have CU := CU_; clear CU_; have Qc0_2 := (uh Q).cell 0 rfl; have Qc1_2 := (uh Q).cell 1 rfl; have Qc2_2 := (uh Q).cell 2 rfl; have Qc3_2 := (uh Q).cell 3 rfl; have Qc4_2 := (uh Q).cell 4 rfl; have Qc5_2 := (uh Q).cell 5 rfl; have Qc6_2 := (uh Q).cell 6 rfl; have Rf0 := (uh R).frozen 0; have Rf1 := (uh R).frozen 1; have Rf2 := (uh R).frozen 2; have Rf3 := (uh R).frozen 3; have Rf4 := (uh R).frozen 4; have Rf5 := (uh R).frozen 5; have Rf6 := (uh R).frozen 6; have Re0 := (uh R).cell 0 rfl; have Re1 := (uh R).cell 1 rfl; have Re2 := (uh R).cell 2 rfl; have Re3 := (uh R).cell 3 rfl; have Re4 := (uh R).cell 4 rfl; have Re5 := (uh R).cell 5 rfl; have Re6 := (uh R).cell 6 rfl; have F := hide (fill7 (uh R) (.int .i64 x.kind) (.int .i64 x.num) (.int .i64 (y : Int)) (.int .i64 x.flags) (.int .i64 x.mod) (.slice aX x.set.length cX) (.bool x.all))
  obtain ⟨U, hU⟩ : ∃ U, U = (((((((wa26.setCell ⟨w.heap.size, 0, none⟩ (.int .i64 x.kind)).setCell ⟨w.heap.size, 1, none⟩ (.int .i64 x.num)).setCell ⟨w.heap.size, 2, none⟩ (.int .i64 (y : Int))).setCell ⟨w.heap.size, 3, none⟩ (.int .i64 x.flags)).setCell ⟨w.heap.size, 4, none⟩ (.int .i64 x.mod)).setCell ⟨w.heap.size, 5, none⟩ (.slice aX x.set.length cX)).setCell ⟨w.heap.size, 6, none⟩ (.bool x.all)) := ⟨_, rfl⟩
  have F9 := uh F
  rw [← hU] at F9
  have GU : wa26.grownBy U (some (w.heap.size)) := by rw [hU]; exact g_store (g_store (g_store (g_store (g_store (g_store (g_store (g_self _ _) _) _) _) _) _) _) _
  have GU := hide GU; have EU := hU.symm; clear F hU; have v0 := F9.obj.cell 0 rfl; have v1 := F9.obj.cell 1 rfl; have v2 := F9.obj.cell 2 rfl; have v3 := F9.obj.cell 3 rfl; have v4 := F9.obj.cell 4 rfl; have v5 := F9.obj.cell 5 rfl; have v6 := F9.obj.cell 6 rfl; have F := hide F9; clear F9
  go_wp2_with (refine bodyPost_ret (by simp [results, Try.results11, go_sem, v0, v1, v2, v3, v4, v5, v6]; try rfl) rfl ?_)
  clear EU; have F := uh F
  exact ⟨⟨x.kind, x.num, (y : Int), x.flags, x.mod, x.set, x.all⟩, _, rfl, hln, F.row (by decide) (g_based (uh X) (uh LBX)), (uh CU).kept (uh GU) (fun k hk => by have q1_ := Option.some.inj hk; have q2_ := uh CLO; omega), g_new (uh BB) (uh GU) (fun k hk => by have q1_ := Option.some.inj hk; omega)⟩
 ·simp only [show ((3 : Nat) : Int) = 3 from rfl]
  have CUS := hide (fun v => (uh CU).kept (g_store (j := 6) (g_self w5 (some (w4.heap.size))) v) (fun k hk => by have q1_ := Option.some.inj hk; have q2_ := uh CLO; omega))
  have Qfz6_1 := (uh Q).frozen 6; have Qcz6_1 := (uh Q).cell 6 rfl
  obtain ⟨wa36, hst⟩ : ∃ X, X = w5.setCell ⟨w4.heap.size, 6, none⟩ (.bool true) := ⟨_, rfl⟩
  have X_ : Hid (OwnR w3.heap.size wa36 (.slice aX x.set.length cX) (x.set)) := by show OwnR _ _ _ _; rw [hst]; exact (uh Q).row (j := 6) (by decide) (uh X) _
  have R_ := hide ((uh R).other (j := 6) neRQ (.bool true))
  rw [← hst] at R_
  have Q_ := hide ((uh Q).set 6 (.bool true))
  rw [← hst] at Q_
  have BB_ := hide (g_setnew (j := 6) (uh BB) loQ (.bool true))
  rw [← hst] at BB_
  have sz6 : Hid (w5.heap.size ≤ wa36.heap.size) := by show _ ≤ _; rw [hst]; simp
  replace X := X_; clear X_; replace R := R_; clear R_; replace Q := Q_; clear Q_; replace BB := BB_; clear BB_; have Est6 := hst.symm; clear hst; have CU_ := hide (uh CUS (.bool true))
  rw [Est6] at CU_
  clear CU CUS; have CU := CU_; clear CU_; have Qc0_2 := (uh Q).cell 0 rfl; have Qc1_2 := (uh Q).cell 1 rfl; have Qc2_2 := (uh Q).cell 2 rfl; have Qc3_2 := (uh Q).cell 3 rfl; have Qc4_2 := (uh Q).cell 4 rfl; have Qc5_2 := (uh Q).cell 5 rfl; have Qc6_2 := (uh Q).cell 6 rfl; have Rf0 := (uh R).frozen 0; have Rf1 := (uh R).frozen 1; have Rf2 := (uh R).frozen 2; have Rf3 := (uh R).frozen 3; have Rf4 := (uh R).frozen 4; have Rf5 := (uh R).frozen 5; have Rf6 := (uh R).frozen 6; have Re0 := (uh R).cell 0 rfl; have Re1 := (uh R).cell 1 rfl; have Re2 := (uh R).cell 2 rfl; have Re3 := (uh R).cell 3 rfl; have Re4 := (uh R).cell 4 rfl; have Re5 := (uh R).cell 5 rfl; have Re6 := (uh R).cell 6 rfl; have F := hide (fill7 (uh R) (.int .i64 x.kind) (.int .i64 x.num) (.int .i64 x.uid) (.int .i64 x.flags) (.int .i64 x.mod) (.slice aX x.set.length cX) (.bool true))
  obtain ⟨U, hU⟩ : ∃ U, U = (((((((wa36.setCell ⟨w.heap.size, 0, none⟩ (.int .i64 x.kind)).setCell ⟨w.heap.size, 1, none⟩ (.int .i64 x.num)).setCell ⟨w.heap.size, 2, none⟩ (.int .i64 x.uid)).setCell ⟨w.heap.size, 3, none⟩ (.int .i64 x.flags)).setCell ⟨w.heap.size, 4, none⟩ (.int .i64 x.mod)).setCell ⟨w.heap.size, 5, none⟩ (.slice aX x.set.length cX)).setCell ⟨w.heap.size, 6, none⟩ (.bool true)) := ⟨_, rfl⟩
  have F9 := uh F
  rw [← hU] at F9
  have GU : wa36.grownBy U (some (w.heap.size)) := by rw [hU]; exact g_store (g_store (g_store (g_store (g_store (g_store (g_store (g_self _ _) _) _) _) _) _) _) _
  have GU := hide GU; have EU := hU.symm; clear F hU; have v0 := F9.obj.cell 0 rfl; have v1 := F9.obj.cell 1 rfl; have v2 := F9.obj.cell 2 rfl; have v3 := F9.obj.cell 3 rfl; have v4 := F9.obj.cell 4 rfl; have v5 := F9.obj.cell 5 rfl; have v6 := F9.obj.cell 6 rfl; have F := hide F9; clear F9
  go_wp2_with (refine bodyPost_ret (by simp [results, Try.results11, go_sem, v0, v1, v2, v3, v4, v5, v6]; try rfl) rfl ?_)
  clear EU; have F := uh F
  exact ⟨⟨x.kind, x.num, x.uid, x.flags, x.mod, x.set, true⟩, _, rfl, hln, F.row (by decide) (g_based (uh X) (uh LBX)), (uh CU).kept (uh GU) (fun k hk => by have q1_ := Option.some.inj hk; have q2_ := uh CLO; omega), g_new (uh BB) (uh GU) (fun k hk => by have q1_ := Option.some.inj hk; omega)⟩
 ·simp only [show ((4 : Nat) : Int) = 4 from rfl]
  go_wp2_with fail; clear EQ
  refine (l05Any_any B c _ (uh CU)).mono ?_
  rintro e wa46 ⟨vS, sS, rfl, hl41, hSS⟩
  obtain ⟨aS, cS, rfl⟩ := g_shape hSS.own
  have oS := hide hSS.own; have hc := hSS.cur; have hg := hSS.grown
  have LBS : Hid (w.heap.size ≤ w5.heap.size) := (uh BB).size
  clear hSS
  replace R := hide ((uh R).kept hg (fun e => by have q1_ := Option.some.inj e; omega))
  replace Q := hide ((uh Q).kept hg (fun e => by have q1_ := Option.some.inj e; omega))
  replace X : Hid (OwnR w3.heap.size wa46 (.slice aX x.set.length cX) (x.set)) := g_aside (uh X) hg (fun z hz hz2 => by have q1_ := Option.some.inj hz; have q2_ := (World.ownsRow.lt (uh X) z hz2).1; have q3_ := uh LBX; omega)
  have sz6 := hide (hg.size); replace BB := hide (g_join (uh BB) hg); clear CU; have CU := hide hc; clear hg hc; have S := oS; clear oS
  have CUS := hide (fun v => (uh CU).kept (g_store (j := 5) (g_self wa46 (some (w4.heap.size))) v) (fun k hk => by have q1_ := Option.some.inj hk; have q2_ := uh CLO; omega))
  have Qfz5_1 := (uh Q).frozen 5; have Qcz5_1 := (uh Q).cell 5 rfl
  obtain ⟨wa47, hst⟩ : ∃ X, X = wa46.setCell ⟨w4.heap.size, 5, none⟩ (.slice aS sS.length cS) := ⟨_, rfl⟩
  have X_ : Hid (OwnR w3.heap.size wa47 (.slice aX x.set.length cX) (x.set)) := by show OwnR _ _ _ _; rw [hst]; exact (uh Q).row (j := 5) (by decide) (uh X) _
  have S_ : Hid (OwnR w5.heap.size wa47 (.slice aS sS.length cS) (sS)) := by show OwnR _ _ _ _; rw [hst]; exact (uh Q).row (j := 5) (by decide) (uh S) _
  have R_ := hide ((uh R).other (j := 5) neRQ (.slice aS sS.length cS))
  rw [← hst] at R_
  have Q_ := hide ((uh Q).set 5 (.slice aS sS.length cS))
  rw [← hst] at Q_
  have BB_ := hide (g_setnew (j := 5) (uh BB) loQ (.slice aS sS.length cS))
  rw [← hst] at BB_
  have sz7 : Hid (wa46.heap.size ≤ wa47.heap.size) := by show _ ≤ _; rw [hst]; simp
  replace X := X_; clear X_; replace S := S_; clear S_; replace R := R_; clear R_; replace Q := Q_; clear Q_; replace BB := BB_; clear BB_; have Est7 := hst.symm; clear hst; have CU_ := hide (uh CUS (.slice aS sS.length cS))
  rw [Est7] at CU_
  clear CU CUS; have CU := CU_; clear CU_; have Qc0_2 := (uh Q).cell 0 rfl; have Qc1_2 := (uh Q).cell 1 rfl; have Qc2_2 := (uh Q).cell 2 rfl; have Qc3_2 := (uh Q).cell 3 rfl; have Qc4_2 := (uh Q).cell 4 rfl; have Qc5_2 := (uh Q).cell 5 rfl; have Qc6_2 := (uh Q).cell 6 rfl; have Rf0 := (uh R).frozen 0; have Rf1 := (uh R).frozen 1; have Rf2 := (uh R).frozen 2; have Rf3 := (uh R).frozen 3; have Rf4 := (uh R).frozen 4; have Rf5 := (uh R).frozen 5; have Rf6 := (uh R).frozen 6; have Re0 := (uh R).cell 0 rfl; have Re1 := (uh R).cell 1 rfl; have Re2 := (uh R).cell 2 rfl; have Re3 := (uh R).cell 3 rfl; have Re4 := (uh R).cell 4 rfl; have Re5 := (uh R).cell 5 rfl; have Re6 := (uh R).cell 6 rfl; have F := hide (fill7 (uh R) (.int .i64 x.kind) (.int .i64 x.num) (.int .i64 x.uid) (.int .i64 x.flags) (.int .i64 x.mod) (.slice aS sS.length cS) (.bool x.all))
  obtain ⟨U, hU⟩ : ∃ U, U = (((((((wa47.setCell ⟨w.heap.size, 0, none⟩ (.int .i64 x.kind)).setCell ⟨w.heap.size, 1, none⟩ (.int .i64 x.num)).setCell ⟨w.heap.size, 2, none⟩ (.int .i64 x.uid)).setCell ⟨w.heap.size, 3, none⟩ (.int .i64 x.flags)).setCell ⟨w.heap.size, 4, none⟩ (.int .i64 x.mod)).setCell ⟨w.heap.size, 5, none⟩ (.slice aS sS.length cS)).setCell ⟨w.heap.size, 6, none⟩ (.bool x.all)) := ⟨_, rfl⟩
  have F9 := uh F
  rw [← hU] at F9
  have GU : wa47.grownBy U (some (w.heap.size)) := by rw [hU]; exact g_store (g_store (g_store (g_store (g_store (g_store (g_store (g_self _ _) _) _) _) _) _) _) _
  have GU := hide GU; have EU := hU.symm; clear F hU; have v0 := F9.obj.cell 0 rfl; have v1 := F9.obj.cell 1 rfl; have v2 := F9.obj.cell 2 rfl; have v3 := F9.obj.cell 3 rfl; have v4 := F9.obj.cell 4 rfl; have v5 := F9.obj.cell 5 rfl; have v6 := F9.obj.cell 6 rfl; have F := hide F9; clear F9
  go_wp2_with (refine bodyPost_ret (by simp [results, Try.results11, go_sem, v0, v1, v2, v3, v4, v5, v6]; try rfl) rfl ?_)
  clear EU; have F := uh F
  exact ⟨⟨x.kind, x.num, x.uid, x.flags, x.mod, sS, x.all⟩, _, rfl, (by show sS.length ≤ 41; omega), F.row (by decide) (g_based (uh S) (uh LBS)), (uh CU).kept (uh GU) (fun k hk => by have q1_ := Option.some.inj hk; have q2_ := uh CLO; omega), g_new (uh BB) (uh GU) (fun k hk => by have q1_ := Option.some.inj hk; omega)⟩
 ·have f0 : ((k : Int) == 0) = false := by simp; omega
  have f1 : ((k : Int) == 1) = false := by simp; omega
  have f2 : ((k : Int) == 2) = false := by simp; omega
  have f3 : ((k : Int) == 3) = false := by simp; omega
  have f4 : ((k : Int) == 4) = false := by simp; omega
  have Qc0_1 := (uh Q).cell 0 rfl; have Qc1_1 := (uh Q).cell 1 rfl; have Qc2_1 := (uh Q).cell 2 rfl; have Qc3_1 := (uh Q).cell 3 rfl; have Qc4_1 := (uh Q).cell 4 rfl; have Qc5_1 := (uh Q).cell 5 rfl; have Qc6_1 := (uh Q).cell 6 rfl; have Rf0 := (uh R).frozen 0; have Rf1 := (uh R).frozen 1; have Rf2 := (uh R).frozen 2; have Rf3 := (uh R).frozen 3; have Rf4 := (uh R).frozen 4; have Rf5 := (uh R).frozen 5; have Rf6 := (uh R).frozen 6; have Re0 := (uh R).cell 0 rfl; have Re1 := (uh R).cell 1 rfl; have Re2 := (uh R).cell 2 rfl; have Re3 := (uh R).cell 3 rfl; have Re4 := (uh R).cell 4 rfl; have Re5 := (uh R).cell 5 rfl; have Re6 := (uh R).cell 6 rfl; have F := hide (fill7 (uh R) (.int .i64 x.kind) (.int .i64 x.num) (.int .i64 x.uid) (.int .i64 x.flags) (.int .i64 x.mod) (.slice aX x.set.length cX) (.bool x.all))
  obtain ⟨U, hU⟩ : ∃ U, U = (((((((w5.setCell ⟨w.heap.size, 0, none⟩ (.int .i64 x.kind)).setCell ⟨w.heap.size, 1, none⟩ (.int .i64 x.num)).setCell ⟨w.heap.size, 2, none⟩ (.int .i64 x.uid)).setCell ⟨w.heap.size, 3, none⟩ (.int .i64 x.flags)).setCell ⟨w.heap.size, 4, none⟩ (.int .i64 x.mod)).setCell ⟨w.heap.size, 5, none⟩ (.slice aX x.set.length cX)).setCell ⟨w.heap.size, 6, none⟩ (.bool x.all)) := ⟨_, rfl⟩
  have F9 := uh F
  rw [← hU] at F9
  have GU : w5.grownBy U (some (w.heap.size)) := by rw [hU]; exact g_store (g_store (g_store (g_store (g_store (g_store (g_store (g_self _ _) _) _) _) _) _) _) _
  have GU := hide GU; have EU := hU.symm; clear F hU; have v0 := F9.obj.cell 0 rfl; have v1 := F9.obj.cell 1 rfl; have v2 := F9.obj.cell 2 rfl; have v3 := F9.obj.cell 3 rfl; have v4 := F9.obj.cell 4 rfl; have v5 := F9.obj.cell 5 rfl; have v6 := F9.obj.cell 6 rfl; have F := hide F9; clear F9
  go_wp2_with (refine bodyPost_ret (by simp [results, Try.results11, go_sem, v0, v1, v2, v3, v4, v5, v6]; try rfl) rfl ?_)
  clear EU; have F := uh F
  exact ⟨⟨x.kind, x.num, x.uid, x.flags, x.mod, x.set, x.all⟩, _, rfl, hln, F.row (by decide) (g_based (uh X) (uh LBX)), (uh CU).kept (uh GU) (fun k hk => by have q1_ := Option.some.inj hk; have q2_ := uh CLO; omega), g_new (uh BB) (uh GU) (fun k hk => by have q1_ := Option.some.inj hk; omega)⟩
end Go.Proofs.Ytgdihceikhkddaa
