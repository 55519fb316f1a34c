/- Lines as values: what the laws' own helpers do to them. Made by gen_line.py. -/
import Derived.Test.YtgdihceikhkddaaDoorRangeMarks
import Derived.Test.YtgdihceikhkddaaDoorBoxA
import Derived.Test.YtgdihceikhkddaaDoorRegA
import Derived.Test.YtgdihceikhkddaaDoorSetA
namespace Go.Proofs.YtgdihceikhkddaaDoor
open Go.RowKit Go.ChangeShapes Go.WideShapes Go.ChangeAt Go.Deep
open Plain
set_option linter.unusedVariables false
set_option linter.unusedSimpArgs false

namespace Plain
structure Ln where
 kind : Int
 num : Int
 uid : Int
 flags : Int
 mod : Int
 set : List Rg
 all : Bool
end Plain
abbrev lnV (x : Ln) (v : Value) : Value := .agg #[.int .i64 x.kind, .int .i64 x.num, .int .i64 x.uid, .int .i64 x.flags, .int .i64 x.mod, v, .bool x.all]
/-- A line that came in. -/
structure ArgLn (B : Nat) (w : World) (a : Option Addr) (x : Ln) : Prop where
 m : x.set.length ≤ maxLen
 set : ArgR B w a x.set
theorem ArgLn.up {w w' : World} {a : Option Addr} {x : Ln} (h : ArgLn w.heap.size w a x) (hb : Below w.heap.size w w') : ArgLn w'.heap.size w' a x := ⟨h.m, h.set.up hb⟩
set_option maxHeartbeats 4000000 in
set_option maxRecDepth 100000 in
theorem toLine_any (x : Ln) (a : Option Addr) (c : Nat) (w : World) (hs : x.set.length ≤ 1048576) (h : ArgLn w.heap.size w a x) :
  Calls Tryd.prog 6 #[.agg #[.int .i64 x.kind, .int .i64 x.num, .int .i64 x.uid, .int .i64 x.flags, .int .i64 x.mod, .slice a x.set.length c, .bool x.all]] w fun e w' => ∃ v, e = .returned (lnV x v) ∧ OwnR w.heap.size w' v x.set ∧ Below w.heap.size w w' := by
 have HA := hide h; have HS := hide hs; clear h hs; have BB := hide (Below.refl w.heap.size w)
 obtain ⟨wt1, hA⟩ : ∃ X, X = w.alloc (.cells ([.int .i64 x.kind, .int .i64 x.num, .int .i64 x.uid, .int .i64 x.flags, .int .i64 x.mod, .slice a x.set.length c, .bool x.all] : List Value).toArray 24) := ⟨_, rfl⟩
 have Ax : HasObj wt1 w.heap.size 24 [.int .i64 x.kind, .int .i64 x.num, .int .i64 x.uid, .int .i64 x.flags, .int .i64 x.mod, .slice a x.set.length c, .bool x.all] := by rw [hA]; exact HasObj.new _ _ _
 have hbn : Below w.heap.size w wt1 := by rw [hA]; exact (Below.refl _ _).alloc (Nat.le_refl _) _
 have loA : w.heap.size ≤ w.heap.size := (uh BB).size
 have EA := hA.symm; clear hA; have sz1 := hide (hbn.size); replace BB := hide (below_y (uh BB) hbn); clear hbn; have A := hide Ax; clear Ax
 obtain ⟨wt2, hR⟩ : ∃ X, X = wt1.alloc (.cells ([.int .i64 0, .int .i64 0, .int .i64 0, .int .i64 0, .int .i64 0, .slice none 0 0, .bool false] : List Value).toArray 30) := ⟨_, rfl⟩
 have Rx : HasObj wt2 wt1.heap.size 30 [.int .i64 0, .int .i64 0, .int .i64 0, .int .i64 0, .int .i64 0, .slice none 0 0, .bool false] := by rw [hR]; exact HasObj.new _ _ _
 have hbn : Below wt1.heap.size wt1 wt2 := by rw [hR]; exact (Below.refl _ _).alloc (Nat.le_refl _) _
 have neAR : w.heap.size ≠ wt1.heap.size := Nat.ne_of_lt (uh A).lt
 have loR : w.heap.size ≤ wt1.heap.size := (uh BB).size
 have ER := hR.symm; clear hR; replace A := hide ((uh A).ups hbn); have sz2 := hide (hbn.size); replace BB := hide (below_y (uh BB) hbn); clear hbn; have R := hide Rx; clear Rx
 obtain ⟨wt3, hO⟩ : ∃ X, X = wt2.alloc (.cells ([.int .i64 0, .int .i64 0, .int .i64 0, .int .i64 0, .int .i64 0, .slice none 0 0, .bool false] : List Value).toArray 30) := ⟨_, rfl⟩
 have Ox : HasObj wt3 wt2.heap.size 30 [.int .i64 0, .int .i64 0, .int .i64 0, .int .i64 0, .int .i64 0, .slice none 0 0, .bool false] := by rw [hO]; exact HasObj.new _ _ _
 have hbn : Below wt2.heap.size wt2 wt3 := by rw [hO]; exact (Below.refl _ _).alloc (Nat.le_refl _) _
 have neAO : w.heap.size ≠ wt2.heap.size := Nat.ne_of_lt (uh A).lt
 have neRO : wt1.heap.size ≠ wt2.heap.size := Nat.ne_of_lt (uh R).lt
 have loO : w.heap.size ≤ wt2.heap.size := (uh BB).size
 have EO := hO.symm; clear hO; replace A := hide ((uh A).ups hbn); replace R := hide ((uh R).ups hbn); have sz3 := hide (hbn.size); replace BB := hide (below_y (uh BB) hbn); clear hbn; have O := hide Ox; clear Ox; have Ac0_1 := (uh A).cell 0 rfl; have Ac1_1 := (uh A).cell 1 rfl; have Ac2_1 := (uh A).cell 2 rfl; have Ac3_1 := (uh A).cell 3 rfl; have Ac4_1 := (uh A).cell 4 rfl; have Ac5_1 := (uh A).cell 5 rfl; have Ac6_1 := (uh A).cell 6 rfl; have Ofz0_2 := (uh O).frozen 0; have Ocz0_2 := (uh O).cell 0 rfl
 obtain ⟨wt4, hst⟩ : ∃ X, X = wt3.setCell ⟨wt2.heap.size, 0, none⟩ (.int .i64 x.kind) := ⟨_, rfl⟩
 have A_ := hide ((uh A).other (j := 0) neAO (.int .i64 x.kind))
 rw [← hst] at A_
 have R_ := hide ((uh R).other (j := 0) neRO (.int .i64 x.kind))
 rw [← hst] at R_
 have O_ := hide ((uh O).set 0 (.int .i64 x.kind))
 rw [← hst] at O_
 have BB_ := hide ((uh BB).setCell (p := ⟨wt2.heap.size, 0, none⟩) (show w.heap.size ≤ wt2.heap.size from loO) (.int .i64 x.kind))
 rw [← hst] at BB_
 have sz4 : Hid (wt3.heap.size ≤ wt4.heap.size) := by show _ ≤ _; rw [hst]; simp
 replace A := A_; clear A_; replace R := R_; clear R_; replace O := O_; clear O_; replace BB := BB_; clear BB_; have Est4 := hst.symm; clear hst; have Ac0_3 := (uh A).cell 0 rfl; have Ac1_3 := (uh A).cell 1 rfl; have Ac2_3 := (uh A).cell 2 rfl; have Ac3_3 := (uh A).cell 3 rfl; have Ac4_3 := (uh A).cell 4 rfl; have Ac5_3 := (uh A).cell 5 rfl; have Ac6_3 := (uh A).cell 6 rfl; have Ofz1_4 := (uh O).frozen 1; have Ocz1_4 := (uh O).cell 1 rfl
 obtain ⟨wt5, hst⟩ : ∃ X, X = wt4.setCell ⟨wt2.heap.size, 1, none⟩ (.int .i64 x.num) := ⟨_, rfl⟩
 have A_ := hide ((uh A).other (j := 1) neAO (.int .i64 x.num))
 rw [← hst] at A_
 have R_ := hide ((uh R).other (j := 1) neRO (.int .i64 x.num))
 rw [← hst] at R_
 have O_ := hide ((uh O).set 1 (.int .i64 x.num))
 rw [← hst] at O_
 have BB_ := hide ((uh BB).setCell (p := ⟨wt2.heap.size, 1, none⟩) (show w.heap.size ≤ wt2.heap.size from loO) (.int .i64 x.num))
 rw [← hst] at BB_
 have sz5 : Hid (wt4.heap.size ≤ wt5.heap.size) := by show _ ≤ _; rw [hst]; simp
 replace A := A_; clear A_; replace R := R_; clear R_; replace O := O_; clear O_; replace BB := BB_; clear BB_; have Est5 := hst.symm; clear hst; have Ac0_5 := (uh A).cell 0 rfl; have Ac1_5 := (uh A).cell 1 rfl; have Ac2_5 := (uh A).cell 2 rfl; have Ac3_5 := (uh A).cell 3 rfl; have Ac4_5 := (uh A).cell 4 rfl; have Ac5_5 := (uh A).cell 5 rfl; have Ac6_5 := (uh A).cell 6 rfl; have Ofz2_6 := (uh O).frozen 2; have Ocz2_6 := (uh O).cell 2 rfl
 obtain ⟨wt6, hst⟩ : ∃ X, X = wt5.setCell ⟨wt2.heap.size, 2, none⟩ (.int .i64 x.uid) := ⟨_, rfl⟩
 have A_ := hide ((uh A).other (j := 2) neAO (.int .i64 x.uid))
 rw [← hst] at A_
 have R_ := hide ((uh R).other (j := 2) neRO (.int .i64 x.uid))
 rw [← hst] at R_
 have O_ := hide ((uh O).set 2 (.int .i64 x.uid))
 rw [← hst] at O_
 have BB_ := hide ((uh BB).setCell (p := ⟨wt2.heap.size, 2, none⟩) (show w.heap.size ≤ wt2.heap.size from loO) (.int .i64 x.uid))
 rw [← hst] at BB_
 have sz6 : Hid (wt5.heap.size ≤ wt6.heap.size) := by show _ ≤ _; rw [hst]; simp
 replace A := A_; clear A_; replace R := R_; clear R_; replace O := O_; clear O_; replace BB := BB_; clear BB_; have Est6 := hst.symm; clear hst; have Ac0_7 := (uh A).cell 0 rfl; have Ac1_7 := (uh A).cell 1 rfl; have Ac2_7 := (uh A).cell 2 rfl; have Ac3_7 := (uh A).cell 3 rfl; have Ac4_7 := (uh A).cell 4 rfl; have Ac5_7 := (uh A).cell 5 rfl; have Ac6_7 := (uh A).cell 6 rfl; have Ofz3_8 := (uh O).frozen 3; have Ocz3_8 := (uh O).cell 3 rfl
 obtain ⟨wt7, hst⟩ : ∃ X, X = wt6.setCell ⟨wt2.heap.size, 3, none⟩ (.int .i64 x.flags) := ⟨_, rfl⟩
 have A_ := hide ((uh A).other (j := 3) neAO (.int .i64 x.flags))
 rw [← hst] at A_
 have R_ := hide ((uh R).other (j := 3) neRO (.int .i64 x.flags))
 rw [← hst] at R_
 have O_ := hide ((uh O).set 3 (.int .i64 x.flags))
 rw [← hst] at O_
 have BB_ := hide ((uh BB).setCell (p := ⟨wt2.heap.size, 3, none⟩) (show w.heap.size ≤ wt2.heap.size from loO) (.int .i64 x.flags))
 rw [← hst] at BB_
 have sz7 : Hid (wt6.heap.size ≤ wt7.heap.size) := by show _ ≤ _; rw [hst]; simp
 replace A := A_; clear A_; replace R := R_; clear R_; replace O := O_; clear O_; replace BB := BB_; clear BB_; have Est7 := hst.symm; clear hst; have Ac0_9 := (uh A).cell 0 rfl; have Ac1_9 := (uh A).cell 1 rfl; have Ac2_9 := (uh A).cell 2 rfl; have Ac3_9 := (uh A).cell 3 rfl; have Ac4_9 := (uh A).cell 4 rfl; have Ac5_9 := (uh A).cell 5 rfl; have Ac6_9 := (uh A).cell 6 rfl; have Ofz4_10 := (uh O).frozen 4; have Ocz4_10 := (uh O).cell 4 rfl
 obtain ⟨wt8, hst⟩ : ∃ X, X = wt7.setCell ⟨wt2.heap.size, 4, none⟩ (.int .i64 x.mod) := ⟨_, rfl⟩
 have A_ := hide ((uh A).other (j := 4) neAO (.int .i64 x.mod))
 rw [← hst] at A_
 have R_ := hide ((uh R).other (j := 4) neRO (.int .i64 x.mod))
 rw [← hst] at R_
 have O_ := hide ((uh O).set 4 (.int .i64 x.mod))
 rw [← hst] at O_
 have BB_ := hide ((uh BB).setCell (p := ⟨wt2.heap.size, 4, none⟩) (show w.heap.size ≤ wt2.heap.size from loO) (.int .i64 x.mod))
 rw [← hst] at BB_
 have sz8 : Hid (wt7.heap.size ≤ wt8.heap.size) := by show _ ≤ _; rw [hst]; simp
 replace A := A_; clear A_; replace R := R_; clear R_; replace O := O_; clear O_; replace BB := BB_; clear BB_; have Est8 := hst.symm; clear hst; have Ac0_11 := (uh A).cell 0 rfl; have Ac1_11 := (uh A).cell 1 rfl; have Ac2_11 := (uh A).cell 2 rfl; have Ac3_11 := (uh A).cell 3 rfl; have Ac4_11 := (uh A).cell 4 rfl; have Ac5_11 := (uh A).cell 5 rfl; have Ac6_11 := (uh A).cell 6 rfl
 go_enter Tryd.func6, Tryd.ntmps6
 go_wp2_with fail; clear Ac0_1 Ac1_1 Ac2_1 Ac3_1 Ac4_1 Ac5_1 Ac6_1 Ofz0_2 Ocz0_2 Ac0_3 Ac1_3 Ac2_3 Ac3_3 Ac4_3 Ac5_3 Ac6_3 Ofz1_4 Ocz1_4 Ac0_5 Ac1_5 Ac2_5 Ac3_5 Ac4_5 Ac5_5 Ac6_5 Ofz2_6 Ocz2_6 Ac0_7 Ac1_7 Ac2_7 Ac3_7 Ac4_7 Ac5_7 Ac6_7 Ofz3_8 Ocz3_8 Ac0_9 Ac1_9 Ac2_9 Ac3_9 Ac4_9 Ac5_9 Ac6_9 Ofz4_10 Ocz4_10 Ac0_11 Ac1_11 Ac2_11 Ac3_11 Ac4_11 Ac5_11 Ac6_11 EA ER EO Est4 Est5 Est6 Est7 Est8; have LO := hide (uh BB).size
 refine (toRangeS_any a c x.set _ (uh HS) ((uh HA).up (uh BB)).set).mono ?_
 rintro e wt9 ⟨v, rfl, oR, hb⟩
 obtain ⟨ar, cr, rfl⟩ := g_shape oR
 have OR_ : Hid (OwnR w.heap.size wt9 (.slice ar x.set.length cr) x.set) := g_based oR (uh LO)
 clear oR; replace A := hide ((uh A).ups hb); replace R := hide ((uh R).ups hb); replace O := hide ((uh O).ups hb); have sz9 := hide (hb.size); replace BB := hide (below_y (uh BB) hb); clear hb; have OR := OR_; clear OR_; have Ac0_12 := (uh A).cell 0 rfl; have Ac1_12 := (uh A).cell 1 rfl; have Ac2_12 := (uh A).cell 2 rfl; have Ac3_12 := (uh A).cell 3 rfl; have Ac4_12 := (uh A).cell 4 rfl; have Ac5_12 := (uh A).cell 5 rfl; have Ac6_12 := (uh A).cell 6 rfl; have Ofz5_13 := (uh O).frozen 5; have Ocz5_13 := (uh O).cell 5 rfl
 obtain ⟨wt10, hst⟩ : ∃ X, X = wt9.setCell ⟨wt2.heap.size, 5, none⟩ (.slice ar x.set.length cr) := ⟨_, rfl⟩
 have OR_ : Hid (OwnR w.heap.size wt10 (.slice ar x.set.length cr) (x.set)) := by show OwnR _ _ _ _; rw [hst]; exact (uh O).row (j := 5) (by decide) (uh OR) _
 have A_ := hide ((uh A).other (j := 5) neAO (.slice ar x.set.length cr))
 rw [← hst] at A_
 have R_ := hide ((uh R).other (j := 5) neRO (.slice ar x.set.length cr))
 rw [← hst] at R_
 have O_ := hide ((uh O).set 5 (.slice ar x.set.length cr))
 rw [← hst] at O_
 have BB_ := hide ((uh BB).setCell (p := ⟨wt2.heap.size, 5, none⟩) (show w.heap.size ≤ wt2.heap.size from loO) (.slice ar x.set.length cr))
 rw [← hst] at BB_
 have sz10 : Hid (wt9.heap.size ≤ wt10.heap.size) := by show _ ≤ _; rw [hst]; simp
 replace OR := OR_; clear OR_; replace A := A_; clear A_; replace R := R_; clear R_; replace O := O_; clear O_; replace BB := BB_; clear BB_; have Est10 := hst.symm; clear hst; have Ac0_14 := (uh A).cell 0 rfl; have Ac1_14 := (uh A).cell 1 rfl; have Ac2_14 := (uh A).cell 2 rfl; have Ac3_14 := (uh A).cell 3 rfl; have Ac4_14 := (uh A).cell 4 rfl; have Ac5_14 := (uh A).cell 5 rfl; have Ac6_14 := (uh A).cell 6 rfl; have Ofz6_15 := (uh O).frozen 6; have Ocz6_15 := (uh O).cell 6 rfl
 obtain ⟨wt11, hst⟩ : ∃ X, X = wt10.setCell ⟨wt2.heap.size, 6, none⟩ (.bool x.all) := ⟨_, rfl⟩
 have OR_ : Hid (OwnR w.heap.size wt11 (.slice ar x.set.length cr) (x.set)) := by show OwnR _ _ _ _; rw [hst]; exact (uh O).row (j := 6) (by decide) (uh OR) _
 have A_ := hide ((uh A).other (j := 6) neAO (.bool x.all))
 rw [← hst] at A_
 have R_ := hide ((uh R).other (j := 6) neRO (.bool x.all))
 rw [← hst] at R_
 have O_ := hide ((uh O).set 6 (.bool x.all))
 rw [← hst] at O_
 have BB_ := hide ((uh BB).setCell (p := ⟨wt2.heap.size, 6, none⟩) (show w.heap.size ≤ wt2.heap.size from loO) (.bool x.all))
 rw [← hst] at BB_
 have sz11 : Hid (wt10.heap.size ≤ wt11.heap.size) := by show _ ≤ _; rw [hst]; simp
 replace OR := OR_; clear OR_; replace A := A_; clear A_; replace R := R_; clear R_; replace O := O_; clear O_; replace BB := BB_; clear BB_; have Est11 := hst.symm; clear hst; have Ac0_16 := (uh A).cell 0 rfl; have Ac1_16 := (uh A).cell 1 rfl; have Ac2_16 := (uh A).cell 2 rfl; have Ac3_16 := (uh A).cell 3 rfl; have Ac4_16 := (uh A).cell 4 rfl; have Ac5_16 := (uh A).cell 5 rfl; have Ac6_16 := (uh A).cell 6 rfl; have Oc0_17 := (uh O).cell 0 rfl; have Oc1_17 := (uh O).cell 1 rfl; have Oc2_17 := (uh O).cell 2 rfl; have Oc3_17 := (uh O).cell 3 rfl; have Oc4_17 := (uh O).cell 4 rfl; have Oc5_17 := (uh O).cell 5 rfl; have Oc6_17 := (uh O).cell 6 rfl; have Rf0 := (uh R).frozen 0; have Rf1 := (uh R).frozen 1; have Rf2 := (uh R).frozen 2; have Rf3 := (uh R).frozen 3; have Rf4 := (uh R).frozen 4; have Rf5 := (uh R).frozen 5; have Rf6 := (uh R).frozen 6; have Re0 := (uh R).cell 0 rfl; have Re1 := (uh R).cell 1 rfl; have Re2 := (uh R).cell 2 rfl; have Re3 := (uh R).cell 3 rfl; have Re4 := (uh R).cell 4 rfl; have Re5 := (uh R).cell 5 rfl; have Re6 := (uh R).cell 6 rfl; have F := hide (fill7 (uh R) (.int .i64 x.kind) (.int .i64 x.num) (.int .i64 x.uid) (.int .i64 x.flags) (.int .i64 x.mod) (.slice ar x.set.length cr) (.bool x.all))
 obtain ⟨U, hU⟩ : ∃ U, U = (((((((wt11.setCell ⟨wt1.heap.size, 0, none⟩ (.int .i64 x.kind)).setCell ⟨wt1.heap.size, 1, none⟩ (.int .i64 x.num)).setCell ⟨wt1.heap.size, 2, none⟩ (.int .i64 x.uid)).setCell ⟨wt1.heap.size, 3, none⟩ (.int .i64 x.flags)).setCell ⟨wt1.heap.size, 4, none⟩ (.int .i64 x.mod)).setCell ⟨wt1.heap.size, 5, none⟩ (.slice ar x.set.length cr)).setCell ⟨wt1.heap.size, 6, none⟩ (.bool x.all)) := ⟨_, rfl⟩
 have F9 := uh F
 rw [← hU] at F9
 have EU := hU.symm; clear F hU; have v0 := F9.obj.cell 0 rfl; have v1 := F9.obj.cell 1 rfl; have v2 := F9.obj.cell 2 rfl; have v3 := F9.obj.cell 3 rfl; have v4 := F9.obj.cell 4 rfl; have v5 := F9.obj.cell 5 rfl; have v6 := F9.obj.cell 6 rfl; have F := hide F9; clear F9
 go_wp2_with (refine bodyPost_ret (by simp [results, Tryd.results6, go_sem, v0, v1, v2, v3, v4, v5, v6]; try rfl) rfl ?_)
 clear EU; have F := uh F
 exact ⟨_, rfl, F.row (by decide) (uh OR), F.below loR (uh BB)⟩
set_option maxHeartbeats 4000000 in
set_option maxRecDepth 100000 in
theorem szLine_any (x : Ln) (a : Option Addr) (c M : Nat) (m0 : Int) (w : World) (h0 : m0 = (M : Int)) (hM : M ≤ 1048576) (hm : x.set.length ≤ maxLen) :
  Calls Tryd.prog 4 #[.agg #[.int .i64 x.kind, .int .i64 x.num, .int .i64 x.uid, .int .i64 x.flags, .int .i64 x.mod, .slice a x.set.length c, .bool x.all], .int .i64 m0] w fun e w' => (∃ m : Int, e = .returned (.int .i64 m) ∧ (m = -1 ∨ ∃ q : Nat, m = (q : Int) ∧ q ≤ 1048576 ∧ x.set.length ≤ 1048576)) ∧ Below w.heap.size w w' := by
 subst h0
 have HR := hide (fun W => szRangeS_any a c x.set.length M W hM hm)
 have HM := hide hM; clear hM hm; have BB := hide (Below.refl w.heap.size w)
 obtain ⟨wz1, hA⟩ : ∃ X, X = w.alloc (.cells ([.int .i64 x.kind, .int .i64 x.num, .int .i64 x.uid, .int .i64 x.flags, .int .i64 x.mod, .slice a x.set.length c, .bool x.all] : List Value).toArray 24) := ⟨_, rfl⟩
 have Ax : HasObj wz1 w.heap.size 24 [.int .i64 x.kind, .int .i64 x.num, .int .i64 x.uid, .int .i64 x.flags, .int .i64 x.mod, .slice a x.set.length c, .bool x.all] := by rw [hA]; exact HasObj.new _ _ _
 have hbn : Below w.heap.size w wz1 := by rw [hA]; exact (Below.refl _ _).alloc (Nat.le_refl _) _
 have loA : w.heap.size ≤ w.heap.size := (uh BB).size
 have EA := hA.symm; clear hA; have sz1 := hide (hbn.size); replace BB := hide (below_y (uh BB) hbn); clear hbn; have A := hide Ax; clear Ax; have Ac0_1 := (uh A).cell 0 rfl; have Ac1_1 := (uh A).cell 1 rfl; have Ac2_1 := (uh A).cell 2 rfl; have Ac3_1 := (uh A).cell 3 rfl; have Ac4_1 := (uh A).cell 4 rfl; have Ac5_1 := (uh A).cell 5 rfl; have Ac6_1 := (uh A).cell 6 rfl
 go_enter Tryd.func4, Tryd.ntmps4
 go_wp2_with fail; clear Ac0_1 Ac1_1 Ac2_1 Ac3_1 Ac4_1 Ac5_1 Ac6_1 EA
 refine (uh HR _).mono ?_
 rintro e w1 ⟨⟨m, rfl, hmm⟩, hw⟩
 subst w1
 clear HR
 rcases hmm with rfl | ⟨q, rfl, hq, hs⟩
 ·go_wp2
  go_ret
  exact ⟨⟨_, rfl, .inl rfl⟩, uh BB⟩
 ·have i2 : ¬ (q : Int) < 0 := by omega
  go_wp2
  go_ret
  exact ⟨⟨_, rfl, .inr ⟨q, rfl, hq, Nat.le_trans hs (uh HM)⟩⟩, uh BB⟩
set_option maxHeartbeats 4000000 in
set_option maxRecDepth 100000 in
theorem eqLine_same (x : Ln) (v1 v2 : Value) (B1 B2 : Nat) (w : World) (hs : x.set.length ≤ 1048576) (h1 : OwnR B1 w v1 x.set) (h2 : OwnR B2 w v2 x.set) :
  Calls Tryd.prog 8 #[lnV x v1, lnV x v2] w fun e w' => e = .returned (.bool true) ∧ Below w.heap.size w w' := by
 obtain ⟨r1, c1, rfl⟩ := g_shape h1
 obtain ⟨r2, c2, rfl⟩ := g_shape h2
 have O1 := hide h1; have O2 := hide h2; clear h1 h2; have BB := hide (Below.refl w.heap.size w)
 obtain ⟨wq1, hA⟩ : ∃ X, X = w.alloc (.cells ([.int .i64 x.kind, .int .i64 x.num, .int .i64 x.uid, .int .i64 x.flags, .int .i64 x.mod, .slice r1 x.set.length c1, .bool x.all] : List Value).toArray 30) := ⟨_, rfl⟩
 have Ax : HasObj wq1 w.heap.size 30 [.int .i64 x.kind, .int .i64 x.num, .int .i64 x.uid, .int .i64 x.flags, .int .i64 x.mod, .slice r1 x.set.length c1, .bool x.all] := by rw [hA]; exact HasObj.new _ _ _
 have hbn : Below w.heap.size w wq1 := by rw [hA]; exact (Below.refl _ _).alloc (Nat.le_refl _) _
 have loA : w.heap.size ≤ w.heap.size := (uh BB).size
 have EA := hA.symm; clear hA; replace O1 := hide ((uh O1).up hbn); replace O2 := hide ((uh O2).up hbn); have sz1 := hide (hbn.size); replace BB := hide (below_y (uh BB) hbn); clear hbn; have A := hide Ax; clear Ax
 obtain ⟨wq2, hD⟩ : ∃ X, X = wq1.alloc (.cells ([.int .i64 x.kind, .int .i64 x.num, .int .i64 x.uid, .int .i64 x.flags, .int .i64 x.mod, .slice r2 x.set.length c2, .bool x.all] : List Value).toArray 30) := ⟨_, rfl⟩
 have Dx : HasObj wq2 wq1.heap.size 30 [.int .i64 x.kind, .int .i64 x.num, .int .i64 x.uid, .int .i64 x.flags, .int .i64 x.mod, .slice r2 x.set.length c2, .bool x.all] := by rw [hD]; exact HasObj.new _ _ _
 have hbn : Below wq1.heap.size wq1 wq2 := by rw [hD]; exact (Below.refl _ _).alloc (Nat.le_refl _) _
 have neAD : w.heap.size ≠ wq1.heap.size := Nat.ne_of_lt (uh A).lt
 have loD : w.heap.size ≤ wq1.heap.size := (uh BB).size
 have ED := hD.symm; clear hD; replace A := hide ((uh A).ups hbn); replace O1 := hide ((uh O1).up hbn); replace O2 := hide ((uh O2).up hbn); have sz2 := hide (hbn.size); replace BB := hide (below_y (uh BB) hbn); clear hbn; have D := hide Dx; clear Dx; have Ac0_1 := (uh A).cell 0 rfl; have Ac1_1 := (uh A).cell 1 rfl; have Ac2_1 := (uh A).cell 2 rfl; have Ac3_1 := (uh A).cell 3 rfl; have Ac4_1 := (uh A).cell 4 rfl; have Ac5_1 := (uh A).cell 5 rfl; have Ac6_1 := (uh A).cell 6 rfl; have Dc0_2 := (uh D).cell 0 rfl; have Dc1_2 := (uh D).cell 1 rfl; have Dc2_2 := (uh D).cell 2 rfl; have Dc3_2 := (uh D).cell 3 rfl; have Dc4_2 := (uh D).cell 4 rfl; have Dc5_2 := (uh D).cell 5 rfl; have Dc6_2 := (uh D).cell 6 rfl
 go_enter Tryd.func8, Tryd.ntmps8
 go_wp2_with fail; clear Ac0_1 Ac1_1 Ac2_1 Ac3_1 Ac4_1 Ac5_1 Ac6_1 Dc0_2 Dc1_2 Dc2_2 Dc3_2 Dc4_2 Dc5_2 Dc6_2 EA ED
 refine (eqRangeS_same x.set _ _ _ _ _ hs (uh O1) (uh O2)).mono ?_
 rintro e wq3 ⟨rfl, hb⟩
 replace A := hide ((uh A).ups hb); replace D := hide ((uh D).ups hb); replace O1 := hide ((uh O1).up hb); replace O2 := hide ((uh O2).up hb); have sz3 := hide (hb.size); replace BB := hide (below_y (uh BB) hb); clear hb; have Ac0_3 := (uh A).cell 0 rfl; have Ac1_3 := (uh A).cell 1 rfl; have Ac2_3 := (uh A).cell 2 rfl; have Ac3_3 := (uh A).cell 3 rfl; have Ac4_3 := (uh A).cell 4 rfl; have Ac5_3 := (uh A).cell 5 rfl; have Ac6_3 := (uh A).cell 6 rfl; have Dc0_4 := (uh D).cell 0 rfl; have Dc1_4 := (uh D).cell 1 rfl; have Dc2_4 := (uh D).cell 2 rfl; have Dc3_4 := (uh D).cell 3 rfl; have Dc4_4 := (uh D).cell 4 rfl; have Dc5_4 := (uh D).cell 5 rfl; have Dc6_4 := (uh D).cell 6 rfl
 go_wp2
 go_ret
 exact ⟨rfl, uh BB⟩
theorem Tryd.cellsLLine : Tryd.prog.cellsOf 24 = 7 := by kernel_rfl
theorem Tryd.cellsLnRangeS : Tryd.prog.cellsOf 22 = 1 := by kernel_rfl
theorem Tryd.cellsLnInt : Tryd.prog.cellsOf 3 = 1 := by kernel_rfl
theorem Tryd.cellsLnBool : Tryd.prog.cellsOf 4 = 1 := by kernel_rfl
set_option maxRecDepth 100000 in
theorem open_rgl {H : Type} {enc : TypeId × Value → H} {W : World} {base : Nat} {sp : Nat → Bool} {held : Bool} {fuel : Nat} {cs : List Value} {x : DataW H × List MemPlace}
  (hf : DataW.trod enc Tryd.prog W base sp held fuel 22 cs = some x) :
  ∃ (a : Option Addr) (cap : Nat) (l : List Rg), cs = [.slice a l.length cap] ∧ l.length ≤ maxLen ∧ ArgR W.heap.size W a l := by
 rcases open_slice Tryd.underlying22 hf with ⟨hcs, _⟩ | ⟨a, vn, cap, m, n, D, Pl, hcs, _, hlc, hcm, hm, _, hel⟩
 ·exact ⟨none, 0, [], hcs, Nat.zero_le _, fun i f hf => by simp at hf⟩
 ·subst hcs
  have hm' : vn ≤ m := by rw [hm]; split <;> omega
  have each : ∀ i, i < vn → ∃ f : Rg, W.cell? (a.add (i * 2)) = some (.int .i64 f.lo) ∧ W.cell? ⟨(a.add (i * 2)).block, (a.add (i * 2)).off + 1, none⟩ = some (.int .i64 f.hi) := by
   intro i hi
   obtain ⟨cs', h1, h2⟩ := hel i (by omega)
   rw [Tryd.cellsLRange] at h1
   obtain ⟨_, hlen, hc⟩ := World.cells?_some h1
   obtain ⟨xs, n', _, _, hl', hlen', hfld⟩ := DataW.trod_struct Tryd.underlying51 h2
   match cs', hlen with
   | [u0, u1], _ =>
    have h0 := hfld 0 _ rfl
    have h1' := hfld 1 _ rfl
    match xs, hlen' with
    | [y0, y1], _ =>
     obtain ⟨k0, e0, _, b0⟩ := DataW.trod_int Tryd.underlying3 h0
     obtain ⟨k1, e1, _, b1⟩ := DataW.trod_int Tryd.underlying3 h1'
     simp [Tryd.cellsLnInt] at e0 e1
     subst e0 e1
     have c0 := hc 0 (by simp)
     have c1 := hc 1 (by simp)
     rw [show ∀ y : Addr, y.add 1 = ⟨y.block, y.off + 1, none⟩ from fun y => by simp [Addr.add]] at c1
     refine ⟨⟨k0, k1⟩, ?_, c1⟩
     simpa [Addr.add] using c0
  have inh : Inhabited Rg := ⟨rg0⟩
  obtain ⟨F, hF⟩ := choose_lt (α := Rg) each
  refine ⟨some a, cap, (List.range vn).map F, by simp, by simp; omega, fun i f hf => ?_⟩
  have hi : i < vn := by
   rcases Nat.lt_or_ge i vn with h1 | h1
   ·exact h1
   ·rw [List.getElem?_eq_none (by simpa using h1)] at hf; cases hf
  obtain rfl : F i = f := by simpa [hi] using hf
  obtain ⟨c0, c1⟩ := hF i hi
  refine ⟨a, rfl, ?_, c0, c1⟩
  have := World.block_lt_of_cell? W _ c0
  rwa [g_add] at this
set_option maxRecDepth 100000 in
theorem open_line {H : Type} {enc : TypeId × Value → H} {W : World} {base : Nat} {v : Value} {d : DataW H} {ps : List MemPlace} (hval : Value.okWide Tryd.prog W .any base 24 v)
  (h : DataW.Trod enc Tryd.prog W 0 (fun _ => true) true 24 v d ps) :
  ∃ (x : Ln) (a : Option Addr) (c : Nat), v = .agg #[.int .i64 x.kind, .int .i64 x.num, .int .i64 x.uid, .int .i64 x.flags, .int .i64 x.mod, .slice a x.set.length c, .bool x.all] ∧ ArgLn W.heap.size W a x := by
 obtain ⟨cs, rfl, hsz⟩ := okWide_struct Tryd.underlying24 hval
 obtain ⟨fuel, hf⟩ := h
 obtain ⟨xs, n, _, _, hl, hlen, hfld⟩ := DataW.trod_struct Tryd.underlying24 hf
 have h0 := hfld 0 _ rfl; have h1 := hfld 1 _ rfl; have h2 := hfld 2 _ rfl; have h3 := hfld 3 _ rfl; have h4 := hfld 4 _ rfl; have h5 := hfld 5 _ rfl; have h6 := hfld 6 _ rfl
 rw [Tryd.cellsLLine] at hsz
 obtain ⟨l0⟩ := cs
 match l0, hsz, xs, hlen with
 | [u0, u1, u2, u3, u4, u5, u6], _, [y0, y1, y2, y3, y4, y5, y6], _ =>
  obtain ⟨k0, e0, _, z0⟩ := DataW.trod_int Tryd.underlying3 h0
  obtain ⟨k1, e1, _, z1⟩ := DataW.trod_int Tryd.underlying3 h1
  obtain ⟨k2, e2, _, z2⟩ := DataW.trod_int Tryd.underlying3 h2
  obtain ⟨k3, e3, _, z3⟩ := DataW.trod_int Tryd.underlying3 h3
  obtain ⟨k4, e4, _, z4⟩ := DataW.trod_int Tryd.underlying3 h4
  obtain ⟨a, c, l, e5, m5, A5⟩ := open_rgl h5
  obtain ⟨k6, e6, _⟩ := DataW.trod_bool Tryd.underlying4 h6
  simp [Value.cells, Tryd.cellsLnInt, Tryd.cellsLnBool, Tryd.cellsLnRangeS] at e0 e1 e2 e3 e4 e5 e6
  subst e0 e1 e2 e3 e4 e5 e6
  exact ⟨⟨k0, k1, k2, k3, k4, l, k6⟩, a, c, rfl, ⟨m5, A5⟩⟩
end Go.Proofs.YtgdihceikhkddaaDoor
